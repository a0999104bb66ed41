/- For every input the law ChunkFew returns true and leaves its arguments as they were; the variable that its row lists holds what it is listed with (the card ties it to the program's text). -/
import Derived.Test.YtgppfkbapieneaaDoorCsx15
import Derived.Test.YtgppfkbapieneaaDoorCsx39
import Derived.Test.YtgppfkbapieneaaDoorCards
import Derived.Test.YtgppfkbapieneaaDoorTie
import Derived.WalkKit
import Derived.ProofKit
import Derived.OpenShut
import Derived.ChangeOld
import Derived.Below
import Derived.Carry
import Derived.SizedLaws
import Derived.Deep.DeepHandedRow
import Derived.SevenTiedAt
namespace Go.Proofs.YtgppfkbapieneaaDoor
open Go.RowKit
set_option linter.unusedVariables false
set_option linter.unusedSimpArgs false
theorem info_bool : (Tryd.prog.info? 4).map (fun i => (i.zero, i.size, i.bytes)) = some (some (.bool false), 1, 1) := by kernel_rfl
abbrev bls (ms : List Bool) : Array Value := (ms.map Value.bool).toArray
theorem wpList_makeB {ops : Array Oper} {rest : List Oper} {o : Oper} {ac : Act} {Q : Exit → Act → World → Prop} (w : World) (hgd : o.guard = none) (l c : Operand) (hop : o.op = Op.makeSlice 59 l c)
    (kl kc : IntKind) (N : Nat) (hl : ac.eval l = .int kl (N : Int)) (hc : ac.eval c = .int kc (N : Int)) (hN : N ≤ 1000000)
    (h : wpList Tryd.prog ops Q rest (ac.put o.dst (.slice (some ⟨w.heap.size, 0, none⟩) N N)) (w.alloc (.cells (bls (List.replicate N false)) 4))) :
    wpList Tryd.prog ops Q (o :: rest) ac w := by
  obtain ⟨i0, hi, hz0, hz1, hz2⟩ := info_parts info_bool
  refine wpList_plain hgd fun K hK => ?_
  have hr := run_make (P := Tryd.prog) w 59 4 i0 (.bool false) Tryd.underlying59 hi hz0 kl kc (N : Int) (N : Int) (by omega) (Int.le_refl _) (by rw [hz2]; omega) (by omega)
  rw [Int.toNat_natCast, hz1, Nat.mul_one] at hr
  unfold Oper.wp
  simp [execOp, hop, hl, hc, hr, Result.andThen]
  refine hK _ _ ?_
  have e : madeCells (Value.bool false).cells N = bls (List.replicate N false) := by
    unfold madeCells
    apply Array.ext'
    simp only [Value.cells, Array.toList_map, Array.toList_range, List.map_replicate]
    apply List.ext_getElem
    · simp
    · intro i h1 h2
      simp [Nat.mod_one]
  rw [e]
  exact h
theorem bls_set (ms : List Bool) (i : Nat) : (bls ms).setIfInBounds i (.bool true) = bls (ms.set i true) := by
  apply Array.ext'
  simp
set_option maxRecDepth 100000 in
set_option maxHeartbeats 16000000 in
theorem chunkFew_walk (a : Option Addr) (c : Nat) (l : List Rl) (dim : Int) (w : World) (lc : l.length ≤ c) (cm : c * 136 ≤ 140737488351232 ∧ (a = none → c = 0)) (hrow : RowR w a l) (hT : Top w) : Calls Tryd.prog 7 #[.slice a l.length c, .int .i64 dim] w fun e w' => e = .returned (.bool true) ∧ Below w.heap.size w w' := by
  have KA : Hid (∀ W, Top W → Calls Tryd.prog 13 #[] W fun e w' => e = .returned (.bool true) ∧ Below W.heap.size W w') := alive_ck
  have HT : Hid (Top w) := hT
  obtain ⟨N, hN⟩ : ∃ N, l.length = N := ⟨_, rfl⟩
  have HN : Hid (l.length = N) := hN
  by_cases he : errC l dim = 0
  · have K1 := hidW (cut_ok a c l dim w hT hrow he)
    have hl64 : l.length ≤ 64 := by obtain ⟨d, _, _, h, _⟩ := err_ok he; exact h
    have HL64 : Hid (l.length ≤ 64) := hl64
    rw [hN] at K1 hl64 lc ⊢
    clear hrow hT he cm hN
    go_enter Tryd.func7, Tryd.ntmps7
    go_wp2_with fail
    refine Calls.mono K1.out ?_
    rintro e W2 ⟨g1, c1, ka, kc, sa, sc, vs, L, K, S, rfl, ci, cp, b2⟩
    have HCI : Hid (CutIn W2 w.heap.size g1 c1 ka kc sa sc vs L K S) := ci
    have HCP : Hid (CutP l dim.toNat L K S) := cp
    clear K1 ci cp
    obtain ⟨M, hM⟩ : ∃ M, L.length = M := ⟨_, rfl⟩
    have HM : Hid (L.length = M) := hM
    obtain ⟨Q, hQ⟩ : ∃ Q, S.length = Q := ⟨_, rfl⟩
    have HQ : Hid (S.length = Q) := hQ
    have hMN : M ≤ 2 * N + 1 := by have := HCP.out.few; rw [HN.out, hM] at this; exact this
    have hQM : Q ≤ M := by have := HCP.out.num; rw [hQ, hM] at this; exact this
    rw [hM, hQ]
    clear hM hQ
    obtain ⟨W3, hW3⟩ : ∃ W3, W2.alloc (.cells #[.slice (some ⟨g1, 0, none⟩) M c1, .slice ka M kc, .slice sa Q sc] 27) = W3 := ⟨_, rfl⟩
    have b23 := bel_nw hW3
    have b3 := bel_tr b2 b23
    have HB3 : Hid (Blk W3 W2.heap.size 27 #[.slice (some ⟨g1, 0, none⟩) M c1, .slice ka M kc, .slice sa Q sc]) := blk_nw hW3
    have HCI3 : Hid (CutIn W3 w.heap.size g1 c1 ka kc sa sc vs L K S) := HCI.out.below b23
    have HW3 : Hid (W2.alloc (.cells #[.slice (some ⟨g1, 0, none⟩) M c1, .slice ka M kc, .slice sa Q sc] 27) = W3) := hW3
    have KR : Hid _ := right_ck (some ⟨g1, 0, none⟩) ka sa c1 kc sc L (ints K) (S.map ints) W3 (by have := HM.out; omega) (HCI3.out.rp HCP.out) (HCI3.out.ri HCP.out HL64.out) (HCI3.out.rs HCP.out HL64.out)
    rw [List.length_map, List.length_map, HCP.out.len, HM.out, HQ.out] at KR
    have d0 := HB3.out.cell 0 (.slice (some ⟨g1, 0, none⟩) M c1) rfl
    have d1 := HB3.out.cell 1 (.slice ka M kc) rfl
    have d2 := HB3.out.cell 2 (.slice sa Q sc) rfl
    have hw1 : IntKind.i64.wrap (2 * (N : Int)) = 2 * (N : Int) := by rw [IntKind.wrap_i64]; omega
    have hw2 : IntKind.i64.wrap (2 * (N : Int) + 1) = 2 * (N : Int) + 1 := by rw [IntKind.wrap_i64]; omega
    have hgt : ¬ (2 * (N : Int) + 1) < (M : Int) := by omega
    have hgt' : (M : Int) ≤ 2 * (N : Int) + 1 := by omega
    clear b2 b23
    go_wp2_with fail
    refine Calls.mono KR.out ?_
    rintro e W4 ⟨⟨r, rfl, hr⟩, b34⟩
    have hrt : r = true := hr.2 HCP.out.right
    subst hrt
    have b4 := bel_tr b3 b34
    have HB4 : Hid (Blk W4 W2.heap.size 27 #[.slice (some ⟨g1, 0, none⟩) M c1, .slice ka M kc, .slice sa Q sc]) := HB3.out.kept b34
    have HCI4 : Hid (CutIn W4 w.heap.size g1 c1 ka kc sa sc vs L K S) := HCI3.out.below b34
    clear hr KR d0 d1 d2 b34 b3 hW3
    have d1 := HB4.out.cell 1 (.slice ka M kc) rfl
    have d2 := HB4.out.cell 2 (.slice sa Q sc) rfl
    obtain ⟨W5, hW5⟩ : ∃ W5, W4.alloc (.cells (bls (List.replicate Q false)) 4) = W5 := ⟨_, rfl⟩
    have b45 := bel_nw hW5
    have b5 := bel_tr b4 b45
    have HB5 : Hid (Blk W5 W2.heap.size 27 #[.slice (some ⟨g1, 0, none⟩) M c1, .slice ka M kc, .slice sa Q sc]) := HB4.out.kept b45
    have HRI5 : Hid (OwnI W5 w.heap.size ka kc K) := (HCI4.out.below b45).cls
    have HKl : Hid (K.length ≤ 17592186044416) := by have h1 := HCP.out.len; have h2 := HM.out; show _ ≤ _; omega
    have HM5 : Hid (Blk W5 W4.heap.size 4 (bls (List.replicate Q false))) := blk_nw hW5
    have HGW : Hid (w.heap.size ≤ W4.heap.size) := b4.size
    have d1' := HB5.out.cell 1 (.slice ka M kc) rfl
    go_wp2_with (refine wpList_makeB _ rfl _ _ rfl _ _ Q (by rfl) (by rfl) (by omega) ?_)
    clear d1 d2 b45 b4 hW5
    go_loopw [49] (fun i wr => ∃ (m : Nat) (ms : List Bool), m ≤ M ∧ i = .int .i64 m ∧ Hid (ms.length = Q) ∧ Hid (∀ (j x : Nat), j < m → K[j]? = some x → ms[x]? = some true) ∧ Hid (Blk wr W4.heap.size 4 (bls ms)) ∧ Hid (OwnI wr w.heap.size ka kc K) ∧ Below w.heap.size w wr) (fun i _ => M - (intOf i).toNat)
    case atStart => exact ⟨0, List.replicate Q false, Nat.zero_le _, rfl, by show _ = _; simp, fun j x hj => by omega, HM5, HRI5, b5⟩
    case round =>
      clear d1' b5
      obtain ⟨m, ms, hm, rfl, HML, HMS, HBM, HRI, bw⟩ := hrel
      by_cases hlt : m < M
      · have ik : (m : Int) < (M : Int) := by omega
        have hw3 : IntKind.i64.wrap ((m : Int) + 1) = ((m + 1 : Nat) : Int) := by simp [IntKind.wrap, IntKind.bits, IntKind.signed]; omega
        obtain ⟨x, hx⟩ : ∃ x, K[m]? = some x := ⟨_, List.getElem?_eq_getElem (by rw [HCP.out.len, HM.out]; exact hlt)⟩
        have hxQ : x < Q := by
          have h1 : x ∈ classL (rowL (spns l dim.toNat)) := by rw [← HCP.out.cls]; exact List.mem_of_getElem? hx
          have := class_lt h1
          rw [← HCP.out.set, HQ.out] at this
          exact this
        obtain ⟨b, off, ha, hcs⟩ := (HRI.out.row HKl.out).cells (by rw [List.length_map, HCP.out.len, HM.out]; omega)
        have x0 := hcs m (by rw [List.length_map, HCP.out.len, HM.out]; omega)
        rw [show (ints K).getD m 0 = (x : Int) by simp [hx]] at x0
        have HX : Hid (K[m]? = some x) := hx
        subst ha
        clear hcs hx
        have h0 : ¬ (x : Int) < 0 := by omega
        have h1 : ¬ (Q : Int) ≤ (x : Int) := by omega
        obtain ⟨v, hv⟩ : ∃ v, ms[x]? = some v := ⟨_, List.getElem?_eq_getElem (by rw [HML.out]; exact hxQ)⟩
        have m0 := HBM.out.cell x (.bool v) (by simp [hv])
        have f0 := HBM.out.frozen x
        have HMS' : Hid (∀ (j y : Nat), j < m + 1 → K[j]? = some y → (ms.set x true)[y]? = some true) := fun j y hj hy => by
          by_cases e : y = x
          · subst e
            rw [List.getElem?_set_self (by rw [HML.out]; exact hxQ)]
          · rw [List.getElem?_set_ne (fun h => e h.symm)]
            refine HMS.out j y ?_ hy
            by_cases e2 : j = m
            · subst e2
              rw [HX.out] at hy
              cases hy
              exact absurd rfl e
            · omega
        have HB' : Hid (Blk (wr.setCell ⟨W4.heap.size, x, none⟩ (.bool true)) W4.heap.size 4 (bls (ms.set x true))) := by
          have := HBM.out.put x (.bool true)
          rw [bls_set] at this
          exact this
        have HE : Hid (wr.setCell ⟨W4.heap.size, x, none⟩ (.bool true) = wr.setRow W4.heap.size ((bls ms).setIfInBounds x (.bool true))) := setCell_eq_setRow wr W4.heap.size x _ 4 (0, 0) _ HBM.out
        have bw' : Below w.heap.size w (wr.setCell ⟨W4.heap.size, x, none⟩ (.bool true)) := by
          rw [HE.out]
          exact below_setRow bw HGW.out _
        have HRI' : Hid (OwnI (wr.setCell ⟨W4.heap.size, x, none⟩ (.bool true)) w.heap.size (some ⟨b, off, none⟩) kc K) := by
          show OwnI _ _ _ _ _
          rw [HE.out]
          exact HRI.out.far (grown_setRow _ _ _) (fun y hy e => HRI.out.off HBM.out (by decide) (by rw [hy, e]; rfl))
        go_wp2
        exact ⟨⟨m + 1, ms.set x true, by omega, by first | rfl | (congr 1), by show _ = _; rw [List.length_set]; exact HML.out, HMS', HB', HRI', bw'⟩, by simp only [intOf]; omega⟩
      · have hmM : m = M := by omega
        subst hmM
        have ik : ¬ (m : Int) < (m : Int) := by omega
        have HAL : Hid (∀ i, i < Q → ms[i]? = some true) := fun i hi => by
          have h1 : i ∈ classL (rowL (spns l dim.toNat)) := class_onto (by rw [← HCP.out.set, HQ.out]; exact hi)
          rw [← HCP.out.cls] at h1
          obtain ⟨j, hj⟩ := List.getElem?_of_mem h1
          have := (List.getElem?_eq_some_iff.1 hj).1
          rw [HCP.out.len, HM.out] at this
          exact HMS.out j i this hj
        go_wp2_with fail
        go_loopw [67] (fun i w2 => ∃ (n : Nat), n ≤ Q ∧ i = .int .i64 n ∧ w2 = wr) (fun i _ => Q - (intOf i).toNat)
        case atStart => exact ⟨0, Nat.zero_le _, rfl, rfl⟩
        case round =>
          obtain ⟨n, hn, rfl, rfl⟩ := hrel
          by_cases hlt2 : n < Q
          · have ik2 : (n : Int) < (Q : Int) := by omega
            have m0 := HBM.out.cell n (.bool true) (by simp [HAL.out n hlt2])
            have hw3 : IntKind.i64.wrap ((n : Int) + 1) = ((n + 1 : Nat) : Int) := by simp [IntKind.wrap, IntKind.bits, IntKind.signed]; omega
            go_wp2
            exact ⟨⟨n + 1, by omega, by first | rfl | (congr 1), by trivial⟩, by simp only [intOf]; omega⟩
          · have ik2 : ¬ (n : Int) < (Q : Int) := by omega
            have KA' : Hid _ := KA.out _ (HT.out.below bw)
            go_wp2_with fail
            refine Calls.mono KA'.out ?_
            rintro e W8 ⟨rfl, b8⟩
            have b9 := bel_tr bw b8
            go_wp2
            go_ret
            exact ⟨rfl, b9⟩
  · have K1 := hidW (cut_err a c l dim w hT hrow he)
    rw [hN] at K1 ⊢
    obtain ⟨E, hE⟩ : ∃ E, errC l dim = E := ⟨_, rfl⟩
    rw [hE] at K1 he
    have hne : (E != 0) = true := by simpa using he
    clear hE hrow hT cm lc hN
    go_enter Tryd.func7, Tryd.ntmps7
    go_wp2_with fail
    refine Calls.mono K1.out ?_
    rintro e W2 ⟨rfl, b2⟩
    have b3 : Below w.heap.size w (W2.alloc (.cells zc 27)) := bel_al b2 rfl
    have KA' : Hid _ := KA.out (W2.alloc (.cells zc 27)) (HT.out.below b3)
    go_wp2_with fail
    refine Calls.mono KA'.out ?_
    rintro e W4 ⟨rfl, b34⟩
    have b4 := bel_tr b3 b34
    go_wp2
    go_ret
    exact ⟨rfl, b4⟩
end Go.Proofs.YtgppfkbapieneaaDoor
namespace Go.Proofs.YtgppfkbapieneaaDoor.chunkFew
open Go.ChangeShapes Go.WideShapes Go.ChangeAt Go.RowKit
set_option linter.unusedVariables false
set_option linter.unusedSimpArgs false
theorem own : ownKnob Tryd.prog.godebug = none := by kernel_rfl
theorem laidOut : laidOutB Tryd.prog = true := by kernel_rfl
set_option maxRecDepth 100000 in
theorem contract (H : Type) (enc : TypeId × Value → H) (W : World) (base : Nat) (args : Array Value) (ds gs : List (DataW H)) (before : List MemPlace)
    (hval : ∀ (j : Nat) t v, Tryd.f7.params[j]? = some t → args[j]? = some v → Value.okWide Tryd.prog W .any base t v)
    (hW : DataW.Whole enc Tryd.prog Tryd.f7.params.toList Rows.chunkFewSpec.vars false W args.toList ds gs before)
    (hsz : (DataW.weightsEach Tryd.prog (Tryd.f7.params.toList ++ Rows.chunkFewSpec.plain.varTypes Tryd.prog) (ds ++ gs)).all (· ≤ reachBytes) = true)
    (hL : laidMetH Tryd.prog Rows.chunkFewRow.laid W) (hsh : W.ShapedOpen Tryd.prog) :
    Calls Tryd.prog 7 args W fun e W' => ∃ v, e = .returned v ∧ Rows.chunkFewSpec.post enc Tryd.prog Tryd.f7 false true false false W args v W' := by
  have hW' := hW
  obtain ⟨p, q, hA0, hV, rfl, hfz, hnd⟩ := hW
  have hA : DataW.TrodAll enc Tryd.prog W 0 (fun _ => true) true Tryd.f7.params.toList args.toList ds p := hA0
  rw [Tryd.params7] at hA hval hsz
  obtain ⟨v0, vs0, d0, ds0, p0, q0, hargs, rfl, rfl, h0, r0⟩ := trodAll_cons hA
  obtain ⟨v1, vs1, d1, ds1, p1, q1, rfl, rfl, rfl, h1, r1⟩ := trodAll_cons r0
  obtain ⟨rfl, rfl, rfl⟩ := trodAll_nil r1
  obtain rfl : args = #[v0, v1] := by cases args; simp_all
  obtain ⟨rfl, rfl⟩ := trodVars_none hV
  have lt0 : ∀ x ∈ p0, x.block < W.heap.size := by obtain ⟨m, hm⟩ := h0; exact DataW.trod_lt m _ _ _ hm
  have s0 : ∀ n ∈ d0.weights Tryd.prog 22, n ≤ reachBytes := fun n hn => by simpa using List.all_eq_true.1 hsz n (DataW.weights_mem_each (j := 0) (t := 22) rfl rfl n hn)
  obtain ⟨a0, c0, l0, rfl, lc0, cm0, w0⟩ := open_rules (hval 0 22 v0 rfl rfl) h0 s0
  have lt1 : ∀ x ∈ p1, x.block < W.heap.size := by obtain ⟨m, hm⟩ := h1; exact DataW.trod_lt m _ _ _ hm
  obtain ⟨x1, rfl, rfl, rfl, w1⟩ := open_int Tryd.underlying3 (hval 1 3 v1 rfl rfl) h1
  have hT : Top W := top_of (show laidMet Tryd.prog Rows.chunkFewRow.laid W from hL)
  clear hA0 hval
  refine (chunkFew_walk a0 c0 l0 x1 W lc0 cm0 w0 hT).mono fun e W' ⟨he, bel⟩ => ?_
  subst he
  exact ⟨_, rfl, _, _, _, [], _, [], hW', trodAll_mk1 (shut_bool Tryd.underlying4 _), (trodAll_cons_mk (Below.trod laidOut (by kernel_rfl) (of_decide_eq_true (by kernel_rfl)) h0 bel lt0) (trodAll_cons_mk (Below.trod laidOut (by kernel_rfl) (of_decide_eq_true (by kernel_rfl)) h1 bel lt1) trodAll_mk0)), rfl, bel.frame _, fun h => by cases h⟩
theorem laid_met (os : Os) : laidMet Tryd.prog Rows.chunkFewRow.laid (({ World.holding Tryd.prog os ⟨#[], #[], []⟩ with heap := (World.holding Tryd.prog os ⟨#[], #[], []⟩).heap.modify 0 (layOne (layA Rows.laid_stockade_chunk_greatest)) } : World).forCall (fun _ _ => 0) ⟨#[], #[.slice none 0 0, .int .i64 0], []⟩).memory :=
  laidMet_of_run' 8 (by kernel_rfl) (by kernel_rfl)
theorem reads (os : Os) {H : Type} (enc : TypeId × Value → H) : ∃ places, DataW.whole enc Tryd.prog (({ World.holding Tryd.prog os ⟨#[], #[], []⟩ with heap := (World.holding Tryd.prog os ⟨#[], #[], []⟩).heap.modify 0 (layOne (layA Rows.laid_stockade_chunk_greatest)) } : World).forCall (fun _ _ => 0) ⟨#[], #[.slice none 0 0, .int .i64 0], []⟩).memory Tryd.f7.params.toList Rows.chunkFewSpec.vars false (#[.slice none 0 0, .int .i64 0] : Array Value).toList 8 = some ([.nil, .lit (.int .i64 0)], [], places) :=
  ⟨[], by kernel_rfl⟩
set_option maxRecDepth 100000 in
theorem lifted (os : Os) (started : os.Started) (H : Type) (enc : TypeId × Value → H) (F : Stop.Interp) :
    ReturnsInHanded {} Tryd.checked os 7 .any ((OpenSpec.ofChange Rows.chunkFewSpec).preRow enc Tryd.prog Tryd.f7 Rows.chunkFewRow.domain false Rows.chunkFewRow.laid) (((OpenSpec.ofChange Rows.chunkFewSpec).at F).post enc Tryd.prog Tryd.f7 false true false false) := by
  obtain ⟨places, hx⟩ := reads os enc
  refine returnsInHanded_of_row (C := Tryd.checked) (s := (OpenSpec.ofChange Rows.chunkFewSpec)) own started (by kernel_rfl) Tryd.func7
    (witness_row_at (enc := enc) (C := Tryd.checked) false ({ World.holding Tryd.prog os ⟨#[], #[], []⟩ with heap := (World.holding Tryd.prog os ⟨#[], #[], []⟩).heap.modify 0 (layOne (layA Rows.laid_stockade_chunk_greatest)) } : World) #[.slice none 0 0, .int .i64 0] rfl (by kernel_rfl) (by kernel_rfl) (by kernel_rfl)
      (OpenSpec.preRow_of_cond 8 hx (by kernel_rfl) (fun k hk => by cases hk) (by kernel_rfl) (laid_met os))) ?_
  intro W base args ds gs before hval hW _ _ hsz hL hsh _
  exact contract H enc W base args ds gs before hval hW hsz hL hsh
theorem said : Rows.ChunkFewSaid :=
  OpenClaim.holds_of_cond 7 Tryd.f7 rfl rfl rfl rfl rfl rfl rfl ⟨rfl, rfl, rfl, rfl, rfl⟩ rfl rfl rfl rfl rfl (by kernel_rfl) Tryd.func7 (by kernel_rfl)
    (of_decide_eq_true (by kernel_rfl)) (by unfold Func.isWrapper; first | (rw [if_pos (by decide +kernel)]; kernel_rfl) | (rw [if_neg (by decide +kernel)]; exact ⟨rfl, rfl⟩))
    (fun os started H enc _ F => by rw [OpenClaim.pre_eq_preRow]; exact lifted os started H enc F)
theorem plain (f : FuncId) (fn : Func) (hf : Tryd.pinned.checked.prog.funcNamed "stockade/stockadelaw11.ChunkFew" = some f) (hfn : Tryd.pinned.checked.prog.funcs[f]? = some fn) :
    false = Tryd.pinned.checked.prog.looks [] ∧ ∀ (j : Nat) t, fn.params[j]? = some t → Tryd.pinned.checked.prog.wantsStandIn t = false := by
  obtain rfl : f = 7 := Option.some.inj ((show Tryd.prog.funcNamed "stockade/stockadelaw11.ChunkFew" = some 7 by kernel_rfl).symm.trans hf) |>.symm
  obtain rfl : fn = Tryd.f7 := (Option.some.inj (Tryd.func7.symm.trans hfn)).symm
  refine ⟨by kernel_rfl, fun j t ht => ?_⟩
  rw [Tryd.params7] at ht
  have hm : t ∈ [22, 3] := by simpa using Array.mem_of_getElem? ht
  have hall : ([22, 3].all fun u => !Tryd.prog.wantsStandIn u) = true := by kernel_rfl
  exact (show Tryd.prog.wantsStandIn t = false by simpa using List.all_eq_true.1 hall t hm)
end Go.Proofs.YtgppfkbapieneaaDoor.chunkFew
namespace Go.Proofs.YtgppfkbapieneaaDoor
theorem chunkFew_holds : Rows.ChunkFewCardSaid :=
  Claim7.holds_tied_plain_at .later [] _ _ _ _ chunkFew.said (fun _ h => by cases h) (by kernel_rfl) (fun _ h => by cases h) chunkFew_row_tie rfl ⟨rfl, rfl⟩ (by kernel_rfl) rfl chunkFew.plain (by kernel_rfl)
end Go.Proofs.YtgppfkbapieneaaDoor
