/- For every input the law FragOrder returns true and leaves its arguments as they were. -/
import Derived.Test.YtebdpiedgjdjeaaFgo52
import Derived.Test.YtebdpiedgjdjeaaRows
import Derived.WalkKit
import Derived.ProofKit
import Derived.OpenShut
import Derived.ShutString
import Derived.ChangeOld
import Derived.Below
import Derived.SizedLaws
namespace Go.Proofs.Ytebdpiedgjdjeaa
open Go.RowKit
set_option linter.unusedVariables false
set_option linter.unusedSimpArgs false
set_option maxRecDepth 100000 in
set_option maxHeartbeats 4000000 in
theorem fragOrder_walk (a0 : Option Addr) (c0 : Nat) (data : List Int) (a1 : Option Addr) (c1 : Nat) (cuts : List Int) (a2 : Option Addr) (c2 : Nat) (ord : List Int) (w : World) (lc0 : data.length ≤ c0) (cm0 : c0 ≤ 140737488351232) (nl0 : a0 = none → c0 = 0) (w0 : Row w a0 data) (lc1 : cuts.length ≤ c1) (cm1 : c1 ≤ 140737488351232) (nl1 : a1 = none → c1 = 0) (w1 : Row w a1 cuts) (lc2 : ord.length ≤ c2) (cm2 : c2 ≤ 140737488351232) (nl2 : a2 = none → c2 = 0) (w2 : Row w a2 ord) :
    Calls Try.prog 5 #[.slice a0 data.length c0, .slice a1 cuts.length c1, .slice a2 ord.length c2] w fun e w' => e = .returned (.bool true) ∧ Below w.heap.size w w' := by
  have HP : Hid PiecesSpec := pieces_spec
  obtain ⟨N, hN⟩ : ∃ n, data.length = n := ⟨_, rfl⟩
  have HN : Hid (data.length = N) := hN
  rw [hN] at lc0 ⊢
  clear hN
  by_cases z1 : N = 0
  · subst z1
    have KA : Hid _ := falive_any w
    go_enter Try.func5, Try.ntmps5
    go_wp2_with fail
    refine Calls.mono KA.out ?_
    rintro e W3 ⟨rfl, b3⟩
    go_wp2
    go_ret
    exact ⟨rfl, b3⟩
  by_cases z2 : N > 1000
  · have z1' : ¬ (↑N : Int) = 0 := by omega
    have z2' : (↑N : Int) > 1000 := by omega
    have KA : Hid _ := falive_any w
    go_enter Try.func5, Try.ntmps5
    go_wp2_with fail
    refine Calls.mono KA.out ?_
    rintro e W3 ⟨rfl, b3⟩
    go_wp2
    go_ret
    exact ⟨rfl, b3⟩
  by_cases z3 : cuts.length > 60
  · have z1' : ¬ (↑N : Int) = 0 := by omega
    have z2' : ¬ (↑N : Int) > 1000 := by omega
    have z3' : (↑cuts.length : Int) > 60 := by omega
    have KA : Hid _ := falive_any w
    go_enter Try.func5, Try.ntmps5
    go_wp2_with fail
    refine Calls.mono KA.out ?_
    rintro e W3 ⟨rfl, b3⟩
    go_wp2
    go_ret
    exact ⟨rfl, b3⟩
  have z1' : ¬ (↑N : Int) = 0 := by omega
  have z2' : ¬ (↑N : Int) > 1000 := by omega
  have z3' : ¬ (↑cuts.length : Int) > 60 := by omega
  obtain ⟨db, do_, rfl, hdc⟩ := w0.cells (by rw [HN.out]; omega)
  clear hdc
  have R0 : Hid (Row w (some ⟨db, do_, none⟩) data) := w0
  have R1 : Hid (Row w a1 cuts) := w1
  have R2 : Hid (Row w a2 ord) := w2
  have KA : Hid _ := falive_any w
  clear w0 w1 w2
  go_enter Try.func5, Try.ntmps5
  go_wp2_with fail
  refine Calls.mono KA.out ?_
  rintro e W1 ⟨rfl, b1⟩
  have KN : Hid _ := tabB_new 2 2000 10 W1 ⟨by decide, by decide, by decide, by decide, by decide, by decide⟩
  clear KA
  go_wp2_with fail
  refine Calls.mono KN.out ?_
  rintro e W2 ⟨tb, mb, rfl, T2⟩
  have b2 : Below w.heap.size w W2 := b1.trans (T2.bel.mono b1.size)
  have KP : Hid _ := piece_any 0 false (some ⟨db, do_, none⟩) N c0 W2
  clear KN
  go_wp2_with fail
  refine Calls.mono KP.out ?_
  rintro e W3 ⟨rfl, k3⟩
  have T3 := T2.below k3
  have b3 := bel_tr b2 k3
  have KQ := HP.out data cuts ord db do_ c0 a1 c1 a2 c2 W3 (by rw [HN.out]; omega) (by rw [HN.out]; omega) (by rw [HN.out]; exact lc0) (by omega) (R1.out.below b3) (R2.out.below b3)
  rw [HN.out] at KQ
  have KQ : Hid _ := KQ
  clear KP T2 b2
  go_wp2_with fail
  refine Calls.mono KQ.out ?_
  rintro e W4 ⟨la, lc, M, rfl, hperm, how, hnew, k4⟩
  have T4 := T3.below k4
  have b4 := bel_tr b3 k4
  have hne : M ≠ [] := fun h => cutL_ne N cuts 0 (List.perm_nil.1 (by rw [h] at hperm; exact hperm.symm))
  have hlen : 0 < M.length := List.length_pos_iff.2 hne
  obtain ⟨q0, hq0⟩ : ∃ q, M[0]? = some q := ⟨_, List.getElem?_eq_getElem hlen⟩
  obtain ⟨g2, rfl, h99⟩ := how.at_ (i := 0) (q := mkL data db do_ c0 q0) (by rw [List.getElem?_map, hq0]; rfl)
  have hPart : Hid (Part data KN (M.map (pkL data []))) := by
    have h1 := part_cut (data := data) (X := []) (by rw [HN.out]; omega) (by rw [HN.out]; omega) cuts
    rw [HN.out] at h1
    exact h1.perm (hperm.map _)
  have T5 : Hid (TabP W1.heap.size (fun k => k = g2) W1 W4 tb mb (fs0 2 2000 10)) := T3.toP.add k4 (fun k hk => .inr (by subst hk; exact ⟨hnew _ rfl, how.lt rfl⟩))
  have hg2 : W1.heap.size ≤ g2 := Nat.le_trans T3.le (hnew _ rfl)
  have HO : Hid (ownP W4 (some ⟨g2, 0, none⟩) lc (M.map (mkL data db do_ c0))) := how
  have B1 : Hid (Below w.heap.size w W1) := b1
  have B4 : Hid (Below w.heap.size w W4) := b4
  obtain ⟨NM, hNM⟩ : ∃ n, M.length = n := ⟨_, rfl⟩
  have HNM : Hid (M.length = NM) := hNM
  have hml : NM ≤ 61 := by
    have h1 := cutL_len N cuts 0
    rw [← hperm.length_eq, hNM] at h1
    omega
  rw [hNM] at hlen ⊢
  clear KQ T3 T4 b3 b4 k3 k4 h99 hq0 hnew how hperm hne hNM b1
  go_wp2
  go_loopw [49] (fun i wr => ∃ (j : Nat) (s : Fs), j ≤ NM ∧ i = .int .i64 j ∧ Hid (TabP W1.heap.size (fun k => k = g2) W1 wr tb mb s) ∧ Hid (But (fun k => ¬ k = g2 ∧ W1.heap.size ≤ k) W4 wr) ∧ Hid (j < NM → One data s ((M.map (pkL data [])).take j) ∧ s.room = 2000 ∧ s.most = 2)) (fun i _ => NM - (intOf i).toNat)
  case atStart => exact ⟨0, _, by omega, rfl, T5, But.refl _ _, fun _ => ⟨fs0_one data _ _ _, rfl, rfl⟩⟩
  case round =>
    obtain ⟨j, s, hj, rfl, hT, hB, hOne⟩ := hrel
    clear T5
    by_cases hlt : j < NM
    · have i1 : (↑j : Int) < ↑NM := by omega
      have i0 : (0 : Int) ≤ ↑j := by omega
      obtain ⟨x, hx⟩ : ∃ q, M[j]? = some q := ⟨_, List.getElem?_eq_getElem (by rw [HNM.out]; exact hlt)⟩
      have hq : (M.map (mkL data db do_ c0))[j]? = some (mkL data db do_ c0 x) := by rw [List.getElem?_map, hx]; rfl
      have how := HO.out.but hB.out (fun y hy h => by cases hy; exact h.1 rfl)
      obtain ⟨g9, eg9, hca⟩ := how.at_ hq
      cases eg9
      have hLj : (M.map (pkL data []))[j]? = some (pkL data [] x) := by rw [List.getElem?_map, hx]; rfl
      have hLl : (M.map (pkL data [])).length = NM := by rw [List.length_map]; exact HNM.out
      have hsplit : M.map (pkL data []) = (M.map (pkL data [])).take j ++ pkL data [] x :: (M.map (pkL data [])).drop (j + 1) := by
        have h1 : (M.map (pkL data [])).drop j = pkL data [] x :: (M.map (pkL data [])).drop (j + 1) := by
          rw [List.drop_eq_getElem_cons (by rw [hLl]; exact hlt)]
          rw [List.getElem?_eq_getElem (by rw [hLl]; exact hlt)] at hLj
          injection hLj with hLj
          rw [hLj]
        rw [← h1, List.take_append_drop]
      have htake : (M.map (pkL data [])).take (j + 1) = (M.map (pkL data [])).take j ++ [pkL data [] x] := by rw [List.take_add_one, hLj]; rfl
      have hP2 := hPart.out
      rw [hsplit] at hP2
      have hone := hPart.out.each (pkL data [] x) (List.mem_of_getElem? hLj)
      obtain ⟨w0_, w1_, w2_, w3_⟩ := wrong_nums hone.right
      have bw : Below w.heap.size w wr := B1.out.trans (hT.out.bel.mono B1.out.size)
      have hrow : Row wr (some ⟨db, do_ + x.1, none⟩) (pkL data [] x).dat := by
        have h1 := R0.out.below bw
        exact row_sub h1 x.1 x.2.1
      obtain ⟨p, hp⟩ : ∃ p, pkL data [] x = p := ⟨_, rfl⟩
      have hpv : (mkL data db do_ c0 x).v = pkV p none 0 (some ⟨db, do_ + x.1, none⟩) (c0 - x.1) := by rw [← hp]
      have hpok : PktOk p := by rw [← hp]; exact pktOk_own data [] x
      have hpX : p.X = [] := by rw [← hp]
      rw [hp] at hrow hP2 htake
      rw [hpv] at hca
      clear hone w0_ w1_ w2_ w3_ hq hLj hsplit hpv hx hp
      obtain ⟨Wa, hWa⟩ : ∃ W, wr.alloc (.cells #[.int .i64 0, .int .i64 0, .int .u64 0, .int .u64 0, .int .i64 0, .int .u64 0, .int .u64 0, .int .i64 0, .int .i64 0, .bool false, .int .u32 0, .int .i64 0, .bool false, .slice none 0 0, .slice none 0 0] 42) = W := ⟨_, rfl⟩
      have Ba := blk_nw hWa
      have ka := bel_nw hWa
      obtain ⟨Wb, hWb⟩ : ∃ W, Wa.setRow wr.heap.size (pkV p none 0 (some ⟨db, do_ + x.1, none⟩) (c0 - x.1)) = W := ⟨_, rfl⟩
      have Bb : Blk Wb wr.heap.size 42 (pkV p none 0 (some ⟨db, do_ + x.1, none⟩) (c0 - x.1)) := by rw [← hWb]; exact Ba.set _
      have kb : Below wr.heap.size wr Wb := by rw [← hWb]; exact below_setRow ka (Nat.le_refl _) _
      have HWb : Hid _ := hWb
      clear hWb ka
      have Tb := hT.out.below kb
      have bub := hB.out.below kb
      have KP := Tb.put p none 0 (some ⟨db, do_ + x.1, none⟩) (c0 - x.1) hpok (hrow.below kb) (by simp) (by rw [hpX]; exact rowI_nil _ none) (by simp)
      have sok := hT.out.ok
      have hcaps := putF_caps s p
      obtain ⟨ho1, ho2, ho3⟩ := hOne.out hlt
      by_cases hlast : j + 1 < NM
      · have i3 : (↑j : Int) < ↑NM - 1 := by omega
        have hB2 : (M.map (pkL data [])).drop (j + 1) ≠ [] := fun h => by
          have h1 := congrArg List.length h
          rw [List.length_drop, hLl] at h1
          simp at h1
          omega
        obtain ⟨e1, e2, e3, e4, _⟩ := one_waits hP2 hB2 sok ho1 (by rw [ho2]; have := HN.out; omega) (by rw [ho3]; decide)
        rw [e1, e2] at KP
        have c5 : (putF s p).1.room = 2000 ∧ (putF s p).1.most = 2 := ⟨hcaps.2.1.trans ho2, hcaps.1.trans ho3⟩
        have KP : Hid _ := KP
        have HE3 : Hid _ := e3
        generalize (putF s p).1 = s5 at KP HE3 e4 c5
        rw [← htake] at HE3
        have HC5 : Hid _ := c5
        have HT2 : Hid ((s5.E.length : Int) = 1) := by rw [e4]; exact rfl
        clear e1 e2 e3 e4 c5 hP2 hB2 ho1 ho2 ho3 hcaps sok hrow hpX hpok htake hLl
        go_wp2_with (first
          | (refine wpList_load_at rfl _ _ rfl g2 (j * 15) (by rfl) _ hca Try.underlying42 (by kernel_rfl) ?_)
          | (refine wpList_store_row rfl _ _ _ rfl wr.heap.size (pkV p none 0 (some ⟨db, do_ + x.1, none⟩) (c0 - x.1)) (by rfl) (by rfl) _ _ Ba (by kernel_rfl) (by rfl) (by kernel_rfl) ?_; rw [HWb.out])
          | (refine wpList_load_row rfl _ _ rfl wr.heap.size (by rfl) _ _ _ _ Bb Try.underlying42 rfl (by kernel_rfl) ?_))
        refine Calls.mono KP.out ?_
        rintro e W5 ⟨xa', xc', da', dc', rfl, T6, _, _, _, _, bu⟩
        obtain ⟨W6, hW6⟩ : ∃ W, W5.alloc (.cells #[.int .i64 0, .int .i64 0, .int .u64 0, .int .u64 0, .int .i64 0, .int .u64 0, .int .u64 0, .int .i64 0, .int .i64 0, .bool false, .int .u32 0, .int .i64 0, .bool false, .slice none 0 0, .slice none 0 0] 42) = W := ⟨_, rfl⟩
        have B6 := blk_nw hW6
        obtain ⟨W7, hW7⟩ : ∃ W, W6.setRow W5.heap.size (pkV pk0 xa' xc' da' dc') = W := ⟨_, rfl⟩
        have k7 : Below W5.heap.size W5 W7 := by rw [← hW7]; exact below_setRow (bel_nw hW6) (Nat.le_refl _) _
        have HW7 : Hid _ := hW7
        clear hW7 KP Bb Ba hca HWb
        have T7 := T6.below k7
        have bu7 : Hid (But (fun k => ¬ k = g2 ∧ W1.heap.size ≤ k) W4 W7) := (bub.trans bu (fun _ _ h => h)).below k7
        have KG := T7.grams
        rw [HT2.out] at KG
        have KG : Hid _ := KG
        have HT7 : Hid _ := T7
        clear T6 T7 bub bu
        go_wp2_with (first
          | (refine wpList_store_row rfl _ _ _ rfl W5.heap.size (pkV pk0 xa' xc' da' dc') (by rfl) (by rfl) _ _ B6 (by kernel_rfl) (by rfl) (by kernel_rfl) ?_; rw [HW7.out])
          | (go_at_call 20; refine Calls.mono KG.out ?_; rintro e w' ⟨rfl, hw'⟩; rw [hw']; clear hw' w'))
        exact ⟨⟨j + 1, s5, by omega, int_eq (by omega), HT7.out, bu7.out, fun _ => ⟨HE3.out, HC5.out⟩⟩, by simp [intOf] <;> omega⟩
      · have i3 : ¬ (↑j : Int) < ↑NM - 1 := by omega
        have hB2 : (M.map (pkL data [])).drop (j + 1) = [] := List.drop_eq_nil_of_le (by rw [hLl]; omega)
        rw [hB2] at hP2
        obtain ⟨e1, e2, e3, q, hqm, e4⟩ := one_ends hP2 sok ho1 (by rw [ho2]; have := HN.out; omega) (by rw [ho3]; decide)
        have hq9 : ∃ y, q = pkL data [] y := by
          have h1 : q ∈ M.map (pkL data []) := by
            rw [← htake] at hqm
            exact List.mem_of_mem_take hqm
          obtain ⟨y, _, rfl⟩ := List.mem_map.1 h1
          exact ⟨y, rfl⟩
        obtain ⟨y, rfl⟩ := hq9
        rw [e1, e4] at KP
        have KP : Hid _ := KP
        generalize (putF s p).1 = s5 at KP e2 e3
        have HE2 : Hid ((s5.E.length : Int) = 0) := by rw [e2]; exact rfl
        have HE3 : Hid (s5.by_ = 0) := e3
        clear e1 e2 e3 e4 hqm hP2 hB2 ho1 ho2 ho3 hcaps sok hrow hpX hpok htake hLl
        go_wp2_with (first
          | (refine wpList_load_at rfl _ _ rfl g2 (j * 15) (by rfl) _ hca Try.underlying42 (by kernel_rfl) ?_)
          | (refine wpList_store_row rfl _ _ _ rfl wr.heap.size (pkV p none 0 (some ⟨db, do_ + x.1, none⟩) (c0 - x.1)) (by rfl) (by rfl) _ _ Ba (by kernel_rfl) (by rfl) (by kernel_rfl) ?_; rw [HWb.out])
          | (refine wpList_load_row rfl _ _ rfl wr.heap.size (by rfl) _ _ _ _ Bb Try.underlying42 rfl (by kernel_rfl) ?_))
        refine Calls.mono KP.out ?_
        rintro e W5 ⟨xa', xc', da', dc', rfl, T6, _, r2, _, _, bu⟩
        obtain ⟨W6, hW6⟩ : ∃ W, W5.alloc (.cells #[.int .i64 0, .int .i64 0, .int .u64 0, .int .u64 0, .int .i64 0, .int .u64 0, .int .u64 0, .int .i64 0, .int .i64 0, .bool false, .int .u32 0, .int .i64 0, .bool false, .slice none 0 0, .slice none 0 0] 42) = W := ⟨_, rfl⟩
        have B6 := blk_nw hW6
        obtain ⟨W7, hW7⟩ : ∃ W, W6.setRow W5.heap.size (pkV ⟨4, ⟨4, 0, 1⟩, ⟨4, 0, 2⟩, 17, 5, false, 0, 0, false, [], data⟩ xa' xc' da' dc') = W := ⟨_, rfl⟩
        have k7 : Below W5.heap.size W5 W7 := by rw [← hW7]; exact below_setRow (bel_nw hW6) (Nat.le_refl _) _
        have B7 : Blk W7 W5.heap.size 42 (pkV ⟨4, ⟨4, 0, 1⟩, ⟨4, 0, 2⟩, 17, 5, false, 0, 0, false, [], data⟩ xa' xc' da' dc') := by rw [← hW7]; exact B6.set _
        have HW7 : Hid _ := hW7
        clear hW7 KP Bb Ba hca HWb
        have T7 := T6.below k7
        have bu7 : Hid (But (fun k => ¬ k = g2 ∧ W1.heap.size ≤ k) W4 W7) := (bub.trans bu (fun _ _ h => h)).below k7
        have KG := T7.grams
        rw [HE2.out] at KG
        have KG : Hid _ := KG
        have KB := T7.bytes
        rw [HE3.out] at KB
        have KB : Hid _ := KB
        have HT7 : Hid _ := T7
        have v1 := conv_row (r2.below k7) dc'
        have v2 := conv_row (R0.out.below (B1.out.trans (T7.bel.mono B1.out.size))) c0
        rw [HN.out] at v2
        have c3 := B7.cell 7 (.int .i64 17) rfl
        have c4 := B7.cell 8 (.int .i64 5) rfl
        have c5 := B7.cell 9 (.bool false) rfl
        have c10 := B7.cell 14 (.slice da' data.length dc') rfl
        clear T6 T7 bub bu r2
        go_wp2_with (first
          | (refine wpList_store_row rfl _ _ _ rfl W5.heap.size (pkV ⟨4, ⟨4, 0, 1⟩, ⟨4, 0, 2⟩, 17, 5, false, 0, 0, false, [], data⟩ xa' xc' da' dc') (by rfl) (by rfl) _ _ B6 (by kernel_rfl) (by rfl) (by kernel_rfl) ?_; rw [HW7.out])
          | (go_at_call 20; refine Calls.mono KG.out ?_; rintro e w' ⟨rfl, hw'⟩; rw [hw']; clear hw' w')
          | (go_at_call 21; refine Calls.mono KB.out ?_; rintro e w' ⟨rfl, hw'⟩; rw [hw']; clear hw' w'))
        exact ⟨⟨j + 1, s5, by omega, int_eq (by omega), HT7.out, bu7.out, fun h => absurd h hlast⟩, by simp [intOf] <;> omega⟩
    · have i1 : ¬ (↑j : Int) < ↑NM := by omega
      go_wp2
      go_ret
      exact ⟨rfl, B1.out.trans (hT.out.bel.mono B1.out.size)⟩
end Go.Proofs.Ytebdpiedgjdjeaa
namespace Go.Proofs.Ytebdpiedgjdjeaa.fragOrder
open Go.ChangeShapes Go.WideShapes Go.ChangeAt Go.RowKit
open Go.ChangeMaps (open_string shut_string)
set_option linter.unusedVariables false
theorem own : ownKnob Try.prog.godebug = none := by kernel_rfl
theorem laidOut : laidOutB Try.prog = true := by kernel_rfl
set_option maxRecDepth 100000 in
theorem lifted (os : Os) (started : os.Started) (H : Type) (enc : TypeId × Value → H) :
    ReturnsInHanded {} Try.checked os 5 .any (Rows.fragOrderSpec.pre6 enc Try.prog Try.f5 Rows.fragOrderRow.domain false) (Rows.fragOrderSpec.post enc Try.prog Try.f5 false true false false) := by
  refine returnsInHanded_of_change_sized (C := Try.checked) own started (by kernel_rfl) Try.func5
    (ChangeSpec.witness6 (enc := enc) (C := Try.checked) false ⟨#[], #[.slice none 0 0, .slice none 0 0, .slice none 0 0], []⟩ 8 (by kernel_rfl) (by kernel_rfl) (by kernel_rfl) (by kernel_rfl)) ?_
  intro W base args ds gs before hval0 hW hcnd hsz0 _
  have hval : ∀ (j : Nat) t v, Try.f5.params[j]? = some t → args[j]? = some v → Value.okWide Try.prog W .any base t v := hval0
  have hW' := hW
  obtain ⟨p, q, hA0, hV, rfl, hfz, hnd⟩ := hW
  have hA : DataW.TrodAll enc Try.prog W 0 (fun _ => true) true Try.f5.params.toList args.toList ds p := hA0
  have hsz : (DataW.weightsEach Try.prog (Try.f5.params.toList ++ Rows.fragOrderSpec.plain.varTypes Try.prog) (ds ++ gs)).all (· ≤ reachBytes) = true := hsz0
  rw [Try.params5] at hA hval hsz
  obtain ⟨v0, vs0, d0, ds0, p0, q0, hargs, rfl, rfl, h0, r0⟩ := trodAll_cons hA
  obtain ⟨v1, vs1, d1, ds1, p1, q1, rfl, rfl, rfl, h1, r1⟩ := trodAll_cons r0
  obtain ⟨v2, vs2, d2, ds2, p2, q2, rfl, rfl, rfl, h2, r2⟩ := trodAll_cons r1
  obtain ⟨rfl, rfl, rfl⟩ := trodAll_nil r2
  obtain rfl : args = #[v0, v1, v2] := by cases args; simp_all
  obtain ⟨rfl, rfl⟩ := trodVars_none hV
  have lt0 : ∀ x ∈ p0, x.block < W.heap.size := by obtain ⟨m, hm⟩ := h0; exact DataW.trod_lt m _ _ _ hm
  have s0 : ∀ n ∈ d0.weights Try.prog 40, n ≤ reachBytes := fun n hn => by simpa using List.all_eq_true.1 hsz n (DataW.weights_mem_each (j := 0) (t := 40) rfl rfl n hn)
  obtain ⟨a0, c0, l0, rfl, lc0, cm0, nl0, w0⟩ := open_bytes Try.underlying40 Try.underlying5 (by kernel_rfl) (by kernel_rfl) (hval 0 40 v0 rfl rfl) h0 s0
  have lt1 : ∀ x ∈ p1, x.block < W.heap.size := by obtain ⟨m, hm⟩ := h1; exact DataW.trod_lt m _ _ _ hm
  have s1 : ∀ n ∈ d1.weights Try.prog 40, n ≤ reachBytes := fun n hn => by simpa using List.all_eq_true.1 hsz n (DataW.weights_mem_each (j := 1) (t := 40) rfl rfl n hn)
  obtain ⟨a1, c1, l1, rfl, lc1, cm1, nl1, w1⟩ := open_bytes Try.underlying40 Try.underlying5 (by kernel_rfl) (by kernel_rfl) (hval 1 40 v1 rfl rfl) h1 s1
  have lt2 : ∀ x ∈ p2, x.block < W.heap.size := by obtain ⟨m, hm⟩ := h2; exact DataW.trod_lt m _ _ _ hm
  have s2 : ∀ n ∈ d2.weights Try.prog 40, n ≤ reachBytes := fun n hn => by simpa using List.all_eq_true.1 hsz n (DataW.weights_mem_each (j := 2) (t := 40) rfl rfl n hn)
  obtain ⟨a2, c2, l2, rfl, lc2, cm2, nl2, w2⟩ := open_bytes Try.underlying40 Try.underlying5 (by kernel_rfl) (by kernel_rfl) (hval 2 40 v2 rfl rfl) h2 s2
  clear hA0 hval0 hsz0
  refine (fragOrder_walk a0 c0 l0 a1 c1 l1 a2 c2 l2 W lc0 cm0 nl0 w0 lc1 cm1 nl1 w1 lc2 cm2 nl2 w2).mono fun e W' ⟨he, bel⟩ => ?_
  subst he
  exact ⟨_, rfl, _, _, _, [], _, [], hW', trodAll_mk1 (shut_bool Try.underlying4 _), (trodAll_cons_mk (Below.trod laidOut (by kernel_rfl) (of_decide_eq_true (by kernel_rfl)) h0 bel lt0) (trodAll_cons_mk (Below.trod laidOut (by kernel_rfl) (of_decide_eq_true (by kernel_rfl)) h1 bel lt1) (trodAll_cons_mk (Below.trod laidOut (by kernel_rfl) (of_decide_eq_true (by kernel_rfl)) h2 bel lt2) trodAll_mk0))), rfl, bel.frame _, fun h => by cases h⟩
theorem over : Rows.fragOrderRow.holds Try.pinned (OpenSpec.ofChange Rows.fragOrderSpec) :=
  OpenClaim.holds_of_wide 5 Try.f5 rfl rfl rfl rfl rfl rfl rfl ⟨rfl, rfl, rfl, rfl, rfl⟩ rfl rfl rfl rfl rfl (by kernel_rfl) Try.func5 (by kernel_rfl)
    (of_decide_eq_true (by kernel_rfl)) (by unfold Func.isWrapper; first | (rw [if_pos (by decide +kernel)]; kernel_rfl) | (rw [if_neg (by decide +kernel)]; exact ⟨rfl, rfl⟩))
    (fun os started H enc _ => lifted os started H enc)
end Go.Proofs.Ytebdpiedgjdjeaa.fragOrder
namespace Go.Proofs.Ytebdpiedgjdjeaa
theorem fragOrder_holds : Rows.FragOrderSaid := fragOrder.over
end Go.Proofs.Ytebdpiedgjdjeaa
