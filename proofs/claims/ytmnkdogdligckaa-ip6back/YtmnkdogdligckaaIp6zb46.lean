/- Texts joined: Ip6U -/
import Derived.Test.YtmnkdogdligckaaIp6zb45
import Derived.Deep.WholeRow
namespace Go.Proofs.Ytmnkdogdligckaa
open Go.RowKit
set_option linter.unusedVariables false
set_option linter.unusedSimpArgs false
abbrev w22 (nx : Int) (at_ : Nat) (bv : Value) (hop fr en : Bool) : Array Value := #[.int .i64 nx, .int .i64 at_, bv, .slice none 0 0, .bool hop, .bool fr, .bool en, .int .i64 0, .int .i64 0, .int .u64 0, .int .u64 0, .int .i64 0, .int .u64 0, .int .u64 0, .int .i64 0, .int .i64 0, .bool false, .int .u32 0, .int .i64 0, .bool false, .slice none 0 0, .slice none 0 0]
theorem tw_new (w : World) (nx : Int) (at_ : Nat) (bv : Value) (l : List Int) (met en : Bool) :
    TW (w.alloc (.cells (w22 nx at_ bv (!met) met en) 59)) w.heap.size (st0 nx l met) at_ bv (.slice none 0 0) (!met) en := by
  refine ⟨?_, ?_, ?_, ?_, ?_, ?_, ?_, ?_, ?_, ?_, ?_, ?_, ?_⟩
  all_goals first | (intro o h1 h2 h3; have : o = 7 ∨ o = 8 ∨ o = 9 ∨ o = 10 ∨ o = 11 ∨ o = 12 ∨ o = 13 ∨ o = 14 ∨ o = 15 ∨ o = 20 ∨ o = 21 := by omega
                     rcases this with h | h | h | h | h | h | h | h | h | h | h <;> subst h <;> simp) | simp [st0]
/-- A struct that is built, by one equation. -/
theorem wpList_build {ops : Array Oper} {rest : List Oper} {o : Oper} {ac : Act} {Q : Exit → Act → World → Prop} (w : World) (hgd : o.guard = none) (t : TypeId) (parts : Array (Nat × Operand)) (ho : o.op = Op.build t parts)
    (vs : Array (Nat × Value)) (hv : parts.map (fun p => (p.1, ac.eval p.2)) = vs) (r : Value) (hrun : (Instr.build t vs).run Try.prog w = .ok r w) (h : wpList Try.prog ops Q rest (ac.put o.dst r) w) : wpList Try.prog ops Q (o :: rest) ac w := by
  refine wpList_plain hgd fun K hK => ?_
  unfold Oper.wp
  subst hv
  simp [execOp, ho, hrun, Result.andThen]
  exact hK _ _ h
/-- A struct that is stored into the block that was made last, by one equation. -/
theorem wpList_store_new {ops : Array Oper} {rest : List Oper} {o : Oper} {ac : Act} {Q : Exit → Act → World → Prop} (w w' : World) (hgd : o.guard = none) (t : TypeId) (p x : Operand) (ho : o.op = Op.store t p x)
    (v1 v2 : Value) (hp : ac.eval p = v1) (hx : ac.eval x = v2) (hrun : (Instr.storeAt t v1 v2).run Try.prog w = .ok () w') (h : wpList Try.prog ops Q rest (ac.put o.dst undef) w') : wpList Try.prog ops Q (o :: rest) ac w := by
  refine wpList_plain hgd fun K hK => ?_
  unfold Oper.wp
  subst hp
  subst hx
  simp [execOp, ho, hrun, Result.andThen]
  exact hK _ _ h
set_option maxRecDepth 100000 in
set_option maxHeartbeats 1000000 in
theorem rwalk_any (nx : Int) (a : Option Addr) (c : Nat) (l : List Int) (w : World) (h : Row w a l) (hc : l.length ≤ c) (hcm : c ≤ 9223372036854775807) (hnil : a = none → c = 0) :
    Calls Try.prog 11 #[.int .i64 nx, .slice a l.length c] w fun e w' => ∃ xa xc a' c', e = .returned (.tuple #[.int .i64 (wS nx l).next, .slice xa (wS nx l).ex.length xc, .slice a' (wS nx l).l.length c', .int .i64 (wE nx l)]) ∧
      Fresh w w' a' c' (wS nx l).l ∧ OwnsI w' w.heap.size (.slice xa (wS nx l).ex.length xc) (wS nx l).ex ∧ (wS nx l).ex.length ≤ 8 := by
  obtain ⟨W1, hW1⟩ : ∃ W1, w.alloc (.cells (w22 nx 0 (.slice a l.length c) false true false) 59) = W1 := ⟨_, rfl⟩
  have T1 : TW W1 w.heap.size (st0 nx l true) 0 (.slice a l.length c) (.slice none 0 0) false false := by
    rw [← hW1]
    exact tw_new w nx 0 _ l true false
  have b1 : Below w.heap.size w W1 := by rw [← hW1]; exact (Below.refl _ _).alloc (Nat.le_refl _) _
  have z1 : W1.heap.size = w.heap.size + 1 := by rw [← hW1]; simp
  have R1 : RT w W1 w.heap.size (st0 nx l true) 0 l a c none 0 false W1 := ⟨T1, h, hc, hcm, rfl, Nat.zero_le _, OwnsI.nil _ _, Below.refl _ _, Nat.zero_le _, fun _ => rfl, fun _ => ⟨rfl, rfl⟩⟩
  have RA : Hid _ := rall_any w.heap.size (st0 nx l true) 0 l a c none 0 false w W1 W1 R1 (Nat.le_refl _) b1 rfl
  have HW1 : Hid (w.alloc (.cells #[.int .i64 nx, .int .i64 0, .slice a l.length c, .slice none 0 0, .bool false, .bool true, .bool false, .int .i64 0, .int .i64 0, .int .u64 0, .int .u64 0, .int .i64 0, .int .u64 0, .int .u64 0, .int .i64 0, .int .i64 0, .bool false, .int .u32 0, .int .i64 0, .bool false, .slice none 0 0, .slice none 0 0] 59) = W1) := hW1
  clear hW1 R1 T1
  have hbd : (Instr.build 59 #[(0, .int .i64 nx), (2, .slice a l.length c), (5, .bool true)]).run Try.prog w = .ok (.agg #[.int .i64 nx, .int .i64 0, .slice a l.length c, .slice none 0 0, .bool false, .bool true, .bool false, .int .i64 0, .int .i64 0, .int .u64 0, .int .u64 0, .int .i64 0, .int .u64 0, .int .u64 0, .int .i64 0, .int .i64 0, .bool false, .int .u32 0, .int .i64 0, .bool false, .slice none 0 0, .slice none 0 0]) w := by kernel_rfl
  have hst := run_storeAt_new (P := Try.prog) w 59 #[.int .i64 0, .int .i64 0, .slice none 0 0, .slice none 0 0, .bool false, .bool false, .bool false, .int .i64 0, .int .i64 0, .int .u64 0, .int .u64 0, .int .i64 0, .int .u64 0, .int .u64 0, .int .i64 0, .int .i64 0, .bool false, .int .u32 0, .int .i64 0, .bool false, .slice none 0 0, .slice none 0 0] #[.int .i64 nx, .int .i64 0, .slice a l.length c, .slice none 0 0, .bool false, .bool true, .bool false, .int .i64 0, .int .i64 0, .int .u64 0, .int .u64 0, .int .i64 0, .int .u64 0, .int .u64 0, .int .i64 0, .int .i64 0, .bool false, .int .u32 0, .int .i64 0, .bool false, .slice none 0 0, .slice none 0 0] (by kernel_rfl) rfl (by kernel_rfl)
  go_enter Try.func11, Try.ntmps11
  go_wp2_with (first | (refine wpList_build _ rfl _ _ rfl _ (by rfl) _ hbd ?_) | (refine wpList_store_new _ _ rfl _ _ _ rfl _ _ (by rfl) (by rfl) hst ?_))
  rw [HW1.out]
  clear hbd hst
  refine Calls.mono RA.out ?_
  rintro e W2 ⟨rfl, bel, fin⟩
  clear RA HW1
  obtain ⟨g, hg⟩ : ∃ g, w.heap.size = g := ⟨_, rfl⟩
  rw [hg] at bel fin b1 z1 ⊢
  obtain ⟨T, hT⟩ : ∃ T, wend (st0 nx l true) = T := ⟨_, rfl⟩
  have eS : wS nx l = if T.1 = 0 then T.2 else st0 0 [] true := by unfold wS; rw [hT]
  have eE : wE nx l = T.1 := by unfold wE; rw [hT]
  rw [hT] at fin ⊢
  clear hT
  obtain ⟨EE0, t⟩ := T
  simp only at fin eS eE ⊢
  have b2 : Below g w W2 := b1.trans bel
  by_cases h0 : EE0 = 0
  · subst h0
    obtain ⟨at_, xa, xc, R⟩ := fin rfl
    rw [if_pos rfl] at eS
    have ES : Hid (wS nx l = t) := eS
    have EE : Hid (wE nx l = 0) := eE
    clear eS eE fin
    have q0 := R.tw.c0
    have q1 := R.tw.c1
    have q3 := R.tw.c3
    have gl := R.tw.lt
    have hat := R.atl
    have hli := R.lis
    have ro := R.own
    have rf := R.few
    have r2 : Row W2 a l := h.below (by rw [hg]; exact b2)
    have sm := h.small
    have hd := r2.drop c at_ hc
    rw [← hli] at hd
    have hll : t.l.length = l.length - at_ := by rw [hli, List.length_drop]
    clear R
    have i1 : (at_ : Int) ≤ (l.length : Int) := by omega
    have HLI : Hid (t.l = l.drop at_) := hli
    have HLL : Hid (l.length - at_ = t.l.length) := hll.symm
    have SS := h.small
    clear hli hll
    go_wp2
    have far : Hid (∀ w3, W2.drew.grownBy w3 (Value.slice none 0 0).ownBlock → w3.cell? ⟨g, 0, none⟩ = some (.int .i64 t.next) ∧ w3.cell? ⟨g, 3, none⟩ = some (.slice xa t.ex.length xc)) := by
      intro w3 hgr
      exact ⟨(hgr.cell_far ⟨g, 0, none⟩ gl (by simp [Value.ownBlock])).trans q0, (hgr.cell_far ⟨g, 3, none⟩ gl (by simp [Value.ownBlock])).trans q3⟩
    have hdd := hd.below (below_drew W2)
    go_region_law (refine step_app _ rfl (.const (.slice none 0 0)) (.tmp 24) rfl W2.heap.size (.slice none 0 0) [] rfl (Owns.nil _ _) _ _ _ t.l rfl HLL.out hdd (fun e => by
        cases a with
        | none => have := hnil rfl; omega
        | some x => split at e <;> cases e) (by simp; have := HLL.out; omega) (Nat.le_refl _) ?_; intro v' w3 ow gw; have x0 := (far.out w3 gw).1; have x3 := (far.out w3 gw).2; obtain ⟨a8, c8, rfl, hc8, hn8, _⟩ := ow.form)
    all_goals (
      have b8 : Below W2.heap.size W2 w3 := (Below.refl _ _).grown ((grownBy_drew W2 _).trans gw) (Nat.le_refl _) (fun k hk => by simp [Value.ownBlock] at hk)
      have o8 : Owns w3 W2.heap.size (.slice a8 t.l.length c8) t.l := by simpa using ow
      have r8 := o8.row hd.small hd.bytes
      rw [List.nil_append] at hc8
      go_wp2
      all_goals (
        refine bodyPost_ret (v := .tuple #[.int .i64 t.next, .slice xa t.ex.length xc, .slice a8 t.l.length c8, .int .i64 0]) (by simp [results, Try.results11, go_sem]) rfl ⟨xa, xc, a8, c8, ?_, ?_, ?_, ?_⟩
        · rw [ES.out, EE.out]
        · rw [ES.out]
          exact ⟨owns_le b2.size o8, hc8, hn8, r8, by rw [hg]; exact b2.trans (b8.mono (by omega))⟩
        · rw [ES.out]; exact (ro.below b8).le (by omega)
        · rw [ES.out]; exact rf))
  · have h0' : (EE0 != 0) = true := by simpa using h0
    rw [if_neg h0] at eS
    have ES : Hid (wS nx l = st0 0 [] true) := eS
    have EE : Hid (wE nx l = EE0) := eE
    clear eS eE fin
    go_wp2
    refine bodyPost_ret (v := .tuple #[.int .i64 0, .slice none 0 0, .slice none 0 0, .int .i64 EE0]) (by simp [results, Try.results11, go_sem]) rfl ⟨none, 0, none, 0, ?_, ?_, ?_, ?_⟩
    · rw [ES.out, EE.out]; rfl
    · rw [ES.out]
      exact ⟨Owns.nil _ _, Nat.le_refl _, fun _ => rfl, ⟨by simp [st0], M.Bytes.of (by decide), fun h => by simp [st0] at h⟩, by rw [hg]; exact b2⟩
    · rw [ES.out]; exact OwnsI.nil _ _
    · rw [ES.out]; simp [st0]
set_option maxHeartbeats 1000000 in
theorem rwhole_any (proto : Int) (a : Option Addr) (c : Nat) (l : List Int) (w : World) (h : Row w a l) (hc : l.length ≤ c) (hcm : c ≤ 9223372036854775807) (hnil : a = none → c = 0) :
    Calls Try.prog 21 #[.int .i64 proto, .slice a l.length c] w fun e w' => e = .returned (.bool (whole proto l)) ∧ Below w.heap.size w w' := by
  have KW := rwalk_any proto a c l w h hc hcm hnil
  obtain ⟨B, hB⟩ : ∃ B, whole proto l = B := ⟨_, rfl⟩
  have eB : B = (decide (wE proto l = 0) && decide (least (wS proto l).next ≤ ((wS proto l).l.length : Int))) := by
    rw [← hB]
    unfold whole wE wS
    by_cases h0 : (wend (st0 proto l true)).1 = 0
    · simp [h0]
    · simp [h0]
  rw [hB]
  obtain ⟨T, hT⟩ : ∃ T, wS proto l = T := ⟨_, rfl⟩
  obtain ⟨E, hE⟩ : ∃ E, wE proto l = E := ⟨_, rfl⟩
  rw [hT, hE] at KW eB
  clear hB hT hE
  have HKW : Hid _ := KW
  clear KW
  obtain ⟨nx, tl, ex, met, cut, id, off, more⟩ := T
  simp only at eB HKW
  have HEB : Hid _ := eB
  clear eB
  go_enter Try.func21, Try.ntmps21
  go_wp2_with fail
  refine Calls.mono HKW.out ?_
  rintro e w2 ⟨xa, xc, a', c', rfl, f, o, _⟩
  have bb := f.below
  clear HKW f o
  by_cases h0 : E = 0
  · subst h0
    by_cases h6 : nx = 6
    · subst h6
      go_wp2
      go_ret
      refine ⟨?_, bb⟩
      rw [HEB.out]
      simp [least]
    have h6' : (nx == 6) = false := by simpa using h6
    by_cases h17 : nx = 17
    · subst h17
      go_wp2
      go_ret
      refine ⟨?_, bb⟩
      rw [HEB.out]
      simp [least]
    have h17' : (nx == 17) = false := by simpa using h17
    by_cases h1 : nx = 1
    · subst h1
      go_wp2
      go_ret
      refine ⟨?_, bb⟩
      rw [HEB.out]
      simp [least]
    have h1' : (nx == 1) = false := by simpa using h1
    by_cases h58 : nx = 58
    · subst h58
      go_wp2
      go_ret
      refine ⟨?_, bb⟩
      rw [HEB.out]
      simp [least]
    have h58' : (nx == 58) = false := by simpa using h58
    go_wp2
    go_ret
    refine ⟨?_, bb⟩
    rw [HEB.out]
    simp [least, h6, h17, h1, h58]
  · have h0' : (E == 0) = false := by simpa using h0
    have eB : Hid (B = false) := by show B = false; rw [HEB.out]; simp [h0]
    clear HEB
    by_cases h6 : nx = 6
    · subst h6
      go_wp2
      go_ret
      exact ⟨by rw [eB.out]; rfl, bb⟩
    have h6' : (nx == 6) = false := by simpa using h6
    by_cases h17 : nx = 17
    · subst h17
      go_wp2
      go_ret
      exact ⟨by rw [eB.out]; rfl, bb⟩
    have h17' : (nx == 17) = false := by simpa using h17
    by_cases h1 : nx = 1
    · subst h1
      go_wp2
      go_ret
      exact ⟨by rw [eB.out]; rfl, bb⟩
    have h1' : (nx == 1) = false := by simpa using h1
    by_cases h58 : nx = 58
    · subst h58
      go_wp2
      go_ret
      exact ⟨by rw [eB.out]; rfl, bb⟩
    have h58' : (nx == 58) = false := by simpa using h58
    go_wp2
    go_ret
    exact ⟨by rw [eB.out]; rfl, bb⟩
end Go.Proofs.Ytmnkdogdligckaa
