/- Texts joined: CmC0 -/
import Derived.Test.YtgppfkbapieneaaDoorChx30
namespace Go.Proofs.YtgppfkbapieneaaDoor
open Go.RowKit
set_option linter.unusedVariables false
set_option linter.unusedSimpArgs false
set_option maxRecDepth 100000 in
set_option maxHeartbeats 8000000 in
theorem less_ck (p q : Pt) (w : World) : Calls Tryd.prog 46 #[.agg p.v, .agg q.v] w fun e w' => e = .returned (.bool (p.less q)) ∧ Below w.heap.size w w' := by
  obtain ⟨a, b, c⟩ := p
  obtain ⟨a', b', c'⟩ := q
  obtain ⟨W1, hW1⟩ : ∃ W1, w.alloc (.cells (Pt.v ⟨a, b, c⟩) 42) = W1 := ⟨_, rfl⟩
  obtain ⟨W2, hW2⟩ : ∃ W2, W1.alloc (.cells (Pt.v ⟨a', b', c'⟩) 42) = W2 := ⟨_, rfl⟩
  have b2 := bel_al (bel_nw hW1) hW2
  have B1 := (blk_nw hW1).al hW2
  have B2 := blk_nw hW2
  have p0 := B1.cell 0 (.int .u64 a) rfl
  have p1 := B1.cell 1 (.int .u64 b) rfl
  have p2 := B1.cell 2 (.int .u64 c) rfl
  have q0 := B2.cell 0 (.int .u64 a') rfl
  have q1 := B2.cell 1 (.int .u64 b') rfl
  have q2 := B2.cell 2 (.int .u64 c') rfl
  clear B1 B2
  obtain ⟨R, hR⟩ : ∃ R, (⟨a, b, c⟩ : Pt).less ⟨a', b', c'⟩ = R := ⟨_, rfl⟩
  rw [hR]
  have HR : Hid ((⟨a, b, c⟩ : Pt).less ⟨a', b', c'⟩ = R) := hR
  clear hR
  rcases Int.lt_trichotomy a a' with h | h | h
  · have eR : R = true := by rw [← HR.out]; simp [Pt.less, h]
    subst eR
    go_enter Tryd.func46, Tryd.ntmps46
    go_wp2
    go_ret
    exact ⟨rfl, b2⟩
  · subst h
    have h0 : ¬ a < a := by omega
    rcases Int.lt_trichotomy b b' with h | h | h
    · have eR : R = true := by rw [← HR.out]; simp [Pt.less, h]
      subst eR
      go_enter Tryd.func46, Tryd.ntmps46
      go_wp2
      go_ret
      exact ⟨rfl, b2⟩
    · subst h
      have h1 : ¬ b < b := by omega
      by_cases h : c < c'
      · have eR : R = true := by rw [← HR.out]; simp [Pt.less, h]
        subst eR
        go_enter Tryd.func46, Tryd.ntmps46
        go_wp2
        go_ret
        exact ⟨rfl, b2⟩
      · have eR : R = false := by rw [← HR.out]; simp [Pt.less]; omega
        subst eR
        go_enter Tryd.func46, Tryd.ntmps46
        go_wp2
        go_ret
        exact ⟨rfl, b2⟩
    · have h1 : ¬ b < b' := by omega
      have h2 : (b == b') = false := by rw [beq_eq_false_iff_ne]; omega
      have eR : R = false := by rw [← HR.out]; simp [Pt.less, h2]; omega
      subst eR
      go_enter Tryd.func46, Tryd.ntmps46
      go_wp2
      go_ret
      exact ⟨rfl, b2⟩
  · have h1 : ¬ a < a' := by omega
    have h2 : (a == a') = false := by rw [beq_eq_false_iff_ne]; omega
    have eR : R = false := by rw [← HR.out]; simp [Pt.less, h2]; omega
    subst eR
    go_enter Tryd.func46, Tryd.ntmps46
    go_wp2
    go_ret
    exact ⟨rfl, b2⟩
end Go.Proofs.YtgppfkbapieneaaDoor
