/- Texts joined: TcL TuD -/
import Derived.Test.YtmjjdbkipagkbaaFyp21
namespace Go.Proofs.Ytmjjdbkipagkbaa
open Go.RowKit
set_option linter.unusedVariables false
set_option linter.unusedSimpArgs false
set_option maxRecDepth 100000 in
set_option maxHeartbeats 4000000 in
theorem rright_tc (c : Cn) (w : World) :
    Calls Try.prog 41 #[.agg c.v] w fun e w' => e = .returned (.bool c.right) ∧ Below w.heap.size w w' := by
  obtain ⟨R, hR⟩ : ∃ R, c.right = R := ⟨_, rfl⟩
  have HR : Hid (c.right = R) := hR
  rw [hR]
  clear hR
  obtain ⟨st, n0, n1, e0, e1, k0, k1, d0, d1⟩ := c
  by_cases h1 : st = 1
  · subst h1
    obtain ⟨W1, hW1⟩ : ∃ W, w.alloc (.cells (Cn.v ⟨1, n0, n1, e0, e1, k0, k1, d0, d1⟩) 31) = W := ⟨_, rfl⟩
    have b1 := bel_nw hW1
    have C1 := blk_nw hW1
    cases k0 <;> cases k1 <;> cases d0 <;> cases d1 <;> (
      have c0 := C1.cell 0 (.int .i64 1) rfl
      have c5 := C1.cell 5 _ rfl
      have c6 := C1.cell 6 _ rfl
      have c7 := C1.cell 7 _ rfl
      have c8 := C1.cell 8 _ rfl
      go_enter Try.func41, Try.ntmps41
      go_wp2
      all_goals (go_ret; exact ⟨retB_tc (by rw [← HR.out]; rfl), b1⟩))

  by_cases h2 : st = 2
  · subst h2
    obtain ⟨W1, hW1⟩ : ∃ W, w.alloc (.cells (Cn.v ⟨2, n0, n1, e0, e1, k0, k1, d0, d1⟩) 31) = W := ⟨_, rfl⟩
    have b1 := bel_nw hW1
    have C1 := blk_nw hW1
    cases k0 <;> cases k1 <;> cases d0 <;> cases d1 <;> (
      have c0 := C1.cell 0 (.int .i64 2) rfl
      have c5 := C1.cell 5 _ rfl
      have c6 := C1.cell 6 _ rfl
      have c7 := C1.cell 7 _ rfl
      have c8 := C1.cell 8 _ rfl
      go_enter Try.func41, Try.ntmps41
      go_wp2
      all_goals (go_ret; exact ⟨retB_tc (by rw [← HR.out]; rfl), b1⟩))

  by_cases h3 : st = 3
  · subst h3
    obtain ⟨W1, hW1⟩ : ∃ W, w.alloc (.cells (Cn.v ⟨3, n0, n1, e0, e1, k0, k1, d0, d1⟩) 31) = W := ⟨_, rfl⟩
    have b1 := bel_nw hW1
    have C1 := blk_nw hW1
    cases k0 <;> cases k1 <;> cases d0 <;> cases d1 <;> (
      have c0 := C1.cell 0 (.int .i64 3) rfl
      have c5 := C1.cell 5 _ rfl
      have c6 := C1.cell 6 _ rfl
      have c7 := C1.cell 7 _ rfl
      have c8 := C1.cell 8 _ rfl
      go_enter Try.func41, Try.ntmps41
      go_wp2
      all_goals (go_ret; exact ⟨retB_tc (by rw [← HR.out]; rfl), b1⟩))

  by_cases h4 : st = 4
  · subst h4
    obtain ⟨W1, hW1⟩ : ∃ W, w.alloc (.cells (Cn.v ⟨4, n0, n1, e0, e1, k0, k1, d0, d1⟩) 31) = W := ⟨_, rfl⟩
    have b1 := bel_nw hW1
    have C1 := blk_nw hW1
    cases k0 <;> cases k1 <;> cases d0 <;> cases d1 <;> (
      have c0 := C1.cell 0 (.int .i64 4) rfl
      have c5 := C1.cell 5 _ rfl
      have c6 := C1.cell 6 _ rfl
      have c7 := C1.cell 7 _ rfl
      have c8 := C1.cell 8 _ rfl
      go_enter Try.func41, Try.ntmps41
      go_wp2
      all_goals (go_ret; exact ⟨retB_tc (by rw [← HR.out]; rfl), b1⟩))

  by_cases h5 : st = 5
  · subst h5
    obtain ⟨W1, hW1⟩ : ∃ W, w.alloc (.cells (Cn.v ⟨5, n0, n1, e0, e1, k0, k1, d0, d1⟩) 31) = W := ⟨_, rfl⟩
    have b1 := bel_nw hW1
    have C1 := blk_nw hW1
    cases k0 <;> cases k1 <;> cases d0 <;> cases d1 <;> (
      have c0 := C1.cell 0 (.int .i64 5) rfl
      have c5 := C1.cell 5 _ rfl
      have c6 := C1.cell 6 _ rfl
      have c7 := C1.cell 7 _ rfl
      have c8 := C1.cell 8 _ rfl
      go_enter Try.func41, Try.ntmps41
      go_wp2
      all_goals (go_ret; exact ⟨retB_tc (by rw [← HR.out]; rfl), b1⟩))

  by_cases h6 : st = 6
  · subst h6
    obtain ⟨W1, hW1⟩ : ∃ W, w.alloc (.cells (Cn.v ⟨6, n0, n1, e0, e1, k0, k1, d0, d1⟩) 31) = W := ⟨_, rfl⟩
    have b1 := bel_nw hW1
    have C1 := blk_nw hW1
    cases k0 <;> cases k1 <;> cases d0 <;> cases d1 <;> (
      have c0 := C1.cell 0 (.int .i64 6) rfl
      have c5 := C1.cell 5 _ rfl
      have c6 := C1.cell 6 _ rfl
      have c7 := C1.cell 7 _ rfl
      have c8 := C1.cell 8 _ rfl
      go_enter Try.func41, Try.ntmps41
      go_wp2
      all_goals (go_ret; exact ⟨retB_tc (by rw [← HR.out]; rfl), b1⟩))

  have HO : Hid (st ≠ 1 ∧ st ≠ 2 ∧ st ≠ 3 ∧ st ≠ 4 ∧ st ≠ 5 ∧ st ≠ 6) := ⟨h1, h2, h3, h4, h5, h6⟩
  clear h1 h2 h3 h4 h5 h6
  obtain rfl : false = R := by rw [← HR.out]; simp [Cn.right, HO.out]
  clear HR
  by_cases hl : st < 1
  · obtain ⟨W1, hW1⟩ : ∃ W, w.alloc (.cells (Cn.v ⟨st, n0, n1, e0, e1, k0, k1, d0, d1⟩) 31) = W := ⟨_, rfl⟩
    have b1 := bel_nw hW1
    have C1 := blk_nw hW1
    have c0 := C1.cell 0 (.int .i64 st) rfl
    go_enter Try.func41, Try.ntmps41
    go_wp2
    go_ret
    exact ⟨rfl, b1⟩
  · have hg : 6 < st := by have := HO.out; omega
    obtain ⟨W1, hW1⟩ : ∃ W, w.alloc (.cells (Cn.v ⟨st, n0, n1, e0, e1, k0, k1, d0, d1⟩) 31) = W := ⟨_, rfl⟩
    have b1 := bel_nw hW1
    have C1 := blk_nw hW1
    have c0 := C1.cell 0 (.int .i64 st) rfl
    go_enter Try.func41, Try.ntmps41
    go_wp2
    go_ret
    exact ⟨rfl, b1⟩
theorem Ad.same_no {a b : Ad} (h : ¬ (a.fam = b.fam ∧ a.hi = b.hi ∧ a.lo = b.lo)) : ¬ a.same b = true := fun e => h ((Ad.same_eq _ _).1 e)
theorem Ad.same_yes (a : Ad) : a.same a = true := (Ad.same_eq _ _).2 ⟨rfl, rfl, rfl⟩
end Go.Proofs.Ytmjjdbkipagkbaa
