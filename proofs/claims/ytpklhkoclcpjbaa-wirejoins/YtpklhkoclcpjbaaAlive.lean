/- The law's own example holds: a number is read, and a sum is made. -/
import Derived.Test.YtpklhkoclcpjbaaReads
import Derived.Test.YtpklhkoclcpjbaaCheck
import Derived.Test.YtpklhkoclcpjbaaMem
namespace Go.Proofs.Ytpklhkoclcpjbaa
open Go.RowKit
set_option linter.unusedVariables false

set_option maxHeartbeats 400000 in
theorem alive_any (w : World) :
    Calls Try.prog 16 #[] w fun e w' => e = .returned (.bool true) ∧ Below w.heap.size w w' := by
  go_enter Try.func16, Try.ntmps16
  go_wp2_with fail
  refine (u16_yes _ _ [1, 2, 3] 1 _ ?_ (by decide) (by decide)).mono ?_
  · exact row_new w 5 [1, 2, 3] (by decide) (M.Bytes.of (by decide))
  rintro e w' ⟨rfl, n, rfl⟩
  have e1 : u16 [1, 2, 3] 1 = 515 := by decide
  go_wp2_with fail
  refine (sum_any _ _ [[69], [0, 1]] _ ?_).mono ?_
  · exact rowss_two _ 22 _ (by simp) _ _ 1 2 [69] [0, 1] ((row_at _ 5 [69] _ (by simp) (by decide) (M.Bytes.of (by decide))).alloc _) (row_at _ 5 [0, 1] _ (by simp) (by decide) (M.Bytes.of (by decide)))
  rintro e w' ⟨rfl, rfl⟩
  have e2 : M.sumOf [[69], [0, 1]] = 17920 := by decide
  go_wp2_with fail
  refine (check_any _ _ [[0, 1]] _ ?_).mono ?_
  · exact rowss_one _ 22 _ (by simp) _ 2 [0, 1] (row_at _ 5 [0, 1] _ (by simp) (by decide) (M.Bytes.of (by decide)))
  rintro e w' ⟨rfl, rfl⟩
  have e3 : M.sumOf [[0, 1]] = 1 := by decide
  go_wp2_with fail
  go_ret
  refine ⟨rfl, ?_⟩
  repeat (first | exact Below.refl _ _ | refine below_drewN ?_ _ | refine Below.alloc ?_ (by simp <;> omega) _)
end Go.Proofs.Ytpklhkoclcpjbaa
