/- Texts joined: FgQ -/
import Derived.Test.YtebdpiedgjdjeaaFga23
namespace Go.Proofs.Ytebdpiedgjdjeaa
open Go.RowKit
set_option linter.unusedVariables false
set_option linter.unusedSimpArgs false
set_option maxRecDepth 100000 in
set_option maxHeartbeats 4000000 in
theorem fGrams_at (g mb n : Nat) (D : DataW Value) (w : World) (h : w.cell? ⟨g, 0, none⟩ = some (.bool true)) (h' : w.cell? ⟨g, 6, none⟩ = some (.map (some mb))) (hm : OwnsG w mb n D) : Calls Try.prog 20 #[.pointer (some ⟨g, 0, none⟩)] w fun e w' => e = .returned (.int .i64 (Maps.size D)) ∧ w' = w := by
  have K := isMade_at g true w h
  have hl := len_G hm 3
  clear hm
  go_enter Try.func20, Try.ntmps20
  go_wp2_with fail
  refine Calls.mono K ?_
  rintro e w' ⟨rfl, rfl⟩
  go_wp2
  go_ret
  exact ⟨rfl, rfl⟩
end Go.Proofs.Ytebdpiedgjdjeaa
