/- Bytes that are turned. -/
import Derived.Test.YtgdpcomcndidcaaBits
namespace Go.Proofs.Ytgdpcomcndidcaa
open Go.RowKit
set_option linter.unusedVariables false
set_option linter.unusedSimpArgs false

theorem xor_ne (x y : Int) (hx : 0 ≤ x ∧ x ≤ 255) (hy : 0 < y ∧ y ≤ 255) : bits .xor .u8 x y ≠ x := by
  obtain ⟨a, rfl⟩ := Int.eq_ofNat_of_zero_le hx.1
  obtain ⟨b, rfl⟩ := Int.eq_ofNat_of_zero_le (Int.le_of_lt hy.1)
  have h : ∀ a b : Fin 256, 0 < b.val → bits .xor .u8 (a.val : Int) (b.val : Int) ≠ (a.val : Int) := by decide +kernel
  exact h ⟨a, by omega⟩ ⟨b, by omega⟩ (by show 0 < b; omega)

end Go.Proofs.Ytgdpcomcndidcaa
