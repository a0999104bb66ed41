/- Texts joined: FtL -/
import Derived.Test.YtnadfacbfcdkgaaDoorFsa29
namespace Go.Proofs.YtnadfacbfcdkgaaDoor
open Go.RowKit
set_option linter.unusedVariables false
set_option linter.unusedSimpArgs false
theorem askT_ite (c : Prop) [Decidable c] (a b : Option As) : askT (if c then a else b) = if c then askT a else askT b := by split <;> rfl
end Go.Proofs.YtnadfacbfcdkgaaDoor
