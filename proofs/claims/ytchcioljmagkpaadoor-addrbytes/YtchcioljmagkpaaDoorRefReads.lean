/- The reference's numbers of two and four bytes are the program's. -/
import Derived.Test.YtchcioljmagkpaaDoorParts
namespace Go.Proofs.YtchcioljmagkpaaDoor
open Go.RowKit
set_option linter.unusedVariables false

end Go.Proofs.YtchcioljmagkpaaDoor
