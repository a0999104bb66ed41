/- The reference's numbers of two and four bytes are the program's. -/
import Derived.Test.YtpklhkoclcpjbabParts
namespace Go.Proofs.Ytpklhkoclcpjbab
open Go.RowKit
set_option linter.unusedVariables false

end Go.Proofs.Ytpklhkoclcpjbab
