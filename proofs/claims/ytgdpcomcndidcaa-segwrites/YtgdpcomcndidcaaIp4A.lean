/- The options of a header, and a header's numbers by the functions made where they are used. -/
import Derived.Test.YtgdpcomcndidcaaIp4M
import Derived.Test.YtgdpcomcndidcaaFrm
namespace Go.Proofs.Ytgdpcomcndidcaa
open Go.RowKit
set_option linter.unusedVariables false
set_option linter.unusedSimpArgs false

def sliceLen : Value → Nat
  | .slice _ n _ => n
  | _ => 0
theorem sliceLen_slice (a : Option Addr) (n c : Nat) : sliceLen (.slice a n c) = n := rfl

end Go.Proofs.Ytgdpcomcndidcaa
