/- The document's own reading of a packet answers as the plain one. -/
import Derived.Test.YtpcdmjjlgoeglaaIp4P
import Derived.Test.YtpcdmjjlgoeglaaIp4Ra
import Derived.Test.YtpcdmjjlgoeglaaIp4Rb
import Derived.Test.YtpcdmjjlgoeglaaIp4Rc
import Derived.Test.YtpcdmjjlgoeglaaIp4Rd
namespace Go.Proofs.Ytpcdmjjlgoeglaa
open Go.RowKit
set_option linter.unusedVariables false

theorem rparse_any (a : Option Addr) (c : Nat) (l : List Int) (w : World) (h : Row w a l) (hnil : a = none → c = 0) (hll : l.length ≤ 140737488351232) (hc : l.length ≤ c) (hcm : c ≤ 9223372036854775807) :
    Calls Try.prog 10 #[.slice a l.length c] w fun e w' => ∃ a' c', e = .returned (.tuple #[(parsed l).v (.slice none 0 0) (.slice a' (parsed l).data.length c'), .int .i64 (perr l)]) ∧ Fresh w w' a' c' (parsed l).data := by
  rcases perr_vals l with h' | h' | h' | h' | h' | h' | h' | h' | h' | h'
  · exact rparse_e2 a c l w h hnil hll hc hcm h'
  · exact rparse_e3 a c l w h hnil hll hc hcm h'
  · exact rparse_e4 a c l w h hnil hll hc hcm h'
  · exact rparse_e5 a c l w h hnil hll hc hcm h'
  · exact rparse_e6 a c l w h hnil hll hc hcm h'
  · exact rparse_e26 a c l w h hnil hll hc hcm h'
  · exact rparse_e10 a c l w h hnil hll hc hcm h'
  · exact rparse_eO a c l w h hnil hll hc hcm h'
  · exact rparse_e11 a c l w h hnil hll hc hcm h'
  · exact rparse_e0 a c l w h hnil hll hc hcm h'
end Go.Proofs.Ytpcdmjjlgoeglaa
