/- Parse of ip6, whatever it is handed. -/
import Derived.Test.YtaohabpnenoegaaIp6Ia
import Derived.Test.YtaohabpnenoegaaIp6Ib
import Derived.Test.YtaohabpnenoegaaIp6Ic
namespace Go.Proofs.Ytaohabpnenoegaa
open Go.RowKit
set_option linter.unusedVariables false

theorem parse6_any (a : Option Addr) (c : Nat) (l : List Int) (w : World) (h : Row w a l) (hnil : a = none → c = 0) (hll : l.length ≤ 140737488351232) (hc : l.length ≤ c) (hcm : c ≤ 9223372036854775807) :
    Calls Try.prog 15 #[.slice a l.length c] w (Got6 w l) := by
  by_cases h40 : l.length < 40
  · exact parse6_e2 a c l w h hnil hll hc hcm h40
  by_cases hv : l.getD 0 0 / 16 = 6
  · by_cases h5 : u16 l 4 > (l.length : Int) - 40
    · exact parse6_e5 a c l w h hnil hll hc hcm h40 hv h5
    · by_cases h7 : l.getD 7 0 = 0
      · exact parse6_e26 a c l w h hnil hll hc hcm h40 hv h5 h7
      · by_cases hT : (T6 l).1 = 0
        · cases hcu : (T6 l).2.cut with
          | false => exact parse6_x0 a c l w h hnil hll hc hcm h40 hv h5 h7 hT hcu
          | true =>
            by_cases hw : wrongp (T6 l).2 = 0
            · exact parse6_xG a c l w h hnil hll hc hcm h40 hv h5 h7 hT hcu hw
            · exact parse6_xF a c l w h hnil hll hc hcm h40 hv h5 h7 hT hcu hw
        · exact parse6_eW a c l w h hnil hll hc hcm h40 hv h5 h7 hT
  · exact parse6_e3 a c l w h hnil hll hc hcm h40 hv
end Go.Proofs.Ytaohabpnenoegaa
