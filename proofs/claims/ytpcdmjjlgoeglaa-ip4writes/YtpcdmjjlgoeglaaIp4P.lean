/- Parse of ip4 answers as the document says. -/
import Derived.Test.YtpcdmjjlgoeglaaIp4Pa
import Derived.Test.YtpcdmjjlgoeglaaIp4Pb
import Derived.Test.YtpcdmjjlgoeglaaIp4Pc
import Derived.Test.YtpcdmjjlgoeglaaIp4Pd
namespace Go.Proofs.Ytpcdmjjlgoeglaa
open Go.RowKit
set_option linter.unusedVariables false

theorem perr_vals (l : List Int) : perr l = 2 ∨ perr l = 3 ∨ perr l = 4 ∨ perr l = 5 ∨ perr l = 6 ∨ perr l = 26 ∨ perr l = 10 ∨ (perr l = 7 ∨ perr l = 8) ∨ perr l = 11 ∨ perr l = 0 := by
  have h3 := optsGo_vals ((l.take (hd l).toNat).drop 20).length ((l.take (hd l).toNat).drop 20)
  unfold perr opts
  repeat' split
  all_goals omega

theorem parse_any (a : Option Addr) (c : Nat) (l : List Int) (w : World) (h : Row w a l) (hnil : a = none → c = 0) (hll : l.length ≤ 140737488351232) (hc : l.length ≤ c) (hcm : c ≤ 9223372036854775807) :
    Calls Try.prog 9 #[.slice a l.length c] w fun e w' => ∃ a' c', e = .returned (.tuple #[(parsed l).v (.slice none 0 0) (.slice a' (parsed l).data.length c'), .int .i64 (perr l)]) ∧ Fresh w w' a' c' (parsed l).data := by
  rcases perr_vals l with h' | h' | h' | h' | h' | h' | h' | h' | h' | h'
  · exact parse_e2 a c l w h hnil hll hc hcm h'
  · exact parse_e3 a c l w h hnil hll hc hcm h'
  · exact parse_e4 a c l w h hnil hll hc hcm h'
  · exact parse_e5 a c l w h hnil hll hc hcm h'
  · exact parse_e6 a c l w h hnil hll hc hcm h'
  · exact parse_e26 a c l w h hnil hll hc hcm h'
  · exact parse_e10 a c l w h hnil hll hc hcm h'
  · exact parse_eO a c l w h hnil hll hc hcm h'
  · exact parse_e11 a c l w h hnil hll hc hcm h'
  · exact parse_e0 a c l w h hnil hll hc hcm h'
end Go.Proofs.Ytpcdmjjlgoeglaa
