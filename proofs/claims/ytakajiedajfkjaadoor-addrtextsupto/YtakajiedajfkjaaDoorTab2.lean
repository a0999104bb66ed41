/- The listed table of tens. -/
import Derived.Test.YtakajiedajfkjaaDoorArg2
import Derived.Shelf.Strconv.Itoa3
namespace Go.Proofs.YtakajiedajfkjaaDoor
set_option linter.unusedVariables false
set_option maxRecDepth 100000
theorem gTen : Tryd.prog.globalNamed "internal/strconv.uint64pow10" = some 1 := by kernel_rfl
theorem gTenType : (Tryd.prog.globals[1]?).map (·.type) = some 110 := by kernel_rfl
theorem cTen : Tryd.prog.cellsOf 110 = 20 := by kernel_rfl
theorem cU64 : Tryd.prog.cellsOf 22 = 1 := by kernel_rfl
theorem ten_tab {W : World} {x y : String × DataW Unit} {rest : List (String × DataW Unit)} (h : laidMet Tryd.prog (x :: y :: ("internal/strconv.uint64pow10", Rows.laid_internal_strconv_uint64pow10) :: rest) W) : Lib.TabIs Tryd.prog W "internal/strconv.uint64pow10" .u64 Lib.pow10Tab := by
  have h1 : laidMet Tryd.prog (("internal/strconv.uint64pow10", Lib.tabData .u64 Lib.pow10Tab) :: rest) W := h.tail.tail
  exact Lib.tabIs_of_head gTen gTenType Tryd.underlying110 Tryd.underlying22 cU64 cTen h1
end Go.Proofs.YtakajiedajfkjaaDoor
