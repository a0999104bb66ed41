/- Texts joined: Sum -/
import Derived.Test.YtmmnjjcopdabcaaTcx0
import Derived.Test.YtmmnjjcopdabcaaTcx1
import Derived.Test.YtmmnjjcopdabcaaRows
import Derived.WalkKit
namespace Go.Proofs.Ytmmnjjcopdabcaa
open Go.RowKit
set_option linter.unusedVariables false
/-- A slice value of 'l.length' bytes from a on reads as the numbers l. -/
structure Row (w : World) (a : Option Addr) (l : List Int) : Prop where
 small : l.length ≤ 140737488355328
 bytes : M.Bytes l
 cells : 0 < l.length → ∃ b off, a = some ⟨b, off, none⟩ ∧ ∀ i, i < l.length → w.cell? ⟨b, off + i, none⟩ = some (.int .u8 (l.getD i 0))
/-- A slice value of 'ls.length' parts from a on reads as ls. -/
structure Rowss (w : World) (a : Option Addr) (ls : List (List Int)) : Prop where
 small : ls.length ≤ 140737488355328
 cells : 0 < ls.length → ∃ b off, a = some ⟨b, off, none⟩ ∧ ∀ i, i < ls.length → ∃ a' c', w.cell? ⟨b, off + i, none⟩ = some (.slice a' (ls.getD i []).length c') ∧ Row w a' (ls.getD i [])
theorem Rowss.all {w : World} {a : Option Addr} {ls : List (List Int)} (h : Rowss w a ls) : M.AllBytes ls := by
 intro i hi
 obtain ⟨b, off, _, hc⟩ := h.cells (by omega)
 obtain ⟨_, _, _, hr⟩ := hc i hi
 exact hr.bytes
end Go.Proofs.Ytmmnjjcopdabcaa
