/- Texts joined: Mem -/
import Derived.Test.YtmmnjjcopdabcaaTcx2
import Derived.Below
import Derived.Deep.Draws
import Derived.Laws.World
namespace Go.Proofs.Ytmmnjjcopdabcaa
open Go.RowKit
set_option linter.unusedVariables false
theorem Row.below {w w' : World} {a : Option Addr} {l : List Int} (h : Row w a l) (hb : Below w.heap.size w w') : Row w' a l :=
 ⟨h.small, h.bytes, fun hl => by
  obtain ⟨b, off, ha, hc⟩ := h.cells hl
  exact ⟨b, off, ha, fun i hi => (hb.cell (World.block_lt_of_cell? w _ (hc i hi))).trans (hc i hi)⟩⟩
theorem Rowss.below {w w' : World} {a : Option Addr} {ls : List (List Int)} (h : Rowss w a ls) (hb : Below w.heap.size w w') : Rowss w' a ls :=
 ⟨h.small, fun hl => by
  obtain ⟨b, off, ha, hc⟩ := h.cells hl
  refine ⟨b, off, ha, fun i hi => ?_⟩
  obtain ⟨a', c', h1, h2⟩ := hc i hi
  exact ⟨a', c', (hb.cell (World.block_lt_of_cell? w _ h1)).trans h1, h2.below hb⟩⟩
theorem Row.alloc {w : World} {a : Option Addr} {l : List Int} (h : Row w a l) (o : Obj) : Row (w.alloc o) a l := h.below ((Below.refl _ _).alloc (Nat.le_refl _) o)
theorem Row.take {w : World} {a : Option Addr} {l : List Int} (h : Row w a l) (k : Nat) : Row w a (l.take k) := by
 have hle : (l.take k).length ≤ l.length := List.length_take_le' _ _
 have := h.small
 refine ⟨by omega, h.bytes.take k, fun hp => ?_⟩
 obtain ⟨b, off, ha, hc⟩ := h.cells (by omega)
 refine ⟨b, off, ha, fun i hi => ?_⟩
 rw [hc i (by omega)]
 have : i < k := by simp at hi; omega
 simp [this]
end Go.Proofs.Ytmmnjjcopdabcaa
