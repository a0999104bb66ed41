/- Texts joined: Parts Byt Anys -/
import Derived.Test.YtebdpiedgjdjeaaFga2
import Derived.Test.YtebdpiedgjdjeaaFga3
import Derived.Laws.BytesArg
import Derived.Laws.MakeOwn
import Derived.Laws.OwnMore
namespace Go.Proofs.Ytebdpiedgjdjeaa
open Go.RowKit
set_option linter.unusedVariables false
/-- A value that the call made: a slice of the bytes l in memory of its own. -/
structure Fresh (w w' : World) (a : Option Addr) (c : Nat) (l : List Int) : Prop where
  owns : Owns w' w.heap.size (.slice a l.length c) l
  room : l.length ≤ c
  nil : a = none → c = 0
  row : Row w' a l
  below : Below w.heap.size w w'
theorem conv_row {w : World} {a : Option Addr} {l : List Int} (h : Row w a l) (c : Nat) : (convert 40 9 (.slice a l.length c)).run Try.prog w = .ok (.string (strOfNums l)) w := by
  cases a with
  | none =>
    have hl : l = [] := by
      cases l with
      | nil => rfl
      | cons y l => obtain ⟨b, off, hh, _⟩ := h.cells (by simp); cases hh
    subst hl
    exact run_convert_bytes_nil w _ 5 Try.underlying40 Try.underlying5 _ _ _ Try.underlying9
  | some x =>
    by_cases hp : 0 < l.length
    · obtain ⟨b, off, hh, hc⟩ := h.cells hp
      cases hh
      exact run_convert_bytes_arg w _ 5 Try.underlying40 Try.underlying5 b off _ _ l rfl hc _ Try.underlying9
    · have hl : l = [] := by cases l with | nil => rfl | cons _ _ => simp at hp
      subst hl
      rw [run_convert_bytes_string w _ _ 5 _ _ _ Try.underlying40 Try.underlying5 Try.underlying9]
      show Sem.run _ (Conv.bytesToString (.slice (some x) 0 c)) w = _
      rw [run_bytesToString w x 0 c [] (by
        have := run_loadCells_list (P := Try.prog) w x [] (fun j v hj => by simp at hj)
        simpa using this)]
      rfl
/-- The n bytes from x on. -/
def part (l : List Int) (x n : Int) : List Int := (l.drop x.toNat).take n.toNat
end Go.Proofs.Ytebdpiedgjdjeaa
namespace Go.Proofs.Ytebdpiedgjdjeaa
open Go.RowKit
set_option linter.unusedVariables false
set_option linter.unusedSimpArgs false
/-- The n lowest bytes of two words, the highest first. -/
def bytesGo : Nat → Int → Int → List Int
  | 0, _, _ => []
  | n + 1, h, l => bytesGo n (h / 256) (l / 256 + h * 72057594037927936 % 18446744073709551616) ++ [l % 256]
def Ad.bytes (a : Ad) : List Int := if a.right then bytesGo (if a.fam = 4 then 4 else 16) a.hi a.lo else []
theorem owns_new {w : World} {B g : Nat} {l : List Int} (hb : B ≤ g) (hm : l.length ≤ maxLen) (hg : w.heap[g]? = some (.cells (l.map (Value.int .u8)).toArray 5 (0, 0))) :
    Owns w B (.slice (some ⟨g, 0, none⟩) l.length l.length) l :=
  ⟨by simp, .inr ⟨g, l.length, _, rfl, hb, hg, Nat.le_refl _, hm, by simp, by rw [Nat.mul_one]; exact List.take_of_length_le (by simp)⟩⟩
theorem put_other {w : World} {a b : Addr} {v : Value} (h : a ≠ b) : (w.setCell a v).cell? b = w.cell? b := by
  apply World.cell?_setCell_other
  exact h
theorem put_same {w : World} {a : Addr} {v u : Value} (h : w.cell? a = some u) : (w.setCell a v).cell? a = some v := by
  apply World.cell?_setCell_same
  exact h
theorem World.heap_new (w : World) (o : Obj) : (w.alloc o).heap[w.heap.size]? = some o := by
  show (w.heap.push o)[w.heap.size]? = _
  simp
end Go.Proofs.Ytebdpiedgjdjeaa
namespace Go.Proofs.Ytebdpiedgjdjeaa
open Go.RowKit
set_option linter.unusedVariables false
theorem Fresh.none (w : World) : Fresh w w none 0 [] := ⟨Owns.nil _ _, Nat.le_refl _, fun _ => rfl, ⟨by simp, M.Bytes.nil, fun h => by simp at h⟩, Below.refl _ _⟩
end Go.Proofs.Ytebdpiedgjdjeaa
