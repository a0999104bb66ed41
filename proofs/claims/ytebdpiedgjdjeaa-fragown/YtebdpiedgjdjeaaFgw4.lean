/- Texts joined: Pre Byt Room -/
import Derived.Test.YtebdpiedgjdjeaaFgw3
import Derived.Laws.OwnMore
import Derived.Laws.MakeOwn
namespace Go.Proofs.Ytebdpiedgjdjeaa
open Go.RowKit
set_option linter.unusedVariables false
set_option linter.unusedSimpArgs false
theorem kept {W w1 : World} {b o : Nat} {v : Value} (hb : Below W.heap.size W w1) (h : W.cell? ⟨b, o, none⟩ = some v) : w1.cell? ⟨b, o, none⟩ = some v :=
  (hb.cell (World.block_lt_of_cell? W _ h)).trans h
/-- Are they one address? -/
def Ad.same (a b : Ad) : Bool := a.fam == b.fam && (a.hi == b.hi && a.lo == b.lo)
def Ad.has (p : Ad) (n : Int) (a : Ad) : Bool := (a.mask n).2 == 0 && (a.mask n).1.same p
/-- The n lowest bytes of two words, the highest first. -/
def bytesGo : Nat → Int → Int → List Int
  | 0, _, _ => []
  | n + 1, h, l => bytesGo n (h / 256) (l / 256 + h * 72057594037927936 % 18446744073709551616) ++ [l % 256]
def Ad.bytes (a : Ad) : List Int := if a.right then bytesGo (if a.fam = 4 then 4 else 16) a.hi a.lo else []
theorem owns_new {w : World} {B g : Nat} {l : List Int} (hb : B ≤ g) (hm : l.length ≤ maxLen) (hg : w.heap[g]? = some (.cells (l.map (Value.int .u8)).toArray 5 (0, 0))) :
    Owns w B (.slice (some ⟨g, 0, none⟩) l.length l.length) l :=
  ⟨by simp, .inr ⟨g, l.length, _, rfl, hb, hg, Nat.le_refl _, hm, by simp, by rw [Nat.mul_one]; exact List.take_of_length_le (by simp)⟩⟩
theorem put_other {w : World} {a b : Addr} {v : Value} (h : a ≠ b) : (w.setCell a v).cell? b = w.cell? b := by
  apply World.cell?_setCell_other
  exact h
theorem put_same {w : World} {a : Addr} {v u : Value} (h : w.cell? a = some u) : (w.setCell a v).cell? a = some v := by
  apply World.cell?_setCell_same
  exact h
theorem World.heap_new (w : World) (o : Obj) : (w.alloc o).heap[w.heap.size]? = some o := by
  show (w.heap.push o)[w.heap.size]? = _
  simp
end Go.Proofs.Ytebdpiedgjdjeaa
namespace Go.Proofs.Ytebdpiedgjdjeaa
open Go.RowKit
set_option linter.unusedVariables false
theorem made_zero (N : Nat) : (madeCells #[Value.int .u8 0] N).toList = List.replicate N (Value.int .u8 0) := by
  apply List.ext_getElem
  · simp [madeCells]
  · intro i h1 h2
    simp [madeCells, Nat.mod_one]
/-- One byte of a slice of the call's own: where it lies, and what writing it does. -/
theorem Owns.write {w : World} {B n c : Nat} {a : Option Addr} {l : List Int} (h : Owns w B (.slice a n c) l) (hl : l.length = n) (k : Nat) (hk : k < n) :
    ∃ g, a = some ⟨g, 0, none⟩ ∧ B ≤ g ∧ g < w.heap.size ∧ w.cell? ⟨g, k, none⟩ = some (.int .u8 (l.getD k 0)) ∧ w.frozen? ⟨g, k, none⟩ = false ∧ ∀ y, Owns (w.setCell ⟨g, k, none⟩ (.int .u8 y)) B (.slice a n c) (l.set k y) := by
  subst hl
  obtain ⟨a', c', h1, _, h2, h3, h4⟩ := h.form
  cases h1
  cases a with
  | none =>
    obtain ⟨_, hh⟩ := h
    rcases hh with ⟨_, h6⟩ | ⟨g, cap, cur, h6, _⟩
    · omega
    · cases h6
  | some x =>
    obtain ⟨g, off, spot⟩ := x
    have := h3 _ rfl
    simp at this
    obtain ⟨h5, rfl, rfl⟩ := this
    have hc := World.ownsRow.cellAt (e := 5) (size := 1) h k (by omega)
    refine ⟨g, rfl, h5, ?_, ?_, h.frozen k, fun y => h.stored k y⟩
    · exact (World.ownsRow.lt h g rfl).2
    · rw [hc]; simp [hk]
theorem Owns.other {w : World} {B : Nat} {v : Value} {l : List Int} (h : Owns w B v l) {ad : Addr} (ha : ad.block < B) (u : Value) : Owns (w.setCell ad u) B v l := ownsRow_setCell_below h ha u
end Go.Proofs.Ytebdpiedgjdjeaa
