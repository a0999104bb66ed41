/- The bytes of an address. -/
import Derived.Test.YtmlddgmkbbaccaaParts
import Derived.Test.YtmlddgmkbbaccaaPre
import Derived.Laws.OwnMore
namespace Go.Proofs.Ytmlddgmkbbaccaa
open Go.RowKit
set_option linter.unusedVariables false
set_option linter.unusedSimpArgs false

/-- The n lowest bytes of two words, the highest first. -/
def bytesGo : Nat → Int → Int → List Int
  | 0, _, _ => []
  | n + 1, h, l => bytesGo n (h / 256) (l / 256 + h * 72057594037927936 % 18446744073709551616) ++ [l % 256]
theorem bytesGo_length : ∀ (n : Nat) (h l : Int), (bytesGo n h l).length = n
  | 0, _, _ => rfl
  | n + 1, h, l => by simp [bytesGo, bytesGo_length n]
def Ad.bytes (a : Ad) : List Int := if a.right then bytesGo (if a.fam = 4 then 4 else 16) a.hi a.lo else []
theorem or_comm64 (x y : Int) : bits .or .u64 x y = bits .or .u64 y x := by
  show IntKind.u64.wrap ((BitVec.ofInt 64 x ||| BitVec.ofInt 64 y).toNat : Int) = IntKind.u64.wrap ((BitVec.ofInt 64 y ||| BitVec.ofInt 64 x).toNat : Int)
  rw [BitVec.or_comm]
theorem or_high (x y : Int) (hx0 : 0 ≤ x) (hx1 : x < 72057594037927936) (hy0 : 0 ≤ y) : bits .or .u64 x (IntKind.u64.wrap (y * 72057594037927936)) = x + y * 72057594037927936 % 18446744073709551616 := by
  rw [IntKind.wrap_u64, or_comm64]
  rw [bits_join .u64 64 (by decide) (fun n h₀ h₁ => by rw [IntKind.wrap_u64]; omega) 56 _ x (by omega) (by omega) (by omega) hx0 (by omega) (by omega)]
  omega

theorem owns_new {w : World} {B g : Nat} {l : List Int} (hb : B ≤ g) (hm : l.length ≤ maxLen) (hg : w.heap[g]? = some (.cells (l.map (Value.int .u8)).toArray 5 (0, 0))) :
    Owns w B (.slice (some ⟨g, 0, none⟩) l.length l.length) l :=
  ⟨by simp, .inr ⟨g, l.length, _, rfl, hb, hg, Nat.le_refl _, hm, by simp, by rw [Nat.mul_one]; exact List.take_of_length_le (by simp)⟩⟩

theorem put_other {w : World} {a b : Addr} {v : Value} (h : a ≠ b) : (w.setCell a v).cell? b = w.cell? b := by
  apply World.cell?_setCell_other
  exact h
theorem put_same {w : World} {a : Addr} {v u : Value} (h : w.cell? a = some u) : (w.setCell a v).cell? a = some v := by
  apply World.cell?_setCell_same
  exact h
theorem made_zeros (N : Nat) : (madeCells #[Value.int .u8 0] N).toList = List.replicate N (Value.int .u8 0) := by
  apply List.ext_getElem
  · simp [madeCells]
  · intro i h1 h2
    simp [madeCells, Nat.mod_one]
theorem owns_le {w : World} {B B' : Nat} {v : Value} {l : List Int} (h : B' ≤ B) (o : Owns w B v l) : Owns w B' v l := by
  obtain ⟨h1, h2⟩ := o
  refine ⟨h1, ?_⟩
  rcases h2 with h2 | ⟨g, cap, cur, h3, h4, h5⟩
  · exact .inl h2
  · exact .inr ⟨g, cap, cur, h3, Nat.le_trans h h4, h5⟩
theorem World.heap_new (w : World) (o : Obj) : (w.alloc o).heap[w.heap.size]? = some o := by
  show (w.heap.push o)[w.heap.size]? = _
  simp

end Go.Proofs.Ytmlddgmkbbaccaa
