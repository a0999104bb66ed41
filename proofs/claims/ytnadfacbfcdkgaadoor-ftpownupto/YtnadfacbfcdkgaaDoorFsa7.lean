/- Texts joined: Lz Hex Byt Txt Tx4 Rd -/
import Derived.Test.YtnadfacbfcdkgaaDoorFsa6
import Derived.Laws.OwnMore
import Derived.Test.YtnadfacbfcdkgaaDoorShelf
import Derived.Lib.Join
import Derived.Deep.RegionHeld3
import Derived.Lib.SmallJoins
import Derived.Lib.AppendIntMem
import Derived.Deep.DeepCutAuto
namespace Go.Proofs.YtnadfacbfcdkgaaDoor
open Go.RowKit
set_option linter.unusedVariables false
set_option linter.unusedSimpArgs false
/-- Where the longest row begins, and how many it has: i words gone, the row at hand has run. -/
def lzGo : List Bool → Nat → Nat → Nat → Nat → Nat × Nat
  | [], _, at_, n, _ => (at_, n)
  | z :: zs, i, at_, n, run => if z then (if n < run + 1 then lzGo zs (i + 1) (i + 1 - (run + 1)) (run + 1) (run + 1) else lzGo zs (i + 1) at_ n (run + 1)) else lzGo zs (i + 1) at_ n 0
def isZero (x : ByteArray) : Bool := decide (x = ByteArray.mk #[48])
def lz (xs : List ByteArray) : Nat × Nat := lzGo (xs.map isZero) 0 0 0 0
/-- A hexadecimal digit. -/
def hd (k : Nat) : Int := if k < 10 then 48 + k else 87 + k
/-- How many digits. -/
def nd (U : Nat) : Nat := if U < 16 then 1 else if U < 256 then 2 else if U < 4096 then 3 else 4
def hexL (U : Nat) : List Int := (List.range (nd U)).map fun t => hd (U / 16 ^ (nd U - 1 - t) % 16)
/-- The n lowest bytes of two words, the highest first. -/
def bytesGo : Nat → Int → Int → List Int
  | 0, _, _ => []
  | n + 1, h, l => bytesGo n (h / 256) (l / 256 + h * 72057594037927936 % 18446744073709551616) ++ [l % 256]
def Ad.bytes (a : Ad) : List Int := if a.right then bytesGo (if a.fam = 4 then 4 else 16) a.hi a.lo else []
theorem put_other {w : World} {a b : Addr} {v : Value} (h : a ≠ b) : (w.setCell a v).cell? b = w.cell? b := by
  apply World.cell?_setCell_other
  exact h
theorem put_same {w : World} {a : Addr} {v u : Value} (h : w.cell? a = some u) : (w.setCell a v).cell? a = some v := by
  apply World.cell?_setCell_same
  exact h
/-- The number of the two bytes at a place. -/
def word (b : List Int) (i : Nat) : Nat := (256 * b.getD (2 * i) 0 + b.getD (2 * i + 1) 0).toNat
/-- The words of sixteen bytes. -/
def words (b : List Int) : List ByteArray := (List.range 8).map fun i => strOfNums (hexL (word b i))
/-- Words with a colon between. -/
def joinW (xs : List ByteArray) : List UInt8 := Lib.join (xs.map (·.data.toList)) [58]
def text6 (b : List Int) : List UInt8 :=
  if (lz (words b)).2 < 2 then joinW (words b)
  else joinW ((words b).take (lz (words b)).1) ++ [58, 58] ++ joinW ((words b).drop ((lz (words b)).1 + (lz (words b)).2))
end Go.Proofs.YtnadfacbfcdkgaaDoor
namespace Go.Proofs.YtnadfacbfcdkgaaDoor
open Go.RowKit Go.Sort
set_option linter.unusedVariables false
set_option linter.unusedSimpArgs false
def dec (x : Int) : ByteArray := ⟨(Lib.itoa x).toArray⟩
def words4 (b : List Int) : List ByteArray := b.map dec
def text4 (b : List Int) : List UInt8 := Lib.join ((words4 b).map (·.data.toList)) [46]
/-- The text of an address. -/
def Ad.text (a : Ad) : List UInt8 := if a.right then (if a.fam = 4 then text4 a.bytes else text6 a.bytes) else []
end Go.Proofs.YtnadfacbfcdkgaaDoor
namespace Go.Proofs.YtnadfacbfcdkgaaDoor
set_option linter.unusedVariables false
set_option linter.unusedSimpArgs false
theorem index_none (c : UInt8) : ∀ (x : List UInt8), c ∉ x → Lib.index x [c] = -1
  | [], _ => rfl
  | b :: l, h => by
    have h1 : ¬ c = b := fun e => h (by rw [e]; exact List.mem_cons_self ..)
    have ih := index_none c l (fun hm => h (List.mem_cons_of_mem _ hm))
    unfold Lib.index
    rw [if_neg (by simp [List.isPrefixOf, h1]), ih]
    rfl
theorem index_at (c : UInt8) : ∀ (x t : List UInt8), c ∉ x → Lib.index (x ++ c :: t) [c] = (x.length : Int)
  | [], t, _ => by
    show Lib.index (c :: t) [c] = 0
    unfold Lib.index
    rw [if_pos (by simp [List.isPrefixOf])]
  | b :: l, t, h => by
    have h1 : ¬ c = b := fun e => h (by rw [e]; exact List.mem_cons_self ..)
    have ih := index_at c l t (fun hm => h (List.mem_cons_of_mem _ hm))
    show Lib.index (b :: (l ++ c :: t)) [c] = _
    unfold Lib.index
    rw [if_neg (by simp [List.isPrefixOf, h1]), ih]
    rw [if_neg (by simp <;> omega)]
    simp
theorem split_none (c : UInt8) (s : List UInt8) (k : Nat) (h : c ∉ s) : Lib.splitK [c] 0 k s = [s] := by
  cases k with
  | zero => rfl
  | succ k => unfold Lib.splitK; rw [index_none c s h]; rfl
end Go.Proofs.YtnadfacbfcdkgaaDoor
