/- Texts joined: Pre Byt Room -/
import Derived.Test.YtmmnjjcopdabcaaTcx4
import Derived.Test.YtmmnjjcopdabcaaTcx5
import Derived.Laws.OwnMore
import Derived.Laws.BytesArg
import Derived.Laws.MakeOwn
namespace Go.Proofs.Ytmmnjjcopdabcaa
open Go.RowKit
set_option linter.unusedVariables false
set_option linter.unusedSimpArgs false
theorem kept {W w1 : World} {b o : Nat} {v : Value} (hb : Below W.heap.size W w1) (h : W.cell? ⟨b, o, none⟩ = some v) : w1.cell? ⟨b, o, none⟩ = some v :=
 (hb.cell (World.block_lt_of_cell? W _ h)).trans h
/-- Are they one address? -/
def Ad.same (a b : Ad) : Bool := a.fam == b.fam && (a.hi == b.hi && a.lo == b.lo)
def Ad.has (p : Ad) (n : Int) (a : Ad) : Bool := (a.mask n).2 == 0 && (a.mask n).1.same p
def Ad.rightPrefix (p : Ad) (n : Int) : Bool := p.has n p
/-- The n lowest bytes of two words, the highest first. -/
def bytesGo : Nat → Int → Int → List Int
 | 0, _, _ => []
 | n + 1, h, l => bytesGo n (h / 256) (l / 256 + h * 72057594037927936 % 18446744073709551616) ++ [l % 256]
def Ad.bytes (a : Ad) : List Int := if a.right then bytesGo (if a.fam = 4 then 4 else 16) a.hi a.lo else []
theorem put_other {w : World} {a b : Addr} {v : Value} (h : a ≠ b) : (w.setCell a v).cell? b = w.cell? b := by
 apply World.cell?_setCell_other
 exact h
end Go.Proofs.Ytmmnjjcopdabcaa
namespace Go.Proofs.Ytmmnjjcopdabcaa
open Go.RowKit
set_option linter.unusedVariables false
theorem Owns.other {w : World} {B : Nat} {v : Value} {l : List Int} (h : Owns w B v l) {ad : Addr} (ha : ad.block < B) (u : Value) : Owns (w.setCell ad u) B v l := ownsRow_setCell_below h ha u
end Go.Proofs.Ytmmnjjcopdabcaa
