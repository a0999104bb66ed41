/- Texts joined: CmA -/
import Derived.Test.YtgppfkbapieneaaDoorCfx38
namespace Go.Proofs.YtgppfkbapieneaaDoor
open Go.RowKit
set_option linter.unusedVariables false
set_option linter.unusedSimpArgs false
/-- A cut in memory of one's own. -/
structure CutIn (w : World) (B : Nat) (g1 c1 : Nat) (ka : Option Addr) (kc : Nat) (sa : Option Addr) (sc : Nat) (vs : List Value) (L : List Pt) (K : List Nat) (S : List (List Nat)) : Prop where
  sts : OwnP w B (some ⟨g1, 0, none⟩) c1 L
  cls : OwnI w B ka kc K
  set : SetsO w B sa sc S vs
theorem CutIn.below {w w' : World} {B g1 c1 : Nat} {ka : Option Addr} {kc : Nat} {sa : Option Addr} {sc : Nat} {vs : List Value} {L : List Pt} {K : List Nat} {S : List (List Nat)} (h : CutIn w B g1 c1 ka kc sa sc vs L K S) (hb : Below w.heap.size w w') : CutIn w' B g1 c1 ka kc sa sc vs L K S :=
  ⟨h.sts.below hb, h.cls.below hb, h.set.below hb⟩
/-- What is known of the plain cut. -/
structure CutP (l : List Rl) (d : Nat) (L : List Pt) (K : List Nat) (S : List (List Nat)) : Prop where
  stn : L.map Pt.n = startsL (spns l d)
  ok : ∀ p ∈ L, p.ok
  cls : K = classL (rowL (spns l d))
  set : S = setsL (rowL (spns l d))
  len : K.length = L.length
  few : L.length ≤ 2 * l.length + 1
  num : S.length ≤ L.length
  each : ∀ s ∈ S, s.length ≤ l.length
  right : RightC L (ints K) (S.map ints)
theorem CutIn.rs {w : World} {B g1 c1 : Nat} {ka : Option Addr} {kc : Nat} {sa : Option Addr} {sc : Nat} {vs : List Value} {L : List Pt} {K : List Nat} {S : List (List Nat)} (h : CutIn w B g1 c1 ka kc sa sc vs L K S) {l : List Rl} {d : Nat} (hp : CutP l d L K S) (hl : l.length ≤ 64) : RowS w sa (S.map ints) := h.set.rows (by have := hp.num; have := hp.few; omega) (fun s hs => by have := hp.each s hs; omega)
end Go.Proofs.YtgppfkbapieneaaDoor
