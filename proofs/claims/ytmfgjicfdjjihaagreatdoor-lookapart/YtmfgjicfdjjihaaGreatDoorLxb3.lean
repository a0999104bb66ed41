/- Texts joined: RfcOwnWalk -/
import Derived.Test.YtmfgjicfdjjihaaGreatDoorLxa0
import Derived.Test.YtmfgjicfdjjihaaGreatDoorLxa1
import Derived.Test.YtmfgjicfdjjihaaGreatDoorLxa2
import Derived.Test.YtmfgjicfdjjihaaGreatDoorLxa3
import Derived.Test.YtmfgjicfdjjihaaGreatDoorLxa4
import Derived.Test.YtmfgjicfdjjihaaGreatDoorLxa5
import Derived.Test.YtmfgjicfdjjihaaGreatDoorLxa6
import Derived.Test.YtmfgjicfdjjihaaGreatDoorLxa7
import Derived.Test.YtmfgjicfdjjihaaGreatDoorLxa8
import Derived.Test.YtmfgjicfdjjihaaGreatDoorLxa9
import Derived.Test.YtmfgjicfdjjihaaGreatDoorLxa10
import Derived.Test.YtmfgjicfdjjihaaGreatDoorLxa11
import Derived.Test.YtmfgjicfdjjihaaGreatDoorLxa12
import Derived.Test.YtmfgjicfdjjihaaGreatDoorLxa13
import Derived.Test.YtmfgjicfdjjihaaGreatDoorLxa14
import Derived.Test.YtmfgjicfdjjihaaGreatDoorLxa15
import Derived.Test.YtmfgjicfdjjihaaGreatDoorLxa16
import Derived.Test.YtmfgjicfdjjihaaGreatDoorLxa17
import Derived.Test.YtmfgjicfdjjihaaGreatDoorLxa18
import Derived.Test.YtmfgjicfdjjihaaGreatDoorLxa19
import Derived.Test.YtmfgjicfdjjihaaGreatDoorLxa20
import Derived.Test.YtmfgjicfdjjihaaGreatDoorLxa21
import Derived.Test.YtmfgjicfdjjihaaGreatDoorLxa22
import Derived.Test.YtmfgjicfdjjihaaGreatDoorLxa23
import Derived.Test.YtmfgjicfdjjihaaGreatDoorLxa24
import Derived.Test.YtmfgjicfdjjihaaGreatDoorLxa25
import Derived.Test.YtmfgjicfdjjihaaGreatDoorLxa26
import Derived.Test.YtmfgjicfdjjihaaGreatDoorLxa27
import Derived.Test.YtmfgjicfdjjihaaGreatDoorLxa28
import Derived.Test.YtmfgjicfdjjihaaGreatDoorLxa29
import Derived.Test.YtmfgjicfdjjihaaGreatDoorLxa30
import Derived.Test.YtmfgjicfdjjihaaGreatDoorLxa31
import Derived.Test.YtmfgjicfdjjihaaGreatDoorLxa32
import Derived.Test.YtmfgjicfdjjihaaGreatDoorLxa33
import Derived.Test.YtmfgjicfdjjihaaGreatDoorLxa34
import Derived.Test.YtmfgjicfdjjihaaGreatDoorLxa35
import Derived.Test.YtmfgjicfdjjihaaGreatDoorLxa36
import Derived.Test.YtmfgjicfdjjihaaGreatDoorLxa37
import Derived.Test.YtmfgjicfdjjihaaGreatDoorLxa38
import Derived.Test.YtmfgjicfdjjihaaGreatDoorLxa39
import Derived.Test.YtmfgjicfdjjihaaGreatDoorLxa40
import Derived.Test.YtmfgjicfdjjihaaGreatDoorLxa41
import Derived.Test.YtmfgjicfdjjihaaGreatDoorLxa42
import Derived.Test.YtmfgjicfdjjihaaGreatDoorLxb2
import Derived.Test.YtmfgjicfdjjihaaGreatDoorShelf
import Derived.Sort.OwnSortedInts
import Derived.Deep.WholeRow
import Derived.BigRegion
import Derived.Deep.RegionHeld3
import Derived.Laws.BytesArg
import Derived.Laws.MakeOwn
import Derived.Deep.QuietTactic
import Derived.BigQuiet
import Derived.Test.YtmfgjicfdjjihaaGreatDoorRows
import Derived.WalkKit
import Derived.Laws.BitsAllLaws
import Derived.Laws.BitsLemmas
import Derived.Laws.Bits128
import Derived.Laws.AppendOwn
import Derived.Laws.AppendOwnNone
import Derived.Laws.OwnMore
import Derived.OwnWalk
import Derived.KernelRfl
import Derived.Below
import Derived.Deep.Draws
import Derived.Laws.World
import Derived.Laws.Shifts
import Derived.Laws.ShiftsVarLaws
import Derived.Laws.StructEq
import Derived.Deep.RegionWith
import Derived.Deep.DeepCutAuto
import Derived.Deep.AppendLies
import Derived.RegionTactic
import Derived.Sort.Grow
import Derived.Laws.Bits64b
namespace Go.Proofs.YtmfgjicfdjjihaaGreatDoor
open Go.RowKit
set_option linter.unusedVariables false
set_option linter.unusedSimpArgs false
/-- A row of one's own, whatever it holds. -/
def Wk (w : World) (B : Nat) (t : TypeId) (a : Option Addr) (n c : Nat) : Prop := ∃ xs, w.ownsRow B t 1 (.slice a n c) n xs
theorem Wk.put {w : World} {B : Nat} {t : TypeId} {a : Option Addr} {n c : Nat} (h : Wk w B t a n c) {g : Nat} {t0 : TypeId} {cs : Array Value} (hb : Blk w g t0 cs) (i : Nat) (v : Value) : Wk (w.setCell ⟨g, i, none⟩ v) B t a n c := by
 obtain ⟨xs, h⟩ := h
 rw [setCell_eq_setRow w g i cs t0 (0, 0) v hb]
 exact ownsRow_set h hb _ (by simp)
theorem Wk.below {w w' : World} {B : Nat} {t : TypeId} {a : Option Addr} {n c : Nat} (h : Wk w B t a n c) (hb : Below w.heap.size w w') : Wk w' B t a n c := by
 obtain ⟨xs, h⟩ := h
 exact ⟨xs, ownsRow_low h hb⟩
theorem Wk.at_ {w : World} {B : Nat} {t : TypeId} {a : Option Addr} {n c : Nat} (h : Wk w B t a n c) {i : Nat} (hi : i < n) : ∃ g cur v, a = some ⟨g, 0, none⟩ ∧ B ≤ g ∧ Blk w g t cur ∧ w.cell? ⟨g, i, none⟩ = some v := by
 obtain ⟨xs, h⟩ := h
 obtain ⟨g, cur, v, e1, e2, e3, _, e5, _⟩ := own_at h hi
 exact ⟨g, cur, v, e1, e2, e3, e5⟩
structure CrW (w : World) (B : Nat) (x : CrM) : Prop where
 k : Wk w B 3 x.ka x.K.length x.kc
 row : w.ownsRow B 24 1 (.slice x.sa x.S.length x.sc) x.S.length x.vs
 each : ∀ (i : Nat) (s : List Nat), x.S[i]? = some s → ∃ ai ci, x.vs[i]? = some (Value.slice ai s.length ci) ∧ Wk w B 3 ai s.length ci
structure TabW (w : World) (B : Nat) (xa : Option Addr) (xc : Nat) (X : List CrM) (fa : Option Addr) (fn fc : Nat) : Prop where
 row : w.ownsRow B 60 3 (.slice xa X.length xc) X.length (fl CrM.v X)
 each : ∀ x ∈ X, CrW w B x
 f : Wk w B 3 fa fn fc
theorem TabW.put {w : World} {B : Nat} {xa : Option Addr} {xc : Nat} {X : List CrM} {fa : Option Addr} {fn fc : Nat} (h : TabW w B xa xc X fa fn fc) {g : Nat} {cs : Array Value} (hb : Blk w g 3 cs) (i : Nat) (v : Value) : TabW (w.setCell ⟨g, i, none⟩ v) B xa xc X fa fn fc := by
 have hT : Tc (· == 3) w (w.setCell ⟨g, i, none⟩ v) := Tc.put hb (by rfl) _ _
 exact ⟨ownsRow_tc h.row hT (by rfl), fun x hx => ⟨(h.each x hx).k.put hb i v, ownsRow_tc (h.each x hx).row hT (by rfl), fun j s hs => by
  obtain ⟨ai, ci, e1, e2⟩ := (h.each x hx).each j s hs
  exact ⟨ai, ci, e1, e2.put hb i v⟩⟩, h.f.put hb i v⟩
theorem TabW.below {w w' : World} {B : Nat} {xa : Option Addr} {xc : Nat} {X : List CrM} {fa : Option Addr} {fn fc : Nat} (h : TabW w B xa xc X fa fn fc) (hb : Below w.heap.size w w') : TabW w' B xa xc X fa fn fc :=
 ⟨ownsRow_low h.row hb, fun x hx => ⟨(h.each x hx).k.below hb, ownsRow_low (h.each x hx).row hb, fun j s hs => by
  obtain ⟨ai, ci, e1, e2⟩ := (h.each x hx).each j s hs
  exact ⟨ai, ci, e1, e2.below hb⟩⟩, h.f.below hb⟩
end Go.Proofs.YtmfgjicfdjjihaaGreatDoor
