/- Texts joined: CmU -/
import Derived.Test.YtmfgjicfdjjihaaGreatDoorLxa0
import Derived.Test.YtmfgjicfdjjihaaGreatDoorLxa1
import Derived.Test.YtmfgjicfdjjihaaGreatDoorLxa2
import Derived.Test.YtmfgjicfdjjihaaGreatDoorLxa3
import Derived.Test.YtmfgjicfdjjihaaGreatDoorLxa4
import Derived.Test.YtmfgjicfdjjihaaGreatDoorLxa5
import Derived.Test.YtmfgjicfdjjihaaGreatDoorLxa6
import Derived.Test.YtmfgjicfdjjihaaGreatDoorLxa7
import Derived.Test.YtmfgjicfdjjihaaGreatDoorLxa8
import Derived.Test.YtmfgjicfdjjihaaGreatDoorLxa9
import Derived.Test.YtmfgjicfdjjihaaGreatDoorLxa10
import Derived.Test.YtmfgjicfdjjihaaGreatDoorLxa11
import Derived.Test.YtmfgjicfdjjihaaGreatDoorLxa12
import Derived.Test.YtmfgjicfdjjihaaGreatDoorLxa13
import Derived.Test.YtmfgjicfdjjihaaGreatDoorLxa14
import Derived.Test.YtmfgjicfdjjihaaGreatDoorLxa15
import Derived.Test.YtmfgjicfdjjihaaGreatDoorLxa16
import Derived.Test.YtmfgjicfdjjihaaGreatDoorLxa17
import Derived.Test.YtmfgjicfdjjihaaGreatDoorLxa18
import Derived.Test.YtmfgjicfdjjihaaGreatDoorLxa19
import Derived.Test.YtmfgjicfdjjihaaGreatDoorLxa20
import Derived.Test.YtmfgjicfdjjihaaGreatDoorLxa21
import Derived.Test.YtmfgjicfdjjihaaGreatDoorLxa22
import Derived.Test.YtmfgjicfdjjihaaGreatDoorLxa23
import Derived.Test.YtmfgjicfdjjihaaGreatDoorLxa24
import Derived.Test.YtmfgjicfdjjihaaGreatDoorLxa25
import Derived.Test.YtmfgjicfdjjihaaGreatDoorLxa26
import Derived.Test.YtmfgjicfdjjihaaGreatDoorLxa27
import Derived.Test.YtmfgjicfdjjihaaGreatDoorLxa28
import Derived.Test.YtmfgjicfdjjihaaGreatDoorLxa29
import Derived.Test.YtmfgjicfdjjihaaGreatDoorLxa30
import Derived.Test.YtmfgjicfdjjihaaGreatDoorLxa31
import Derived.Test.YtmfgjicfdjjihaaGreatDoorLxa32
import Derived.Test.YtmfgjicfdjjihaaGreatDoorLxa33
import Derived.Test.YtmfgjicfdjjihaaGreatDoorLxa34
import Derived.Test.YtmfgjicfdjjihaaGreatDoorLxa35
import Derived.Test.YtmfgjicfdjjihaaGreatDoorLxa36
import Derived.Test.YtmfgjicfdjjihaaGreatDoorLxa37
import Derived.Test.YtmfgjicfdjjihaaGreatDoorLxa38
import Derived.Test.YtmfgjicfdjjihaaGreatDoorLxa39
import Derived.Test.YtmfgjicfdjjihaaGreatDoorLxa40
import Derived.Test.YtmfgjicfdjjihaaGreatDoorLxa41
import Derived.Test.YtmfgjicfdjjihaaGreatDoorLxa42
import Derived.Laws.StructEq
import Derived.Test.YtmfgjicfdjjihaaGreatDoorShelf
import Derived.Sort.OwnSortedInts
import Derived.Deep.WholeRow
import Derived.BigRegion
import Derived.Deep.RegionHeld3
import Derived.Laws.BytesArg
import Derived.Laws.MakeOwn
import Derived.Deep.QuietTactic
import Derived.BigQuiet
import Derived.Test.YtmfgjicfdjjihaaGreatDoorRows
import Derived.WalkKit
import Derived.Laws.BitsAllLaws
import Derived.Laws.BitsLemmas
import Derived.Laws.Bits128
import Derived.Laws.AppendOwn
import Derived.Laws.AppendOwnNone
import Derived.Laws.OwnMore
import Derived.OwnWalk
import Derived.KernelRfl
import Derived.Below
import Derived.Deep.Draws
import Derived.Laws.World
import Derived.Laws.Shifts
import Derived.Laws.ShiftsVarLaws
import Derived.Deep.RegionWith
import Derived.Deep.DeepCutAuto
import Derived.Deep.AppendLies
import Derived.RegionTactic
import Derived.Sort.Grow
namespace Go.Proofs.YtmfgjicfdjjihaaGreatDoor
open Go.RowKit
set_option linter.unusedVariables false
set_option linter.unusedSimpArgs false
/-- A block is written: what is owned is owned still. -/
theorem ownsRow_set {w : World} {B : Nat} {t : TypeId} {k n : Nat} {v : Value} {xs : List Value} (h : w.ownsRow B t k v n xs) {g : Nat} {t0 : TypeId} {cs : Array Value} (hb : Blk w g t0 cs) (cs' : Array Value) (hs : cs'.size = cs.size) : ∃ xs', (w.setRow g cs').ownsRow B t k v n xs' := by
 obtain ⟨h1, h2⟩ := h
 rcases h2 with ⟨h3, h4⟩ | ⟨g', cap, cur, h3, h4, h5, h6, h7, h8, h9⟩
 ·exact ⟨xs, h1, .inl ⟨h3, h4⟩⟩
 ·by_cases e : g' = g
  ·subst e
   have h5' : Blk w g' t cur := h5
   have et : t = t0 := h5'.ty hb
   have ec : cur = cs := by
    have e1 : w.heap[g']? = some (.cells cs t0 (0, 0)) := hb
    rw [h5] at e1
    simp only [Option.some.injEq, Obj.cells.injEq] at e1
    exact e1.1
   subst et
   subst ec
   have hle : n * k ≤ cap * k := Nat.mul_le_mul_right k h6
   exact ⟨cs'.toList.take (n * k), by rw [List.length_take, Array.length_toList, hs, h8]; exact Nat.min_eq_left hle, .inr ⟨g', cap, cs', h3, h4, hb.set cs', h6, h7, by rw [hs, h8], rfl⟩⟩
  ·have h5' : Blk w g' t cur := h5
   exact ⟨xs, h1, .inr ⟨g', cap, cur, h3, h4, h5'.other e cs', h6, h7, h8, h9⟩⟩
/-- A cut that may be written over. -/
structure CutW (w : World) (B : Nat) (v1 : Value) (n1 : Nat) (v3 : Value) (n3 : Nat) (vs : List Value) : Prop where
 sts : ∃ xs, w.ownsRow B 86 3 v1 n1 xs
 row : w.ownsRow B 24 1 v3 n3 vs
 each : ∀ v ∈ vs, ∃ a n c xs, v = Value.slice a n c ∧ n ≤ 1000 ∧ w.ownsRow B 3 1 v n xs
theorem CutW.nil (w : World) (B : Nat) : CutW w B (.slice none 0 0) 0 (.slice none 0 0) 0 [] := ⟨⟨[], World.ownsRow_nil _ _ _ _⟩, World.ownsRow_nil _ _ _ _, fun v hv => by cases hv⟩
theorem CutW.below {w w' : World} {B : Nat} {v1 : Value} {n1 : Nat} {v3 : Value} {n3 : Nat} {vs : List Value} (h : CutW w B v1 n1 v3 n3 vs) (hb : Below w.heap.size w w') : CutW w' B v1 n1 v3 n3 vs :=
 ⟨h.sts.imp fun xs hx => ownsRow_low hx hb, ownsRow_low h.row hb, fun v hv => by
  obtain ⟨a, n, c, xs, h1, h2, h3⟩ := h.each v hv
  exact ⟨a, n, c, xs, h1, h2, ownsRow_low h3 hb⟩⟩
theorem CutW.set {w : World} {B : Nat} {v1 : Value} {n1 : Nat} {v3 : Value} {n3 : Nat} {vs : List Value} (h : CutW w B v1 n1 v3 n3 vs) {g : Nat} {t0 : TypeId} {cs : Array Value} (hb : Blk w g t0 cs) (ht : 24 ≠ t0) (cs' : Array Value) (hs : cs'.size = cs.size) : CutW (w.setRow g cs') B v1 n1 v3 n3 vs := by
 refine ⟨?_, ownsRow_far h.row (grown_setRow w g cs') (fun g' e e2 => ?_), fun v hv => ?_⟩
 ·obtain ⟨xs, hx⟩ := h.sts
  exact ownsRow_set hx hb cs' hs
 ·cases e2
  exact ownsRow_off h.row hb ht e
 ·obtain ⟨a, n, c, xs, h1, h2, h3⟩ := h.each v hv
  obtain ⟨xs', h4⟩ := ownsRow_set h3 hb cs' hs
  exact ⟨a, n, c, xs', h1, h2, h4⟩
theorem CutIn.wr {w : World} {B g1 c1 : Nat} {ka : Option Addr} {kc : Nat} {sa : Option Addr} {sc : Nat} {vs : List Value} {L : List Pt} {K : List Nat} {S : List (List Nat)} (h : CutIn w B g1 c1 ka kc sa sc vs L K S) (hs : ∀ s ∈ S, s.length ≤ 1000) : CutW w B (.slice (some ⟨g1, 0, none⟩) L.length c1) L.length (.slice sa S.length sc) S.length vs :=
 ⟨⟨_, h.sts⟩, h.set.row, fun v hv => by
  obtain ⟨ai, ci, s, h1, h2, h3⟩ := h.set.inner hv
  subst h1
  exact ⟨ai, s.length, ci, _, rfl, hs s h3, h2⟩⟩
end Go.Proofs.YtmfgjicfdjjihaaGreatDoor
