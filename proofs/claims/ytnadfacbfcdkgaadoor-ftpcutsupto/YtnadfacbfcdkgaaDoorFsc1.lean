/- Texts joined: FtA -/
import Derived.Test.YtnadfacbfcdkgaaDoorFsa0
import Derived.Test.YtnadfacbfcdkgaaDoorFsa1
import Derived.Test.YtnadfacbfcdkgaaDoorFsa2
import Derived.Test.YtnadfacbfcdkgaaDoorFsa3
import Derived.Test.YtnadfacbfcdkgaaDoorFsa4
import Derived.Test.YtnadfacbfcdkgaaDoorFsa5
import Derived.Test.YtnadfacbfcdkgaaDoorFsa6
import Derived.Test.YtnadfacbfcdkgaaDoorFsa7
import Derived.Test.YtnadfacbfcdkgaaDoorFsa8
import Derived.Test.YtnadfacbfcdkgaaDoorFsa9
import Derived.Test.YtnadfacbfcdkgaaDoorFsa10
import Derived.Test.YtnadfacbfcdkgaaDoorFsa11
import Derived.Test.YtnadfacbfcdkgaaDoorFsa12
import Derived.Test.YtnadfacbfcdkgaaDoorFsa13
import Derived.Test.YtnadfacbfcdkgaaDoorFsa14
import Derived.Test.YtnadfacbfcdkgaaDoorFsa15
import Derived.Test.YtnadfacbfcdkgaaDoorFsa16
import Derived.Test.YtnadfacbfcdkgaaDoorFsa17
import Derived.Test.YtnadfacbfcdkgaaDoorFsa18
import Derived.Test.YtnadfacbfcdkgaaDoorFsa19
import Derived.Test.YtnadfacbfcdkgaaDoorFsa20
import Derived.Test.YtnadfacbfcdkgaaDoorFsa21
import Derived.Test.YtnadfacbfcdkgaaDoorFsa22
import Derived.Test.YtnadfacbfcdkgaaDoorFsa23
import Derived.Test.YtnadfacbfcdkgaaDoorFsa24
import Derived.Test.YtnadfacbfcdkgaaDoorFsa25
import Derived.Test.YtnadfacbfcdkgaaDoorFsa26
import Derived.Test.YtnadfacbfcdkgaaDoorFsa27
import Derived.Test.YtnadfacbfcdkgaaDoorFsa28
import Derived.Test.YtnadfacbfcdkgaaDoorFsa29
import Derived.Test.YtnadfacbfcdkgaaDoorFsa30
import Derived.Test.YtnadfacbfcdkgaaDoorFsa31
import Derived.Test.YtnadfacbfcdkgaaDoorFsa32
import Derived.Test.YtnadfacbfcdkgaaDoorFsa33
import Derived.Test.YtnadfacbfcdkgaaDoorFsa34
import Derived.Test.YtnadfacbfcdkgaaDoorFsa35
import Derived.Test.YtnadfacbfcdkgaaDoorFsa36
import Derived.Test.YtnadfacbfcdkgaaDoorFsa37
import Derived.Test.YtnadfacbfcdkgaaDoorFsa38
import Derived.Test.YtnadfacbfcdkgaaDoorFsa39
import Derived.Test.YtnadfacbfcdkgaaDoorRows
import Derived.WalkKit
import Derived.Laws.BitsAllLaws
import Derived.Laws.BitsLemmas
import Derived.Laws.Bits128
import Derived.Laws.Shifts
import Derived.Laws.ShiftsVarLaws
import Derived.Laws.StructEq
import Derived.Deep.QuietTactic
import Derived.BigQuiet
import Derived.Deep.RegionWith
import Derived.Deep.DeepCutAuto
import Derived.Below
import Derived.Deep.Draws
import Derived.Laws.World
import Derived.Laws.OwnMore
import Derived.Laws.BytesArg
import Derived.Laws.MakeOwn
import Derived.Laws.AppendOwn
import Derived.Laws.AppendOwnNone
import Derived.OwnWalk
import Derived.KernelRfl
import Derived.Lib.SmallJoins
import Derived.Lib.AppendIntMem
import Derived.Test.YtnadfacbfcdkgaaDoorShelf
import Derived.Lib.Join
import Derived.Deep.RegionHeld3
import Derived.Laws.Runes
import Derived.Laws.RangeString
import Derived.Laws.RangeAny
import Derived.LoopTactic
import Derived.Lib.Split
import Derived.RegionTactic
import Derived.BigRegion
namespace Go.Proofs.YtnadfacbfcdkgaaDoor
set_option linter.unusedVariables false
set_option linter.unusedSimpArgs false
/-- The first line, and what stands behind it. -/
theorem lnP_cons : ∀ (l acc : List UInt8) (ah : Bool) (x : List UInt8) (L : List (List UInt8)), (ah = true → acc.getLast? = some 13) → lnP l acc ah = x :: L →
    ∃ u d, l = u ++ 10 :: d ∧ acc ++ u = x ++ [13] ∧ L = lnF d ∧ ∀ e, lnP (u ++ 10 :: e) acc ah = x :: lnF e
  | [], _, _, _, _, _, h => by cases h
  | y :: t, acc, ah, x, L, ha, h => by
    unfold lnP at h
    split at h
    · next hy =>
      obtain ⟨rfl, rfl⟩ := hy
      have hl := ha rfl
      have hd : acc = acc.dropLast ++ [13] := by
        obtain ⟨ys, rfl⟩ := List.getLast?_eq_some_iff.1 hl
        simp
      simp only [List.cons.injEq] at h
      obtain ⟨h1, h2⟩ := h
      refine ⟨[], t, rfl, by rw [List.append_nil, ← h1]; exact hd, h2.symm, fun e => ?_⟩
      show lnP (10 :: e) acc true = _
      unfold lnP
      rw [if_pos ⟨rfl, rfl⟩, h1]
      rfl
    · next hy =>
      obtain ⟨u, d, e1, e2, e3, e4⟩ := lnP_cons t (acc ++ [y]) (decide (y = 13)) x L (fun hq => by simp at hq; simp [hq]) h
      refine ⟨y :: u, d, by rw [e1]; rfl, by rw [← e2]; simp, e3, fun e => ?_⟩
      show lnP (y :: (u ++ 10 :: e)) acc ah = _
      unfold lnP
      rw [if_neg hy]
      exact e4 e
theorem lnF_cons {d : List UInt8} {x : List UInt8} {L : List (List UInt8)} (h : lnF d = x :: L) : ∃ e, d = x ++ 13 :: 10 :: e ∧ L = lnF e ∧ ∀ f, lnF (x ++ 13 :: 10 :: f) = x :: lnF f := by
  obtain ⟨u, e, e1, e2, e3, e4⟩ := lnP_cons d [] false x L (fun h => by cases h) h
  have e2' : u = x ++ [13] := e2
  subst e2'
  refine ⟨e, by rw [e1]; simp, e3, fun f => ?_⟩
  have := e4 f
  rw [show x ++ 13 :: 10 :: f = x ++ [13] ++ 10 :: f by simp]
  exact this
/-- How many bytes the first lines have. -/
def lnN (L : List (List UInt8)) : Nat := (L.map (fun x => x.length + 2)).sum
theorem ln_cut : ∀ (k : Nat) (d : List UInt8), k ≤ (lnF d).length → lnN ((lnF d).take k) ≤ d.length ∧ lnF (d.take (lnN ((lnF d).take k))) = (lnF d).take k ∧ lnF (d.drop (lnN ((lnF d).take k))) = (lnF d).drop k
  | 0, d, _ => by simp [lnN, lnF, lnP]
  | k + 1, d, h => by
    cases hl : lnF d with
    | nil => rw [hl] at h; simp at h
    | cons x L =>
      obtain ⟨e, rfl, rfl, hf⟩ := lnF_cons hl
      rw [hl] at h
      obtain ⟨h1, h2, h3⟩ := ln_cut k e (by simpa using h)
      have hn : lnN ((x :: lnF e).take (k + 1)) = (x ++ [13, 10]).length + lnN ((lnF e).take k) := by simp [lnN]
      rw [hn]
      have hx : x ++ 13 :: 10 :: e = (x ++ [13, 10]) ++ e := by simp
      refine ⟨by simp at h1 ⊢; omega, ?_, ?_⟩
      · rw [hx, List.take_length_add_append]
        have := hf (e.take (lnN ((lnF e).take k)))
        rw [show (x ++ [13, 10]) ++ e.take (lnN ((lnF e).take k)) = x ++ 13 :: 10 :: e.take (lnN ((lnF e).take k)) by simp, this, h2]
        rfl
      · rw [hx, List.drop_length_add_append, h3]
        rfl
theorem as_cut (fam side : Int) (d : List UInt8) (k : Nat) (h8 : (lnF d).length ≤ 8) (hk : k ≤ (lnF d).length) :
    asF fam side (d.take (lnN ((lnF d).take k))) ++ asF fam side (d.drop (lnN ((lnF d).take k))) = asF fam side d := by
  obtain ⟨_, h2, h3⟩ := ln_cut k d hk
  unfold asF
  rw [h2, h3, ← List.filterMap_append, List.take_of_length_le (l := (lnF d).take k) (i := 8) (by simp; omega), List.take_of_length_le (l := (lnF d).drop k) (i := 8) (by simp; omega), List.take_of_length_le (l := lnF d) (i := 8) h8, List.take_append_drop]
end Go.Proofs.YtnadfacbfcdkgaaDoor
