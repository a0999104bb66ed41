/- Texts joined: ChunkHoldsWalk -/
import Derived.Test.YtcoldgpnkdallaaDoorRxa0
import Derived.Test.YtcoldgpnkdallaaDoorRxa1
import Derived.Test.YtcoldgpnkdallaaDoorRxa2
import Derived.Test.YtcoldgpnkdallaaDoorRxa3
import Derived.Test.YtcoldgpnkdallaaDoorRxa4
import Derived.Test.YtcoldgpnkdallaaDoorRxa5
import Derived.Test.YtcoldgpnkdallaaDoorRxa6
import Derived.Test.YtcoldgpnkdallaaDoorRxa7
import Derived.Test.YtcoldgpnkdallaaDoorRxa8
import Derived.Test.YtcoldgpnkdallaaDoorRxa9
import Derived.Test.YtcoldgpnkdallaaDoorRxa10
import Derived.Test.YtcoldgpnkdallaaDoorRxa11
import Derived.Test.YtcoldgpnkdallaaDoorRxa12
import Derived.Test.YtcoldgpnkdallaaDoorRxa13
import Derived.Test.YtcoldgpnkdallaaDoorRxa14
import Derived.Test.YtcoldgpnkdallaaDoorRxa15
import Derived.Test.YtcoldgpnkdallaaDoorRxa16
import Derived.Test.YtcoldgpnkdallaaDoorRxa17
import Derived.Test.YtcoldgpnkdallaaDoorRxa18
import Derived.Test.YtcoldgpnkdallaaDoorRxa19
import Derived.Test.YtcoldgpnkdallaaDoorRxa20
import Derived.Test.YtcoldgpnkdallaaDoorRxa21
import Derived.Test.YtcoldgpnkdallaaDoorRxa22
import Derived.Test.YtcoldgpnkdallaaDoorRxa23
import Derived.Test.YtcoldgpnkdallaaDoorRxa24
import Derived.Test.YtcoldgpnkdallaaDoorRxa25
import Derived.Test.YtcoldgpnkdallaaDoorRxa26
import Derived.Test.YtcoldgpnkdallaaDoorRxa27
import Derived.Test.YtcoldgpnkdallaaDoorRxa28
import Derived.Test.YtcoldgpnkdallaaDoorRxa29
import Derived.Test.YtcoldgpnkdallaaDoorRxa30
import Derived.Test.YtcoldgpnkdallaaDoorRxa31
import Derived.Test.YtcoldgpnkdallaaDoorRxa32
import Derived.Test.YtcoldgpnkdallaaDoorRxa33
import Derived.Test.YtcoldgpnkdallaaDoorRxa34
import Derived.Test.YtcoldgpnkdallaaDoorRxa35
import Derived.Test.YtcoldgpnkdallaaDoorRxa36
import Derived.Test.YtcoldgpnkdallaaDoorRxa37
import Derived.Test.YtcoldgpnkdallaaDoorRxa39
import Derived.Test.YtcoldgpnkdallaaDoorRxa41
import Derived.Test.YtcoldgpnkdallaaDoorRxc2
import Derived.Deep.QuietTactic
import Derived.BigQuiet
import Derived.BigRegion
import Derived.Deep.RegionWith
import Derived.Deep.RegionHeld3
import Derived.Deep.AppendLies
import Derived.Test.YtcoldgpnkdallaaDoorShelf
import Derived.Sort.OwnSortedInts
import Derived.Deep.WholeRow
import Derived.Laws.BytesArg
import Derived.Laws.MakeOwn
import Derived.Test.YtcoldgpnkdallaaDoorRows
import Derived.WalkKit
import Derived.Laws.BitsAllLaws
import Derived.Laws.BitsLemmas
import Derived.Laws.Bits128
import Derived.Laws.AppendOwn
import Derived.Laws.AppendOwnNone
import Derived.Laws.OwnMore
import Derived.OwnWalk
import Derived.KernelRfl
import Derived.Below
import Derived.Deep.Draws
import Derived.Laws.World
import Derived.Laws.Shifts
import Derived.Laws.ShiftsVarLaws
import Derived.Laws.StructEq
import Derived.Deep.DeepCutAuto
import Derived.Sort.Grow
import Derived.RegionTactic
namespace Go.Proofs.YtcoldgpnkdallaaDoor
open Go.RowKit
set_option linter.unusedVariables false
set_option linter.unusedSimpArgs false
/-- The class of a point has just the pieces that hold it. -/
theorem cls_set {l : List Rl} {d : Nat} {L : List Pt} {K : List Nat} {S : List (List Nat)} (h : CutP l d L K S) {p : Pt} {x : Int} (hc : clsAt L (ints K) p x) : ∃ m : Nat, x = (m : Int) ∧ S[m]? = some (setOf (spns l d) p.n) := by
  obtain ⟨i, s, h1, h2, h3, h4⟩ := hc
  have hrow : (rowL (spns l d))[i]? = some (setOf (spns l d) s.n) := by
    unfold rowL
    rw [← h.stn, List.getElem?_map, List.getElem?_map, h1]
    rfl
  obtain ⟨m, hm1, hm2⟩ := class_get hrow
  rw [← h.cls] at hm1
  rw [← h.set] at hm2
  rw [List.getElem?_map, hm1] at h4
  refine ⟨m, by simpa using h4.symm, ?_⟩
  have hst : (startsL (spns l d))[i]? = some s.n := by rw [← h.stn, List.getElem?_map, h1]; rfl
  rw [hm2, set_at hst h2 (fun j t hj ht => ?_)]
  rw [← h.stn, List.getElem?_map, Option.map_eq_some_iff] at ht
  obtain ⟨q, hq, rfl⟩ := ht
  exact h3 j q hj hq
theorem spot_ok {k : Ky} (ho : k.ok) (hr : k.right = true) (d : Nat) : (k.spot d).ok := by
  obtain ⟨k1, k2, k3, k4, k5, k6, k7⟩ := Ky.right_all hr
  match d with
  | 0 => exact ptNum_ok (by omega) (by omega)
  | 1 => exact ptNum_ok (by omega) (by omega)
  | 2 => exact ptAd_ok ho.s k3
  | 3 => exact ptAd_ok ho.d k4
  | 4 => exact ptNum_ok (by omega) (by omega)
  | 5 => exact ptNum_ok (by omega) (by omega)
  | d + 6 => exact ptNum_ok (by omega) (by omega)
end Go.Proofs.YtcoldgpnkdallaaDoor
