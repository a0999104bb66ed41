/- Texts joined: LkH -/
import Derived.Test.YtmfgjicfdjjihaaGreatDoorLxa0
import Derived.Test.YtmfgjicfdjjihaaGreatDoorLxa1
import Derived.Test.YtmfgjicfdjjihaaGreatDoorLxa2
import Derived.Test.YtmfgjicfdjjihaaGreatDoorLxa3
import Derived.Test.YtmfgjicfdjjihaaGreatDoorLxa4
import Derived.Test.YtmfgjicfdjjihaaGreatDoorLxa5
import Derived.Test.YtmfgjicfdjjihaaGreatDoorLxa6
import Derived.Test.YtmfgjicfdjjihaaGreatDoorLxa7
import Derived.Test.YtmfgjicfdjjihaaGreatDoorLxa8
import Derived.Test.YtmfgjicfdjjihaaGreatDoorLxa9
import Derived.Test.YtmfgjicfdjjihaaGreatDoorLxa10
import Derived.Test.YtmfgjicfdjjihaaGreatDoorLxa11
import Derived.Test.YtmfgjicfdjjihaaGreatDoorLxa12
import Derived.Test.YtmfgjicfdjjihaaGreatDoorLxa13
import Derived.Test.YtmfgjicfdjjihaaGreatDoorLxa14
import Derived.Test.YtmfgjicfdjjihaaGreatDoorLxa15
import Derived.Test.YtmfgjicfdjjihaaGreatDoorLxa16
import Derived.Test.YtmfgjicfdjjihaaGreatDoorLxa17
import Derived.Test.YtmfgjicfdjjihaaGreatDoorLxa18
import Derived.Test.YtmfgjicfdjjihaaGreatDoorLxa19
import Derived.Test.YtmfgjicfdjjihaaGreatDoorLxa20
import Derived.Test.YtmfgjicfdjjihaaGreatDoorLxa21
import Derived.Test.YtmfgjicfdjjihaaGreatDoorLxa22
import Derived.Test.YtmfgjicfdjjihaaGreatDoorLxa23
import Derived.Test.YtmfgjicfdjjihaaGreatDoorLxa24
import Derived.Test.YtmfgjicfdjjihaaGreatDoorLxa25
import Derived.Test.YtmfgjicfdjjihaaGreatDoorLxa26
import Derived.Test.YtmfgjicfdjjihaaGreatDoorLxa27
import Derived.Test.YtmfgjicfdjjihaaGreatDoorLxa28
import Derived.Test.YtmfgjicfdjjihaaGreatDoorLxa29
import Derived.Test.YtmfgjicfdjjihaaGreatDoorLxa30
import Derived.Test.YtmfgjicfdjjihaaGreatDoorLxa31
import Derived.Test.YtmfgjicfdjjihaaGreatDoorLxa32
import Derived.Test.YtmfgjicfdjjihaaGreatDoorLxa33
import Derived.Test.YtmfgjicfdjjihaaGreatDoorLxa34
import Derived.Test.YtmfgjicfdjjihaaGreatDoorLxa35
import Derived.Test.YtmfgjicfdjjihaaGreatDoorLxa36
import Derived.Test.YtmfgjicfdjjihaaGreatDoorLxa37
import Derived.Test.YtmfgjicfdjjihaaGreatDoorLxa38
import Derived.Test.YtmfgjicfdjjihaaGreatDoorLxa39
import Derived.Test.YtmfgjicfdjjihaaGreatDoorLxa40
import Derived.Test.YtmfgjicfdjjihaaGreatDoorLxa41
import Derived.Test.YtmfgjicfdjjihaaGreatDoorLxa42
import Derived.Laws.AppendOwnNone
import Derived.Deep.AppendLies
import Derived.Deep.QuietTactic
import Derived.BigQuiet
import Derived.Deep.WholeRow
import Derived.BigRegion
import Derived.Deep.RegionHeld3
import Derived.Laws.BytesArg
import Derived.Laws.MakeOwn
import Derived.Test.YtmfgjicfdjjihaaGreatDoorRows
import Derived.WalkKit
import Derived.Laws.BitsAllLaws
import Derived.Laws.BitsLemmas
import Derived.Laws.Bits128
import Derived.Laws.AppendOwn
import Derived.Laws.OwnMore
import Derived.OwnWalk
import Derived.KernelRfl
import Derived.Below
import Derived.Deep.Draws
import Derived.Laws.World
import Derived.Laws.Shifts
import Derived.Laws.ShiftsVarLaws
import Derived.Laws.StructEq
import Derived.Deep.RegionWith
import Derived.Deep.DeepCutAuto
import Derived.RegionTactic
import Derived.Test.YtmfgjicfdjjihaaGreatDoorShelf
import Derived.Sort.OwnSortedInts
import Derived.Sort.Grow
import Derived.Laws.Bits64b
namespace Go.Proofs.YtmfgjicfdjjihaaGreatDoor
open Go.RowKit
set_option linter.unusedVariables false
set_option linter.unusedSimpArgs false
set_option maxRecDepth 100000 in
set_option maxHeartbeats 8000000 in
/-- Tables that may not be are refused. -/
theorem swap_no (g : Nat) (o : TO) (n : Int) (t : TR) (w : World) (hb : Blk w g 66 (hv o n)) (hok : t.ok w) (hn : ¬ TabR t.D t.X t.F) (hL : Lks w) (hsz : ∀ j, szN t.D t.X j ≤ 2147483648) (htop : ∀ n ∈ t.F, n ≤ 9223372036854775807) :
  Calls Tryz.prog 19 #[.pointer (some ⟨g, 0, none⟩), .agg t.v] w fun e w' => e = .returned (.int .i64 1) ∧ Below w.heap.size w w' := by
 have KC : Hid (∀ W, Below w.heap.size w W → Calls Tryz.prog 9 #[.agg t.v] W fun e w' => e = .returned (.bool false) ∧ Below W.heap.size W w') := fun W h => by
  refine (check_lk t W (hok.low h) (hL.below h) hsz htop).mono ?_
  rintro e w' ⟨⟨r, rfl, hr⟩, hb⟩
  cases r
  ·exact ⟨rfl, hb⟩
  ·exact absurd (hr.1 rfl) hn
 have hst : (Tryz.prog.info? 26).map (·.size) = some t.v.size := by show _ = some 3; kernel_rfl
 obtain ⟨TV, hTV⟩ : ∃ TV, t.v = TV := ⟨_, rfl⟩
 rw [hTV] at KC hst ⊢
 obtain ⟨W1, hW1⟩ : ∃ W1, w.alloc (.cells TV 26) = W1 := ⟨_, rfl⟩
 have b1 := bel_nw hW1
 have HBT : Hid (Blk W1 w.heap.size 26 TV) := blk_nw hW1
 have K1 : Hid _ := isMade_lk g true W1 ((hb.kept b1).cell 0 _ rfl)
 clear hb hok hn hL hsz htop hTV
 go_enter Tryz.func19, Tryz.ntmps19
 go_wp2_with fail
 refine Calls.mono K1.out ?_
 rintro e W2 ⟨rfl, q2⟩
 have b2 := bel_tr b1 q2
 have at2 := (HBT.out.kept q2).at_
 have K2 : Hid _ := KC.out W2 b2
 clear K1 hW1
 go_wp2_with (first | (refine wpList_load_at rfl _ _ rfl w.heap.size 0 (by rfl) _ at2 Tryz.underlying26 hst ?_))
 refine Calls.mono K2.out ?_
 rintro e W3 ⟨rfl, q3⟩
 have b3 := bel_tr b2 q3
 clear K2 at2
 go_wp2
 go_ret
 exact ⟨rfl, b3⟩
end Go.Proofs.YtmfgjicfdjjihaaGreatDoor
