/- Texts joined: TuL -/
import Derived.Test.YtjdapofjlbifjaaDoorTpa29
namespace Go.Proofs.YtjdapofjlbifjaaDoor
open Go.RowKit
set_option linter.unusedVariables false
set_option linter.unusedSimpArgs false
set_option maxRecDepth 100000
abbrev smW : Wy := ⟨6, 17, ⟨6, 2306139568115548160, 1⟩, ⟨6, 0, 2⟩, 53, 54⟩
theorem sm_ok : smW.ok := ⟨by unfold Ad.ok; decide, by unfold Ad.ok; decide⟩
theorem sm_right : smW.right = true := by kernel_rfl
theorem it53 : Lib.itoa 53 = [53, 51] := by
  rw [show (53 : Int) = ((53 : Nat) : Int) from rfl, Lib.itoa_nonneg, Lib.decDigits_two (by omega) (by omega)]
  rfl
theorem it54 : Lib.itoa 54 = [53, 52] := by
  rw [show (54 : Int) = ((54 : Nat) : Int) from rfl, Lib.itoa_nonneg, Lib.decDigits_two (by omega) (by omega)]
  rfl
theorem tx1 : Ad.text ⟨6, 2306139568115548160, 1⟩ = [50, 48, 48, 49, 58, 100, 98, 56, 58, 58, 49] := by kernel_rfl
theorem tx2 : Ad.text ⟨6, 0, 2⟩ = [58, 58, 50] := by kernel_rfl
theorem sm_text : smW.text = [117, 100, 112, 32, 91, 50, 48, 48, 49, 58, 100, 98, 56, 58, 58, 49, 93, 58, 53, 51, 32, 62, 32, 91, 58, 58, 50, 93, 58, 53, 52] := by
  unfold Wy.text
  rw [if_pos sm_right]
  show nameB 6 17 ++ [32] ++ sideT ⟨6, 2306139568115548160, 1⟩ 53 ++ [32, 62, 32] ++ sideT ⟨6, 0, 2⟩ 54 = _
  unfold sideT
  rw [tx1, tx2, it53, it54]
  rfl
set_option maxHeartbeats 1000000 in
theorem small_t (w : World) : Calls Tryd.prog 32 #[] w fun e w' => e = .returned (.agg smW.v) ∧ Below w.heap.size w w' := by
  go_enter Tryd.func32, Tryd.ntmps32
  go_wp2
  exact ret_cell (k := 0) Tryd.f32 (by kernel_rfl) (blk_new _ _ _) Tryd.underlying26 (by kernel_rfl) (by rfl) rfl ⟨rfl, (Below.refl _ _).alloc (Nat.le_refl _) _⟩
set_option maxHeartbeats 1000000 in
theorem alive_t (w : World) (ht : w.cell? ⟨3, 15, none⟩ = some (.int .u8 4)) (htab : Lib.TabIs Tryd.prog w "internal/strconv.uint64pow10" .u64 Lib.pow10Tab) :
    Calls Tryd.prog 15 #[] w fun e w' => e = .returned (.bool true) ∧ Below w.heap.size w w' := by
  have gp : Tryd.prog.globalNamed "internal/strconv.uint64pow10" = some 0 := by kernel_rfl
  have KT : Hid (∀ W, Below w.heap.size w W → Calls Tryd.prog 16 #[.agg smW.v] W _) := fun W hb => text_t smW W sm_ok (kept hb ht) (Go.Joins.tab_stays gp htab hb (Nat.le_refl _))
  rw [sm_text] at KT
  have KS : Hid (∀ W, Calls Tryd.prog 32 #[] W _) := fun W => small_t W
  have KV : Hid (∀ W, Calls Tryd.prog 11 #[.agg smW.v] W fun e w' => e = .returned (.agg #[.int .i64 6, .int .i64 17, .int .i64 6, .int .u64 0, .int .u64 2, .int .i64 6, .int .u64 2306139568115548160, .int .u64 1, .int .i64 54, .int .i64 53]) ∧ Below W.heap.size W w') := fun W => rev_t smW W
  have KR : Hid (∀ W, Calls Tryd.prog 9 #[.agg smW.v] W _) := fun W => right_t smW W
  rw [sm_right] at KR
  have KF : ∀ W, (Instr.field 26 (.agg #[.int .i64 6, .int .i64 17, .int .i64 6, .int .u64 0, .int .u64 2, .int .i64 6, .int .u64 2306139568115548160, .int .u64 1, .int .i64 54, .int .i64 53]) 4).run Tryd.prog W = .ok (.int .i64 54) W := fun W => by kernel_rfl
  clear ht htab gp
  go_enter Tryd.func15, Tryd.ntmps15
  go_wp2_with fail
  refine (KS.out _).mono ?_
  rintro e w1 ⟨rfl, b1⟩
  go_wp2_with fail
  refine (KT.out _ b1).mono ?_
  rintro e w2 ⟨rfl, bb⟩
  have b2 := bel_tr b1 bb
  clear bb b1
  go_wp2_with fail
  refine (KS.out _).mono ?_
  rintro e w3 ⟨rfl, bb⟩
  have b3 := bel_tr b2 bb
  clear bb b2
  go_wp2_with fail
  refine (KV.out _).mono ?_
  rintro e w4 ⟨rfl, bb⟩
  have b4 := bel_tr b3 bb
  clear bb b3
  go_wp2_with fail
  refine (KS.out _).mono ?_
  rintro e w5 ⟨rfl, bb⟩
  have b5 := bel_tr b4 bb
  clear bb b4
  go_wp2_with fail
  refine (KR.out _).mono ?_
  rintro e w6 ⟨rfl, bb⟩
  have b6 := bel_tr b5 bb
  clear bb b5
  go_wp2_with fail
  go_ret
  exact ⟨rfl, b6⟩
end Go.Proofs.YtjdapofjlbifjaaDoor
