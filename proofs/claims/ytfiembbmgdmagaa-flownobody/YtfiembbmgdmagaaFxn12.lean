/- Texts joined: FwN FwO FlowNobodyWalk -/
import Derived.Test.YtfiembbmgdmagaaFxn11
import Derived.LoopN
namespace Go.Proofs.Ytfiembbmgdmagaa
open Go.RowKit
set_option linter.unusedVariables false
set_option linter.unusedSimpArgs false
set_option maxRecDepth 100000 in
set_option maxHeartbeats 4000000 in
theorem put_nil_fw (f : Fl) (w : World) :
  Calls Try.prog 25 #[.pointer none, .agg f.v] w fun e w' => e = .returned (.int .i64 (13 : Int)) ∧ Below w.heap.size w w' := by
 obtain ⟨R, hR⟩ : ∃ R, (13 : Int) = R := ⟨_, rfl⟩
 have HR : Hid ((13 : Int) = R) := hR
 rw [hR]
 clear hR
 have b := Below.refl w.heap.size w
 go_enter Try.func25, Try.ntmps25
 obtain ⟨Wm1, hWm1⟩ : ∃ W, w.alloc (.cells f.v 33) = W := ⟨_, rfl⟩
 have bm1 := bel_al b hWm1
 have Am1 := blk_nw hWm1
 have gA : w.heap.size ≤ w.heap.size := b.size
 go_wp2_with fail
 refine Calls.mono (made_nil _) ?_
 rintro e Wm2 ⟨rfl, bb⟩
 have Am2 := Am1.kept bb
 have bm2 := bel_tr bm1 bb
 clear bb
 clear Am1 bm1
 go_wp2_with fail
 go_ret
 exact ⟨retN_fw (by (try rw [← HR.out]) <;> first | rfl | (simp []; done) | (simp []; rfl)), bm2⟩
set_option maxRecDepth 100000 in
set_option maxHeartbeats 4000000 in
theorem put_un_fw (tb : Nat) (f : Fl) (w : World) (T : Blk w tb 77 #[.bool false, .int .i64 0, .int .i64 0, .map none]) :
  Calls Try.prog 25 #[.pointer (some ⟨tb, 0, none⟩), .agg f.v] w fun e w' => e = .returned (.int .i64 (13 : Int)) ∧ Below w.heap.size w w' := by
 obtain ⟨R, hR⟩ : ∃ R, (13 : Int) = R := ⟨_, rfl⟩
 have HR : Hid ((13 : Int) = R) := hR
 rw [hR]
 clear hR
 have b := Below.refl w.heap.size w
 go_enter Try.func25, Try.ntmps25
 obtain ⟨Wm1, hWm1⟩ : ∃ W, w.alloc (.cells f.v 33) = W := ⟨_, rfl⟩
 have bm1 := bel_al b hWm1
 have Tm1 := T.al hWm1
 have Am1 := blk_nw hWm1
 have gA : w.heap.size ≤ w.heap.size := b.size
 have nTA : tb ≠ w.heap.size := by have := T.lt; omega
 have nAT : w.heap.size ≠ tb := fun e => nTA e.symm
 go_wp2_with fail
 refine Calls.mono (made_un tb _ Tm1) ?_
 rintro e Wm2 ⟨rfl, bb⟩
 have Tm2 := Tm1.kept bb
 have Am2 := Am1.kept bb
 have bm2 := bel_tr bm1 bb
 clear bb
 clear Tm1 Am1 bm1
 go_wp2_with fail
 go_ret
 exact ⟨retN_fw (by (try rw [← HR.out]) <;> first | rfl | (simp []; done) | (simp []; rfl)), bm2⟩
set_option maxRecDepth 100000 in
set_option maxHeartbeats 4000000 in
theorem drop_nil_fw (q : Wy) (w : World) :
  Calls Try.prog 29 #[.pointer none, .agg q.v] w fun e w' => e = .returned (.bool false) ∧ Below w.heap.size w w' := by
 obtain ⟨R, hR⟩ : ∃ R, false = R := ⟨_, rfl⟩
 have HR : Hid (false = R) := hR
 rw [hR]
 clear hR
 have b := Below.refl w.heap.size w
 go_enter Try.func29, Try.ntmps29
 obtain ⟨Wm1, hWm1⟩ : ∃ W, w.alloc (.cells q.v 26) = W := ⟨_, rfl⟩
 have bm1 := bel_al b hWm1
 have Am1 := blk_nw hWm1
 have gA : w.heap.size ≤ w.heap.size := b.size
 go_wp2_with (refine wpList_load_blk_w (by rfl) _ _ rfl w.heap.size (by rfl) _ Am1 Try.underlying26 (by kernel_rfl) ?_)
 refine Calls.mono (find_nil_fw q _) ?_
 rintro e Wm2 ⟨rfl, bb⟩
 have Am2 := Am1.kept bb
 have bm2 := bel_tr bm1 bb
 clear bb
 clear Am1 bm1
 obtain ⟨Wm3, hWm3⟩ : ∃ W, Wm2.alloc (.cells #[.int .i64 0, .int .i64 0, .int .i64 0, .int .u64 0, .int .u64 0, .int .i64 0, .int .u64 0, .int .u64 0, .int .i64 0, .int .i64 0, .int .i64 0, .int .u32 0, .int .u32 0, .int .u32 0, .int .u32 0, .bool false, .bool false, .bool false, .bool false, .int .i64 0, .int .i64 0, .bool false] 33) = W := ⟨_, rfl⟩
 have bm3 := bel_al bm2 hWm3
 have Am3 := Am2.al hWm3
 have Bm3 := blk_nw hWm3
 have gB : w.heap.size ≤ Wm2.heap.size := bm2.size
 have nAB : w.heap.size ≠ Wm2.heap.size := by have := Am2.lt; omega
 have nBA : Wm2.heap.size ≠ w.heap.size := fun e => nAB e.symm
 obtain ⟨Wm4, hWm4⟩ : ∃ W, Wm3.setRow Wm2.heap.size #[.int .i64 0, .int .i64 0, .int .i64 0, .int .u64 0, .int .u64 0, .int .i64 0, .int .u64 0, .int .u64 0, .int .i64 0, .int .i64 0, .int .i64 0, .int .u32 0, .int .u32 0, .int .u32 0, .int .u32 0, .bool false, .bool false, .bool false, .bool false, .int .i64 0, .int .i64 0, .bool false] = W := ⟨_, rfl⟩
 have Bm4 : Blk Wm4 Wm2.heap.size 33 #[.int .i64 0, .int .i64 0, .int .i64 0, .int .u64 0, .int .u64 0, .int .i64 0, .int .u64 0, .int .u64 0, .int .i64 0, .int .i64 0, .int .i64 0, .int .u32 0, .int .u32 0, .int .u32 0, .int .u32 0, .bool false, .bool false, .bool false, .bool false, .int .i64 0, .int .i64 0, .bool false] := hWm4 ▸ Bm3.set #[.int .i64 0, .int .i64 0, .int .i64 0, .int .u64 0, .int .u64 0, .int .i64 0, .int .u64 0, .int .u64 0, .int .i64 0, .int .i64 0, .int .i64 0, .int .u32 0, .int .u32 0, .int .u32 0, .int .u32 0, .bool false, .bool false, .bool false, .bool false, .int .i64 0, .int .i64 0, .bool false]
 have Am4 := hWm4 ▸ Am3.other nAB #[.int .i64 0, .int .i64 0, .int .i64 0, .int .u64 0, .int .u64 0, .int .i64 0, .int .u64 0, .int .u64 0, .int .i64 0, .int .i64 0, .int .i64 0, .int .u32 0, .int .u32 0, .int .u32 0, .int .u32 0, .bool false, .bool false, .bool false, .bool false, .int .i64 0, .int .i64 0, .bool false]
 have bm4 := hWm4 ▸ below_setRow bm3 gB #[.int .i64 0, .int .i64 0, .int .i64 0, .int .u64 0, .int .u64 0, .int .i64 0, .int .u64 0, .int .u64 0, .int .i64 0, .int .i64 0, .int .i64 0, .int .u32 0, .int .u32 0, .int .u32 0, .int .u32 0, .bool false, .bool false, .bool false, .bool false, .int .i64 0, .int .i64 0, .bool false]
 go_wp2_with (refine wpList_store_row rfl _ _ _ rfl Wm2.heap.size #[.int .i64 0, .int .i64 0, .int .i64 0, .int .u64 0, .int .u64 0, .int .i64 0, .int .u64 0, .int .u64 0, .int .i64 0, .int .i64 0, .int .i64 0, .int .u32 0, .int .u32 0, .int .u32 0, .int .u32 0, .bool false, .bool false, .bool false, .bool false, .int .i64 0, .int .i64 0, .bool false] (by rfl) (by rfl) _ _ Bm3 (by kernel_rfl) (by rfl) (by kernel_rfl) ?_; rw [hWm4])
 go_ret
 exact ⟨retB_fw (by (try rw [← HR.out]) <;> first | rfl | (simp []; done) | (simp []; rfl)), bm4⟩
set_option maxRecDepth 100000 in
set_option maxHeartbeats 4000000 in
theorem drop_un_fw (tb : Nat) (q : Wy) (w : World) (T : Blk w tb 77 #[.bool false, .int .i64 0, .int .i64 0, .map none]) :
  Calls Try.prog 29 #[.pointer (some ⟨tb, 0, none⟩), .agg q.v] w fun e w' => e = .returned (.bool false) ∧ Below w.heap.size w w' := by
 obtain ⟨R, hR⟩ : ∃ R, false = R := ⟨_, rfl⟩
 have HR : Hid (false = R) := hR
 rw [hR]
 clear hR
 have b := Below.refl w.heap.size w
 go_enter Try.func29, Try.ntmps29
 obtain ⟨Wm1, hWm1⟩ : ∃ W, w.alloc (.cells q.v 26) = W := ⟨_, rfl⟩
 have bm1 := bel_al b hWm1
 have Tm1 := T.al hWm1
 have Am1 := blk_nw hWm1
 have gA : w.heap.size ≤ w.heap.size := b.size
 have nTA : tb ≠ w.heap.size := by have := T.lt; omega
 have nAT : w.heap.size ≠ tb := fun e => nTA e.symm
 go_wp2_with (refine wpList_load_blk_w (by rfl) _ _ rfl w.heap.size (by rfl) _ Am1 Try.underlying26 (by kernel_rfl) ?_)
 refine Calls.mono (find_un_fw tb q _ Tm1) ?_
 rintro e Wm2 ⟨rfl, bb⟩
 have Tm2 := Tm1.kept bb
 have Am2 := Am1.kept bb
 have bm2 := bel_tr bm1 bb
 clear bb
 clear Tm1 Am1 bm1
 obtain ⟨Wm3, hWm3⟩ : ∃ W, Wm2.alloc (.cells #[.int .i64 0, .int .i64 0, .int .i64 0, .int .u64 0, .int .u64 0, .int .i64 0, .int .u64 0, .int .u64 0, .int .i64 0, .int .i64 0, .int .i64 0, .int .u32 0, .int .u32 0, .int .u32 0, .int .u32 0, .bool false, .bool false, .bool false, .bool false, .int .i64 0, .int .i64 0, .bool false] 33) = W := ⟨_, rfl⟩
 have bm3 := bel_al bm2 hWm3
 have Tm3 := Tm2.al hWm3
 have Am3 := Am2.al hWm3
 have Bm3 := blk_nw hWm3
 have gB : w.heap.size ≤ Wm2.heap.size := bm2.size
 have nTB : tb ≠ Wm2.heap.size := by have := Tm2.lt; omega
 have nBT : Wm2.heap.size ≠ tb := fun e => nTB e.symm
 have nAB : w.heap.size ≠ Wm2.heap.size := by have := Am2.lt; omega
 have nBA : Wm2.heap.size ≠ w.heap.size := fun e => nAB e.symm
 obtain ⟨Wm4, hWm4⟩ : ∃ W, Wm3.setRow Wm2.heap.size #[.int .i64 0, .int .i64 0, .int .i64 0, .int .u64 0, .int .u64 0, .int .i64 0, .int .u64 0, .int .u64 0, .int .i64 0, .int .i64 0, .int .i64 0, .int .u32 0, .int .u32 0, .int .u32 0, .int .u32 0, .bool false, .bool false, .bool false, .bool false, .int .i64 0, .int .i64 0, .bool false] = W := ⟨_, rfl⟩
 have Bm4 : Blk Wm4 Wm2.heap.size 33 #[.int .i64 0, .int .i64 0, .int .i64 0, .int .u64 0, .int .u64 0, .int .i64 0, .int .u64 0, .int .u64 0, .int .i64 0, .int .i64 0, .int .i64 0, .int .u32 0, .int .u32 0, .int .u32 0, .int .u32 0, .bool false, .bool false, .bool false, .bool false, .int .i64 0, .int .i64 0, .bool false] := hWm4 ▸ Bm3.set #[.int .i64 0, .int .i64 0, .int .i64 0, .int .u64 0, .int .u64 0, .int .i64 0, .int .u64 0, .int .u64 0, .int .i64 0, .int .i64 0, .int .i64 0, .int .u32 0, .int .u32 0, .int .u32 0, .int .u32 0, .bool false, .bool false, .bool false, .bool false, .int .i64 0, .int .i64 0, .bool false]
 have Tm4 := hWm4 ▸ Tm3.other nTB #[.int .i64 0, .int .i64 0, .int .i64 0, .int .u64 0, .int .u64 0, .int .i64 0, .int .u64 0, .int .u64 0, .int .i64 0, .int .i64 0, .int .i64 0, .int .u32 0, .int .u32 0, .int .u32 0, .int .u32 0, .bool false, .bool false, .bool false, .bool false, .int .i64 0, .int .i64 0, .bool false]
 have Am4 := hWm4 ▸ Am3.other nAB #[.int .i64 0, .int .i64 0, .int .i64 0, .int .u64 0, .int .u64 0, .int .i64 0, .int .u64 0, .int .u64 0, .int .i64 0, .int .i64 0, .int .i64 0, .int .u32 0, .int .u32 0, .int .u32 0, .int .u32 0, .bool false, .bool false, .bool false, .bool false, .int .i64 0, .int .i64 0, .bool false]
 have bm4 := hWm4 ▸ below_setRow bm3 gB #[.int .i64 0, .int .i64 0, .int .i64 0, .int .u64 0, .int .u64 0, .int .i64 0, .int .u64 0, .int .u64 0, .int .i64 0, .int .i64 0, .int .i64 0, .int .u32 0, .int .u32 0, .int .u32 0, .int .u32 0, .bool false, .bool false, .bool false, .bool false, .int .i64 0, .int .i64 0, .bool false]
 go_wp2_with (refine wpList_store_row rfl _ _ _ rfl Wm2.heap.size #[.int .i64 0, .int .i64 0, .int .i64 0, .int .u64 0, .int .u64 0, .int .i64 0, .int .u64 0, .int .u64 0, .int .i64 0, .int .i64 0, .int .i64 0, .int .u32 0, .int .u32 0, .int .u32 0, .int .u32 0, .bool false, .bool false, .bool false, .bool false, .int .i64 0, .int .i64 0, .bool false] (by rfl) (by rfl) _ _ Bm3 (by kernel_rfl) (by rfl) (by kernel_rfl) ?_; rw [hWm4])
 go_ret
 exact ⟨retB_fw (by (try rw [← HR.out]) <;> first | rfl | (simp []; done) | (simp []; rfl)), bm4⟩
set_option maxRecDepth 100000 in
set_option maxHeartbeats 4000000 in
theorem tick_nil_fw (now : Int) (w : World) :
  Calls Try.prog 24 #[.pointer none, .int .i64 now] w fun e w' => e = .returned (.int .i64 (13 : Int)) ∧ Below w.heap.size w w' := by
 obtain ⟨R, hR⟩ : ∃ R, (13 : Int) = R := ⟨_, rfl⟩
 have HR : Hid ((13 : Int) = R) := hR
 rw [hR]
 clear hR
 have b := Below.refl w.heap.size w
 go_enter Try.func24, Try.ntmps24
 go_wp2_with fail
 refine Calls.mono (made_nil _) ?_
 rintro e Wm1 ⟨rfl, bb⟩
 have bm1 := bel_tr b bb
 clear bb
 go_wp2_with fail
 go_ret
 exact ⟨retN_fw (by (try rw [← HR.out]) <;> first | rfl | (simp []; done) | (simp []; rfl)), bm1⟩
set_option maxRecDepth 100000 in
set_option maxHeartbeats 4000000 in
theorem tick_un_fw (tb : Nat) (now : Int) (w : World) (T : Blk w tb 77 #[.bool false, .int .i64 0, .int .i64 0, .map none]) :
  Calls Try.prog 24 #[.pointer (some ⟨tb, 0, none⟩), .int .i64 now] w fun e w' => e = .returned (.int .i64 (13 : Int)) ∧ Below w.heap.size w w' := by
 obtain ⟨R, hR⟩ : ∃ R, (13 : Int) = R := ⟨_, rfl⟩
 have HR : Hid ((13 : Int) = R) := hR
 rw [hR]
 clear hR
 have b := Below.refl w.heap.size w
 go_enter Try.func24, Try.ntmps24
 go_wp2_with fail
 refine Calls.mono (made_un tb _ T) ?_
 rintro e Wm1 ⟨rfl, bb⟩
 have Tm1 := T.kept bb
 have bm1 := bel_tr b bb
 clear bb
 go_wp2_with fail
 go_ret
 exact ⟨retN_fw (by (try rw [← HR.out]) <;> first | rfl | (simp []; done) | (simp []; rfl)), bm1⟩
set_option maxRecDepth 100000 in
set_option maxHeartbeats 4000000 in
theorem all_nil_fw (w : World) :
  Calls Try.prog 23 #[.pointer none] w fun e w' => e = .returned (.slice none 0 0) ∧ Below w.heap.size w w' := by
 obtain ⟨R, hR⟩ : ∃ R, (0 : Int) = R := ⟨_, rfl⟩
 have HR : Hid ((0 : Int) = R) := hR
 try rw [hR]
 clear hR
 have b := Below.refl w.heap.size w
 go_enter Try.func23, Try.ntmps23
 go_wp2_with fail
 refine Calls.mono (made_nil _) ?_
 rintro e Wm1 ⟨rfl, bb⟩
 have bm1 := bel_tr b bb
 clear bb
 go_wp2_with fail
 go_ret
 exact ⟨rfl, bm1⟩
set_option maxRecDepth 100000 in
set_option maxHeartbeats 4000000 in
theorem all_un_fw (tb : Nat) (w : World) (T : Blk w tb 77 #[.bool false, .int .i64 0, .int .i64 0, .map none]) :
  Calls Try.prog 23 #[.pointer (some ⟨tb, 0, none⟩)] w fun e w' => e = .returned (.slice none 0 0) ∧ Below w.heap.size w w' := by
 obtain ⟨R, hR⟩ : ∃ R, (0 : Int) = R := ⟨_, rfl⟩
 have HR : Hid ((0 : Int) = R) := hR
 try rw [hR]
 clear hR
 have b := Below.refl w.heap.size w
 go_enter Try.func23, Try.ntmps23
 go_wp2_with fail
 refine Calls.mono (made_un tb _ T) ?_
 rintro e Wm1 ⟨rfl, bb⟩
 have Tm1 := T.kept bb
 have bm1 := bel_tr b bb
 clear bb
 go_wp2_with fail
 go_ret
 exact ⟨rfl, bm1⟩
set_option maxRecDepth 100000 in
theorem neq_zero_fl (w : World) : (Go.binOp .neq 33 (.agg #[.int .i64 0, .int .i64 0, .int .i64 0, .int .u64 0, .int .u64 0, .int .i64 0, .int .u64 0, .int .u64 0, .int .i64 0, .int .i64 0, .int .i64 0, .int .u32 0, .int .u32 0, .int .u32 0, .int .u32 0, .bool false, .bool false, .bool false, .bool false, .int .i64 0, .int .i64 0, .bool false]) (.agg #[.int .i64 0, .int .i64 0, .int .i64 0, .int .u64 0, .int .u64 0, .int .i64 0, .int .u64 0, .int .u64 0, .int .i64 0, .int .i64 0, .int .i64 0, .int .u32 0, .int .u32 0, .int .u32 0, .int .u32 0, .bool false, .bool false, .bool false, .bool false, .int .i64 0, .int .i64 0, .bool false])).run Try.prog w = Result.ok (.bool false) w := neq_fl fl0 w
set_option maxRecDepth 100000 in
set_option maxHeartbeats 8000000 in
theorem flowNobody_walk (f : Fl) (now : Int) (w : World) (hf : f.kf) :
  Calls Try.prog 9 #[.agg f.v, .int .i64 now] w fun e w' => e = .returned (.bool true) ∧ Below w.heap.size w w' := by
 obtain ⟨R, hR⟩ : ∃ R, true = R := ⟨_, rfl⟩
 have HR : Hid (true = R) := hR
 try rw [hR]
 clear hR
 have b := Below.refl w.heap.size w
 go_enter Try.func9, Try.ntmps9
 obtain ⟨Wm1, hWm1⟩ : ∃ W, w.alloc (.cells f.v 33) = W := ⟨_, rfl⟩
 have bm1 := bel_al b hWm1
 have Am1 := blk_nw hWm1
 have gA : w.heap.size ≤ w.heap.size := b.size
 obtain ⟨Wm2, hWm2⟩ : ∃ W, Wm1.alloc (.cells #[.bool false, .int .i64 0, .int .i64 0, .map none] 77) = W := ⟨_, rfl⟩
 have bm2 := bel_al bm1 hWm2
 have Am2 := Am1.al hWm2
 have Bm2 := blk_nw hWm2
 have gB : w.heap.size ≤ Wm1.heap.size := bm1.size
 have nAB : w.heap.size ≠ Wm1.heap.size := by have := Am1.lt; omega
 have nBA : Wm1.heap.size ≠ w.heap.size := fun e => nAB e.symm
 obtain ⟨Wm3, hWm3⟩ : ∃ W, Wm2.alloc (.cells #[.pointer none, .pointer (some ⟨Wm1.heap.size, 0, none⟩)] 50) = W := ⟨_, rfl⟩
 have bm3 := bel_al bm2 hWm3
 have Am3 := Am2.al hWm3
 have Bm3 := Bm2.al hWm3
 have Cm3 := blk_nw hWm3
 have gC : w.heap.size ≤ Wm2.heap.size := bm2.size
 have nAC : w.heap.size ≠ Wm2.heap.size := by have := Am2.lt; omega
 have nCA : Wm2.heap.size ≠ w.heap.size := fun e => nAC e.symm
 have nBC : Wm1.heap.size ≠ Wm2.heap.size := by have := Bm2.lt; omega
 have nCB : Wm2.heap.size ≠ Wm1.heap.size := fun e => nBC e.symm
 go_wp2_with fail
 refine wp_loop_rounds 3 ?_
 rw [rounds_succ]
 have c4 := Cm3.cell 0 (.pointer none) rfl
 go_wp2_with (refine wpList_load_sub_w (by rfl) _ _ rfl w.heap.size 0 _ (by rfl) _ f.w.v Am3 (by rfl) Try.underlying26 (by kernel_rfl) ?_)
 clear c4
 refine Calls.mono (find_nil_fw f.w _) ?_
 rintro e Wm5 ⟨rfl, bb⟩
 have Am5 := Am3.kept bb
 have Bm5 := Bm3.kept bb
 have Cm5 := Cm3.kept bb
 have bm5 := bel_tr bm3 bb
 clear bb
 clear Am3 Bm3 Cm3 bm3
 obtain ⟨Wm6, hWm6⟩ : ∃ W, Wm5.alloc (.cells #[.int .i64 0, .int .i64 0, .int .i64 0, .int .u64 0, .int .u64 0, .int .i64 0, .int .u64 0, .int .u64 0, .int .i64 0, .int .i64 0, .int .i64 0, .int .u32 0, .int .u32 0, .int .u32 0, .int .u32 0, .bool false, .bool false, .bool false, .bool false, .int .i64 0, .int .i64 0, .bool false] 33) = W := ⟨_, rfl⟩
 have bm6 := bel_al bm5 hWm6
 have Am6 := Am5.al hWm6
 have Bm6 := Bm5.al hWm6
 have Cm6 := Cm5.al hWm6
 have Dm6 := blk_nw hWm6
 have gD : w.heap.size ≤ Wm5.heap.size := bm5.size
 have nAD : w.heap.size ≠ Wm5.heap.size := by have := Am5.lt; omega
 have nDA : Wm5.heap.size ≠ w.heap.size := fun e => nAD e.symm
 have nBD : Wm1.heap.size ≠ Wm5.heap.size := by have := Bm5.lt; omega
 have nDB : Wm5.heap.size ≠ Wm1.heap.size := fun e => nBD e.symm
 have nCD : Wm2.heap.size ≠ Wm5.heap.size := by have := Cm5.lt; omega
 have nDC : Wm5.heap.size ≠ Wm2.heap.size := fun e => nCD e.symm
 obtain ⟨Wm7, hWm7⟩ : ∃ W, Wm6.setRow Wm5.heap.size #[.int .i64 0, .int .i64 0, .int .i64 0, .int .u64 0, .int .u64 0, .int .i64 0, .int .u64 0, .int .u64 0, .int .i64 0, .int .i64 0, .int .i64 0, .int .u32 0, .int .u32 0, .int .u32 0, .int .u32 0, .bool false, .bool false, .bool false, .bool false, .int .i64 0, .int .i64 0, .bool false] = W := ⟨_, rfl⟩
 have Dm7 : Blk Wm7 Wm5.heap.size 33 #[.int .i64 0, .int .i64 0, .int .i64 0, .int .u64 0, .int .u64 0, .int .i64 0, .int .u64 0, .int .u64 0, .int .i64 0, .int .i64 0, .int .i64 0, .int .u32 0, .int .u32 0, .int .u32 0, .int .u32 0, .bool false, .bool false, .bool false, .bool false, .int .i64 0, .int .i64 0, .bool false] := hWm7 ▸ Dm6.set #[.int .i64 0, .int .i64 0, .int .i64 0, .int .u64 0, .int .u64 0, .int .i64 0, .int .u64 0, .int .u64 0, .int .i64 0, .int .i64 0, .int .i64 0, .int .u32 0, .int .u32 0, .int .u32 0, .int .u32 0, .bool false, .bool false, .bool false, .bool false, .int .i64 0, .int .i64 0, .bool false]
 have Am7 := hWm7 ▸ Am6.other nAD #[.int .i64 0, .int .i64 0, .int .i64 0, .int .u64 0, .int .u64 0, .int .i64 0, .int .u64 0, .int .u64 0, .int .i64 0, .int .i64 0, .int .i64 0, .int .u32 0, .int .u32 0, .int .u32 0, .int .u32 0, .bool false, .bool false, .bool false, .bool false, .int .i64 0, .int .i64 0, .bool false]
 have Bm7 := hWm7 ▸ Bm6.other nBD #[.int .i64 0, .int .i64 0, .int .i64 0, .int .u64 0, .int .u64 0, .int .i64 0, .int .u64 0, .int .u64 0, .int .i64 0, .int .i64 0, .int .i64 0, .int .u32 0, .int .u32 0, .int .u32 0, .int .u32 0, .bool false, .bool false, .bool false, .bool false, .int .i64 0, .int .i64 0, .bool false]
 have Cm7 := hWm7 ▸ Cm6.other nCD #[.int .i64 0, .int .i64 0, .int .i64 0, .int .u64 0, .int .u64 0, .int .i64 0, .int .u64 0, .int .u64 0, .int .i64 0, .int .i64 0, .int .i64 0, .int .u32 0, .int .u32 0, .int .u32 0, .int .u32 0, .bool false, .bool false, .bool false, .bool false, .int .i64 0, .int .i64 0, .bool false]
 have bm7 := hWm7 ▸ below_setRow bm6 gD #[.int .i64 0, .int .i64 0, .int .i64 0, .int .u64 0, .int .u64 0, .int .i64 0, .int .u64 0, .int .u64 0, .int .i64 0, .int .i64 0, .int .i64 0, .int .u32 0, .int .u32 0, .int .u32 0, .int .u32 0, .bool false, .bool false, .bool false, .bool false, .int .i64 0, .int .i64 0, .bool false]
 go_wp2_with (first | (refine wpList_store_row rfl _ _ _ rfl Wm5.heap.size #[.int .i64 0, .int .i64 0, .int .i64 0, .int .u64 0, .int .u64 0, .int .i64 0, .int .u64 0, .int .u64 0, .int .i64 0, .int .i64 0, .int .i64 0, .int .u32 0, .int .u32 0, .int .u32 0, .int .u32 0, .bool false, .bool false, .bool false, .bool false, .int .i64 0, .int .i64 0, .bool false] (by rfl) (by rfl) _ _ Dm6 (by kernel_rfl) (by rfl) (by kernel_rfl) ?_; rw [hWm7]) | (refine wpList_load_blk_w (by rfl) _ _ rfl w.heap.size (by rfl) _ Am7 Try.underlying33 (by kernel_rfl) ?_))
 refine Calls.mono (put_nil_fw f _) ?_
 rintro e Wm8 ⟨rfl, bb⟩
 have Am8 := Am7.kept bb
 have Bm8 := Bm7.kept bb
 have Cm8 := Cm7.kept bb
 have Dm8 := Dm7.kept bb
 have bm8 := bel_tr bm7 bb
 clear bb
 clear Am7 Bm7 Cm7 Dm7 bm7
 have hE9 := neq_zero_fl
 go_wp2_with (first | (refine wpList_load_blk_w (by rfl) _ _ rfl Wm5.heap.size (by rfl) _ Dm8 Try.underlying33 (by kernel_rfl) ?_) | (refine wpList_load_sub_w (by rfl) _ _ rfl w.heap.size 0 _ (by rfl) _ f.w.v Am8 (by rfl) Try.underlying26 (by kernel_rfl) ?_))
 clear hE9
 refine Calls.mono (drop_nil_fw f.w _) ?_
 rintro e Wm10 ⟨rfl, bb⟩
 have Am10 := Am8.kept bb
 have Bm10 := Bm8.kept bb
 have Cm10 := Cm8.kept bb
 have Dm10 := Dm8.kept bb
 have bm10 := bel_tr bm8 bb
 clear bb
 clear Am8 Bm8 Cm8 Dm8 bm8
 go_wp2_with fail
 refine Calls.mono (tick_nil_fw now _) ?_
 rintro e Wm11 ⟨rfl, bb⟩
 have Am11 := Am10.kept bb
 have Bm11 := Bm10.kept bb
 have Cm11 := Cm10.kept bb
 have Dm11 := Dm10.kept bb
 have bm11 := bel_tr bm10 bb
 clear bb
 clear Am10 Bm10 Cm10 Dm10 bm10
 go_wp2_with fail
 refine Calls.mono (all_nil_fw  _) ?_
 rintro e Wm12 ⟨rfl, bb⟩
 have Am12 := Am11.kept bb
 have Bm12 := Bm11.kept bb
 have Cm12 := Cm11.kept bb
 have Dm12 := Dm11.kept bb
 have bm12 := bel_tr bm11 bb
 clear bb
 clear Am11 Bm11 Cm11 Dm11 bm11
 go_wp2_with fail
 refine Calls.mono (len_nil_fw  _) ?_
 rintro e Wm13 ⟨rfl, bb⟩
 have Am13 := Am12.kept bb
 have Bm13 := Bm12.kept bb
 have Cm13 := Cm12.kept bb
 have Dm13 := Dm12.kept bb
 have bm13 := bel_tr bm12 bb
 clear bb
 clear Am12 Bm12 Cm12 Dm12 bm12
 go_wp2_with fail
 refine Calls.mono (now_nil_fw  _) ?_
 rintro e Wm14 ⟨rfl, bb⟩
 have Am14 := Am13.kept bb
 have Bm14 := Bm13.kept bb
 have Cm14 := Cm13.kept bb
 have Dm14 := Dm13.kept bb
 have bm14 := bel_tr bm13 bb
 clear bb
 clear Am13 Bm13 Cm13 Dm13 bm13
 go_wp2_with fail
 rw [rounds_succ]
 have c15 := Cm14.cell 1 (.pointer (some ⟨Wm1.heap.size, 0, none⟩)) rfl
 go_wp2_with (refine wpList_load_sub_w (by rfl) _ _ rfl w.heap.size 0 _ (by rfl) _ f.w.v Am14 (by rfl) Try.underlying26 (by kernel_rfl) ?_)
 clear c15
 refine Calls.mono (find_un_fw Wm1.heap.size f.w _ Bm14) ?_
 rintro e Wm16 ⟨rfl, bb⟩
 have Am16 := Am14.kept bb
 have Bm16 := Bm14.kept bb
 have Cm16 := Cm14.kept bb
 have Dm16 := Dm14.kept bb
 have bm16 := bel_tr bm14 bb
 clear bb
 clear Am14 Bm14 Cm14 Dm14 bm14
 obtain ⟨Wm17, hWm17⟩ : ∃ W, Wm16.alloc (.cells #[.int .i64 0, .int .i64 0, .int .i64 0, .int .u64 0, .int .u64 0, .int .i64 0, .int .u64 0, .int .u64 0, .int .i64 0, .int .i64 0, .int .i64 0, .int .u32 0, .int .u32 0, .int .u32 0, .int .u32 0, .bool false, .bool false, .bool false, .bool false, .int .i64 0, .int .i64 0, .bool false] 33) = W := ⟨_, rfl⟩
 have bm17 := bel_al bm16 hWm17
 have Am17 := Am16.al hWm17
 have Bm17 := Bm16.al hWm17
 have Cm17 := Cm16.al hWm17
 have Dm17 := Dm16.al hWm17
 have Em17 := blk_nw hWm17
 have gE : w.heap.size ≤ Wm16.heap.size := bm16.size
 have nAE : w.heap.size ≠ Wm16.heap.size := by have := Am16.lt; omega
 have nEA : Wm16.heap.size ≠ w.heap.size := fun e => nAE e.symm
 have nBE : Wm1.heap.size ≠ Wm16.heap.size := by have := Bm16.lt; omega
 have nEB : Wm16.heap.size ≠ Wm1.heap.size := fun e => nBE e.symm
 have nCE : Wm2.heap.size ≠ Wm16.heap.size := by have := Cm16.lt; omega
 have nEC : Wm16.heap.size ≠ Wm2.heap.size := fun e => nCE e.symm
 have nDE : Wm5.heap.size ≠ Wm16.heap.size := by have := Dm16.lt; omega
 have nED : Wm16.heap.size ≠ Wm5.heap.size := fun e => nDE e.symm
 obtain ⟨Wm18, hWm18⟩ : ∃ W, Wm17.setRow Wm16.heap.size #[.int .i64 0, .int .i64 0, .int .i64 0, .int .u64 0, .int .u64 0, .int .i64 0, .int .u64 0, .int .u64 0, .int .i64 0, .int .i64 0, .int .i64 0, .int .u32 0, .int .u32 0, .int .u32 0, .int .u32 0, .bool false, .bool false, .bool false, .bool false, .int .i64 0, .int .i64 0, .bool false] = W := ⟨_, rfl⟩
 have Em18 : Blk Wm18 Wm16.heap.size 33 #[.int .i64 0, .int .i64 0, .int .i64 0, .int .u64 0, .int .u64 0, .int .i64 0, .int .u64 0, .int .u64 0, .int .i64 0, .int .i64 0, .int .i64 0, .int .u32 0, .int .u32 0, .int .u32 0, .int .u32 0, .bool false, .bool false, .bool false, .bool false, .int .i64 0, .int .i64 0, .bool false] := hWm18 ▸ Em17.set #[.int .i64 0, .int .i64 0, .int .i64 0, .int .u64 0, .int .u64 0, .int .i64 0, .int .u64 0, .int .u64 0, .int .i64 0, .int .i64 0, .int .i64 0, .int .u32 0, .int .u32 0, .int .u32 0, .int .u32 0, .bool false, .bool false, .bool false, .bool false, .int .i64 0, .int .i64 0, .bool false]
 have Am18 := hWm18 ▸ Am17.other nAE #[.int .i64 0, .int .i64 0, .int .i64 0, .int .u64 0, .int .u64 0, .int .i64 0, .int .u64 0, .int .u64 0, .int .i64 0, .int .i64 0, .int .i64 0, .int .u32 0, .int .u32 0, .int .u32 0, .int .u32 0, .bool false, .bool false, .bool false, .bool false, .int .i64 0, .int .i64 0, .bool false]
 have Bm18 := hWm18 ▸ Bm17.other nBE #[.int .i64 0, .int .i64 0, .int .i64 0, .int .u64 0, .int .u64 0, .int .i64 0, .int .u64 0, .int .u64 0, .int .i64 0, .int .i64 0, .int .i64 0, .int .u32 0, .int .u32 0, .int .u32 0, .int .u32 0, .bool false, .bool false, .bool false, .bool false, .int .i64 0, .int .i64 0, .bool false]
 have Cm18 := hWm18 ▸ Cm17.other nCE #[.int .i64 0, .int .i64 0, .int .i64 0, .int .u64 0, .int .u64 0, .int .i64 0, .int .u64 0, .int .u64 0, .int .i64 0, .int .i64 0, .int .i64 0, .int .u32 0, .int .u32 0, .int .u32 0, .int .u32 0, .bool false, .bool false, .bool false, .bool false, .int .i64 0, .int .i64 0, .bool false]
 have Dm18 := hWm18 ▸ Dm17.other nDE #[.int .i64 0, .int .i64 0, .int .i64 0, .int .u64 0, .int .u64 0, .int .i64 0, .int .u64 0, .int .u64 0, .int .i64 0, .int .i64 0, .int .i64 0, .int .u32 0, .int .u32 0, .int .u32 0, .int .u32 0, .bool false, .bool false, .bool false, .bool false, .int .i64 0, .int .i64 0, .bool false]
 have bm18 := hWm18 ▸ below_setRow bm17 gE #[.int .i64 0, .int .i64 0, .int .i64 0, .int .u64 0, .int .u64 0, .int .i64 0, .int .u64 0, .int .u64 0, .int .i64 0, .int .i64 0, .int .i64 0, .int .u32 0, .int .u32 0, .int .u32 0, .int .u32 0, .bool false, .bool false, .bool false, .bool false, .int .i64 0, .int .i64 0, .bool false]
 go_wp2_with (first | (refine wpList_store_row rfl _ _ _ rfl Wm16.heap.size #[.int .i64 0, .int .i64 0, .int .i64 0, .int .u64 0, .int .u64 0, .int .i64 0, .int .u64 0, .int .u64 0, .int .i64 0, .int .i64 0, .int .i64 0, .int .u32 0, .int .u32 0, .int .u32 0, .int .u32 0, .bool false, .bool false, .bool false, .bool false, .int .i64 0, .int .i64 0, .bool false] (by rfl) (by rfl) _ _ Em17 (by kernel_rfl) (by rfl) (by kernel_rfl) ?_; rw [hWm18]) | (refine wpList_load_blk_w (by rfl) _ _ rfl w.heap.size (by rfl) _ Am18 Try.underlying33 (by kernel_rfl) ?_))
 refine Calls.mono (put_un_fw Wm1.heap.size f _ Bm18) ?_
 rintro e Wm19 ⟨rfl, bb⟩
 have Am19 := Am18.kept bb
 have Bm19 := Bm18.kept bb
 have Cm19 := Cm18.kept bb
 have Dm19 := Dm18.kept bb
 have Em19 := Em18.kept bb
 have bm19 := bel_tr bm18 bb
 clear bb
 clear Am18 Bm18 Cm18 Dm18 Em18 bm18
 have hE20 := neq_zero_fl
 go_wp2_with (first | (refine wpList_load_blk_w (by rfl) _ _ rfl Wm16.heap.size (by rfl) _ Em19 Try.underlying33 (by kernel_rfl) ?_) | (refine wpList_load_sub_w (by rfl) _ _ rfl w.heap.size 0 _ (by rfl) _ f.w.v Am19 (by rfl) Try.underlying26 (by kernel_rfl) ?_))
 clear hE20
 refine Calls.mono (drop_un_fw Wm1.heap.size f.w _ Bm19) ?_
 rintro e Wm21 ⟨rfl, bb⟩
 have Am21 := Am19.kept bb
 have Bm21 := Bm19.kept bb
 have Cm21 := Cm19.kept bb
 have Dm21 := Dm19.kept bb
 have Em21 := Em19.kept bb
 have bm21 := bel_tr bm19 bb
 clear bb
 clear Am19 Bm19 Cm19 Dm19 Em19 bm19
 go_wp2_with fail
 refine Calls.mono (tick_un_fw Wm1.heap.size now _ Bm21) ?_
 rintro e Wm22 ⟨rfl, bb⟩
 have Am22 := Am21.kept bb
 have Bm22 := Bm21.kept bb
 have Cm22 := Cm21.kept bb
 have Dm22 := Dm21.kept bb
 have Em22 := Em21.kept bb
 have bm22 := bel_tr bm21 bb
 clear bb
 clear Am21 Bm21 Cm21 Dm21 Em21 bm21
 go_wp2_with fail
 refine Calls.mono (all_un_fw Wm1.heap.size  _ Bm22) ?_
 rintro e Wm23 ⟨rfl, bb⟩
 have Am23 := Am22.kept bb
 have Bm23 := Bm22.kept bb
 have Cm23 := Cm22.kept bb
 have Dm23 := Dm22.kept bb
 have Em23 := Em22.kept bb
 have bm23 := bel_tr bm22 bb
 clear bb
 clear Am22 Bm22 Cm22 Dm22 Em22 bm22
 go_wp2_with fail
 refine Calls.mono (len_un_fw Wm1.heap.size  _ Bm23) ?_
 rintro e Wm24 ⟨rfl, bb⟩
 have Am24 := Am23.kept bb
 have Bm24 := Bm23.kept bb
 have Cm24 := Cm23.kept bb
 have Dm24 := Dm23.kept bb
 have Em24 := Em23.kept bb
 have bm24 := bel_tr bm23 bb
 clear bb
 clear Am23 Bm23 Cm23 Dm23 Em23 bm23
 go_wp2_with fail
 refine Calls.mono (now_un_fw Wm1.heap.size  _ Bm24) ?_
 rintro e Wm25 ⟨rfl, bb⟩
 have Am25 := Am24.kept bb
 have Bm25 := Bm24.kept bb
 have Cm25 := Cm24.kept bb
 have Dm25 := Dm24.kept bb
 have Em25 := Em24.kept bb
 have bm25 := bel_tr bm24 bb
 clear bb
 clear Am24 Bm24 Cm24 Dm24 Em24 bm24
 go_wp2_with fail
 rw [rounds_succ]
 go_wp2_with fail
 refine Calls.mono (alive_fw _) ?_
 rintro e Wm26 ⟨rfl, bb⟩
 have Am26 := Am25.kept bb
 have Bm26 := Bm25.kept bb
 have Cm26 := Cm25.kept bb
 have Dm26 := Dm25.kept bb
 have Em26 := Em25.kept bb
 have bm26 := bel_tr bm25 bb
 clear bb
 clear Am25 Bm25 Cm25 Dm25 Em25 bm25
 go_wp2_with fail
 go_ret
 exact ⟨retB_fw (by (try rw [← HR.out]) <;> first | rfl | (simp []; done) | (simp []; rfl)), bm26⟩
end Go.Proofs.Ytfiembbmgdmagaa
