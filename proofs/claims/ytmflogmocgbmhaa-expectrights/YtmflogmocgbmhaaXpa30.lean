/- Texts joined: XpS -/
import Derived.Test.YtmflogmocgbmhaaXpa29
namespace Go.Proofs.Ytmflogmocgbmhaa
open Go.RowKit
set_option linter.unusedVariables false
set_option linter.unusedSimpArgs false
set_option maxRecDepth 100000 in
set_option maxHeartbeats 16000000 in
theorem alive_xp (w : World) :
    Calls Try.prog 14 #[] w fun e w' => e = .returned (.bool true) ∧ Below w.heap.size w w' := by
  have hk0 : ((Xt.add (⟨4, 4, 0, []⟩) wantA).2 == 0) = true := by decide
  have hk1 : ((Xt.take (Xt.add (⟨4, 4, 0, []⟩) wantA).1 (wayW 20 2000)).2.2) = true := by decide
  have hk2 : ((Xt.take (Xt.take (Xt.add (⟨4, 4, 0, []⟩) wantA).1 (wayW 20 2000)).1 (wayW 20 2000)).2.2) = false := by decide
  have hk3 : ((Xt.take (Xt.add (⟨4, 4, 0, []⟩) wantA).1 (wayW 20 2000)).2.1.ends == 9) = true := by decide
  obtain ⟨R, hR⟩ : ∃ R, true = R := ⟨_, rfl⟩
  have HR : Hid (true = R) := hR
  try rw [hR]
  clear hR
  have b := Below.refl w.heap.size w
  go_enter Try.func14, Try.ntmps14
  go_wp2_with fail
  refine Calls.mono (newX 4 4 (by decide) (by decide) _) ?_
  rintro e Wm1 ⟨tb, rfl, Xm1, gtb, bb⟩
  have bm1 := bel_tr b bb
  clear bb
  have gwb : w.heap.size ≤ tb := Nat.le_trans b.size gtb
  have gwm := gwb
  go_wp2_with fail
  refine Calls.mono (way_xp (-1) 2000 _) ?_
  rintro e Wm2 ⟨rfl, bb⟩
  have Xm2 := Xm1.kept bb
  have bm2 := bel_tr bm1 bb
  clear bb
  clear Xm1 bm1
  go_wp2_with fail
  refine Calls.mono (way_xp 21 1024 _) ?_
  rintro e Wm3 ⟨rfl, bb⟩
  have Xm3 := Xm2.kept bb
  have bm3 := bel_tr bm2 bb
  clear bb
  clear Xm2 bm2
  go_wp2_with fail
  refine Calls.mono (addX tb tb (⟨4, 4, 0, []⟩) wantA _ Xm3 (wantA_ok)) ?_
  rintro e Wm4 ⟨lb4, rfl, Xm4, hlm4, bb⟩
  have bm4 := bel_but bm3 bb gwb gwm
  clear bb
  have gwm : w.heap.size ≤ lb4 := by have h9 := bm3.size; rcases hlm4 with h | h <;> omega
  clear Xm3 bm3
  go_wp2_with fail
  refine Calls.mono (way_xp 20 2000 _) ?_
  rintro e Wm5 ⟨rfl, bb⟩
  have Xm5 := Xm4.kept bb
  have bm5 := bel_tr bm4 bb
  clear bb
  clear Xm4 bm4
  go_wp2_with fail
  refine Calls.mono (takeX tb lb4 (Xt.add (⟨4, 4, 0, []⟩) wantA).1 (wayW 20 2000) _ Xm5) ?_
  rintro e Wm6 ⟨rfl, Xm6, bb⟩
  have bm6 := bel_but bm5 bb gwb gwm
  clear bb
  clear Xm5 bm5
  obtain ⟨Wm7, hWm7⟩ : ∃ W, Wm6.alloc (.cells #[.int .i64 0, .int .i64 0, .int .i64 0, .int .u64 0, .int .u64 0, .int .i64 0, .int .u64 0, .int .u64 0, .int .i64 0, .int .i64 0, .int .i64 0, .int .i64 0, .int .i64 0, .int .u64 0, .int .u64 0, .int .i64 0, .int .u64 0, .int .u64 0, .int .i64 0, .int .i64 0, .int .i64 0, .int .i64 0] 28) = W := ⟨_, rfl⟩
  have bm7 := bel_al bm6 hWm7
  have Xm7 := Xm6.al hWm7
  have Am7 := blk_nw hWm7
  have gA : w.heap.size ≤ Wm6.heap.size := bm6.size
  have nXA : tb ≠ Wm6.heap.size ∧ lb4 ≠ Wm6.heap.size := by have := Xm6.lt; omega
  obtain ⟨Wm8, hWm8⟩ : ∃ W, Wm7.setRow Wm6.heap.size (Xt.take (Xt.add (⟨4, 4, 0, []⟩) wantA).1 (wayW 20 2000)).2.1.v = W := ⟨_, rfl⟩
  have Am8 : Blk Wm8 Wm6.heap.size 28 (Xt.take (Xt.add (⟨4, 4, 0, []⟩) wantA).1 (wayW 20 2000)).2.1.v := hWm8 ▸ Am7.set (Xt.take (Xt.add (⟨4, 4, 0, []⟩) wantA).1 (wayW 20 2000)).2.1.v
  have Xm8 := hWm8 ▸ Xm7.other nXA (Xt.take (Xt.add (⟨4, 4, 0, []⟩) wantA).1 (wayW 20 2000)).2.1.v
  have bm8 := hWm8 ▸ below_setRow bm7 gA (Xt.take (Xt.add (⟨4, 4, 0, []⟩) wantA).1 (wayW 20 2000)).2.1.v
  go_wp2_with (refine wpList_store_row rfl _ _ _ rfl Wm6.heap.size (Xt.take (Xt.add (⟨4, 4, 0, []⟩) wantA).1 (wayW 20 2000)).2.1.v (by rfl) (by rfl) _ _ Am7 (by kernel_rfl) (by rfl) (by kernel_rfl) ?_; rw [hWm8])
  refine Calls.mono (way_xp 20 2000 _) ?_
  rintro e Wm9 ⟨rfl, bb⟩
  have Xm9 := Xm8.kept bb
  have Am9 := Am8.kept bb
  have bm9 := bel_tr bm8 bb
  clear bb
  clear Xm8 Am8 bm8
  go_wp2_with fail
  refine Calls.mono (takeX tb lb4 (Xt.take (Xt.add (⟨4, 4, 0, []⟩) wantA).1 (wayW 20 2000)).1 (wayW 20 2000) _ Xm9) ?_
  rintro e Wm10 ⟨rfl, Xm10, bb⟩
  have Am10 := Am9.but bb (by have := nXA; omega)
  have bm10 := bel_but bm9 bb gwb gwm
  clear bb
  clear Xm9 Am9 bm9
  obtain ⟨Wm11, hWm11⟩ : ∃ W, Wm10.alloc (.cells #[.int .i64 0, .int .i64 0, .int .i64 0, .int .u64 0, .int .u64 0, .int .i64 0, .int .u64 0, .int .u64 0, .int .i64 0, .int .i64 0, .int .i64 0, .int .i64 0, .int .i64 0, .int .u64 0, .int .u64 0, .int .i64 0, .int .u64 0, .int .u64 0, .int .i64 0, .int .i64 0, .int .i64 0, .int .i64 0] 28) = W := ⟨_, rfl⟩
  have bm11 := bel_al bm10 hWm11
  have Xm11 := Xm10.al hWm11
  have Am11 := Am10.al hWm11
  have Bm11 := blk_nw hWm11
  have gB : w.heap.size ≤ Wm10.heap.size := bm10.size
  have nXB : tb ≠ Wm10.heap.size ∧ lb4 ≠ Wm10.heap.size := by have := Xm10.lt; omega
  have nAB : Wm6.heap.size ≠ Wm10.heap.size := by have := Am10.lt; omega
  have nBA : Wm10.heap.size ≠ Wm6.heap.size := fun e => nAB e.symm
  obtain ⟨Wm12, hWm12⟩ : ∃ W, Wm11.setRow Wm10.heap.size (Xt.take (Xt.take (Xt.add (⟨4, 4, 0, []⟩) wantA).1 (wayW 20 2000)).1 (wayW 20 2000)).2.1.v = W := ⟨_, rfl⟩
  have Bm12 : Blk Wm12 Wm10.heap.size 28 (Xt.take (Xt.take (Xt.add (⟨4, 4, 0, []⟩) wantA).1 (wayW 20 2000)).1 (wayW 20 2000)).2.1.v := hWm12 ▸ Bm11.set (Xt.take (Xt.take (Xt.add (⟨4, 4, 0, []⟩) wantA).1 (wayW 20 2000)).1 (wayW 20 2000)).2.1.v
  have Xm12 := hWm12 ▸ Xm11.other nXB (Xt.take (Xt.take (Xt.add (⟨4, 4, 0, []⟩) wantA).1 (wayW 20 2000)).1 (wayW 20 2000)).2.1.v
  have Am12 := hWm12 ▸ Am11.other nAB (Xt.take (Xt.take (Xt.add (⟨4, 4, 0, []⟩) wantA).1 (wayW 20 2000)).1 (wayW 20 2000)).2.1.v
  have bm12 := hWm12 ▸ below_setRow bm11 gB (Xt.take (Xt.take (Xt.add (⟨4, 4, 0, []⟩) wantA).1 (wayW 20 2000)).1 (wayW 20 2000)).2.1.v
  have c13 := Am12.cell 20 (.int .i64 (Xt.take (Xt.add (⟨4, 4, 0, []⟩) wantA).1 (wayW 20 2000)).2.1.ends) rfl
  go_wp2_with (refine wpList_store_row rfl _ _ _ rfl Wm10.heap.size (Xt.take (Xt.take (Xt.add (⟨4, 4, 0, []⟩) wantA).1 (wayW 20 2000)).1 (wayW 20 2000)).2.1.v (by rfl) (by rfl) _ _ Bm11 (by kernel_rfl) (by rfl) (by kernel_rfl) ?_; rw [hWm12])
  go_ret
  exact ⟨retB_fw (by (try rw [← HR.out]) <;> first | rfl | (simp []; done) | (simp []; rfl)), bm12⟩
end Go.Proofs.Ytmflogmocgbmhaa
