/- Texts joined: XpC -/
import Derived.Test.YtmflogmocgbmhaaXpa9
import Derived.Test.YtmflogmocgbmhaaXpa10
import Derived.Test.YtmflogmocgbmhaaXpa11
namespace Go.Proofs.Ytmflogmocgbmhaa
open Go.RowKit
set_option linter.unusedVariables false
set_option linter.unusedSimpArgs false
set_option maxRecDepth 100000 in
set_option maxHeartbeats 4000000 in
theorem help_xp (h : Int) (w : World) :
    Calls Try.prog 32 #[.int .i64 h] w fun e w' => e = .returned (.bool (hlpW h)) ∧ Below w.heap.size w w' := by
  obtain ⟨R, hR⟩ : ∃ R, hlpW h = R := ⟨_, rfl⟩
  have HR : Hid (hlpW h = R) := hR
  try rw [hR]
  clear hR
  have b := Below.refl w.heap.size w
  go_enter Try.func32, Try.ntmps32
  cases hq1 : (decide (0 ≤ h)) with
  | false =>
    go_wp2_with fail
    go_ret
    exact ⟨retB_fw (by (try rw [← HR.out]) <;> first | rfl | (simp [hlpW, hq1]; done) | (simp [hlpW, hq1]; rfl)), b⟩

  | true =>
    go_wp2_with fail
    go_ret
    exact ⟨retB_fw (by (try rw [← HR.out]) <;> first | rfl | (simp [hlpW, hq1]; done) | (simp [hlpW, hq1]; rfl)), b⟩
set_option maxRecDepth 100000 in
set_option maxHeartbeats 4000000 in
theorem rway_xp (t : Wy) (w : World) :
    Calls Try.prog 30 #[.agg t.v] w fun e w' => e = .returned (.bool t.any.right) ∧ Below w.heap.size w w' := by
  obtain ⟨R, hR⟩ : ∃ R, t.any.right = R := ⟨_, rfl⟩
  have HR : Hid (t.any.right = R) := hR
  try rw [hR]
  clear hR
  have b := Below.refl w.heap.size w
  go_enter Try.func30, Try.ntmps30
  cases hq3 : (t.sp == -1) with
  | false =>
    obtain ⟨Wm4, hWm4⟩ : ∃ W, w.alloc (.cells t.v 26) = W := ⟨_, rfl⟩
    have bm4 := bel_al b hWm4
    have Am4 := blk_nw hWm4
    have gA : w.heap.size ≤ w.heap.size := b.size
    have c5 := Am4.cell 8 (.int .i64 t.sp) rfl
    go_wp2_with (refine wpList_load_blk_w (by rfl) _ _ rfl w.heap.size (by rfl) _ Am4 Try.underlying26 (by kernel_rfl) ?_)
    clear c5
    refine Calls.mono (right_t t _) ?_
    rintro e Wm6 ⟨rfl, bb⟩
    have Am6 := Am4.kept bb
    have bm6 := bel_tr bm4 bb
    clear bb
    clear Am4 bm4
    go_wp2_with fail
    go_ret
    exact ⟨retB_fw (by (try rw [← HR.out]) <;> first | rfl | (simp [Wy.any, hq3]; done) | (simp [Wy.any, hq3]; rfl)), bm6⟩

  | true =>
    obtain ⟨Wm7, hWm7⟩ : ∃ W, w.alloc (.cells t.v 26) = W := ⟨_, rfl⟩
    have bm7 := bel_al b hWm7
    have Am7 := blk_nw hWm7
    have gA : w.heap.size ≤ w.heap.size := b.size
    have c8 := Am7.cell 8 (.int .i64 t.sp) rfl
    have y10 := Am7.cell 8 (.int .i64 t.sp) rfl
    have z11 := Am7.frozen 8
    obtain ⟨Wm9, hWm9⟩ : ∃ W, Wm7.setCell ⟨w.heap.size, 8, none⟩ (.int .i64 0) = W := ⟨_, rfl⟩
    have Am9 : Blk Wm9 w.heap.size 26 (Wy.v ⟨t.fam, t.pr, t.s, t.d, 0, t.dp⟩) := hWm9 ▸ Am7.put 8 (.int .i64 0)
    have bm9 := hWm9 ▸ bm7.setCell (p := ⟨w.heap.size, 8, none⟩) gA (.int .i64 0)
    go_wp2_with (refine wpList_load_blk_w (by rfl) _ _ rfl w.heap.size (by rfl) _ Am9 Try.underlying26 (by kernel_rfl) ?_)
    clear c8 y10 z11
    refine Calls.mono (right_t (⟨t.fam, t.pr, t.s, t.d, 0, t.dp⟩) _) ?_
    rintro e Wm12 ⟨rfl, bb⟩
    have Am12 := Am9.kept bb
    have bm12 := bel_tr bm9 bb
    clear bb
    clear Am9 bm9
    go_wp2_with fail
    go_ret
    exact ⟨retB_fw (by (try rw [← HR.out]) <;> first | rfl | (simp [Wy.any, hq3]; done) | (simp [Wy.any, hq3]; rfl)), bm12⟩
set_option maxRecDepth 100000 in
set_option maxHeartbeats 4000000 in
theorem right_xp (f : Wt) (w : World) :
    Calls Try.prog 10 #[.agg f.v] w fun e w' => e = .returned (.bool f.right) ∧ Below w.heap.size w w' := by
  obtain ⟨R, hR⟩ : ∃ R, f.right = R := ⟨_, rfl⟩
  have HR : Hid (f.right = R) := hR
  try rw [hR]
  clear hR
  have b := Below.refl w.heap.size w
  go_enter Try.func10, Try.ntmps10
  obtain ⟨Wm1, hWm1⟩ : ∃ W, w.alloc (.cells f.v 28) = W := ⟨_, rfl⟩
  have bm1 := bel_al b hWm1
  have Am1 := blk_nw hWm1
  have gA : w.heap.size ≤ w.heap.size := b.size
  go_wp2_with (refine wpList_load_sub_w (by rfl) _ _ rfl w.heap.size 0 _ (by rfl) _ f.w.v Am1 (by rfl) Try.underlying26 (by kernel_rfl) ?_)
  refine Calls.mono (rway_xp f.w _) ?_
  rintro e Wm2 ⟨rfl, bb⟩
  have Am2 := Am1.kept bb
  have bm2 := bel_tr bm1 bb
  clear bb
  clear Am1 bm1
  cases hq3 : (Wy.any f.w).right with
  | false =>
    go_wp2_with fail
    go_ret
    exact ⟨retB_fw (by (try rw [← HR.out]) <;> first | rfl | (simp [Wt.right, endW, hq3]; done) | (simp [Wt.right, endW, hq3]; rfl)), bm2⟩

  | true =>
    go_wp2_with (refine wpList_load_sub_w (by rfl) _ _ rfl w.heap.size 10 _ (by rfl) _ f.m.v Am2 (by rfl) Try.underlying26 (by kernel_rfl) ?_)
    refine Calls.mono (right_t f.m _) ?_
    rintro e Wm4 ⟨rfl, bb⟩
    have Am4 := Am2.kept bb
    have bm4 := bel_tr bm2 bb
    clear bb
    clear Am2 bm2
    cases hq5 : (Wy.right f.m) with
    | false =>
      go_wp2_with fail
      go_ret
      exact ⟨retB_fw (by (try rw [← HR.out]) <;> first | rfl | (simp [Wt.right, endW, hq3, hq5]; done) | (simp [Wt.right, endW, hq3, hq5]; rfl)), bm4⟩

    | true =>
      cases hq7 : (decide (0 ≤ f.ends)) with
      | false =>
        have c8 := Am4.cell 20 (.int .i64 f.ends) rfl
        go_wp2_with fail
        go_ret
        exact ⟨retB_fw (by (try rw [← HR.out]) <;> first | rfl | (simp [Wt.right, endW, hq3, hq5, hq7]; done) | (simp [Wt.right, endW, hq3, hq5, hq7]; rfl)), bm4⟩

      | true =>
        cases hq10 : (decide (f.ends ≤ 4611686018427387904)) with
        | false =>
          have c11 := Am4.cell 20 (.int .i64 f.ends) rfl
          go_wp2_with fail
          go_ret
          exact ⟨retB_fw (by (try rw [← HR.out]) <;> first | rfl | (simp [Wt.right, endW, hq3, hq5, hq7, hq10]; done) | (simp [Wt.right, endW, hq3, hq5, hq7, hq10]; rfl)), bm4⟩

        | true =>
          have c12 := Am4.cell 20 (.int .i64 f.ends) rfl
          have c13 := Am4.cell 21 (.int .i64 f.help) rfl
          go_wp2_with fail
          clear c12 c13
          refine Calls.mono (help_xp f.help _) ?_
          rintro e Wm14 ⟨rfl, bb⟩
          have Am14 := Am4.kept bb
          have bm14 := bel_tr bm4 bb
          clear bb
          clear Am4 bm4
          go_wp2_with fail
          go_ret
          exact ⟨retB_fw (by (try rw [← HR.out]) <;> first | rfl | (simp [Wt.right, endW, hq3, hq5, hq7, hq10]; done) | (simp [Wt.right, endW, hq3, hq5, hq7, hq10]; rfl)), bm14⟩
set_option maxRecDepth 100000 in
set_option maxHeartbeats 4000000 in
theorem for_xp (o t : Wy) (w : World) :
    Calls Try.prog 34 #[.agg o.v, .agg t.v] w fun e w' => e = .returned (.bool (forB o t)) ∧ Below w.heap.size w w' := by
  obtain ⟨R, hR⟩ : ∃ R, forB o t = R := ⟨_, rfl⟩
  have HR : Hid (forB o t = R) := hR
  try rw [hR]
  clear hR
  have b := Below.refl w.heap.size w
  go_enter Try.func34, Try.ntmps34
  cases hq4 : (o.sp == -1) with
  | false =>
    obtain ⟨Wm5, hWm5⟩ : ∃ W, w.alloc (.cells o.v 26) = W := ⟨_, rfl⟩
    have bm5 := bel_al b hWm5
    have Am5 := blk_nw hWm5
    have gA : w.heap.size ≤ w.heap.size := b.size
    obtain ⟨Wm6, hWm6⟩ : ∃ W, Wm5.alloc (.cells t.v 26) = W := ⟨_, rfl⟩
    have bm6 := bel_al bm5 hWm6
    have Am6 := Am5.al hWm6
    have Bm6 := blk_nw hWm6
    have gB : w.heap.size ≤ Wm5.heap.size := bm5.size
    have nAB : w.heap.size ≠ Wm5.heap.size := by have := Am5.lt; omega
    have nBA : Wm5.heap.size ≠ w.heap.size := fun e => nAB e.symm
    have c7 := Am6.cell 8 (.int .i64 o.sp) rfl
    have hE8 := eql_way o t
    go_wp2_with (first | (refine wpList_load_blk_w (by rfl) _ _ rfl w.heap.size (by rfl) _ Am6 Try.underlying26 (by kernel_rfl) ?_) | (refine wpList_load_blk_w (by rfl) _ _ rfl Wm5.heap.size (by rfl) _ Bm6 Try.underlying26 (by kernel_rfl) ?_))
    go_ret
    exact ⟨retB_fw (by (try rw [← HR.out]) <;> first | rfl | (simp [forB, hq4]; done) | (simp [forB, hq4]; rfl)), bm6⟩

  | true =>
    obtain ⟨Wm9, hWm9⟩ : ∃ W, w.alloc (.cells o.v 26) = W := ⟨_, rfl⟩
    have bm9 := bel_al b hWm9
    have Am9 := blk_nw hWm9
    have gA : w.heap.size ≤ w.heap.size := b.size
    obtain ⟨Wm10, hWm10⟩ : ∃ W, Wm9.alloc (.cells t.v 26) = W := ⟨_, rfl⟩
    have bm10 := bel_al bm9 hWm10
    have Am10 := Am9.al hWm10
    have Bm10 := blk_nw hWm10
    have gB : w.heap.size ≤ Wm9.heap.size := bm9.size
    have nAB : w.heap.size ≠ Wm9.heap.size := by have := Am9.lt; omega
    have nBA : Wm9.heap.size ≠ w.heap.size := fun e => nAB e.symm
    have c11 := Am10.cell 8 (.int .i64 o.sp) rfl
    have y13 := Bm10.cell 8 (.int .i64 t.sp) rfl
    have z14 := Bm10.frozen 8
    obtain ⟨Wm12, hWm12⟩ : ∃ W, Wm10.setCell ⟨Wm9.heap.size, 8, none⟩ (.int .i64 (-1)) = W := ⟨_, rfl⟩
    have Bm12 : Blk Wm12 Wm9.heap.size 26 (Wy.v ⟨t.fam, t.pr, t.s, t.d, -1, t.dp⟩) := hWm12 ▸ Bm10.put 8 (.int .i64 (-1))
    have Am12 := hWm12 ▸ Am10.put_other Bm10 nAB 8 (.int .i64 (-1))
    have bm12 := hWm12 ▸ bm10.setCell (p := ⟨Wm9.heap.size, 8, none⟩) gB (.int .i64 (-1))
    have hE15 := eql_way o (⟨t.fam, t.pr, t.s, t.d, -1, t.dp⟩)
    go_wp2_with (first | (refine wpList_load_blk_w (by rfl) _ _ rfl w.heap.size (by rfl) _ Am12 Try.underlying26 (by kernel_rfl) ?_) | (refine wpList_load_blk_w (by rfl) _ _ rfl Wm9.heap.size (by rfl) _ Bm12 Try.underlying26 (by kernel_rfl) ?_))
    go_ret
    exact ⟨retB_fw (by (try rw [← HR.out]) <;> first | rfl | (simp [forB, hq4]; done) | (simp [forB, hq4]; rfl)), bm12⟩
set_option maxRecDepth 100000 in
set_option maxHeartbeats 4000000 in
theorem waits_xp (f : Wt) (t : Wy) (w : World) :
    Calls Try.prog 12 #[.agg f.v, .agg t.v] w fun e w' => e = .returned (.bool (f.waits t)) ∧ Below w.heap.size w w' := by
  obtain ⟨R, hR⟩ : ∃ R, f.waits t = R := ⟨_, rfl⟩
  have HR : Hid (f.waits t = R) := hR
  try rw [hR]
  clear hR
  have b := Below.refl w.heap.size w
  go_enter Try.func12, Try.ntmps12
  obtain ⟨Wm1, hWm1⟩ : ∃ W, w.alloc (.cells f.v 28) = W := ⟨_, rfl⟩
  have bm1 := bel_al b hWm1
  have Am1 := blk_nw hWm1
  have gA : w.heap.size ≤ w.heap.size := b.size
  obtain ⟨Wm2, hWm2⟩ : ∃ W, Wm1.alloc (.cells t.v 26) = W := ⟨_, rfl⟩
  have bm2 := bel_al bm1 hWm2
  have Am2 := Am1.al hWm2
  have Bm2 := blk_nw hWm2
  have gB : w.heap.size ≤ Wm1.heap.size := bm1.size
  have nAB : w.heap.size ≠ Wm1.heap.size := by have := Am1.lt; omega
  have nBA : Wm1.heap.size ≠ w.heap.size := fun e => nAB e.symm
  go_wp2_with (refine wpList_load_blk_w (by rfl) _ _ rfl w.heap.size (by rfl) _ Am2 Try.underlying28 (by kernel_rfl) ?_)
  refine Calls.mono (right_xp f _) ?_
  rintro e Wm3 ⟨rfl, bb⟩
  have Am3 := Am2.kept bb
  have Bm3 := Bm2.kept bb
  have bm3 := bel_tr bm2 bb
  clear bb
  clear Am2 Bm2 bm2
  cases hq4 : (Wt.right f) with
  | false =>
    go_wp2_with fail
    go_ret
    exact ⟨retB_fw (by (try rw [← HR.out]) <;> first | rfl | (simp [Wt.waits, hq4]; done) | (simp [Wt.waits, hq4]; rfl)), bm3⟩

  | true =>
    go_wp2_with (refine wpList_load_blk_w (by rfl) _ _ rfl Wm1.heap.size (by rfl) _ Bm3 Try.underlying26 (by kernel_rfl) ?_)
    refine Calls.mono (right_t t _) ?_
    rintro e Wm5 ⟨rfl, bb⟩
    have Am5 := Am3.kept bb
    have Bm5 := Bm3.kept bb
    have bm5 := bel_tr bm3 bb
    clear bb
    clear Am3 Bm3 bm3
    cases hq6 : (Wy.right t) with
    | false =>
      go_wp2_with fail
      go_ret
      exact ⟨retB_fw (by (try rw [← HR.out]) <;> first | rfl | (simp [Wt.waits, hq4, hq6]; done) | (simp [Wt.waits, hq4, hq6]; rfl)), bm5⟩

    | true =>
      go_wp2_with (first | (refine wpList_load_sub_w (by rfl) _ _ rfl w.heap.size 0 _ (by rfl) _ f.w.v Am5 (by rfl) Try.underlying26 (by kernel_rfl) ?_) | (refine wpList_load_blk_w (by rfl) _ _ rfl Wm1.heap.size (by rfl) _ Bm5 Try.underlying26 (by kernel_rfl) ?_))
      refine Calls.mono (for_xp f.w t _) ?_
      rintro e Wm7 ⟨rfl, bb⟩
      have Am7 := Am5.kept bb
      have Bm7 := Bm5.kept bb
      have bm7 := bel_tr bm5 bb
      clear bb
      clear Am5 Bm5 bm5
      go_wp2_with fail
      go_ret
      exact ⟨retB_fw (by (try rw [← HR.out]) <;> first | rfl | (simp [Wt.waits, hq4, hq6]; done) | (simp [Wt.waits, hq4, hq6]; rfl)), bm7⟩
end Go.Proofs.Ytmflogmocgbmhaa
