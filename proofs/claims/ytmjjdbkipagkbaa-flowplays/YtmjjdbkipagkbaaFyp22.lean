/- Texts joined: FwC -/
import Derived.Test.YtmjjdbkipagkbaaFyp5
import Derived.Test.YtmjjdbkipagkbaaFyp9
import Derived.Test.YtmjjdbkipagkbaaFyp21
import Derived.ChangeKeysEq
namespace Go.Proofs.Ytmjjdbkipagkbaa
open Go.RowKit
set_option linter.unusedVariables false
set_option linter.unusedSimpArgs false
set_option maxRecDepth 100000 in
theorem eqz_cn (c : Cn) (w : World) : (Go.binOp .eql 31 (.agg c.v) (.agg #[.int .i64 0, .int .u32 0, .int .u32 0, .int .u32 0, .int .u32 0, .bool false, .bool false, .bool false, .bool false])).run Try.prog w = Result.ok (.bool c.zB) w := by
  obtain ⟨st, n0, n1, e0, e1, k0, k1, d0, d1⟩ := c
  unfold Cn.zB
  simp only
  by_cases h0 : st = 0
  case neg => simp [go_sem, h0]
  subst h0
  by_cases h1 : (n0 == 0 && n1 == 0) = true
  case neg =>
    have h1' : (n0 == 0 && n1 == 0) = false := by simpa using h1
    simp [go_sem, eqU_tc 9997, h1', -Bool.and_eq_false_imp]
  by_cases h2 : (e0 == 0 && e1 == 0) = true
  case neg =>
    have h2' : (e0 == 0 && e1 == 0) = false := by simpa using h2
    simp [go_sem, eqU_tc 9997, h1, h2', -Bool.and_eq_false_imp, -Bool.and_eq_true]
  cases k0 <;> cases k1 <;> cases d0 <;> cases d1 <;> simp [go_sem, eqU_tc 9997, eqL_tc 9997, h1, h2, -Bool.and_eq_true]
set_option maxRecDepth 100000 in
set_option maxHeartbeats 4000000 in
theorem help_fw (h : Int) (w : World) :
    Calls Try.prog 32 #[.int .i64 h] w fun e w' => e = .returned (.bool (hlpB h)) ∧ Below w.heap.size w w' := by
  obtain ⟨R, hR⟩ : ∃ R, hlpB h = R := ⟨_, rfl⟩
  have HR : Hid (hlpB h = R) := hR
  rw [hR]
  clear hR
  have b := Below.refl w.heap.size w
  go_enter Try.func32, Try.ntmps32
  cases hq1 : (decide (0 ≤ h)) with
  | false =>
    go_wp2_with fail
    go_ret
    exact ⟨retB_fw (by rw [← HR.out]; first | rfl | (simp [hlpB, hq1]; done) | (simp [hlpB, hq1]; rfl)), b⟩

  | true =>
    go_wp2_with fail
    go_ret
    exact ⟨retB_fw (by rw [← HR.out]; first | rfl | (simp [hlpB, hq1]; done) | (simp [hlpB, hq1]; rfl)), b⟩
set_option maxRecDepth 100000 in
set_option maxHeartbeats 4000000 in
theorem now_fw (n : Int) (w : World) :
    Calls Try.prog 31 #[.int .i64 n] w fun e w' => e = .returned (.bool (nowB n)) ∧ Below w.heap.size w w' := by
  obtain ⟨R, hR⟩ : ∃ R, nowB n = R := ⟨_, rfl⟩
  have HR : Hid (nowB n = R) := hR
  rw [hR]
  clear hR
  have b := Below.refl w.heap.size w
  go_enter Try.func31, Try.ntmps31
  cases hq1 : (decide (0 ≤ n)) with
  | false =>
    go_wp2_with fail
    go_ret
    exact ⟨retB_fw (by rw [← HR.out]; first | rfl | (simp [nowB, hq1]; done) | (simp [nowB, hq1]; rfl)), b⟩

  | true =>
    go_wp2_with fail
    go_ret
    exact ⟨retB_fw (by rw [← HR.out]; first | rfl | (simp [nowB, hq1]; done) | (simp [nowB, hq1]; rfl)), b⟩
set_option maxRecDepth 100000 in
set_option maxHeartbeats 4000000 in
theorem conn_fw (f : Fl) (w : World) :
    Calls Try.prog 40 #[.agg f.v] w fun e w' => e = .returned (.bool f.cnB) ∧ Below w.heap.size w w' := by
  obtain ⟨R, hR⟩ : ∃ R, f.cnB = R := ⟨_, rfl⟩
  have HR : Hid (f.cnB = R) := hR
  rw [hR]
  clear hR
  have b := Below.refl w.heap.size w
  go_enter Try.func40, Try.ntmps40
  cases hq3 : (f.w.pr == 6) with
  | false =>
    obtain ⟨Wm4, hWm4⟩ : ∃ W, w.alloc (.cells f.v 33) = W := ⟨_, rfl⟩
    have bm4 := bel_nw hWm4
    have Am4 := blk_nw hWm4
    have gA : w.heap.size ≤ w.heap.size := Nat.le_refl _
    have c5 := Am4.cell 1 (.int .i64 f.w.pr) rfl
    have hE6 := eqz_cn f.c
    go_wp2_with (refine wpList_load_sub_w (by rfl) _ _ rfl w.heap.size 10 _ (by rfl) _ f.c.v Am4 (by rfl) Try.underlying31 (by kernel_rfl) ?_)
    go_ret
    exact ⟨retB_fw (by rw [← HR.out]; first | rfl | (simp [Fl.cnB, hq3]; done) | (simp [Fl.cnB, hq3]; rfl)), bm4⟩

  | true =>
    obtain ⟨Wm7, hWm7⟩ : ∃ W, w.alloc (.cells f.v 33) = W := ⟨_, rfl⟩
    have bm7 := bel_nw hWm7
    have Am7 := blk_nw hWm7
    have gA : w.heap.size ≤ w.heap.size := Nat.le_refl _
    have c8 := Am7.cell 1 (.int .i64 f.w.pr) rfl
    go_wp2_with (refine wpList_load_sub_w (by rfl) _ _ rfl w.heap.size 10 _ (by rfl) _ f.c.v Am7 (by rfl) Try.underlying31 (by kernel_rfl) ?_)
    clear c8
    refine Calls.mono (right_tc f.c _) ?_
    rintro e Wm9 ⟨rfl, bb⟩
    have Am9 := Am7.kept bb
    have bm9 := bel_tr bm7 bb
    clear bb
    clear Am7 bm7
    go_wp2_with fail
    go_ret
    exact ⟨retB_fw (by rw [← HR.out]; first | rfl | (simp [Fl.cnB, hq3]; done) | (simp [Fl.cnB, hq3]; rfl)), bm9⟩
set_option maxRecDepth 100000 in
set_option maxHeartbeats 4000000 in
theorem right_fw (f : Fl) (w : World) :
    Calls Try.prog 12 #[.agg f.v] w fun e w' => e = .returned (.bool f.right) ∧ Below w.heap.size w w' := by
  obtain ⟨R, hR⟩ : ∃ R, f.right = R := ⟨_, rfl⟩
  have HR : Hid (f.right = R) := hR
  rw [hR]
  clear hR
  have b := Below.refl w.heap.size w
  go_enter Try.func12, Try.ntmps12
  obtain ⟨Wm1, hWm1⟩ : ∃ W, w.alloc (.cells f.v 33) = W := ⟨_, rfl⟩
  have bm1 := bel_nw hWm1
  have Am1 := blk_nw hWm1
  have gA : w.heap.size ≤ w.heap.size := Nat.le_refl _
  go_wp2_with (refine wpList_load_sub_w (by rfl) _ _ rfl w.heap.size 0 _ (by rfl) _ f.w.v Am1 (by rfl) Try.underlying26 (by kernel_rfl) ?_)
  refine Calls.mono (right_t f.w _) ?_
  rintro e Wm2 ⟨rfl, bb⟩
  have Am2 := Am1.kept bb
  have bm2 := bel_tr bm1 bb
  clear bb
  clear Am1 bm1
  cases hq3 : f.w.right with
  | false =>
    go_wp2_with fail
    go_ret
    exact ⟨retB_fw (by rw [← HR.out]; first | rfl | (simp [Fl.right, endB, hq3]; done) | (simp [Fl.right, endB, hq3]; rfl)), bm2⟩

  | true =>
    cases hq5 : (decide (0 ≤ f.ends)) with
    | false =>
      have c6 := Am2.cell 19 (.int .i64 f.ends) rfl
      go_wp2_with fail
      go_ret
      exact ⟨retB_fw (by rw [← HR.out]; first | rfl | (simp [Fl.right, endB, hq3, hq5]; done) | (simp [Fl.right, endB, hq3, hq5]; rfl)), bm2⟩

    | true =>
      cases hq8 : (decide (f.ends ≤ 4611686018427387904)) with
      | false =>
        have c9 := Am2.cell 19 (.int .i64 f.ends) rfl
        go_wp2_with fail
        go_ret
        exact ⟨retB_fw (by rw [← HR.out]; first | rfl | (simp [Fl.right, endB, hq3, hq5, hq8]; done) | (simp [Fl.right, endB, hq3, hq5, hq8]; rfl)), bm2⟩

      | true =>
        have c10 := Am2.cell 19 (.int .i64 f.ends) rfl
        have c11 := Am2.cell 20 (.int .i64 f.help) rfl
        go_wp2_with fail
        clear c10 c11
        refine Calls.mono (help_fw f.help _) ?_
        rintro e Wm12 ⟨rfl, bb⟩
        have Am12 := Am2.kept bb
        have bm12 := bel_tr bm2 bb
        clear bb
        clear Am2 bm2
        cases hq13 : (hlpB f.help) with
        | false =>
          go_wp2_with fail
          go_ret
          exact ⟨retB_fw (by rw [← HR.out]; first | rfl | (simp [Fl.right, endB, hq3, hq5, hq8, hq13]; done) | (simp [Fl.right, endB, hq3, hq5, hq8, hq13]; rfl)), bm12⟩

        | true =>
          go_wp2_with (refine wpList_load_blk_w (by rfl) _ _ rfl w.heap.size (by rfl) _ Am12 Try.underlying33 (by kernel_rfl) ?_)
          refine Calls.mono (conn_fw f _) ?_
          rintro e Wm14 ⟨rfl, bb⟩
          have Am14 := Am12.kept bb
          have bm14 := bel_tr bm12 bb
          clear bb
          clear Am12 bm12
          go_wp2_with fail
          go_ret
          exact ⟨retB_fw (by rw [← HR.out]; first | rfl | (simp [Fl.right, endB, hq3, hq5, hq8, hq13]; done) | (simp [Fl.right, endB, hq3, hq5, hq8, hq13]; rfl)), bm14⟩
end Go.Proofs.Ytmjjdbkipagkbaa
