/- Texts joined: FwF FwE0 -/
import Derived.Test.YtmjjdbkipagkbaaFyp23
import Derived.Test.YtmjjdbkipagkbaaFyp25
import Derived.Test.YtmjjdbkipagkbaaFyp27
namespace Go.Proofs.Ytmjjdbkipagkbaa
open Go.RowKit
set_option linter.unusedVariables false
set_option linter.unusedSimpArgs false
def capB (n : Int) : Bool := decide (0 ≤ n) && decide (n ≤ 256)
set_option maxRecDepth 100000 in
set_option maxHeartbeats 4000000 in
theorem rin_end (n : Int) (w : World) :
    Calls Try.prog 36 #[.int .i64 n, .int .i64 0, .int .i64 4611686018427387904] w fun e w' => e = .returned (.bool (endB n)) ∧ Below w.heap.size w w' := by
  obtain ⟨R, hR⟩ : ∃ R, endB n = R := ⟨_, rfl⟩
  have HR : Hid (endB n = R) := hR
  rw [hR]
  clear hR
  have b := Below.refl w.heap.size w
  go_enter Try.func36, Try.ntmps36
  cases hq1 : (decide (0 ≤ n)) with
  | false =>
    go_wp2_with fail
    go_ret
    exact ⟨retB_fw (by rw [← HR.out]; first | rfl | (simp [endB, hq1]; done) | (simp [endB, hq1]; rfl)), b⟩

  | true =>
    go_wp2_with fail
    go_ret
    exact ⟨retB_fw (by rw [← HR.out]; first | rfl | (simp [endB, hq1]; done) | (simp [endB, hq1]; rfl)), b⟩
set_option maxRecDepth 100000 in
set_option maxHeartbeats 4000000 in
theorem rin_hlp (n : Int) (w : World) :
    Calls Try.prog 36 #[.int .i64 n, .int .i64 0, .int .i64 3] w fun e w' => e = .returned (.bool (hlpB n)) ∧ Below w.heap.size w w' := by
  obtain ⟨R, hR⟩ : ∃ R, hlpB n = R := ⟨_, rfl⟩
  have HR : Hid (hlpB n = R) := hR
  rw [hR]
  clear hR
  have b := Below.refl w.heap.size w
  go_enter Try.func36, Try.ntmps36
  cases hq1 : (decide (0 ≤ n)) with
  | false =>
    go_wp2_with fail
    go_ret
    exact ⟨retB_fw (by rw [← HR.out]; first | rfl | (simp [hlpB, hq1]; done) | (simp [hlpB, hq1]; rfl)), b⟩

  | true =>
    go_wp2_with fail
    go_ret
    exact ⟨retB_fw (by rw [← HR.out]; first | rfl | (simp [hlpB, hq1]; done) | (simp [hlpB, hq1]; rfl)), b⟩
set_option maxRecDepth 100000 in
set_option maxHeartbeats 4000000 in
theorem rin_cap (n : Int) (w : World) :
    Calls Try.prog 36 #[.int .i64 n, .int .i64 0, .int .i64 256] w fun e w' => e = .returned (.bool (capB n)) ∧ Below w.heap.size w w' := by
  obtain ⟨R, hR⟩ : ∃ R, capB n = R := ⟨_, rfl⟩
  have HR : Hid (capB n = R) := hR
  rw [hR]
  clear hR
  have b := Below.refl w.heap.size w
  go_enter Try.func36, Try.ntmps36
  cases hq1 : (decide (0 ≤ n)) with
  | false =>
    go_wp2_with fail
    go_ret
    exact ⟨retB_fw (by rw [← HR.out]; first | rfl | (simp [capB, hq1]; done) | (simp [capB, hq1]; rfl)), b⟩

  | true =>
    go_wp2_with fail
    go_ret
    exact ⟨retB_fw (by rw [← HR.out]; first | rfl | (simp [capB, hq1]; done) | (simp [capB, hq1]; rfl)), b⟩
set_option maxRecDepth 100000 in
set_option maxHeartbeats 4000000 in
theorem rright_fw (f : Fl) (w : World) (hok : f.w.ok) :
    Calls Try.prog 13 #[.agg f.v] w fun e w' => e = .returned (.bool f.right) ∧ Below w.heap.size w w' := by
  obtain ⟨R, hR⟩ : ∃ R, f.right = R := ⟨_, rfl⟩
  have HR : Hid (f.right = R) := hR
  rw [hR]
  clear hR
  have b := Below.refl w.heap.size w
  go_enter Try.func13, Try.ntmps13
  obtain ⟨Wm1, hWm1⟩ : ∃ W, w.alloc (.cells f.v 33) = W := ⟨_, rfl⟩
  have bm1 := bel_nw hWm1
  have Am1 := blk_nw hWm1
  have gA : w.heap.size ≤ w.heap.size := Nat.le_refl _
  go_wp2_with (refine wpList_load_sub_w (by rfl) _ _ rfl w.heap.size 0 _ (by rfl) _ f.w.v Am1 (by rfl) Try.underlying26 (by kernel_rfl) ?_)
  refine Calls.mono (rright_t f.w _ (by first | assumption | exact Wy.ok_rev (by assumption))) ?_
  rintro e Wm2 ⟨rfl, bb⟩
  have Am2 := Am1.kept bb
  have bm2 := bel_tr bm1 bb
  clear bb
  clear Am1 bm1
  cases hq3 : (Wy.right f.w) with
  | false =>
    go_wp2_with fail
    go_ret
    exact ⟨retB_fw (by rw [← HR.out]; first | rfl | (simp [Fl.right, Fl.cnB, hq3]; done) | (simp [Fl.right, Fl.cnB, hq3]; rfl)), bm2⟩

  | true =>
    have c4 := Am2.cell 19 (.int .i64 f.ends) rfl
    go_wp2_with fail
    clear c4
    refine Calls.mono (rin_end f.ends _) ?_
    rintro e Wm5 ⟨rfl, bb⟩
    have Am5 := Am2.kept bb
    have bm5 := bel_tr bm2 bb
    clear bb
    clear Am2 bm2
    cases hq6 : (endB f.ends) with
    | false =>
      go_wp2_with fail
      go_ret
      exact ⟨retB_fw (by rw [← HR.out]; first | rfl | (simp [Fl.right, Fl.cnB, hq3, hq6]; done) | (simp [Fl.right, Fl.cnB, hq3, hq6]; rfl)), bm5⟩

    | true =>
      have c7 := Am5.cell 20 (.int .i64 f.help) rfl
      go_wp2_with fail
      clear c7
      refine Calls.mono (rin_hlp f.help _) ?_
      rintro e Wm8 ⟨rfl, bb⟩
      have Am8 := Am5.kept bb
      have bm8 := bel_tr bm5 bb
      clear bb
      clear Am5 bm5
      cases hq9 : (hlpB f.help) with
      | false =>
        go_wp2_with fail
        go_ret
        exact ⟨retB_fw (by rw [← HR.out]; first | rfl | (simp [Fl.right, Fl.cnB, hq3, hq6, hq9]; done) | (simp [Fl.right, Fl.cnB, hq3, hq6, hq9]; rfl)), bm8⟩

      | true =>
        cases hq11 : (f.w.pr == 6) with
        | false =>
          have c12 := Am8.cell 1 (.int .i64 f.w.pr) rfl
          have hE13 := eqz_cn f.c
          go_wp2_with (refine wpList_load_sub_w (by rfl) _ _ rfl w.heap.size 10 _ (by rfl) _ f.c.v Am8 (by rfl) Try.underlying31 (by kernel_rfl) ?_)
          go_ret
          exact ⟨retB_fw (by rw [← HR.out]; first | rfl | (simp [Fl.right, Fl.cnB, hq3, hq6, hq9, hq11]; done) | (simp [Fl.right, Fl.cnB, hq3, hq6, hq9, hq11]; rfl)), bm8⟩

        | true =>
          have c14 := Am8.cell 1 (.int .i64 f.w.pr) rfl
          go_wp2_with (refine wpList_load_sub_w (by rfl) _ _ rfl w.heap.size 10 _ (by rfl) _ f.c.v Am8 (by rfl) Try.underlying31 (by kernel_rfl) ?_)
          clear c14
          refine Calls.mono (rright_tc f.c _) ?_
          rintro e Wm15 ⟨rfl, bb⟩
          have Am15 := Am8.kept bb
          have bm15 := bel_tr bm8 bb
          clear bb
          clear Am8 bm8
          go_wp2_with fail
          go_ret
          exact ⟨retB_fw (by rw [← HR.out]; first | rfl | (simp [Fl.right, Fl.cnB, hq3, hq6, hq9, hq11]; done) | (simp [Fl.right, Fl.cnB, hq3, hq6, hq9, hq11]; rfl)), bm15⟩
theorem setConn_fw (f : Fl) (c : Cn) : setMany f.v 10 c.v.toList = Fl.v ⟨f.w, c, f.ends, f.help, f.both⟩ := by kernel_rfl
end Go.Proofs.Ytmjjdbkipagkbaa
