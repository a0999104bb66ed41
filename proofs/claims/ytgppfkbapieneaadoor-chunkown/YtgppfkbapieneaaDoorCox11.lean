/- Texts joined: FrB -/
import Derived.Test.YtgppfkbapieneaaDoorCox8
namespace Go.Proofs.YtgppfkbapieneaaDoor
open Go.RowKit
set_option linter.unusedVariables false
set_option linter.unusedSimpArgs false
theorem Blk.rl {W : World} {g : Nat} {t : TypeId} {r : Rl} (h : Blk W g t r.v) : W.cell? ⟨g, 0, none⟩ = some (.int .i64 r.fr) ∧ W.cell? ⟨g, 1, none⟩ = some (.int .i64 r.tz) ∧ W.cell? ⟨g, 2, none⟩ = some (.int .i64 r.s.fam) ∧ W.cell? ⟨g, 3, none⟩ = some (.int .u64 r.s.hi) ∧ W.cell? ⟨g, 4, none⟩ = some (.int .u64 r.s.lo) ∧ W.cell? ⟨g, 5, none⟩ = some (.int .i64 r.sn) ∧ W.cell? ⟨g, 6, none⟩ = some (.int .i64 r.d.fam) ∧ W.cell? ⟨g, 7, none⟩ = some (.int .u64 r.d.hi) ∧ W.cell? ⟨g, 8, none⟩ = some (.int .u64 r.d.lo) ∧ W.cell? ⟨g, 9, none⟩ = some (.int .i64 r.dn) ∧ W.cell? ⟨g, 10, none⟩ = some (.int .i64 r.pr) ∧ W.cell? ⟨g, 11, none⟩ = some (.int .i64 r.sl) ∧ W.cell? ⟨g, 12, none⟩ = some (.int .i64 r.sh) ∧ W.cell? ⟨g, 13, none⟩ = some (.int .i64 r.dl) ∧ W.cell? ⟨g, 14, none⟩ = some (.int .i64 r.dh) ∧ W.cell? ⟨g, 15, none⟩ = some (.int .i64 r.ac) ∧ W.cell? ⟨g, 16, none⟩ = some (.int .i64 r.he) :=
  ⟨h.cell 0 _ rfl, h.cell 1 _ rfl, h.cell 2 _ rfl, h.cell 3 _ rfl, h.cell 4 _ rfl, h.cell 5 _ rfl, h.cell 6 _ rfl, h.cell 7 _ rfl, h.cell 8 _ rfl, h.cell 9 _ rfl, h.cell 10 _ rfl, h.cell 11 _ rfl, h.cell 12 _ rfl, h.cell 13 _ rfl, h.cell 14 _ rfl, h.cell 15 _ rfl, h.cell 16 _ rfl⟩
set_option maxRecDepth 100000 in
set_option maxHeartbeats 4000000 in
theorem rightRule_any (r : Rl) (w : World) (ho : r.ok) :
    Calls Tryd.prog 26 #[.agg r.v] w fun e w' => e = .returned (.bool r.right) ∧ Below w.heap.size w w' := by
  obtain ⟨fr, tz, ⟨sf, sh, sl⟩, sn, ⟨df, dh, dl⟩, dn, pr, pl, ph, ql, qh, ac, he⟩ := r
  obtain ⟨os, od⟩ := ho
  have K1 := within_any fr (-1) 15
  have K2 := within_any tz (-1) 15
  have K3 := fun W => rightNet_any sf sh sl sn W os
  have K4 := fun W => rightNet_any df dh dl dn W od
  have K5 := within_any pr 0 255
  have K6 := rightPorts_any pl ph
  have K7 := rightPorts_any ql qh
  have K8 := within_any he 0 3

  clear os od
  unfold Rl.right
  simp only


  generalize inB fr (-1) 15 = q1 at *
  generalize inB tz (-1) 15 = q2 at *
  generalize netB ⟨sf, sh, sl⟩ sn = q3 at *
  generalize netB ⟨df, dh, dl⟩ dn = q4 at *
  generalize inB pr 0 255 = q5 at *
  generalize portB pl ph = q6 at *
  generalize portB ql qh = q7 at *
  generalize inB he 0 3 = q8 at *
  have bel : Below w.heap.size w (w.alloc (.cells (Rl.v ⟨fr, tz, ⟨sf, sh, sl⟩, sn, ⟨df, dh, dl⟩, dn, pr, pl, ph, ql, qh, ac, he⟩) 55)) := bel_nw rfl
  have hr := blk_new w (Rl.v ⟨fr, tz, ⟨sf, sh, sl⟩, sn, ⟨df, dh, dl⟩, dn, pr, pl, ph, ql, qh, ac, he⟩) 55
  obtain ⟨r0, r1, r2, r3, r4, r5, r6, r7, r8, r9, r10, r11, r12, r13, r14, r15, r16⟩ := hr.rl
  go_enter Tryd.func26, Tryd.ntmps26
  all_goals (
    go_wp2_with fail
    refine (K1 _).mono ?_
    rintro e _ ⟨rfl, rfl⟩
    cases q1
    · go_wp2_with fail
      all_goals (go_ret; exact ⟨by first | (simp; done) | simp_all, bel⟩))
  all_goals (
    go_wp2_with fail
    refine (K2 _).mono ?_
    rintro e _ ⟨rfl, rfl⟩
    cases q2
    · go_wp2_with fail
      all_goals (go_ret; exact ⟨by first | (simp; done) | simp_all, bel⟩))
  all_goals (
    go_wp2_with fail
    refine (K3 _).mono ?_
    rintro e W1 ⟨rfl, bb⟩
    have hr' := hr.kept bb
    have bel1 := bel_tr bel bb
    clear r0 r1 r2 r3 r4 r5 r6 r7 r8 r9 r10 r11 r12 r13 r14 r15 r16 hr bb bel
    have hr := hr'
    clear hr'
    obtain ⟨r0, r1, r2, r3, r4, r5, r6, r7, r8, r9, r10, r11, r12, r13, r14, r15, r16⟩ := hr.rl
    cases q3
    · go_wp2_with fail
      all_goals (go_ret; exact ⟨by first | (simp; done) | simp_all, bel1⟩))
  all_goals (
    go_wp2_with fail
    refine (K4 _).mono ?_
    rintro e W2 ⟨rfl, bb⟩
    have hr' := hr.kept bb
    have bel2 := bel_tr bel1 bb
    clear r0 r1 r2 r3 r4 r5 r6 r7 r8 r9 r10 r11 r12 r13 r14 r15 r16 hr bb bel1
    have hr := hr'
    clear hr'
    obtain ⟨r0, r1, r2, r3, r4, r5, r6, r7, r8, r9, r10, r11, r12, r13, r14, r15, r16⟩ := hr.rl
    cases q4
    · go_wp2_with fail
      all_goals (go_ret; exact ⟨by first | (simp; done) | simp_all, bel2⟩))
  all_goals (
    go_wp2_with fail
    refine (K5 _).mono ?_
    rintro e _ ⟨rfl, rfl⟩
    cases q5
    · go_wp2_with fail
      all_goals (go_ret; exact ⟨by first | (simp; done) | simp_all, bel2⟩))
  all_goals (
    go_wp2_with fail
    refine (K6 _).mono ?_
    rintro e W3 ⟨rfl, bb⟩
    have hr' := hr.kept bb
    have bel3 := bel_tr bel2 bb
    clear r0 r1 r2 r3 r4 r5 r6 r7 r8 r9 r10 r11 r12 r13 r14 r15 r16 hr bb bel2
    have hr := hr'
    clear hr'
    obtain ⟨r0, r1, r2, r3, r4, r5, r6, r7, r8, r9, r10, r11, r12, r13, r14, r15, r16⟩ := hr.rl
    cases q6
    · go_wp2_with fail
      all_goals (go_ret; exact ⟨by first | (simp; done) | simp_all, bel3⟩))
  all_goals (
    go_wp2_with fail
    refine (K7 _).mono ?_
    rintro e W4 ⟨rfl, bb⟩
    have hr' := hr.kept bb
    have bel4 := bel_tr bel3 bb
    clear r0 r1 r2 r3 r4 r5 r6 r7 r8 r9 r10 r11 r12 r13 r14 r15 r16 hr bb bel3
    have hr := hr'
    clear hr'
    obtain ⟨r0, r1, r2, r3, r4, r5, r6, r7, r8, r9, r10, r11, r12, r13, r14, r15, r16⟩ := hr.rl
    cases q7
    · go_wp2_with fail
      all_goals (go_ret; exact ⟨by first | (simp; done) | simp_all, bel4⟩))
  all_goals (
    by_cases hp7 : ac = 0
    rotate_left
    have ep7 : ((ac) == (0)) = false := by simpa using hp7
    by_cases hq7 : ac = 1
    rotate_left
    · have eq7 : ((ac) == (1)) = false := by simpa using hq7
      go_wp2_with fail
      all_goals (go_ret; exact ⟨by first | (simp; done) | simp_all, bel4⟩)
    rotate_left
    have eq7 : ((ac) == (1)) = true := by simpa using hq7
    rotate_left
    have ep7 : ((ac) == (0)) = true := by simpa using hp7)
  all_goals (
    go_wp2_with fail
    refine (K8 _).mono ?_
    rintro e _ ⟨rfl, rfl⟩
    go_wp2_with fail
    all_goals (go_ret; exact ⟨by first | (simp; done) | simp_all, bel4⟩))
set_option maxRecDepth 100000 in
set_option maxHeartbeats 4000000 in
theorem rrightRule_any (r : Rl) (w : World) (ho : r.ok) :
    Calls Tryd.prog 24 #[.agg r.v] w fun e w' => e = .returned (.bool r.right) ∧ Below w.heap.size w w' := by
  obtain ⟨fr, tz, ⟨sf, sh, sl⟩, sn, ⟨df, dh, dl⟩, dn, pr, pl, ph, ql, qh, ac, he⟩ := r
  obtain ⟨os, od⟩ := ho
  have K1 := in_any fr (-1) 15
  have K2 := in_any tz (-1) 15
  have K3 := fun W => prefix_any sf sh sl sn W os
  have K4 := fun W => prefix_any df dh dl dn W od
  have K5 := in_any pr 0 255
  have K6 := ports_any pl ph
  have K7 := ports_any ql qh
  have K8 := in_any he 0 3
  have K9 := in_any ac 0 1
  clear os od
  unfold Rl.right
  simp only
  have hac : (ac == 0 || ac == 1) = inB ac 0 1 := by unfold inB; rw [Bool.eq_iff_iff]; simp; omega
  rw [hac]; clear hac; generalize inB ac 0 1 = q9 at *
  generalize inB fr (-1) 15 = q1 at *
  generalize inB tz (-1) 15 = q2 at *
  generalize netB ⟨sf, sh, sl⟩ sn = q3 at *
  generalize netB ⟨df, dh, dl⟩ dn = q4 at *
  generalize inB pr 0 255 = q5 at *
  generalize portB pl ph = q6 at *
  generalize portB ql qh = q7 at *
  generalize inB he 0 3 = q8 at *
  have bel : Below w.heap.size w (w.alloc (.cells (Rl.v ⟨fr, tz, ⟨sf, sh, sl⟩, sn, ⟨df, dh, dl⟩, dn, pr, pl, ph, ql, qh, ac, he⟩) 55)) := bel_nw rfl
  have hr := blk_new w (Rl.v ⟨fr, tz, ⟨sf, sh, sl⟩, sn, ⟨df, dh, dl⟩, dn, pr, pl, ph, ql, qh, ac, he⟩) 55
  obtain ⟨r0, r1, r2, r3, r4, r5, r6, r7, r8, r9, r10, r11, r12, r13, r14, r15, r16⟩ := hr.rl
  go_enter Tryd.func24, Tryd.ntmps24
  all_goals (
    go_wp2_with fail
    refine (K1 _).mono ?_
    rintro e _ ⟨rfl, rfl⟩
    cases q1
    · go_wp2_with fail
      all_goals (go_ret; exact ⟨by first | (simp; done) | simp_all, bel⟩))
  all_goals (
    go_wp2_with fail
    refine (K2 _).mono ?_
    rintro e _ ⟨rfl, rfl⟩
    cases q2
    · go_wp2_with fail
      all_goals (go_ret; exact ⟨by first | (simp; done) | simp_all, bel⟩))
  all_goals (
    go_wp2_with fail
    refine (K3 _).mono ?_
    rintro e W1 ⟨rfl, bb⟩
    have hr' := hr.kept bb
    have bel1 := bel_tr bel bb
    clear r0 r1 r2 r3 r4 r5 r6 r7 r8 r9 r10 r11 r12 r13 r14 r15 r16 hr bb bel
    have hr := hr'
    clear hr'
    obtain ⟨r0, r1, r2, r3, r4, r5, r6, r7, r8, r9, r10, r11, r12, r13, r14, r15, r16⟩ := hr.rl
    cases q3
    · go_wp2_with fail
      all_goals (go_ret; exact ⟨by first | (simp; done) | simp_all, bel1⟩))
  all_goals (
    go_wp2_with fail
    refine (K4 _).mono ?_
    rintro e W2 ⟨rfl, bb⟩
    have hr' := hr.kept bb
    have bel2 := bel_tr bel1 bb
    clear r0 r1 r2 r3 r4 r5 r6 r7 r8 r9 r10 r11 r12 r13 r14 r15 r16 hr bb bel1
    have hr := hr'
    clear hr'
    obtain ⟨r0, r1, r2, r3, r4, r5, r6, r7, r8, r9, r10, r11, r12, r13, r14, r15, r16⟩ := hr.rl
    cases q4
    · go_wp2_with fail
      all_goals (go_ret; exact ⟨by first | (simp; done) | simp_all, bel2⟩))
  all_goals (
    go_wp2_with fail
    refine (K5 _).mono ?_
    rintro e _ ⟨rfl, rfl⟩
    cases q5
    · go_wp2_with fail
      all_goals (go_ret; exact ⟨by first | (simp; done) | simp_all, bel2⟩))
  all_goals (
    go_wp2_with fail
    refine (K6 _).mono ?_
    rintro e W3 ⟨rfl, bb⟩
    have hr' := hr.kept bb
    have bel3 := bel_tr bel2 bb
    clear r0 r1 r2 r3 r4 r5 r6 r7 r8 r9 r10 r11 r12 r13 r14 r15 r16 hr bb bel2
    have hr := hr'
    clear hr'
    obtain ⟨r0, r1, r2, r3, r4, r5, r6, r7, r8, r9, r10, r11, r12, r13, r14, r15, r16⟩ := hr.rl
    cases q6
    · go_wp2_with fail
      all_goals (go_ret; exact ⟨by first | (simp; done) | simp_all, bel3⟩))
  all_goals (
    go_wp2_with fail
    refine (K7 _).mono ?_
    rintro e W4 ⟨rfl, bb⟩
    have hr' := hr.kept bb
    have bel4 := bel_tr bel3 bb
    clear r0 r1 r2 r3 r4 r5 r6 r7 r8 r9 r10 r11 r12 r13 r14 r15 r16 hr bb bel3
    have hr := hr'
    clear hr'
    obtain ⟨r0, r1, r2, r3, r4, r5, r6, r7, r8, r9, r10, r11, r12, r13, r14, r15, r16⟩ := hr.rl
    cases q7
    · go_wp2_with fail
      all_goals (go_ret; exact ⟨by first | (simp; done) | simp_all, bel4⟩))
  all_goals (
    go_wp2_with fail
    refine (K9 _).mono ?_
    rintro e _ ⟨rfl, rfl⟩
    cases q9
    · go_wp2_with fail
      all_goals (go_ret; exact ⟨by first | (simp; done) | simp_all, bel4⟩))
  all_goals (
    go_wp2_with fail
    refine (K8 _).mono ?_
    rintro e _ ⟨rfl, rfl⟩
    go_wp2_with fail
    all_goals (go_ret; exact ⟨by first | (simp; done) | simp_all, bel4⟩))
end Go.Proofs.YtgppfkbapieneaaDoor
