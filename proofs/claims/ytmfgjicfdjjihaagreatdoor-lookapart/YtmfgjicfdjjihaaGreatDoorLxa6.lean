/- Texts joined: FrB FrS FrF FrC -/
import Derived.Test.YtmfgjicfdjjihaaGreatDoorLxa5
import Derived.Deep.QuietTactic
import Derived.BigQuiet
import Derived.BigRegion
import Derived.Deep.RegionWith
import Derived.Deep.RegionHeld3
namespace Go.Proofs.YtmfgjicfdjjihaaGreatDoor
open Go.RowKit
set_option linter.unusedVariables false
set_option linter.unusedSimpArgs false
theorem Blk.rl {W : World} {g : Nat} {t : TypeId} {r : Rl} (h : Blk W g t r.v) : W.cell? ⟨g, 0, none⟩ = some (.int .i64 r.fr) ∧ W.cell? ⟨g, 1, none⟩ = some (.int .i64 r.tz) ∧ W.cell? ⟨g, 2, none⟩ = some (.int .i64 r.s.fam) ∧ W.cell? ⟨g, 3, none⟩ = some (.int .u64 r.s.hi) ∧ W.cell? ⟨g, 4, none⟩ = some (.int .u64 r.s.lo) ∧ W.cell? ⟨g, 5, none⟩ = some (.int .i64 r.sn) ∧ W.cell? ⟨g, 6, none⟩ = some (.int .i64 r.d.fam) ∧ W.cell? ⟨g, 7, none⟩ = some (.int .u64 r.d.hi) ∧ W.cell? ⟨g, 8, none⟩ = some (.int .u64 r.d.lo) ∧ W.cell? ⟨g, 9, none⟩ = some (.int .i64 r.dn) ∧ W.cell? ⟨g, 10, none⟩ = some (.int .i64 r.pr) ∧ W.cell? ⟨g, 11, none⟩ = some (.int .i64 r.sl) ∧ W.cell? ⟨g, 12, none⟩ = some (.int .i64 r.sh) ∧ W.cell? ⟨g, 13, none⟩ = some (.int .i64 r.dl) ∧ W.cell? ⟨g, 14, none⟩ = some (.int .i64 r.dh) ∧ W.cell? ⟨g, 15, none⟩ = some (.int .i64 r.ac) ∧ W.cell? ⟨g, 16, none⟩ = some (.int .i64 r.he) :=
 ⟨h.cell 0 _ rfl, h.cell 1 _ rfl, h.cell 2 _ rfl, h.cell 3 _ rfl, h.cell 4 _ rfl, h.cell 5 _ rfl, h.cell 6 _ rfl, h.cell 7 _ rfl, h.cell 8 _ rfl, h.cell 9 _ rfl, h.cell 10 _ rfl, h.cell 11 _ rfl, h.cell 12 _ rfl, h.cell 13 _ rfl, h.cell 14 _ rfl, h.cell 15 _ rfl, h.cell 16 _ rfl⟩
theorem Blk.ky {W : World} {g : Nat} {t : TypeId} {r : Ky} (h : Blk W g t r.v) : W.cell? ⟨g, 0, none⟩ = some (.int .i64 r.fr) ∧ W.cell? ⟨g, 1, none⟩ = some (.int .i64 r.tz) ∧ W.cell? ⟨g, 2, none⟩ = some (.int .i64 r.s.fam) ∧ W.cell? ⟨g, 3, none⟩ = some (.int .u64 r.s.hi) ∧ W.cell? ⟨g, 4, none⟩ = some (.int .u64 r.s.lo) ∧ W.cell? ⟨g, 5, none⟩ = some (.int .i64 r.d.fam) ∧ W.cell? ⟨g, 6, none⟩ = some (.int .u64 r.d.hi) ∧ W.cell? ⟨g, 7, none⟩ = some (.int .u64 r.d.lo) ∧ W.cell? ⟨g, 8, none⟩ = some (.int .i64 r.pr) ∧ W.cell? ⟨g, 9, none⟩ = some (.int .i64 r.sp) ∧ W.cell? ⟨g, 10, none⟩ = some (.int .i64 r.dp) :=
 ⟨h.cell 0 _ rfl, h.cell 1 _ rfl, h.cell 2 _ rfl, h.cell 3 _ rfl, h.cell 4 _ rfl, h.cell 5 _ rfl, h.cell 6 _ rfl, h.cell 7 _ rfl, h.cell 8 _ rfl, h.cell 9 _ rfl, h.cell 10 _ rfl⟩
set_option maxRecDepth 100000 in
set_option maxHeartbeats 4000000 in
theorem rightKey_any (k : Ky) (w : World) (ho : k.ok) :
  Calls Tryz.prog 84 #[.agg k.v] w fun e w' => e = .returned (.bool k.right) ∧ Below w.heap.size w w' := by
 obtain ⟨fr, tz, ⟨sf, sh, sl⟩, ⟨df, dh, dl⟩, pr, sp, dp⟩ := k
 obtain ⟨os, od⟩ := ho
 have K1 := within_any fr 0 15
 have K2 := within_any tz 0 15
 have K3 : ∀ W, Calls Tryz.prog 103 #[.agg #[.int .i64 sf, .int .u64 sh, .int .u64 sl]] W fun e w' => e = .returned (.bool (Ad.right ⟨sf, sh, sl⟩)) ∧ Below W.heap.size W w' := fun W => (right_any sf sh sl W).mono fun e w' h => ⟨h.1, by rw [h.2]; exact (Below.refl _ _).alloc (Nat.le_refl _) _⟩
 have K4 : ∀ W, Calls Tryz.prog 103 #[.agg #[.int .i64 df, .int .u64 dh, .int .u64 dl]] W fun e w' => e = .returned (.bool (Ad.right ⟨df, dh, dl⟩)) ∧ Below W.heap.size W w' := fun W => (right_any df dh dl W).mono fun e w' h => ⟨h.1, by rw [h.2]; exact (Below.refl _ _).alloc (Nat.le_refl _) _⟩
 have K5 := within_any pr 0 255
 have K6 := within_any sp 0 65535
 have K7 := within_any dp 0 65535
 clear os od
 unfold Ky.right
 simp only
 generalize inB fr 0 15 = q1 at *
 generalize inB tz 0 15 = q2 at *
 generalize Ad.right ⟨sf, sh, sl⟩ = q3 at *
 generalize Ad.right ⟨df, dh, dl⟩ = q4 at *
 generalize inB pr 0 255 = q5 at *
 generalize inB sp 0 65535 = q6 at *
 generalize inB dp 0 65535 = q7 at *
 have bel : Below w.heap.size w (w.alloc (.cells (Ky.v ⟨fr, tz, ⟨sf, sh, sl⟩, ⟨df, dh, dl⟩, pr, sp, dp⟩) 33)) := bel_nw rfl
 have hk := blk_new w (Ky.v ⟨fr, tz, ⟨sf, sh, sl⟩, ⟨df, dh, dl⟩, pr, sp, dp⟩) 33
 obtain ⟨k0, k1, k2, k3, k4, k5, k6, k7, k8, k9, k10⟩ := hk.ky
 go_enter Tryz.func84, Tryz.ntmps84
 all_goals (
  go_wp2_with fail
  refine (K1 _).mono ?_
  rintro e _ ⟨rfl, rfl⟩
  cases q1
  ·go_wp2_with fail
   all_goals (go_ret; exact ⟨by first | (simp; done) | simp_all, bel⟩))
 all_goals (
  go_wp2_with fail
  refine (K2 _).mono ?_
  rintro e _ ⟨rfl, rfl⟩
  cases q2
  ·go_wp2_with fail
   all_goals (go_ret; exact ⟨by first | (simp; done) | simp_all, bel⟩))
 all_goals (
  go_wp2_with fail
  refine (K3 _).mono ?_
  rintro e W1 ⟨rfl, bb⟩
  have hk' := hk.kept bb
  have bel1 := bel_tr bel bb
  clear k0 k1 k2 k3 k4 k5 k6 k7 k8 k9 k10 hk bb bel
  have hk := hk'
  clear hk'
  obtain ⟨k0, k1, k2, k3, k4, k5, k6, k7, k8, k9, k10⟩ := hk.ky
  cases q3
  ·go_wp2_with fail
   all_goals (go_ret; exact ⟨by first | (simp; done) | simp_all, bel1⟩))
 all_goals (
  go_wp2_with fail
  refine (K4 _).mono ?_
  rintro e W2 ⟨rfl, bb⟩
  have hk' := hk.kept bb
  have bel2 := bel_tr bel1 bb
  clear k0 k1 k2 k3 k4 k5 k6 k7 k8 k9 k10 hk bb bel1
  have hk := hk'
  clear hk'
  obtain ⟨k0, k1, k2, k3, k4, k5, k6, k7, k8, k9, k10⟩ := hk.ky
  cases q4
  ·go_wp2_with fail
   all_goals (go_ret; exact ⟨by first | (simp; done) | simp_all, bel2⟩))
 all_goals (
  by_cases hc4 : sf = df
  rotate_left
  ·have ec4 : ((sf) == (df)) = false := by simpa using hc4
   go_wp2_with fail
   all_goals (go_ret; exact ⟨by first | (simp; done) | simp_all, bel2⟩)
  have ec4 : ((sf) == (df)) = true := by simpa using hc4)
 all_goals (
  go_wp2_with fail
  refine (K5 _).mono ?_
  rintro e _ ⟨rfl, rfl⟩
  cases q5
  ·go_wp2_with fail
   all_goals (go_ret; exact ⟨by first | (simp; done) | simp_all, bel2⟩))
 all_goals (
  go_wp2_with fail
  refine (K6 _).mono ?_
  rintro e _ ⟨rfl, rfl⟩
  cases q6
  ·go_wp2_with fail
   all_goals (go_ret; exact ⟨by first | (simp; done) | simp_all, bel2⟩))
 all_goals (
  go_wp2_with fail
  refine (K7 _).mono ?_
  rintro e _ ⟨rfl, rfl⟩
  go_wp2_with fail
  all_goals (go_ret; exact ⟨by first | (simp; done) | simp_all, bel2⟩))
set_option maxRecDepth 100000 in
set_option maxHeartbeats 4000000 in
theorem rrightKey_any (k : Ky) (w : World) (ho : k.ok) :
  Calls Tryz.prog 15 #[.agg k.v] w fun e w' => e = .returned (.bool k.right) ∧ Below w.heap.size w w' := by
 obtain ⟨fr, tz, ⟨sf, sh, sl⟩, ⟨df, dh, dl⟩, pr, sp, dp⟩ := k
 obtain ⟨os, od⟩ := ho
 have K1 := in_any fr 0 15
 have K2 := in_any tz 0 15
 have K3 : ∀ W, Calls Tryz.prog 41 #[.agg #[.int .i64 sf, .int .u64 sh, .int .u64 sl]] W fun e w' => e = .returned (.bool (Ad.right ⟨sf, sh, sl⟩)) ∧ Below W.heap.size W w' := fun W => (rright_any sf sh sl W os.2.2.1).mono fun e w' h => ⟨h.1, by rw [h.2]; exact (Below.refl _ _).alloc (Nat.le_refl _) _⟩
 have K4 : ∀ W, Calls Tryz.prog 41 #[.agg #[.int .i64 df, .int .u64 dh, .int .u64 dl]] W fun e w' => e = .returned (.bool (Ad.right ⟨df, dh, dl⟩)) ∧ Below W.heap.size W w' := fun W => (rright_any df dh dl W od.2.2.1).mono fun e w' h => ⟨h.1, by rw [h.2]; exact (Below.refl _ _).alloc (Nat.le_refl _) _⟩
 have K5 := in_any pr 0 255
 have K6 := in_any sp 0 65535
 have K7 := in_any dp 0 65535
 clear os od
 unfold Ky.right
 simp only
 generalize inB fr 0 15 = q1 at *
 generalize inB tz 0 15 = q2 at *
 generalize Ad.right ⟨sf, sh, sl⟩ = q3 at *
 generalize Ad.right ⟨df, dh, dl⟩ = q4 at *
 generalize inB pr 0 255 = q5 at *
 generalize inB sp 0 65535 = q6 at *
 generalize inB dp 0 65535 = q7 at *
 have bel : Below w.heap.size w (w.alloc (.cells (Ky.v ⟨fr, tz, ⟨sf, sh, sl⟩, ⟨df, dh, dl⟩, pr, sp, dp⟩) 33)) := bel_nw rfl
 have hk := blk_new w (Ky.v ⟨fr, tz, ⟨sf, sh, sl⟩, ⟨df, dh, dl⟩, pr, sp, dp⟩) 33
 obtain ⟨k0, k1, k2, k3, k4, k5, k6, k7, k8, k9, k10⟩ := hk.ky
 go_enter Tryz.func15, Tryz.ntmps15
 all_goals (
  go_wp2_with fail
  refine (K1 _).mono ?_
  rintro e _ ⟨rfl, rfl⟩
  cases q1
  ·go_wp2_with fail
   all_goals (go_ret; exact ⟨by first | (simp; done) | simp_all, bel⟩))
 all_goals (
  go_wp2_with fail
  refine (K2 _).mono ?_
  rintro e _ ⟨rfl, rfl⟩
  cases q2
  ·go_wp2_with fail
   all_goals (go_ret; exact ⟨by first | (simp; done) | simp_all, bel⟩))
 all_goals (
  go_wp2_with fail
  refine (K3 _).mono ?_
  rintro e W1 ⟨rfl, bb⟩
  have hk' := hk.kept bb
  have bel1 := bel_tr bel bb
  clear k0 k1 k2 k3 k4 k5 k6 k7 k8 k9 k10 hk bb bel
  have hk := hk'
  clear hk'
  obtain ⟨k0, k1, k2, k3, k4, k5, k6, k7, k8, k9, k10⟩ := hk.ky
  cases q3
  ·go_wp2_with fail
   all_goals (go_ret; exact ⟨by first | (simp; done) | simp_all, bel1⟩))
 all_goals (
  go_wp2_with fail
  refine (K4 _).mono ?_
  rintro e W2 ⟨rfl, bb⟩
  have hk' := hk.kept bb
  have bel2 := bel_tr bel1 bb
  clear k0 k1 k2 k3 k4 k5 k6 k7 k8 k9 k10 hk bb bel1
  have hk := hk'
  clear hk'
  obtain ⟨k0, k1, k2, k3, k4, k5, k6, k7, k8, k9, k10⟩ := hk.ky
  cases q4
  ·go_wp2_with fail
   all_goals (go_ret; exact ⟨by first | (simp; done) | simp_all, bel2⟩))
 all_goals (
  by_cases hc4 : sf = df
  rotate_left
  ·have ec4 : ((sf) == (df)) = false := by simpa using hc4
   go_wp2_with fail
   all_goals (go_ret; exact ⟨by first | (simp; done) | simp_all, bel2⟩)
  have ec4 : ((sf) == (df)) = true := by simpa using hc4)
 all_goals (
  go_wp2_with fail
  refine (K5 _).mono ?_
  rintro e _ ⟨rfl, rfl⟩
  cases q5
  ·go_wp2_with fail
   all_goals (go_ret; exact ⟨by first | (simp; done) | simp_all, bel2⟩))
 all_goals (
  go_wp2_with fail
  refine (K6 _).mono ?_
  rintro e _ ⟨rfl, rfl⟩
  cases q6
  ·go_wp2_with fail
   all_goals (go_ret; exact ⟨by first | (simp; done) | simp_all, bel2⟩))
 all_goals (
  go_wp2_with fail
  refine (K7 _).mono ?_
  rintro e _ ⟨rfl, rfl⟩
  go_wp2_with fail
  all_goals (go_ret; exact ⟨by first | (simp; done) | simp_all, bel2⟩))
set_option maxRecDepth 100000 in
set_option maxHeartbeats 4000000 in
theorem rightRule_any (r : Rl) (w : World) (ho : r.ok) :
  Calls Tryz.prog 60 #[.agg r.v] w fun e w' => e = .returned (.bool r.right) ∧ Below w.heap.size w w' := by
 obtain ⟨fr, tz, ⟨sf, sh, sl⟩, sn, ⟨df, dh, dl⟩, dn, pr, pl, ph, ql, qh, ac, he⟩ := r
 obtain ⟨os, od⟩ := ho
 have K1 := within_any fr (-1) 15
 have K2 := within_any tz (-1) 15
 have K3 := fun W => rightNet_any sf sh sl sn W os
 have K4 := fun W => rightNet_any df dh dl dn W od
 have K5 := within_any pr 0 255
 have K6 := rightPorts_any pl ph
 have K7 := rightPorts_any ql qh
 have K8 := within_any he 0 3

 clear os od
 unfold Rl.right
 simp only


 generalize inB fr (-1) 15 = q1 at *
 generalize inB tz (-1) 15 = q2 at *
 generalize netB ⟨sf, sh, sl⟩ sn = q3 at *
 generalize netB ⟨df, dh, dl⟩ dn = q4 at *
 generalize inB pr 0 255 = q5 at *
 generalize portB pl ph = q6 at *
 generalize portB ql qh = q7 at *
 generalize inB he 0 3 = q8 at *
 have bel : Below w.heap.size w (w.alloc (.cells (Rl.v ⟨fr, tz, ⟨sf, sh, sl⟩, sn, ⟨df, dh, dl⟩, dn, pr, pl, ph, ql, qh, ac, he⟩) 82)) := bel_nw rfl
 have hr := blk_new w (Rl.v ⟨fr, tz, ⟨sf, sh, sl⟩, sn, ⟨df, dh, dl⟩, dn, pr, pl, ph, ql, qh, ac, he⟩) 82
 obtain ⟨r0, r1, r2, r3, r4, r5, r6, r7, r8, r9, r10, r11, r12, r13, r14, r15, r16⟩ := hr.rl
 go_enter Tryz.func60, Tryz.ntmps60
 all_goals (
  go_wp2_with fail
  refine (K1 _).mono ?_
  rintro e _ ⟨rfl, rfl⟩
  cases q1
  ·go_wp2_with fail
   all_goals (go_ret; exact ⟨by first | (simp; done) | simp_all, bel⟩))
 all_goals (
  go_wp2_with fail
  refine (K2 _).mono ?_
  rintro e _ ⟨rfl, rfl⟩
  cases q2
  ·go_wp2_with fail
   all_goals (go_ret; exact ⟨by first | (simp; done) | simp_all, bel⟩))
 all_goals (
  go_wp2_with fail
  refine (K3 _).mono ?_
  rintro e W1 ⟨rfl, bb⟩
  have hr' := hr.kept bb
  have bel1 := bel_tr bel bb
  clear r0 r1 r2 r3 r4 r5 r6 r7 r8 r9 r10 r11 r12 r13 r14 r15 r16 hr bb bel
  have hr := hr'
  clear hr'
  obtain ⟨r0, r1, r2, r3, r4, r5, r6, r7, r8, r9, r10, r11, r12, r13, r14, r15, r16⟩ := hr.rl
  cases q3
  ·go_wp2_with fail
   all_goals (go_ret; exact ⟨by first | (simp; done) | simp_all, bel1⟩))
 all_goals (
  go_wp2_with fail
  refine (K4 _).mono ?_
  rintro e W2 ⟨rfl, bb⟩
  have hr' := hr.kept bb
  have bel2 := bel_tr bel1 bb
  clear r0 r1 r2 r3 r4 r5 r6 r7 r8 r9 r10 r11 r12 r13 r14 r15 r16 hr bb bel1
  have hr := hr'
  clear hr'
  obtain ⟨r0, r1, r2, r3, r4, r5, r6, r7, r8, r9, r10, r11, r12, r13, r14, r15, r16⟩ := hr.rl
  cases q4
  ·go_wp2_with fail
   all_goals (go_ret; exact ⟨by first | (simp; done) | simp_all, bel2⟩))
 all_goals (
  go_wp2_with fail
  refine (K5 _).mono ?_
  rintro e _ ⟨rfl, rfl⟩
  cases q5
  ·go_wp2_with fail
   all_goals (go_ret; exact ⟨by first | (simp; done) | simp_all, bel2⟩))
 all_goals (
  go_wp2_with fail
  refine (K6 _).mono ?_
  rintro e W3 ⟨rfl, bb⟩
  have hr' := hr.kept bb
  have bel3 := bel_tr bel2 bb
  clear r0 r1 r2 r3 r4 r5 r6 r7 r8 r9 r10 r11 r12 r13 r14 r15 r16 hr bb bel2
  have hr := hr'
  clear hr'
  obtain ⟨r0, r1, r2, r3, r4, r5, r6, r7, r8, r9, r10, r11, r12, r13, r14, r15, r16⟩ := hr.rl
  cases q6
  ·go_wp2_with fail
   all_goals (go_ret; exact ⟨by first | (simp; done) | simp_all, bel3⟩))
 all_goals (
  go_wp2_with fail
  refine (K7 _).mono ?_
  rintro e W4 ⟨rfl, bb⟩
  have hr' := hr.kept bb
  have bel4 := bel_tr bel3 bb
  clear r0 r1 r2 r3 r4 r5 r6 r7 r8 r9 r10 r11 r12 r13 r14 r15 r16 hr bb bel3
  have hr := hr'
  clear hr'
  obtain ⟨r0, r1, r2, r3, r4, r5, r6, r7, r8, r9, r10, r11, r12, r13, r14, r15, r16⟩ := hr.rl
  cases q7
  ·go_wp2_with fail
   all_goals (go_ret; exact ⟨by first | (simp; done) | simp_all, bel4⟩))
 all_goals (
  by_cases hp7 : ac = 0
  rotate_left
  have ep7 : ((ac) == (0)) = false := by simpa using hp7
  by_cases hq7 : ac = 1
  rotate_left
  ·have eq7 : ((ac) == (1)) = false := by simpa using hq7
   go_wp2_with fail
   all_goals (go_ret; exact ⟨by first | (simp; done) | simp_all, bel4⟩)
  rotate_left
  have eq7 : ((ac) == (1)) = true := by simpa using hq7
  rotate_left
  have ep7 : ((ac) == (0)) = true := by simpa using hp7)
 all_goals (
  go_wp2_with fail
  refine (K8 _).mono ?_
  rintro e _ ⟨rfl, rfl⟩
  go_wp2_with fail
  all_goals (go_ret; exact ⟨by first | (simp; done) | simp_all, bel4⟩))
set_option maxRecDepth 100000 in
set_option maxHeartbeats 4000000 in
theorem rrightRule_any (r : Rl) (w : World) (ho : r.ok) :
  Calls Tryz.prog 70 #[.agg r.v] w fun e w' => e = .returned (.bool r.right) ∧ Below w.heap.size w w' := by
 obtain ⟨fr, tz, ⟨sf, sh, sl⟩, sn, ⟨df, dh, dl⟩, dn, pr, pl, ph, ql, qh, ac, he⟩ := r
 obtain ⟨os, od⟩ := ho
 have K1 := in_any fr (-1) 15
 have K2 := in_any tz (-1) 15
 have K3 := fun W => prefix_any sf sh sl sn W os
 have K4 := fun W => prefix_any df dh dl dn W od
 have K5 := in_any pr 0 255
 have K6 := ports_any pl ph
 have K7 := ports_any ql qh
 have K8 := in_any he 0 3
 have K9 := in_any ac 0 1
 clear os od
 unfold Rl.right
 simp only
 have hac : (ac == 0 || ac == 1) = inB ac 0 1 := by unfold inB; rw [Bool.eq_iff_iff]; simp; omega
 rw [hac]; clear hac; generalize inB ac 0 1 = q9 at *
 generalize inB fr (-1) 15 = q1 at *
 generalize inB tz (-1) 15 = q2 at *
 generalize netB ⟨sf, sh, sl⟩ sn = q3 at *
 generalize netB ⟨df, dh, dl⟩ dn = q4 at *
 generalize inB pr 0 255 = q5 at *
 generalize portB pl ph = q6 at *
 generalize portB ql qh = q7 at *
 generalize inB he 0 3 = q8 at *
 have bel : Below w.heap.size w (w.alloc (.cells (Rl.v ⟨fr, tz, ⟨sf, sh, sl⟩, sn, ⟨df, dh, dl⟩, dn, pr, pl, ph, ql, qh, ac, he⟩) 82)) := bel_nw rfl
 have hr := blk_new w (Rl.v ⟨fr, tz, ⟨sf, sh, sl⟩, sn, ⟨df, dh, dl⟩, dn, pr, pl, ph, ql, qh, ac, he⟩) 82
 obtain ⟨r0, r1, r2, r3, r4, r5, r6, r7, r8, r9, r10, r11, r12, r13, r14, r15, r16⟩ := hr.rl
 go_enter Tryz.func70, Tryz.ntmps70
 all_goals (
  go_wp2_with fail
  refine (K1 _).mono ?_
  rintro e _ ⟨rfl, rfl⟩
  cases q1
  ·go_wp2_with fail
   all_goals (go_ret; exact ⟨by first | (simp; done) | simp_all, bel⟩))
 all_goals (
  go_wp2_with fail
  refine (K2 _).mono ?_
  rintro e _ ⟨rfl, rfl⟩
  cases q2
  ·go_wp2_with fail
   all_goals (go_ret; exact ⟨by first | (simp; done) | simp_all, bel⟩))
 all_goals (
  go_wp2_with fail
  refine (K3 _).mono ?_
  rintro e W1 ⟨rfl, bb⟩
  have hr' := hr.kept bb
  have bel1 := bel_tr bel bb
  clear r0 r1 r2 r3 r4 r5 r6 r7 r8 r9 r10 r11 r12 r13 r14 r15 r16 hr bb bel
  have hr := hr'
  clear hr'
  obtain ⟨r0, r1, r2, r3, r4, r5, r6, r7, r8, r9, r10, r11, r12, r13, r14, r15, r16⟩ := hr.rl
  cases q3
  ·go_wp2_with fail
   all_goals (go_ret; exact ⟨by first | (simp; done) | simp_all, bel1⟩))
 all_goals (
  go_wp2_with fail
  refine (K4 _).mono ?_
  rintro e W2 ⟨rfl, bb⟩
  have hr' := hr.kept bb
  have bel2 := bel_tr bel1 bb
  clear r0 r1 r2 r3 r4 r5 r6 r7 r8 r9 r10 r11 r12 r13 r14 r15 r16 hr bb bel1
  have hr := hr'
  clear hr'
  obtain ⟨r0, r1, r2, r3, r4, r5, r6, r7, r8, r9, r10, r11, r12, r13, r14, r15, r16⟩ := hr.rl
  cases q4
  ·go_wp2_with fail
   all_goals (go_ret; exact ⟨by first | (simp; done) | simp_all, bel2⟩))
 all_goals (
  go_wp2_with fail
  refine (K5 _).mono ?_
  rintro e _ ⟨rfl, rfl⟩
  cases q5
  ·go_wp2_with fail
   all_goals (go_ret; exact ⟨by first | (simp; done) | simp_all, bel2⟩))
 all_goals (
  go_wp2_with fail
  refine (K6 _).mono ?_
  rintro e W3 ⟨rfl, bb⟩
  have hr' := hr.kept bb
  have bel3 := bel_tr bel2 bb
  clear r0 r1 r2 r3 r4 r5 r6 r7 r8 r9 r10 r11 r12 r13 r14 r15 r16 hr bb bel2
  have hr := hr'
  clear hr'
  obtain ⟨r0, r1, r2, r3, r4, r5, r6, r7, r8, r9, r10, r11, r12, r13, r14, r15, r16⟩ := hr.rl
  cases q6
  ·go_wp2_with fail
   all_goals (go_ret; exact ⟨by first | (simp; done) | simp_all, bel3⟩))
 all_goals (
  go_wp2_with fail
  refine (K7 _).mono ?_
  rintro e W4 ⟨rfl, bb⟩
  have hr' := hr.kept bb
  have bel4 := bel_tr bel3 bb
  clear r0 r1 r2 r3 r4 r5 r6 r7 r8 r9 r10 r11 r12 r13 r14 r15 r16 hr bb bel3
  have hr := hr'
  clear hr'
  obtain ⟨r0, r1, r2, r3, r4, r5, r6, r7, r8, r9, r10, r11, r12, r13, r14, r15, r16⟩ := hr.rl
  cases q7
  ·go_wp2_with fail
   all_goals (go_ret; exact ⟨by first | (simp; done) | simp_all, bel4⟩))
 all_goals (
  go_wp2_with fail
  refine (K9 _).mono ?_
  rintro e _ ⟨rfl, rfl⟩
  cases q9
  ·go_wp2_with fail
   all_goals (go_ret; exact ⟨by first | (simp; done) | simp_all, bel4⟩))
 all_goals (
  go_wp2_with fail
  refine (K8 _).mono ?_
  rintro e _ ⟨rfl, rfl⟩
  go_wp2_with fail
  all_goals (go_ret; exact ⟨by first | (simp; done) | simp_all, bel4⟩))
/-- These cells lie from k on in the block b. -/
def CellsAt (W : World) (b k : Nat) (sub : Array Value) : Prop := b < W.heap.size ∧ ∀ j v, sub[j]? = some v → W.cell? ⟨b, k + j, none⟩ = some v
theorem CellsAt.below {w w' : World} {b k : Nat} {sub : Array Value} (h : CellsAt w b k sub) (hb : Below w.heap.size w w') : CellsAt w' b k sub :=
 ⟨Nat.lt_of_lt_of_le h.1 hb.size, fun j v hv => kept hb (h.2 j v hv)⟩
theorem Blk.at_ {W : World} {g : Nat} {t : TypeId} {cs : Array Value} (h : Blk W g t cs) : CellsAt W g 0 cs := ⟨h.lt, fun j v hv => by rw [Nat.zero_add]; exact h.cell j v hv⟩
theorem load_at {W : World} {g k : Nat} {ty : TypeId} {sub : Array Value} (h : CellsAt W g k sub) {fs : _} (hu : Tryz.prog.underlying ty = some (.struct fs)) (hi : (Tryz.prog.info? ty).map (·.size) = some sub.size) :
  (loadVar ty ⟨g, k, none⟩).run Tryz.prog W = .ok (.agg sub) W := by
 have hl : (loadCells ⟨g, k, none⟩ sub.toList.length).run Tryz.prog W = .ok sub.toList.toArray W :=
  run_loadCells_list (P := Tryz.prog) W ⟨g, k, none⟩ sub.toList (fun j v hv => by
   have hadd : (⟨g, k, none⟩ : Addr).add j = ⟨g, k + j, none⟩ := Go.WideShapes.add_plain ..
   rw [hadd]
   exact h.2 j v (by simpa using hv))
 cases hq : Tryz.prog.info? ty with
 | none => simp [hq] at hi
 | some i =>
  have hs' : i.size = sub.size := by simpa [hq] using hi
  have hagg : (isAgg ty).run Tryz.prog W = .ok true W := by
   unfold isAgg
   rw [Sem.run_bind, run_underlying hu W]
   rfl
  simp only [Array.length_toList, Array.toArray_toList] at hl
  simp [loadVar, Sem.run_bind, hagg, sizeOf, typeInfo, hq, hs', hl]
theorem wpList_load_at {ops : Array Oper} {rest : List Oper} {o : Oper} {ac : Act} {w : World} {Q : Exit → Act → World → Prop} (hgd : o.guard = none) (ty : TypeId) (p : Operand) (ho : o.op = Op.load ty p) (g k : Nat) (hp : ac.eval p = .pointer (some ⟨g, k, none⟩)) (sub : Array Value)
  (hb : CellsAt w g k sub) {fs : _} (hu : Tryz.prog.underlying ty = some (.struct fs)) (hi : (Tryz.prog.info? ty).map (·.size) = some sub.size) (h : wpList Tryz.prog ops Q rest (ac.put o.dst (.agg sub)) w) : wpList Tryz.prog ops Q (o :: rest) ac w := by
 refine wpList_plain hgd fun K hK => ?_
 have hl := load_at hb hu hi
 unfold Oper.wp
 simp [execOp, ho, hp, Instr.loadAt, Instr.sureAddr, hl, Result.andThen]
 exact hK _ _ h
theorem wpList_load_at_w {ops : Array Oper} {rest : List Oper} {o : Oper} {ac : Act} {w : World} {Q : Exit → Act → World → Prop} (hw : Region.wanted o (yielded ops ac.tmps) = true) (ty : TypeId) (p : Operand) (ho : o.op = Op.load ty p) (g k : Nat) (hp : ac.eval p = .pointer (some ⟨g, k, none⟩)) (sub : Array Value)
  (hb : CellsAt w g k sub) {fs : _} (hu : Tryz.prog.underlying ty = some (.struct fs)) (hi : (Tryz.prog.info? ty).map (·.size) = some sub.size) (h : wpList Tryz.prog ops Q rest (ac.put o.dst (.agg sub)) w) : wpList Tryz.prog ops Q (o :: rest) ac w := by
 refine wpList_step fun K hK => ?_
 rw [if_pos hw]
 have hl := load_at hb hu hi
 unfold Oper.wp
 simp [execOp, ho, hp, Instr.loadAt, Instr.sureAddr, hl, Result.andThen]
 exact hK _ _ h
theorem yieldsIf_at {ops : Array Oper} {S : World → Prop} {o : Oper} {ac : Act} (hw : Region.wanted o (yielded ops ac.tmps) = true) (ty : TypeId) (p : Operand) (ho : o.op = Op.load ty p) (g k : Nat) (hp : ac.eval p = .pointer (some ⟨g, k, none⟩)) (sub : Array Value)
  (hS : ∀ w, S w → CellsAt w g k sub) {fs : _} (hu : Tryz.prog.underlying ty = some (.struct fs)) (hi : (Tryz.prog.info? ty).map (·.size) = some sub.size) : YieldsIf Tryz.prog ops S o (.agg sub) ac := by
 refine .inl ⟨hw, fun w hw' => ?_⟩
 have hl := load_at (hS w hw') hu hi
 simp [execOp, ho, hp, Instr.loadAt, Instr.sureAddr, hl, Result.andThen]
theorem list_of {α : Type} {P : Nat → α → Prop} : ∀ m, (∀ i, i < m → ∃ q, P i q) → ∃ l : List α, l.length = m ∧ ∀ (i : Nat) (q : α), l[i]? = some q → P i q
 | 0, _ => ⟨[], rfl, fun i q h => by simp at h⟩
 | m + 1, h => by
  obtain ⟨l, h1, h2⟩ := list_of m (fun i hi => h i (by omega))
  obtain ⟨q, hq⟩ := h m (by omega)
  refine ⟨l ++ [q], by simp [h1], fun i q' hi => ?_⟩
  rcases Nat.lt_or_ge i m with x | x
  ·rw [List.getElem?_append_left (by omega)] at hi
   exact h2 i q' hi
  ·have hl := (List.getElem?_eq_some_iff.1 hi).1
   simp [h1] at hl
   have : i = m := by omega
   subst this
   rw [List.getElem?_append_right (by omega)] at hi
   simp [h1] at hi
   rw [← hi]
   exact hq
/-- A slice of things of n cells each, as it is read. -/
structure RowN {α : Type} (n : Nat) (v : α → Array Value) (ok : World → α → Prop) (w : World) (a : Option Addr) (l : List α) : Prop where
 each : ∀ q ∈ l, ok w q
 cells : ∀ (i : Nat) (q : α), l[i]? = some q → ∃ b off, a = some ⟨b, off, none⟩ ∧ CellsAt w b (off + i * n) (v q)
theorem RowN.below {α : Type} {n : Nat} {v : α → Array Value} {ok : World → α → Prop} (hok : ∀ {w w' : World} {q : α}, ok w q → Below w.heap.size w w' → ok w' q) {w w' : World} {a : Option Addr} {l : List α} (h : RowN n v ok w a l) (hb : Below w.heap.size w w') : RowN n v ok w' a l :=
 ⟨fun q hq => hok (h.each q hq) hb, fun i q hq => by
  obtain ⟨b, off, h1, h2⟩ := h.cells i q hq
  exact ⟨b, off, h1, h2.below hb⟩⟩
theorem info_rl (r : Rl) : (Tryz.prog.info? 82).map (·.size) = some r.v.size := by kernel_rfl
theorem info_ky (k : Ky) : (Tryz.prog.info? 33).map (·.size) = some k.v.size := by kernel_rfl
set_option maxRecDepth 100000 in
set_option maxHeartbeats 8000000 in
theorem rtakes_aux (RA KA : Array Value) (fr tz sf sh sl sn df dh dl dn pr pl ph ql qh ac he kfr ktz ksf ksh ksl kdf kdh kdl kpr sp dp : Int) (q1 q2 q3 q4 q5 q6 : Bool) (w : World)
  (K1 : ∀ W, Calls Tryz.prog 70 #[.agg RA] W fun e w' => e = .returned (.bool q1) ∧ Below W.heap.size W w') (K2 : ∀ W, Calls Tryz.prog 15 #[.agg KA] W fun e w' => e = .returned (.bool q2) ∧ Below W.heap.size W w')
  (K3 : ∀ W, Calls Tryz.prog 71 #[.agg #[.int .i64 sf, .int .u64 sh, .int .u64 sl, .int .i64 sn], .agg #[.int .i64 ksf, .int .u64 ksh, .int .u64 ksl]] W fun e w' => e = .returned (.bool q3) ∧ Below W.heap.size W w') (K4 : ∀ W, Calls Tryz.prog 71 #[.agg #[.int .i64 df, .int .u64 dh, .int .u64 dl, .int .i64 dn], .agg #[.int .i64 kdf, .int .u64 kdh, .int .u64 kdl]] W fun e w' => e = .returned (.bool q4) ∧ Below W.heap.size W w')
  (K5 : ∀ W, Calls Tryz.prog 40 #[.int .i64 sp, .int .i64 pl, .int .i64 ph] W fun e w' => e = .returned (.bool q5) ∧ w' = W) (K6 : ∀ W, Calls Tryz.prog 40 #[.int .i64 dp, .int .i64 ql, .int .i64 qh] W fun e w' => e = .returned (.bool q6) ∧ w' = W)
  (HR : Hid (∀ (W : World) (g : Nat) (t : TypeId), Blk W g t RA → W.cell? ⟨g, 0, none⟩ = some (.int .i64 fr) ∧ W.cell? ⟨g, 1, none⟩ = some (.int .i64 tz) ∧ W.cell? ⟨g, 2, none⟩ = some (.int .i64 sf) ∧ W.cell? ⟨g, 3, none⟩ = some (.int .u64 sh) ∧ W.cell? ⟨g, 4, none⟩ = some (.int .u64 sl) ∧ W.cell? ⟨g, 5, none⟩ = some (.int .i64 sn) ∧ W.cell? ⟨g, 6, none⟩ = some (.int .i64 df) ∧ W.cell? ⟨g, 7, none⟩ = some (.int .u64 dh) ∧ W.cell? ⟨g, 8, none⟩ = some (.int .u64 dl) ∧ W.cell? ⟨g, 9, none⟩ = some (.int .i64 dn) ∧ W.cell? ⟨g, 10, none⟩ = some (.int .i64 pr) ∧ W.cell? ⟨g, 11, none⟩ = some (.int .i64 pl) ∧ W.cell? ⟨g, 12, none⟩ = some (.int .i64 ph) ∧ W.cell? ⟨g, 13, none⟩ = some (.int .i64 ql) ∧ W.cell? ⟨g, 14, none⟩ = some (.int .i64 qh) ∧ W.cell? ⟨g, 15, none⟩ = some (.int .i64 ac) ∧ W.cell? ⟨g, 16, none⟩ = some (.int .i64 he)))
  (HK : Hid (∀ (W : World) (g : Nat) (t : TypeId), Blk W g t KA → W.cell? ⟨g, 0, none⟩ = some (.int .i64 kfr) ∧ W.cell? ⟨g, 1, none⟩ = some (.int .i64 ktz) ∧ W.cell? ⟨g, 2, none⟩ = some (.int .i64 ksf) ∧ W.cell? ⟨g, 3, none⟩ = some (.int .u64 ksh) ∧ W.cell? ⟨g, 4, none⟩ = some (.int .u64 ksl) ∧ W.cell? ⟨g, 5, none⟩ = some (.int .i64 kdf) ∧ W.cell? ⟨g, 6, none⟩ = some (.int .u64 kdh) ∧ W.cell? ⟨g, 7, none⟩ = some (.int .u64 kdl) ∧ W.cell? ⟨g, 8, none⟩ = some (.int .i64 kpr) ∧ W.cell? ⟨g, 9, none⟩ = some (.int .i64 sp) ∧ W.cell? ⟨g, 10, none⟩ = some (.int .i64 dp)))
  (hs1 : (Tryz.prog.info? 82).map (·.size) = some RA.size) (hs2 : (Tryz.prog.info? 33).map (·.size) = some KA.size) :
  Calls Tryz.prog 42 #[.agg RA, .agg KA] w fun e w' => e = .returned (.bool (q1 && (q2 && ((decide (fr < 0) || fr == kfr) && ((decide (tz < 0) || tz == ktz) && (q3 && (q4 && ((pr == 0 || pr == kpr) && (q5 && q6))))))))) ∧ Below w.heap.size w w' := by
 have bel : Below w.heap.size w ((w.alloc (.cells RA 82)).alloc (.cells KA 33)) := bel_al (bel_nw rfl) rfl
 have hr := (blk_new w RA 82).alloc (.cells KA 33)
 have hk := blk_new (w.alloc (.cells RA 82)) KA 33
 rw [World.size_alloc] at hk
 obtain ⟨r0, r1, r2, r3, r4, r5, r6, r7, r8, r9, r10, r11, r12, r13, r14, r15, r16⟩ := HR.out _ _ _ hr
 obtain ⟨k0, k1, k2, k3, k4, k5, k6, k7, k8, k9, k10⟩ := HK.out _ _ _ hk
 go_enter Tryz.func42, Tryz.ntmps42
 all_goals (
  go_wp2_with (first | (refine wpList_load_at_w rfl _ _ rfl _ 0 (by rfl) _ hr.at_ Tryz.underlying82 hs1 ?_) | (refine wpList_load_at_w rfl _ _ rfl _ 0 (by rfl) _ hk.at_ Tryz.underlying33 hs2 ?_))
  refine (K1 _).mono ?_
  rintro e W1 ⟨rfl, bb⟩
  have hr' := hr.kept bb
  have hk' := hk.kept bb
  have bel1 := bel_tr bel bb
  clear r0 r1 r2 r3 r4 r5 r6 r7 r8 r9 r10 r11 r12 r13 r14 r15 r16 k0 k1 k2 k3 k4 k5 k6 k7 k8 k9 k10 hr hk bb bel
  have hr := hr'
  clear hr'
  have hk := hk'
  clear hk'
  obtain ⟨r0, r1, r2, r3, r4, r5, r6, r7, r8, r9, r10, r11, r12, r13, r14, r15, r16⟩ := HR.out _ _ _ hr
  obtain ⟨k0, k1, k2, k3, k4, k5, k6, k7, k8, k9, k10⟩ := HK.out _ _ _ hk
  cases q1
  ·go_wp2_with (first | (refine wpList_load_at_w rfl _ _ rfl _ 0 (by rfl) _ hr.at_ Tryz.underlying82 hs1 ?_) | (refine wpList_load_at_w rfl _ _ rfl _ 0 (by rfl) _ hk.at_ Tryz.underlying33 hs2 ?_))
   all_goals (go_ret; exact ⟨by first | (simp; done) | (simp [*]; done) | simp_all, bel1⟩))
 all_goals (
  go_wp2_with (first | (refine wpList_load_at_w rfl _ _ rfl _ 0 (by rfl) _ hr.at_ Tryz.underlying82 hs1 ?_) | (refine wpList_load_at_w rfl _ _ rfl _ 0 (by rfl) _ hk.at_ Tryz.underlying33 hs2 ?_))
  refine (K2 _).mono ?_
  rintro e W2 ⟨rfl, bb⟩
  have hr' := hr.kept bb
  have hk' := hk.kept bb
  have bel2 := bel_tr bel1 bb
  clear r0 r1 r2 r3 r4 r5 r6 r7 r8 r9 r10 r11 r12 r13 r14 r15 r16 k0 k1 k2 k3 k4 k5 k6 k7 k8 k9 k10 hr hk bb bel1
  have hr := hr'
  clear hr'
  have hk := hk'
  clear hk'
  obtain ⟨r0, r1, r2, r3, r4, r5, r6, r7, r8, r9, r10, r11, r12, r13, r14, r15, r16⟩ := HR.out _ _ _ hr
  obtain ⟨k0, k1, k2, k3, k4, k5, k6, k7, k8, k9, k10⟩ := HK.out _ _ _ hk
  cases q2
  ·go_wp2_with (first | (refine wpList_load_at_w rfl _ _ rfl _ 0 (by rfl) _ hr.at_ Tryz.underlying82 hs1 ?_) | (refine wpList_load_at_w rfl _ _ rfl _ 0 (by rfl) _ hk.at_ Tryz.underlying33 hs2 ?_))
   all_goals (go_ret; exact ⟨by first | (simp; done) | (simp [*]; done) | simp_all, bel2⟩))
 all_goals (
  go_upto_region 3 with (first | (refine wpList_load_at_w rfl _ _ rfl _ 0 (by rfl) _ hr.at_ Tryz.underlying82 hs1 ?_) | (refine wpList_load_at_w rfl _ _ rfl _ 0 (by rfl) _ hk.at_ Tryz.underlying33 hs2 ?_))
  simp only [List.append_eq, List.cons_append, List.nil_append])
 all_goals (
  by_cases hp3 : fr < 0
  rotate_left
  have ep3 : decide (fr < 0) = false := by simpa using hp3
  replace hp3 := Int.not_lt.1 hp3
  by_cases hq3 : fr = kfr
  rotate_left
  ·have eq3 : ((fr) == (kfr)) = false := by simpa using hq3
   go_wp2_with fail
   all_goals (go_ret; exact ⟨by first | (simp; done) | (simp [*]; done) | simp_all, bel2⟩)
  rotate_left
  have eq3 : ((fr) == (kfr)) = true := by simpa using hq3
  rotate_left
  have ep3 : decide (fr < 0) = true := by simpa using hp3)
 all_goals (
  by_cases hp4 : tz < 0
  rotate_left
  have ep4 : decide (tz < 0) = false := by simpa using hp4
  replace hp4 := Int.not_lt.1 hp4
  by_cases hq4 : tz = ktz
  rotate_left
  ·have eq4 : ((tz) == (ktz)) = false := by simpa using hq4
   go_wp2_with fail
   all_goals (go_ret; exact ⟨by first | (simp; done) | (simp [*]; done) | simp_all, bel2⟩)
  rotate_left
  have eq4 : ((tz) == (ktz)) = true := by simpa using hq4
  rotate_left
  have ep4 : decide (tz < 0) = true := by simpa using hp4)
 all_goals (
  go_wp2_with fail
  refine (K3 _).mono ?_
  rintro e W3 ⟨rfl, bb⟩
  have hr' := hr.kept bb
  have hk' := hk.kept bb
  have bel3 := bel_tr bel2 bb
  clear r0 r1 r2 r3 r4 r5 r6 r7 r8 r9 r10 r11 r12 r13 r14 r15 r16 k0 k1 k2 k3 k4 k5 k6 k7 k8 k9 k10 hr hk bb bel2
  have hr := hr'
  clear hr'
  have hk := hk'
  clear hk'
  obtain ⟨r0, r1, r2, r3, r4, r5, r6, r7, r8, r9, r10, r11, r12, r13, r14, r15, r16⟩ := HR.out _ _ _ hr
  obtain ⟨k0, k1, k2, k3, k4, k5, k6, k7, k8, k9, k10⟩ := HK.out _ _ _ hk
  cases q3
  ·go_wp2_with fail
   all_goals (go_ret; exact ⟨by first | (simp; done) | (simp [*]; done) | simp_all, bel3⟩))
 all_goals (
  go_wp2_with fail
  refine (K4 _).mono ?_
  rintro e W4 ⟨rfl, bb⟩
  have hr' := hr.kept bb
  have hk' := hk.kept bb
  have bel4 := bel_tr bel3 bb
  clear r0 r1 r2 r3 r4 r5 r6 r7 r8 r9 r10 r11 r12 r13 r14 r15 r16 k0 k1 k2 k3 k4 k5 k6 k7 k8 k9 k10 hr hk bb bel3
  have hr := hr'
  clear hr'
  have hk := hk'
  clear hk'
  obtain ⟨r0, r1, r2, r3, r4, r5, r6, r7, r8, r9, r10, r11, r12, r13, r14, r15, r16⟩ := HR.out _ _ _ hr
  obtain ⟨k0, k1, k2, k3, k4, k5, k6, k7, k8, k9, k10⟩ := HK.out _ _ _ hk
  cases q4
  ·go_wp2_with fail
   all_goals (go_ret; exact ⟨by first | (simp; done) | (simp [*]; done) | simp_all, bel4⟩))
 all_goals (
  by_cases hp7 : pr = 0
  rotate_left
  have ep7 : ((pr) == (0)) = false := by simpa using hp7
  by_cases hq7 : pr = kpr
  rotate_left
  ·have eq7 : ((pr) == (kpr)) = false := by simpa using hq7
   go_wp2_with fail
   all_goals (go_ret; exact ⟨by first | (simp; done) | (simp [*]; done) | simp_all, bel4⟩)
  rotate_left
  have eq7 : ((pr) == (kpr)) = true := by simpa using hq7
  rotate_left
  have ep7 : ((pr) == (0)) = true := by simpa using hp7)
 all_goals (
  go_wp2_with fail
  refine (K5 _).mono ?_
  rintro e _ ⟨rfl, rfl⟩
  cases q5
  ·go_wp2_with fail
   all_goals (go_ret; exact ⟨by first | (simp; done) | (simp [*]; done) | simp_all, bel4⟩))
 all_goals (
  go_wp2_with fail
  refine (K6 _).mono ?_
  rintro e _ ⟨rfl, rfl⟩
  go_wp2_with fail
  all_goals (go_ret; exact ⟨by first | (simp; done) | (simp [*]; done) | simp_all, bel4⟩))
theorem rtakes_any (r : Rl) (k : Ky) (w : World) (ho : r.ok) (ko : k.ok) :
  Calls Tryz.prog 42 #[.agg r.v, .agg k.v] w fun e w' => e = .returned (.bool (r.takes k)) ∧ Below w.heap.size w w' := by
 have K1 := fun W => rrightRule_any r W ho
 have K2 := fun W => rrightKey_any k W ko
 unfold Rl.takes Rl.asks
 have h1 := info_rl r
 have h2 := info_ky k
 exact rtakes_aux r.v k.v r.fr r.tz r.s.fam r.s.hi r.s.lo r.sn r.d.fam r.d.hi r.d.lo r.dn r.pr r.sl r.sh r.dl r.dh r.ac r.he k.fr k.tz k.s.fam k.s.hi k.s.lo k.d.fam k.d.hi k.d.lo k.pr k.sp k.dp _ _ _ _ _ _ w K1 K2 (fun W => hasR_any _ _ _ _ _ _ _ W ho.s ko.s) (fun W => hasR_any _ _ _ _ _ _ _ W ho.d ko.d) (in_any _ _ _) (in_any _ _ _) (fun W g t h => h.rl) (fun W g t h => h.ky) h1 h2
end Go.Proofs.YtmfgjicfdjjihaaGreatDoor
