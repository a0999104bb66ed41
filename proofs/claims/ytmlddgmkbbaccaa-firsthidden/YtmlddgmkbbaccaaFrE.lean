/- The questions of a rule, one by one. -/
import Derived.Test.YtmlddgmkbbaccaaFrB
import Derived.Test.YtmlddgmkbbaccaaFrS
import Derived.Deep.QuietTactic
import Derived.BigQuiet
import Derived.BigRegion
import Derived.Deep.RegionWith
import Derived.Deep.RegionHeld3
namespace Go.Proofs.Ytmlddgmkbbaccaa
open Go.RowKit
set_option linter.unusedVariables false
set_option linter.unusedSimpArgs false
theorem portsReach_any (a b c d : Int) (w : World) :
    Calls Try.prog 53 #[.agg #[.int .i64 a, .int .i64 b], .agg #[.int .i64 c, .int .i64 d]] w fun e w' => e = .returned (.bool (decide (a ≤ c) && decide (d ≤ b))) ∧ Below w.heap.size w w' := by
  have bel : Below w.heap.size w ((w.alloc (.cells #[.int .i64 a, .int .i64 b] 28)).alloc (.cells #[.int .i64 c, .int .i64 d] 28)) := bel_al (bel_nw rfl) rfl
  go_enter Try.func53, Try.ntmps53
  by_cases h : a ≤ c
  · by_cases h' : d ≤ b
    all_goals (go_wp2; go_ret; exact ⟨by first | (simp [*]; done) | (simp; omega), bel⟩)
  · go_wp2; go_ret; exact ⟨by first | (simp [*]; done) | (simp; omega), bel⟩
theorem Blk.pf {W : World} {g : Nat} {t : TypeId} {f h l b : Int} (x : Blk W g t #[.int .i64 f, .int .u64 h, .int .u64 l, .int .i64 b]) : W.cell? ⟨g, 0, none⟩ = some (.int .i64 f) ∧ W.cell? ⟨g, 1, none⟩ = some (.int .u64 h) ∧ W.cell? ⟨g, 2, none⟩ = some (.int .u64 l) ∧ W.cell? ⟨g, 3, none⟩ = some (.int .i64 b) :=
  ⟨x.cell 0 _ rfl, x.cell 1 _ rfl, x.cell 2 _ rfl, x.cell 3 _ rfl⟩
set_option maxRecDepth 100000 in
set_option maxHeartbeats 2000000 in
theorem netReaches_any (f h l b f' h' l' b' : Int) (w : World) (ho' : Ad.ok ⟨f', h', l'⟩) :
    Calls Try.prog 56 #[.agg #[.int .i64 f, .int .u64 h, .int .u64 l, .int .i64 b], .agg #[.int .i64 f', .int .u64 h', .int .u64 l', .int .i64 b']] w fun e w' => e = .returned (.bool (reachB ⟨f, h, l⟩ b ⟨f', h', l'⟩ b')) ∧ Below w.heap.size w w' := by
  have K1 := every_any f h l b
  have K2 := fun W => has_any f h l b f' h' l' W ho'
  have K3 := fun W => rightPrefix_any f' h' l' b' W ho'
  unfold reachB
  generalize zeroP ⟨f, h, l⟩ b = q1 at *
  generalize Ad.has ⟨f, h, l⟩ b ⟨f', h', l'⟩ = q2 at *
  generalize Ad.rightPrefix ⟨f', h', l'⟩ b' = q3 at *
  clear ho'
  have bel : Below w.heap.size w ((w.alloc (.cells #[.int .i64 f, .int .u64 h, .int .u64 l, .int .i64 b] 26)).alloc (.cells #[.int .i64 f', .int .u64 h', .int .u64 l', .int .i64 b'] 26)) := bel_al (bel_nw rfl) rfl
  have ha := (blk_new w #[.int .i64 f, .int .u64 h, .int .u64 l, .int .i64 b] 26).alloc (.cells #[.int .i64 f', .int .u64 h', .int .u64 l', .int .i64 b'] 26)
  have hb := blk_new (w.alloc (.cells #[.int .i64 f, .int .u64 h, .int .u64 l, .int .i64 b] 26)) #[.int .i64 f', .int .u64 h', .int .u64 l', .int .i64 b'] 26
  rw [World.size_alloc] at hb
  go_enter Try.func56, Try.ntmps56
  go_wp2_with fail
  refine (K1 _).mono ?_
  rintro e W1 ⟨rfl, bb⟩
  have ha1 := ha.kept bb
  have hb1 := hb.kept bb
  have bel1 := bel_tr bel bb
  clear ha hb bb bel K1
  obtain ⟨a0, a1, a2, a3⟩ := ha1.pf
  obtain ⟨b0, b1, b2, b3⟩ := hb1.pf
  cases q1
  rotate_left
  · go_wp2_with fail
    all_goals (go_ret; exact ⟨by simp, bel1⟩)
  by_cases hc : b ≤ b'
  rotate_left
  · have ec : decide (b ≤ b') = false := by simpa using hc
    go_wp2_with fail
    all_goals (go_ret; exact ⟨by simp [ec], bel1⟩)
  have ec : decide (b ≤ b') = true := by simpa using hc
  go_wp2_with fail
  refine (K2 _).mono ?_
  rintro e W2 ⟨rfl, bb⟩
  have hb2 := hb1.kept bb
  have bel2 := bel_tr bel1 bb
  clear ha1 hb1 bb bel1 K2 a0 a1 a2 a3 b0 b1 b2 b3
  obtain ⟨b0, b1, b2, b3⟩ := hb2.pf
  cases q2
  · go_wp2_with fail
    all_goals (go_ret; exact ⟨by simp, bel2⟩)
  go_wp2_with fail
  refine (K3 _).mono ?_
  rintro e W3 ⟨rfl, bb⟩
  have bel3 := bel_tr bel2 bb
  clear hb2 bb bel2 K3 b0 b1 b2 b3
  go_wp2_with fail
  all_goals (go_ret; exact ⟨by simp [ec], bel3⟩)
set_option maxRecDepth 100000 in
set_option maxHeartbeats 2000000 in
theorem asks1_any (r : Rl) (k : Ky) (b off g : Nat) (w : World) (hr : CellsAt w b off r.v) (hk : CellsAt w g 0 k.v) :
    Calls Try.prog 40 #[.pointer (some ⟨b, off, none⟩), .pointer (some ⟨g, 0, none⟩)] w fun e w' => e = .returned (.bool (r.fr == (-1) || r.fr == k.fr)) ∧ Below w.heap.size w w' := by
  have r0 : w.cell? ⟨b, off, none⟩ = some (.int .i64 r.fr) := by have := hr.2 0 _ rfl; simpa using this
  have k0 : w.cell? ⟨g, 0, none⟩ = some (.int .i64 k.fr) := by have := hk.2 0 _ rfl; simpa using this
  have wd : ∀ k, Below w.heap.size w (w.drewN k) := fun k => below_drewN (Below.refl _ _) k
  clear hr hk
  go_enter Try.func40, Try.ntmps40
  by_cases hp : r.fr = (-1)
  · have ep : (r.fr == (-1)) = true := by simpa using hp
    go_wp2
    go_quiet (fail)
    go_wp2
    go_ret
    exact ⟨by simp [ep], wd _⟩
  · have ep : (r.fr == (-1)) = false := by simpa using hp
    go_wp2
    go_quiet (fail)
    go_wp2
    go_ret
    exact ⟨by simp [ep], wd _⟩
set_option maxRecDepth 100000 in
set_option maxHeartbeats 2000000 in
theorem asks2_any (r : Rl) (k : Ky) (b off g : Nat) (w : World) (hr : CellsAt w b off r.v) (hk : CellsAt w g 0 k.v) :
    Calls Try.prog 41 #[.pointer (some ⟨b, off, none⟩), .pointer (some ⟨g, 0, none⟩)] w fun e w' => e = .returned (.bool (r.tz == (-1) || r.tz == k.tz)) ∧ Below w.heap.size w w' := by
  have r1 : w.cell? ⟨b, off + 1, none⟩ = some (.int .i64 r.tz) := by have := hr.2 1 _ rfl; simpa using this
  have k1 : w.cell? ⟨g, 1, none⟩ = some (.int .i64 k.tz) := by have := hk.2 1 _ rfl; simpa using this
  have wd : ∀ k, Below w.heap.size w (w.drewN k) := fun k => below_drewN (Below.refl _ _) k
  clear hr hk
  go_enter Try.func41, Try.ntmps41
  by_cases hp : r.tz = (-1)
  · have ep : (r.tz == (-1)) = true := by simpa using hp
    go_wp2
    go_quiet (fail)
    go_wp2
    go_ret
    exact ⟨by simp [ep], wd _⟩
  · have ep : (r.tz == (-1)) = false := by simpa using hp
    go_wp2
    go_quiet (fail)
    go_wp2
    go_ret
    exact ⟨by simp [ep], wd _⟩
set_option maxRecDepth 100000 in
set_option maxHeartbeats 2000000 in
theorem asks5_any (r : Rl) (k : Ky) (b off g : Nat) (w : World) (hr : CellsAt w b off r.v) (hk : CellsAt w g 0 k.v) :
    Calls Try.prog 45 #[.pointer (some ⟨b, off, none⟩), .pointer (some ⟨g, 0, none⟩)] w fun e w' => e = .returned (.bool (r.pr == 0 || r.pr == k.pr)) ∧ Below w.heap.size w w' := by
  have r10 : w.cell? ⟨b, off + 10, none⟩ = some (.int .i64 r.pr) := by have := hr.2 10 _ rfl; simpa using this
  have k8 : w.cell? ⟨g, 8, none⟩ = some (.int .i64 k.pr) := by have := hk.2 8 _ rfl; simpa using this
  have wd : ∀ k, Below w.heap.size w (w.drewN k) := fun k => below_drewN (Below.refl _ _) k
  clear hr hk
  go_enter Try.func45, Try.ntmps45
  by_cases hp : r.pr = 0
  · have ep : (r.pr == 0) = true := by simpa using hp
    go_wp2
    go_quiet (fail)
    go_wp2
    go_ret
    exact ⟨by simp [ep], wd _⟩
  · have ep : (r.pr == 0) = false := by simpa using hp
    go_wp2
    go_quiet (fail)
    go_wp2
    go_ret
    exact ⟨by simp [ep], wd _⟩
set_option maxRecDepth 100000 in
set_option maxHeartbeats 2000000 in
theorem wider1_any (r : Rl) (k : Rl) (b off g : Nat) (w : World) (hr : CellsAt w b off r.v) (hk : CellsAt w g 0 k.v) :
    Calls Try.prog 49 #[.pointer (some ⟨b, off, none⟩), .pointer (some ⟨g, 0, none⟩)] w fun e w' => e = .returned (.bool (r.fr == (-1) || r.fr == k.fr)) ∧ Below w.heap.size w w' := by
  have r0 : w.cell? ⟨b, off, none⟩ = some (.int .i64 r.fr) := by have := hr.2 0 _ rfl; simpa using this
  have k0 : w.cell? ⟨g, 0, none⟩ = some (.int .i64 k.fr) := by have := hk.2 0 _ rfl; simpa using this
  have wd : ∀ k, Below w.heap.size w (w.drewN k) := fun k => below_drewN (Below.refl _ _) k
  clear hr hk
  go_enter Try.func49, Try.ntmps49
  by_cases hp : r.fr = (-1)
  · have ep : (r.fr == (-1)) = true := by simpa using hp
    go_wp2
    go_quiet (fail)
    go_wp2
    go_ret
    exact ⟨by simp [ep], wd _⟩
  · have ep : (r.fr == (-1)) = false := by simpa using hp
    go_wp2
    go_quiet (fail)
    go_wp2
    go_ret
    exact ⟨by simp [ep], wd _⟩
set_option maxRecDepth 100000 in
set_option maxHeartbeats 2000000 in
theorem wider2_any (r : Rl) (k : Rl) (b off g : Nat) (w : World) (hr : CellsAt w b off r.v) (hk : CellsAt w g 0 k.v) :
    Calls Try.prog 50 #[.pointer (some ⟨b, off, none⟩), .pointer (some ⟨g, 0, none⟩)] w fun e w' => e = .returned (.bool (r.tz == (-1) || r.tz == k.tz)) ∧ Below w.heap.size w w' := by
  have r1 : w.cell? ⟨b, off + 1, none⟩ = some (.int .i64 r.tz) := by have := hr.2 1 _ rfl; simpa using this
  have k1 : w.cell? ⟨g, 1, none⟩ = some (.int .i64 k.tz) := by have := hk.2 1 _ rfl; simpa using this
  have wd : ∀ k, Below w.heap.size w (w.drewN k) := fun k => below_drewN (Below.refl _ _) k
  clear hr hk
  go_enter Try.func50, Try.ntmps50
  by_cases hp : r.tz = (-1)
  · have ep : (r.tz == (-1)) = true := by simpa using hp
    go_wp2
    go_quiet (fail)
    go_wp2
    go_ret
    exact ⟨by simp [ep], wd _⟩
  · have ep : (r.tz == (-1)) = false := by simpa using hp
    go_wp2
    go_quiet (fail)
    go_wp2
    go_ret
    exact ⟨by simp [ep], wd _⟩
set_option maxRecDepth 100000 in
set_option maxHeartbeats 2000000 in
theorem wider3_any (r : Rl) (k : Rl) (b off g : Nat) (w : World) (hr : CellsAt w b off r.v) (hk : CellsAt w g 0 k.v) :
    Calls Try.prog 51 #[.pointer (some ⟨b, off, none⟩), .pointer (some ⟨g, 0, none⟩)] w fun e w' => e = .returned (.bool (r.pr == 0 || r.pr == k.pr)) ∧ Below w.heap.size w w' := by
  have r10 : w.cell? ⟨b, off + 10, none⟩ = some (.int .i64 r.pr) := by have := hr.2 10 _ rfl; simpa using this
  have k10 : w.cell? ⟨g, 10, none⟩ = some (.int .i64 k.pr) := by have := hk.2 10 _ rfl; simpa using this
  have wd : ∀ k, Below w.heap.size w (w.drewN k) := fun k => below_drewN (Below.refl _ _) k
  clear hr hk
  go_enter Try.func51, Try.ntmps51
  by_cases hp : r.pr = 0
  · have ep : (r.pr == 0) = true := by simpa using hp
    go_wp2
    go_quiet (fail)
    go_wp2
    go_ret
    exact ⟨by simp [ep], wd _⟩
  · have ep : (r.pr == 0) = false := by simpa using hp
    go_wp2
    go_quiet (fail)
    go_wp2
    go_ret
    exact ⟨by simp [ep], wd _⟩
set_option maxRecDepth 100000 in
set_option maxHeartbeats 2000000 in
theorem asks6_any (r : Rl) (k : Ky) (b off g : Nat) (w : World) (hr : CellsAt w b off r.v) (hk : CellsAt w g 0 k.v) :
    Calls Try.prog 46 #[.pointer (some ⟨b, off, none⟩), .pointer (some ⟨g, 0, none⟩)] w fun e w' => e = .returned (.bool (inB k.sp r.sl r.sh)) ∧ Below w.heap.size w w' := by
  have r11 : w.cell? ⟨b, off + 11, none⟩ = some (.int .i64 r.sl) := by have := hr.2 11 _ rfl; simpa using this
  have r12 : w.cell? ⟨b, off + 12, none⟩ = some (.int .i64 r.sh) := by have := hr.2 12 _ rfl; simpa using this
  have k9 : w.cell? ⟨g, 9, none⟩ = some (.int .i64 k.sp) := by have := hk.2 9 _ rfl; simpa using this
  have K1 := fun W => (within_any k.sp r.sl r.sh W).mono fun e w' h => (⟨h.1, h.2 ▸ Below.refl _ _⟩ : e = .returned (.bool (inB k.sp r.sl r.sh)) ∧ Below W.heap.size W w')
  generalize (inB k.sp r.sl r.sh) = q1 at *
  clear hr hk
  go_enter Try.func46, Try.ntmps46
  go_wp2
  go_region_with (go_at_call 21; refine (K1 _).mono ?_; rintro e w' ⟨rfl, bb⟩)
  all_goals go_wp2
  all_goals go_ret
  all_goals exact ⟨rfl, bel_tr ((Below.refl _ _).drew) bb⟩
set_option maxRecDepth 100000 in
set_option maxHeartbeats 2000000 in
theorem asks7_any (r : Rl) (k : Ky) (b off g : Nat) (w : World) (hr : CellsAt w b off r.v) (hk : CellsAt w g 0 k.v) :
    Calls Try.prog 47 #[.pointer (some ⟨b, off, none⟩), .pointer (some ⟨g, 0, none⟩)] w fun e w' => e = .returned (.bool (inB k.dp r.dl r.dh)) ∧ Below w.heap.size w w' := by
  have r13 : w.cell? ⟨b, off + 13, none⟩ = some (.int .i64 r.dl) := by have := hr.2 13 _ rfl; simpa using this
  have r14 : w.cell? ⟨b, off + 14, none⟩ = some (.int .i64 r.dh) := by have := hr.2 14 _ rfl; simpa using this
  have k10 : w.cell? ⟨g, 10, none⟩ = some (.int .i64 k.dp) := by have := hk.2 10 _ rfl; simpa using this
  have K1 := fun W => (within_any k.dp r.dl r.dh W).mono fun e w' h => (⟨h.1, h.2 ▸ Below.refl _ _⟩ : e = .returned (.bool (inB k.dp r.dl r.dh)) ∧ Below W.heap.size W w')
  generalize (inB k.dp r.dl r.dh) = q1 at *
  clear hr hk
  go_enter Try.func47, Try.ntmps47
  go_wp2
  go_region_with (go_at_call 21; refine (K1 _).mono ?_; rintro e w' ⟨rfl, bb⟩)
  all_goals go_wp2
  all_goals go_ret
  all_goals exact ⟨rfl, bel_tr ((Below.refl _ _).drew) bb⟩
set_option maxRecDepth 100000 in
set_option maxHeartbeats 2000000 in
theorem wider4_any (r : Rl) (k : Rl) (b off g : Nat) (w : World) (hr : CellsAt w b off r.v) (hk : CellsAt w g 0 k.v) :
    Calls Try.prog 52 #[.pointer (some ⟨b, off, none⟩), .pointer (some ⟨g, 0, none⟩)] w fun e w' => e = .returned (.bool (decide (r.sl ≤ k.sl) && decide (k.sh ≤ r.sh))) ∧ Below w.heap.size w w' := by
  have r11 : w.cell? ⟨b, off + 11, none⟩ = some (.int .i64 r.sl) := by have := hr.2 11 _ rfl; simpa using this
  have r12 : w.cell? ⟨b, off + 12, none⟩ = some (.int .i64 r.sh) := by have := hr.2 12 _ rfl; simpa using this
  have k11 : w.cell? ⟨g, 11, none⟩ = some (.int .i64 k.sl) := by have := hk.2 11 _ rfl; simpa using this
  have k12 : w.cell? ⟨g, 12, none⟩ = some (.int .i64 k.sh) := by have := hk.2 12 _ rfl; simpa using this
  have K1 := portsReach_any r.sl r.sh k.sl k.sh
  generalize (decide (r.sl ≤ k.sl) && decide (k.sh ≤ r.sh)) = q1 at *
  clear hr hk
  go_enter Try.func52, Try.ntmps52
  go_wp2
  go_region_with (go_at_call 53; refine (K1 _).mono ?_; rintro e w' ⟨rfl, bb⟩)
  all_goals go_wp2
  all_goals go_ret
  all_goals exact ⟨rfl, bel_tr ((Below.refl _ _).drew) bb⟩
set_option maxRecDepth 100000 in
set_option maxHeartbeats 2000000 in
theorem wider5_any (r : Rl) (k : Rl) (b off g : Nat) (w : World) (hr : CellsAt w b off r.v) (hk : CellsAt w g 0 k.v) :
    Calls Try.prog 54 #[.pointer (some ⟨b, off, none⟩), .pointer (some ⟨g, 0, none⟩)] w fun e w' => e = .returned (.bool (decide (r.dl ≤ k.dl) && decide (k.dh ≤ r.dh))) ∧ Below w.heap.size w w' := by
  have r13 : w.cell? ⟨b, off + 13, none⟩ = some (.int .i64 r.dl) := by have := hr.2 13 _ rfl; simpa using this
  have r14 : w.cell? ⟨b, off + 14, none⟩ = some (.int .i64 r.dh) := by have := hr.2 14 _ rfl; simpa using this
  have k13 : w.cell? ⟨g, 13, none⟩ = some (.int .i64 k.dl) := by have := hk.2 13 _ rfl; simpa using this
  have k14 : w.cell? ⟨g, 14, none⟩ = some (.int .i64 k.dh) := by have := hk.2 14 _ rfl; simpa using this
  have K1 := portsReach_any r.dl r.dh k.dl k.dh
  generalize (decide (r.dl ≤ k.dl) && decide (k.dh ≤ r.dh)) = q1 at *
  clear hr hk
  go_enter Try.func54, Try.ntmps54
  go_wp2
  go_region_with (go_at_call 53; refine (K1 _).mono ?_; rintro e w' ⟨rfl, bb⟩)
  all_goals go_wp2
  all_goals go_ret
  all_goals exact ⟨rfl, bel_tr ((Below.refl _ _).drew) bb⟩
set_option maxRecDepth 100000 in
set_option maxHeartbeats 2000000 in
theorem wider6_any (r : Rl) (k : Rl) (b off g : Nat) (w : World) (hr : CellsAt w b off r.v) (hk : CellsAt w g 0 k.v) (ko : k.s.ok) :
    Calls Try.prog 55 #[.pointer (some ⟨b, off, none⟩), .pointer (some ⟨g, 0, none⟩)] w fun e w' => e = .returned (.bool (reachB r.s r.sn k.s k.sn)) ∧ Below w.heap.size w w' := by
  have r2 : w.cell? ⟨b, off + 2, none⟩ = some (.int .i64 r.s.fam) := by have := hr.2 2 _ rfl; simpa using this
  have r3 : w.cell? ⟨b, off + 3, none⟩ = some (.int .u64 r.s.hi) := by have := hr.2 3 _ rfl; simpa using this
  have r4 : w.cell? ⟨b, off + 4, none⟩ = some (.int .u64 r.s.lo) := by have := hr.2 4 _ rfl; simpa using this
  have r5 : w.cell? ⟨b, off + 5, none⟩ = some (.int .i64 r.sn) := by have := hr.2 5 _ rfl; simpa using this
  have k2 : w.cell? ⟨g, 2, none⟩ = some (.int .i64 k.s.fam) := by have := hk.2 2 _ rfl; simpa using this
  have k3 : w.cell? ⟨g, 3, none⟩ = some (.int .u64 k.s.hi) := by have := hk.2 3 _ rfl; simpa using this
  have k4 : w.cell? ⟨g, 4, none⟩ = some (.int .u64 k.s.lo) := by have := hk.2 4 _ rfl; simpa using this
  have k5 : w.cell? ⟨g, 5, none⟩ = some (.int .i64 k.sn) := by have := hk.2 5 _ rfl; simpa using this
  have K1 := fun W => netReaches_any r.s.fam r.s.hi r.s.lo r.sn k.s.fam k.s.hi k.s.lo k.sn W ko
  generalize (reachB r.s r.sn k.s k.sn) = q1 at *
  clear hr hk
  go_enter Try.func55, Try.ntmps55
  go_wp2
  go_region_with (go_at_call 56; refine (K1 _).mono ?_; rintro e w' ⟨rfl, bb⟩)
  all_goals go_wp2
  all_goals go_ret
  all_goals exact ⟨rfl, bel_tr ((Below.refl _ _).drew) bb⟩
set_option maxRecDepth 100000 in
set_option maxHeartbeats 2000000 in
theorem wider7_any (r : Rl) (k : Rl) (b off g : Nat) (w : World) (hr : CellsAt w b off r.v) (hk : CellsAt w g 0 k.v) (ko : k.d.ok) :
    Calls Try.prog 57 #[.pointer (some ⟨b, off, none⟩), .pointer (some ⟨g, 0, none⟩)] w fun e w' => e = .returned (.bool (reachB r.d r.dn k.d k.dn)) ∧ Below w.heap.size w w' := by
  have r6 : w.cell? ⟨b, off + 6, none⟩ = some (.int .i64 r.d.fam) := by have := hr.2 6 _ rfl; simpa using this
  have r7 : w.cell? ⟨b, off + 7, none⟩ = some (.int .u64 r.d.hi) := by have := hr.2 7 _ rfl; simpa using this
  have r8 : w.cell? ⟨b, off + 8, none⟩ = some (.int .u64 r.d.lo) := by have := hr.2 8 _ rfl; simpa using this
  have r9 : w.cell? ⟨b, off + 9, none⟩ = some (.int .i64 r.dn) := by have := hr.2 9 _ rfl; simpa using this
  have k6 : w.cell? ⟨g, 6, none⟩ = some (.int .i64 k.d.fam) := by have := hk.2 6 _ rfl; simpa using this
  have k7 : w.cell? ⟨g, 7, none⟩ = some (.int .u64 k.d.hi) := by have := hk.2 7 _ rfl; simpa using this
  have k8 : w.cell? ⟨g, 8, none⟩ = some (.int .u64 k.d.lo) := by have := hk.2 8 _ rfl; simpa using this
  have k9 : w.cell? ⟨g, 9, none⟩ = some (.int .i64 k.dn) := by have := hk.2 9 _ rfl; simpa using this
  have K1 := fun W => netReaches_any r.d.fam r.d.hi r.d.lo r.dn k.d.fam k.d.hi k.d.lo k.dn W ko
  generalize (reachB r.d r.dn k.d k.dn) = q1 at *
  clear hr hk
  go_enter Try.func57, Try.ntmps57
  go_wp2
  go_region_with (go_at_call 56; refine (K1 _).mono ?_; rintro e w' ⟨rfl, bb⟩)
  all_goals go_wp2
  all_goals go_ret
  all_goals exact ⟨rfl, bel_tr ((Below.refl _ _).drew) bb⟩
end Go.Proofs.Ytmlddgmkbbaccaa
