/- Texts joined: FrD -/
import Derived.Test.YtcoldgpnkdallaaDoorRxa0
import Derived.Test.YtcoldgpnkdallaaDoorRxa1
import Derived.Test.YtcoldgpnkdallaaDoorRxa2
import Derived.Test.YtcoldgpnkdallaaDoorRxa3
import Derived.Test.YtcoldgpnkdallaaDoorRxa4
import Derived.Test.YtcoldgpnkdallaaDoorRxa5
import Derived.Test.YtcoldgpnkdallaaDoorRxa6
import Derived.Test.YtcoldgpnkdallaaDoorRxa7
import Derived.Test.YtcoldgpnkdallaaDoorRxa8
import Derived.Test.YtcoldgpnkdallaaDoorRxa9
import Derived.Test.YtcoldgpnkdallaaDoorRxa10
import Derived.Test.YtcoldgpnkdallaaDoorRxa11
import Derived.Test.YtcoldgpnkdallaaDoorRxa12
import Derived.Test.YtcoldgpnkdallaaDoorRxa13
import Derived.Test.YtcoldgpnkdallaaDoorRxa14
import Derived.Test.YtcoldgpnkdallaaDoorRxa15
import Derived.Test.YtcoldgpnkdallaaDoorRxa16
import Derived.Test.YtcoldgpnkdallaaDoorRxa17
import Derived.Test.YtcoldgpnkdallaaDoorRxa18
import Derived.Test.YtcoldgpnkdallaaDoorRxa19
import Derived.Test.YtcoldgpnkdallaaDoorRxa20
import Derived.Test.YtcoldgpnkdallaaDoorRxa21
import Derived.Test.YtcoldgpnkdallaaDoorRxa22
import Derived.Test.YtcoldgpnkdallaaDoorRxa23
import Derived.Test.YtcoldgpnkdallaaDoorRxa24
import Derived.Test.YtcoldgpnkdallaaDoorRxa25
import Derived.Test.YtcoldgpnkdallaaDoorRxa26
import Derived.Test.YtcoldgpnkdallaaDoorRxa27
import Derived.Test.YtcoldgpnkdallaaDoorRxa28
import Derived.Test.YtcoldgpnkdallaaDoorRxa29
import Derived.Test.YtcoldgpnkdallaaDoorRxa30
import Derived.Test.YtcoldgpnkdallaaDoorRxa31
import Derived.Test.YtcoldgpnkdallaaDoorRxa32
import Derived.Test.YtcoldgpnkdallaaDoorRxa33
import Derived.Test.YtcoldgpnkdallaaDoorRxa34
import Derived.Test.YtcoldgpnkdallaaDoorRxa35
import Derived.Test.YtcoldgpnkdallaaDoorRxa36
import Derived.Test.YtcoldgpnkdallaaDoorRxa37
import Derived.Test.YtcoldgpnkdallaaDoorRxa39
import Derived.Test.YtcoldgpnkdallaaDoorRxa41
import Derived.Test.YtcoldgpnkdallaaDoorRxc0
namespace Go.Proofs.YtcoldgpnkdallaaDoor
open Go.RowKit
set_option linter.unusedVariables false
set_option linter.unusedSimpArgs false
theorem zero_not_right (n : Int) (a : Ad) (h : zeroP a n = true) : a.rightPrefix n = false := by
  simp only [zeroP, Bool.and_eq_true, beq_iff_eq] at h
  cases hr : a.rightPrefix n with
  | false => rfl
  | true =>
    have h1 : a.has n a = true := hr
    rw [has_iff] at h1
    have h2 := h1.1
    simp [Ad.fits, Ad.right, h.1] at h2
theorem Blk.pf' {W : World} {g : Nat} {t : TypeId} {f h l b : Int} (x : Blk W g t #[.int .i64 f, .int .u64 h, .int .u64 l, .int .i64 b]) : W.cell? ⟨g, 0, none⟩ = some (.int .i64 f) ∧ W.cell? ⟨g, 1, none⟩ = some (.int .u64 h) ∧ W.cell? ⟨g, 2, none⟩ = some (.int .u64 l) ∧ W.cell? ⟨g, 3, none⟩ = some (.int .i64 b) :=
  ⟨x.cell 0 _ rfl, x.cell 1 _ rfl, x.cell 2 _ rfl, x.cell 3 _ rfl⟩
set_option maxRecDepth 100000 in
set_option maxHeartbeats 8000000 in
theorem rwithin_any (f h l b f' h' l' b' : Int) (w : World) (ho : Ad.ok ⟨f, h, l⟩) (ho' : Ad.ok ⟨f', h', l'⟩) :
    Calls Tryd.prog 69 #[.agg #[.int .i64 f, .int .u64 h, .int .u64 l, .int .i64 b], .agg #[.int .i64 f', .int .u64 h', .int .u64 l', .int .i64 b']] w fun e w' => e = .returned (.bool (reachB ⟨f, h, l⟩ b ⟨f', h', l'⟩ b')) ∧ Below w.heap.size w w' := by
  have K2 := fun W => rrightPrefix_any f' h' l' b' W ho'
  have K3 := fun W => rhas_any f h l b f' h' l' W ho ho'
  have hz1 : (f = 0 ∧ h = 0 ∧ l = 0 ∧ b = 0) ∨ f ≠ 0 ∨ (f = 0 ∧ h ≠ 0) ∨ (f = 0 ∧ h = 0 ∧ l ≠ 0) ∨ (f = 0 ∧ h = 0 ∧ l = 0 ∧ b ≠ 0) := by omega
  have hz2 : (f' = 0 ∧ h' = 0 ∧ l' = 0 ∧ b' = 0) ∨ f' ≠ 0 ∨ (f' = 0 ∧ h' ≠ 0) ∨ (f' = 0 ∧ h' = 0 ∧ l' ≠ 0) ∨ (f' = 0 ∧ h' = 0 ∧ l' = 0 ∧ b' ≠ 0) := by omega
  have Z1 := zero_not_right b' ⟨f', h', l'⟩
  have Z2 : zeroP ⟨f, h, l⟩ b = true ↔ (f = 0 ∧ h = 0 ∧ l = 0 ∧ b = 0) := by simp [zeroP]
  have Z3 : zeroP ⟨f', h', l'⟩ b' = true ↔ (f' = 0 ∧ h' = 0 ∧ l' = 0 ∧ b' = 0) := by simp [zeroP]
  unfold reachB
  generalize Ad.has ⟨f, h, l⟩ b ⟨f', h', l'⟩ = q3 at *
  generalize Ad.rightPrefix ⟨f', h', l'⟩ b' = q2 at *
  generalize zeroP ⟨f, h, l⟩ b = z1 at *
  generalize zeroP ⟨f', h', l'⟩ b' = z2 at *
  clear ho ho'
  have bel : Below w.heap.size w ((w.alloc (.cells #[.int .i64 f, .int .u64 h, .int .u64 l, .int .i64 b] 49)).alloc (.cells #[.int .i64 f', .int .u64 h', .int .u64 l', .int .i64 b'] 49)) := bel_al (bel_nw rfl) rfl
  have ha := (blk_new w #[.int .i64 f, .int .u64 h, .int .u64 l, .int .i64 b] 49).alloc (.cells #[.int .i64 f', .int .u64 h', .int .u64 l', .int .i64 b'] 49)
  have hb := blk_new (w.alloc (.cells #[.int .i64 f, .int .u64 h, .int .u64 l, .int .i64 b] 49)) #[.int .i64 f', .int .u64 h', .int .u64 l', .int .i64 b'] 49
  rw [World.size_alloc] at hb
  rcases hz1 with hz1 | hz1
  · have e := Z2.2 hz1
    obtain ⟨rfl, rfl, rfl, rfl⟩ := hz1
    subst e
    clear Z1 Z2 Z3 hz2
    go_enter Tryd.func69, Tryd.ntmps69
    go_wp2_with fail
    all_goals (go_ret; exact ⟨by simp, bel⟩)
  have e1 : z1 = false := by
    cases z1 with
    | false => rfl
    | true => have := Z2.1 rfl; omega
  subst e1
  rcases hz2 with hz2 | hz2
  · have e := Z1 (Z3.2 hz2)
    obtain ⟨rfl, rfl, rfl, rfl⟩ := hz2
    subst e
    clear Z1 Z2 Z3 K2 K3
    rcases hz1 with hy | ⟨rfl, hy⟩ | ⟨rfl, rfl, hy⟩ | ⟨rfl, rfl, rfl, hy⟩
    all_goals go_enter Tryd.func69, Tryd.ntmps69
    all_goals go_wp2_with fail
    all_goals (go_ret; exact ⟨by simp, bel⟩)
  clear Z1 Z2 Z3
  rcases hz1 with hy | ⟨rfl, hy⟩ | ⟨rfl, rfl, hy⟩ | ⟨rfl, rfl, rfl, hy⟩
  all_goals rcases hz2 with hx | ⟨rfl, hx⟩ | ⟨rfl, rfl, hx⟩ | ⟨rfl, rfl, rfl, hx⟩
  all_goals go_enter Tryd.func69, Tryd.ntmps69
  all_goals go_wp2_with fail
  all_goals refine (K2 _).mono ?_
  all_goals rintro e W1 ⟨rfl, bb⟩
  all_goals (have ha1 := ha.kept bb; have hb1 := hb.kept bb; have bel1 := bel_tr bel bb; clear ha hb bb bel K2 hx hy)
  all_goals (obtain ⟨a0, a1, a2, a3⟩ := ha1.pf'; obtain ⟨b0, b1, b2, b3⟩ := hb1.pf')
  all_goals (cases q2; · (go_wp2_with fail; all_goals (go_ret; exact ⟨by simp, bel1⟩)))
  all_goals (cases hc : decide (b ≤ b'); · (have hc' : ¬ b ≤ b' := of_decide_eq_false hc; go_wp2_with fail; all_goals (go_ret; exact ⟨by simp [hc], bel1⟩)))
  all_goals (have hc' : b ≤ b' := of_decide_eq_true hc; go_wp2_with fail)
  all_goals refine (K3 _).mono ?_
  all_goals rintro e W2 ⟨rfl, bb⟩
  all_goals (have bel2 := bel_tr bel1 bb; clear ha1 hb1 bb bel1 K3 a0 a1 a2 a3 b0 b1 b2 b3 hc')
  all_goals go_wp2_with fail
  all_goals (go_ret; exact ⟨by simp [hc], bel2⟩)
set_option maxRecDepth 100000 in
set_option maxHeartbeats 8000000 in
theorem rhides_aux (RA KA : Array Value) (fr tz sf sh sl sn df dh dl dn pr pl ph ql qh ac he kfr ktz ksf ksh ksl ksn kdf kdh kdl kdn kpr kpl kph kql kqh kac khe : Int) (q1 q3 q4 : Bool) (w : World)
    (K1 : ∀ W, Calls Tryd.prog 43 #[.agg RA] W fun e w' => e = .returned (.bool q1) ∧ Below W.heap.size W w')
    (K3 : ∀ W, Calls Tryd.prog 69 #[.agg #[.int .i64 sf, .int .u64 sh, .int .u64 sl, .int .i64 sn], .agg #[.int .i64 ksf, .int .u64 ksh, .int .u64 ksl, .int .i64 ksn]] W fun e w' => e = .returned (.bool q3) ∧ Below W.heap.size W w') (K4 : ∀ W, Calls Tryd.prog 69 #[.agg #[.int .i64 df, .int .u64 dh, .int .u64 dl, .int .i64 dn], .agg #[.int .i64 kdf, .int .u64 kdh, .int .u64 kdl, .int .i64 kdn]] W fun e w' => e = .returned (.bool q4) ∧ Below W.heap.size W w')
    (HR : Hid (∀ (W : World) (g : Nat) (t : TypeId), Blk W g t RA → W.cell? ⟨g, 0, none⟩ = some (.int .i64 fr) ∧ W.cell? ⟨g, 1, none⟩ = some (.int .i64 tz) ∧ W.cell? ⟨g, 2, none⟩ = some (.int .i64 sf) ∧ W.cell? ⟨g, 3, none⟩ = some (.int .u64 sh) ∧ W.cell? ⟨g, 4, none⟩ = some (.int .u64 sl) ∧ W.cell? ⟨g, 5, none⟩ = some (.int .i64 sn) ∧ W.cell? ⟨g, 6, none⟩ = some (.int .i64 df) ∧ W.cell? ⟨g, 7, none⟩ = some (.int .u64 dh) ∧ W.cell? ⟨g, 8, none⟩ = some (.int .u64 dl) ∧ W.cell? ⟨g, 9, none⟩ = some (.int .i64 dn) ∧ W.cell? ⟨g, 10, none⟩ = some (.int .i64 pr) ∧ W.cell? ⟨g, 11, none⟩ = some (.int .i64 pl) ∧ W.cell? ⟨g, 12, none⟩ = some (.int .i64 ph) ∧ W.cell? ⟨g, 13, none⟩ = some (.int .i64 ql) ∧ W.cell? ⟨g, 14, none⟩ = some (.int .i64 qh) ∧ W.cell? ⟨g, 15, none⟩ = some (.int .i64 ac) ∧ W.cell? ⟨g, 16, none⟩ = some (.int .i64 he)))
    (HK : Hid (∀ (W : World) (g : Nat) (t : TypeId), Blk W g t KA → W.cell? ⟨g, 0, none⟩ = some (.int .i64 kfr) ∧ W.cell? ⟨g, 1, none⟩ = some (.int .i64 ktz) ∧ W.cell? ⟨g, 2, none⟩ = some (.int .i64 ksf) ∧ W.cell? ⟨g, 3, none⟩ = some (.int .u64 ksh) ∧ W.cell? ⟨g, 4, none⟩ = some (.int .u64 ksl) ∧ W.cell? ⟨g, 5, none⟩ = some (.int .i64 ksn) ∧ W.cell? ⟨g, 6, none⟩ = some (.int .i64 kdf) ∧ W.cell? ⟨g, 7, none⟩ = some (.int .u64 kdh) ∧ W.cell? ⟨g, 8, none⟩ = some (.int .u64 kdl) ∧ W.cell? ⟨g, 9, none⟩ = some (.int .i64 kdn) ∧ W.cell? ⟨g, 10, none⟩ = some (.int .i64 kpr) ∧ W.cell? ⟨g, 11, none⟩ = some (.int .i64 kpl) ∧ W.cell? ⟨g, 12, none⟩ = some (.int .i64 kph) ∧ W.cell? ⟨g, 13, none⟩ = some (.int .i64 kql) ∧ W.cell? ⟨g, 14, none⟩ = some (.int .i64 kqh) ∧ W.cell? ⟨g, 15, none⟩ = some (.int .i64 kac) ∧ W.cell? ⟨g, 16, none⟩ = some (.int .i64 khe)))
    (hs1 : (Tryd.prog.info? 53).map (·.size) = some RA.size) (hs2 : (Tryd.prog.info? 53).map (·.size) = some KA.size) :
    Calls Tryd.prog 45 #[.agg RA, .agg KA] w fun e w' => e = .returned (.bool (q1 && ((decide (fr < 0) || fr == kfr) && ((decide (tz < 0) || tz == ktz) && (q3 && (q4 && ((pr == 0 || pr == kpr) && (decide (pl ≤ kpl) && (decide (kph ≤ ph) && (decide (ql ≤ kql) && decide (kqh ≤ qh))))))))))) ∧ Below w.heap.size w w' := by
  have bel : Below w.heap.size w ((w.alloc (.cells RA 53)).alloc (.cells KA 53)) := bel_al (bel_nw rfl) rfl
  have hr := (blk_new w RA 53).alloc (.cells KA 53)
  have hk := blk_new (w.alloc (.cells RA 53)) KA 53
  rw [World.size_alloc] at hk
  obtain ⟨r0, r1, r2, r3, r4, r5, r6, r7, r8, r9, r10, r11, r12, r13, r14, r15, r16⟩ := HR.out _ _ _ hr
  obtain ⟨k0, k1, k2, k3, k4, k5, k6, k7, k8, k9, k10, k11, k12, k13, k14, k15, k16⟩ := HK.out _ _ _ hk
  go_enter Tryd.func45, Tryd.ntmps45
  all_goals (
    go_upto_region 1 with fail
    simp only [List.append_eq, List.cons_append, List.nil_append])
  all_goals (
    go_wp2_with (first | (refine wpList_load_at_w rfl _ _ rfl _ 0 (by rfl) _ hr.at_ Tryd.underlying53 hs1 ?_))
    refine (K1 _).mono ?_
    rintro e W1 ⟨rfl, bb⟩
    have hr' := hr.kept bb
    have hk' := hk.kept bb
    have bel1 := bel_tr bel bb
    clear r0 r1 r2 r3 r4 r5 r6 r7 r8 r9 r10 r11 r12 r13 r14 r15 r16 k0 k1 k2 k3 k4 k5 k6 k7 k8 k9 k10 k11 k12 k13 k14 k15 k16 hr hk bb bel
    have hr := hr'
    clear hr'
    have hk := hk'
    clear hk'
    obtain ⟨r0, r1, r2, r3, r4, r5, r6, r7, r8, r9, r10, r11, r12, r13, r14, r15, r16⟩ := HR.out _ _ _ hr
    obtain ⟨k0, k1, k2, k3, k4, k5, k6, k7, k8, k9, k10, k11, k12, k13, k14, k15, k16⟩ := HK.out _ _ _ hk
    cases q1
    · go_wp2_with fail
      all_goals (go_ret; exact ⟨by first | (simp; done) | (simp [*]; done) | simp_all, bel1⟩))
  all_goals (
    by_cases hp2 : fr < 0
    rotate_left
    have ep2 : decide (fr < 0) = false := by simpa using hp2
    replace hp2 := Int.not_lt.1 hp2
    by_cases hq2 : fr = kfr
    rotate_left
    · have eq2 : ((fr) == (kfr)) = false := by simpa using hq2
      go_wp2_with fail
      all_goals (go_ret; exact ⟨by first | (simp; done) | (simp [*]; done) | simp_all, bel1⟩)
    rotate_left
    have eq2 : ((fr) == (kfr)) = true := by simpa using hq2
    rotate_left
    have ep2 : decide (fr < 0) = true := by simpa using hp2)
  all_goals (
    by_cases hp3 : tz < 0
    rotate_left
    have ep3 : decide (tz < 0) = false := by simpa using hp3
    replace hp3 := Int.not_lt.1 hp3
    by_cases hq3 : tz = ktz
    rotate_left
    · have eq3 : ((tz) == (ktz)) = false := by simpa using hq3
      go_wp2_with fail
      all_goals (go_ret; exact ⟨by first | (simp; done) | (simp [*]; done) | simp_all, bel1⟩)
    rotate_left
    have eq3 : ((tz) == (ktz)) = true := by simpa using hq3
    rotate_left
    have ep3 : decide (tz < 0) = true := by simpa using hp3)
  all_goals (
    go_wp2_with fail
    refine (K3 _).mono ?_
    rintro e W2 ⟨rfl, bb⟩
    have hr' := hr.kept bb
    have hk' := hk.kept bb
    have bel2 := bel_tr bel1 bb
    clear r0 r1 r2 r3 r4 r5 r6 r7 r8 r9 r10 r11 r12 r13 r14 r15 r16 k0 k1 k2 k3 k4 k5 k6 k7 k8 k9 k10 k11 k12 k13 k14 k15 k16 hr hk bb bel1
    have hr := hr'
    clear hr'
    have hk := hk'
    clear hk'
    obtain ⟨r0, r1, r2, r3, r4, r5, r6, r7, r8, r9, r10, r11, r12, r13, r14, r15, r16⟩ := HR.out _ _ _ hr
    obtain ⟨k0, k1, k2, k3, k4, k5, k6, k7, k8, k9, k10, k11, k12, k13, k14, k15, k16⟩ := HK.out _ _ _ hk
    cases q3
    · go_wp2_with fail
      all_goals (go_ret; exact ⟨by first | (simp; done) | (simp [*]; done) | simp_all, bel2⟩))
  all_goals (
    go_wp2_with fail
    refine (K4 _).mono ?_
    rintro e W3 ⟨rfl, bb⟩
    have hr' := hr.kept bb
    have hk' := hk.kept bb
    have bel3 := bel_tr bel2 bb
    clear r0 r1 r2 r3 r4 r5 r6 r7 r8 r9 r10 r11 r12 r13 r14 r15 r16 k0 k1 k2 k3 k4 k5 k6 k7 k8 k9 k10 k11 k12 k13 k14 k15 k16 hr hk bb bel2
    have hr := hr'
    clear hr'
    have hk := hk'
    clear hk'
    obtain ⟨r0, r1, r2, r3, r4, r5, r6, r7, r8, r9, r10, r11, r12, r13, r14, r15, r16⟩ := HR.out _ _ _ hr
    obtain ⟨k0, k1, k2, k3, k4, k5, k6, k7, k8, k9, k10, k11, k12, k13, k14, k15, k16⟩ := HK.out _ _ _ hk
    cases q4
    · go_wp2_with fail
      all_goals (go_ret; exact ⟨by first | (simp; done) | (simp [*]; done) | simp_all, bel3⟩))
  all_goals (
    by_cases hp6 : pr = 0
    rotate_left
    have ep6 : ((pr) == (0)) = false := by simpa using hp6
    by_cases hq6 : pr = kpr
    rotate_left
    · have eq6 : ((pr) == (kpr)) = false := by simpa using hq6
      go_wp2_with fail
      all_goals (go_ret; exact ⟨by first | (simp; done) | (simp [*]; done) | simp_all, bel3⟩)
    rotate_left
    have eq6 : ((pr) == (kpr)) = true := by simpa using hq6
    rotate_left
    have ep6 : ((pr) == (0)) = true := by simpa using hp6)
  all_goals (
    by_cases hc7 : pl ≤ kpl
    rotate_left
    · have ec7 : decide (pl ≤ kpl) = false := by simpa using hc7
      replace hc7 := Int.not_le.1 hc7
      go_wp2_with fail
      all_goals (go_ret; exact ⟨by first | (simp; done) | (simp [*]; done) | simp_all, bel3⟩)
    have ec7 : decide (pl ≤ kpl) = true := by simpa using hc7)
  all_goals (
    by_cases hc8 : kph ≤ ph
    rotate_left
    · have ec8 : decide (kph ≤ ph) = false := by simpa using hc8
      replace hc8 := Int.not_le.1 hc8
      go_wp2_with fail
      all_goals (go_ret; exact ⟨by first | (simp; done) | (simp [*]; done) | simp_all, bel3⟩)
    have ec8 : decide (kph ≤ ph) = true := by simpa using hc8)
  all_goals (
    by_cases hc9 : ql ≤ kql
    rotate_left
    · have ec9 : decide (ql ≤ kql) = false := by simpa using hc9
      replace hc9 := Int.not_le.1 hc9
      go_wp2_with fail
      all_goals (go_ret; exact ⟨by first | (simp; done) | (simp [*]; done) | simp_all, bel3⟩)
    have ec9 : decide (ql ≤ kql) = true := by simpa using hc9)
  all_goals (
    by_cases hc10 : kqh ≤ qh
    rotate_left
    · have ec10 : decide (kqh ≤ qh) = false := by simpa using hc10
      replace hc10 := Int.not_le.1 hc10
      go_wp2_with fail
      all_goals (go_ret; exact ⟨by first | (simp; done) | (simp [*]; done) | simp_all, bel3⟩)
    have ec10 : decide (kqh ≤ qh) = true := by simpa using hc10
    go_wp2_with fail
    all_goals (go_ret; exact ⟨by first | (simp; done) | (simp [*]; done) | simp_all, bel3⟩))
theorem rhides_any (r k : Rl) (w : World) (ho : r.ok) (ko : k.ok) :
    Calls Tryd.prog 45 #[.agg r.v, .agg k.v] w fun e w' => e = .returned (.bool (r.hides k)) ∧ Below w.heap.size w w' := by
  have K1 := fun W => rrightRule_any r W ho
  unfold Rl.hides Rl.wider
  exact rhides_aux r.v k.v r.fr r.tz r.s.fam r.s.hi r.s.lo r.sn r.d.fam r.d.hi r.d.lo r.dn r.pr r.sl r.sh r.dl r.dh r.ac r.he k.fr k.tz k.s.fam k.s.hi k.s.lo k.sn k.d.fam k.d.hi k.d.lo k.dn k.pr k.sl k.sh k.dl k.dh k.ac k.he _ _ _ w K1 (fun W => rwithin_any _ _ _ _ _ _ _ _ W ho.s ko.s) (fun W => rwithin_any _ _ _ _ _ _ _ _ W ho.d ko.d) (fun W g t h => h.rl) (fun W g t h => h.rl) (info_rl r) (info_rl k)
end Go.Proofs.YtcoldgpnkdallaaDoor
