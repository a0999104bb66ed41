/- The document: which rule takes which key. -/
import Derived.Test.YtmlddgmkbbaccaaFrB
import Derived.Test.YtmlddgmkbbaccaaFrS
namespace Go.Proofs.Ytmlddgmkbbaccaa
open Go.RowKit
set_option linter.unusedVariables false
set_option linter.unusedSimpArgs false
set_option maxRecDepth 100000 in
set_option maxHeartbeats 8000000 in
theorem rtakes_aux (RA KA : Array Value) (fr tz sf sh sl sn df dh dl dn pr pl ph ql qh ac he kfr ktz ksf ksh ksl kdf kdh kdl kpr sp dp : Int) (q1 q2 q3 q4 q5 q6 : Bool) (w : World)
    (K1 : ∀ W, Calls Try.prog 12 #[.agg RA] W fun e w' => e = .returned (.bool q1) ∧ Below W.heap.size W w') (K2 : ∀ W, Calls Try.prog 10 #[.agg KA] W fun e w' => e = .returned (.bool q2) ∧ Below W.heap.size W w')
    (K3 : ∀ W, Calls Try.prog 31 #[.agg #[.int .i64 sf, .int .u64 sh, .int .u64 sl, .int .i64 sn], .agg #[.int .i64 ksf, .int .u64 ksh, .int .u64 ksl]] W fun e w' => e = .returned (.bool q3) ∧ Below W.heap.size W w') (K4 : ∀ W, Calls Try.prog 31 #[.agg #[.int .i64 df, .int .u64 dh, .int .u64 dl, .int .i64 dn], .agg #[.int .i64 kdf, .int .u64 kdh, .int .u64 kdl]] W fun e w' => e = .returned (.bool q4) ∧ Below W.heap.size W w')
    (K5 : ∀ W, Calls Try.prog 23 #[.int .i64 sp, .int .i64 pl, .int .i64 ph] W fun e w' => e = .returned (.bool q5) ∧ w' = W) (K6 : ∀ W, Calls Try.prog 23 #[.int .i64 dp, .int .i64 ql, .int .i64 qh] W fun e w' => e = .returned (.bool q6) ∧ w' = W)
    (HR : Hid (∀ (W : World) (g : Nat) (t : TypeId), Blk W g t RA → W.cell? ⟨g, 0, none⟩ = some (.int .i64 fr) ∧ W.cell? ⟨g, 1, none⟩ = some (.int .i64 tz) ∧ W.cell? ⟨g, 2, none⟩ = some (.int .i64 sf) ∧ W.cell? ⟨g, 3, none⟩ = some (.int .u64 sh) ∧ W.cell? ⟨g, 4, none⟩ = some (.int .u64 sl) ∧ W.cell? ⟨g, 5, none⟩ = some (.int .i64 sn) ∧ W.cell? ⟨g, 6, none⟩ = some (.int .i64 df) ∧ W.cell? ⟨g, 7, none⟩ = some (.int .u64 dh) ∧ W.cell? ⟨g, 8, none⟩ = some (.int .u64 dl) ∧ W.cell? ⟨g, 9, none⟩ = some (.int .i64 dn) ∧ W.cell? ⟨g, 10, none⟩ = some (.int .i64 pr) ∧ W.cell? ⟨g, 11, none⟩ = some (.int .i64 pl) ∧ W.cell? ⟨g, 12, none⟩ = some (.int .i64 ph) ∧ W.cell? ⟨g, 13, none⟩ = some (.int .i64 ql) ∧ W.cell? ⟨g, 14, none⟩ = some (.int .i64 qh) ∧ W.cell? ⟨g, 15, none⟩ = some (.int .i64 ac) ∧ W.cell? ⟨g, 16, none⟩ = some (.int .i64 he)))
    (HK : Hid (∀ (W : World) (g : Nat) (t : TypeId), Blk W g t KA → W.cell? ⟨g, 0, none⟩ = some (.int .i64 kfr) ∧ W.cell? ⟨g, 1, none⟩ = some (.int .i64 ktz) ∧ W.cell? ⟨g, 2, none⟩ = some (.int .i64 ksf) ∧ W.cell? ⟨g, 3, none⟩ = some (.int .u64 ksh) ∧ W.cell? ⟨g, 4, none⟩ = some (.int .u64 ksl) ∧ W.cell? ⟨g, 5, none⟩ = some (.int .i64 kdf) ∧ W.cell? ⟨g, 6, none⟩ = some (.int .u64 kdh) ∧ W.cell? ⟨g, 7, none⟩ = some (.int .u64 kdl) ∧ W.cell? ⟨g, 8, none⟩ = some (.int .i64 kpr) ∧ W.cell? ⟨g, 9, none⟩ = some (.int .i64 sp) ∧ W.cell? ⟨g, 10, none⟩ = some (.int .i64 dp)))
    (hs1 : (Try.prog.info? 30).map (·.size) = some RA.size) (hs2 : (Try.prog.info? 32).map (·.size) = some KA.size) :
    Calls Try.prog 14 #[.agg RA, .agg KA] w fun e w' => e = .returned (.bool (q1 && (q2 && ((decide (fr < 0) || fr == kfr) && ((decide (tz < 0) || tz == ktz) && (q3 && (q4 && ((pr == 0 || pr == kpr) && (q5 && q6))))))))) ∧ Below w.heap.size w w' := by
  have bel : Below w.heap.size w ((w.alloc (.cells RA 30)).alloc (.cells KA 32)) := bel_al (bel_nw rfl) rfl
  have hr := (blk_new w RA 30).alloc (.cells KA 32)
  have hk := blk_new (w.alloc (.cells RA 30)) KA 32
  rw [World.size_alloc] at hk
  obtain ⟨r0, r1, r2, r3, r4, r5, r6, r7, r8, r9, r10, r11, r12, r13, r14, r15, r16⟩ := HR.out _ _ _ hr
  obtain ⟨k0, k1, k2, k3, k4, k5, k6, k7, k8, k9, k10⟩ := HK.out _ _ _ hk
  go_enter Try.func14, Try.ntmps14
  all_goals (
    go_wp2_with (first | (refine wpList_load_at_w rfl _ _ rfl _ 0 (by rfl) _ hr.at_ Try.underlying30 hs1 ?_) | (refine wpList_load_at_w rfl _ _ rfl _ 0 (by rfl) _ hk.at_ Try.underlying32 hs2 ?_))
    refine (K1 _).mono ?_
    rintro e W1 ⟨rfl, bb⟩
    have hr' := hr.kept bb
    have hk' := hk.kept bb
    have bel1 := bel_tr bel bb
    clear r0 r1 r2 r3 r4 r5 r6 r7 r8 r9 r10 r11 r12 r13 r14 r15 r16 k0 k1 k2 k3 k4 k5 k6 k7 k8 k9 k10 hr hk bb bel
    have hr := hr'
    clear hr'
    have hk := hk'
    clear hk'
    obtain ⟨r0, r1, r2, r3, r4, r5, r6, r7, r8, r9, r10, r11, r12, r13, r14, r15, r16⟩ := HR.out _ _ _ hr
    obtain ⟨k0, k1, k2, k3, k4, k5, k6, k7, k8, k9, k10⟩ := HK.out _ _ _ hk
    cases q1
    · go_wp2_with (first | (refine wpList_load_at_w rfl _ _ rfl _ 0 (by rfl) _ hr.at_ Try.underlying30 hs1 ?_) | (refine wpList_load_at_w rfl _ _ rfl _ 0 (by rfl) _ hk.at_ Try.underlying32 hs2 ?_))
      all_goals (go_ret; exact ⟨by first | (simp; done) | (simp [*]; done) | simp_all, bel1⟩))
  all_goals (
    go_wp2_with (first | (refine wpList_load_at_w rfl _ _ rfl _ 0 (by rfl) _ hr.at_ Try.underlying30 hs1 ?_) | (refine wpList_load_at_w rfl _ _ rfl _ 0 (by rfl) _ hk.at_ Try.underlying32 hs2 ?_))
    refine (K2 _).mono ?_
    rintro e W2 ⟨rfl, bb⟩
    have hr' := hr.kept bb
    have hk' := hk.kept bb
    have bel2 := bel_tr bel1 bb
    clear r0 r1 r2 r3 r4 r5 r6 r7 r8 r9 r10 r11 r12 r13 r14 r15 r16 k0 k1 k2 k3 k4 k5 k6 k7 k8 k9 k10 hr hk bb bel1
    have hr := hr'
    clear hr'
    have hk := hk'
    clear hk'
    obtain ⟨r0, r1, r2, r3, r4, r5, r6, r7, r8, r9, r10, r11, r12, r13, r14, r15, r16⟩ := HR.out _ _ _ hr
    obtain ⟨k0, k1, k2, k3, k4, k5, k6, k7, k8, k9, k10⟩ := HK.out _ _ _ hk
    cases q2
    · go_wp2_with (first | (refine wpList_load_at_w rfl _ _ rfl _ 0 (by rfl) _ hr.at_ Try.underlying30 hs1 ?_) | (refine wpList_load_at_w rfl _ _ rfl _ 0 (by rfl) _ hk.at_ Try.underlying32 hs2 ?_))
      all_goals (go_ret; exact ⟨by first | (simp; done) | (simp [*]; done) | simp_all, bel2⟩))
  all_goals (
    go_upto_region 3 with (first | (refine wpList_load_at_w rfl _ _ rfl _ 0 (by rfl) _ hr.at_ Try.underlying30 hs1 ?_) | (refine wpList_load_at_w rfl _ _ rfl _ 0 (by rfl) _ hk.at_ Try.underlying32 hs2 ?_))
    simp only [List.append_eq, List.cons_append, List.nil_append])
  all_goals (
    by_cases hp3 : fr < 0
    rotate_left
    have ep3 : decide (fr < 0) = false := by simpa using hp3
    replace hp3 := Int.not_lt.1 hp3
    by_cases hq3 : fr = kfr
    rotate_left
    · have eq3 : ((fr) == (kfr)) = false := by simpa using hq3
      go_wp2_with fail
      all_goals (go_ret; exact ⟨by first | (simp; done) | (simp [*]; done) | simp_all, bel2⟩)
    rotate_left
    have eq3 : ((fr) == (kfr)) = true := by simpa using hq3
    rotate_left
    have ep3 : decide (fr < 0) = true := by simpa using hp3)
  all_goals (
    by_cases hp4 : tz < 0
    rotate_left
    have ep4 : decide (tz < 0) = false := by simpa using hp4
    replace hp4 := Int.not_lt.1 hp4
    by_cases hq4 : tz = ktz
    rotate_left
    · have eq4 : ((tz) == (ktz)) = false := by simpa using hq4
      go_wp2_with fail
      all_goals (go_ret; exact ⟨by first | (simp; done) | (simp [*]; done) | simp_all, bel2⟩)
    rotate_left
    have eq4 : ((tz) == (ktz)) = true := by simpa using hq4
    rotate_left
    have ep4 : decide (tz < 0) = true := by simpa using hp4)
  all_goals (
    go_wp2_with fail
    refine (K3 _).mono ?_
    rintro e W3 ⟨rfl, bb⟩
    have hr' := hr.kept bb
    have hk' := hk.kept bb
    have bel3 := bel_tr bel2 bb
    clear r0 r1 r2 r3 r4 r5 r6 r7 r8 r9 r10 r11 r12 r13 r14 r15 r16 k0 k1 k2 k3 k4 k5 k6 k7 k8 k9 k10 hr hk bb bel2
    have hr := hr'
    clear hr'
    have hk := hk'
    clear hk'
    obtain ⟨r0, r1, r2, r3, r4, r5, r6, r7, r8, r9, r10, r11, r12, r13, r14, r15, r16⟩ := HR.out _ _ _ hr
    obtain ⟨k0, k1, k2, k3, k4, k5, k6, k7, k8, k9, k10⟩ := HK.out _ _ _ hk
    cases q3
    · go_wp2_with fail
      all_goals (go_ret; exact ⟨by first | (simp; done) | (simp [*]; done) | simp_all, bel3⟩))
  all_goals (
    go_wp2_with fail
    refine (K4 _).mono ?_
    rintro e W4 ⟨rfl, bb⟩
    have hr' := hr.kept bb
    have hk' := hk.kept bb
    have bel4 := bel_tr bel3 bb
    clear r0 r1 r2 r3 r4 r5 r6 r7 r8 r9 r10 r11 r12 r13 r14 r15 r16 k0 k1 k2 k3 k4 k5 k6 k7 k8 k9 k10 hr hk bb bel3
    have hr := hr'
    clear hr'
    have hk := hk'
    clear hk'
    obtain ⟨r0, r1, r2, r3, r4, r5, r6, r7, r8, r9, r10, r11, r12, r13, r14, r15, r16⟩ := HR.out _ _ _ hr
    obtain ⟨k0, k1, k2, k3, k4, k5, k6, k7, k8, k9, k10⟩ := HK.out _ _ _ hk
    cases q4
    · go_wp2_with fail
      all_goals (go_ret; exact ⟨by first | (simp; done) | (simp [*]; done) | simp_all, bel4⟩))
  all_goals (
    by_cases hp7 : pr = 0
    rotate_left
    have ep7 : ((pr) == (0)) = false := by simpa using hp7
    by_cases hq7 : pr = kpr
    rotate_left
    · have eq7 : ((pr) == (kpr)) = false := by simpa using hq7
      go_wp2_with fail
      all_goals (go_ret; exact ⟨by first | (simp; done) | (simp [*]; done) | simp_all, bel4⟩)
    rotate_left
    have eq7 : ((pr) == (kpr)) = true := by simpa using hq7
    rotate_left
    have ep7 : ((pr) == (0)) = true := by simpa using hp7)
  all_goals (
    go_wp2_with fail
    refine (K5 _).mono ?_
    rintro e _ ⟨rfl, rfl⟩
    cases q5
    · go_wp2_with fail
      all_goals (go_ret; exact ⟨by first | (simp; done) | (simp [*]; done) | simp_all, bel4⟩))
  all_goals (
    go_wp2_with fail
    refine (K6 _).mono ?_
    rintro e _ ⟨rfl, rfl⟩
    go_wp2_with fail
    all_goals (go_ret; exact ⟨by first | (simp; done) | (simp [*]; done) | simp_all, bel4⟩))
theorem rtakes_any (r : Rl) (k : Ky) (w : World) (ho : r.ok) (ko : k.ok) :
    Calls Try.prog 14 #[.agg r.v, .agg k.v] w fun e w' => e = .returned (.bool (r.takes k)) ∧ Below w.heap.size w w' := by
  have K1 := fun W => rrightRule_any r W ho
  have K2 := fun W => rrightKey_any k W ko
  unfold Rl.takes Rl.asks
  have h1 := info_rl r
  have h2 := info_ky k
  exact rtakes_aux r.v k.v r.fr r.tz r.s.fam r.s.hi r.s.lo r.sn r.d.fam r.d.hi r.d.lo r.dn r.pr r.sl r.sh r.dl r.dh r.ac r.he k.fr k.tz k.s.fam k.s.hi k.s.lo k.d.fam k.d.hi k.d.lo k.pr k.sp k.dp _ _ _ _ _ _ w K1 K2 (fun W => hasR_any _ _ _ _ _ _ _ W ho.s ko.s) (fun W => hasR_any _ _ _ _ _ _ _ W ho.d ko.d) (in_any _ _ _) (in_any _ _ _) (fun W g t h => h.rl) (fun W g t h => h.ky) h1 h2
end Go.Proofs.Ytmlddgmkbbaccaa
