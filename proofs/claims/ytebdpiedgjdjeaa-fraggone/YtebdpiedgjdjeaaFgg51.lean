/- Texts joined: FiO -/
import Derived.Test.YtebdpiedgjdjeaaFgg11
namespace Go.Proofs.Ytebdpiedgjdjeaa
open Go.RowKit
set_option linter.unusedVariables false
set_option linter.unusedSimpArgs false
set_option maxRecDepth 100000 in
set_option maxHeartbeats 4000000 in
theorem same_ip6 (f sf sh sl df dh dl pr ho : Int) (fg : Bool) (id of : Int) (mo : Bool) (xa : Option Addr) (xc : Nat) (ya : Option Addr) (yc : Nat) (E : List Int) (a : Option Addr) (c : Nat) (b : Option Addr) (d : Nat) (l : List Int) (w : World) (ha : Row w a l) (hb : Row w b l) (hx : RowI w xa E) (hy : RowI w ya E) :
    Calls Try.prog 19 #[.agg #[.int .i64 f, .int .i64 sf, .int .u64 sh, .int .u64 sl, .int .i64 df, .int .u64 dh, .int .u64 dl, .int .i64 pr, .int .i64 ho, .bool fg, .int .u32 id, .int .i64 of, .bool mo, .slice xa E.length xc, .slice a l.length c], .agg #[.int .i64 f, .int .i64 sf, .int .u64 sh, .int .u64 sl, .int .i64 df, .int .u64 dh, .int .u64 dl, .int .i64 pr, .int .i64 ho, .bool fg, .int .u32 id, .int .i64 of, .bool mo, .slice ya E.length yc, .slice b l.length d]] w fun e w' => e = .returned (.bool true) ∧ Below w.heap.size w w' := by
  obtain ⟨W1, hW1⟩ : ∃ W1, (w.alloc (.cells #[.int .i64 f, .int .i64 sf, .int .u64 sh, .int .u64 sl, .int .i64 df, .int .u64 dh, .int .u64 dl, .int .i64 pr, .int .i64 ho, .bool fg, .int .u32 id, .int .i64 of, .bool mo, .slice xa E.length xc, .slice a l.length c] 42)).alloc (.cells #[.int .i64 f, .int .i64 sf, .int .u64 sh, .int .u64 sl, .int .i64 df, .int .u64 dh, .int .u64 dl, .int .i64 pr, .int .i64 ho, .bool fg, .int .u32 id, .int .i64 of, .bool mo, .slice ya E.length yc, .slice b l.length d] 42) = W1 := ⟨_, rfl⟩
  have bq : Below (w.alloc (.cells #[.int .i64 f, .int .i64 sf, .int .u64 sh, .int .u64 sl, .int .i64 df, .int .u64 dh, .int .u64 dl, .int .i64 pr, .int .i64 ho, .bool fg, .int .u32 id, .int .i64 of, .bool mo, .slice xa E.length xc, .slice a l.length c] 42)).heap.size (w.alloc (.cells #[.int .i64 f, .int .i64 sf, .int .u64 sh, .int .u64 sl, .int .i64 df, .int .u64 dh, .int .u64 dl, .int .i64 pr, .int .i64 ho, .bool fg, .int .u32 id, .int .i64 of, .bool mo, .slice xa E.length xc, .slice a l.length c] 42)) W1 := by rw [← hW1]; exact (Below.refl _ _).alloc (Nat.le_refl _) _
  have BB : Hid (Below w.heap.size w W1) := ((Below.refl _ _).alloc (Nat.le_refl _) _).trans (bq.mono (by simp))
  have sP : SIp W1 w.heap.size (.int .i64 f) (.int .i64 sf) (.int .u64 sh) (.int .u64 sl) (.int .i64 df) (.int .u64 dh) (.int .u64 dl) (.int .i64 pr) (.int .i64 ho) (.bool fg) (.int .u32 id) (.int .i64 of) (.bool mo) (.slice xa E.length xc) (.slice a l.length c) := (sIp_new w _ _ _ _ _ _ _ _ _ _ _ _ _ _ _).below (by simp) bq
  have sQ : SIp W1 (w.heap.size + 1) (.int .i64 f) (.int .i64 sf) (.int .u64 sh) (.int .u64 sl) (.int .i64 df) (.int .u64 dh) (.int .u64 dl) (.int .i64 pr) (.int .i64 ho) (.bool fg) (.int .u32 id) (.int .i64 of) (.bool mo) (.slice ya E.length yc) (.slice b l.length d) := by
    have := sIp_new (w.alloc (.cells #[.int .i64 f, .int .i64 sf, .int .u64 sh, .int .u64 sl, .int .i64 df, .int .u64 dh, .int .u64 dl, .int .i64 pr, .int .i64 ho, .bool fg, .int .u32 id, .int .i64 of, .bool mo, .slice xa E.length xc, .slice a l.length c] 42)) (.int .i64 f) (.int .i64 sf) (.int .u64 sh) (.int .u64 sl) (.int .i64 df) (.int .u64 dh) (.int .u64 dl) (.int .i64 pr) (.int .i64 ho) (.bool fg) (.int .u32 id) (.int .i64 of) (.bool mo) (.slice ya E.length yc) (.slice b l.length d)
    rw [hW1] at this
    simpa using this
  have lt1 : w.heap.size + 1 < W1.heap.size := World.block_lt_of_cell? W1 _ sQ.c0
  have HA : Hid _ := ha.below BB.out
  have HB : Hid _ := hb.below BB.out
  have HX : Hid _ := hx.below BB.out
  have HY : Hid _ := hy.below BB.out
  obtain ⟨N, hN⟩ : ∃ N, E.length = N := ⟨_, rfl⟩
  have HN : Hid (E.length = N) := hN
  have hs : N ≤ 17592186044416 := by rw [← hN]; exact hx.small
  rw [hN] at sP sQ hW1 ⊢
  have HP : Hid _ := sP
  have HQ : Hid _ := sQ
  have HW1 : Hid (_ = W1) := hW1
  clear ha hb hx hy bq hN
  obtain ⟨p0, p1, p2, p3, p4, p5, p6, p7, p8, p9, p10, p11, p12, p13, p14⟩ := sP
  obtain ⟨q0, q1, q2, q3, q4, q5, q6, q7, q8, q9, q10, q11, q12, q13, q14⟩ := sQ
  go_enter Try.func19, Try.ntmps19
  go_wp2
  go_loopw [5] (fun i w' => ∃ (k m : Nat), k ≤ N ∧ i = .int .i64 k ∧ w' = W1.drewN m) (fun i _ => N - (intOf i).toNat)
  case atStart => exact ⟨0, 0, Nat.zero_le _, rfl, rfl⟩
  case round =>
    obtain ⟨k, m, hk, rfl, rfl⟩ := hrel
    clear p0 p1 p2 p3 p4 p5 p6 p7 p8 p9 p10 p11 p12 p13 p14 q0 q1 q2 q3 q4 q5 q6 q7 q8 q9 q10 q11 q12 q13 q14 hW1
    have bm : Below W1.heap.size W1 (W1.drewN m) := below_drewN (Below.refl _ _) m
    obtain ⟨p0, p1, p2, p3, p4, p5, p6, p7, p8, p9, p10, p11, p12, p13, p14⟩ := HP.out.below (Nat.lt_of_succ_lt lt1) bm
    obtain ⟨q0, q1, q2, q3, q4, q5, q6, q7, q8, q9, q10, q11, q12, q13, q14⟩ := HQ.out.below lt1 bm
    by_cases hlt : k < N
    · obtain ⟨b1, off, rfl, hcl⟩ := (HX.out.drewN m).cells (by have := HN.out; omega)
      obtain ⟨b2, off', rfl, hcl'⟩ := (HY.out.drewN m).cells (by have := HN.out; omega)
      have c0 := hcl k (by have := HN.out; omega)
      have c1 := hcl' k (by have := HN.out; omega)
      have hlk : (k : Int) < (N : Int) := by omega
      obtain ⟨W, hW⟩ : ∃ W, W1.drewN m = W := ⟨_, rfl⟩
      rw [hW] at p0 p1 p2 p3 p4 p5 p6 p7 p8 p9 p10 p11 p12 p13 p14 q0 q1 q2 q3 q4 q5 q6 q7 q8 q9 q10 q11 q12 q13 q14 c0 c1 ⊢
      have HW : Hid (W1.drewN m = W) := hW
      clear hcl hcl' hW bm
      generalize E.getD k 0 = x at *
      have hxx : (x != x) = false := by simp
      go_wp2
      go_quiet (fail)
      go_wp2
      exact ⟨⟨k + 1, m + nq, by omega, int_eq (by omega), by rw [← HW.out]; exact drewN_add W1 m nq⟩, by simp [intOf]; omega⟩
    · have hlk : ¬ (k : Int) < (N : Int) := by omega
      have KK : Hid _ := same_any a b c d l (W1.drewN m) (HA.out.below bm) (HB.out.below bm)
      have BM : Hid (Below w.heap.size w (W1.drewN m)) := BB.out.trans (bm.mono BB.out.size)
      generalize W1.drewN m = W at *
      clear bm
      go_wp2_with fail
      refine Calls.mono KK.out ?_
      rintro e w' ⟨rfl, rfl⟩
      go_wp2
      go_ret
      exact ⟨rfl, BM.out⟩
end Go.Proofs.Ytebdpiedgjdjeaa
