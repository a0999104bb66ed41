/- A packet's value in a block; whether a packet may be built. -/
import Derived.Test.YtpcdmjjlgoeglaaIp4Q
import Derived.Deep.DeepCutAuto
namespace Go.Proofs.Ytpcdmjjlgoeglaa
open Go.RowKit
set_option linter.unusedVariables false
set_option linter.unusedSimpArgs false

theorem ret_bool {a b : Bool} (h : a = b) : Ending.returned (.bool a) = .returned (.bool b) := by rw [h]
set_option maxHeartbeats 400000 in
theorem fits_any (f h l : Int) (w : World) :
    Calls Try.prog 35 #[.agg #[.int .i64 f, .int .u64 h, .int .u64 l]] w fun e w' => e = .returned (.bool (Ad.four ⟨f, h, l⟩)) ∧ Below w.heap.size w w' := by
  have hr := right_any f h l
  by_cases h4 : f = 4
  · subst h4
    have e : Ad.four ⟨4, h, l⟩ = Ad.right ⟨4, h, l⟩ := by simp [Ad.four]
    rw [e]
    go_enter Try.func35, Try.ntmps35
    go_wp2_with (go_at_call 36; refine (hr _).mono ?_; rintro e w' ⟨rfl, rfl⟩)
    go_ret
    exact ⟨rfl, ((Below.refl _ _).alloc (Nat.le_refl _) _).alloc (by simp) _⟩
  · have h4' : (f == 4) = false := by simpa using h4
    have e : Ad.four ⟨f, h, l⟩ = false := by simp [Ad.four, h4]
    rw [e]
    go_enter Try.func35, Try.ntmps35
    go_wp2_with fail
    go_ret
    exact ⟨rfl, (Below.refl _ _).alloc (Nat.le_refl _) _⟩

set_option maxRecDepth 100000 in
set_option maxHeartbeats 2000000 in
theorem rightHead_any (f sf sh sl df dh dl pr ho : Int) (fg : Bool) (id of : Int) (mo : Bool) (xa : Option Addr) (xn xc : Nat) (da : Option Addr) (dn dc : Nat) (w : World) :
    Calls Try.prog 12 #[.agg #[.int .i64 f, .int .i64 sf, .int .u64 sh, .int .u64 sl, .int .i64 df, .int .u64 dh, .int .u64 dl, .int .i64 pr, .int .i64 ho, .bool fg, .int .u32 id, .int .i64 of, .bool mo, .slice xa xn xc, .slice da dn dc]] w fun e w' =>
      e = .returned (.bool ((f == 4) && (Ad.four ⟨sf, sh, sl⟩ && (Ad.four ⟨df, dh, dl⟩ && ((xn == 0) && (decide (0 ≤ pr) && (decide (pr ≤ 255) && (decide (1 ≤ ho) && decide (ho ≤ 255))))))))) ∧ Below w.heap.size w w' := by
  have b0 : Below w.heap.size w (w.alloc (.cells #[.int .i64 f, .int .i64 sf, .int .u64 sh, .int .u64 sl, .int .i64 df, .int .u64 dh, .int .u64 dl, .int .i64 pr, .int .i64 ho, .bool fg, .int .u32 id, .int .i64 of, .bool mo, .slice xa xn xc, .slice da dn dc] 29)) := (Below.refl _ _).alloc (Nat.le_refl _) _
  have s0 := sIp_new w (.int .i64 f) (.int .i64 sf) (.int .u64 sh) (.int .u64 sl) (.int .i64 df) (.int .u64 dh) (.int .u64 dl) (.int .i64 pr) (.int .i64 ho) (.bool fg) (.int .u32 id) (.int .i64 of) (.bool mo) (.slice xa xn xc) (.slice da dn dc)
  have K1 : Hid (∀ W, Calls Try.prog 35 #[.agg #[.int .i64 sf, .int .u64 sh, .int .u64 sl]] W fun e w' => e = .returned (.bool (Ad.four ⟨sf, sh, sl⟩)) ∧ Below W.heap.size W w') := fits_any sf sh sl
  have K2 : Hid (∀ W, Calls Try.prog 35 #[.agg #[.int .i64 df, .int .u64 dh, .int .u64 dl]] W fun e w' => e = .returned (.bool (Ad.four ⟨df, dh, dl⟩)) ∧ Below W.heap.size W w') := fits_any df dh dl
  generalize Ad.four ⟨sf, sh, sl⟩ = q1 at *
  generalize Ad.four ⟨df, dh, dl⟩ = q2 at *
  by_cases h4 : f = 4
  case neg =>
    have h4' : (f == 4) = false := by simpa using h4
    rw [h4']
    clear s0
    go_enter Try.func12, Try.ntmps12
    go_wp2_with fail
    go_ret
    exact ⟨by simp, b0⟩
  subst h4
  go_enter Try.func12, Try.ntmps12
  go_wp2_with fail
  refine (K1.out _).mono ?_
  rintro e W1 ⟨rfl, b1⟩
  have b1' := b0.trans (b1.mono (by simp))
  have s1 := s0.below (by simp) b1
  have z1 := b1.size
  simp only [World.size_alloc] at z1
  clear s0 b0 b1
  obtain ⟨d0, d1, d2, d3, d4, d5, d6, d7, d8, d9, d10, d11, d12, d13, d14⟩ := s1
  cases q1
  case false =>
    go_wp2_with fail
    all_goals (go_ret; exact ⟨by simp, b1'⟩)
  go_wp2_with fail
  refine (K2.out _).mono ?_
  rintro e W2 ⟨rfl, b2⟩
  have b2' := b1'.trans (b2.mono (by omega))
  have s2 : SIp W2 w.heap.size _ _ _ _ _ _ _ _ _ _ _ _ _ _ _ := SIp.below ⟨d0, d1, d2, d3, d4, d5, d6, d7, d8, d9, d10, d11, d12, d13, d14⟩ (by omega) b2
  clear d0 d1 d2 d3 d4 d5 d6 d7 d8 d9 d10 d11 d12 d13 d14 b1' b2 K1 K2
  obtain ⟨d0, d1, d2, d3, d4, d5, d6, d7, d8, d9, d10, d11, d12, d13, d14⟩ := s2
  cases q2
  case false =>
    go_wp2_with fail
    all_goals (go_ret; exact ⟨by simp, b2'⟩)
  go_wp2_with fail
  all_goals (go_ret; refine ⟨ret_bool ?_, b2'⟩; first | (simp; done) | (simp; omega) | (simp [*]; done) | (simp [*]; omega))

set_option maxRecDepth 100000 in
set_option maxHeartbeats 2000000 in
theorem rightPlace_any (f sf sh sl df dh dl pr ho : Int) (fg : Bool) (id of : Int) (mo : Bool) (xa : Option Addr) (xn xc : Nat) (da : Option Addr) (dn dc : Nat) (w : World) (hdn : dn ≤ 140737488355328) (hof : -9223372036854775808 ≤ of ∧ of ≤ 9223372036854775807) :
    Calls Try.prog 13 #[.agg #[.int .i64 f, .int .i64 sf, .int .u64 sh, .int .u64 sl, .int .i64 df, .int .u64 dh, .int .u64 dl, .int .i64 pr, .int .i64 ho, .bool fg, .int .u32 id, .int .i64 of, .bool mo, .slice xa xn xc, .slice da dn dc]] w fun e w' =>
      e = .returned (.bool (decide (id ≤ 65535) && (decide (0 ≤ of) && (decide (of % 8 = 0) && (decide (of ≤ 65515 - dn) && ((!fg || (mo || decide (of ≠ 0))) && (!mo || decide ((dn : Int) % 8 = 0)))))))) ∧ Below w.heap.size w w' := by
  go_enter Try.func13, Try.ntmps13
  have ht : of.tmod 8 = 0 ↔ of % 8 = 0 := by
    have := Int.tmod_eq_emod_of_nonneg (a := of) (b := 8)
    constructor
    · intro h; have := Int.dvd_of_tmod_eq_zero h; omega
    · intro h; exact Int.tmod_eq_zero_of_dvd (by omega)
  have ht2 : (dn : Int).tmod 8 = (dn : Int) % 8 := Int.tmod_eq_emod_of_nonneg (by omega)
  have HT : Hid (of.tmod 8 = 0 ↔ of % 8 = 0) := ht
  clear ht
  go_wp2_with fail
  all_goals (go_ret; refine ⟨ret_bool ?_, (Below.refl _ _).alloc (Nat.le_refl _) _⟩; have ht := HT.out; first | (simp; done) | (simp; omega) | (simp [*]; done) | (simp [*]; omega) | (clear ht2; generalize (dn : Int) % 8 = m8; by_cases hm8 : m8 = 0 <;> simp_all <;> omega))
end Go.Proofs.Ytpcdmjjlgoeglaa
