/- Whether a packet of family 4 may be built, by the document. -/
import Derived.Test.YtpcdmjjlgoeglaaIp4C
import Derived.Test.YtpcdmjjlgoeglaaOrd
namespace Go.Proofs.Ytpcdmjjlgoeglaa
open Go.RowKit
set_option linter.unusedVariables false
set_option linter.unusedSimpArgs false

set_option maxHeartbeats 400000 in
theorem rfour_any (f h l : Int) (w : World) (hl : 0 ≤ l) :
    Calls Try.prog 40 #[.agg #[.int .i64 f, .int .u64 h, .int .u64 l]] w fun e w' => e = .returned (.bool (Ad.four ⟨f, h, l⟩)) ∧ Below w.heap.size w w' := by
  have hr := fun w => rright_any f h l w hl
  by_cases h4 : f = 4
  · subst h4
    have e : Ad.four ⟨4, h, l⟩ = Ad.right ⟨4, h, l⟩ := by simp [Ad.four]
    rw [e]
    go_enter Try.func40, Try.ntmps40
    go_wp2_with (go_at_call 41; refine (hr _).mono ?_; rintro e w' ⟨rfl, rfl⟩)
    go_ret
    exact ⟨rfl, ((Below.refl _ _).alloc (Nat.le_refl _) _).alloc (by simp) _⟩
  · have h4' : (f == 4) = false := by simpa using h4
    have e : Ad.four ⟨f, h, l⟩ = false := by simp [Ad.four, h4]
    rw [e]
    go_enter Try.func40, Try.ntmps40
    go_wp2_with fail
    go_ret
    exact ⟨rfl, (Below.refl _ _).alloc (Nat.le_refl _) _⟩

set_option maxRecDepth 100000 in
set_option maxHeartbeats 4000000 in
theorem rmay_any (f sf sh sl df dh dl pr ho : Int) (fg : Bool) (id of : Int) (mo : Bool) (xa : Option Addr) (xn xc : Nat) (da : Option Addr) (dat : List Int) (dc : Nat) (w : World) (hdl : dat.length ≤ 140737488355328) (hof : -9223372036854775808 ≤ of ∧ of ≤ 9223372036854775807) (h1 : 0 ≤ sl) (h2 : 0 ≤ dl) :
    Calls Try.prog 18 #[.agg #[.int .i64 f, .int .i64 sf, .int .u64 sh, .int .u64 sl, .int .i64 df, .int .u64 dh, .int .u64 dl, .int .i64 pr, .int .i64 ho, .bool fg, .int .u32 id, .int .i64 of, .bool mo, .slice xa xn xc, .slice da dat.length dc]] w fun e w' =>
      e = .returned (.bool (Pk.may (⟨f, ⟨sf, sh, sl⟩, ⟨df, dh, dl⟩, pr, ho, fg, id, of, mo, dat⟩ : Pk) xn)) ∧ Below w.heap.size w w' := by
  obtain ⟨W0, hW0⟩ : ∃ W0, w.alloc (.cells #[.int .i64 f, .int .i64 sf, .int .u64 sh, .int .u64 sl, .int .i64 df, .int .u64 dh, .int .u64 dl, .int .i64 pr, .int .i64 ho, .bool fg, .int .u32 id, .int .i64 of, .bool mo, .slice xa xn xc, .slice da dat.length dc] 29) = W0 := ⟨_, rfl⟩
  have b0 : Below w.heap.size w W0 := by rw [← hW0]; exact (Below.refl _ _).alloc (Nat.le_refl _) _
  have z0 : w.heap.size < W0.heap.size := by rw [← hW0]; simp
  have s0 : SIp W0 w.heap.size (.int .i64 f) (.int .i64 sf) (.int .u64 sh) (.int .u64 sl) (.int .i64 df) (.int .u64 dh) (.int .u64 dl) (.int .i64 pr) (.int .i64 ho) (.bool fg) (.int .u32 id) (.int .i64 of) (.bool mo) (.slice xa xn xc) (.slice da dat.length dc) := by rw [← hW0]; exact sIp_new w _ _ _ _ _ _ _ _ _ _ _ _ _ _ _
  have S0 : Hid _ := s0
  have K1 : Hid (∀ W, Calls Try.prog 40 #[.agg #[.int .i64 sf, .int .u64 sh, .int .u64 sl]] W fun e w' => e = .returned (.bool (Ad.four ⟨sf, sh, sl⟩)) ∧ Below W.heap.size W w') := fun W => rfour_any sf sh sl W h1
  have K2 : Hid (∀ W, Calls Try.prog 40 #[.agg #[.int .i64 df, .int .u64 dh, .int .u64 dl]] W fun e w' => e = .returned (.bool (Ad.four ⟨df, dh, dl⟩)) ∧ Below W.heap.size W w') := fun W => rfour_any df dh dl W h2
  obtain ⟨N, hN⟩ : ∃ N, dat.length = N := ⟨_, rfl⟩
  have EM : Hid (Pk.may (⟨f, ⟨sf, sh, sl⟩, ⟨df, dh, dl⟩, pr, ho, fg, id, of, mo, dat⟩ : Pk) xn = (((f == 4) && (Ad.four ⟨sf, sh, sl⟩ && (Ad.four ⟨df, dh, dl⟩ && ((xn == 0) && (decide (0 ≤ pr) && (decide (pr ≤ 255) && (decide (1 ≤ ho) && decide (ho ≤ 255)))))))) && (decide (id ≤ 65535) && (decide (0 ≤ of) && (decide (of % 8 = 0) && (decide (of ≤ 65515 - (N : Int)) && ((!fg || (mo || decide (of ≠ 0))) && (!mo || decide ((N : Int) % 8 = 0))))))))) := by
    show _ = _
    rw [← hN]
    rfl
  rw [EM.out]
  rw [hN] at S0 s0 hW0 ⊢
  have hdl' : N ≤ 140737488355328 := by omega
  clear EM hN hdl h1 h2
  generalize Ad.four ⟨sf, sh, sl⟩ = q1 at *
  generalize Ad.four ⟨df, dh, dl⟩ = q2 at *
  by_cases h4 : f = 4
  case neg =>
    have h4' : (f != 4) = true := by simpa using h4
    obtain ⟨d0, d1, d2, d3, d4, d5, d6, d7, d8, d9, d10, d11, d12, d13, d14⟩ := s0
    go_enter Try.func18, Try.ntmps18
    go_wp2
    go_ret
    exact ⟨ret_bool (by simp [h4]), b0⟩
  subst h4
  go_enter Try.func18, Try.ntmps18
  obtain ⟨d0, d1, d2, d3, d4, d5, d6, d7, d8, d9, d10, d11, d12, d13, d14⟩ := s0
  go_wp2_with fail
  refine (K1.out _).mono ?_
  rintro e W1 ⟨rfl, b1⟩
  have B1 : Below w.heap.size w W1 := b0.trans (b1.mono (Nat.le_of_lt z0))
  have S1 : Hid _ := S0.out.below z0 b1
  have z1 : w.heap.size < W1.heap.size := Nat.lt_of_lt_of_le z0 b1.size
  clear d0 d1 d2 d3 d4 d5 d6 d7 d8 d9 d10 d11 d12 d13 d14 hW0 b1 S0 K1
  have s1 := S1.out
  obtain ⟨d0, d1, d2, d3, d4, d5, d6, d7, d8, d9, d10, d11, d12, d13, d14⟩ := s1
  cases q1
  case false =>
    go_wp2
    go_ret
    exact ⟨ret_bool (by simp), B1⟩
  go_wp2_with fail
  refine (K2.out _).mono ?_
  rintro e W2 ⟨rfl, b2⟩
  have B2 : Below w.heap.size w W2 := B1.trans (b2.mono (Nat.le_of_lt z1))
  have s2 := S1.out.below z1 b2
  clear d0 d1 d2 d3 d4 d5 d6 d7 d8 d9 d10 d11 d12 d13 d14 b2 S1 K2 B1
  obtain ⟨d0, d1, d2, d3, d4, d5, d6, d7, d8, d9, d10, d11, d12, d13, d14⟩ := s2
  clear d0 d1 d2 d3 d4 d5 d6
  cases q2
  case false =>
    go_wp2
    go_ret
    exact ⟨ret_bool (by simp), B2⟩
  by_cases hx : xn = 0
  case neg =>
    have hx' : (xn : Int) > 0 := by omega
    go_wp2
    go_ret
    exact ⟨ret_bool (by simp [hx]), B2⟩
  subst hx
  have ht : of.tmod 8 = 0 ↔ of % 8 = 0 := by
    constructor
    · intro h; have := Int.dvd_of_tmod_eq_zero h; omega
    · intro h; exact Int.tmod_eq_zero_of_dvd (by omega)
  have ht2 : (N : Int).tmod 8 = (N : Int) % 8 := Int.tmod_eq_emod_of_nonneg (by omega)
  have hN8 : (N : Int) % 8 = 0 ∨ ((N : Int) % 8 ≠ 0 ∧ ((N : Int) % 8 != 0) = true ∧ ((N : Int) % 8 == 0) = false) := by
    by_cases h : (N : Int) % 8 = 0
    · exact .inl h
    · exact .inr ⟨h, by simpa using h, by simpa using h⟩
  cases fg <;> cases mo
  all_goals (
    go_wp2_with fail
    all_goals (
      go_ret
      refine ⟨ret_bool ?_, B2⟩
      clear ht ht2 d7 d8 d9 d10 d11 d12 d13 d14 b0 B2 z0 z1
      first | (simp; done) | (simp; omega) | (simp; intros; omega) | (rcases hN8 with h8 | ⟨h8, h8', h8''⟩ <;> simp_all) | (rcases hN8 with h8 | ⟨h8, h8', h8''⟩ <;> simp_all <;> omega)))
end Go.Proofs.Ytpcdmjjlgoeglaa
