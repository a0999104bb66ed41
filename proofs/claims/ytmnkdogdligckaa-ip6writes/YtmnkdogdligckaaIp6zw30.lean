/- Texts joined: Ip6Bn -/
import Derived.Test.YtmnkdogdligckaaIp6zw26
namespace Go.Proofs.Ytmnkdogdligckaa
open Go.RowKit
set_option linter.unusedVariables false
set_option linter.unusedSimpArgs false
set_option maxRecDepth 100000 in
set_option maxHeartbeats 4000000 in
theorem rmay6_t0 (f sf sh sl df dh dl pr ho : Int) (id of : Int) (mo : Bool) (xa : Option Addr) (xc : Nat) (X : List Int) (da : Option Addr) (dat : List Int) (dc : Nat) (w : World) (hx : RowI w xa X) (hdl : dat.length ≤ 140737488355328) (hof : -9223372036854775808 ≤ of ∧ of ≤ 9223372036854775807) (h0 : f = 6) (h1 : sf = 6) (h2 : df = 6) (h3 : ¬ pr < 0) (h4 : ¬ pr > 255) (h5 : ¬ ho < 1) (h6 : ¬ ho > 255) (h7 : ¬ (dat.length : Int) > 65000) (hX : X.length = 0) :
    Calls Try.prog 37 #[.agg #[.int .i64 f, .int .i64 sf, .int .u64 sh, .int .u64 sl, .int .i64 df, .int .u64 dh, .int .u64 dl, .int .i64 pr, .int .i64 ho, .bool true, .int .u32 id, .int .i64 of, .bool mo, .slice xa X.length xc, .slice da dat.length dc]] w fun e w' => e = .returned (.bool (rp of mo dat.length)) ∧ Below w.heap.size w w' := by
  obtain ⟨W1, hW1⟩ : ∃ W1, w.alloc (.cells #[.int .i64 f, .int .i64 sf, .int .u64 sh, .int .u64 sl, .int .i64 df, .int .u64 dh, .int .u64 dl, .int .i64 pr, .int .i64 ho, .bool true, .int .u32 id, .int .i64 of, .bool mo, .slice xa X.length xc, .slice da dat.length dc] 38) = W1 := ⟨_, rfl⟩
  have b1 := bel_nw hW1
  have P1 := blk_nw hW1
  have d0 := P1.cell 0 (.int .i64 f) rfl
  have d1 := P1.cell 1 (.int .i64 sf) rfl
  have d4 := P1.cell 4 (.int .i64 df) rfl
  have d7 := P1.cell 7 (.int .i64 pr) rfl
  have d8 := P1.cell 8 (.int .i64 ho) rfl
  have d9 := P1.cell 9 (.bool true) rfl
  have d11 := P1.cell 11 (.int .i64 of) rfl
  have d12 := P1.cell 12 (.bool mo) rfl
  have d13 := P1.cell 13 (.slice xa X.length xc) rfl
  have d14 := P1.cell 14 (.slice da dat.length dc) rfl
  have h0' : (f != 6) = false := by simpa using h0
  clear h0
  have h1' : (sf != 6) = false := by simpa using h1
  clear h1
  have h2' : (df != 6) = false := by simpa using h2
  clear h2
  have hxn : ¬ (X.length : Int) > 0 := by omega
  have ht : of.tmod 8 = 0 ↔ of % 8 = 0 := by
    constructor
    · intro h; have := Int.dvd_of_tmod_eq_zero h; omega
    · intro h; exact Int.tmod_eq_zero_of_dvd (by omega)
  obtain ⟨N, hN⟩ : ∃ N, dat.length = N := ⟨_, rfl⟩
  rw [hN] at hdl h7 d14 hW1 ⊢
  have ht2 : (N : Int).tmod 8 = (N : Int) % 8 := Int.tmod_eq_emod_of_nonneg (by omega)
  have hN8 : (N : Int) % 8 = 0 ∨ ((N : Int) % 8 ≠ 0 ∧ ((N : Int) % 8 != 0) = true ∧ ((N : Int) % 8 == 0) = false) := by
    by_cases h : (N : Int) % 8 = 0
    · exact .inl h
    · exact .inr ⟨h, by simpa using h, by simpa using h⟩
  unfold rp
  clear hx P1 hX hN
  go_enter Try.func37, Try.ntmps37
  cases mo
  all_goals (
    go_wp2_with fail
    all_goals (
      go_ret
      refine ⟨ret_bool6 ?_, b1⟩
      clear ht2 d0 d1 d4 d7 d8 d9 d11 d12 d13 d14 b1
      first | (simp; done) | (simp; omega) | (simp; intros; omega) | (rcases hN8 with h8 | ⟨h8, h8', h8''⟩ <;> simp_all) | (rcases hN8 with h8 | ⟨h8, h8', h8''⟩ <;> simp_all <;> omega)))
end Go.Proofs.Ytmnkdogdligckaa
