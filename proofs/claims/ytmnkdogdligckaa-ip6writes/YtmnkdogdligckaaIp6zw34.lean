/- Texts joined: Ip6Bp -/
import Derived.Test.YtmnkdogdligckaaIp6zw29
import Derived.Test.YtmnkdogdligckaaIp6zw30
import Derived.Test.YtmnkdogdligckaaIp6zw33
namespace Go.Proofs.Ytmnkdogdligckaa
open Go.RowKit
set_option linter.unusedVariables false
set_option linter.unusedSimpArgs false
theorem rmay6_any (f sf sh sl df dh dl pr ho : Int) (fg : Bool) (id of : Int) (mo : Bool) (xa : Option Addr) (xc : Nat) (X : List Int) (da : Option Addr) (dat : List Int) (dc : Nat) (w : World) (hx : RowI w xa X) (hdl : dat.length ≤ 140737488355328) (hof : -9223372036854775808 ≤ of ∧ of ≤ 9223372036854775807) :
    Calls Try.prog 37 #[.agg #[.int .i64 f, .int .i64 sf, .int .u64 sh, .int .u64 sl, .int .i64 df, .int .u64 dh, .int .u64 dl, .int .i64 pr, .int .i64 ho, .bool fg, .int .u32 id, .int .i64 of, .bool mo, .slice xa X.length xc, .slice da dat.length dc]] w fun e w' => e = .returned (.bool (may6 f sf df pr ho fg X of mo dat.length)) ∧ Below w.heap.size w w' := by
  by_cases h0 : f = 6
  case neg =>
    have e : may6 f sf df pr ho fg X of mo dat.length = false := by
      unfold may6 rn
      rw [show decide (f = 6 ∧ sf = 6 ∧ df = 6 ∧ 0 ≤ pr ∧ pr ≤ 255 ∧ 1 ≤ ho ∧ ho ≤ 255) = false from decide_eq_false (by omega)]
      simp
    rw [e]
    exact rmay6_n0 f sf sh sl df dh dl pr ho fg id of mo xa xc X da dat dc w hx hdl hof h0
  by_cases h1 : sf = 6
  case neg =>
    have e : may6 f sf df pr ho fg X of mo dat.length = false := by
      unfold may6 rn
      rw [show decide (f = 6 ∧ sf = 6 ∧ df = 6 ∧ 0 ≤ pr ∧ pr ≤ 255 ∧ 1 ≤ ho ∧ ho ≤ 255) = false from decide_eq_false (by omega)]
      simp
    rw [e]
    exact rmay6_n1 f sf sh sl df dh dl pr ho fg id of mo xa xc X da dat dc w hx hdl hof h0 h1
  by_cases h2 : df = 6
  case neg =>
    have e : may6 f sf df pr ho fg X of mo dat.length = false := by
      unfold may6 rn
      rw [show decide (f = 6 ∧ sf = 6 ∧ df = 6 ∧ 0 ≤ pr ∧ pr ≤ 255 ∧ 1 ≤ ho ∧ ho ≤ 255) = false from decide_eq_false (by omega)]
      simp
    rw [e]
    exact rmay6_n2 f sf sh sl df dh dl pr ho fg id of mo xa xc X da dat dc w hx hdl hof h0 h1 h2
  by_cases h3 : pr < 0
  case pos =>
    have e : may6 f sf df pr ho fg X of mo dat.length = false := by
      unfold may6 rn
      rw [show decide (f = 6 ∧ sf = 6 ∧ df = 6 ∧ 0 ≤ pr ∧ pr ≤ 255 ∧ 1 ≤ ho ∧ ho ≤ 255) = false from decide_eq_false (by omega)]
      simp
    rw [e]
    exact rmay6_n3 f sf sh sl df dh dl pr ho fg id of mo xa xc X da dat dc w hx hdl hof h0 h1 h2 h3
  by_cases h4 : pr > 255
  case pos =>
    have e : may6 f sf df pr ho fg X of mo dat.length = false := by
      unfold may6 rn
      rw [show decide (f = 6 ∧ sf = 6 ∧ df = 6 ∧ 0 ≤ pr ∧ pr ≤ 255 ∧ 1 ≤ ho ∧ ho ≤ 255) = false from decide_eq_false (by omega)]
      simp
    rw [e]
    exact rmay6_n4 f sf sh sl df dh dl pr ho fg id of mo xa xc X da dat dc w hx hdl hof h0 h1 h2 h3 h4
  by_cases h5 : ho < 1
  case pos =>
    have e : may6 f sf df pr ho fg X of mo dat.length = false := by
      unfold may6 rn
      rw [show decide (f = 6 ∧ sf = 6 ∧ df = 6 ∧ 0 ≤ pr ∧ pr ≤ 255 ∧ 1 ≤ ho ∧ ho ≤ 255) = false from decide_eq_false (by omega)]
      simp
    rw [e]
    exact rmay6_n5 f sf sh sl df dh dl pr ho fg id of mo xa xc X da dat dc w hx hdl hof h0 h1 h2 h3 h4 h5
  by_cases h6 : ho > 255
  case pos =>
    have e : may6 f sf df pr ho fg X of mo dat.length = false := by
      unfold may6 rn
      rw [show decide (f = 6 ∧ sf = 6 ∧ df = 6 ∧ 0 ≤ pr ∧ pr ≤ 255 ∧ 1 ≤ ho ∧ ho ≤ 255) = false from decide_eq_false (by omega)]
      simp
    rw [e]
    exact rmay6_n6 f sf sh sl df dh dl pr ho fg id of mo xa xc X da dat dc w hx hdl hof h0 h1 h2 h3 h4 h5 h6
  by_cases h7 : (dat.length : Int) > 65000
  case pos =>
    have e : may6 f sf df pr ho fg X of mo dat.length = false := by
      unfold may6
      rw [show decide (dat.length ≤ 65000) = false from decide_eq_false (by omega)]
      simp
    rw [e]
    exact rmay6_n7 f sf sh sl df dh dl pr ho fg id of mo xa xc X da dat dc w hx hdl hof h0 h1 h2 h3 h4 h5 h6 h7
  have e : may6 f sf df pr ho fg X of mo dat.length = (rx fg X && (!fg || rp of mo dat.length)) := by
    unfold may6 rn
    rw [show decide (f = 6 ∧ sf = 6 ∧ df = 6 ∧ 0 ≤ pr ∧ pr ≤ 255 ∧ 1 ≤ ho ∧ ho ≤ 255) = true from decide_eq_true (by omega), show decide (dat.length ≤ 65000) = true from decide_eq_true (by omega)]
    simp
  rw [e]
  clear e
  cases fg with
  | false =>
    by_cases hX : X.length = 0
    · rw [show rx false X = true by unfold rx; simp [hX]]
      exact rmay6_f0 f sf sh sl df dh dl pr ho id of mo xa xc X da dat dc w hx hdl hof h0 h1 h2 h3 h4 h5 h6 h7 hX
    · rw [show rx false X = false by unfold rx; simp [hX]]
      exact rmay6_f1 f sf sh sl df dh dl pr ho id of mo xa xc X da dat dc w hx hdl hof h0 h1 h2 h3 h4 h5 h6 h7 hX
  | true =>
    by_cases hX : X.length = 0
    · rw [show rx true X = true by unfold rx; simp [hX]]
      exact rmay6_t0 f sf sh sl df dh dl pr ho id of mo xa xc X da dat dc w hx hdl hof h0 h1 h2 h3 h4 h5 h6 h7 hX
    by_cases hY : X.length = 1
    · by_cases hZ : X.getD 0 0 = 44
      · rw [show rx true X = true by unfold rx; rw [hY, hZ]; rfl]
        exact rmay6_t1 f sf sh sl df dh dl pr ho id of mo xa xc X da dat dc w hx hdl hof h0 h1 h2 h3 h4 h5 h6 h7 hY hZ
      · rw [show rx true X = false by unfold rx; rw [hY, decide_eq_false hZ]; rfl]
        exact rmay6_t1n f sf sh sl df dh dl pr ho id of mo xa xc X da dat dc w hx hdl hof h0 h1 h2 h3 h4 h5 h6 h7 hY hZ
    · rw [show rx true X = false by unfold rx; rw [decide_eq_false hX, decide_eq_false hY]; rfl]
      exact rmay6_t2 f sf sh sl df dh dl pr ho id of mo xa xc X da dat dc w hx hdl hof h0 h1 h2 h3 h4 h5 h6 h7 hX hY
set_option maxRecDepth 100000 in
set_option maxHeartbeats 4000000 in
theorem rbuild6_no (f sf sh sl df dh dl pr ho : Int) (fg : Bool) (id of : Int) (mo : Bool) (xa : Option Addr) (xc : Nat) (X : List Int) (da : Option Addr) (dat : List Int) (dc : Nat) (w : World) (hx : RowI w xa X) (hdr : Row w da dat) (hdn : da = none → dc = 0) (hsrc : Ad.ok ⟨sf, sh, sl⟩) (hdst : Ad.ok ⟨df, dh, dl⟩) (hid : 0 ≤ id ∧ id ≤ 4294967295) (hof : -9223372036854775808 ≤ of ∧ of ≤ 9223372036854775807) (hm : may6 f sf df pr ho fg X of mo dat.length = false) :
    Calls Try.prog 19 #[.agg #[.int .i64 f, .int .i64 sf, .int .u64 sh, .int .u64 sl, .int .i64 df, .int .u64 dh, .int .u64 dl, .int .i64 pr, .int .i64 ho, .bool fg, .int .u32 id, .int .i64 of, .bool mo, .slice xa X.length xc, .slice da dat.length dc]] w fun e w' => e = .returned (.tuple #[.slice none 0 0, .int .i64 1]) ∧ Below w.heap.size w w' := by
  obtain ⟨W1, hW1⟩ : ∃ W1, w.alloc (.cells #[.int .i64 f, .int .i64 sf, .int .u64 sh, .int .u64 sl, .int .i64 df, .int .u64 dh, .int .u64 dl, .int .i64 pr, .int .i64 ho, .bool fg, .int .u32 id, .int .i64 of, .bool mo, .slice xa X.length xc, .slice da dat.length dc] 38) = W1 := ⟨_, rfl⟩
  have b1 := bel_nw hW1
  have P1 := blk_nw hW1
  have KM : Hid _ := rmay6_any f sf sh sl df dh dl pr ho fg id of mo xa xc X da dat dc W1 (hx.below b1) hdr.small hof
  rw [hm] at KM
  clear hm hx
  go_enter Try.func19, Try.ntmps19
  go_wp2_with (refine wpList_load_row rfl _ _ rfl w.heap.size (by rfl) _ _ _ _ P1 Try.underlying38 rfl (by kernel_rfl) ?_)
  refine Calls.mono KM.out ?_
  rintro e W2 ⟨rfl, bb⟩
  have b2 := bel_tr b1 bb
  clear KM bb P1 b1 hW1
  go_wp2_with fail
  go_ret2
  exact ⟨rfl, b2⟩
end Go.Proofs.Ytmnkdogdligckaa
