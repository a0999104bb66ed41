/- Texts joined: Ip6Bm -/
import Derived.Test.YtmnkdogdligckaaIp6zw26
namespace Go.Proofs.Ytmnkdogdligckaa
open Go.RowKit
set_option linter.unusedVariables false
set_option linter.unusedSimpArgs false
/-- May a packet be written? -/
def may6 (f sf df pr ho : Int) (fg : Bool) (X : List Int) (of : Int) (mo : Bool) (n : Nat) : Bool := rn f sf df pr ho && rx fg X && decide (n ≤ 65000) && (!fg || rp of mo n)
set_option maxRecDepth 100000 in
set_option maxHeartbeats 4000000 in
theorem rmay6_n0 (f sf sh sl df dh dl pr ho : Int) (fg : Bool) (id of : Int) (mo : Bool) (xa : Option Addr) (xc : Nat) (X : List Int) (da : Option Addr) (dat : List Int) (dc : Nat) (w : World) (hx : RowI w xa X) (hdl : dat.length ≤ 140737488355328) (hof : -9223372036854775808 ≤ of ∧ of ≤ 9223372036854775807) (h0 : ¬ f = 6) :
    Calls Try.prog 37 #[.agg #[.int .i64 f, .int .i64 sf, .int .u64 sh, .int .u64 sl, .int .i64 df, .int .u64 dh, .int .u64 dl, .int .i64 pr, .int .i64 ho, .bool fg, .int .u32 id, .int .i64 of, .bool mo, .slice xa X.length xc, .slice da dat.length dc]] w fun e w' => e = .returned (.bool false) ∧ Below w.heap.size w w' := by
  obtain ⟨W1, hW1⟩ : ∃ W1, w.alloc (.cells #[.int .i64 f, .int .i64 sf, .int .u64 sh, .int .u64 sl, .int .i64 df, .int .u64 dh, .int .u64 dl, .int .i64 pr, .int .i64 ho, .bool fg, .int .u32 id, .int .i64 of, .bool mo, .slice xa X.length xc, .slice da dat.length dc] 38) = W1 := ⟨_, rfl⟩
  have b1 := bel_nw hW1
  have P1 := blk_nw hW1
  have d0 := P1.cell 0 (.int .i64 f) rfl
  have d1 := P1.cell 1 (.int .i64 sf) rfl
  have d4 := P1.cell 4 (.int .i64 df) rfl
  have d7 := P1.cell 7 (.int .i64 pr) rfl
  have d8 := P1.cell 8 (.int .i64 ho) rfl
  have d14 := P1.cell 14 (.slice da dat.length dc) rfl
  have h0' : (f != 6) = true := by simpa using h0
  clear h0
  clear hx P1
  go_enter Try.func37, Try.ntmps37
  go_wp2
  go_ret
  exact ⟨rfl, b1⟩
set_option maxRecDepth 100000 in
set_option maxHeartbeats 4000000 in
theorem rmay6_n1 (f sf sh sl df dh dl pr ho : Int) (fg : Bool) (id of : Int) (mo : Bool) (xa : Option Addr) (xc : Nat) (X : List Int) (da : Option Addr) (dat : List Int) (dc : Nat) (w : World) (hx : RowI w xa X) (hdl : dat.length ≤ 140737488355328) (hof : -9223372036854775808 ≤ of ∧ of ≤ 9223372036854775807) (h0 : f = 6) (h1 : ¬ sf = 6) :
    Calls Try.prog 37 #[.agg #[.int .i64 f, .int .i64 sf, .int .u64 sh, .int .u64 sl, .int .i64 df, .int .u64 dh, .int .u64 dl, .int .i64 pr, .int .i64 ho, .bool fg, .int .u32 id, .int .i64 of, .bool mo, .slice xa X.length xc, .slice da dat.length dc]] w fun e w' => e = .returned (.bool false) ∧ Below w.heap.size w w' := by
  obtain ⟨W1, hW1⟩ : ∃ W1, w.alloc (.cells #[.int .i64 f, .int .i64 sf, .int .u64 sh, .int .u64 sl, .int .i64 df, .int .u64 dh, .int .u64 dl, .int .i64 pr, .int .i64 ho, .bool fg, .int .u32 id, .int .i64 of, .bool mo, .slice xa X.length xc, .slice da dat.length dc] 38) = W1 := ⟨_, rfl⟩
  have b1 := bel_nw hW1
  have P1 := blk_nw hW1
  have d0 := P1.cell 0 (.int .i64 f) rfl
  have d1 := P1.cell 1 (.int .i64 sf) rfl
  have d4 := P1.cell 4 (.int .i64 df) rfl
  have d7 := P1.cell 7 (.int .i64 pr) rfl
  have d8 := P1.cell 8 (.int .i64 ho) rfl
  have d14 := P1.cell 14 (.slice da dat.length dc) rfl
  have h0' : (f != 6) = false := by simpa using h0
  clear h0
  have h1' : (sf != 6) = true := by simpa using h1
  clear h1
  clear hx P1
  go_enter Try.func37, Try.ntmps37
  go_wp2
  go_ret
  exact ⟨rfl, b1⟩
set_option maxRecDepth 100000 in
set_option maxHeartbeats 4000000 in
theorem rmay6_n2 (f sf sh sl df dh dl pr ho : Int) (fg : Bool) (id of : Int) (mo : Bool) (xa : Option Addr) (xc : Nat) (X : List Int) (da : Option Addr) (dat : List Int) (dc : Nat) (w : World) (hx : RowI w xa X) (hdl : dat.length ≤ 140737488355328) (hof : -9223372036854775808 ≤ of ∧ of ≤ 9223372036854775807) (h0 : f = 6) (h1 : sf = 6) (h2 : ¬ df = 6) :
    Calls Try.prog 37 #[.agg #[.int .i64 f, .int .i64 sf, .int .u64 sh, .int .u64 sl, .int .i64 df, .int .u64 dh, .int .u64 dl, .int .i64 pr, .int .i64 ho, .bool fg, .int .u32 id, .int .i64 of, .bool mo, .slice xa X.length xc, .slice da dat.length dc]] w fun e w' => e = .returned (.bool false) ∧ Below w.heap.size w w' := by
  obtain ⟨W1, hW1⟩ : ∃ W1, w.alloc (.cells #[.int .i64 f, .int .i64 sf, .int .u64 sh, .int .u64 sl, .int .i64 df, .int .u64 dh, .int .u64 dl, .int .i64 pr, .int .i64 ho, .bool fg, .int .u32 id, .int .i64 of, .bool mo, .slice xa X.length xc, .slice da dat.length dc] 38) = W1 := ⟨_, rfl⟩
  have b1 := bel_nw hW1
  have P1 := blk_nw hW1
  have d0 := P1.cell 0 (.int .i64 f) rfl
  have d1 := P1.cell 1 (.int .i64 sf) rfl
  have d4 := P1.cell 4 (.int .i64 df) rfl
  have d7 := P1.cell 7 (.int .i64 pr) rfl
  have d8 := P1.cell 8 (.int .i64 ho) rfl
  have d14 := P1.cell 14 (.slice da dat.length dc) rfl
  have h0' : (f != 6) = false := by simpa using h0
  clear h0
  have h1' : (sf != 6) = false := by simpa using h1
  clear h1
  have h2' : (df != 6) = true := by simpa using h2
  clear h2
  clear hx P1
  go_enter Try.func37, Try.ntmps37
  go_wp2
  go_ret
  exact ⟨rfl, b1⟩
set_option maxRecDepth 100000 in
set_option maxHeartbeats 4000000 in
theorem rmay6_n3 (f sf sh sl df dh dl pr ho : Int) (fg : Bool) (id of : Int) (mo : Bool) (xa : Option Addr) (xc : Nat) (X : List Int) (da : Option Addr) (dat : List Int) (dc : Nat) (w : World) (hx : RowI w xa X) (hdl : dat.length ≤ 140737488355328) (hof : -9223372036854775808 ≤ of ∧ of ≤ 9223372036854775807) (h0 : f = 6) (h1 : sf = 6) (h2 : df = 6) (h3 : pr < 0) :
    Calls Try.prog 37 #[.agg #[.int .i64 f, .int .i64 sf, .int .u64 sh, .int .u64 sl, .int .i64 df, .int .u64 dh, .int .u64 dl, .int .i64 pr, .int .i64 ho, .bool fg, .int .u32 id, .int .i64 of, .bool mo, .slice xa X.length xc, .slice da dat.length dc]] w fun e w' => e = .returned (.bool false) ∧ Below w.heap.size w w' := by
  obtain ⟨W1, hW1⟩ : ∃ W1, w.alloc (.cells #[.int .i64 f, .int .i64 sf, .int .u64 sh, .int .u64 sl, .int .i64 df, .int .u64 dh, .int .u64 dl, .int .i64 pr, .int .i64 ho, .bool fg, .int .u32 id, .int .i64 of, .bool mo, .slice xa X.length xc, .slice da dat.length dc] 38) = W1 := ⟨_, rfl⟩
  have b1 := bel_nw hW1
  have P1 := blk_nw hW1
  have d0 := P1.cell 0 (.int .i64 f) rfl
  have d1 := P1.cell 1 (.int .i64 sf) rfl
  have d4 := P1.cell 4 (.int .i64 df) rfl
  have d7 := P1.cell 7 (.int .i64 pr) rfl
  have d8 := P1.cell 8 (.int .i64 ho) rfl
  have d14 := P1.cell 14 (.slice da dat.length dc) rfl
  have h0' : (f != 6) = false := by simpa using h0
  clear h0
  have h1' : (sf != 6) = false := by simpa using h1
  clear h1
  have h2' : (df != 6) = false := by simpa using h2
  clear h2
  clear hx P1
  go_enter Try.func37, Try.ntmps37
  go_wp2
  go_ret
  exact ⟨rfl, b1⟩
set_option maxRecDepth 100000 in
set_option maxHeartbeats 4000000 in
theorem rmay6_n4 (f sf sh sl df dh dl pr ho : Int) (fg : Bool) (id of : Int) (mo : Bool) (xa : Option Addr) (xc : Nat) (X : List Int) (da : Option Addr) (dat : List Int) (dc : Nat) (w : World) (hx : RowI w xa X) (hdl : dat.length ≤ 140737488355328) (hof : -9223372036854775808 ≤ of ∧ of ≤ 9223372036854775807) (h0 : f = 6) (h1 : sf = 6) (h2 : df = 6) (h3 : ¬ pr < 0) (h4 : pr > 255) :
    Calls Try.prog 37 #[.agg #[.int .i64 f, .int .i64 sf, .int .u64 sh, .int .u64 sl, .int .i64 df, .int .u64 dh, .int .u64 dl, .int .i64 pr, .int .i64 ho, .bool fg, .int .u32 id, .int .i64 of, .bool mo, .slice xa X.length xc, .slice da dat.length dc]] w fun e w' => e = .returned (.bool false) ∧ Below w.heap.size w w' := by
  obtain ⟨W1, hW1⟩ : ∃ W1, w.alloc (.cells #[.int .i64 f, .int .i64 sf, .int .u64 sh, .int .u64 sl, .int .i64 df, .int .u64 dh, .int .u64 dl, .int .i64 pr, .int .i64 ho, .bool fg, .int .u32 id, .int .i64 of, .bool mo, .slice xa X.length xc, .slice da dat.length dc] 38) = W1 := ⟨_, rfl⟩
  have b1 := bel_nw hW1
  have P1 := blk_nw hW1
  have d0 := P1.cell 0 (.int .i64 f) rfl
  have d1 := P1.cell 1 (.int .i64 sf) rfl
  have d4 := P1.cell 4 (.int .i64 df) rfl
  have d7 := P1.cell 7 (.int .i64 pr) rfl
  have d8 := P1.cell 8 (.int .i64 ho) rfl
  have d14 := P1.cell 14 (.slice da dat.length dc) rfl
  have h0' : (f != 6) = false := by simpa using h0
  clear h0
  have h1' : (sf != 6) = false := by simpa using h1
  clear h1
  have h2' : (df != 6) = false := by simpa using h2
  clear h2
  clear hx P1
  go_enter Try.func37, Try.ntmps37
  go_wp2
  go_ret
  exact ⟨rfl, b1⟩
set_option maxRecDepth 100000 in
set_option maxHeartbeats 4000000 in
theorem rmay6_n5 (f sf sh sl df dh dl pr ho : Int) (fg : Bool) (id of : Int) (mo : Bool) (xa : Option Addr) (xc : Nat) (X : List Int) (da : Option Addr) (dat : List Int) (dc : Nat) (w : World) (hx : RowI w xa X) (hdl : dat.length ≤ 140737488355328) (hof : -9223372036854775808 ≤ of ∧ of ≤ 9223372036854775807) (h0 : f = 6) (h1 : sf = 6) (h2 : df = 6) (h3 : ¬ pr < 0) (h4 : ¬ pr > 255) (h5 : ho < 1) :
    Calls Try.prog 37 #[.agg #[.int .i64 f, .int .i64 sf, .int .u64 sh, .int .u64 sl, .int .i64 df, .int .u64 dh, .int .u64 dl, .int .i64 pr, .int .i64 ho, .bool fg, .int .u32 id, .int .i64 of, .bool mo, .slice xa X.length xc, .slice da dat.length dc]] w fun e w' => e = .returned (.bool false) ∧ Below w.heap.size w w' := by
  obtain ⟨W1, hW1⟩ : ∃ W1, w.alloc (.cells #[.int .i64 f, .int .i64 sf, .int .u64 sh, .int .u64 sl, .int .i64 df, .int .u64 dh, .int .u64 dl, .int .i64 pr, .int .i64 ho, .bool fg, .int .u32 id, .int .i64 of, .bool mo, .slice xa X.length xc, .slice da dat.length dc] 38) = W1 := ⟨_, rfl⟩
  have b1 := bel_nw hW1
  have P1 := blk_nw hW1
  have d0 := P1.cell 0 (.int .i64 f) rfl
  have d1 := P1.cell 1 (.int .i64 sf) rfl
  have d4 := P1.cell 4 (.int .i64 df) rfl
  have d7 := P1.cell 7 (.int .i64 pr) rfl
  have d8 := P1.cell 8 (.int .i64 ho) rfl
  have d14 := P1.cell 14 (.slice da dat.length dc) rfl
  have h0' : (f != 6) = false := by simpa using h0
  clear h0
  have h1' : (sf != 6) = false := by simpa using h1
  clear h1
  have h2' : (df != 6) = false := by simpa using h2
  clear h2
  clear hx P1
  go_enter Try.func37, Try.ntmps37
  go_wp2
  go_ret
  exact ⟨rfl, b1⟩
set_option maxRecDepth 100000 in
set_option maxHeartbeats 4000000 in
theorem rmay6_n6 (f sf sh sl df dh dl pr ho : Int) (fg : Bool) (id of : Int) (mo : Bool) (xa : Option Addr) (xc : Nat) (X : List Int) (da : Option Addr) (dat : List Int) (dc : Nat) (w : World) (hx : RowI w xa X) (hdl : dat.length ≤ 140737488355328) (hof : -9223372036854775808 ≤ of ∧ of ≤ 9223372036854775807) (h0 : f = 6) (h1 : sf = 6) (h2 : df = 6) (h3 : ¬ pr < 0) (h4 : ¬ pr > 255) (h5 : ¬ ho < 1) (h6 : ho > 255) :
    Calls Try.prog 37 #[.agg #[.int .i64 f, .int .i64 sf, .int .u64 sh, .int .u64 sl, .int .i64 df, .int .u64 dh, .int .u64 dl, .int .i64 pr, .int .i64 ho, .bool fg, .int .u32 id, .int .i64 of, .bool mo, .slice xa X.length xc, .slice da dat.length dc]] w fun e w' => e = .returned (.bool false) ∧ Below w.heap.size w w' := by
  obtain ⟨W1, hW1⟩ : ∃ W1, w.alloc (.cells #[.int .i64 f, .int .i64 sf, .int .u64 sh, .int .u64 sl, .int .i64 df, .int .u64 dh, .int .u64 dl, .int .i64 pr, .int .i64 ho, .bool fg, .int .u32 id, .int .i64 of, .bool mo, .slice xa X.length xc, .slice da dat.length dc] 38) = W1 := ⟨_, rfl⟩
  have b1 := bel_nw hW1
  have P1 := blk_nw hW1
  have d0 := P1.cell 0 (.int .i64 f) rfl
  have d1 := P1.cell 1 (.int .i64 sf) rfl
  have d4 := P1.cell 4 (.int .i64 df) rfl
  have d7 := P1.cell 7 (.int .i64 pr) rfl
  have d8 := P1.cell 8 (.int .i64 ho) rfl
  have d14 := P1.cell 14 (.slice da dat.length dc) rfl
  have h0' : (f != 6) = false := by simpa using h0
  clear h0
  have h1' : (sf != 6) = false := by simpa using h1
  clear h1
  have h2' : (df != 6) = false := by simpa using h2
  clear h2
  clear hx P1
  go_enter Try.func37, Try.ntmps37
  go_wp2
  go_ret
  exact ⟨rfl, b1⟩
set_option maxRecDepth 100000 in
set_option maxHeartbeats 4000000 in
theorem rmay6_n7 (f sf sh sl df dh dl pr ho : Int) (fg : Bool) (id of : Int) (mo : Bool) (xa : Option Addr) (xc : Nat) (X : List Int) (da : Option Addr) (dat : List Int) (dc : Nat) (w : World) (hx : RowI w xa X) (hdl : dat.length ≤ 140737488355328) (hof : -9223372036854775808 ≤ of ∧ of ≤ 9223372036854775807) (h0 : f = 6) (h1 : sf = 6) (h2 : df = 6) (h3 : ¬ pr < 0) (h4 : ¬ pr > 255) (h5 : ¬ ho < 1) (h6 : ¬ ho > 255) (h7 : (dat.length : Int) > 65000) :
    Calls Try.prog 37 #[.agg #[.int .i64 f, .int .i64 sf, .int .u64 sh, .int .u64 sl, .int .i64 df, .int .u64 dh, .int .u64 dl, .int .i64 pr, .int .i64 ho, .bool fg, .int .u32 id, .int .i64 of, .bool mo, .slice xa X.length xc, .slice da dat.length dc]] w fun e w' => e = .returned (.bool false) ∧ Below w.heap.size w w' := by
  obtain ⟨W1, hW1⟩ : ∃ W1, w.alloc (.cells #[.int .i64 f, .int .i64 sf, .int .u64 sh, .int .u64 sl, .int .i64 df, .int .u64 dh, .int .u64 dl, .int .i64 pr, .int .i64 ho, .bool fg, .int .u32 id, .int .i64 of, .bool mo, .slice xa X.length xc, .slice da dat.length dc] 38) = W1 := ⟨_, rfl⟩
  have b1 := bel_nw hW1
  have P1 := blk_nw hW1
  have d0 := P1.cell 0 (.int .i64 f) rfl
  have d1 := P1.cell 1 (.int .i64 sf) rfl
  have d4 := P1.cell 4 (.int .i64 df) rfl
  have d7 := P1.cell 7 (.int .i64 pr) rfl
  have d8 := P1.cell 8 (.int .i64 ho) rfl
  have d14 := P1.cell 14 (.slice da dat.length dc) rfl
  have h0' : (f != 6) = false := by simpa using h0
  clear h0
  have h1' : (sf != 6) = false := by simpa using h1
  clear h1
  have h2' : (df != 6) = false := by simpa using h2
  clear h2
  clear hx P1
  go_enter Try.func37, Try.ntmps37
  go_wp2
  go_ret
  exact ⟨rfl, b1⟩
set_option maxRecDepth 100000 in
set_option maxHeartbeats 4000000 in
theorem rmay6_f0 (f sf sh sl df dh dl pr ho : Int) (id of : Int) (mo : Bool) (xa : Option Addr) (xc : Nat) (X : List Int) (da : Option Addr) (dat : List Int) (dc : Nat) (w : World) (hx : RowI w xa X) (hdl : dat.length ≤ 140737488355328) (hof : -9223372036854775808 ≤ of ∧ of ≤ 9223372036854775807) (h0 : f = 6) (h1 : sf = 6) (h2 : df = 6) (h3 : ¬ pr < 0) (h4 : ¬ pr > 255) (h5 : ¬ ho < 1) (h6 : ¬ ho > 255) (h7 : ¬ (dat.length : Int) > 65000) (hX : X.length = 0) :
    Calls Try.prog 37 #[.agg #[.int .i64 f, .int .i64 sf, .int .u64 sh, .int .u64 sl, .int .i64 df, .int .u64 dh, .int .u64 dl, .int .i64 pr, .int .i64 ho, .bool false, .int .u32 id, .int .i64 of, .bool mo, .slice xa X.length xc, .slice da dat.length dc]] w fun e w' => e = .returned (.bool true) ∧ Below w.heap.size w w' := by
  obtain ⟨W1, hW1⟩ : ∃ W1, w.alloc (.cells #[.int .i64 f, .int .i64 sf, .int .u64 sh, .int .u64 sl, .int .i64 df, .int .u64 dh, .int .u64 dl, .int .i64 pr, .int .i64 ho, .bool false, .int .u32 id, .int .i64 of, .bool mo, .slice xa X.length xc, .slice da dat.length dc] 38) = W1 := ⟨_, rfl⟩
  have b1 := bel_nw hW1
  have P1 := blk_nw hW1
  have d0 := P1.cell 0 (.int .i64 f) rfl
  have d1 := P1.cell 1 (.int .i64 sf) rfl
  have d4 := P1.cell 4 (.int .i64 df) rfl
  have d7 := P1.cell 7 (.int .i64 pr) rfl
  have d8 := P1.cell 8 (.int .i64 ho) rfl
  have d9 := P1.cell 9 (.bool false) rfl
  have d11 := P1.cell 11 (.int .i64 of) rfl
  have d12 := P1.cell 12 (.bool mo) rfl
  have d13 := P1.cell 13 (.slice xa X.length xc) rfl
  have d14 := P1.cell 14 (.slice da dat.length dc) rfl
  have h0' : (f != 6) = false := by simpa using h0
  clear h0
  have h1' : (sf != 6) = false := by simpa using h1
  clear h1
  have h2' : (df != 6) = false := by simpa using h2
  clear h2
  have hxn : ¬ (X.length : Int) > 0 := by omega
  clear hx P1 hX
  go_enter Try.func37, Try.ntmps37
  go_wp2
  go_ret
  exact ⟨rfl, b1⟩
set_option maxRecDepth 100000 in
set_option maxHeartbeats 4000000 in
theorem rmay6_f1 (f sf sh sl df dh dl pr ho : Int) (id of : Int) (mo : Bool) (xa : Option Addr) (xc : Nat) (X : List Int) (da : Option Addr) (dat : List Int) (dc : Nat) (w : World) (hx : RowI w xa X) (hdl : dat.length ≤ 140737488355328) (hof : -9223372036854775808 ≤ of ∧ of ≤ 9223372036854775807) (h0 : f = 6) (h1 : sf = 6) (h2 : df = 6) (h3 : ¬ pr < 0) (h4 : ¬ pr > 255) (h5 : ¬ ho < 1) (h6 : ¬ ho > 255) (h7 : ¬ (dat.length : Int) > 65000) (hX : ¬ X.length = 0) :
    Calls Try.prog 37 #[.agg #[.int .i64 f, .int .i64 sf, .int .u64 sh, .int .u64 sl, .int .i64 df, .int .u64 dh, .int .u64 dl, .int .i64 pr, .int .i64 ho, .bool false, .int .u32 id, .int .i64 of, .bool mo, .slice xa X.length xc, .slice da dat.length dc]] w fun e w' => e = .returned (.bool false) ∧ Below w.heap.size w w' := by
  obtain ⟨W1, hW1⟩ : ∃ W1, w.alloc (.cells #[.int .i64 f, .int .i64 sf, .int .u64 sh, .int .u64 sl, .int .i64 df, .int .u64 dh, .int .u64 dl, .int .i64 pr, .int .i64 ho, .bool false, .int .u32 id, .int .i64 of, .bool mo, .slice xa X.length xc, .slice da dat.length dc] 38) = W1 := ⟨_, rfl⟩
  have b1 := bel_nw hW1
  have P1 := blk_nw hW1
  have d0 := P1.cell 0 (.int .i64 f) rfl
  have d1 := P1.cell 1 (.int .i64 sf) rfl
  have d4 := P1.cell 4 (.int .i64 df) rfl
  have d7 := P1.cell 7 (.int .i64 pr) rfl
  have d8 := P1.cell 8 (.int .i64 ho) rfl
  have d9 := P1.cell 9 (.bool false) rfl
  have d11 := P1.cell 11 (.int .i64 of) rfl
  have d12 := P1.cell 12 (.bool mo) rfl
  have d13 := P1.cell 13 (.slice xa X.length xc) rfl
  have d14 := P1.cell 14 (.slice da dat.length dc) rfl
  have h0' : (f != 6) = false := by simpa using h0
  clear h0
  have h1' : (sf != 6) = false := by simpa using h1
  clear h1
  have h2' : (df != 6) = false := by simpa using h2
  clear h2
  have hxn : (X.length : Int) > 0 := by omega
  clear hx P1 hX
  go_enter Try.func37, Try.ntmps37
  go_wp2
  go_ret
  exact ⟨rfl, b1⟩
set_option maxRecDepth 100000 in
set_option maxHeartbeats 4000000 in
theorem rmay6_t2 (f sf sh sl df dh dl pr ho : Int) (id of : Int) (mo : Bool) (xa : Option Addr) (xc : Nat) (X : List Int) (da : Option Addr) (dat : List Int) (dc : Nat) (w : World) (hx : RowI w xa X) (hdl : dat.length ≤ 140737488355328) (hof : -9223372036854775808 ≤ of ∧ of ≤ 9223372036854775807) (h0 : f = 6) (h1 : sf = 6) (h2 : df = 6) (h3 : ¬ pr < 0) (h4 : ¬ pr > 255) (h5 : ¬ ho < 1) (h6 : ¬ ho > 255) (h7 : ¬ (dat.length : Int) > 65000) (hX : ¬ X.length = 0) (hY : ¬ X.length = 1) :
    Calls Try.prog 37 #[.agg #[.int .i64 f, .int .i64 sf, .int .u64 sh, .int .u64 sl, .int .i64 df, .int .u64 dh, .int .u64 dl, .int .i64 pr, .int .i64 ho, .bool true, .int .u32 id, .int .i64 of, .bool mo, .slice xa X.length xc, .slice da dat.length dc]] w fun e w' => e = .returned (.bool false) ∧ Below w.heap.size w w' := by
  obtain ⟨W1, hW1⟩ : ∃ W1, w.alloc (.cells #[.int .i64 f, .int .i64 sf, .int .u64 sh, .int .u64 sl, .int .i64 df, .int .u64 dh, .int .u64 dl, .int .i64 pr, .int .i64 ho, .bool true, .int .u32 id, .int .i64 of, .bool mo, .slice xa X.length xc, .slice da dat.length dc] 38) = W1 := ⟨_, rfl⟩
  have b1 := bel_nw hW1
  have P1 := blk_nw hW1
  have d0 := P1.cell 0 (.int .i64 f) rfl
  have d1 := P1.cell 1 (.int .i64 sf) rfl
  have d4 := P1.cell 4 (.int .i64 df) rfl
  have d7 := P1.cell 7 (.int .i64 pr) rfl
  have d8 := P1.cell 8 (.int .i64 ho) rfl
  have d9 := P1.cell 9 (.bool true) rfl
  have d11 := P1.cell 11 (.int .i64 of) rfl
  have d12 := P1.cell 12 (.bool mo) rfl
  have d13 := P1.cell 13 (.slice xa X.length xc) rfl
  have d14 := P1.cell 14 (.slice da dat.length dc) rfl
  have h0' : (f != 6) = false := by simpa using h0
  clear h0
  have h1' : (sf != 6) = false := by simpa using h1
  clear h1
  have h2' : (df != 6) = false := by simpa using h2
  clear h2
  have hxn : (X.length : Int) > 0 := by omega
  have hx1 : ((X.length : Int) == 1) = false := by simp; omega
  clear hx P1 hX hY
  go_enter Try.func37, Try.ntmps37
  go_wp2
  go_ret
  exact ⟨rfl, b1⟩
set_option maxRecDepth 100000 in
set_option maxHeartbeats 4000000 in
theorem rmay6_t1n (f sf sh sl df dh dl pr ho : Int) (id of : Int) (mo : Bool) (xa : Option Addr) (xc : Nat) (X : List Int) (da : Option Addr) (dat : List Int) (dc : Nat) (w : World) (hx : RowI w xa X) (hdl : dat.length ≤ 140737488355328) (hof : -9223372036854775808 ≤ of ∧ of ≤ 9223372036854775807) (h0 : f = 6) (h1 : sf = 6) (h2 : df = 6) (h3 : ¬ pr < 0) (h4 : ¬ pr > 255) (h5 : ¬ ho < 1) (h6 : ¬ ho > 255) (h7 : ¬ (dat.length : Int) > 65000) (hX : X.length = 1) (hZ : ¬ X.getD 0 0 = 44) :
    Calls Try.prog 37 #[.agg #[.int .i64 f, .int .i64 sf, .int .u64 sh, .int .u64 sl, .int .i64 df, .int .u64 dh, .int .u64 dl, .int .i64 pr, .int .i64 ho, .bool true, .int .u32 id, .int .i64 of, .bool mo, .slice xa X.length xc, .slice da dat.length dc]] w fun e w' => e = .returned (.bool false) ∧ Below w.heap.size w w' := by
  obtain ⟨W1, hW1⟩ : ∃ W1, w.alloc (.cells #[.int .i64 f, .int .i64 sf, .int .u64 sh, .int .u64 sl, .int .i64 df, .int .u64 dh, .int .u64 dl, .int .i64 pr, .int .i64 ho, .bool true, .int .u32 id, .int .i64 of, .bool mo, .slice xa X.length xc, .slice da dat.length dc] 38) = W1 := ⟨_, rfl⟩
  have b1 := bel_nw hW1
  have P1 := blk_nw hW1
  have d0 := P1.cell 0 (.int .i64 f) rfl
  have d1 := P1.cell 1 (.int .i64 sf) rfl
  have d4 := P1.cell 4 (.int .i64 df) rfl
  have d7 := P1.cell 7 (.int .i64 pr) rfl
  have d8 := P1.cell 8 (.int .i64 ho) rfl
  have d9 := P1.cell 9 (.bool true) rfl
  have d11 := P1.cell 11 (.int .i64 of) rfl
  have d12 := P1.cell 12 (.bool mo) rfl
  have d13 := P1.cell 13 (.slice xa X.length xc) rfl
  have d14 := P1.cell 14 (.slice da dat.length dc) rfl
  have h0' : (f != 6) = false := by simpa using h0
  clear h0
  have h1' : (sf != 6) = false := by simpa using h1
  clear h1
  have h2' : (df != 6) = false := by simpa using h2
  clear h2
  obtain ⟨bx, ox, ex, hxc⟩ := hx.cells (by omega)
  subst ex
  have x0 := kept (b := bx) (o := ox) b1 (by have := hxc 0 (by omega); rwa [Nat.add_zero] at this)
  obtain ⟨v, hv⟩ : ∃ v, X.getD 0 0 = v := ⟨_, rfl⟩
  rw [hv] at x0 hZ
  have hxn : (X.length : Int) > 0 := by omega
  have hx1 : ((X.length : Int) == 1) = true := by simp; omega
  have hi0 : (0 : Int) < (X.length : Int) := by omega
  have hne : ¬ X = [] := by intro e; rw [e] at hX; simp at hX
  have hz' : (v == 44) = false := by simpa using hZ
  clear hx P1 hX hZ hv hxc
  go_enter Try.func37, Try.ntmps37
  go_wp2
  go_ret
  exact ⟨rfl, b1⟩
end Go.Proofs.Ytmnkdogdligckaa
