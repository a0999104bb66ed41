/- Texts joined: FgD -/
import Derived.Test.YtkeeidfpgfdldaaFpz3
namespace Go.Proofs.Ytkeeidfpgfdldaa
open Go.RowKit
set_option linter.unusedVariables false
set_option linter.unusedSimpArgs false
/-- What is wrong with a fragment. -/
def wrongF (f : Int) (s d : Ad) (of : Int) (mo : Bool) (n : Nat) : Int :=
 if (s.right && (s.fam == f)) = false ∨ (d.right && (d.fam == f)) = false then 1
 else if of < 0 ∨ of > 65528 ∨ of % 8 ≠ 0 ∨ (n : Int) > 65535 - of then 1
 else if n = 0 ∨ (mo = true ∧ n % 8 ≠ 0) then 5 else 0
set_option maxRecDepth 100000 in
set_option maxHeartbeats 4000000 in
theorem wrong_s (f sf sh sl df dh dl pr ho : Int) (fg : Bool) (id of : Int) (mo : Bool) (xa : Option Addr) (xn xc : Nat) (da : Option Addr) (dn dc : Nat) (w : World) (hs : (Ad.right ⟨sf, sh, sl⟩ && (sf == f)) = false) :
  Calls Try.prog 33 #[.agg #[.int .i64 f, .int .i64 sf, .int .u64 sh, .int .u64 sl, .int .i64 df, .int .u64 dh, .int .u64 dl, .int .i64 pr, .int .i64 ho, .bool fg, .int .u32 id, .int .i64 of, .bool mo, .slice xa xn xc, .slice da dn dc]] w fun e w' => e = .returned (.int .i64 1) ∧ Below w.heap.size w w' := by
 obtain ⟨W1, hW1⟩ : ∃ W, w.alloc (.cells #[.int .i64 f, .int .i64 sf, .int .u64 sh, .int .u64 sl, .int .i64 df, .int .u64 dh, .int .u64 dl, .int .i64 pr, .int .i64 ho, .bool fg, .int .u32 id, .int .i64 of, .bool mo, .slice xa xn xc, .slice da dn dc] 42) = W := ⟨_, rfl⟩
 have b1 := bel_nw hW1
 have P1 := blk_nw hW1
 have K1 : Hid (∀ W, Calls Try.prog 43 #[.int .i64 f, .agg #[.int .i64 sf, .int .u64 sh, .int .u64 sl]] W fun e w' => e = .returned (.bool false) ∧ Below W.heap.size W w') := fun W => by
  have := rightEnd_any f sf sh sl W
  rw [hs] at this
  exact this
 have d0 := P1.cell 0 (.int .i64 f) rfl
 have d1 := P1.cell 1 (.int .i64 sf) rfl
 have d2 := P1.cell 2 (.int .u64 sh) rfl
 have d3 := P1.cell 3 (.int .u64 sl) rfl
 clear hs
 go_enter Try.func33, Try.ntmps33
 go_wp2_with fail
 refine Calls.mono (K1.out _) ?_
 rintro e W2 ⟨rfl, bb⟩
 have P2 := P1.kept bb
 have b2 := bel_tr b1 bb
 clear K1 bb P1 b1 hW1 d0 d1 d2 d3
 clear P2
 go_wp2
 go_ret
 exact ⟨rfl, b2⟩
set_option maxRecDepth 100000 in
set_option maxHeartbeats 4000000 in
theorem wrong_d (f sf sh sl df dh dl pr ho : Int) (fg : Bool) (id of : Int) (mo : Bool) (xa : Option Addr) (xn xc : Nat) (da : Option Addr) (dn dc : Nat) (w : World) (hs : (Ad.right ⟨sf, sh, sl⟩ && (sf == f)) = true) (hd : (Ad.right ⟨df, dh, dl⟩ && (df == f)) = false) :
  Calls Try.prog 33 #[.agg #[.int .i64 f, .int .i64 sf, .int .u64 sh, .int .u64 sl, .int .i64 df, .int .u64 dh, .int .u64 dl, .int .i64 pr, .int .i64 ho, .bool fg, .int .u32 id, .int .i64 of, .bool mo, .slice xa xn xc, .slice da dn dc]] w fun e w' => e = .returned (.int .i64 1) ∧ Below w.heap.size w w' := by
 obtain ⟨W1, hW1⟩ : ∃ W, w.alloc (.cells #[.int .i64 f, .int .i64 sf, .int .u64 sh, .int .u64 sl, .int .i64 df, .int .u64 dh, .int .u64 dl, .int .i64 pr, .int .i64 ho, .bool fg, .int .u32 id, .int .i64 of, .bool mo, .slice xa xn xc, .slice da dn dc] 42) = W := ⟨_, rfl⟩
 have b1 := bel_nw hW1
 have P1 := blk_nw hW1
 have K1 : Hid (∀ W, Calls Try.prog 43 #[.int .i64 f, .agg #[.int .i64 sf, .int .u64 sh, .int .u64 sl]] W fun e w' => e = .returned (.bool true) ∧ Below W.heap.size W w') := fun W => by
  have := rightEnd_any f sf sh sl W
  rw [hs] at this
  exact this
 have K2 : Hid (∀ W, Calls Try.prog 43 #[.int .i64 f, .agg #[.int .i64 df, .int .u64 dh, .int .u64 dl]] W fun e w' => e = .returned (.bool false) ∧ Below W.heap.size W w') := fun W => by
  have := rightEnd_any f df dh dl W
  rw [hd] at this
  exact this
 have d0 := P1.cell 0 (.int .i64 f) rfl
 have d1 := P1.cell 1 (.int .i64 sf) rfl
 have d2 := P1.cell 2 (.int .u64 sh) rfl
 have d3 := P1.cell 3 (.int .u64 sl) rfl
 clear hs hd
 go_enter Try.func33, Try.ntmps33
 go_wp2_with fail
 refine Calls.mono (K1.out _) ?_
 rintro e W2 ⟨rfl, bb⟩
 have P2 := P1.kept bb
 have b2 := bel_tr b1 bb
 clear K1 bb P1 b1 hW1 d0 d1 d2 d3
 have d0 := P2.cell 0 (.int .i64 f) rfl
 have d4 := P2.cell 4 (.int .i64 df) rfl
 have d5 := P2.cell 5 (.int .u64 dh) rfl
 have d6 := P2.cell 6 (.int .u64 dl) rfl
 go_wp2_with fail
 refine Calls.mono (K2.out _) ?_
 rintro e W3 ⟨rfl, bb⟩
 have P3 := P2.kept bb
 have b3 := bel_tr b2 bb
 clear K2 bb P2 b2 d0 d4 d5 d6
 clear P3
 go_wp2
 go_ret
 exact ⟨rfl, b3⟩
set_option maxRecDepth 100000 in
set_option maxHeartbeats 4000000 in
theorem wrong_o1 (f sf sh sl df dh dl pr ho : Int) (fg : Bool) (id of : Int) (mo : Bool) (xa : Option Addr) (xn xc : Nat) (da : Option Addr) (dn dc : Nat) (w : World) (hs : (Ad.right ⟨sf, sh, sl⟩ && (sf == f)) = true) (hd : (Ad.right ⟨df, dh, dl⟩ && (df == f)) = true) (h1 : of < 0) :
  Calls Try.prog 33 #[.agg #[.int .i64 f, .int .i64 sf, .int .u64 sh, .int .u64 sl, .int .i64 df, .int .u64 dh, .int .u64 dl, .int .i64 pr, .int .i64 ho, .bool fg, .int .u32 id, .int .i64 of, .bool mo, .slice xa xn xc, .slice da dn dc]] w fun e w' => e = .returned (.int .i64 1) ∧ Below w.heap.size w w' := by
 obtain ⟨W1, hW1⟩ : ∃ W, w.alloc (.cells #[.int .i64 f, .int .i64 sf, .int .u64 sh, .int .u64 sl, .int .i64 df, .int .u64 dh, .int .u64 dl, .int .i64 pr, .int .i64 ho, .bool fg, .int .u32 id, .int .i64 of, .bool mo, .slice xa xn xc, .slice da dn dc] 42) = W := ⟨_, rfl⟩
 have b1 := bel_nw hW1
 have P1 := blk_nw hW1
 have K1 : Hid (∀ W, Calls Try.prog 43 #[.int .i64 f, .agg #[.int .i64 sf, .int .u64 sh, .int .u64 sl]] W fun e w' => e = .returned (.bool true) ∧ Below W.heap.size W w') := fun W => by
  have := rightEnd_any f sf sh sl W
  rw [hs] at this
  exact this
 have K2 : Hid (∀ W, Calls Try.prog 43 #[.int .i64 f, .agg #[.int .i64 df, .int .u64 dh, .int .u64 dl]] W fun e w' => e = .returned (.bool true) ∧ Below W.heap.size W w') := fun W => by
  have := rightEnd_any f df dh dl W
  rw [hd] at this
  exact this
 have d0 := P1.cell 0 (.int .i64 f) rfl
 have d1 := P1.cell 1 (.int .i64 sf) rfl
 have d2 := P1.cell 2 (.int .u64 sh) rfl
 have d3 := P1.cell 3 (.int .u64 sl) rfl
 clear hs hd
 go_enter Try.func33, Try.ntmps33
 go_wp2_with fail
 refine Calls.mono (K1.out _) ?_
 rintro e W2 ⟨rfl, bb⟩
 have P2 := P1.kept bb
 have b2 := bel_tr b1 bb
 clear K1 bb P1 b1 hW1 d0 d1 d2 d3
 have d0 := P2.cell 0 (.int .i64 f) rfl
 have d4 := P2.cell 4 (.int .i64 df) rfl
 have d5 := P2.cell 5 (.int .u64 dh) rfl
 have d6 := P2.cell 6 (.int .u64 dl) rfl
 go_wp2_with fail
 refine Calls.mono (K2.out _) ?_
 rintro e W3 ⟨rfl, bb⟩
 have P3 := P2.kept bb
 have b3 := bel_tr b2 bb
 clear K2 bb P2 b2 d0 d4 d5 d6
 have d11 := P3.cell 11 (.int .i64 of) rfl
 have d12 := P3.cell 12 (.bool mo) rfl
 have d14 := P3.cell 14 (.slice da dn dc) rfl
 clear P3
 go_wp2
 go_ret
 exact ⟨rfl, b3⟩
set_option maxRecDepth 100000 in
set_option maxHeartbeats 4000000 in
theorem wrong_o2 (f sf sh sl df dh dl pr ho : Int) (fg : Bool) (id of : Int) (mo : Bool) (xa : Option Addr) (xn xc : Nat) (da : Option Addr) (dn dc : Nat) (w : World) (hs : (Ad.right ⟨sf, sh, sl⟩ && (sf == f)) = true) (hd : (Ad.right ⟨df, dh, dl⟩ && (df == f)) = true) (h1 : ¬ of < 0) (h2 : of > 65528) :
  Calls Try.prog 33 #[.agg #[.int .i64 f, .int .i64 sf, .int .u64 sh, .int .u64 sl, .int .i64 df, .int .u64 dh, .int .u64 dl, .int .i64 pr, .int .i64 ho, .bool fg, .int .u32 id, .int .i64 of, .bool mo, .slice xa xn xc, .slice da dn dc]] w fun e w' => e = .returned (.int .i64 1) ∧ Below w.heap.size w w' := by
 obtain ⟨W1, hW1⟩ : ∃ W, w.alloc (.cells #[.int .i64 f, .int .i64 sf, .int .u64 sh, .int .u64 sl, .int .i64 df, .int .u64 dh, .int .u64 dl, .int .i64 pr, .int .i64 ho, .bool fg, .int .u32 id, .int .i64 of, .bool mo, .slice xa xn xc, .slice da dn dc] 42) = W := ⟨_, rfl⟩
 have b1 := bel_nw hW1
 have P1 := blk_nw hW1
 have K1 : Hid (∀ W, Calls Try.prog 43 #[.int .i64 f, .agg #[.int .i64 sf, .int .u64 sh, .int .u64 sl]] W fun e w' => e = .returned (.bool true) ∧ Below W.heap.size W w') := fun W => by
  have := rightEnd_any f sf sh sl W
  rw [hs] at this
  exact this
 have K2 : Hid (∀ W, Calls Try.prog 43 #[.int .i64 f, .agg #[.int .i64 df, .int .u64 dh, .int .u64 dl]] W fun e w' => e = .returned (.bool true) ∧ Below W.heap.size W w') := fun W => by
  have := rightEnd_any f df dh dl W
  rw [hd] at this
  exact this
 have d0 := P1.cell 0 (.int .i64 f) rfl
 have d1 := P1.cell 1 (.int .i64 sf) rfl
 have d2 := P1.cell 2 (.int .u64 sh) rfl
 have d3 := P1.cell 3 (.int .u64 sl) rfl
 clear hs hd
 go_enter Try.func33, Try.ntmps33
 go_wp2_with fail
 refine Calls.mono (K1.out _) ?_
 rintro e W2 ⟨rfl, bb⟩
 have P2 := P1.kept bb
 have b2 := bel_tr b1 bb
 clear K1 bb P1 b1 hW1 d0 d1 d2 d3
 have d0 := P2.cell 0 (.int .i64 f) rfl
 have d4 := P2.cell 4 (.int .i64 df) rfl
 have d5 := P2.cell 5 (.int .u64 dh) rfl
 have d6 := P2.cell 6 (.int .u64 dl) rfl
 go_wp2_with fail
 refine Calls.mono (K2.out _) ?_
 rintro e W3 ⟨rfl, bb⟩
 have P3 := P2.kept bb
 have b3 := bel_tr b2 bb
 clear K2 bb P2 b2 d0 d4 d5 d6
 have d11 := P3.cell 11 (.int .i64 of) rfl
 have d12 := P3.cell 12 (.bool mo) rfl
 have d14 := P3.cell 14 (.slice da dn dc) rfl
 clear P3
 go_wp2
 go_ret
 exact ⟨rfl, b3⟩
set_option maxRecDepth 100000 in
set_option maxHeartbeats 4000000 in
theorem wrong_o3 (f sf sh sl df dh dl pr ho : Int) (fg : Bool) (id of : Int) (mo : Bool) (xa : Option Addr) (xn xc : Nat) (da : Option Addr) (dn dc : Nat) (w : World) (hs : (Ad.right ⟨sf, sh, sl⟩ && (sf == f)) = true) (hd : (Ad.right ⟨df, dh, dl⟩ && (df == f)) = true) (h1 : ¬ of < 0) (h2 : ¬ of > 65528) (h3 : ¬ of % 8 = 0) :
  Calls Try.prog 33 #[.agg #[.int .i64 f, .int .i64 sf, .int .u64 sh, .int .u64 sl, .int .i64 df, .int .u64 dh, .int .u64 dl, .int .i64 pr, .int .i64 ho, .bool fg, .int .u32 id, .int .i64 of, .bool mo, .slice xa xn xc, .slice da dn dc]] w fun e w' => e = .returned (.int .i64 1) ∧ Below w.heap.size w w' := by
 obtain ⟨W1, hW1⟩ : ∃ W, w.alloc (.cells #[.int .i64 f, .int .i64 sf, .int .u64 sh, .int .u64 sl, .int .i64 df, .int .u64 dh, .int .u64 dl, .int .i64 pr, .int .i64 ho, .bool fg, .int .u32 id, .int .i64 of, .bool mo, .slice xa xn xc, .slice da dn dc] 42) = W := ⟨_, rfl⟩
 have b1 := bel_nw hW1
 have P1 := blk_nw hW1
 have K1 : Hid (∀ W, Calls Try.prog 43 #[.int .i64 f, .agg #[.int .i64 sf, .int .u64 sh, .int .u64 sl]] W fun e w' => e = .returned (.bool true) ∧ Below W.heap.size W w') := fun W => by
  have := rightEnd_any f sf sh sl W
  rw [hs] at this
  exact this
 have K2 : Hid (∀ W, Calls Try.prog 43 #[.int .i64 f, .agg #[.int .i64 df, .int .u64 dh, .int .u64 dl]] W fun e w' => e = .returned (.bool true) ∧ Below W.heap.size W w') := fun W => by
  have := rightEnd_any f df dh dl W
  rw [hd] at this
  exact this
 have d0 := P1.cell 0 (.int .i64 f) rfl
 have d1 := P1.cell 1 (.int .i64 sf) rfl
 have d2 := P1.cell 2 (.int .u64 sh) rfl
 have d3 := P1.cell 3 (.int .u64 sl) rfl
 have t8 : (of % 8 != 0) = true := by simpa using h3
 clear hs hd
 go_enter Try.func33, Try.ntmps33
 go_wp2_with fail
 refine Calls.mono (K1.out _) ?_
 rintro e W2 ⟨rfl, bb⟩
 have P2 := P1.kept bb
 have b2 := bel_tr b1 bb
 clear K1 bb P1 b1 hW1 d0 d1 d2 d3
 have d0 := P2.cell 0 (.int .i64 f) rfl
 have d4 := P2.cell 4 (.int .i64 df) rfl
 have d5 := P2.cell 5 (.int .u64 dh) rfl
 have d6 := P2.cell 6 (.int .u64 dl) rfl
 go_wp2_with fail
 refine Calls.mono (K2.out _) ?_
 rintro e W3 ⟨rfl, bb⟩
 have P3 := P2.kept bb
 have b3 := bel_tr b2 bb
 clear K2 bb P2 b2 d0 d4 d5 d6
 have d11 := P3.cell 11 (.int .i64 of) rfl
 have d12 := P3.cell 12 (.bool mo) rfl
 have d14 := P3.cell 14 (.slice da dn dc) rfl
 clear P3
 go_wp2
 go_ret
 exact ⟨rfl, b3⟩
set_option maxRecDepth 100000 in
set_option maxHeartbeats 4000000 in
theorem wrong_o4 (f sf sh sl df dh dl pr ho : Int) (fg : Bool) (id of : Int) (mo : Bool) (xa : Option Addr) (xn xc : Nat) (da : Option Addr) (dn dc : Nat) (w : World) (hn : dn ≤ 140737488355328) (hs : (Ad.right ⟨sf, sh, sl⟩ && (sf == f)) = true) (hd : (Ad.right ⟨df, dh, dl⟩ && (df == f)) = true) (h1 : ¬ of < 0) (h2 : ¬ of > 65528) (h3 : of % 8 = 0) (h4 : (dn : Int) > 65535 - of) :
  Calls Try.prog 33 #[.agg #[.int .i64 f, .int .i64 sf, .int .u64 sh, .int .u64 sl, .int .i64 df, .int .u64 dh, .int .u64 dl, .int .i64 pr, .int .i64 ho, .bool fg, .int .u32 id, .int .i64 of, .bool mo, .slice xa xn xc, .slice da dn dc]] w fun e w' => e = .returned (.int .i64 1) ∧ Below w.heap.size w w' := by
 obtain ⟨W1, hW1⟩ : ∃ W, w.alloc (.cells #[.int .i64 f, .int .i64 sf, .int .u64 sh, .int .u64 sl, .int .i64 df, .int .u64 dh, .int .u64 dl, .int .i64 pr, .int .i64 ho, .bool fg, .int .u32 id, .int .i64 of, .bool mo, .slice xa xn xc, .slice da dn dc] 42) = W := ⟨_, rfl⟩
 have b1 := bel_nw hW1
 have P1 := blk_nw hW1
 have K1 : Hid (∀ W, Calls Try.prog 43 #[.int .i64 f, .agg #[.int .i64 sf, .int .u64 sh, .int .u64 sl]] W fun e w' => e = .returned (.bool true) ∧ Below W.heap.size W w') := fun W => by
  have := rightEnd_any f sf sh sl W
  rw [hs] at this
  exact this
 have K2 : Hid (∀ W, Calls Try.prog 43 #[.int .i64 f, .agg #[.int .i64 df, .int .u64 dh, .int .u64 dl]] W fun e w' => e = .returned (.bool true) ∧ Below W.heap.size W w') := fun W => by
  have := rightEnd_any f df dh dl W
  rw [hd] at this
  exact this
 have d0 := P1.cell 0 (.int .i64 f) rfl
 have d1 := P1.cell 1 (.int .i64 sf) rfl
 have d2 := P1.cell 2 (.int .u64 sh) rfl
 have d3 := P1.cell 3 (.int .u64 sl) rfl
 have t8 : (of % 8 != 0) = false := by simpa using h3
 clear hs hd
 go_enter Try.func33, Try.ntmps33
 go_wp2_with fail
 refine Calls.mono (K1.out _) ?_
 rintro e W2 ⟨rfl, bb⟩
 have P2 := P1.kept bb
 have b2 := bel_tr b1 bb
 clear K1 bb P1 b1 hW1 d0 d1 d2 d3
 have d0 := P2.cell 0 (.int .i64 f) rfl
 have d4 := P2.cell 4 (.int .i64 df) rfl
 have d5 := P2.cell 5 (.int .u64 dh) rfl
 have d6 := P2.cell 6 (.int .u64 dl) rfl
 go_wp2_with fail
 refine Calls.mono (K2.out _) ?_
 rintro e W3 ⟨rfl, bb⟩
 have P3 := P2.kept bb
 have b3 := bel_tr b2 bb
 clear K2 bb P2 b2 d0 d4 d5 d6
 have d11 := P3.cell 11 (.int .i64 of) rfl
 have d12 := P3.cell 12 (.bool mo) rfl
 have d14 := P3.cell 14 (.slice da dn dc) rfl
 clear P3
 go_wp2
 go_ret
 exact ⟨rfl, b3⟩
set_option maxRecDepth 100000 in
set_option maxHeartbeats 4000000 in
theorem wrong_l0 (f sf sh sl df dh dl pr ho : Int) (fg : Bool) (id of : Int) (mo : Bool) (xa : Option Addr) (xn xc : Nat) (da : Option Addr) (dc : Nat) (w : World) (hs : (Ad.right ⟨sf, sh, sl⟩ && (sf == f)) = true) (hd : (Ad.right ⟨df, dh, dl⟩ && (df == f)) = true) (h1 : ¬ of < 0) (h2 : ¬ of > 65528) (h3 : of % 8 = 0) (h4 : ¬ (0 : Int) > 65535 - of) :
  Calls Try.prog 33 #[.agg #[.int .i64 f, .int .i64 sf, .int .u64 sh, .int .u64 sl, .int .i64 df, .int .u64 dh, .int .u64 dl, .int .i64 pr, .int .i64 ho, .bool fg, .int .u32 id, .int .i64 of, .bool mo, .slice xa xn xc, .slice da 0 dc]] w fun e w' => e = .returned (.int .i64 5) ∧ Below w.heap.size w w' := by
 obtain ⟨W1, hW1⟩ : ∃ W, w.alloc (.cells #[.int .i64 f, .int .i64 sf, .int .u64 sh, .int .u64 sl, .int .i64 df, .int .u64 dh, .int .u64 dl, .int .i64 pr, .int .i64 ho, .bool fg, .int .u32 id, .int .i64 of, .bool mo, .slice xa xn xc, .slice da 0 dc] 42) = W := ⟨_, rfl⟩
 have b1 := bel_nw hW1
 have P1 := blk_nw hW1
 have K1 : Hid (∀ W, Calls Try.prog 43 #[.int .i64 f, .agg #[.int .i64 sf, .int .u64 sh, .int .u64 sl]] W fun e w' => e = .returned (.bool true) ∧ Below W.heap.size W w') := fun W => by
  have := rightEnd_any f sf sh sl W
  rw [hs] at this
  exact this
 have K2 : Hid (∀ W, Calls Try.prog 43 #[.int .i64 f, .agg #[.int .i64 df, .int .u64 dh, .int .u64 dl]] W fun e w' => e = .returned (.bool true) ∧ Below W.heap.size W w') := fun W => by
  have := rightEnd_any f df dh dl W
  rw [hd] at this
  exact this
 have d0 := P1.cell 0 (.int .i64 f) rfl
 have d1 := P1.cell 1 (.int .i64 sf) rfl
 have d2 := P1.cell 2 (.int .u64 sh) rfl
 have d3 := P1.cell 3 (.int .u64 sl) rfl
 have t8 : (of % 8 != 0) = false := by simpa using h3
 clear hs hd
 go_enter Try.func33, Try.ntmps33
 go_wp2_with fail
 refine Calls.mono (K1.out _) ?_
 rintro e W2 ⟨rfl, bb⟩
 have P2 := P1.kept bb
 have b2 := bel_tr b1 bb
 clear K1 bb P1 b1 hW1 d0 d1 d2 d3
 have d0 := P2.cell 0 (.int .i64 f) rfl
 have d4 := P2.cell 4 (.int .i64 df) rfl
 have d5 := P2.cell 5 (.int .u64 dh) rfl
 have d6 := P2.cell 6 (.int .u64 dl) rfl
 go_wp2_with fail
 refine Calls.mono (K2.out _) ?_
 rintro e W3 ⟨rfl, bb⟩
 have P3 := P2.kept bb
 have b3 := bel_tr b2 bb
 clear K2 bb P2 b2 d0 d4 d5 d6
 have d11 := P3.cell 11 (.int .i64 of) rfl
 have d12 := P3.cell 12 (.bool mo) rfl
 have d14 := P3.cell 14 (.slice da 0 dc) rfl
 clear P3
 go_wp2
 go_ret
 exact ⟨rfl, b3⟩
set_option maxRecDepth 100000 in
set_option maxHeartbeats 4000000 in
theorem wrong_l8 (f sf sh sl df dh dl pr ho : Int) (fg : Bool) (id of : Int) (xa : Option Addr) (xn xc : Nat) (da : Option Addr) (dn dc : Nat) (w : World) (hn : dn ≤ 140737488355328) (hs : (Ad.right ⟨sf, sh, sl⟩ && (sf == f)) = true) (hd : (Ad.right ⟨df, dh, dl⟩ && (df == f)) = true) (h1 : ¬ of < 0) (h2 : ¬ of > 65528) (h3 : of % 8 = 0) (h4 : ¬ (dn : Int) > 65535 - of) (h5 : ¬ dn = 0) (h6 : ¬ dn % 8 = 0) :
  Calls Try.prog 33 #[.agg #[.int .i64 f, .int .i64 sf, .int .u64 sh, .int .u64 sl, .int .i64 df, .int .u64 dh, .int .u64 dl, .int .i64 pr, .int .i64 ho, .bool fg, .int .u32 id, .int .i64 of, .bool true, .slice xa xn xc, .slice da dn dc]] w fun e w' => e = .returned (.int .i64 5) ∧ Below w.heap.size w w' := by
 obtain ⟨W1, hW1⟩ : ∃ W, w.alloc (.cells #[.int .i64 f, .int .i64 sf, .int .u64 sh, .int .u64 sl, .int .i64 df, .int .u64 dh, .int .u64 dl, .int .i64 pr, .int .i64 ho, .bool fg, .int .u32 id, .int .i64 of, .bool true, .slice xa xn xc, .slice da dn dc] 42) = W := ⟨_, rfl⟩
 have b1 := bel_nw hW1
 have P1 := blk_nw hW1
 have K1 : Hid (∀ W, Calls Try.prog 43 #[.int .i64 f, .agg #[.int .i64 sf, .int .u64 sh, .int .u64 sl]] W fun e w' => e = .returned (.bool true) ∧ Below W.heap.size W w') := fun W => by
  have := rightEnd_any f sf sh sl W
  rw [hs] at this
  exact this
 have K2 : Hid (∀ W, Calls Try.prog 43 #[.int .i64 f, .agg #[.int .i64 df, .int .u64 dh, .int .u64 dl]] W fun e w' => e = .returned (.bool true) ∧ Below W.heap.size W w') := fun W => by
  have := rightEnd_any f df dh dl W
  rw [hd] at this
  exact this
 have d0 := P1.cell 0 (.int .i64 f) rfl
 have d1 := P1.cell 1 (.int .i64 sf) rfl
 have d2 := P1.cell 2 (.int .u64 sh) rfl
 have d3 := P1.cell 3 (.int .u64 sl) rfl
 have t8 : (of % 8 != 0) = false := by simpa using h3
 have n0 : ((dn : Int) == 0) = false := by simp; omega
 have m8 : ((dn : Int) % 8 != 0) = true := by simp; omega
 clear hs hd
 go_enter Try.func33, Try.ntmps33
 go_wp2_with fail
 refine Calls.mono (K1.out _) ?_
 rintro e W2 ⟨rfl, bb⟩
 have P2 := P1.kept bb
 have b2 := bel_tr b1 bb
 clear K1 bb P1 b1 hW1 d0 d1 d2 d3
 have d0 := P2.cell 0 (.int .i64 f) rfl
 have d4 := P2.cell 4 (.int .i64 df) rfl
 have d5 := P2.cell 5 (.int .u64 dh) rfl
 have d6 := P2.cell 6 (.int .u64 dl) rfl
 go_wp2_with fail
 refine Calls.mono (K2.out _) ?_
 rintro e W3 ⟨rfl, bb⟩
 have P3 := P2.kept bb
 have b3 := bel_tr b2 bb
 clear K2 bb P2 b2 d0 d4 d5 d6
 have d11 := P3.cell 11 (.int .i64 of) rfl
 have d12 := P3.cell 12 (.bool true) rfl
 have d14 := P3.cell 14 (.slice da dn dc) rfl
 clear P3
 go_wp2
 go_ret
 exact ⟨rfl, b3⟩
set_option maxRecDepth 100000 in
set_option maxHeartbeats 4000000 in
theorem wrong_y1 (f sf sh sl df dh dl pr ho : Int) (fg : Bool) (id of : Int) (xa : Option Addr) (xn xc : Nat) (da : Option Addr) (dn dc : Nat) (w : World) (hn : dn ≤ 140737488355328) (hs : (Ad.right ⟨sf, sh, sl⟩ && (sf == f)) = true) (hd : (Ad.right ⟨df, dh, dl⟩ && (df == f)) = true) (h1 : ¬ of < 0) (h2 : ¬ of > 65528) (h3 : of % 8 = 0) (h4 : ¬ (dn : Int) > 65535 - of) (h5 : ¬ dn = 0) (h6 : dn % 8 = 0) :
  Calls Try.prog 33 #[.agg #[.int .i64 f, .int .i64 sf, .int .u64 sh, .int .u64 sl, .int .i64 df, .int .u64 dh, .int .u64 dl, .int .i64 pr, .int .i64 ho, .bool fg, .int .u32 id, .int .i64 of, .bool true, .slice xa xn xc, .slice da dn dc]] w fun e w' => e = .returned (.int .i64 0) ∧ Below w.heap.size w w' := by
 obtain ⟨W1, hW1⟩ : ∃ W, w.alloc (.cells #[.int .i64 f, .int .i64 sf, .int .u64 sh, .int .u64 sl, .int .i64 df, .int .u64 dh, .int .u64 dl, .int .i64 pr, .int .i64 ho, .bool fg, .int .u32 id, .int .i64 of, .bool true, .slice xa xn xc, .slice da dn dc] 42) = W := ⟨_, rfl⟩
 have b1 := bel_nw hW1
 have P1 := blk_nw hW1
 have K1 : Hid (∀ W, Calls Try.prog 43 #[.int .i64 f, .agg #[.int .i64 sf, .int .u64 sh, .int .u64 sl]] W fun e w' => e = .returned (.bool true) ∧ Below W.heap.size W w') := fun W => by
  have := rightEnd_any f sf sh sl W
  rw [hs] at this
  exact this
 have K2 : Hid (∀ W, Calls Try.prog 43 #[.int .i64 f, .agg #[.int .i64 df, .int .u64 dh, .int .u64 dl]] W fun e w' => e = .returned (.bool true) ∧ Below W.heap.size W w') := fun W => by
  have := rightEnd_any f df dh dl W
  rw [hd] at this
  exact this
 have d0 := P1.cell 0 (.int .i64 f) rfl
 have d1 := P1.cell 1 (.int .i64 sf) rfl
 have d2 := P1.cell 2 (.int .u64 sh) rfl
 have d3 := P1.cell 3 (.int .u64 sl) rfl
 have t8 : (of % 8 != 0) = false := by simpa using h3
 have n0 : ((dn : Int) == 0) = false := by simp; omega
 have m8 : ((dn : Int) % 8 != 0) = false := by simp; omega
 clear h6
 clear hs hd
 go_enter Try.func33, Try.ntmps33
 go_wp2_with fail
 refine Calls.mono (K1.out _) ?_
 rintro e W2 ⟨rfl, bb⟩
 have P2 := P1.kept bb
 have b2 := bel_tr b1 bb
 clear K1 bb P1 b1 hW1 d0 d1 d2 d3
 have d0 := P2.cell 0 (.int .i64 f) rfl
 have d4 := P2.cell 4 (.int .i64 df) rfl
 have d5 := P2.cell 5 (.int .u64 dh) rfl
 have d6 := P2.cell 6 (.int .u64 dl) rfl
 go_wp2_with fail
 refine Calls.mono (K2.out _) ?_
 rintro e W3 ⟨rfl, bb⟩
 have P3 := P2.kept bb
 have b3 := bel_tr b2 bb
 clear K2 bb P2 b2 d0 d4 d5 d6
 have d11 := P3.cell 11 (.int .i64 of) rfl
 have d12 := P3.cell 12 (.bool true) rfl
 have d14 := P3.cell 14 (.slice da dn dc) rfl
 clear P3
 go_wp2
 go_ret
 exact ⟨rfl, b3⟩
set_option maxRecDepth 100000 in
set_option maxHeartbeats 4000000 in
theorem wrong_y2 (f sf sh sl df dh dl pr ho : Int) (fg : Bool) (id of : Int) (xa : Option Addr) (xn xc : Nat) (da : Option Addr) (dn dc : Nat) (w : World) (hn : dn ≤ 140737488355328) (hs : (Ad.right ⟨sf, sh, sl⟩ && (sf == f)) = true) (hd : (Ad.right ⟨df, dh, dl⟩ && (df == f)) = true) (h1 : ¬ of < 0) (h2 : ¬ of > 65528) (h3 : of % 8 = 0) (h4 : ¬ (dn : Int) > 65535 - of) (h5 : ¬ dn = 0) :
  Calls Try.prog 33 #[.agg #[.int .i64 f, .int .i64 sf, .int .u64 sh, .int .u64 sl, .int .i64 df, .int .u64 dh, .int .u64 dl, .int .i64 pr, .int .i64 ho, .bool fg, .int .u32 id, .int .i64 of, .bool false, .slice xa xn xc, .slice da dn dc]] w fun e w' => e = .returned (.int .i64 0) ∧ Below w.heap.size w w' := by
 obtain ⟨W1, hW1⟩ : ∃ W, w.alloc (.cells #[.int .i64 f, .int .i64 sf, .int .u64 sh, .int .u64 sl, .int .i64 df, .int .u64 dh, .int .u64 dl, .int .i64 pr, .int .i64 ho, .bool fg, .int .u32 id, .int .i64 of, .bool false, .slice xa xn xc, .slice da dn dc] 42) = W := ⟨_, rfl⟩
 have b1 := bel_nw hW1
 have P1 := blk_nw hW1
 have K1 : Hid (∀ W, Calls Try.prog 43 #[.int .i64 f, .agg #[.int .i64 sf, .int .u64 sh, .int .u64 sl]] W fun e w' => e = .returned (.bool true) ∧ Below W.heap.size W w') := fun W => by
  have := rightEnd_any f sf sh sl W
  rw [hs] at this
  exact this
 have K2 : Hid (∀ W, Calls Try.prog 43 #[.int .i64 f, .agg #[.int .i64 df, .int .u64 dh, .int .u64 dl]] W fun e w' => e = .returned (.bool true) ∧ Below W.heap.size W w') := fun W => by
  have := rightEnd_any f df dh dl W
  rw [hd] at this
  exact this
 have d0 := P1.cell 0 (.int .i64 f) rfl
 have d1 := P1.cell 1 (.int .i64 sf) rfl
 have d2 := P1.cell 2 (.int .u64 sh) rfl
 have d3 := P1.cell 3 (.int .u64 sl) rfl
 have t8 : (of % 8 != 0) = false := by simpa using h3
 have n0 : ((dn : Int) == 0) = false := by simp; omega
 clear hs hd
 go_enter Try.func33, Try.ntmps33
 go_wp2_with fail
 refine Calls.mono (K1.out _) ?_
 rintro e W2 ⟨rfl, bb⟩
 have P2 := P1.kept bb
 have b2 := bel_tr b1 bb
 clear K1 bb P1 b1 hW1 d0 d1 d2 d3
 have d0 := P2.cell 0 (.int .i64 f) rfl
 have d4 := P2.cell 4 (.int .i64 df) rfl
 have d5 := P2.cell 5 (.int .u64 dh) rfl
 have d6 := P2.cell 6 (.int .u64 dl) rfl
 go_wp2_with fail
 refine Calls.mono (K2.out _) ?_
 rintro e W3 ⟨rfl, bb⟩
 have P3 := P2.kept bb
 have b3 := bel_tr b2 bb
 clear K2 bb P2 b2 d0 d4 d5 d6
 have d11 := P3.cell 11 (.int .i64 of) rfl
 have d12 := P3.cell 12 (.bool false) rfl
 have d14 := P3.cell 14 (.slice da dn dc) rfl
 clear P3
 go_wp2
 go_ret
 exact ⟨rfl, b3⟩
theorem wrong_any (f sf sh sl df dh dl pr ho : Int) (fg : Bool) (id of : Int) (mo : Bool) (xa : Option Addr) (xn xc : Nat) (da : Option Addr) (dn dc : Nat) (w : World) (hn : dn ≤ 140737488355328) :
  Calls Try.prog 33 #[.agg #[.int .i64 f, .int .i64 sf, .int .u64 sh, .int .u64 sl, .int .i64 df, .int .u64 dh, .int .u64 dl, .int .i64 pr, .int .i64 ho, .bool fg, .int .u32 id, .int .i64 of, .bool mo, .slice xa xn xc, .slice da dn dc]] w fun e w' => e = .returned (.int .i64 (wrongF f ⟨sf, sh, sl⟩ ⟨df, dh, dl⟩ of mo dn)) ∧ Below w.heap.size w w' := by
 unfold wrongF
 cases hs : (Ad.right ⟨sf, sh, sl⟩ && (sf == f)) with
 | false => rw [if_pos (Or.inl rfl)]; exact wrong_s f sf sh sl df dh dl pr ho fg id of mo xa xn xc da dn dc w hs
 | true =>
 cases hd : (Ad.right ⟨df, dh, dl⟩ && (df == f)) with
 | false => rw [if_pos (Or.inr rfl)]; exact wrong_d f sf sh sl df dh dl pr ho fg id of mo xa xn xc da dn dc w hs hd
 | true =>
 rw [if_neg (by simp)]
 by_cases h1 : of < 0
 ·rw [if_pos (Or.inl h1)]; exact wrong_o1 f sf sh sl df dh dl pr ho fg id of mo xa xn xc da dn dc w hs hd h1
 by_cases h2 : of > 65528
 ·rw [if_pos (Or.inr (Or.inl h2))]; exact wrong_o2 f sf sh sl df dh dl pr ho fg id of mo xa xn xc da dn dc w hs hd h1 h2
 by_cases h3 : of % 8 = 0
 case neg => rw [if_pos (Or.inr (Or.inr (Or.inl h3)))]; exact wrong_o3 f sf sh sl df dh dl pr ho fg id of mo xa xn xc da dn dc w hs hd h1 h2 h3
 by_cases h4 : (dn : Int) > 65535 - of
 ·rw [if_pos (Or.inr (Or.inr (Or.inr h4)))]; exact wrong_o4 f sf sh sl df dh dl pr ho fg id of mo xa xn xc da dn dc w hn hs hd h1 h2 h3 h4
 rw [if_neg (by omega)]
 by_cases h5 : dn = 0
 ·rw [if_pos (Or.inl h5)]
  subst h5
  exact wrong_l0 f sf sh sl df dh dl pr ho fg id of mo xa xn xc da dc w hs hd h1 h2 h3 h4
 cases mo with
 | false => rw [if_neg (by simp; exact h5)]; exact wrong_y2 f sf sh sl df dh dl pr ho fg id of xa xn xc da dn dc w hn hs hd h1 h2 h3 h4 h5
 | true =>
  by_cases h6 : dn % 8 = 0
  ·rw [if_neg (by simp only [true_and, not_or]; exact ⟨h5, by simpa using h6⟩)]; exact wrong_y1 f sf sh sl df dh dl pr ho fg id of xa xn xc da dn dc w hn hs hd h1 h2 h3 h4 h5 h6
  ·rw [if_pos (Or.inr ⟨rfl, h6⟩)]; exact wrong_l8 f sf sh sl df dh dl pr ho fg id of xa xn xc da dn dc w hn hs hd h1 h2 h3 h4 h5 h6
end Go.Proofs.Ytkeeidfpgfdldaa
