/- Texts joined: Ip6Bw -/
import Derived.Test.YtmnkdogdligckaaIp6zb33
namespace Go.Proofs.Ytmnkdogdligckaa
open Go.RowKit
set_option linter.unusedVariables false
set_option linter.unusedSimpArgs false
set_option maxRecDepth 100000 in
set_option maxHeartbeats 4000000 in
theorem bare6_f (f sf sh sl df dh dl pr ho : Int) (id of : Int) (mo : Bool) (xa : Option Addr) (xn xc : Nat) (da : Option Addr) (dn dc : Nat) (w : World) :
    Calls Try.prog 22 #[.agg #[.int .i64 f, .int .i64 sf, .int .u64 sh, .int .u64 sl, .int .i64 df, .int .u64 dh, .int .u64 dl, .int .i64 pr, .int .i64 ho, .bool false, .int .u32 id, .int .i64 of, .bool mo, .slice xa xn xc, .slice da dn dc]] w fun e w' => e = .returned (.agg #[.int .i64 f, .int .i64 sf, .int .u64 sh, .int .u64 sl, .int .i64 df, .int .u64 dh, .int .u64 dl, .int .i64 pr, .int .i64 ho, .bool false, .int .u32 0, .int .i64 0, .bool false, .slice xa xn xc, .slice da dn dc]) ∧ Below w.heap.size w w' := by
  obtain ⟨W1, hW1⟩ : ∃ W1, w.alloc (.cells #[.int .i64 f, .int .i64 sf, .int .u64 sh, .int .u64 sl, .int .i64 df, .int .u64 dh, .int .u64 dl, .int .i64 pr, .int .i64 ho, .bool false, .int .u32 id, .int .i64 of, .bool mo, .slice xa xn xc, .slice da dn dc] 38) = W1 := ⟨_, rfl⟩
  have b1 := bel_nw hW1
  have P1 := blk_nw hW1
  obtain ⟨W2, hW2⟩ : ∃ W2, W1.alloc (.cells #[.int .i64 0, .int .i64 0, .int .u64 0, .int .u64 0, .int .i64 0, .int .u64 0, .int .u64 0, .int .i64 0, .int .i64 0, .bool false, .int .u32 0, .int .i64 0, .bool false, .slice none 0 0, .slice none 0 0] 38) = W2 := ⟨_, rfl⟩
  have b2 := bel_al b1 hW2
  have P2 := P1.al hW2
  have R2 := blk_nw hW2
  have g1 : w.heap.size < W1.heap.size := P1.lt
  have d9 := P2.cell 9 (.bool false) rfl
  have v_3 := P2.cell 10 (.int .u32 id) rfl
  have z_3 := P2.frozen 10
  have P3 : Blk (W2.setCell ⟨w.heap.size, 10, none⟩ (.int .u32 0)) w.heap.size 38 #[.int .i64 f, .int .i64 sf, .int .u64 sh, .int .u64 sl, .int .i64 df, .int .u64 dh, .int .u64 dl, .int .i64 pr, .int .i64 ho, .bool false, .int .u32 0, .int .i64 of, .bool mo, .slice xa xn xc, .slice da dn dc] := P2.put 10 (.int .u32 0)
  have R3 := R2.put_other P2 (show W1.heap.size ≠ w.heap.size by omega) 10 (.int .u32 0)
  have b3 := b2.setCell (p := ⟨w.heap.size, 10, none⟩) (Nat.le_refl _) (.int .u32 0)
  obtain ⟨W3, hW3⟩ : ∃ W, W2.setCell ⟨w.heap.size, 10, none⟩ (.int .u32 0) = W := ⟨_, rfl⟩
  rw [hW3] at P3 R3 b3
  have v_4 := P3.cell 11 (.int .i64 of) rfl
  have z_4 := P3.frozen 11
  have P4 : Blk (W3.setCell ⟨w.heap.size, 11, none⟩ (.int .i64 0)) w.heap.size 38 #[.int .i64 f, .int .i64 sf, .int .u64 sh, .int .u64 sl, .int .i64 df, .int .u64 dh, .int .u64 dl, .int .i64 pr, .int .i64 ho, .bool false, .int .u32 0, .int .i64 0, .bool mo, .slice xa xn xc, .slice da dn dc] := P3.put 11 (.int .i64 0)
  have R4 := R3.put_other P3 (show W1.heap.size ≠ w.heap.size by omega) 11 (.int .i64 0)
  have b4 := b3.setCell (p := ⟨w.heap.size, 11, none⟩) (Nat.le_refl _) (.int .i64 0)
  obtain ⟨W4, hW4⟩ : ∃ W, W3.setCell ⟨w.heap.size, 11, none⟩ (.int .i64 0) = W := ⟨_, rfl⟩
  rw [hW4] at P4 R4 b4
  have v_5 := P4.cell 12 (.bool mo) rfl
  have z_5 := P4.frozen 12
  have P5 : Blk (W4.setCell ⟨w.heap.size, 12, none⟩ (.bool false)) w.heap.size 38 #[.int .i64 f, .int .i64 sf, .int .u64 sh, .int .u64 sl, .int .i64 df, .int .u64 dh, .int .u64 dl, .int .i64 pr, .int .i64 ho, .bool false, .int .u32 0, .int .i64 0, .bool false, .slice xa xn xc, .slice da dn dc] := P4.put 12 (.bool false)
  have R5 := R4.put_other P4 (show W1.heap.size ≠ w.heap.size by omega) 12 (.bool false)
  have b5 := b4.setCell (p := ⟨w.heap.size, 12, none⟩) (Nat.le_refl _) (.bool false)
  obtain ⟨W5, hW5⟩ : ∃ W, W4.setCell ⟨w.heap.size, 12, none⟩ (.bool false) = W := ⟨_, rfl⟩
  rw [hW5] at P5 R5 b5
  go_enter Try.func22, Try.ntmps22
  have Rf := R5.set #[.int .i64 f, .int .i64 sf, .int .u64 sh, .int .u64 sl, .int .i64 df, .int .u64 dh, .int .u64 dl, .int .i64 pr, .int .i64 ho, .bool false, .int .u32 0, .int .i64 0, .bool false, .slice xa xn xc, .slice da dn dc]
  have bf := below_setRow b5 (Nat.le_of_lt g1) #[.int .i64 f, .int .i64 sf, .int .u64 sh, .int .u64 sl, .int .i64 df, .int .u64 dh, .int .u64 dl, .int .i64 pr, .int .i64 ho, .bool false, .int .u32 0, .int .i64 0, .bool false, .slice xa xn xc, .slice da dn dc]
  go_wp2_with (first
    | (refine wpList_load_row rfl _ _ rfl w.heap.size (by rfl) _ _ _ _ P5 Try.underlying38 rfl (by kernel_rfl) ?_)
    | (refine wpList_store_row rfl _ _ _ rfl W1.heap.size #[.int .i64 f, .int .i64 sf, .int .u64 sh, .int .u64 sl, .int .i64 df, .int .u64 dh, .int .u64 dl, .int .i64 pr, .int .i64 ho, .bool false, .int .u32 0, .int .i64 0, .bool false, .slice xa xn xc, .slice da dn dc] (by rfl) (by rfl) _ _ R5 (by kernel_rfl) (by rfl) (by kernel_rfl) ?_))
  exact ret_cell (k := 2) Try.f22 (by kernel_rfl) Rf Try.underlying38 (by kernel_rfl) (by rfl) rfl ⟨rfl, bf⟩
set_option maxRecDepth 100000 in
set_option maxHeartbeats 4000000 in
theorem bare6_t (f sf sh sl df dh dl pr ho : Int) (id of : Int) (mo : Bool) (xa : Option Addr) (xn xc : Nat) (da : Option Addr) (dn dc : Nat) (w : World) :
    Calls Try.prog 22 #[.agg #[.int .i64 f, .int .i64 sf, .int .u64 sh, .int .u64 sl, .int .i64 df, .int .u64 dh, .int .u64 dl, .int .i64 pr, .int .i64 ho, .bool true, .int .u32 id, .int .i64 of, .bool mo, .slice xa xn xc, .slice da dn dc]] w fun e w' => ∃ g, e = .returned (.agg #[.int .i64 f, .int .i64 sf, .int .u64 sh, .int .u64 sl, .int .i64 df, .int .u64 dh, .int .u64 dl, .int .i64 pr, .int .i64 ho, .bool true, .int .u32 id, .int .i64 of, .bool mo, .slice (some ⟨g, 0, none⟩) 1 1, .slice da dn dc]) ∧ RowI w' (some ⟨g, 0, none⟩) [44] ∧ Below w.heap.size w w' := by
  obtain ⟨W1, hW1⟩ : ∃ W1, w.alloc (.cells #[.int .i64 f, .int .i64 sf, .int .u64 sh, .int .u64 sl, .int .i64 df, .int .u64 dh, .int .u64 dl, .int .i64 pr, .int .i64 ho, .bool true, .int .u32 id, .int .i64 of, .bool mo, .slice xa xn xc, .slice da dn dc] 38) = W1 := ⟨_, rfl⟩
  have b1 := bel_nw hW1
  have P1 := blk_nw hW1
  obtain ⟨W2, hW2⟩ : ∃ W2, W1.alloc (.cells #[.int .i64 0, .int .i64 0, .int .u64 0, .int .u64 0, .int .i64 0, .int .u64 0, .int .u64 0, .int .i64 0, .int .i64 0, .bool false, .int .u32 0, .int .i64 0, .bool false, .slice none 0 0, .slice none 0 0] 38) = W2 := ⟨_, rfl⟩
  have b2 := bel_al b1 hW2
  have P2 := P1.al hW2
  have R2 := blk_nw hW2
  have g1 : w.heap.size < W1.heap.size := P1.lt
  have d9 := P2.cell 9 (.bool true) rfl
  obtain ⟨W3, hW3⟩ : ∃ W, W2.alloc (.cells #[.int .i64 44] 3) = W := ⟨_, rfl⟩
  have b3 := bel_al b2 hW3
  have P3 := P2.al hW3
  have R3 := R2.al hW3
  have E3 := blk_nw hW3
  have g2 : w.heap.size < W2.heap.size := P2.lt
  have g3 : W1.heap.size < W2.heap.size := R2.lt
  have v_4 := P3.cell 13 (.slice xa xn xc) rfl
  have z_4 := P3.frozen 13
  have P4 : Blk (W3.setCell ⟨w.heap.size, 13, none⟩ (.slice (some ⟨W2.heap.size, 0, none⟩) 1 1)) w.heap.size 38 #[.int .i64 f, .int .i64 sf, .int .u64 sh, .int .u64 sl, .int .i64 df, .int .u64 dh, .int .u64 dl, .int .i64 pr, .int .i64 ho, .bool true, .int .u32 id, .int .i64 of, .bool mo, .slice (some ⟨W2.heap.size, 0, none⟩) 1 1, .slice da dn dc] := P3.put 13 (.slice (some ⟨W2.heap.size, 0, none⟩) 1 1)
  have R4 := R3.put_other P3 (show W1.heap.size ≠ w.heap.size by omega) 13 (.slice (some ⟨W2.heap.size, 0, none⟩) 1 1)
  have b4 := b3.setCell (p := ⟨w.heap.size, 13, none⟩) (Nat.le_refl _) (.slice (some ⟨W2.heap.size, 0, none⟩) 1 1)
  have E4 := E3.put_other P3 (show W2.heap.size ≠ w.heap.size by omega) 13 (.slice (some ⟨W2.heap.size, 0, none⟩) 1 1)
  obtain ⟨W4, hW4⟩ : ∃ W, W3.setCell ⟨w.heap.size, 13, none⟩ (.slice (some ⟨W2.heap.size, 0, none⟩) 1 1) = W := ⟨_, rfl⟩
  rw [hW4] at P4 R4 b4 E4
  go_enter Try.func22, Try.ntmps22
  have Rf := R4.set #[.int .i64 f, .int .i64 sf, .int .u64 sh, .int .u64 sl, .int .i64 df, .int .u64 dh, .int .u64 dl, .int .i64 pr, .int .i64 ho, .bool true, .int .u32 id, .int .i64 of, .bool mo, .slice (some ⟨W2.heap.size, 0, none⟩) 1 1, .slice da dn dc]
  have bf := below_setRow b4 (Nat.le_of_lt g1) #[.int .i64 f, .int .i64 sf, .int .u64 sh, .int .u64 sl, .int .i64 df, .int .u64 dh, .int .u64 dl, .int .i64 pr, .int .i64 ho, .bool true, .int .u32 id, .int .i64 of, .bool mo, .slice (some ⟨W2.heap.size, 0, none⟩) 1 1, .slice da dn dc]
  have Ef := E4.other (show W2.heap.size ≠ W1.heap.size by omega) #[.int .i64 f, .int .i64 sf, .int .u64 sh, .int .u64 sl, .int .i64 df, .int .u64 dh, .int .u64 dl, .int .i64 pr, .int .i64 ho, .bool true, .int .u32 id, .int .i64 of, .bool mo, .slice (some ⟨W2.heap.size, 0, none⟩) 1 1, .slice da dn dc]
  go_wp2_with (first
    | (refine wpList_load_row rfl _ _ rfl w.heap.size (by rfl) _ _ _ _ P4 Try.underlying38 rfl (by kernel_rfl) ?_)
    | (refine wpList_store_row rfl _ _ _ rfl W1.heap.size #[.int .i64 f, .int .i64 sf, .int .u64 sh, .int .u64 sl, .int .i64 df, .int .u64 dh, .int .u64 dl, .int .i64 pr, .int .i64 ho, .bool true, .int .u32 id, .int .i64 of, .bool mo, .slice (some ⟨W2.heap.size, 0, none⟩) 1 1, .slice da dn dc] (by rfl) (by rfl) _ _ R4 (by kernel_rfl) (by rfl) (by kernel_rfl) ?_))
  exact ret_cell (k := 2) Try.f22 (by kernel_rfl) Rf Try.underlying38 (by kernel_rfl) (by rfl) rfl ⟨W2.heap.size, rfl, ⟨by simp, fun _ => ⟨W2.heap.size, 0, rfl, fun i hi => (by obtain rfl : i = 0 := (by simpa using hi); exact Ef.cell 0 (.int .i64 44) rfl)⟩⟩, bf⟩
end Go.Proofs.Ytmnkdogdligckaa
