/- Texts joined: TcO -/
import Derived.Test.YtmmnjjcopdabcaaTcx10
import Derived.Test.YtmmnjjcopdabcaaTcx24
import Derived.Test.YtmmnjjcopdabcaaTcx25
import Derived.ChangeKeysEq
namespace Go.Proofs.Ytmmnjjcopdabcaa
open Go.RowKit
set_option linter.unusedVariables false
set_option linter.unusedSimpArgs false
theorem step_tc (c : Cn) (i : Int) (g : Gt) (w : World) : Calls Try.prog 17 #[.agg c.v, .int .i64 i, .agg g.v] w fun e w' => e = .returned (.tuple #[.agg (c.step i g).1.v, .int .i64 (c.step i g).2]) ∧ Below w.heap.size w w' := by
 by_cases h0 : i = 0
 ·subst h0; exact step0_tc c g w
 by_cases h1 : i = 1
 ·subst h1; exact step1_tc c g w
 exact stepB_tc c i g w h0 h1
theorem eqU_tc (d : Nat) (a b a' b' : Int) (w : World) : (Op.equalIn (d + 2) 25 (.agg #[.int .u32 a, .int .u32 b]) (.agg #[.int .u32 a', .int .u32 b'])).run Try.prog w = .ok (a == a' && b == b') w := by
 obtain ⟨i, hi⟩ := Option.isSome_iff_exists.1 (show (Try.prog.info? 22).isSome = true by kernel_rfl)
 have hc : Try.prog.cellsOf 22 = 1 := by kernel_rfl
 rw [show d + 2 = (d + 1) + 1 from rfl, run_equalIn_array w (d + 1) _ _ Try.underlying25 hi, hc]
 show (Op.eqItems (d + 1) 22 1 _ _ [0, 1]).run Try.prog w = _
 cases h : (a == a') <;> cases h2 : (b == b') <;> simp [Op.eqItems, go_sem, h, h2] <;> simpa using h2
theorem eqL_tc (d : Nat) (a b a' b' : Bool) (w : World) : (Op.equalIn (d + 2) 26 (.agg #[.bool a, .bool b]) (.agg #[.bool a', .bool b'])).run Try.prog w = .ok (a == a' && b == b') w := by
 obtain ⟨i, hi⟩ := Option.isSome_iff_exists.1 (show (Try.prog.info? 4).isSome = true by kernel_rfl)
 have hc : Try.prog.cellsOf 4 = 1 := by kernel_rfl
 rw [show d + 2 = (d + 1) + 1 from rfl, run_equalIn_array w (d + 1) _ _ Try.underlying26 hi, hc]
 show (Op.eqItems (d + 1) 4 1 _ _ [0, 1]).run Try.prog w = _
 cases a <;> cases a' <;> cases b <;> cases b' <;> simp [Op.eqItems, go_sem]
set_option maxRecDepth 100000 in
set_option maxHeartbeats 4000000 in
theorem eql_cn (c : Cn) (w : World) : (Go.binOp .eql 28 (.agg c.v) (.agg c.v)).run Try.prog w = Result.ok (.bool true) w := by
 obtain ⟨st, n0, n1, e0, e1, k0, k1, d0, d1⟩ := c
 simp [go_sem, eqU_tc 9997, eqL_tc 9997]
set_option maxRecDepth 100000 in
set_option maxHeartbeats 4000000 in
theorem seg_tc (g : Gt) (w : World) : Calls Try.prog 18 #[.agg g.v] w fun e w' => e = .returned (.agg g.v) ∧ Below w.heap.size w w' := by
 obtain ⟨W1, hW1⟩ : ∃ W, w.alloc (.cells g.v 24) = W := ⟨_, rfl⟩
 have b1 := bel_nw hW1
 have G1 := blk_nw hW1
 obtain ⟨W2, hW2⟩ : ∃ W, W1.alloc (.cells #[.int .i64 0, .int .i64 0, .int .i64 0, .int .u32 0, .int .u32 0] 39) = W := ⟨_, rfl⟩
 have b2 := bel_al b1 hW2
 have G2 := G1.al hW2
 have Z2 := blk_nw hW2
 obtain ⟨c0, c1, c2, c3, c4⟩ := G2.gt
 have Zf := Z2.set g.v
 have bf := below_setRow b2 b1.size g.v
 clear b1 G1
 go_enter Try.func18, Try.ntmps18
 go_wp2_with (refine wpList_store_row rfl _ _ _ rfl W1.heap.size g.v (by rfl) (by rfl) _ _ Z2 (by kernel_rfl) (by rfl) (by kernel_rfl) ?_)
 exact ret_cell (k := 2) Try.f18 (by kernel_rfl) Zf Try.underlying39 (by kernel_rfl) (by rfl) rfl ⟨rfl, bf⟩
theorem alive_b : beg 2 100 1000 0 = ((⟨1, 101, 0, 101, 1000, true, false, false, false⟩ : Cn), (0 : Int)) := by kernel_rfl
theorem alive_1 : Cn.step ⟨1, 101, 0, 101, 1000, true, false, false, false⟩ 1 ⟨18, 2000, 0, 500, 101⟩ = ((⟨2, 101, 501, 2101, 1501, true, true, false, false⟩ : Cn), (0 : Int)) := by kernel_rfl
theorem alive_2 : Cn.step ⟨2, 101, 501, 2101, 1501, true, true, false, false⟩ 0 ⟨16, 1000, 0, 101, 501⟩ = ((⟨3, 101, 501, 2101, 1501, true, true, false, false⟩ : Cn), (0 : Int)) := by kernel_rfl
theorem alive_l : Cn.life ⟨3, 101, 501, 2101, 1501, true, true, false, false⟩ = 3600 := by kernel_rfl
set_option maxRecDepth 100000 in
set_option maxHeartbeats 4000000 in
theorem alive_tc (w : World) : Calls Try.prog 12 #[] w fun e w' => e = .returned (.bool true) ∧ Below w.heap.size w w' := by
 have KB : Hid (∀ W, Calls Try.prog 10 #[.int .i64 2, .int .u32 100, .int .i64 1000, .int .i64 0] W fun e w' => e = .returned (.tuple #[.agg (Cn.v ⟨1, 101, 0, 101, 1000, true, false, false, false⟩), .int .i64 0]) ∧ Below W.heap.size W w') := fun W => by have h := begin_tc 2 100 1000 0 W; rw [alive_b] at h; exact h
 have K1 : Hid (∀ W, Calls Try.prog 17 #[.agg (Cn.v ⟨1, 101, 0, 101, 1000, true, false, false, false⟩), .int .i64 1, .agg (Gt.v ⟨18, 2000, 0, 500, 101⟩)] W fun e w' => e = .returned (.tuple #[.agg (Cn.v ⟨2, 101, 501, 2101, 1501, true, true, false, false⟩), .int .i64 0]) ∧ Below W.heap.size W w') := fun W => by have h := step1_tc ⟨1, 101, 0, 101, 1000, true, false, false, false⟩ ⟨18, 2000, 0, 500, 101⟩ W; rw [alive_1] at h; exact h
 have K2 : Hid (∀ W, Calls Try.prog 17 #[.agg (Cn.v ⟨2, 101, 501, 2101, 1501, true, true, false, false⟩), .int .i64 0, .agg (Gt.v ⟨16, 1000, 0, 101, 501⟩)] W fun e w' => e = .returned (.tuple #[.agg (Cn.v ⟨3, 101, 501, 2101, 1501, true, true, false, false⟩), .int .i64 0]) ∧ Below W.heap.size W w') := fun W => by have h := step0_tc ⟨2, 101, 501, 2101, 1501, true, true, false, false⟩ ⟨16, 1000, 0, 101, 501⟩ W; rw [alive_2] at h; exact h
 have KF : Hid (∀ W, Calls Try.prog 15 #[.agg (Cn.v ⟨3, 101, 501, 2101, 1501, true, true, false, false⟩)] W fun e w' => e = .returned (.int .i64 3600) ∧ Below W.heap.size W w') := fun W => by have h := life_tc ⟨3, 101, 501, 2101, 1501, true, true, false, false⟩ W; rw [alive_l] at h; exact h
 go_enter Try.func12, Try.ntmps12
 go_wp2_with fail
 refine Calls.mono (KB.out _) ?_
 rintro e Wk1 ⟨rfl, bb⟩
 have bk1 := bb
 obtain ⟨Wyk2, hWyk2⟩ : ∃ W, Wk1.alloc (.cells #[.int .i64 0, .int .u32 0, .int .u32 0, .int .u32 0, .int .u32 0, .bool false, .bool false, .bool false, .bool false] 28) = W := ⟨_, rfl⟩
 have Bbyk2 := blk_nw hWyk2
 have byk2 := bel_al bk1 hWyk2
 have gC : w.heap.size ≤ Wk1.heap.size := bk1.size
 obtain ⟨Wk2, hWk2⟩ : ∃ W, Wyk2.setRow Wk1.heap.size (Cn.v ⟨1, 101, 0, 101, 1000, true, false, false, false⟩) = W := ⟨_, rfl⟩
 have Ck2 : Blk Wk2 Wk1.heap.size 28 (Cn.v ⟨1, 101, 0, 101, 1000, true, false, false, false⟩) := hWk2 ▸ Bbyk2.set _
 have bk2 := hWk2 ▸ below_setRow byk2 gC (Cn.v ⟨1, 101, 0, 101, 1000, true, false, false, false⟩)
 clear byk2
 clear  bk1
 go_wp2_with (first | (refine wpList_load_blk_w (by rfl) _ _ rfl Wk1.heap.size (by rfl) _ Ck2 Try.underlying28 (by kernel_rfl) ?_) | (refine wpList_store_row rfl _ _ _ rfl Wk1.heap.size (Cn.v ⟨1, 101, 0, 101, 1000, true, false, false, false⟩) (by rfl) (by rfl) _ _ Bbyk2 (by kernel_rfl) (by rfl) (by kernel_rfl) ?_; rw [hWk2]))
 refine Calls.mono (K1.out _) ?_
 rintro e Wk3 ⟨rfl, bb⟩
 have Ck3 := Ck2.kept bb
 have bk3 := bel_tr bk2 bb
 clear bb
 clear Ck2 bk2
 obtain ⟨Wyk4, hWyk4⟩ : ∃ W, Wk3.alloc (.cells #[.int .i64 0, .int .u32 0, .int .u32 0, .int .u32 0, .int .u32 0, .bool false, .bool false, .bool false, .bool false] 28) = W := ⟨_, rfl⟩
 have Bbyk4 := blk_nw hWyk4
 have Cyk4 := Ck3.al hWyk4
 have byk4 := bel_al bk3 hWyk4
 have gD : w.heap.size ≤ Wk3.heap.size := bk3.size
 have nCD : Wk1.heap.size ≠ Wk3.heap.size := by have := Ck3.lt; omega
 have nDC : Wk3.heap.size ≠ Wk1.heap.size := fun e => nCD e.symm
 obtain ⟨Wk4, hWk4⟩ : ∃ W, Wyk4.setRow Wk3.heap.size (Cn.v ⟨2, 101, 501, 2101, 1501, true, true, false, false⟩) = W := ⟨_, rfl⟩
 have Dk4 : Blk Wk4 Wk3.heap.size 28 (Cn.v ⟨2, 101, 501, 2101, 1501, true, true, false, false⟩) := hWk4 ▸ Bbyk4.set _
 have Ck4 := hWk4 ▸ Cyk4.other nCD (Cn.v ⟨2, 101, 501, 2101, 1501, true, true, false, false⟩)
 have bk4 := hWk4 ▸ below_setRow byk4 gD (Cn.v ⟨2, 101, 501, 2101, 1501, true, true, false, false⟩)
 clear Cyk4 byk4
 clear Ck3 bk3
 go_wp2_with (first | (refine wpList_load_blk_w (by rfl) _ _ rfl Wk1.heap.size (by rfl) _ Ck4 Try.underlying28 (by kernel_rfl) ?_) | (refine wpList_load_blk_w (by rfl) _ _ rfl Wk3.heap.size (by rfl) _ Dk4 Try.underlying28 (by kernel_rfl) ?_) | (refine wpList_store_row rfl _ _ _ rfl Wk3.heap.size (Cn.v ⟨2, 101, 501, 2101, 1501, true, true, false, false⟩) (by rfl) (by rfl) _ _ Bbyk4 (by kernel_rfl) (by rfl) (by kernel_rfl) ?_; rw [hWk4]))
 refine Calls.mono (K2.out _) ?_
 rintro e Wk5 ⟨rfl, bb⟩
 have Ck5 := Ck4.kept bb
 have Dk5 := Dk4.kept bb
 have bk5 := bel_tr bk4 bb
 clear bb
 clear Ck4 Dk4 bk4
 obtain ⟨Wyk6, hWyk6⟩ : ∃ W, Wk5.alloc (.cells #[.int .i64 0, .int .u32 0, .int .u32 0, .int .u32 0, .int .u32 0, .bool false, .bool false, .bool false, .bool false] 28) = W := ⟨_, rfl⟩
 have Bbyk6 := blk_nw hWyk6
 have Cyk6 := Ck5.al hWyk6
 have Dyk6 := Dk5.al hWyk6
 have byk6 := bel_al bk5 hWyk6
 have gO : w.heap.size ≤ Wk5.heap.size := bk5.size
 have nCO : Wk1.heap.size ≠ Wk5.heap.size := by have := Ck5.lt; omega
 have nOC : Wk5.heap.size ≠ Wk1.heap.size := fun e => nCO e.symm
 have nDO : Wk3.heap.size ≠ Wk5.heap.size := by have := Dk5.lt; omega
 have nOD : Wk5.heap.size ≠ Wk3.heap.size := fun e => nDO e.symm
 obtain ⟨Wk6, hWk6⟩ : ∃ W, Wyk6.setRow Wk5.heap.size (Cn.v ⟨3, 101, 501, 2101, 1501, true, true, false, false⟩) = W := ⟨_, rfl⟩
 have Ok6 : Blk Wk6 Wk5.heap.size 28 (Cn.v ⟨3, 101, 501, 2101, 1501, true, true, false, false⟩) := hWk6 ▸ Bbyk6.set _
 have Ck6 := hWk6 ▸ Cyk6.other nCO (Cn.v ⟨3, 101, 501, 2101, 1501, true, true, false, false⟩)
 have Dk6 := hWk6 ▸ Dyk6.other nDO (Cn.v ⟨3, 101, 501, 2101, 1501, true, true, false, false⟩)
 have bk6 := hWk6 ▸ below_setRow byk6 gO (Cn.v ⟨3, 101, 501, 2101, 1501, true, true, false, false⟩)
 clear Cyk6 Dyk6 byk6
 clear Ck5 Dk5 bk5
 have d0 := Dk6.cell 0 (.int .i64 2) rfl
 have o0 := Ok6.cell 0 (.int .i64 3) rfl
 have o3 := Ok6.cell 3 (.int .u32 2101) rfl
 have o4 := Ok6.cell 4 (.int .u32 1501) rfl
 go_wp2_with (first | (refine wpList_load_blk_w (by rfl) _ _ rfl Wk1.heap.size (by rfl) _ Ck6 Try.underlying28 (by kernel_rfl) ?_) | (refine wpList_load_blk_w (by rfl) _ _ rfl Wk3.heap.size (by rfl) _ Dk6 Try.underlying28 (by kernel_rfl) ?_) | (refine wpList_load_blk_w (by rfl) _ _ rfl Wk5.heap.size (by rfl) _ Ok6 Try.underlying28 (by kernel_rfl) ?_) | (refine wpList_store_row rfl _ _ _ rfl Wk5.heap.size (Cn.v ⟨3, 101, 501, 2101, 1501, true, true, false, false⟩) (by rfl) (by rfl) _ _ Bbyk6 (by kernel_rfl) (by rfl) (by kernel_rfl) ?_; rw [hWk6]))
 refine Calls.mono (KF.out _) ?_
 rintro e Wk7 ⟨rfl, bb⟩
 have Ck7 := Ck6.kept bb
 have Dk7 := Dk6.kept bb
 have Ok7 := Ok6.kept bb
 have bk7 := bel_tr bk6 bb
 clear bb
 clear Ck6 Dk6 Ok6 bk6
 go_wp2
 go_ret
 exact ⟨rfl, bk7⟩
end Go.Proofs.Ytmmnjjcopdabcaa
