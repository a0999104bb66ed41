/- Texts joined: TcL -/
import Derived.Test.YtmmnjjcopdabcaaTcx16
namespace Go.Proofs.Ytmmnjjcopdabcaa
open Go.RowKit
set_option linter.unusedVariables false
set_option linter.unusedSimpArgs false
set_option maxRecDepth 100000 in
set_option maxHeartbeats 4000000 in
theorem rright_tc (c : Cn) (w : World) :
  Calls Try.prog 14 #[.agg c.v] w fun e w' => e = .returned (.bool c.right) ∧ Below w.heap.size w w' := by
 obtain ⟨R, hR⟩ : ∃ R, c.right = R := ⟨_, rfl⟩
 have HR : Hid (c.right = R) := hR
 rw [hR]
 clear hR
 obtain ⟨st, n0, n1, e0, e1, k0, k1, d0, d1⟩ := c
 by_cases h1 : st = 1
 ·subst h1
  obtain ⟨W1, hW1⟩ : ∃ W, w.alloc (.cells (Cn.v ⟨1, n0, n1, e0, e1, k0, k1, d0, d1⟩) 28) = W := ⟨_, rfl⟩
  have b1 := bel_nw hW1
  have C1 := blk_nw hW1
  cases k0 <;> cases k1 <;> cases d0 <;> cases d1 <;> (
   have c0 := C1.cell 0 (.int .i64 1) rfl
   have c5 := C1.cell 5 _ rfl
   have c6 := C1.cell 6 _ rfl
   have c7 := C1.cell 7 _ rfl
   have c8 := C1.cell 8 _ rfl
   go_enter Try.func14, Try.ntmps14
   go_wp2
   all_goals (go_ret; exact ⟨retB_tc (by rw [← HR.out]; rfl), b1⟩))

 by_cases h2 : st = 2
 ·subst h2
  obtain ⟨W1, hW1⟩ : ∃ W, w.alloc (.cells (Cn.v ⟨2, n0, n1, e0, e1, k0, k1, d0, d1⟩) 28) = W := ⟨_, rfl⟩
  have b1 := bel_nw hW1
  have C1 := blk_nw hW1
  cases k0 <;> cases k1 <;> cases d0 <;> cases d1 <;> (
   have c0 := C1.cell 0 (.int .i64 2) rfl
   have c5 := C1.cell 5 _ rfl
   have c6 := C1.cell 6 _ rfl
   have c7 := C1.cell 7 _ rfl
   have c8 := C1.cell 8 _ rfl
   go_enter Try.func14, Try.ntmps14
   go_wp2
   all_goals (go_ret; exact ⟨retB_tc (by rw [← HR.out]; rfl), b1⟩))

 by_cases h3 : st = 3
 ·subst h3
  obtain ⟨W1, hW1⟩ : ∃ W, w.alloc (.cells (Cn.v ⟨3, n0, n1, e0, e1, k0, k1, d0, d1⟩) 28) = W := ⟨_, rfl⟩
  have b1 := bel_nw hW1
  have C1 := blk_nw hW1
  cases k0 <;> cases k1 <;> cases d0 <;> cases d1 <;> (
   have c0 := C1.cell 0 (.int .i64 3) rfl
   have c5 := C1.cell 5 _ rfl
   have c6 := C1.cell 6 _ rfl
   have c7 := C1.cell 7 _ rfl
   have c8 := C1.cell 8 _ rfl
   go_enter Try.func14, Try.ntmps14
   go_wp2
   all_goals (go_ret; exact ⟨retB_tc (by rw [← HR.out]; rfl), b1⟩))

 by_cases h4 : st = 4
 ·subst h4
  obtain ⟨W1, hW1⟩ : ∃ W, w.alloc (.cells (Cn.v ⟨4, n0, n1, e0, e1, k0, k1, d0, d1⟩) 28) = W := ⟨_, rfl⟩
  have b1 := bel_nw hW1
  have C1 := blk_nw hW1
  cases k0 <;> cases k1 <;> cases d0 <;> cases d1 <;> (
   have c0 := C1.cell 0 (.int .i64 4) rfl
   have c5 := C1.cell 5 _ rfl
   have c6 := C1.cell 6 _ rfl
   have c7 := C1.cell 7 _ rfl
   have c8 := C1.cell 8 _ rfl
   go_enter Try.func14, Try.ntmps14
   go_wp2
   all_goals (go_ret; exact ⟨retB_tc (by rw [← HR.out]; rfl), b1⟩))

 by_cases h5 : st = 5
 ·subst h5
  obtain ⟨W1, hW1⟩ : ∃ W, w.alloc (.cells (Cn.v ⟨5, n0, n1, e0, e1, k0, k1, d0, d1⟩) 28) = W := ⟨_, rfl⟩
  have b1 := bel_nw hW1
  have C1 := blk_nw hW1
  cases k0 <;> cases k1 <;> cases d0 <;> cases d1 <;> (
   have c0 := C1.cell 0 (.int .i64 5) rfl
   have c5 := C1.cell 5 _ rfl
   have c6 := C1.cell 6 _ rfl
   have c7 := C1.cell 7 _ rfl
   have c8 := C1.cell 8 _ rfl
   go_enter Try.func14, Try.ntmps14
   go_wp2
   all_goals (go_ret; exact ⟨retB_tc (by rw [← HR.out]; rfl), b1⟩))

 by_cases h6 : st = 6
 ·subst h6
  obtain ⟨W1, hW1⟩ : ∃ W, w.alloc (.cells (Cn.v ⟨6, n0, n1, e0, e1, k0, k1, d0, d1⟩) 28) = W := ⟨_, rfl⟩
  have b1 := bel_nw hW1
  have C1 := blk_nw hW1
  cases k0 <;> cases k1 <;> cases d0 <;> cases d1 <;> (
   have c0 := C1.cell 0 (.int .i64 6) rfl
   have c5 := C1.cell 5 _ rfl
   have c6 := C1.cell 6 _ rfl
   have c7 := C1.cell 7 _ rfl
   have c8 := C1.cell 8 _ rfl
   go_enter Try.func14, Try.ntmps14
   go_wp2
   all_goals (go_ret; exact ⟨retB_tc (by rw [← HR.out]; rfl), b1⟩))

 have HO : Hid (st ≠ 1 ∧ st ≠ 2 ∧ st ≠ 3 ∧ st ≠ 4 ∧ st ≠ 5 ∧ st ≠ 6) := ⟨h1, h2, h3, h4, h5, h6⟩
 clear h1 h2 h3 h4 h5 h6
 obtain rfl : false = R := by rw [← HR.out]; simp [Cn.right, HO.out]
 clear HR
 by_cases hl : st < 1
 ·obtain ⟨W1, hW1⟩ : ∃ W, w.alloc (.cells (Cn.v ⟨st, n0, n1, e0, e1, k0, k1, d0, d1⟩) 28) = W := ⟨_, rfl⟩
  have b1 := bel_nw hW1
  have C1 := blk_nw hW1
  have c0 := C1.cell 0 (.int .i64 st) rfl
  go_enter Try.func14, Try.ntmps14
  go_wp2
  go_ret
  exact ⟨rfl, b1⟩
 ·have hg : 6 < st := by have := HO.out; omega
  obtain ⟨W1, hW1⟩ : ∃ W, w.alloc (.cells (Cn.v ⟨st, n0, n1, e0, e1, k0, k1, d0, d1⟩) 28) = W := ⟨_, rfl⟩
  have b1 := bel_nw hW1
  have C1 := blk_nw hW1
  have c0 := C1.cell 0 (.int .i64 st) rfl
  go_enter Try.func14, Try.ntmps14
  go_wp2
  go_ret
  exact ⟨rfl, b1⟩
set_option maxRecDepth 100000 in
set_option maxHeartbeats 4000000 in
theorem rlife_tc (c : Cn) (w : World) :
  Calls Try.prog 16 #[.agg c.v] w fun e w' => e = .returned (.int .i64 c.life) ∧ Below w.heap.size w w' := by
 obtain ⟨R, hR⟩ : ∃ R, c.life = R := ⟨_, rfl⟩
 have HR : Hid ((if c.right then (if c.st == 3 then 3600 else if c.st == 4 then 60 else if c.st == 6 then 1 else 30) else 0) = R) := hR
 rw [hR]
 clear hR
 have KR : Hid (∀ W, Calls Try.prog 14 #[.agg c.v] W fun e w' => e = .returned (.bool c.right) ∧ Below W.heap.size W w') := fun W => rright_tc c W
 generalize c.right = Q at *
 generalize h3 : (c.st == 3) = X3 at *
 generalize h4 : (c.st == 4) = X4 at *
 generalize h6 : (c.st == 6) = X6 at *
 obtain ⟨W1, hW1⟩ : ∃ W, w.alloc (.cells c.v 28) = W := ⟨_, rfl⟩
 have b1 := bel_nw hW1
 have C1 := blk_nw hW1
 go_enter Try.func16, Try.ntmps16
 go_wp2_with (refine wpList_load_blk_w (by rfl) _ _ rfl w.heap.size (by rfl) _ C1 Try.underlying28 (by kernel_rfl) ?_)
 refine Calls.mono (KR.out _) ?_
 rintro e W2 ⟨rfl, bb⟩
 have C2 := C1.kept bb
 have b2 := bel_tr b1 bb
 clear bb
 have c0 := C2.cell 0 (.int .i64 c.st) rfl
 cases Q with
 | false =>
  go_wp2
  go_ret
  exact ⟨retN_tc (by rw [← HR.out]; first | rfl | simp), b2⟩

 | true =>
  cases X3 with
  | false =>
   cases X4 with
   | false =>
    cases X6 with
    | false =>
     go_wp2
     go_ret
     exact ⟨retN_tc (by rw [← HR.out]; first | rfl | simp), b2⟩

    | true =>
     go_wp2
     go_ret
     exact ⟨retN_tc (by rw [← HR.out]; first | rfl | simp), b2⟩


   | true =>
    go_wp2
    go_ret
    exact ⟨retN_tc (by rw [← HR.out]; first | rfl | simp), b2⟩


  | true =>
   go_wp2
   go_ret
   exact ⟨retN_tc (by rw [← HR.out]; first | rfl | simp), b2⟩
set_option maxRecDepth 100000 in
set_option maxHeartbeats 4000000 in
theorem rbegin_tc (f sq win sz : Int) (w : World) :
  Calls Try.prog 11 #[.int .i64 f, .int .u32 sq, .int .i64 win, .int .i64 sz] w fun e w' => e = .returned (.tuple #[.agg (beg f sq win sz).1.v, .int .i64 (beg f sq win sz).2]) ∧ Below w.heap.size w w' := by
 obtain ⟨R, hR⟩ : ∃ R, beg f sq win sz = R := ⟨_, rfl⟩
 have HR : Hid ((if inB15 win && inB15 sz then (if bits .and .i64 f 23 == 2 && sz == 0 then (⟨1, (sq + 1) % 4294967296, 0, (sq + 1) % 4294967296, win % 4294967296, true, false, false, false⟩, 0) else (cn0, 23)) else (cn0, 1)) = R) := hR
 rw [hR]
 clear hR
 have KW : Hid (∀ W, Calls Try.prog 22 #[.int .i64 win] W fun e w' => e = .returned (.bool (inB15 win)) ∧ Below W.heap.size W w') := fun W => rin_tc win W
 have KZ : Hid (∀ W, Calls Try.prog 22 #[.int .i64 sz] W fun e w' => e = .returned (.bool (inB15 sz)) ∧ Below W.heap.size W w') := fun W => rin_tc sz W
 generalize inB15 win = P at *
 generalize inB15 sz = Q at *
 have e2 : (bits .and .i64 f 23 != 2) = !(bits .and .i64 f 23 == 2) := rfl
 have e3 : (sz != 0) = !(sz == 0) := rfl
 generalize (bits .and .i64 f 23 == 2) = F at *
 generalize (sz == 0) = N at *
 obtain ⟨W1, hW1⟩ : ∃ W, w.alloc (.cells #[.int .i64 0, .int .u32 0, .int .u32 0, .int .u32 0, .int .u32 0, .bool false, .bool false, .bool false, .bool false] 28) = W := ⟨_, rfl⟩
 have b1 := bel_nw hW1
 have Z1 := blk_nw hW1
 have gZ : w.heap.size ≤ w.heap.size := Nat.le_refl _
 go_enter Try.func11, Try.ntmps11
 go_wp2_with fail
 refine Calls.mono (KW.out _) ?_
 rintro e W2 ⟨rfl, bb⟩
 have Z2 := Z1.kept bb
 have b2 := bel_tr b1 bb
 clear bb
 clear Z1 b1
 cases P with
 | false =>
  have Zf := Z2.set cn0.v
  have bf := below_setRow b2 gZ cn0.v
  go_wp2_with (refine wpList_store_row rfl _ _ _ rfl w.heap.size cn0.v (by rfl) (by rfl) _ _ Z2 (by kernel_rfl) (by rfl) (by kernel_rfl) ?_)
  obtain rfl : (cn0, (1 : Int)) = R := by rw [← HR.out]; first | rfl | simp
  exact ret_cell_tmp (k := 8) (j := 9) Try.f11 (by kernel_rfl) Zf Try.underlying28 (by kernel_rfl) (by rfl) (by rfl) rfl ⟨rfl, bf⟩

 | true =>
  go_wp2_with fail
  refine Calls.mono (KZ.out _) ?_
  rintro e W3 ⟨rfl, bb⟩
  have Z3 := Z2.kept bb
  have b3 := bel_tr b2 bb
  clear bb
  clear Z2 b2
  cases Q with
  | false =>
   have Zf := Z3.set cn0.v
   have bf := below_setRow b3 gZ cn0.v
   go_wp2_with (refine wpList_store_row rfl _ _ _ rfl w.heap.size cn0.v (by rfl) (by rfl) _ _ Z3 (by kernel_rfl) (by rfl) (by kernel_rfl) ?_)
   obtain rfl : (cn0, (1 : Int)) = R := by rw [← HR.out]; first | rfl | simp
   exact ret_cell_tmp (k := 8) (j := 9) Try.f11 (by kernel_rfl) Zf Try.underlying28 (by kernel_rfl) (by rfl) (by rfl) rfl ⟨rfl, bf⟩

  | true =>
   cases F with
   | false =>
    try dsimp only [Bool.not_true, Bool.not_false] at e2 e3
    have Zf := Z3.set cn0.v
    have bf := below_setRow b3 gZ cn0.v
    go_wp2_with (refine wpList_store_row rfl _ _ _ rfl w.heap.size cn0.v (by rfl) (by rfl) _ _ Z3 (by kernel_rfl) (by rfl) (by kernel_rfl) ?_)
    obtain rfl : (cn0, (23 : Int)) = R := by rw [← HR.out]; first | rfl | simp
    exact ret_cell_tmp (k := 8) (j := 9) Try.f11 (by kernel_rfl) Zf Try.underlying28 (by kernel_rfl) (by rfl) (by rfl) rfl ⟨rfl, bf⟩

   | true =>
    cases N with
    | false =>
     try dsimp only [Bool.not_true, Bool.not_false] at e2 e3
     have Zf := Z3.set cn0.v
     have bf := below_setRow b3 gZ cn0.v
     go_wp2_with (refine wpList_store_row rfl _ _ _ rfl w.heap.size cn0.v (by rfl) (by rfl) _ _ Z3 (by kernel_rfl) (by rfl) (by kernel_rfl) ?_)
     obtain rfl : (cn0, (23 : Int)) = R := by rw [← HR.out]; first | rfl | simp
     exact ret_cell_tmp (k := 8) (j := 9) Try.f11 (by kernel_rfl) Zf Try.underlying28 (by kernel_rfl) (by rfl) (by rfl) rfl ⟨rfl, bf⟩

    | true =>
     try dsimp only [Bool.not_true, Bool.not_false] at e2 e3
     obtain ⟨Wy, hWy⟩ : ∃ W, W3.alloc (.cells #[.int .i64 0, .int .u32 0, .int .u32 0, .int .u32 0, .int .u32 0, .bool false, .bool false, .bool false, .bool false] 28) = W := ⟨_, rfl⟩
     have Y1 := blk_nw hWy
     have Zy := Z3.al hWy
     have by_ := bel_al b3 hWy
     have nZY : w.heap.size ≠ W3.heap.size := by have := Z3.lt; omega
     have gY : w.heap.size ≤ W3.heap.size := by have := Z3.lt; omega
     obtain ⟨W5, hW5⟩ : ∃ W, Wy.setRow W3.heap.size #[.int .i64 1, .int .u32 0, .int .u32 0, .int .u32 0, .int .u32 0, .bool false, .bool false, .bool false, .bool false] = W := ⟨_, rfl⟩
     have C5 : Blk W5 W3.heap.size 28 (Cn.v ⟨1, 0, 0, 0, 0, false, false, false, false⟩) := hW5 ▸ Y1.set _
     have Z5 := hW5 ▸ Zy.other nZY #[.int .i64 1, .int .u32 0, .int .u32 0, .int .u32 0, .int .u32 0, .bool false, .bool false, .bool false, .bool false]
     have b5 := hW5 ▸ below_setRow by_ gY #[.int .i64 1, .int .u32 0, .int .u32 0, .int .u32 0, .int .u32 0, .bool false, .bool false, .bool false, .bool false]
     have y5 := C5.cell 5 (.bool false) rfl
     have z5 := C5.frozen 5
     obtain ⟨W5p, hW5p⟩ : ∃ W, W5.setCell ⟨W3.heap.size, 5, none⟩ (.bool true) = W := ⟨_, rfl⟩
     have C5p : Blk W5p W3.heap.size 28 (Cn.v ⟨1, 0, 0, 0, 0, true, false, false, false⟩) := hW5p ▸ C5.put 5 (.bool true)
     have Z5p := hW5p ▸ Z5.put_other C5 nZY 5 (.bool true)
     have b5p := hW5p ▸ b5.setCell (p := ⟨W3.heap.size, 5, none⟩) gY (.bool true)
     have y1 := C5p.cell 1 (.int .u32 0) rfl
     have z1 := C5p.frozen 1
     obtain ⟨W5pp, hW5pp⟩ : ∃ W, W5p.setCell ⟨W3.heap.size, 1, none⟩ (.int .u32 ((sq + 1) % 4294967296)) = W := ⟨_, rfl⟩
     have C5pp : Blk W5pp W3.heap.size 28 (Cn.v ⟨1, ((sq + 1) % 4294967296), 0, 0, 0, true, false, false, false⟩) := hW5pp ▸ C5p.put 1 (.int .u32 ((sq + 1) % 4294967296))
     have Z5pp := hW5pp ▸ Z5p.put_other C5p nZY 1 (.int .u32 ((sq + 1) % 4294967296))
     have b5pp := hW5pp ▸ b5p.setCell (p := ⟨W3.heap.size, 1, none⟩) gY (.int .u32 ((sq + 1) % 4294967296))
     have y3 := C5pp.cell 3 (.int .u32 0) rfl
     have z3 := C5pp.frozen 3
     obtain ⟨W5ppp, hW5ppp⟩ : ∃ W, W5pp.setCell ⟨W3.heap.size, 3, none⟩ (.int .u32 ((sq + 1) % 4294967296)) = W := ⟨_, rfl⟩
     have C5ppp : Blk W5ppp W3.heap.size 28 (Cn.v ⟨1, ((sq + 1) % 4294967296), 0, ((sq + 1) % 4294967296), 0, true, false, false, false⟩) := hW5ppp ▸ C5pp.put 3 (.int .u32 ((sq + 1) % 4294967296))
     have Z5ppp := hW5ppp ▸ Z5pp.put_other C5pp nZY 3 (.int .u32 ((sq + 1) % 4294967296))
     have b5ppp := hW5ppp ▸ b5pp.setCell (p := ⟨W3.heap.size, 3, none⟩) gY (.int .u32 ((sq + 1) % 4294967296))
     have y4 := C5ppp.cell 4 (.int .u32 0) rfl
     have z4 := C5ppp.frozen 4
     obtain ⟨W5pppp, hW5pppp⟩ : ∃ W, W5ppp.setCell ⟨W3.heap.size, 4, none⟩ (.int .u32 (win % 4294967296)) = W := ⟨_, rfl⟩
     have C5pppp : Blk W5pppp W3.heap.size 28 (Cn.v ⟨1, ((sq + 1) % 4294967296), 0, ((sq + 1) % 4294967296), (win % 4294967296), true, false, false, false⟩) := hW5pppp ▸ C5ppp.put 4 (.int .u32 (win % 4294967296))
     have Z5pppp := hW5pppp ▸ Z5ppp.put_other C5ppp nZY 4 (.int .u32 (win % 4294967296))
     have b5pppp := hW5pppp ▸ b5ppp.setCell (p := ⟨W3.heap.size, 4, none⟩) gY (.int .u32 (win % 4294967296))
     have Zf := Z5pppp.set (Cn.v ⟨1, (sq + 1) % 4294967296, 0, (sq + 1) % 4294967296, win % 4294967296, true, false, false, false⟩)
     have bf := below_setRow b5pppp gZ (Cn.v ⟨1, (sq + 1) % 4294967296, 0, (sq + 1) % 4294967296, win % 4294967296, true, false, false, false⟩)
     go_wp2_with (first | (refine wpList_store_row rfl _ _ _ rfl W3.heap.size #[.int .i64 1, .int .u32 0, .int .u32 0, .int .u32 0, .int .u32 0, .bool false, .bool false, .bool false, .bool false] (by rfl) (by rfl) _ _ Y1 (by kernel_rfl) (by rfl) (by kernel_rfl) ?_; rw [hW5]) | (refine wpList_load_blk_w (by rfl) _ _ rfl W3.heap.size (by rfl) _ C5pppp Try.underlying28 (by kernel_rfl) ?_) | (refine wpList_store_row rfl _ _ _ rfl w.heap.size (Cn.v ⟨1, (sq + 1) % 4294967296, 0, (sq + 1) % 4294967296, win % 4294967296, true, false, false, false⟩) (by rfl) (by rfl) _ _ Z5pppp (by kernel_rfl) (by rfl) (by kernel_rfl) ?_))
     obtain rfl : ((⟨1, (sq + 1) % 4294967296, 0, (sq + 1) % 4294967296, win % 4294967296, true, false, false, false⟩ : Cn), (0 : Int)) = R := by rw [← HR.out]; first | rfl | simp
     exact ret_cell_tmp (k := 8) (j := 9) Try.f11 (by kernel_rfl) Zf Try.underlying28 (by kernel_rfl) (by rfl) (by rfl) rfl ⟨rfl, bf⟩
end Go.Proofs.Ytmmnjjcopdabcaa
