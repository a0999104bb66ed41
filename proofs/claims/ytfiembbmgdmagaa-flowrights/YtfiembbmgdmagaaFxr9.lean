/- Texts joined: TcL EnB -/
import Derived.Test.YtfiembbmgdmagaaFxr1
namespace Go.Proofs.Ytfiembbmgdmagaa
open Go.RowKit
set_option linter.unusedVariables false
set_option linter.unusedSimpArgs false
set_option maxRecDepth 100000 in
set_option maxHeartbeats 4000000 in
theorem rright_tc (c : Cn) (w : World) :
  Calls Try.prog 41 #[.agg c.v] w fun e w' => e = .returned (.bool c.right) ∧ Below w.heap.size w w' := by
 obtain ⟨R, hR⟩ : ∃ R, c.right = R := ⟨_, rfl⟩
 have HR : Hid (c.right = R) := hR
 rw [hR]
 clear hR
 obtain ⟨st, n0, n1, e0, e1, k0, k1, d0, d1⟩ := c
 by_cases h1 : st = 1
 ·subst h1
  obtain ⟨W1, hW1⟩ : ∃ W, w.alloc (.cells (Cn.v ⟨1, n0, n1, e0, e1, k0, k1, d0, d1⟩) 31) = W := ⟨_, rfl⟩
  have b1 := bel_nw hW1
  have C1 := blk_nw hW1
  cases k0 <;> cases k1 <;> cases d0 <;> cases d1 <;> (
   have c0 := C1.cell 0 (.int .i64 1) rfl
   have c5 := C1.cell 5 _ rfl
   have c6 := C1.cell 6 _ rfl
   have c7 := C1.cell 7 _ rfl
   have c8 := C1.cell 8 _ rfl
   go_enter Try.func41, Try.ntmps41
   go_wp2
   all_goals (go_ret; exact ⟨retB_tc (by rw [← HR.out]; rfl), b1⟩))

 by_cases h2 : st = 2
 ·subst h2
  obtain ⟨W1, hW1⟩ : ∃ W, w.alloc (.cells (Cn.v ⟨2, n0, n1, e0, e1, k0, k1, d0, d1⟩) 31) = W := ⟨_, rfl⟩
  have b1 := bel_nw hW1
  have C1 := blk_nw hW1
  cases k0 <;> cases k1 <;> cases d0 <;> cases d1 <;> (
   have c0 := C1.cell 0 (.int .i64 2) rfl
   have c5 := C1.cell 5 _ rfl
   have c6 := C1.cell 6 _ rfl
   have c7 := C1.cell 7 _ rfl
   have c8 := C1.cell 8 _ rfl
   go_enter Try.func41, Try.ntmps41
   go_wp2
   all_goals (go_ret; exact ⟨retB_tc (by rw [← HR.out]; rfl), b1⟩))

 by_cases h3 : st = 3
 ·subst h3
  obtain ⟨W1, hW1⟩ : ∃ W, w.alloc (.cells (Cn.v ⟨3, n0, n1, e0, e1, k0, k1, d0, d1⟩) 31) = W := ⟨_, rfl⟩
  have b1 := bel_nw hW1
  have C1 := blk_nw hW1
  cases k0 <;> cases k1 <;> cases d0 <;> cases d1 <;> (
   have c0 := C1.cell 0 (.int .i64 3) rfl
   have c5 := C1.cell 5 _ rfl
   have c6 := C1.cell 6 _ rfl
   have c7 := C1.cell 7 _ rfl
   have c8 := C1.cell 8 _ rfl
   go_enter Try.func41, Try.ntmps41
   go_wp2
   all_goals (go_ret; exact ⟨retB_tc (by rw [← HR.out]; rfl), b1⟩))

 by_cases h4 : st = 4
 ·subst h4
  obtain ⟨W1, hW1⟩ : ∃ W, w.alloc (.cells (Cn.v ⟨4, n0, n1, e0, e1, k0, k1, d0, d1⟩) 31) = W := ⟨_, rfl⟩
  have b1 := bel_nw hW1
  have C1 := blk_nw hW1
  cases k0 <;> cases k1 <;> cases d0 <;> cases d1 <;> (
   have c0 := C1.cell 0 (.int .i64 4) rfl
   have c5 := C1.cell 5 _ rfl
   have c6 := C1.cell 6 _ rfl
   have c7 := C1.cell 7 _ rfl
   have c8 := C1.cell 8 _ rfl
   go_enter Try.func41, Try.ntmps41
   go_wp2
   all_goals (go_ret; exact ⟨retB_tc (by rw [← HR.out]; rfl), b1⟩))

 by_cases h5 : st = 5
 ·subst h5
  obtain ⟨W1, hW1⟩ : ∃ W, w.alloc (.cells (Cn.v ⟨5, n0, n1, e0, e1, k0, k1, d0, d1⟩) 31) = W := ⟨_, rfl⟩
  have b1 := bel_nw hW1
  have C1 := blk_nw hW1
  cases k0 <;> cases k1 <;> cases d0 <;> cases d1 <;> (
   have c0 := C1.cell 0 (.int .i64 5) rfl
   have c5 := C1.cell 5 _ rfl
   have c6 := C1.cell 6 _ rfl
   have c7 := C1.cell 7 _ rfl
   have c8 := C1.cell 8 _ rfl
   go_enter Try.func41, Try.ntmps41
   go_wp2
   all_goals (go_ret; exact ⟨retB_tc (by rw [← HR.out]; rfl), b1⟩))

 by_cases h6 : st = 6
 ·subst h6
  obtain ⟨W1, hW1⟩ : ∃ W, w.alloc (.cells (Cn.v ⟨6, n0, n1, e0, e1, k0, k1, d0, d1⟩) 31) = W := ⟨_, rfl⟩
  have b1 := bel_nw hW1
  have C1 := blk_nw hW1
  cases k0 <;> cases k1 <;> cases d0 <;> cases d1 <;> (
   have c0 := C1.cell 0 (.int .i64 6) rfl
   have c5 := C1.cell 5 _ rfl
   have c6 := C1.cell 6 _ rfl
   have c7 := C1.cell 7 _ rfl
   have c8 := C1.cell 8 _ rfl
   go_enter Try.func41, Try.ntmps41
   go_wp2
   all_goals (go_ret; exact ⟨retB_tc (by rw [← HR.out]; rfl), b1⟩))

 have HO : Hid (st ≠ 1 ∧ st ≠ 2 ∧ st ≠ 3 ∧ st ≠ 4 ∧ st ≠ 5 ∧ st ≠ 6) := ⟨h1, h2, h3, h4, h5, h6⟩
 clear h1 h2 h3 h4 h5 h6
 obtain rfl : false = R := by rw [← HR.out]; simp [Cn.right, HO.out]
 clear HR
 by_cases hl : st < 1
 ·obtain ⟨W1, hW1⟩ : ∃ W, w.alloc (.cells (Cn.v ⟨st, n0, n1, e0, e1, k0, k1, d0, d1⟩) 31) = W := ⟨_, rfl⟩
  have b1 := bel_nw hW1
  have C1 := blk_nw hW1
  have c0 := C1.cell 0 (.int .i64 st) rfl
  go_enter Try.func41, Try.ntmps41
  go_wp2
  go_ret
  exact ⟨rfl, b1⟩
 ·have hg : 6 < st := by have := HO.out; omega
  obtain ⟨W1, hW1⟩ : ∃ W, w.alloc (.cells (Cn.v ⟨st, n0, n1, e0, e1, k0, k1, d0, d1⟩) 31) = W := ⟨_, rfl⟩
  have b1 := bel_nw hW1
  have C1 := blk_nw hW1
  have c0 := C1.cell 0 (.int .i64 st) rfl
  go_enter Try.func41, Try.ntmps41
  go_wp2
  go_ret
  exact ⟨rfl, b1⟩
set_option maxRecDepth 100000 in
set_option maxHeartbeats 4000000 in
theorem rlife_tc (c : Cn) (w : World) :
  Calls Try.prog 66 #[.agg c.v] w fun e w' => e = .returned (.int .i64 c.life) ∧ Below w.heap.size w w' := by
 obtain ⟨R, hR⟩ : ∃ R, c.life = R := ⟨_, rfl⟩
 have HR : Hid ((if c.right then (if c.st == 3 then 3600 else if c.st == 4 then 60 else if c.st == 6 then 1 else 30) else 0) = R) := hR
 rw [hR]
 clear hR
 have KR : Hid (∀ W, Calls Try.prog 41 #[.agg c.v] W fun e w' => e = .returned (.bool c.right) ∧ Below W.heap.size W w') := fun W => rright_tc c W
 generalize c.right = Q at *
 generalize h3 : (c.st == 3) = X3 at *
 generalize h4 : (c.st == 4) = X4 at *
 generalize h6 : (c.st == 6) = X6 at *
 obtain ⟨W1, hW1⟩ : ∃ W, w.alloc (.cells c.v 31) = W := ⟨_, rfl⟩
 have b1 := bel_nw hW1
 have C1 := blk_nw hW1
 go_enter Try.func66, Try.ntmps66
 go_wp2_with (refine wpList_load_blk_w (by rfl) _ _ rfl w.heap.size (by rfl) _ C1 Try.underlying31 (by kernel_rfl) ?_)
 refine Calls.mono (KR.out _) ?_
 rintro e W2 ⟨rfl, bb⟩
 have C2 := C1.kept bb
 have b2 := bel_tr b1 bb
 clear bb
 have c0 := C2.cell 0 (.int .i64 c.st) rfl
 cases Q with
 | false =>
  go_wp2
  go_ret
  exact ⟨retN_tc (by rw [← HR.out]; first | rfl | simp), b2⟩

 | true =>
  cases X3 with
  | false =>
   cases X4 with
   | false =>
    cases X6 with
    | false =>
     go_wp2
     go_ret
     exact ⟨retN_tc (by rw [← HR.out]; first | rfl | simp), b2⟩

    | true =>
     go_wp2
     go_ret
     exact ⟨retN_tc (by rw [← HR.out]; first | rfl | simp), b2⟩


   | true =>
    go_wp2
    go_ret
    exact ⟨retN_tc (by rw [← HR.out]; first | rfl | simp), b2⟩


  | true =>
   go_wp2
   go_ret
   exact ⟨retN_tc (by rw [← HR.out]; first | rfl | simp), b2⟩
set_option maxRecDepth 100000 in
set_option maxHeartbeats 4000000 in
theorem rbegin_tc (f sq win sz : Int) (w : World) :
  Calls Try.prog 37 #[.int .i64 f, .int .u32 sq, .int .i64 win, .int .i64 sz] w fun e w' => e = .returned (.tuple #[.agg (beg f sq win sz).1.v, .int .i64 (beg f sq win sz).2]) ∧ Below w.heap.size w w' := by
 obtain ⟨R, hR⟩ : ∃ R, beg f sq win sz = R := ⟨_, rfl⟩
 have HR : Hid ((if inB15 win && inB15 sz then (if bits .and .i64 f 23 == 2 && sz == 0 then (⟨1, (sq + 1) % 4294967296, 0, (sq + 1) % 4294967296, win % 4294967296, true, false, false, false⟩, 0) else (cn0, 23)) else (cn0, 1)) = R) := hR
 rw [hR]
 clear hR
 have KW : Hid (∀ W, Calls Try.prog 65 #[.int .i64 win] W fun e w' => e = .returned (.bool (inB15 win)) ∧ Below W.heap.size W w') := fun W => rin_tc win W
 have KZ : Hid (∀ W, Calls Try.prog 65 #[.int .i64 sz] W fun e w' => e = .returned (.bool (inB15 sz)) ∧ Below W.heap.size W w') := fun W => rin_tc sz W
 generalize inB15 win = P at *
 generalize inB15 sz = Q at *
 have e2 : (bits .and .i64 f 23 != 2) = !(bits .and .i64 f 23 == 2) := rfl
 have e3 : (sz != 0) = !(sz == 0) := rfl
 generalize (bits .and .i64 f 23 == 2) = F at *
 generalize (sz == 0) = N at *
 obtain ⟨W1, hW1⟩ : ∃ W, w.alloc (.cells #[.int .i64 0, .int .u32 0, .int .u32 0, .int .u32 0, .int .u32 0, .bool false, .bool false, .bool false, .bool false] 31) = W := ⟨_, rfl⟩
 have b1 := bel_nw hW1
 have Z1 := blk_nw hW1
 have gZ : w.heap.size ≤ w.heap.size := Nat.le_refl _
 go_enter Try.func37, Try.ntmps37
 go_wp2_with fail
 refine Calls.mono (KW.out _) ?_
 rintro e W2 ⟨rfl, bb⟩
 have Z2 := Z1.kept bb
 have b2 := bel_tr b1 bb
 clear bb
 clear Z1 b1
 cases P with
 | false =>
  have Zf := Z2.set cn0.v
  have bf := below_setRow b2 gZ cn0.v
  go_wp2_with (refine wpList_store_row rfl _ _ _ rfl w.heap.size cn0.v (by rfl) (by rfl) _ _ Z2 (by kernel_rfl) (by rfl) (by kernel_rfl) ?_)
  obtain rfl : (cn0, (1 : Int)) = R := by rw [← HR.out]; first | rfl | simp
  exact ret_cell_tmp (k := 8) (j := 9) Try.f37 (by kernel_rfl) Zf Try.underlying31 (by kernel_rfl) (by rfl) (by rfl) rfl ⟨rfl, bf⟩

 | true =>
  go_wp2_with fail
  refine Calls.mono (KZ.out _) ?_
  rintro e W3 ⟨rfl, bb⟩
  have Z3 := Z2.kept bb
  have b3 := bel_tr b2 bb
  clear bb
  clear Z2 b2
  cases Q with
  | false =>
   have Zf := Z3.set cn0.v
   have bf := below_setRow b3 gZ cn0.v
   go_wp2_with (refine wpList_store_row rfl _ _ _ rfl w.heap.size cn0.v (by rfl) (by rfl) _ _ Z3 (by kernel_rfl) (by rfl) (by kernel_rfl) ?_)
   obtain rfl : (cn0, (1 : Int)) = R := by rw [← HR.out]; first | rfl | simp
   exact ret_cell_tmp (k := 8) (j := 9) Try.f37 (by kernel_rfl) Zf Try.underlying31 (by kernel_rfl) (by rfl) (by rfl) rfl ⟨rfl, bf⟩

  | true =>
   cases F with
   | false =>
    try dsimp only [Bool.not_true, Bool.not_false] at e2 e3
    have Zf := Z3.set cn0.v
    have bf := below_setRow b3 gZ cn0.v
    go_wp2_with (refine wpList_store_row rfl _ _ _ rfl w.heap.size cn0.v (by rfl) (by rfl) _ _ Z3 (by kernel_rfl) (by rfl) (by kernel_rfl) ?_)
    obtain rfl : (cn0, (23 : Int)) = R := by rw [← HR.out]; first | rfl | simp
    exact ret_cell_tmp (k := 8) (j := 9) Try.f37 (by kernel_rfl) Zf Try.underlying31 (by kernel_rfl) (by rfl) (by rfl) rfl ⟨rfl, bf⟩

   | true =>
    cases N with
    | false =>
     try dsimp only [Bool.not_true, Bool.not_false] at e2 e3
     have Zf := Z3.set cn0.v
     have bf := below_setRow b3 gZ cn0.v
     go_wp2_with (refine wpList_store_row rfl _ _ _ rfl w.heap.size cn0.v (by rfl) (by rfl) _ _ Z3 (by kernel_rfl) (by rfl) (by kernel_rfl) ?_)
     obtain rfl : (cn0, (23 : Int)) = R := by rw [← HR.out]; first | rfl | simp
     exact ret_cell_tmp (k := 8) (j := 9) Try.f37 (by kernel_rfl) Zf Try.underlying31 (by kernel_rfl) (by rfl) (by rfl) rfl ⟨rfl, bf⟩

    | true =>
     try dsimp only [Bool.not_true, Bool.not_false] at e2 e3
     obtain ⟨Wy, hWy⟩ : ∃ W, W3.alloc (.cells #[.int .i64 0, .int .u32 0, .int .u32 0, .int .u32 0, .int .u32 0, .bool false, .bool false, .bool false, .bool false] 31) = W := ⟨_, rfl⟩
     have Y1 := blk_nw hWy
     have Zy := Z3.al hWy
     have by_ := bel_al b3 hWy
     have nZY : w.heap.size ≠ W3.heap.size := by have := Z3.lt; omega
     have gY : w.heap.size ≤ W3.heap.size := by have := Z3.lt; omega
     obtain ⟨W5, hW5⟩ : ∃ W, Wy.setRow W3.heap.size #[.int .i64 1, .int .u32 0, .int .u32 0, .int .u32 0, .int .u32 0, .bool false, .bool false, .bool false, .bool false] = W := ⟨_, rfl⟩
     have C5 : Blk W5 W3.heap.size 31 (Cn.v ⟨1, 0, 0, 0, 0, false, false, false, false⟩) := hW5 ▸ Y1.set _
     have Z5 := hW5 ▸ Zy.other nZY #[.int .i64 1, .int .u32 0, .int .u32 0, .int .u32 0, .int .u32 0, .bool false, .bool false, .bool false, .bool false]
     have b5 := hW5 ▸ below_setRow by_ gY #[.int .i64 1, .int .u32 0, .int .u32 0, .int .u32 0, .int .u32 0, .bool false, .bool false, .bool false, .bool false]
     have y5 := C5.cell 5 (.bool false) rfl
     have z5 := C5.frozen 5
     obtain ⟨W5p, hW5p⟩ : ∃ W, W5.setCell ⟨W3.heap.size, 5, none⟩ (.bool true) = W := ⟨_, rfl⟩
     have C5p : Blk W5p W3.heap.size 31 (Cn.v ⟨1, 0, 0, 0, 0, true, false, false, false⟩) := hW5p ▸ C5.put 5 (.bool true)
     have Z5p := hW5p ▸ Z5.put_other C5 nZY 5 (.bool true)
     have b5p := hW5p ▸ b5.setCell (p := ⟨W3.heap.size, 5, none⟩) gY (.bool true)
     have y1 := C5p.cell 1 (.int .u32 0) rfl
     have z1 := C5p.frozen 1
     obtain ⟨W5pp, hW5pp⟩ : ∃ W, W5p.setCell ⟨W3.heap.size, 1, none⟩ (.int .u32 ((sq + 1) % 4294967296)) = W := ⟨_, rfl⟩
     have C5pp : Blk W5pp W3.heap.size 31 (Cn.v ⟨1, ((sq + 1) % 4294967296), 0, 0, 0, true, false, false, false⟩) := hW5pp ▸ C5p.put 1 (.int .u32 ((sq + 1) % 4294967296))
     have Z5pp := hW5pp ▸ Z5p.put_other C5p nZY 1 (.int .u32 ((sq + 1) % 4294967296))
     have b5pp := hW5pp ▸ b5p.setCell (p := ⟨W3.heap.size, 1, none⟩) gY (.int .u32 ((sq + 1) % 4294967296))
     have y3 := C5pp.cell 3 (.int .u32 0) rfl
     have z3 := C5pp.frozen 3
     obtain ⟨W5ppp, hW5ppp⟩ : ∃ W, W5pp.setCell ⟨W3.heap.size, 3, none⟩ (.int .u32 ((sq + 1) % 4294967296)) = W := ⟨_, rfl⟩
     have C5ppp : Blk W5ppp W3.heap.size 31 (Cn.v ⟨1, ((sq + 1) % 4294967296), 0, ((sq + 1) % 4294967296), 0, true, false, false, false⟩) := hW5ppp ▸ C5pp.put 3 (.int .u32 ((sq + 1) % 4294967296))
     have Z5ppp := hW5ppp ▸ Z5pp.put_other C5pp nZY 3 (.int .u32 ((sq + 1) % 4294967296))
     have b5ppp := hW5ppp ▸ b5pp.setCell (p := ⟨W3.heap.size, 3, none⟩) gY (.int .u32 ((sq + 1) % 4294967296))
     have y4 := C5ppp.cell 4 (.int .u32 0) rfl
     have z4 := C5ppp.frozen 4
     obtain ⟨W5pppp, hW5pppp⟩ : ∃ W, W5ppp.setCell ⟨W3.heap.size, 4, none⟩ (.int .u32 (win % 4294967296)) = W := ⟨_, rfl⟩
     have C5pppp : Blk W5pppp W3.heap.size 31 (Cn.v ⟨1, ((sq + 1) % 4294967296), 0, ((sq + 1) % 4294967296), (win % 4294967296), true, false, false, false⟩) := hW5pppp ▸ C5ppp.put 4 (.int .u32 (win % 4294967296))
     have Z5pppp := hW5pppp ▸ Z5ppp.put_other C5ppp nZY 4 (.int .u32 (win % 4294967296))
     have b5pppp := hW5pppp ▸ b5ppp.setCell (p := ⟨W3.heap.size, 4, none⟩) gY (.int .u32 (win % 4294967296))
     have Zf := Z5pppp.set (Cn.v ⟨1, (sq + 1) % 4294967296, 0, (sq + 1) % 4294967296, win % 4294967296, true, false, false, false⟩)
     have bf := below_setRow b5pppp gZ (Cn.v ⟨1, (sq + 1) % 4294967296, 0, (sq + 1) % 4294967296, win % 4294967296, true, false, false, false⟩)
     go_wp2_with (first | (refine wpList_store_row rfl _ _ _ rfl W3.heap.size #[.int .i64 1, .int .u32 0, .int .u32 0, .int .u32 0, .int .u32 0, .bool false, .bool false, .bool false, .bool false] (by rfl) (by rfl) _ _ Y1 (by kernel_rfl) (by rfl) (by kernel_rfl) ?_; rw [hW5]) | (refine wpList_load_blk_w (by rfl) _ _ rfl W3.heap.size (by rfl) _ C5pppp Try.underlying31 (by kernel_rfl) ?_) | (refine wpList_store_row rfl _ _ _ rfl w.heap.size (Cn.v ⟨1, (sq + 1) % 4294967296, 0, (sq + 1) % 4294967296, win % 4294967296, true, false, false, false⟩) (by rfl) (by rfl) _ _ Z5pppp (by kernel_rfl) (by rfl) (by kernel_rfl) ?_))
     obtain rfl : ((⟨1, (sq + 1) % 4294967296, 0, (sq + 1) % 4294967296, win % 4294967296, true, false, false, false⟩ : Cn), (0 : Int)) = R := by rw [← HR.out]; first | rfl | simp
     exact ret_cell_tmp (k := 8) (j := 9) Try.f37 (by kernel_rfl) Zf Try.underlying31 (by kernel_rfl) (by rfl) (by rfl) rfl ⟨rfl, bf⟩
def endsB (f : Int) (s d : Ad) : Bool := s.right && (d.right && (s.fam == f && d.fam == f))
theorem endsB_iff (f : Int) (s d : Ad) : endsB f s d = true ↔ s.right = true ∧ d.right = true ∧ s.fam = f ∧ d.fam = f := by simp [endsB]
theorem fam_46' {f : Int} {s d : Ad} (h : endsB f s d = true) : f = 4 ∨ f = 6 := by
 obtain ⟨h1, _, h3, _⟩ := (endsB_iff f s d).1 h
 unfold Ad.right at h1
 split at h1
 ·omega
 ·simp at h1; omega
theorem retB {a b : Bool} (h : a = b) : Ending.returned (.bool a) = Ending.returned (.bool b) := by rw [h]
set_option maxRecDepth 100000 in
set_option maxHeartbeats 4000000 in
theorem rEnds_4 (f sf sh sl df dh dl : Int) (w : World) (hsl : 0 ≤ sl) (hdl : 0 ≤ dl) (hf : f = 4) :
  Calls Try.prog 63 #[.int .i64 f, .agg #[.int .i64 sf, .int .u64 sh, .int .u64 sl], .agg #[.int .i64 df, .int .u64 dh, .int .u64 dl]] w fun e w' => e = .returned (.bool (endsB f ⟨sf, sh, sl⟩ ⟨df, dh, dl⟩)) ∧ Below w.heap.size w w' := by
 obtain ⟨W1, hW1⟩ : ∃ W1, w.alloc (.cells #[.int .i64 sf, .int .u64 sh, .int .u64 sl] 24) = W1 := ⟨_, rfl⟩
 obtain ⟨W2, hW2⟩ : ∃ W2, W1.alloc (.cells #[.int .i64 df, .int .u64 dh, .int .u64 dl] 24) = W2 := ⟨_, rfl⟩
 have b1 : Below w.heap.size w W1 := by rw [← hW1]; exact (Below.refl _ _).alloc (Nat.le_refl _) _
 have b2 : Below w.heap.size w W2 := by rw [← hW2]; exact b1.alloc b1.size _
 have B1' : Blk W1 w.heap.size 24 #[.int .i64 sf, .int .u64 sh, .int .u64 sl] := by rw [← hW1]; exact blk_new _ _ _
 have B1 : Blk W2 w.heap.size 24 #[.int .i64 sf, .int .u64 sh, .int .u64 sl] := by rw [← hW2]; exact B1'.alloc _
 have B2 : Blk W2 W1.heap.size 24 #[.int .i64 df, .int .u64 dh, .int .u64 dl] := by rw [← hW2]; exact blk_new _ _ _
 have g1 : w.heap.size < W1.heap.size := B1'.lt
 have s2 : W2.heap.size = W1.heap.size + 1 := by rw [← hW2]; simp
 clear B1'
 have c0 := B1.cell 0 (.int .i64 sf) rfl
 have c1 := B1.cell 1 (.int .u64 sh) rfl
 have c2 := B1.cell 2 (.int .u64 sl) rfl
 have d0 := B2.cell 0 (.int .i64 df) rfl
 have d1 := B2.cell 1 (.int .u64 dh) rfl
 have d2 := B2.cell 2 (.int .u64 dl) rfl
 have E : Hid (endsB f ⟨sf, sh, sl⟩ ⟨df, dh, dl⟩ = (Ad.right ⟨sf, sh, sl⟩ && (Ad.right ⟨df, dh, dl⟩ && (sf == f && df == f)))) := rfl
 have K1 : Hid (∀ W, Calls Try.prog 81 #[.agg #[.int .i64 sf, .int .u64 sh, .int .u64 sl]] W _) := fun W => rright_any sf sh sl W hsl
 have K2 : Hid (∀ W, Calls Try.prog 81 #[.agg #[.int .i64 df, .int .u64 dh, .int .u64 dl]] W _) := fun W => rright_any df dh dl W hdl
 generalize Ad.right ⟨sf, sh, sl⟩ = R1 at *
 generalize Ad.right ⟨df, dh, dl⟩ = R2 at *
 generalize endsB f ⟨sf, sh, sl⟩ ⟨df, dh, dl⟩ = RR at *
 have h4' : (f == 4) = true := by simpa using hf
 clear hf
 by_cases hs : sf = f
 case neg =>
  have hs' : (sf == f) = false := by simpa using hs
  have e : RR = false := by rw [E.out, hs']; simp
  subst e
  clear hs
  go_enter Try.func63, Try.ntmps63
  go_wp2
  go_ret
  exact ⟨rfl, b2⟩
 have hs' : (sf == f) = true := by simpa using hs
 by_cases hd : df = f
 case neg =>
  have hd' : (df == f) = false := by simpa using hd
  have e : RR = false := by rw [E.out, hd']; simp
  subst e
  clear hs hd
  go_enter Try.func63, Try.ntmps63
  go_wp2
  go_ret
  exact ⟨rfl, b2⟩
 have hd' : (df == f) = true := by simpa using hd
 have E2 : Hid (RR = (R1 && R2)) := by
  have : RR = (R1 && R2) := by rw [E.out, hs', hd']; simp
  exact this
 clear hs hd E
 go_enter Try.func63, Try.ntmps63
 go_wp2_with fail
 refine Calls.mono (K1.out _) ?_
 rintro e W3 ⟨rfl, hW3⟩
 have b3' : Below W2.heap.size W2 W3 := by rw [hW3]; exact (Below.refl _ _).alloc (Nat.le_refl _) _
 have b3 : Below w.heap.size w W3 := b2.trans (b3'.mono b2.size)
 have k0 := kept b3' d0
 have k1 := kept b3' d1
 have k2 := kept b3' d2
 clear K1 hW3 b3' hW1 hW2 c0 c1 c2 d0 d1 d2
 cases R1 with
 | false =>
  go_wp2
  go_ret
  exact ⟨retB (by rw [E2.out]; rfl), b3⟩
 | true =>
  go_wp2_with fail
  refine Calls.mono (K2.out _) ?_
  rintro e W4 ⟨rfl, hW4⟩
  have b4' : Below W3.heap.size W3 W4 := by rw [hW4]; exact (Below.refl _ _).alloc (Nat.le_refl _) _
  have b4 : Below w.heap.size w W4 := b3.trans (b4'.mono b3.size)
  clear K2 hW4 b4' k0 k1 k2
  go_wp2
  go_ret
  exact ⟨retB (by rw [E2.out]; rfl), b4⟩
set_option maxRecDepth 100000 in
set_option maxHeartbeats 4000000 in
theorem rEnds_6 (f sf sh sl df dh dl : Int) (w : World) (hsl : 0 ≤ sl) (hdl : 0 ≤ dl) (hf : f = 6) :
  Calls Try.prog 63 #[.int .i64 f, .agg #[.int .i64 sf, .int .u64 sh, .int .u64 sl], .agg #[.int .i64 df, .int .u64 dh, .int .u64 dl]] w fun e w' => e = .returned (.bool (endsB f ⟨sf, sh, sl⟩ ⟨df, dh, dl⟩)) ∧ Below w.heap.size w w' := by
 obtain ⟨W1, hW1⟩ : ∃ W1, w.alloc (.cells #[.int .i64 sf, .int .u64 sh, .int .u64 sl] 24) = W1 := ⟨_, rfl⟩
 obtain ⟨W2, hW2⟩ : ∃ W2, W1.alloc (.cells #[.int .i64 df, .int .u64 dh, .int .u64 dl] 24) = W2 := ⟨_, rfl⟩
 have b1 : Below w.heap.size w W1 := by rw [← hW1]; exact (Below.refl _ _).alloc (Nat.le_refl _) _
 have b2 : Below w.heap.size w W2 := by rw [← hW2]; exact b1.alloc b1.size _
 have B1' : Blk W1 w.heap.size 24 #[.int .i64 sf, .int .u64 sh, .int .u64 sl] := by rw [← hW1]; exact blk_new _ _ _
 have B1 : Blk W2 w.heap.size 24 #[.int .i64 sf, .int .u64 sh, .int .u64 sl] := by rw [← hW2]; exact B1'.alloc _
 have B2 : Blk W2 W1.heap.size 24 #[.int .i64 df, .int .u64 dh, .int .u64 dl] := by rw [← hW2]; exact blk_new _ _ _
 have g1 : w.heap.size < W1.heap.size := B1'.lt
 have s2 : W2.heap.size = W1.heap.size + 1 := by rw [← hW2]; simp
 clear B1'
 have c0 := B1.cell 0 (.int .i64 sf) rfl
 have c1 := B1.cell 1 (.int .u64 sh) rfl
 have c2 := B1.cell 2 (.int .u64 sl) rfl
 have d0 := B2.cell 0 (.int .i64 df) rfl
 have d1 := B2.cell 1 (.int .u64 dh) rfl
 have d2 := B2.cell 2 (.int .u64 dl) rfl
 have E : Hid (endsB f ⟨sf, sh, sl⟩ ⟨df, dh, dl⟩ = (Ad.right ⟨sf, sh, sl⟩ && (Ad.right ⟨df, dh, dl⟩ && (sf == f && df == f)))) := rfl
 have K1 : Hid (∀ W, Calls Try.prog 81 #[.agg #[.int .i64 sf, .int .u64 sh, .int .u64 sl]] W _) := fun W => rright_any sf sh sl W hsl
 have K2 : Hid (∀ W, Calls Try.prog 81 #[.agg #[.int .i64 df, .int .u64 dh, .int .u64 dl]] W _) := fun W => rright_any df dh dl W hdl
 generalize Ad.right ⟨sf, sh, sl⟩ = R1 at *
 generalize Ad.right ⟨df, dh, dl⟩ = R2 at *
 generalize endsB f ⟨sf, sh, sl⟩ ⟨df, dh, dl⟩ = RR at *
 have h4' : (f == 4) = false := by rw [hf]; rfl
 have h6' : (f == 6) = true := by simpa using hf
 clear hf
 by_cases hs : sf = f
 case neg =>
  have hs' : (sf == f) = false := by simpa using hs
  have e : RR = false := by rw [E.out, hs']; simp
  subst e
  clear hs
  go_enter Try.func63, Try.ntmps63
  go_wp2
  go_ret
  exact ⟨rfl, b2⟩
 have hs' : (sf == f) = true := by simpa using hs
 by_cases hd : df = f
 case neg =>
  have hd' : (df == f) = false := by simpa using hd
  have e : RR = false := by rw [E.out, hd']; simp
  subst e
  clear hs hd
  go_enter Try.func63, Try.ntmps63
  go_wp2
  go_ret
  exact ⟨rfl, b2⟩
 have hd' : (df == f) = true := by simpa using hd
 have E2 : Hid (RR = (R1 && R2)) := by
  have : RR = (R1 && R2) := by rw [E.out, hs', hd']; simp
  exact this
 clear hs hd E
 go_enter Try.func63, Try.ntmps63
 go_wp2_with fail
 refine Calls.mono (K1.out _) ?_
 rintro e W3 ⟨rfl, hW3⟩
 have b3' : Below W2.heap.size W2 W3 := by rw [hW3]; exact (Below.refl _ _).alloc (Nat.le_refl _) _
 have b3 : Below w.heap.size w W3 := b2.trans (b3'.mono b2.size)
 have k0 := kept b3' d0
 have k1 := kept b3' d1
 have k2 := kept b3' d2
 clear K1 hW3 b3' hW1 hW2 c0 c1 c2 d0 d1 d2
 cases R1 with
 | false =>
  go_wp2
  go_ret
  exact ⟨retB (by rw [E2.out]; rfl), b3⟩
 | true =>
  go_wp2_with fail
  refine Calls.mono (K2.out _) ?_
  rintro e W4 ⟨rfl, hW4⟩
  have b4' : Below W3.heap.size W3 W4 := by rw [hW4]; exact (Below.refl _ _).alloc (Nat.le_refl _) _
  have b4 : Below w.heap.size w W4 := b3.trans (b4'.mono b3.size)
  clear K2 hW4 b4' k0 k1 k2
  go_wp2
  go_ret
  exact ⟨retB (by rw [E2.out]; rfl), b4⟩
set_option maxRecDepth 100000 in
set_option maxHeartbeats 4000000 in
theorem rEnds_n (f sf sh sl df dh dl : Int) (w : World) (hsl : 0 ≤ sl) (hdl : 0 ≤ dl) (h4 : ¬ f = 4) (h6 : ¬ f = 6) :
  Calls Try.prog 63 #[.int .i64 f, .agg #[.int .i64 sf, .int .u64 sh, .int .u64 sl], .agg #[.int .i64 df, .int .u64 dh, .int .u64 dl]] w fun e w' => e = .returned (.bool (endsB f ⟨sf, sh, sl⟩ ⟨df, dh, dl⟩)) ∧ Below w.heap.size w w' := by
 obtain ⟨W1, hW1⟩ : ∃ W1, w.alloc (.cells #[.int .i64 sf, .int .u64 sh, .int .u64 sl] 24) = W1 := ⟨_, rfl⟩
 obtain ⟨W2, hW2⟩ : ∃ W2, W1.alloc (.cells #[.int .i64 df, .int .u64 dh, .int .u64 dl] 24) = W2 := ⟨_, rfl⟩
 have b1 : Below w.heap.size w W1 := by rw [← hW1]; exact (Below.refl _ _).alloc (Nat.le_refl _) _
 have b2 : Below w.heap.size w W2 := by rw [← hW2]; exact b1.alloc b1.size _
 have B1' : Blk W1 w.heap.size 24 #[.int .i64 sf, .int .u64 sh, .int .u64 sl] := by rw [← hW1]; exact blk_new _ _ _
 have B1 : Blk W2 w.heap.size 24 #[.int .i64 sf, .int .u64 sh, .int .u64 sl] := by rw [← hW2]; exact B1'.alloc _
 have B2 : Blk W2 W1.heap.size 24 #[.int .i64 df, .int .u64 dh, .int .u64 dl] := by rw [← hW2]; exact blk_new _ _ _
 have g1 : w.heap.size < W1.heap.size := B1'.lt
 have s2 : W2.heap.size = W1.heap.size + 1 := by rw [← hW2]; simp
 clear B1'
 have c0 := B1.cell 0 (.int .i64 sf) rfl
 have c1 := B1.cell 1 (.int .u64 sh) rfl
 have c2 := B1.cell 2 (.int .u64 sl) rfl
 have d0 := B2.cell 0 (.int .i64 df) rfl
 have d1 := B2.cell 1 (.int .u64 dh) rfl
 have d2 := B2.cell 2 (.int .u64 dl) rfl
 have e : endsB f ⟨sf, sh, sl⟩ ⟨df, dh, dl⟩ = false := by
  cases h : endsB f ⟨sf, sh, sl⟩ ⟨df, dh, dl⟩ with
  | false => rfl
  | true => rcases fam_46' h with h' | h' <;> contradiction
 rw [e]
 have h4' : (f == 4) = false := by simpa using h4
 have h6' : (f == 6) = false := by simpa using h6
 clear h4 h6 e
 go_enter Try.func63, Try.ntmps63
 go_wp2
 go_ret
 exact ⟨rfl, b2⟩
theorem rEnds_any (f sf sh sl df dh dl : Int) (w : World) (hsl : 0 ≤ sl) (hdl : 0 ≤ dl) :
  Calls Try.prog 63 #[.int .i64 f, .agg #[.int .i64 sf, .int .u64 sh, .int .u64 sl], .agg #[.int .i64 df, .int .u64 dh, .int .u64 dl]] w fun e w' => e = .returned (.bool (endsB f ⟨sf, sh, sl⟩ ⟨df, dh, dl⟩)) ∧ Below w.heap.size w w' := by
 by_cases h4 : f = 4
 ·exact rEnds_4 f sf sh sl df dh dl w hsl hdl h4
 by_cases h6 : f = 6
 ·exact rEnds_6 f sf sh sl df dh dl w hsl hdl h6
 ·exact rEnds_n f sf sh sl df dh dl w hsl hdl h4 h6
end Go.Proofs.Ytfiembbmgdmagaa
