/- Texts joined: TcI -/
import Derived.Test.YtmjjdbkipagkbaaFyp16
import Derived.Test.YtmjjdbkipagkbaaFyp18
import Derived.Test.YtmjjdbkipagkbaaFyp19
namespace Go.Proofs.Ytmjjdbkipagkbaa
open Go.RowKit
set_option linter.unusedVariables false
set_option linter.unusedSimpArgs false
set_option maxRecDepth 100000 in
set_option maxHeartbeats 4000000 in
theorem step0_tc (c : Cn) (g : Gt) (w : World) :
    Calls Try.prog 68 #[.agg c.v, .int .i64 0, .agg g.v] w fun e w' => e = .returned (.tuple #[.agg (c.step 0 g).1.v, .int .i64 (c.step 0 g).2]) ∧ Below w.heap.size w w' := by
  obtain ⟨R, hR⟩ : ∃ R, c.step 0 g = R := ⟨_, rfl⟩
  have HR : Hid ((if c.right && (inB15 g.win && inB15 g.sz) then (match c.take false g with | some d => ((d, 0) : Cn × Int) | none => (cn0, 23)) else (cn0, 1)) = R) := hR
  rw [hR]
  clear hR
  have KR : Hid (∀ W, Calls Try.prog 67 #[.agg c.v] W fun e w' => e = .returned (.bool c.right) ∧ Below W.heap.size W w') := fun W => right_tc c W
  have KW : Hid (∀ W, Calls Try.prog 79 #[.int .i64 g.win] W fun e w' => e = .returned (.bool (inB15 g.win)) ∧ Below W.heap.size W w') := fun W => size_tc g.win W
  have KZ : Hid (∀ W, Calls Try.prog 79 #[.int .i64 g.sz] W fun e w' => e = .returned (.bool (inB15 g.sz)) ∧ Below W.heap.size W w') := fun W => size_tc g.sz W
  have KT : Hid (∀ W, Calls Try.prog 83 #[.agg c.v, .int .i64 0, .agg g.v] W fun e w' => e = .returned (.tuple #[.agg ((c.take false g).getD c).v, .bool (c.take false g).isSome]) ∧ Below W.heap.size W w') := fun W => take0_tc c g W
  generalize inB15 g.win = P at *
  generalize inB15 g.sz = Q at *
  generalize c.take false g = X at *
  generalize c.right = V at *
  obtain ⟨W1, hW1⟩ : ∃ W, w.alloc (.cells (c.v) 31) = W := ⟨_, rfl⟩
  have b1 := bel_nw hW1
  have C1 := blk_nw hW1
  have g1 := C1.lt
  obtain ⟨W2, hW2⟩ : ∃ W, W1.alloc (.cells g.v 110) = W := ⟨_, rfl⟩
  have b2 := bel_al b1 hW2
  have C2 := C1.al hW2
  have G2 := blk_nw hW2
  have g2 := G2.lt
  obtain ⟨W3, hW3⟩ : ∃ W, W2.alloc (.cells #[.int .i64 0, .int .u32 0, .int .u32 0, .int .u32 0, .int .u32 0, .bool false, .bool false, .bool false, .bool false] 31) = W := ⟨_, rfl⟩
  have b3 := bel_al b2 hW3
  have C3 := C2.al hW3
  have G3 := G2.al hW3
  have Z3 := blk_nw hW3
  have nCG : w.heap.size ≠ W1.heap.size := by omega
  have nGC : W1.heap.size ≠ w.heap.size := by omega
  have nCZ : w.heap.size ≠ W2.heap.size := by omega
  have nGZ : W1.heap.size ≠ W2.heap.size := by omega
  have nZC : W2.heap.size ≠ w.heap.size := by omega
  have gZ : w.heap.size ≤ W2.heap.size := by omega
  have gG : w.heap.size ≤ W1.heap.size := by omega
  clear b1 b2 C1 C2 G2 g1 g2
  go_enter Try.func68, Try.ntmps68
  go_wp2_with (first | (refine wpList_load_blk_w (by rfl) _ _ rfl w.heap.size (by rfl) _ C3 Try.underlying31 (by kernel_rfl) ?_) | (refine wpList_load_blk_w (by rfl) _ _ rfl W1.heap.size (by rfl) _ G3 Try.underlying110 (by kernel_rfl) ?_))
  refine Calls.mono (KR.out _) ?_
  rintro e W4 ⟨rfl, bb⟩
  have C4 := C3.kept bb
  have G4 := G3.kept bb
  have Z4 := Z3.kept bb
  have b4 := bel_tr b3 bb
  clear bb
  clear C3 G3 Z3 b3
  have g1 := G4.cell 1 (.int .i64 g.win) rfl
  have g2 := G4.cell 2 (.int .i64 g.sz) rfl
  cases V with
  | false =>
    have Zf := Z4.set cn0.v
    have bf := below_setRow b4 gZ cn0.v
    go_wp2_with (first | (refine wpList_load_blk_w (by rfl) _ _ rfl w.heap.size (by rfl) _ C4 Try.underlying31 (by kernel_rfl) ?_) | (refine wpList_load_blk_w (by rfl) _ _ rfl W1.heap.size (by rfl) _ G4 Try.underlying110 (by kernel_rfl) ?_) | (refine wpList_store_row rfl _ _ _ rfl W2.heap.size cn0.v (by rfl) (by rfl) _ _ Z4 (by kernel_rfl) (by rfl) (by kernel_rfl) ?_))
    obtain rfl : (cn0, (1 : Int)) = R := by rw [← HR.out]; first | rfl | simp
    exact ret_cell_tmp (k := 6) (j := 7) Try.f68 (by kernel_rfl) Zf Try.underlying31 (by kernel_rfl) (by rfl) (by rfl) rfl ⟨rfl, bf⟩

  | true =>
    go_wp2_with (first | (refine wpList_load_blk_w (by rfl) _ _ rfl w.heap.size (by rfl) _ C4 Try.underlying31 (by kernel_rfl) ?_) | (refine wpList_load_blk_w (by rfl) _ _ rfl W1.heap.size (by rfl) _ G4 Try.underlying110 (by kernel_rfl) ?_))
    clear g1 g2
    refine Calls.mono (KW.out _) ?_
    rintro e W5 ⟨rfl, bb⟩
    have C5 := C4.kept bb
    have G5 := G4.kept bb
    have Z5 := Z4.kept bb
    have b5 := bel_tr b4 bb
    clear bb
    clear C4 G4 Z4 b4
    have g1 := G5.cell 1 (.int .i64 g.win) rfl
    have g2 := G5.cell 2 (.int .i64 g.sz) rfl
    cases P with
    | false =>
      have Zf := Z5.set cn0.v
      have bf := below_setRow b5 gZ cn0.v
      go_wp2_with (first | (refine wpList_load_blk_w (by rfl) _ _ rfl w.heap.size (by rfl) _ C5 Try.underlying31 (by kernel_rfl) ?_) | (refine wpList_load_blk_w (by rfl) _ _ rfl W1.heap.size (by rfl) _ G5 Try.underlying110 (by kernel_rfl) ?_) | (refine wpList_store_row rfl _ _ _ rfl W2.heap.size cn0.v (by rfl) (by rfl) _ _ Z5 (by kernel_rfl) (by rfl) (by kernel_rfl) ?_))
      obtain rfl : (cn0, (1 : Int)) = R := by rw [← HR.out]; first | rfl | simp
      exact ret_cell_tmp (k := 6) (j := 7) Try.f68 (by kernel_rfl) Zf Try.underlying31 (by kernel_rfl) (by rfl) (by rfl) rfl ⟨rfl, bf⟩

    | true =>
      go_wp2_with (first | (refine wpList_load_blk_w (by rfl) _ _ rfl w.heap.size (by rfl) _ C5 Try.underlying31 (by kernel_rfl) ?_) | (refine wpList_load_blk_w (by rfl) _ _ rfl W1.heap.size (by rfl) _ G5 Try.underlying110 (by kernel_rfl) ?_))
      clear g1 g2
      refine Calls.mono (KZ.out _) ?_
      rintro e W5z ⟨rfl, bb⟩
      have C5z := C5.kept bb
      have G5z := G5.kept bb
      have Z5z := Z5.kept bb
      have b5z := bel_tr b5 bb
      clear bb
      clear C5 G5 Z5 b5
      cases Q with
      | false =>
        have Zf := Z5z.set cn0.v
        have bf := below_setRow b5z gZ cn0.v
        go_wp2_with (first | (refine wpList_load_blk_w (by rfl) _ _ rfl w.heap.size (by rfl) _ C5z Try.underlying31 (by kernel_rfl) ?_) | (refine wpList_load_blk_w (by rfl) _ _ rfl W1.heap.size (by rfl) _ G5z Try.underlying110 (by kernel_rfl) ?_) | (refine wpList_store_row rfl _ _ _ rfl W2.heap.size cn0.v (by rfl) (by rfl) _ _ Z5z (by kernel_rfl) (by rfl) (by kernel_rfl) ?_))
        obtain rfl : (cn0, (1 : Int)) = R := by rw [← HR.out]; first | rfl | simp
        exact ret_cell_tmp (k := 6) (j := 7) Try.f68 (by kernel_rfl) Zf Try.underlying31 (by kernel_rfl) (by rfl) (by rfl) rfl ⟨rfl, bf⟩

      | true =>
        go_wp2_with (first | (refine wpList_load_blk_w (by rfl) _ _ rfl w.heap.size (by rfl) _ C5z Try.underlying31 (by kernel_rfl) ?_) | (refine wpList_load_blk_w (by rfl) _ _ rfl W1.heap.size (by rfl) _ G5z Try.underlying110 (by kernel_rfl) ?_))
        refine Calls.mono (KT.out _) ?_
        rintro e W5zt ⟨rfl, bb⟩
        have C5zt := C5z.kept bb
        have G5zt := G5z.kept bb
        have Z5zt := Z5z.kept bb
        have b5zt := bel_tr b5z bb
        clear bb
        clear C5z G5z Z5z b5z
        cases X with
        | none =>
          obtain ⟨Wy, hWy⟩ : ∃ W, W5zt.alloc (.cells #[.int .i64 0, .int .u32 0, .int .u32 0, .int .u32 0, .int .u32 0, .bool false, .bool false, .bool false, .bool false] 31) = W := ⟨_, rfl⟩
          have Yy := blk_nw hWy
          have Zy := Z5zt.al hWy
          have by_ := bel_al b5zt hWy
          have nZY : W2.heap.size ≠ W5zt.heap.size := by have := Z5zt.lt; omega
          have gY : w.heap.size ≤ W5zt.heap.size := by have := Z5zt.lt; omega
          have Ys := Yy.set c.v
          have Zs := Zy.other nZY c.v
          have bs := below_setRow by_ gY c.v
          have Zf := Zs.set cn0.v
          have bf := below_setRow bs gZ cn0.v
          go_wp2_with (first | (refine wpList_store_row rfl _ _ _ rfl W5zt.heap.size c.v (by rfl) (by rfl) _ _ Yy (by kernel_rfl) (by rfl) (by kernel_rfl) ?_) | (refine wpList_load_blk_w (by rfl) _ _ rfl W5zt.heap.size (by rfl) _ Ys Try.underlying31 (by kernel_rfl) ?_) | (refine wpList_store_row rfl _ _ _ rfl W2.heap.size cn0.v (by rfl) (by rfl) _ _ Zs (by kernel_rfl) (by rfl) (by kernel_rfl) ?_))
          obtain rfl : (cn0, (23 : Int)) = R := by rw [← HR.out]; first | rfl | simp
          exact ret_cell_tmp (k := 6) (j := 7) Try.f68 (by kernel_rfl) Zf Try.underlying31 (by kernel_rfl) (by rfl) (by rfl) rfl ⟨rfl, bf⟩

        | some d =>
          obtain ⟨Wy, hWy⟩ : ∃ W, W5zt.alloc (.cells #[.int .i64 0, .int .u32 0, .int .u32 0, .int .u32 0, .int .u32 0, .bool false, .bool false, .bool false, .bool false] 31) = W := ⟨_, rfl⟩
          have Yy := blk_nw hWy
          have Zy := Z5zt.al hWy
          have by_ := bel_al b5zt hWy
          have nZY : W2.heap.size ≠ W5zt.heap.size := by have := Z5zt.lt; omega
          have gY : w.heap.size ≤ W5zt.heap.size := by have := Z5zt.lt; omega
          have Ys := Yy.set d.v
          have Zs := Zy.other nZY d.v
          have bs := below_setRow by_ gY d.v
          have Zf := Zs.set d.v
          have bf := below_setRow bs gZ d.v
          go_wp2_with (first | (refine wpList_store_row rfl _ _ _ rfl W5zt.heap.size d.v (by rfl) (by rfl) _ _ Yy (by kernel_rfl) (by rfl) (by kernel_rfl) ?_) | (refine wpList_load_blk_w (by rfl) _ _ rfl W5zt.heap.size (by rfl) _ Ys Try.underlying31 (by kernel_rfl) ?_) | (refine wpList_store_row rfl _ _ _ rfl W2.heap.size d.v (by rfl) (by rfl) _ _ Zs (by kernel_rfl) (by rfl) (by kernel_rfl) ?_))
          obtain rfl : (d, (0 : Int)) = R := by rw [← HR.out]; first | rfl | simp
          exact ret_cell_tmp (k := 6) (j := 7) Try.f68 (by kernel_rfl) Zf Try.underlying31 (by kernel_rfl) (by rfl) (by rfl) rfl ⟨rfl, bf⟩
set_option maxRecDepth 100000 in
set_option maxHeartbeats 4000000 in
theorem step1_tc (c : Cn) (g : Gt) (w : World) :
    Calls Try.prog 68 #[.agg c.v, .int .i64 1, .agg g.v] w fun e w' => e = .returned (.tuple #[.agg (c.step 1 g).1.v, .int .i64 (c.step 1 g).2]) ∧ Below w.heap.size w w' := by
  obtain ⟨R, hR⟩ : ∃ R, c.step 1 g = R := ⟨_, rfl⟩
  have HR : Hid ((if c.right && (inB15 g.win && inB15 g.sz) then (match c.take true g with | some d => ((d, 0) : Cn × Int) | none => (cn0, 23)) else (cn0, 1)) = R) := hR
  rw [hR]
  clear hR
  have KR : Hid (∀ W, Calls Try.prog 67 #[.agg c.v] W fun e w' => e = .returned (.bool c.right) ∧ Below W.heap.size W w') := fun W => right_tc c W
  have KW : Hid (∀ W, Calls Try.prog 79 #[.int .i64 g.win] W fun e w' => e = .returned (.bool (inB15 g.win)) ∧ Below W.heap.size W w') := fun W => size_tc g.win W
  have KZ : Hid (∀ W, Calls Try.prog 79 #[.int .i64 g.sz] W fun e w' => e = .returned (.bool (inB15 g.sz)) ∧ Below W.heap.size W w') := fun W => size_tc g.sz W
  have KT : Hid (∀ W, Calls Try.prog 83 #[.agg c.v, .int .i64 1, .agg g.v] W fun e w' => e = .returned (.tuple #[.agg ((c.take true g).getD c).v, .bool (c.take true g).isSome]) ∧ Below W.heap.size W w') := fun W => take1_tc c g W
  generalize inB15 g.win = P at *
  generalize inB15 g.sz = Q at *
  generalize c.take true g = X at *
  generalize c.right = V at *
  obtain ⟨W1, hW1⟩ : ∃ W, w.alloc (.cells (c.v) 31) = W := ⟨_, rfl⟩
  have b1 := bel_nw hW1
  have C1 := blk_nw hW1
  have g1 := C1.lt
  obtain ⟨W2, hW2⟩ : ∃ W, W1.alloc (.cells g.v 110) = W := ⟨_, rfl⟩
  have b2 := bel_al b1 hW2
  have C2 := C1.al hW2
  have G2 := blk_nw hW2
  have g2 := G2.lt
  obtain ⟨W3, hW3⟩ : ∃ W, W2.alloc (.cells #[.int .i64 0, .int .u32 0, .int .u32 0, .int .u32 0, .int .u32 0, .bool false, .bool false, .bool false, .bool false] 31) = W := ⟨_, rfl⟩
  have b3 := bel_al b2 hW3
  have C3 := C2.al hW3
  have G3 := G2.al hW3
  have Z3 := blk_nw hW3
  have nCG : w.heap.size ≠ W1.heap.size := by omega
  have nGC : W1.heap.size ≠ w.heap.size := by omega
  have nCZ : w.heap.size ≠ W2.heap.size := by omega
  have nGZ : W1.heap.size ≠ W2.heap.size := by omega
  have nZC : W2.heap.size ≠ w.heap.size := by omega
  have gZ : w.heap.size ≤ W2.heap.size := by omega
  have gG : w.heap.size ≤ W1.heap.size := by omega
  clear b1 b2 C1 C2 G2 g1 g2
  go_enter Try.func68, Try.ntmps68
  go_wp2_with (first | (refine wpList_load_blk_w (by rfl) _ _ rfl w.heap.size (by rfl) _ C3 Try.underlying31 (by kernel_rfl) ?_) | (refine wpList_load_blk_w (by rfl) _ _ rfl W1.heap.size (by rfl) _ G3 Try.underlying110 (by kernel_rfl) ?_))
  refine Calls.mono (KR.out _) ?_
  rintro e W4 ⟨rfl, bb⟩
  have C4 := C3.kept bb
  have G4 := G3.kept bb
  have Z4 := Z3.kept bb
  have b4 := bel_tr b3 bb
  clear bb
  clear C3 G3 Z3 b3
  have g1 := G4.cell 1 (.int .i64 g.win) rfl
  have g2 := G4.cell 2 (.int .i64 g.sz) rfl
  cases V with
  | false =>
    have Zf := Z4.set cn0.v
    have bf := below_setRow b4 gZ cn0.v
    go_wp2_with (first | (refine wpList_load_blk_w (by rfl) _ _ rfl w.heap.size (by rfl) _ C4 Try.underlying31 (by kernel_rfl) ?_) | (refine wpList_load_blk_w (by rfl) _ _ rfl W1.heap.size (by rfl) _ G4 Try.underlying110 (by kernel_rfl) ?_) | (refine wpList_store_row rfl _ _ _ rfl W2.heap.size cn0.v (by rfl) (by rfl) _ _ Z4 (by kernel_rfl) (by rfl) (by kernel_rfl) ?_))
    obtain rfl : (cn0, (1 : Int)) = R := by rw [← HR.out]; first | rfl | simp
    exact ret_cell_tmp (k := 6) (j := 7) Try.f68 (by kernel_rfl) Zf Try.underlying31 (by kernel_rfl) (by rfl) (by rfl) rfl ⟨rfl, bf⟩

  | true =>
    go_wp2_with (first | (refine wpList_load_blk_w (by rfl) _ _ rfl w.heap.size (by rfl) _ C4 Try.underlying31 (by kernel_rfl) ?_) | (refine wpList_load_blk_w (by rfl) _ _ rfl W1.heap.size (by rfl) _ G4 Try.underlying110 (by kernel_rfl) ?_))
    clear g1 g2
    refine Calls.mono (KW.out _) ?_
    rintro e W5 ⟨rfl, bb⟩
    have C5 := C4.kept bb
    have G5 := G4.kept bb
    have Z5 := Z4.kept bb
    have b5 := bel_tr b4 bb
    clear bb
    clear C4 G4 Z4 b4
    have g1 := G5.cell 1 (.int .i64 g.win) rfl
    have g2 := G5.cell 2 (.int .i64 g.sz) rfl
    cases P with
    | false =>
      have Zf := Z5.set cn0.v
      have bf := below_setRow b5 gZ cn0.v
      go_wp2_with (first | (refine wpList_load_blk_w (by rfl) _ _ rfl w.heap.size (by rfl) _ C5 Try.underlying31 (by kernel_rfl) ?_) | (refine wpList_load_blk_w (by rfl) _ _ rfl W1.heap.size (by rfl) _ G5 Try.underlying110 (by kernel_rfl) ?_) | (refine wpList_store_row rfl _ _ _ rfl W2.heap.size cn0.v (by rfl) (by rfl) _ _ Z5 (by kernel_rfl) (by rfl) (by kernel_rfl) ?_))
      obtain rfl : (cn0, (1 : Int)) = R := by rw [← HR.out]; first | rfl | simp
      exact ret_cell_tmp (k := 6) (j := 7) Try.f68 (by kernel_rfl) Zf Try.underlying31 (by kernel_rfl) (by rfl) (by rfl) rfl ⟨rfl, bf⟩

    | true =>
      go_wp2_with (first | (refine wpList_load_blk_w (by rfl) _ _ rfl w.heap.size (by rfl) _ C5 Try.underlying31 (by kernel_rfl) ?_) | (refine wpList_load_blk_w (by rfl) _ _ rfl W1.heap.size (by rfl) _ G5 Try.underlying110 (by kernel_rfl) ?_))
      clear g1 g2
      refine Calls.mono (KZ.out _) ?_
      rintro e W5z ⟨rfl, bb⟩
      have C5z := C5.kept bb
      have G5z := G5.kept bb
      have Z5z := Z5.kept bb
      have b5z := bel_tr b5 bb
      clear bb
      clear C5 G5 Z5 b5
      cases Q with
      | false =>
        have Zf := Z5z.set cn0.v
        have bf := below_setRow b5z gZ cn0.v
        go_wp2_with (first | (refine wpList_load_blk_w (by rfl) _ _ rfl w.heap.size (by rfl) _ C5z Try.underlying31 (by kernel_rfl) ?_) | (refine wpList_load_blk_w (by rfl) _ _ rfl W1.heap.size (by rfl) _ G5z Try.underlying110 (by kernel_rfl) ?_) | (refine wpList_store_row rfl _ _ _ rfl W2.heap.size cn0.v (by rfl) (by rfl) _ _ Z5z (by kernel_rfl) (by rfl) (by kernel_rfl) ?_))
        obtain rfl : (cn0, (1 : Int)) = R := by rw [← HR.out]; first | rfl | simp
        exact ret_cell_tmp (k := 6) (j := 7) Try.f68 (by kernel_rfl) Zf Try.underlying31 (by kernel_rfl) (by rfl) (by rfl) rfl ⟨rfl, bf⟩

      | true =>
        go_wp2_with (first | (refine wpList_load_blk_w (by rfl) _ _ rfl w.heap.size (by rfl) _ C5z Try.underlying31 (by kernel_rfl) ?_) | (refine wpList_load_blk_w (by rfl) _ _ rfl W1.heap.size (by rfl) _ G5z Try.underlying110 (by kernel_rfl) ?_))
        refine Calls.mono (KT.out _) ?_
        rintro e W5zt ⟨rfl, bb⟩
        have C5zt := C5z.kept bb
        have G5zt := G5z.kept bb
        have Z5zt := Z5z.kept bb
        have b5zt := bel_tr b5z bb
        clear bb
        clear C5z G5z Z5z b5z
        cases X with
        | none =>
          obtain ⟨Wy, hWy⟩ : ∃ W, W5zt.alloc (.cells #[.int .i64 0, .int .u32 0, .int .u32 0, .int .u32 0, .int .u32 0, .bool false, .bool false, .bool false, .bool false] 31) = W := ⟨_, rfl⟩
          have Yy := blk_nw hWy
          have Zy := Z5zt.al hWy
          have by_ := bel_al b5zt hWy
          have nZY : W2.heap.size ≠ W5zt.heap.size := by have := Z5zt.lt; omega
          have gY : w.heap.size ≤ W5zt.heap.size := by have := Z5zt.lt; omega
          have Ys := Yy.set c.v
          have Zs := Zy.other nZY c.v
          have bs := below_setRow by_ gY c.v
          have Zf := Zs.set cn0.v
          have bf := below_setRow bs gZ cn0.v
          go_wp2_with (first | (refine wpList_store_row rfl _ _ _ rfl W5zt.heap.size c.v (by rfl) (by rfl) _ _ Yy (by kernel_rfl) (by rfl) (by kernel_rfl) ?_) | (refine wpList_load_blk_w (by rfl) _ _ rfl W5zt.heap.size (by rfl) _ Ys Try.underlying31 (by kernel_rfl) ?_) | (refine wpList_store_row rfl _ _ _ rfl W2.heap.size cn0.v (by rfl) (by rfl) _ _ Zs (by kernel_rfl) (by rfl) (by kernel_rfl) ?_))
          obtain rfl : (cn0, (23 : Int)) = R := by rw [← HR.out]; first | rfl | simp
          exact ret_cell_tmp (k := 6) (j := 7) Try.f68 (by kernel_rfl) Zf Try.underlying31 (by kernel_rfl) (by rfl) (by rfl) rfl ⟨rfl, bf⟩

        | some d =>
          obtain ⟨Wy, hWy⟩ : ∃ W, W5zt.alloc (.cells #[.int .i64 0, .int .u32 0, .int .u32 0, .int .u32 0, .int .u32 0, .bool false, .bool false, .bool false, .bool false] 31) = W := ⟨_, rfl⟩
          have Yy := blk_nw hWy
          have Zy := Z5zt.al hWy
          have by_ := bel_al b5zt hWy
          have nZY : W2.heap.size ≠ W5zt.heap.size := by have := Z5zt.lt; omega
          have gY : w.heap.size ≤ W5zt.heap.size := by have := Z5zt.lt; omega
          have Ys := Yy.set d.v
          have Zs := Zy.other nZY d.v
          have bs := below_setRow by_ gY d.v
          have Zf := Zs.set d.v
          have bf := below_setRow bs gZ d.v
          go_wp2_with (first | (refine wpList_store_row rfl _ _ _ rfl W5zt.heap.size d.v (by rfl) (by rfl) _ _ Yy (by kernel_rfl) (by rfl) (by kernel_rfl) ?_) | (refine wpList_load_blk_w (by rfl) _ _ rfl W5zt.heap.size (by rfl) _ Ys Try.underlying31 (by kernel_rfl) ?_) | (refine wpList_store_row rfl _ _ _ rfl W2.heap.size d.v (by rfl) (by rfl) _ _ Zs (by kernel_rfl) (by rfl) (by kernel_rfl) ?_))
          obtain rfl : (d, (0 : Int)) = R := by rw [← HR.out]; first | rfl | simp
          exact ret_cell_tmp (k := 6) (j := 7) Try.f68 (by kernel_rfl) Zf Try.underlying31 (by kernel_rfl) (by rfl) (by rfl) rfl ⟨rfl, bf⟩
set_option maxRecDepth 100000 in
set_option maxHeartbeats 4000000 in
theorem stepB_tc (c : Cn) (i : Int) (g : Gt) (w : World) (n0 : i ≠ 0) (n1 : i ≠ 1) :
    Calls Try.prog 68 #[.agg c.v, .int .i64 i, .agg g.v] w fun e w' => e = .returned (.tuple #[.agg (c.step i g).1.v, .int .i64 (c.step i g).2]) ∧ Below w.heap.size w w' := by
  obtain ⟨R, hR⟩ : ∃ R, c.step i g = R := ⟨_, rfl⟩
  have e0 : (i == 0) = false := by simpa using n0
  have e1 : (i == 1) = false := by simpa using n1
  have f0 : (i != 0) = true := by simpa using n0
  have f1 : (i != 1) = true := by simpa using n1
  rw [hR]
  obtain rfl : (cn0, 1) = R := by rw [← hR, Cn.step, e0, e1]; simp
  clear hR
  clear n0 n1
  have KR : Hid (∀ W, Calls Try.prog 67 #[.agg c.v] W fun e w' => e = .returned (.bool c.right) ∧ Below W.heap.size W w') := fun W => right_tc c W
  generalize c.right = V at *
  obtain ⟨W1, hW1⟩ : ∃ W, w.alloc (.cells (c.v) 31) = W := ⟨_, rfl⟩
  have b1 := bel_nw hW1
  have C1 := blk_nw hW1
  have g1 := C1.lt
  obtain ⟨W2, hW2⟩ : ∃ W, W1.alloc (.cells g.v 110) = W := ⟨_, rfl⟩
  have b2 := bel_al b1 hW2
  have C2 := C1.al hW2
  have G2 := blk_nw hW2
  have g2 := G2.lt
  obtain ⟨W3, hW3⟩ : ∃ W, W2.alloc (.cells #[.int .i64 0, .int .u32 0, .int .u32 0, .int .u32 0, .int .u32 0, .bool false, .bool false, .bool false, .bool false] 31) = W := ⟨_, rfl⟩
  have b3 := bel_al b2 hW3
  have C3 := C2.al hW3
  have G3 := G2.al hW3
  have Z3 := blk_nw hW3
  have nCG : w.heap.size ≠ W1.heap.size := by omega
  have nGC : W1.heap.size ≠ w.heap.size := by omega
  have nCZ : w.heap.size ≠ W2.heap.size := by omega
  have nGZ : W1.heap.size ≠ W2.heap.size := by omega
  have nZC : W2.heap.size ≠ w.heap.size := by omega
  have gZ : w.heap.size ≤ W2.heap.size := by omega
  have gG : w.heap.size ≤ W1.heap.size := by omega
  clear b1 b2 C1 C2 G2 g1 g2
  go_enter Try.func68, Try.ntmps68
  go_wp2_with (first | (refine wpList_load_blk_w (by rfl) _ _ rfl w.heap.size (by rfl) _ C3 Try.underlying31 (by kernel_rfl) ?_) | (refine wpList_load_blk_w (by rfl) _ _ rfl W1.heap.size (by rfl) _ G3 Try.underlying110 (by kernel_rfl) ?_))
  refine Calls.mono (KR.out _) ?_
  rintro e W4 ⟨rfl, bb⟩
  have C4 := C3.kept bb
  have G4 := G3.kept bb
  have Z4 := Z3.kept bb
  have b4 := bel_tr b3 bb
  clear bb
  clear C3 G3 Z3 b3
  cases V with
  | false =>
    have Zf := Z4.set cn0.v
    have bf := below_setRow b4 gZ cn0.v
    go_wp2_with (first | (refine wpList_load_blk_w (by rfl) _ _ rfl w.heap.size (by rfl) _ C4 Try.underlying31 (by kernel_rfl) ?_) | (refine wpList_load_blk_w (by rfl) _ _ rfl W1.heap.size (by rfl) _ G4 Try.underlying110 (by kernel_rfl) ?_) | (refine wpList_store_row rfl _ _ _ rfl W2.heap.size cn0.v (by rfl) (by rfl) _ _ Z4 (by kernel_rfl) (by rfl) (by kernel_rfl) ?_))
    exact ret_cell_tmp (k := 6) (j := 7) Try.f68 (by kernel_rfl) Zf Try.underlying31 (by kernel_rfl) (by rfl) (by rfl) rfl ⟨rfl, bf⟩

  | true =>
    have Zf := Z4.set cn0.v
    have bf := below_setRow b4 gZ cn0.v
    go_wp2_with (first | (refine wpList_load_blk_w (by rfl) _ _ rfl w.heap.size (by rfl) _ C4 Try.underlying31 (by kernel_rfl) ?_) | (refine wpList_load_blk_w (by rfl) _ _ rfl W1.heap.size (by rfl) _ G4 Try.underlying110 (by kernel_rfl) ?_) | (refine wpList_store_row rfl _ _ _ rfl W2.heap.size cn0.v (by rfl) (by rfl) _ _ Z4 (by kernel_rfl) (by rfl) (by kernel_rfl) ?_))
    exact ret_cell_tmp (k := 6) (j := 7) Try.f68 (by kernel_rfl) Zf Try.underlying31 (by kernel_rfl) (by rfl) (by rfl) rfl ⟨rfl, bf⟩
end Go.Proofs.Ytmjjdbkipagkbaa
