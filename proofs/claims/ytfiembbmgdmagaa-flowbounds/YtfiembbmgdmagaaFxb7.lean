/- Texts joined: TcI TcJ TcO TuC FwC -/
import Derived.Test.YtfiembbmgdmagaaFxb5
import Derived.Test.YtfiembbmgdmagaaFxb6
import Derived.ChangeKeysEq
namespace Go.Proofs.Ytfiembbmgdmagaa
open Go.RowKit
set_option linter.unusedVariables false
set_option linter.unusedSimpArgs false
set_option maxRecDepth 100000 in
set_option maxHeartbeats 4000000 in
theorem step0_tc (c : Cn) (g : Gt) (w : World) :
    Calls Try.prog 68 #[.agg c.v, .int .i64 0, .agg g.v] w fun e w' => e = .returned (.tuple #[.agg (c.step 0 g).1.v, .int .i64 (c.step 0 g).2]) ∧ Below w.heap.size w w' := by
  obtain ⟨R, hR⟩ : ∃ R, c.step 0 g = R := ⟨_, rfl⟩
  have HR : Hid ((if c.right && (inB15 g.win && inB15 g.sz) then (match c.take false g with | some d => ((d, 0) : Cn × Int) | none => (cn0, 23)) else (cn0, 1)) = R) := hR
  rw [hR]
  clear hR
  have KR : Hid (∀ W, Calls Try.prog 67 #[.agg c.v] W fun e w' => e = .returned (.bool c.right) ∧ Below W.heap.size W w') := fun W => right_tc c W
  have KW : Hid (∀ W, Calls Try.prog 79 #[.int .i64 g.win] W fun e w' => e = .returned (.bool (inB15 g.win)) ∧ Below W.heap.size W w') := fun W => size_tc g.win W
  have KZ : Hid (∀ W, Calls Try.prog 79 #[.int .i64 g.sz] W fun e w' => e = .returned (.bool (inB15 g.sz)) ∧ Below W.heap.size W w') := fun W => size_tc g.sz W
  have KT : Hid (∀ W, Calls Try.prog 83 #[.agg c.v, .int .i64 0, .agg g.v] W fun e w' => e = .returned (.tuple #[.agg ((c.take false g).getD c).v, .bool (c.take false g).isSome]) ∧ Below W.heap.size W w') := fun W => take0_tc c g W
  generalize inB15 g.win = P at *
  generalize inB15 g.sz = Q at *
  generalize c.take false g = X at *
  generalize c.right = V at *
  obtain ⟨W1, hW1⟩ : ∃ W, w.alloc (.cells (c.v) 31) = W := ⟨_, rfl⟩
  have b1 := bel_nw hW1
  have C1 := blk_nw hW1
  have g1 := C1.lt
  obtain ⟨W2, hW2⟩ : ∃ W, W1.alloc (.cells g.v 110) = W := ⟨_, rfl⟩
  have b2 := bel_al b1 hW2
  have C2 := C1.al hW2
  have G2 := blk_nw hW2
  have g2 := G2.lt
  obtain ⟨W3, hW3⟩ : ∃ W, W2.alloc (.cells #[.int .i64 0, .int .u32 0, .int .u32 0, .int .u32 0, .int .u32 0, .bool false, .bool false, .bool false, .bool false] 31) = W := ⟨_, rfl⟩
  have b3 := bel_al b2 hW3
  have C3 := C2.al hW3
  have G3 := G2.al hW3
  have Z3 := blk_nw hW3
  have nCG : w.heap.size ≠ W1.heap.size := by omega
  have nGC : W1.heap.size ≠ w.heap.size := by omega
  have nCZ : w.heap.size ≠ W2.heap.size := by omega
  have nGZ : W1.heap.size ≠ W2.heap.size := by omega
  have nZC : W2.heap.size ≠ w.heap.size := by omega
  have gZ : w.heap.size ≤ W2.heap.size := by omega
  have gG : w.heap.size ≤ W1.heap.size := by omega
  clear b1 b2 C1 C2 G2 g1 g2
  go_enter Try.func68, Try.ntmps68
  go_wp2_with (first | (refine wpList_load_blk_w (by rfl) _ _ rfl w.heap.size (by rfl) _ C3 Try.underlying31 (by kernel_rfl) ?_) | (refine wpList_load_blk_w (by rfl) _ _ rfl W1.heap.size (by rfl) _ G3 Try.underlying110 (by kernel_rfl) ?_))
  refine Calls.mono (KR.out _) ?_
  rintro e W4 ⟨rfl, bb⟩
  have C4 := C3.kept bb
  have G4 := G3.kept bb
  have Z4 := Z3.kept bb
  have b4 := bel_tr b3 bb
  clear bb
  clear C3 G3 Z3 b3
  have g1 := G4.cell 1 (.int .i64 g.win) rfl
  have g2 := G4.cell 2 (.int .i64 g.sz) rfl
  cases V with
  | false =>
    have Zf := Z4.set cn0.v
    have bf := below_setRow b4 gZ cn0.v
    go_wp2_with (first | (refine wpList_load_blk_w (by rfl) _ _ rfl w.heap.size (by rfl) _ C4 Try.underlying31 (by kernel_rfl) ?_) | (refine wpList_load_blk_w (by rfl) _ _ rfl W1.heap.size (by rfl) _ G4 Try.underlying110 (by kernel_rfl) ?_) | (refine wpList_store_row rfl _ _ _ rfl W2.heap.size cn0.v (by rfl) (by rfl) _ _ Z4 (by kernel_rfl) (by rfl) (by kernel_rfl) ?_))
    obtain rfl : (cn0, (1 : Int)) = R := by rw [← HR.out]; first | rfl | simp
    exact ret_cell_tmp (k := 6) (j := 7) Try.f68 (by kernel_rfl) Zf Try.underlying31 (by kernel_rfl) (by rfl) (by rfl) rfl ⟨rfl, bf⟩

  | true =>
    go_wp2_with (first | (refine wpList_load_blk_w (by rfl) _ _ rfl w.heap.size (by rfl) _ C4 Try.underlying31 (by kernel_rfl) ?_) | (refine wpList_load_blk_w (by rfl) _ _ rfl W1.heap.size (by rfl) _ G4 Try.underlying110 (by kernel_rfl) ?_))
    clear g1 g2
    refine Calls.mono (KW.out _) ?_
    rintro e W5 ⟨rfl, bb⟩
    have C5 := C4.kept bb
    have G5 := G4.kept bb
    have Z5 := Z4.kept bb
    have b5 := bel_tr b4 bb
    clear bb
    clear C4 G4 Z4 b4
    have g1 := G5.cell 1 (.int .i64 g.win) rfl
    have g2 := G5.cell 2 (.int .i64 g.sz) rfl
    cases P with
    | false =>
      have Zf := Z5.set cn0.v
      have bf := below_setRow b5 gZ cn0.v
      go_wp2_with (first | (refine wpList_load_blk_w (by rfl) _ _ rfl w.heap.size (by rfl) _ C5 Try.underlying31 (by kernel_rfl) ?_) | (refine wpList_load_blk_w (by rfl) _ _ rfl W1.heap.size (by rfl) _ G5 Try.underlying110 (by kernel_rfl) ?_) | (refine wpList_store_row rfl _ _ _ rfl W2.heap.size cn0.v (by rfl) (by rfl) _ _ Z5 (by kernel_rfl) (by rfl) (by kernel_rfl) ?_))
      obtain rfl : (cn0, (1 : Int)) = R := by rw [← HR.out]; first | rfl | simp
      exact ret_cell_tmp (k := 6) (j := 7) Try.f68 (by kernel_rfl) Zf Try.underlying31 (by kernel_rfl) (by rfl) (by rfl) rfl ⟨rfl, bf⟩

    | true =>
      go_wp2_with (first | (refine wpList_load_blk_w (by rfl) _ _ rfl w.heap.size (by rfl) _ C5 Try.underlying31 (by kernel_rfl) ?_) | (refine wpList_load_blk_w (by rfl) _ _ rfl W1.heap.size (by rfl) _ G5 Try.underlying110 (by kernel_rfl) ?_))
      clear g1 g2
      refine Calls.mono (KZ.out _) ?_
      rintro e W5z ⟨rfl, bb⟩
      have C5z := C5.kept bb
      have G5z := G5.kept bb
      have Z5z := Z5.kept bb
      have b5z := bel_tr b5 bb
      clear bb
      clear C5 G5 Z5 b5
      cases Q with
      | false =>
        have Zf := Z5z.set cn0.v
        have bf := below_setRow b5z gZ cn0.v
        go_wp2_with (first | (refine wpList_load_blk_w (by rfl) _ _ rfl w.heap.size (by rfl) _ C5z Try.underlying31 (by kernel_rfl) ?_) | (refine wpList_load_blk_w (by rfl) _ _ rfl W1.heap.size (by rfl) _ G5z Try.underlying110 (by kernel_rfl) ?_) | (refine wpList_store_row rfl _ _ _ rfl W2.heap.size cn0.v (by rfl) (by rfl) _ _ Z5z (by kernel_rfl) (by rfl) (by kernel_rfl) ?_))
        obtain rfl : (cn0, (1 : Int)) = R := by rw [← HR.out]; first | rfl | simp
        exact ret_cell_tmp (k := 6) (j := 7) Try.f68 (by kernel_rfl) Zf Try.underlying31 (by kernel_rfl) (by rfl) (by rfl) rfl ⟨rfl, bf⟩

      | true =>
        go_wp2_with (first | (refine wpList_load_blk_w (by rfl) _ _ rfl w.heap.size (by rfl) _ C5z Try.underlying31 (by kernel_rfl) ?_) | (refine wpList_load_blk_w (by rfl) _ _ rfl W1.heap.size (by rfl) _ G5z Try.underlying110 (by kernel_rfl) ?_))
        refine Calls.mono (KT.out _) ?_
        rintro e W5zt ⟨rfl, bb⟩
        have C5zt := C5z.kept bb
        have G5zt := G5z.kept bb
        have Z5zt := Z5z.kept bb
        have b5zt := bel_tr b5z bb
        clear bb
        clear C5z G5z Z5z b5z
        cases X with
        | none =>
          obtain ⟨Wy, hWy⟩ : ∃ W, W5zt.alloc (.cells #[.int .i64 0, .int .u32 0, .int .u32 0, .int .u32 0, .int .u32 0, .bool false, .bool false, .bool false, .bool false] 31) = W := ⟨_, rfl⟩
          have Yy := blk_nw hWy
          have Zy := Z5zt.al hWy
          have by_ := bel_al b5zt hWy
          have nZY : W2.heap.size ≠ W5zt.heap.size := by have := Z5zt.lt; omega
          have gY : w.heap.size ≤ W5zt.heap.size := by have := Z5zt.lt; omega
          have Ys := Yy.set c.v
          have Zs := Zy.other nZY c.v
          have bs := below_setRow by_ gY c.v
          have Zf := Zs.set cn0.v
          have bf := below_setRow bs gZ cn0.v
          go_wp2_with (first | (refine wpList_store_row rfl _ _ _ rfl W5zt.heap.size c.v (by rfl) (by rfl) _ _ Yy (by kernel_rfl) (by rfl) (by kernel_rfl) ?_) | (refine wpList_load_blk_w (by rfl) _ _ rfl W5zt.heap.size (by rfl) _ Ys Try.underlying31 (by kernel_rfl) ?_) | (refine wpList_store_row rfl _ _ _ rfl W2.heap.size cn0.v (by rfl) (by rfl) _ _ Zs (by kernel_rfl) (by rfl) (by kernel_rfl) ?_))
          obtain rfl : (cn0, (23 : Int)) = R := by rw [← HR.out]; first | rfl | simp
          exact ret_cell_tmp (k := 6) (j := 7) Try.f68 (by kernel_rfl) Zf Try.underlying31 (by kernel_rfl) (by rfl) (by rfl) rfl ⟨rfl, bf⟩

        | some d =>
          obtain ⟨Wy, hWy⟩ : ∃ W, W5zt.alloc (.cells #[.int .i64 0, .int .u32 0, .int .u32 0, .int .u32 0, .int .u32 0, .bool false, .bool false, .bool false, .bool false] 31) = W := ⟨_, rfl⟩
          have Yy := blk_nw hWy
          have Zy := Z5zt.al hWy
          have by_ := bel_al b5zt hWy
          have nZY : W2.heap.size ≠ W5zt.heap.size := by have := Z5zt.lt; omega
          have gY : w.heap.size ≤ W5zt.heap.size := by have := Z5zt.lt; omega
          have Ys := Yy.set d.v
          have Zs := Zy.other nZY d.v
          have bs := below_setRow by_ gY d.v
          have Zf := Zs.set d.v
          have bf := below_setRow bs gZ d.v
          go_wp2_with (first | (refine wpList_store_row rfl _ _ _ rfl W5zt.heap.size d.v (by rfl) (by rfl) _ _ Yy (by kernel_rfl) (by rfl) (by kernel_rfl) ?_) | (refine wpList_load_blk_w (by rfl) _ _ rfl W5zt.heap.size (by rfl) _ Ys Try.underlying31 (by kernel_rfl) ?_) | (refine wpList_store_row rfl _ _ _ rfl W2.heap.size d.v (by rfl) (by rfl) _ _ Zs (by kernel_rfl) (by rfl) (by kernel_rfl) ?_))
          obtain rfl : (d, (0 : Int)) = R := by rw [← HR.out]; first | rfl | simp
          exact ret_cell_tmp (k := 6) (j := 7) Try.f68 (by kernel_rfl) Zf Try.underlying31 (by kernel_rfl) (by rfl) (by rfl) rfl ⟨rfl, bf⟩
set_option maxRecDepth 100000 in
set_option maxHeartbeats 4000000 in
theorem step1_tc (c : Cn) (g : Gt) (w : World) :
    Calls Try.prog 68 #[.agg c.v, .int .i64 1, .agg g.v] w fun e w' => e = .returned (.tuple #[.agg (c.step 1 g).1.v, .int .i64 (c.step 1 g).2]) ∧ Below w.heap.size w w' := by
  obtain ⟨R, hR⟩ : ∃ R, c.step 1 g = R := ⟨_, rfl⟩
  have HR : Hid ((if c.right && (inB15 g.win && inB15 g.sz) then (match c.take true g with | some d => ((d, 0) : Cn × Int) | none => (cn0, 23)) else (cn0, 1)) = R) := hR
  rw [hR]
  clear hR
  have KR : Hid (∀ W, Calls Try.prog 67 #[.agg c.v] W fun e w' => e = .returned (.bool c.right) ∧ Below W.heap.size W w') := fun W => right_tc c W
  have KW : Hid (∀ W, Calls Try.prog 79 #[.int .i64 g.win] W fun e w' => e = .returned (.bool (inB15 g.win)) ∧ Below W.heap.size W w') := fun W => size_tc g.win W
  have KZ : Hid (∀ W, Calls Try.prog 79 #[.int .i64 g.sz] W fun e w' => e = .returned (.bool (inB15 g.sz)) ∧ Below W.heap.size W w') := fun W => size_tc g.sz W
  have KT : Hid (∀ W, Calls Try.prog 83 #[.agg c.v, .int .i64 1, .agg g.v] W fun e w' => e = .returned (.tuple #[.agg ((c.take true g).getD c).v, .bool (c.take true g).isSome]) ∧ Below W.heap.size W w') := fun W => take1_tc c g W
  generalize inB15 g.win = P at *
  generalize inB15 g.sz = Q at *
  generalize c.take true g = X at *
  generalize c.right = V at *
  obtain ⟨W1, hW1⟩ : ∃ W, w.alloc (.cells (c.v) 31) = W := ⟨_, rfl⟩
  have b1 := bel_nw hW1
  have C1 := blk_nw hW1
  have g1 := C1.lt
  obtain ⟨W2, hW2⟩ : ∃ W, W1.alloc (.cells g.v 110) = W := ⟨_, rfl⟩
  have b2 := bel_al b1 hW2
  have C2 := C1.al hW2
  have G2 := blk_nw hW2
  have g2 := G2.lt
  obtain ⟨W3, hW3⟩ : ∃ W, W2.alloc (.cells #[.int .i64 0, .int .u32 0, .int .u32 0, .int .u32 0, .int .u32 0, .bool false, .bool false, .bool false, .bool false] 31) = W := ⟨_, rfl⟩
  have b3 := bel_al b2 hW3
  have C3 := C2.al hW3
  have G3 := G2.al hW3
  have Z3 := blk_nw hW3
  have nCG : w.heap.size ≠ W1.heap.size := by omega
  have nGC : W1.heap.size ≠ w.heap.size := by omega
  have nCZ : w.heap.size ≠ W2.heap.size := by omega
  have nGZ : W1.heap.size ≠ W2.heap.size := by omega
  have nZC : W2.heap.size ≠ w.heap.size := by omega
  have gZ : w.heap.size ≤ W2.heap.size := by omega
  have gG : w.heap.size ≤ W1.heap.size := by omega
  clear b1 b2 C1 C2 G2 g1 g2
  go_enter Try.func68, Try.ntmps68
  go_wp2_with (first | (refine wpList_load_blk_w (by rfl) _ _ rfl w.heap.size (by rfl) _ C3 Try.underlying31 (by kernel_rfl) ?_) | (refine wpList_load_blk_w (by rfl) _ _ rfl W1.heap.size (by rfl) _ G3 Try.underlying110 (by kernel_rfl) ?_))
  refine Calls.mono (KR.out _) ?_
  rintro e W4 ⟨rfl, bb⟩
  have C4 := C3.kept bb
  have G4 := G3.kept bb
  have Z4 := Z3.kept bb
  have b4 := bel_tr b3 bb
  clear bb
  clear C3 G3 Z3 b3
  have g1 := G4.cell 1 (.int .i64 g.win) rfl
  have g2 := G4.cell 2 (.int .i64 g.sz) rfl
  cases V with
  | false =>
    have Zf := Z4.set cn0.v
    have bf := below_setRow b4 gZ cn0.v
    go_wp2_with (first | (refine wpList_load_blk_w (by rfl) _ _ rfl w.heap.size (by rfl) _ C4 Try.underlying31 (by kernel_rfl) ?_) | (refine wpList_load_blk_w (by rfl) _ _ rfl W1.heap.size (by rfl) _ G4 Try.underlying110 (by kernel_rfl) ?_) | (refine wpList_store_row rfl _ _ _ rfl W2.heap.size cn0.v (by rfl) (by rfl) _ _ Z4 (by kernel_rfl) (by rfl) (by kernel_rfl) ?_))
    obtain rfl : (cn0, (1 : Int)) = R := by rw [← HR.out]; first | rfl | simp
    exact ret_cell_tmp (k := 6) (j := 7) Try.f68 (by kernel_rfl) Zf Try.underlying31 (by kernel_rfl) (by rfl) (by rfl) rfl ⟨rfl, bf⟩

  | true =>
    go_wp2_with (first | (refine wpList_load_blk_w (by rfl) _ _ rfl w.heap.size (by rfl) _ C4 Try.underlying31 (by kernel_rfl) ?_) | (refine wpList_load_blk_w (by rfl) _ _ rfl W1.heap.size (by rfl) _ G4 Try.underlying110 (by kernel_rfl) ?_))
    clear g1 g2
    refine Calls.mono (KW.out _) ?_
    rintro e W5 ⟨rfl, bb⟩
    have C5 := C4.kept bb
    have G5 := G4.kept bb
    have Z5 := Z4.kept bb
    have b5 := bel_tr b4 bb
    clear bb
    clear C4 G4 Z4 b4
    have g1 := G5.cell 1 (.int .i64 g.win) rfl
    have g2 := G5.cell 2 (.int .i64 g.sz) rfl
    cases P with
    | false =>
      have Zf := Z5.set cn0.v
      have bf := below_setRow b5 gZ cn0.v
      go_wp2_with (first | (refine wpList_load_blk_w (by rfl) _ _ rfl w.heap.size (by rfl) _ C5 Try.underlying31 (by kernel_rfl) ?_) | (refine wpList_load_blk_w (by rfl) _ _ rfl W1.heap.size (by rfl) _ G5 Try.underlying110 (by kernel_rfl) ?_) | (refine wpList_store_row rfl _ _ _ rfl W2.heap.size cn0.v (by rfl) (by rfl) _ _ Z5 (by kernel_rfl) (by rfl) (by kernel_rfl) ?_))
      obtain rfl : (cn0, (1 : Int)) = R := by rw [← HR.out]; first | rfl | simp
      exact ret_cell_tmp (k := 6) (j := 7) Try.f68 (by kernel_rfl) Zf Try.underlying31 (by kernel_rfl) (by rfl) (by rfl) rfl ⟨rfl, bf⟩

    | true =>
      go_wp2_with (first | (refine wpList_load_blk_w (by rfl) _ _ rfl w.heap.size (by rfl) _ C5 Try.underlying31 (by kernel_rfl) ?_) | (refine wpList_load_blk_w (by rfl) _ _ rfl W1.heap.size (by rfl) _ G5 Try.underlying110 (by kernel_rfl) ?_))
      clear g1 g2
      refine Calls.mono (KZ.out _) ?_
      rintro e W5z ⟨rfl, bb⟩
      have C5z := C5.kept bb
      have G5z := G5.kept bb
      have Z5z := Z5.kept bb
      have b5z := bel_tr b5 bb
      clear bb
      clear C5 G5 Z5 b5
      cases Q with
      | false =>
        have Zf := Z5z.set cn0.v
        have bf := below_setRow b5z gZ cn0.v
        go_wp2_with (first | (refine wpList_load_blk_w (by rfl) _ _ rfl w.heap.size (by rfl) _ C5z Try.underlying31 (by kernel_rfl) ?_) | (refine wpList_load_blk_w (by rfl) _ _ rfl W1.heap.size (by rfl) _ G5z Try.underlying110 (by kernel_rfl) ?_) | (refine wpList_store_row rfl _ _ _ rfl W2.heap.size cn0.v (by rfl) (by rfl) _ _ Z5z (by kernel_rfl) (by rfl) (by kernel_rfl) ?_))
        obtain rfl : (cn0, (1 : Int)) = R := by rw [← HR.out]; first | rfl | simp
        exact ret_cell_tmp (k := 6) (j := 7) Try.f68 (by kernel_rfl) Zf Try.underlying31 (by kernel_rfl) (by rfl) (by rfl) rfl ⟨rfl, bf⟩

      | true =>
        go_wp2_with (first | (refine wpList_load_blk_w (by rfl) _ _ rfl w.heap.size (by rfl) _ C5z Try.underlying31 (by kernel_rfl) ?_) | (refine wpList_load_blk_w (by rfl) _ _ rfl W1.heap.size (by rfl) _ G5z Try.underlying110 (by kernel_rfl) ?_))
        refine Calls.mono (KT.out _) ?_
        rintro e W5zt ⟨rfl, bb⟩
        have C5zt := C5z.kept bb
        have G5zt := G5z.kept bb
        have Z5zt := Z5z.kept bb
        have b5zt := bel_tr b5z bb
        clear bb
        clear C5z G5z Z5z b5z
        cases X with
        | none =>
          obtain ⟨Wy, hWy⟩ : ∃ W, W5zt.alloc (.cells #[.int .i64 0, .int .u32 0, .int .u32 0, .int .u32 0, .int .u32 0, .bool false, .bool false, .bool false, .bool false] 31) = W := ⟨_, rfl⟩
          have Yy := blk_nw hWy
          have Zy := Z5zt.al hWy
          have by_ := bel_al b5zt hWy
          have nZY : W2.heap.size ≠ W5zt.heap.size := by have := Z5zt.lt; omega
          have gY : w.heap.size ≤ W5zt.heap.size := by have := Z5zt.lt; omega
          have Ys := Yy.set c.v
          have Zs := Zy.other nZY c.v
          have bs := below_setRow by_ gY c.v
          have Zf := Zs.set cn0.v
          have bf := below_setRow bs gZ cn0.v
          go_wp2_with (first | (refine wpList_store_row rfl _ _ _ rfl W5zt.heap.size c.v (by rfl) (by rfl) _ _ Yy (by kernel_rfl) (by rfl) (by kernel_rfl) ?_) | (refine wpList_load_blk_w (by rfl) _ _ rfl W5zt.heap.size (by rfl) _ Ys Try.underlying31 (by kernel_rfl) ?_) | (refine wpList_store_row rfl _ _ _ rfl W2.heap.size cn0.v (by rfl) (by rfl) _ _ Zs (by kernel_rfl) (by rfl) (by kernel_rfl) ?_))
          obtain rfl : (cn0, (23 : Int)) = R := by rw [← HR.out]; first | rfl | simp
          exact ret_cell_tmp (k := 6) (j := 7) Try.f68 (by kernel_rfl) Zf Try.underlying31 (by kernel_rfl) (by rfl) (by rfl) rfl ⟨rfl, bf⟩

        | some d =>
          obtain ⟨Wy, hWy⟩ : ∃ W, W5zt.alloc (.cells #[.int .i64 0, .int .u32 0, .int .u32 0, .int .u32 0, .int .u32 0, .bool false, .bool false, .bool false, .bool false] 31) = W := ⟨_, rfl⟩
          have Yy := blk_nw hWy
          have Zy := Z5zt.al hWy
          have by_ := bel_al b5zt hWy
          have nZY : W2.heap.size ≠ W5zt.heap.size := by have := Z5zt.lt; omega
          have gY : w.heap.size ≤ W5zt.heap.size := by have := Z5zt.lt; omega
          have Ys := Yy.set d.v
          have Zs := Zy.other nZY d.v
          have bs := below_setRow by_ gY d.v
          have Zf := Zs.set d.v
          have bf := below_setRow bs gZ d.v
          go_wp2_with (first | (refine wpList_store_row rfl _ _ _ rfl W5zt.heap.size d.v (by rfl) (by rfl) _ _ Yy (by kernel_rfl) (by rfl) (by kernel_rfl) ?_) | (refine wpList_load_blk_w (by rfl) _ _ rfl W5zt.heap.size (by rfl) _ Ys Try.underlying31 (by kernel_rfl) ?_) | (refine wpList_store_row rfl _ _ _ rfl W2.heap.size d.v (by rfl) (by rfl) _ _ Zs (by kernel_rfl) (by rfl) (by kernel_rfl) ?_))
          obtain rfl : (d, (0 : Int)) = R := by rw [← HR.out]; first | rfl | simp
          exact ret_cell_tmp (k := 6) (j := 7) Try.f68 (by kernel_rfl) Zf Try.underlying31 (by kernel_rfl) (by rfl) (by rfl) rfl ⟨rfl, bf⟩
set_option maxRecDepth 100000 in
set_option maxHeartbeats 4000000 in
theorem stepB_tc (c : Cn) (i : Int) (g : Gt) (w : World) (n0 : i ≠ 0) (n1 : i ≠ 1) :
    Calls Try.prog 68 #[.agg c.v, .int .i64 i, .agg g.v] w fun e w' => e = .returned (.tuple #[.agg (c.step i g).1.v, .int .i64 (c.step i g).2]) ∧ Below w.heap.size w w' := by
  obtain ⟨R, hR⟩ : ∃ R, c.step i g = R := ⟨_, rfl⟩
  have e0 : (i == 0) = false := by simpa using n0
  have e1 : (i == 1) = false := by simpa using n1
  have f0 : (i != 0) = true := by simpa using n0
  have f1 : (i != 1) = true := by simpa using n1
  rw [hR]
  obtain rfl : (cn0, 1) = R := by rw [← hR, Cn.step, e0, e1]; simp
  clear hR
  clear n0 n1
  have KR : Hid (∀ W, Calls Try.prog 67 #[.agg c.v] W fun e w' => e = .returned (.bool c.right) ∧ Below W.heap.size W w') := fun W => right_tc c W
  generalize c.right = V at *
  obtain ⟨W1, hW1⟩ : ∃ W, w.alloc (.cells (c.v) 31) = W := ⟨_, rfl⟩
  have b1 := bel_nw hW1
  have C1 := blk_nw hW1
  have g1 := C1.lt
  obtain ⟨W2, hW2⟩ : ∃ W, W1.alloc (.cells g.v 110) = W := ⟨_, rfl⟩
  have b2 := bel_al b1 hW2
  have C2 := C1.al hW2
  have G2 := blk_nw hW2
  have g2 := G2.lt
  obtain ⟨W3, hW3⟩ : ∃ W, W2.alloc (.cells #[.int .i64 0, .int .u32 0, .int .u32 0, .int .u32 0, .int .u32 0, .bool false, .bool false, .bool false, .bool false] 31) = W := ⟨_, rfl⟩
  have b3 := bel_al b2 hW3
  have C3 := C2.al hW3
  have G3 := G2.al hW3
  have Z3 := blk_nw hW3
  have nCG : w.heap.size ≠ W1.heap.size := by omega
  have nGC : W1.heap.size ≠ w.heap.size := by omega
  have nCZ : w.heap.size ≠ W2.heap.size := by omega
  have nGZ : W1.heap.size ≠ W2.heap.size := by omega
  have nZC : W2.heap.size ≠ w.heap.size := by omega
  have gZ : w.heap.size ≤ W2.heap.size := by omega
  have gG : w.heap.size ≤ W1.heap.size := by omega
  clear b1 b2 C1 C2 G2 g1 g2
  go_enter Try.func68, Try.ntmps68
  go_wp2_with (first | (refine wpList_load_blk_w (by rfl) _ _ rfl w.heap.size (by rfl) _ C3 Try.underlying31 (by kernel_rfl) ?_) | (refine wpList_load_blk_w (by rfl) _ _ rfl W1.heap.size (by rfl) _ G3 Try.underlying110 (by kernel_rfl) ?_))
  refine Calls.mono (KR.out _) ?_
  rintro e W4 ⟨rfl, bb⟩
  have C4 := C3.kept bb
  have G4 := G3.kept bb
  have Z4 := Z3.kept bb
  have b4 := bel_tr b3 bb
  clear bb
  clear C3 G3 Z3 b3
  cases V with
  | false =>
    have Zf := Z4.set cn0.v
    have bf := below_setRow b4 gZ cn0.v
    go_wp2_with (first | (refine wpList_load_blk_w (by rfl) _ _ rfl w.heap.size (by rfl) _ C4 Try.underlying31 (by kernel_rfl) ?_) | (refine wpList_load_blk_w (by rfl) _ _ rfl W1.heap.size (by rfl) _ G4 Try.underlying110 (by kernel_rfl) ?_) | (refine wpList_store_row rfl _ _ _ rfl W2.heap.size cn0.v (by rfl) (by rfl) _ _ Z4 (by kernel_rfl) (by rfl) (by kernel_rfl) ?_))
    exact ret_cell_tmp (k := 6) (j := 7) Try.f68 (by kernel_rfl) Zf Try.underlying31 (by kernel_rfl) (by rfl) (by rfl) rfl ⟨rfl, bf⟩

  | true =>
    have Zf := Z4.set cn0.v
    have bf := below_setRow b4 gZ cn0.v
    go_wp2_with (first | (refine wpList_load_blk_w (by rfl) _ _ rfl w.heap.size (by rfl) _ C4 Try.underlying31 (by kernel_rfl) ?_) | (refine wpList_load_blk_w (by rfl) _ _ rfl W1.heap.size (by rfl) _ G4 Try.underlying110 (by kernel_rfl) ?_) | (refine wpList_store_row rfl _ _ _ rfl W2.heap.size cn0.v (by rfl) (by rfl) _ _ Z4 (by kernel_rfl) (by rfl) (by kernel_rfl) ?_))
    exact ret_cell_tmp (k := 6) (j := 7) Try.f68 (by kernel_rfl) Zf Try.underlying31 (by kernel_rfl) (by rfl) (by rfl) rfl ⟨rfl, bf⟩
set_option maxRecDepth 100000 in
set_option maxHeartbeats 4000000 in
theorem begin_tc (f sq win sz : Int) (w : World) :
    Calls Try.prog 60 #[.int .i64 f, .int .u32 sq, .int .i64 win, .int .i64 sz] w fun e w' => e = .returned (.tuple #[.agg (beg f sq win sz).1.v, .int .i64 (beg f sq win sz).2]) ∧ Below w.heap.size w w' := by
  obtain ⟨R, hR⟩ : ∃ R, beg f sq win sz = R := ⟨_, rfl⟩
  have HR : Hid ((if inB15 win && inB15 sz then (if bits .and .i64 f 23 == 2 && sz == 0 then (⟨1, (sq + 1) % 4294967296, 0, (sq + 1) % 4294967296, win % 4294967296, true, false, false, false⟩, 0) else (cn0, 23)) else (cn0, 1)) = R) := hR
  rw [hR]
  clear hR
  have KW : Hid (∀ W, Calls Try.prog 79 #[.int .i64 win] W fun e w' => e = .returned (.bool (inB15 win)) ∧ Below W.heap.size W w') := fun W => size_tc win W
  have KZ : Hid (∀ W, Calls Try.prog 79 #[.int .i64 sz] W fun e w' => e = .returned (.bool (inB15 sz)) ∧ Below W.heap.size W w') := fun W => size_tc sz W
  generalize inB15 win = P at *
  generalize inB15 sz = Q at *
  have e2 : (bits .and .i64 f 23 != 2) = !(bits .and .i64 f 23 == 2) := rfl
  have e3 : (sz != 0) = !(sz == 0) := rfl
  generalize (bits .and .i64 f 23 == 2) = F at *
  generalize (sz == 0) = N at *
  obtain ⟨W1, hW1⟩ : ∃ W, w.alloc (.cells #[.int .i64 0, .int .u32 0, .int .u32 0, .int .u32 0, .int .u32 0, .bool false, .bool false, .bool false, .bool false] 31) = W := ⟨_, rfl⟩
  have b1 := bel_nw hW1
  have Z1 := blk_nw hW1
  have gZ : w.heap.size ≤ w.heap.size := Nat.le_refl _
  go_enter Try.func60, Try.ntmps60
  go_wp2_with fail
  refine Calls.mono (KW.out _) ?_
  rintro e W2 ⟨rfl, bb⟩
  have Z2 := Z1.kept bb
  have b2 := bel_tr b1 bb
  clear bb
  clear Z1 b1
  cases P with
  | false =>
    have Zf := Z2.set cn0.v
    have bf := below_setRow b2 gZ cn0.v
    go_wp2_with (refine wpList_store_row rfl _ _ _ rfl w.heap.size cn0.v (by rfl) (by rfl) _ _ Z2 (by kernel_rfl) (by rfl) (by kernel_rfl) ?_)
    obtain rfl : (cn0, (1 : Int)) = R := by rw [← HR.out]; first | rfl | simp
    exact ret_cell_tmp (k := 8) (j := 9) Try.f60 (by kernel_rfl) Zf Try.underlying31 (by kernel_rfl) (by rfl) (by rfl) rfl ⟨rfl, bf⟩

  | true =>
    go_wp2_with fail
    refine Calls.mono (KZ.out _) ?_
    rintro e W3 ⟨rfl, bb⟩
    have Z3 := Z2.kept bb
    have b3 := bel_tr b2 bb
    clear bb
    clear Z2 b2
    cases Q with
    | false =>
      have Zf := Z3.set cn0.v
      have bf := below_setRow b3 gZ cn0.v
      go_wp2_with (refine wpList_store_row rfl _ _ _ rfl w.heap.size cn0.v (by rfl) (by rfl) _ _ Z3 (by kernel_rfl) (by rfl) (by kernel_rfl) ?_)
      obtain rfl : (cn0, (1 : Int)) = R := by rw [← HR.out]; first | rfl | simp
      exact ret_cell_tmp (k := 8) (j := 9) Try.f60 (by kernel_rfl) Zf Try.underlying31 (by kernel_rfl) (by rfl) (by rfl) rfl ⟨rfl, bf⟩

    | true =>
      cases F with
      | false =>
        try dsimp only [Bool.not_true, Bool.not_false] at e2 e3
        have Zf := Z3.set cn0.v
        have bf := below_setRow b3 gZ cn0.v
        go_wp2_with (refine wpList_store_row rfl _ _ _ rfl w.heap.size cn0.v (by rfl) (by rfl) _ _ Z3 (by kernel_rfl) (by rfl) (by kernel_rfl) ?_)
        obtain rfl : (cn0, (23 : Int)) = R := by rw [← HR.out]; first | rfl | simp
        exact ret_cell_tmp (k := 8) (j := 9) Try.f60 (by kernel_rfl) Zf Try.underlying31 (by kernel_rfl) (by rfl) (by rfl) rfl ⟨rfl, bf⟩

      | true =>
        cases N with
        | false =>
          try dsimp only [Bool.not_true, Bool.not_false] at e2 e3
          have Zf := Z3.set cn0.v
          have bf := below_setRow b3 gZ cn0.v
          go_wp2_with (refine wpList_store_row rfl _ _ _ rfl w.heap.size cn0.v (by rfl) (by rfl) _ _ Z3 (by kernel_rfl) (by rfl) (by kernel_rfl) ?_)
          obtain rfl : (cn0, (23 : Int)) = R := by rw [← HR.out]; first | rfl | simp
          exact ret_cell_tmp (k := 8) (j := 9) Try.f60 (by kernel_rfl) Zf Try.underlying31 (by kernel_rfl) (by rfl) (by rfl) rfl ⟨rfl, bf⟩

        | true =>
          try dsimp only [Bool.not_true, Bool.not_false] at e2 e3
          have Zf := Z3.set (Cn.v ⟨1, (sq + 1) % 4294967296, 0, (sq + 1) % 4294967296, win % 4294967296, true, false, false, false⟩)
          have bf := below_setRow b3 gZ (Cn.v ⟨1, (sq + 1) % 4294967296, 0, (sq + 1) % 4294967296, win % 4294967296, true, false, false, false⟩)
          go_wp2_with (refine wpList_store_row rfl _ _ _ rfl w.heap.size (Cn.v ⟨1, (sq + 1) % 4294967296, 0, (sq + 1) % 4294967296, win % 4294967296, true, false, false, false⟩) (by rfl) (by rfl) _ _ Z3 (by kernel_rfl) (by rfl) (by kernel_rfl) ?_)
          obtain rfl : ((⟨1, (sq + 1) % 4294967296, 0, (sq + 1) % 4294967296, win % 4294967296, true, false, false, false⟩ : Cn), (0 : Int)) = R := by rw [← HR.out]; first | rfl | simp
          exact ret_cell_tmp (k := 8) (j := 9) Try.f60 (by kernel_rfl) Zf Try.underlying31 (by kernel_rfl) (by rfl) (by rfl) rfl ⟨rfl, bf⟩
theorem step_tc (c : Cn) (i : Int) (g : Gt) (w : World) : Calls Try.prog 68 #[.agg c.v, .int .i64 i, .agg g.v] w fun e w' => e = .returned (.tuple #[.agg (c.step i g).1.v, .int .i64 (c.step i g).2]) ∧ Below w.heap.size w w' := by
  by_cases h0 : i = 0
  · subst h0; exact step0_tc c g w
  by_cases h1 : i = 1
  · subst h1; exact step1_tc c g w
  exact stepB_tc c i g w h0 h1
theorem eqU_tc (d : Nat) (a b a' b' : Int) (w : World) : (Op.equalIn (d + 2) 28 (.agg #[.int .u32 a, .int .u32 b]) (.agg #[.int .u32 a', .int .u32 b'])).run Try.prog w = .ok (a == a' && b == b') w := by
  obtain ⟨i, hi⟩ := Option.isSome_iff_exists.1 (show (Try.prog.info? 27).isSome = true by kernel_rfl)
  have hc : Try.prog.cellsOf 27 = 1 := by kernel_rfl
  rw [show d + 2 = (d + 1) + 1 from rfl, run_equalIn_array w (d + 1) _ _ Try.underlying28 hi, hc]
  show (Op.eqItems (d + 1) 27 1 _ _ [0, 1]).run Try.prog w = _
  cases h : (a == a') <;> cases h2 : (b == b') <;> simp [Op.eqItems, go_sem, h, h2] <;> simpa using h2
theorem eqL_tc (d : Nat) (a b a' b' : Bool) (w : World) : (Op.equalIn (d + 2) 29 (.agg #[.bool a, .bool b]) (.agg #[.bool a', .bool b'])).run Try.prog w = .ok (a == a' && b == b') w := by
  obtain ⟨i, hi⟩ := Option.isSome_iff_exists.1 (show (Try.prog.info? 4).isSome = true by kernel_rfl)
  have hc : Try.prog.cellsOf 4 = 1 := by kernel_rfl
  rw [show d + 2 = (d + 1) + 1 from rfl, run_equalIn_array w (d + 1) _ _ Try.underlying29 hi, hc]
  show (Op.eqItems (d + 1) 4 1 _ _ [0, 1]).run Try.prog w = _
  cases a <;> cases a' <;> cases b <;> cases b' <;> simp [Op.eqItems, go_sem]
set_option maxRecDepth 100000 in
set_option maxHeartbeats 1000000 in
theorem rrev_t (t : Wy) (w : World) :
    Calls Try.prog 27 #[.agg t.v] w fun e w' => e = .returned (.agg t.rev.v) ∧ Below w.heap.size w w' := by
  obtain ⟨f, pr, ⟨sf, sh, sl⟩, ⟨df, dh, dl⟩, sp, dp⟩ := t
  go_enter Try.func27, Try.ntmps27
  go_wp2
  exact ret_cell (k := 2) Try.f27 (by kernel_rfl) (blk_two _ _ _ _) Try.underlying26 (by kernel_rfl) (by rfl) rfl ⟨rfl, bel_two _ _ _⟩
set_option maxRecDepth 100000 in
set_option maxHeartbeats 1000000 in
theorem rev_t (t : Wy) (w : World) :
    Calls Try.prog 55 #[.agg t.v] w fun e w' => e = .returned (.agg t.rev.v) ∧ Below w.heap.size w w' := by
  obtain ⟨f, pr, ⟨sf, sh, sl⟩, ⟨df, dh, dl⟩, sp, dp⟩ := t
  go_enter Try.func55, Try.ntmps55
  go_wp2
  exact ret_cell (k := 2) Try.f55 (by kernel_rfl) (blk_two _ _ _ _) Try.underlying26 (by kernel_rfl) (by rfl) rfl ⟨rfl, bel_two _ _ _⟩
/-- The key that a way is classified by. -/
def Wy.key (t : Wy) (kind code fr tz : Int) : Ky := if t.pr = 1 ∨ t.pr = 58 then ⟨fr, tz, t.s, t.d, t.pr, kind, code⟩ else ⟨fr, tz, t.s, t.d, t.pr, t.sp, t.dp⟩
theorem bne_t_fw {a b : Int} (h : (a != b) = true) : (a == b) = false := by simpa using h
theorem bne_f_fw {a b : Int} (h : (a != b) = false) : (a == b) = true := by simpa using h
theorem retB_fw {a b : Bool} (h : a = b) : Ending.returned (.bool a) = Ending.returned (.bool b) := by rw [h]
theorem retN_fw {k : IntKind} {a b : Int} (h : a = b) : Ending.returned (.int k a) = Ending.returned (.int k b) := by rw [h]
set_option maxRecDepth 100000 in
theorem eqz_cn (c : Cn) (w : World) : (Go.binOp .eql 31 (.agg c.v) (.agg #[.int .i64 0, .int .u32 0, .int .u32 0, .int .u32 0, .int .u32 0, .bool false, .bool false, .bool false, .bool false])).run Try.prog w = Result.ok (.bool c.zB) w := by
  obtain ⟨st, n0, n1, e0, e1, k0, k1, d0, d1⟩ := c
  unfold Cn.zB
  simp only
  by_cases h0 : st = 0
  case neg => simp [go_sem, h0]
  subst h0
  by_cases h1 : (n0 == 0 && n1 == 0) = true
  case neg =>
    have h1' : (n0 == 0 && n1 == 0) = false := by simpa using h1
    simp [go_sem, eqU_tc 9997, h1', -Bool.and_eq_false_imp]
  by_cases h2 : (e0 == 0 && e1 == 0) = true
  case neg =>
    have h2' : (e0 == 0 && e1 == 0) = false := by simpa using h2
    simp [go_sem, eqU_tc 9997, h1, h2', -Bool.and_eq_false_imp, -Bool.and_eq_true]
  cases k0 <;> cases k1 <;> cases d0 <;> cases d1 <;> simp [go_sem, eqU_tc 9997, eqL_tc 9997, h1, h2, -Bool.and_eq_true]
set_option maxRecDepth 100000 in
set_option maxHeartbeats 4000000 in
theorem help_fw (h : Int) (w : World) :
    Calls Try.prog 32 #[.int .i64 h] w fun e w' => e = .returned (.bool (hlpB h)) ∧ Below w.heap.size w w' := by
  obtain ⟨R, hR⟩ : ∃ R, hlpB h = R := ⟨_, rfl⟩
  have HR : Hid (hlpB h = R) := hR
  rw [hR]
  clear hR
  have b := Below.refl w.heap.size w
  go_enter Try.func32, Try.ntmps32
  cases hq1 : (decide (0 ≤ h)) with
  | false =>
    go_wp2_with fail
    go_ret
    exact ⟨retB_fw (by rw [← HR.out]; first | rfl | (simp [hlpB, hq1]; done) | (simp [hlpB, hq1]; rfl)), b⟩

  | true =>
    go_wp2_with fail
    go_ret
    exact ⟨retB_fw (by rw [← HR.out]; first | rfl | (simp [hlpB, hq1]; done) | (simp [hlpB, hq1]; rfl)), b⟩
set_option maxRecDepth 100000 in
set_option maxHeartbeats 4000000 in
theorem now_fw (n : Int) (w : World) :
    Calls Try.prog 31 #[.int .i64 n] w fun e w' => e = .returned (.bool (nowB n)) ∧ Below w.heap.size w w' := by
  obtain ⟨R, hR⟩ : ∃ R, nowB n = R := ⟨_, rfl⟩
  have HR : Hid (nowB n = R) := hR
  rw [hR]
  clear hR
  have b := Below.refl w.heap.size w
  go_enter Try.func31, Try.ntmps31
  cases hq1 : (decide (0 ≤ n)) with
  | false =>
    go_wp2_with fail
    go_ret
    exact ⟨retB_fw (by rw [← HR.out]; first | rfl | (simp [nowB, hq1]; done) | (simp [nowB, hq1]; rfl)), b⟩

  | true =>
    go_wp2_with fail
    go_ret
    exact ⟨retB_fw (by rw [← HR.out]; first | rfl | (simp [nowB, hq1]; done) | (simp [nowB, hq1]; rfl)), b⟩
set_option maxRecDepth 100000 in
set_option maxHeartbeats 4000000 in
theorem conn_fw (f : Fl) (w : World) :
    Calls Try.prog 40 #[.agg f.v] w fun e w' => e = .returned (.bool f.cnB) ∧ Below w.heap.size w w' := by
  obtain ⟨R, hR⟩ : ∃ R, f.cnB = R := ⟨_, rfl⟩
  have HR : Hid (f.cnB = R) := hR
  rw [hR]
  clear hR
  have b := Below.refl w.heap.size w
  go_enter Try.func40, Try.ntmps40
  cases hq3 : (f.w.pr == 6) with
  | false =>
    obtain ⟨Wm4, hWm4⟩ : ∃ W, w.alloc (.cells f.v 33) = W := ⟨_, rfl⟩
    have bm4 := bel_nw hWm4
    have Am4 := blk_nw hWm4
    have gA : w.heap.size ≤ w.heap.size := Nat.le_refl _
    have c5 := Am4.cell 1 (.int .i64 f.w.pr) rfl
    have hE6 := eqz_cn f.c
    go_wp2_with (refine wpList_load_sub_w (by rfl) _ _ rfl w.heap.size 10 _ (by rfl) _ f.c.v Am4 (by rfl) Try.underlying31 (by kernel_rfl) ?_)
    go_ret
    exact ⟨retB_fw (by rw [← HR.out]; first | rfl | (simp [Fl.cnB, hq3]; done) | (simp [Fl.cnB, hq3]; rfl)), bm4⟩

  | true =>
    obtain ⟨Wm7, hWm7⟩ : ∃ W, w.alloc (.cells f.v 33) = W := ⟨_, rfl⟩
    have bm7 := bel_nw hWm7
    have Am7 := blk_nw hWm7
    have gA : w.heap.size ≤ w.heap.size := Nat.le_refl _
    have c8 := Am7.cell 1 (.int .i64 f.w.pr) rfl
    go_wp2_with (refine wpList_load_sub_w (by rfl) _ _ rfl w.heap.size 10 _ (by rfl) _ f.c.v Am7 (by rfl) Try.underlying31 (by kernel_rfl) ?_)
    clear c8
    refine Calls.mono (right_tc f.c _) ?_
    rintro e Wm9 ⟨rfl, bb⟩
    have Am9 := Am7.kept bb
    have bm9 := bel_tr bm7 bb
    clear bb
    clear Am7 bm7
    go_wp2_with fail
    go_ret
    exact ⟨retB_fw (by rw [← HR.out]; first | rfl | (simp [Fl.cnB, hq3]; done) | (simp [Fl.cnB, hq3]; rfl)), bm9⟩
set_option maxRecDepth 100000 in
set_option maxHeartbeats 4000000 in
theorem right_fw (f : Fl) (w : World) :
    Calls Try.prog 12 #[.agg f.v] w fun e w' => e = .returned (.bool f.right) ∧ Below w.heap.size w w' := by
  obtain ⟨R, hR⟩ : ∃ R, f.right = R := ⟨_, rfl⟩
  have HR : Hid (f.right = R) := hR
  rw [hR]
  clear hR
  have b := Below.refl w.heap.size w
  go_enter Try.func12, Try.ntmps12
  obtain ⟨Wm1, hWm1⟩ : ∃ W, w.alloc (.cells f.v 33) = W := ⟨_, rfl⟩
  have bm1 := bel_nw hWm1
  have Am1 := blk_nw hWm1
  have gA : w.heap.size ≤ w.heap.size := Nat.le_refl _
  go_wp2_with (refine wpList_load_sub_w (by rfl) _ _ rfl w.heap.size 0 _ (by rfl) _ f.w.v Am1 (by rfl) Try.underlying26 (by kernel_rfl) ?_)
  refine Calls.mono (right_t f.w _) ?_
  rintro e Wm2 ⟨rfl, bb⟩
  have Am2 := Am1.kept bb
  have bm2 := bel_tr bm1 bb
  clear bb
  clear Am1 bm1
  cases hq3 : f.w.right with
  | false =>
    go_wp2_with fail
    go_ret
    exact ⟨retB_fw (by rw [← HR.out]; first | rfl | (simp [Fl.right, endB, hq3]; done) | (simp [Fl.right, endB, hq3]; rfl)), bm2⟩

  | true =>
    cases hq5 : (decide (0 ≤ f.ends)) with
    | false =>
      have c6 := Am2.cell 19 (.int .i64 f.ends) rfl
      go_wp2_with fail
      go_ret
      exact ⟨retB_fw (by rw [← HR.out]; first | rfl | (simp [Fl.right, endB, hq3, hq5]; done) | (simp [Fl.right, endB, hq3, hq5]; rfl)), bm2⟩

    | true =>
      cases hq8 : (decide (f.ends ≤ 4611686018427387904)) with
      | false =>
        have c9 := Am2.cell 19 (.int .i64 f.ends) rfl
        go_wp2_with fail
        go_ret
        exact ⟨retB_fw (by rw [← HR.out]; first | rfl | (simp [Fl.right, endB, hq3, hq5, hq8]; done) | (simp [Fl.right, endB, hq3, hq5, hq8]; rfl)), bm2⟩

      | true =>
        have c10 := Am2.cell 19 (.int .i64 f.ends) rfl
        have c11 := Am2.cell 20 (.int .i64 f.help) rfl
        go_wp2_with fail
        clear c10 c11
        refine Calls.mono (help_fw f.help _) ?_
        rintro e Wm12 ⟨rfl, bb⟩
        have Am12 := Am2.kept bb
        have bm12 := bel_tr bm2 bb
        clear bb
        clear Am2 bm2
        cases hq13 : (hlpB f.help) with
        | false =>
          go_wp2_with fail
          go_ret
          exact ⟨retB_fw (by rw [← HR.out]; first | rfl | (simp [Fl.right, endB, hq3, hq5, hq8, hq13]; done) | (simp [Fl.right, endB, hq3, hq5, hq8, hq13]; rfl)), bm12⟩

        | true =>
          go_wp2_with (refine wpList_load_blk_w (by rfl) _ _ rfl w.heap.size (by rfl) _ Am12 Try.underlying33 (by kernel_rfl) ?_)
          refine Calls.mono (conn_fw f _) ?_
          rintro e Wm14 ⟨rfl, bb⟩
          have Am14 := Am12.kept bb
          have bm14 := bel_tr bm12 bb
          clear bb
          clear Am12 bm12
          go_wp2_with fail
          go_ret
          exact ⟨retB_fw (by rw [← HR.out]; first | rfl | (simp [Fl.right, endB, hq3, hq5, hq8, hq13]; done) | (simp [Fl.right, endB, hq3, hq5, hq8, hq13]; rfl)), bm14⟩
end Go.Proofs.Ytfiembbmgdmagaa
