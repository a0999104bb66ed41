/- Texts joined: TcD -/
import Derived.Test.YtmjjdbkipagkbaaFyp12
namespace Go.Proofs.Ytmjjdbkipagkbaa
open Go.RowKit
set_option linter.unusedVariables false
set_option linter.unusedSimpArgs false
set_option maxRecDepth 100000 in
set_option maxHeartbeats 4000000 in
theorem reset0_tc (c : Cn) (g : Gt) (w : World) :
    Calls Try.prog 98 #[.agg c.v, .int .i64 0, .agg g.v] w fun e w' => e = .returned (.tuple #[.agg ((c.rst false g).getD c).v, .bool (c.rst false g).isSome]) ∧ Below w.heap.size w w' := by
  obtain ⟨R, hR⟩ : ∃ R, c.rst false g = R := ⟨_, rfl⟩
  have HR : Hid ((if c.win false g || (false && (c.st == 1 && (flB g.fl 16 && g.ak == c.n0))) then some { c with st := 6 } else none) = R) := hR
  rw [hR]
  clear hR
  have KW : Hid (∀ W, Calls Try.prog 107 #[.agg c.v, .int .i64 0, .agg g.v] W fun e w' => e = .returned (.bool (c.win false g)) ∧ Below W.heap.size W w') := fun W => window0_tc c g W
  generalize c.win false g = P at *
  generalize hX : (c.st == 1) = X at *
  generalize flB g.fl 16 = A at *
  generalize hQ : (g.ak == c.n0) = Q at *
  obtain ⟨st, n0, n1, e0, e1, k0, k1, d0, d1⟩ := c
  dsimp only at *
  obtain ⟨W1, hW1⟩ : ∃ W, w.alloc (.cells (Cn.v ⟨st, n0, n1, e0, e1, k0, k1, d0, d1⟩) 31) = W := ⟨_, rfl⟩
  have b1 := bel_nw hW1
  have C1 := blk_nw hW1
  have g1 := C1.lt
  obtain ⟨W2, hW2⟩ : ∃ W, W1.alloc (.cells g.v 110) = W := ⟨_, rfl⟩
  have b2 := bel_al b1 hW2
  have C2 := C1.al hW2
  have G2 := blk_nw hW2
  have g2 := G2.lt
  obtain ⟨W3, hW3⟩ : ∃ W, W2.alloc (.cells #[.int .i64 0, .int .u32 0, .int .u32 0, .int .u32 0, .int .u32 0, .bool false, .bool false, .bool false, .bool false] 31) = W := ⟨_, rfl⟩
  have b3 := bel_al b2 hW3
  have C3 := C2.al hW3
  have G3 := G2.al hW3
  have Z3 := blk_nw hW3
  have nCG : w.heap.size ≠ W1.heap.size := by omega
  have nGC : W1.heap.size ≠ w.heap.size := by omega
  have nCZ : w.heap.size ≠ W2.heap.size := by omega
  have nGZ : W1.heap.size ≠ W2.heap.size := by omega
  have nZC : W2.heap.size ≠ w.heap.size := by omega
  have gZ : w.heap.size ≤ W2.heap.size := by omega
  have gG : w.heap.size ≤ W1.heap.size := by omega
  clear b1 b2 C1 C2 G2 g1 g2
  have c0 := C3.cell 0 (.int .i64 st) rfl
  have c1 := C3.cell 1 (.int .u32 n0) rfl
  have g4 := G3.cell 4 (.int .u32 g.ak) rfl
  go_enter Try.func98, Try.ntmps98
  go_wp2_with (first | (refine wpList_load_blk_w (by rfl) _ _ rfl w.heap.size (by rfl) _ C3 Try.underlying31 (by kernel_rfl) ?_) | (refine wpList_load_blk_w (by rfl) _ _ rfl W1.heap.size (by rfl) _ G3 Try.underlying110 (by kernel_rfl) ?_))
  clear c0 c1 g4
  refine Calls.mono (KW.out _) ?_
  rintro e Ww3 ⟨rfl, bb⟩
  have Cw3 := C3.kept bb
  have Gw3 := G3.kept bb
  have Zw3 := Z3.kept bb
  have bw3 := bel_tr b3 bb
  clear bb
  clear C3 G3 Z3 b3
  cases P with
  | false =>
    have Zf := Zw3.set (Cn.v ⟨st, n0, n1, e0, e1, k0, k1, d0, d1⟩)
    have bf := below_setRow bw3 gZ (Cn.v ⟨st, n0, n1, e0, e1, k0, k1, d0, d1⟩)
    go_wp2_with (first | (refine wpList_load_blk_w (by rfl) _ _ rfl w.heap.size (by rfl) _ Cw3 Try.underlying31 (by kernel_rfl) ?_) | (refine wpList_load_blk_w (by rfl) _ _ rfl W1.heap.size (by rfl) _ Gw3 Try.underlying110 (by kernel_rfl) ?_) | (refine wpList_store_row rfl _ _ _ rfl W2.heap.size (Cn.v ⟨st, n0, n1, e0, e1, k0, k1, d0, d1⟩) (by rfl) (by rfl) _ _ Zw3 (by kernel_rfl) (by rfl) (by kernel_rfl) ?_))
    obtain rfl : R = none := by rw [← HR.out]; first | rfl | simp [sdI, stOf, Cn.nx, Cn.ed, Cn.kn, Cn.ans, Cn.byR, *]
    exact ret_cell_tmp (k := 6) (j := 7) Try.f98 (by kernel_rfl) Zf Try.underlying31 (by kernel_rfl) (by rfl) (by rfl) rfl ⟨rfl, bf⟩

  | true =>
    have y0 := Cw3.cell 0 (.int .i64 st) rfl
    have z0 := Cw3.frozen 0
    obtain ⟨Wrw3, hWrw3⟩ : ∃ W, Ww3.setCell ⟨w.heap.size, 0, none⟩ (.int .i64 6) = W := ⟨_, rfl⟩
    have Crw3 : Blk Wrw3 w.heap.size 31 (Cn.v ⟨6, n0, n1, e0, e1, k0, k1, d0, d1⟩) := hWrw3 ▸ Cw3.put 0 (.int .i64 6)
    have Grw3 := hWrw3 ▸ Gw3.put_other Cw3 nGC 0 (.int .i64 6)
    have Zrw3 := hWrw3 ▸ Zw3.put_other Cw3 nZC 0 (.int .i64 6)
    have brw3 := hWrw3 ▸ bw3.setCell (p := ⟨w.heap.size, 0, none⟩) (Nat.le_refl _) (.int .i64 6)
    have Zf := Zrw3.set (Cn.v ⟨6, n0, n1, e0, e1, k0, k1, d0, d1⟩)
    have bf := below_setRow brw3 gZ (Cn.v ⟨6, n0, n1, e0, e1, k0, k1, d0, d1⟩)
    go_wp2_with (first | (refine wpList_load_blk_w (by rfl) _ _ rfl w.heap.size (by rfl) _ Crw3 Try.underlying31 (by kernel_rfl) ?_) | (refine wpList_load_blk_w (by rfl) _ _ rfl W1.heap.size (by rfl) _ Grw3 Try.underlying110 (by kernel_rfl) ?_) | (refine wpList_store_row rfl _ _ _ rfl W2.heap.size (Cn.v ⟨6, n0, n1, e0, e1, k0, k1, d0, d1⟩) (by rfl) (by rfl) _ _ Zrw3 (by kernel_rfl) (by rfl) (by kernel_rfl) ?_))
    obtain rfl : R = some ⟨6, n0, n1, e0, e1, k0, k1, d0, d1⟩ := by rw [← HR.out]; first | rfl | simp [sdI, stOf, Cn.nx, Cn.ed, Cn.kn, Cn.ans, Cn.byR, *]
    exact ret_cell_tmp (k := 6) (j := 7) Try.f98 (by kernel_rfl) Zf Try.underlying31 (by kernel_rfl) (by rfl) (by rfl) rfl ⟨rfl, bf⟩
set_option maxRecDepth 100000 in
set_option maxHeartbeats 4000000 in
theorem reset1_tc (c : Cn) (g : Gt) (w : World) :
    Calls Try.prog 98 #[.agg c.v, .int .i64 1, .agg g.v] w fun e w' => e = .returned (.tuple #[.agg ((c.rst true g).getD c).v, .bool (c.rst true g).isSome]) ∧ Below w.heap.size w w' := by
  obtain ⟨R, hR⟩ : ∃ R, c.rst true g = R := ⟨_, rfl⟩
  have HR : Hid ((if c.win true g || (true && (c.st == 1 && (flB g.fl 16 && g.ak == c.n0))) then some { c with st := 6 } else none) = R) := hR
  rw [hR]
  clear hR
  have KW : Hid (∀ W, Calls Try.prog 107 #[.agg c.v, .int .i64 1, .agg g.v] W fun e w' => e = .returned (.bool (c.win true g)) ∧ Below W.heap.size W w') := fun W => window1_tc c g W
  have KA : Hid (∀ W, Calls Try.prog 97 #[.agg g.v, .int .i64 16] W fun e w' => e = .returned (.bool (flB g.fl 16)) ∧ Below W.heap.size W w') := fun W => has_tc g 16 W
  generalize c.win true g = P at *
  generalize hX : (c.st == 1) = X at *
  generalize flB g.fl 16 = A at *
  generalize hQ : (g.ak == c.n0) = Q at *
  obtain ⟨st, n0, n1, e0, e1, k0, k1, d0, d1⟩ := c
  dsimp only at *
  obtain ⟨W1, hW1⟩ : ∃ W, w.alloc (.cells (Cn.v ⟨st, n0, n1, e0, e1, k0, k1, d0, d1⟩) 31) = W := ⟨_, rfl⟩
  have b1 := bel_nw hW1
  have C1 := blk_nw hW1
  have g1 := C1.lt
  obtain ⟨W2, hW2⟩ : ∃ W, W1.alloc (.cells g.v 110) = W := ⟨_, rfl⟩
  have b2 := bel_al b1 hW2
  have C2 := C1.al hW2
  have G2 := blk_nw hW2
  have g2 := G2.lt
  obtain ⟨W3, hW3⟩ : ∃ W, W2.alloc (.cells #[.int .i64 0, .int .u32 0, .int .u32 0, .int .u32 0, .int .u32 0, .bool false, .bool false, .bool false, .bool false] 31) = W := ⟨_, rfl⟩
  have b3 := bel_al b2 hW3
  have C3 := C2.al hW3
  have G3 := G2.al hW3
  have Z3 := blk_nw hW3
  have nCG : w.heap.size ≠ W1.heap.size := by omega
  have nGC : W1.heap.size ≠ w.heap.size := by omega
  have nCZ : w.heap.size ≠ W2.heap.size := by omega
  have nGZ : W1.heap.size ≠ W2.heap.size := by omega
  have nZC : W2.heap.size ≠ w.heap.size := by omega
  have gZ : w.heap.size ≤ W2.heap.size := by omega
  have gG : w.heap.size ≤ W1.heap.size := by omega
  clear b1 b2 C1 C2 G2 g1 g2
  have c0 := C3.cell 0 (.int .i64 st) rfl
  have c1 := C3.cell 1 (.int .u32 n0) rfl
  have g4 := G3.cell 4 (.int .u32 g.ak) rfl
  go_enter Try.func98, Try.ntmps98
  cases X with
  | false =>
    go_wp2_with (first | (refine wpList_load_blk_w (by rfl) _ _ rfl w.heap.size (by rfl) _ C3 Try.underlying31 (by kernel_rfl) ?_) | (refine wpList_load_blk_w (by rfl) _ _ rfl W1.heap.size (by rfl) _ G3 Try.underlying110 (by kernel_rfl) ?_))
    clear c0 c1 g4
    refine Calls.mono (KW.out _) ?_
    rintro e Ww3 ⟨rfl, bb⟩
    have Cw3 := C3.kept bb
    have Gw3 := G3.kept bb
    have Zw3 := Z3.kept bb
    have bw3 := bel_tr b3 bb
    clear bb
    clear C3 G3 Z3 b3
    cases P with
    | false =>
      have Zf := Zw3.set (Cn.v ⟨st, n0, n1, e0, e1, k0, k1, d0, d1⟩)
      have bf := below_setRow bw3 gZ (Cn.v ⟨st, n0, n1, e0, e1, k0, k1, d0, d1⟩)
      go_wp2_with (first | (refine wpList_load_blk_w (by rfl) _ _ rfl w.heap.size (by rfl) _ Cw3 Try.underlying31 (by kernel_rfl) ?_) | (refine wpList_load_blk_w (by rfl) _ _ rfl W1.heap.size (by rfl) _ Gw3 Try.underlying110 (by kernel_rfl) ?_) | (refine wpList_store_row rfl _ _ _ rfl W2.heap.size (Cn.v ⟨st, n0, n1, e0, e1, k0, k1, d0, d1⟩) (by rfl) (by rfl) _ _ Zw3 (by kernel_rfl) (by rfl) (by kernel_rfl) ?_))
      obtain rfl : R = none := by rw [← HR.out]; first | rfl | simp [sdI, stOf, Cn.nx, Cn.ed, Cn.kn, Cn.ans, Cn.byR, *]
      exact ret_cell_tmp (k := 6) (j := 7) Try.f98 (by kernel_rfl) Zf Try.underlying31 (by kernel_rfl) (by rfl) (by rfl) rfl ⟨rfl, bf⟩

    | true =>
      have y0 := Cw3.cell 0 (.int .i64 st) rfl
      have z0 := Cw3.frozen 0
      obtain ⟨Wrw3, hWrw3⟩ : ∃ W, Ww3.setCell ⟨w.heap.size, 0, none⟩ (.int .i64 6) = W := ⟨_, rfl⟩
      have Crw3 : Blk Wrw3 w.heap.size 31 (Cn.v ⟨6, n0, n1, e0, e1, k0, k1, d0, d1⟩) := hWrw3 ▸ Cw3.put 0 (.int .i64 6)
      have Grw3 := hWrw3 ▸ Gw3.put_other Cw3 nGC 0 (.int .i64 6)
      have Zrw3 := hWrw3 ▸ Zw3.put_other Cw3 nZC 0 (.int .i64 6)
      have brw3 := hWrw3 ▸ bw3.setCell (p := ⟨w.heap.size, 0, none⟩) (Nat.le_refl _) (.int .i64 6)
      have Zf := Zrw3.set (Cn.v ⟨6, n0, n1, e0, e1, k0, k1, d0, d1⟩)
      have bf := below_setRow brw3 gZ (Cn.v ⟨6, n0, n1, e0, e1, k0, k1, d0, d1⟩)
      go_wp2_with (first | (refine wpList_load_blk_w (by rfl) _ _ rfl w.heap.size (by rfl) _ Crw3 Try.underlying31 (by kernel_rfl) ?_) | (refine wpList_load_blk_w (by rfl) _ _ rfl W1.heap.size (by rfl) _ Grw3 Try.underlying110 (by kernel_rfl) ?_) | (refine wpList_store_row rfl _ _ _ rfl W2.heap.size (Cn.v ⟨6, n0, n1, e0, e1, k0, k1, d0, d1⟩) (by rfl) (by rfl) _ _ Zrw3 (by kernel_rfl) (by rfl) (by kernel_rfl) ?_))
      obtain rfl : R = some ⟨6, n0, n1, e0, e1, k0, k1, d0, d1⟩ := by rw [← HR.out]; first | rfl | simp [sdI, stOf, Cn.nx, Cn.ed, Cn.kn, Cn.ans, Cn.byR, *]
      exact ret_cell_tmp (k := 6) (j := 7) Try.f98 (by kernel_rfl) Zf Try.underlying31 (by kernel_rfl) (by rfl) (by rfl) rfl ⟨rfl, bf⟩


  | true =>
    go_wp2_with (refine wpList_load_blk_w (by rfl) _ _ rfl W1.heap.size (by rfl) _ G3 Try.underlying110 (by kernel_rfl) ?_)
    clear c0 c1 g4
    refine Calls.mono (KA.out _) ?_
    rintro e W4 ⟨rfl, bb⟩
    have C4 := C3.kept bb
    have G4 := G3.kept bb
    have Z4 := Z3.kept bb
    have b4 := bel_tr b3 bb
    clear bb
    clear C3 G3 Z3 b3
    have c0 := C4.cell 0 (.int .i64 st) rfl
    have c1 := C4.cell 1 (.int .u32 n0) rfl
    have g4 := G4.cell 4 (.int .u32 g.ak) rfl
    cases A with
    | false =>
      go_wp2_with (first | (refine wpList_load_blk_w (by rfl) _ _ rfl w.heap.size (by rfl) _ C4 Try.underlying31 (by kernel_rfl) ?_) | (refine wpList_load_blk_w (by rfl) _ _ rfl W1.heap.size (by rfl) _ G4 Try.underlying110 (by kernel_rfl) ?_))
      clear c0 c1 g4
      refine Calls.mono (KW.out _) ?_
      rintro e Ww4 ⟨rfl, bb⟩
      have Cw4 := C4.kept bb
      have Gw4 := G4.kept bb
      have Zw4 := Z4.kept bb
      have bw4 := bel_tr b4 bb
      clear bb
      clear C4 G4 Z4 b4
      cases P with
      | false =>
        have Zf := Zw4.set (Cn.v ⟨st, n0, n1, e0, e1, k0, k1, d0, d1⟩)
        have bf := below_setRow bw4 gZ (Cn.v ⟨st, n0, n1, e0, e1, k0, k1, d0, d1⟩)
        go_wp2_with (first | (refine wpList_load_blk_w (by rfl) _ _ rfl w.heap.size (by rfl) _ Cw4 Try.underlying31 (by kernel_rfl) ?_) | (refine wpList_load_blk_w (by rfl) _ _ rfl W1.heap.size (by rfl) _ Gw4 Try.underlying110 (by kernel_rfl) ?_) | (refine wpList_store_row rfl _ _ _ rfl W2.heap.size (Cn.v ⟨st, n0, n1, e0, e1, k0, k1, d0, d1⟩) (by rfl) (by rfl) _ _ Zw4 (by kernel_rfl) (by rfl) (by kernel_rfl) ?_))
        obtain rfl : R = none := by rw [← HR.out]; first | rfl | simp [sdI, stOf, Cn.nx, Cn.ed, Cn.kn, Cn.ans, Cn.byR, *]
        exact ret_cell_tmp (k := 6) (j := 7) Try.f98 (by kernel_rfl) Zf Try.underlying31 (by kernel_rfl) (by rfl) (by rfl) rfl ⟨rfl, bf⟩

      | true =>
        have y0 := Cw4.cell 0 (.int .i64 st) rfl
        have z0 := Cw4.frozen 0
        obtain ⟨Wrw4, hWrw4⟩ : ∃ W, Ww4.setCell ⟨w.heap.size, 0, none⟩ (.int .i64 6) = W := ⟨_, rfl⟩
        have Crw4 : Blk Wrw4 w.heap.size 31 (Cn.v ⟨6, n0, n1, e0, e1, k0, k1, d0, d1⟩) := hWrw4 ▸ Cw4.put 0 (.int .i64 6)
        have Grw4 := hWrw4 ▸ Gw4.put_other Cw4 nGC 0 (.int .i64 6)
        have Zrw4 := hWrw4 ▸ Zw4.put_other Cw4 nZC 0 (.int .i64 6)
        have brw4 := hWrw4 ▸ bw4.setCell (p := ⟨w.heap.size, 0, none⟩) (Nat.le_refl _) (.int .i64 6)
        have Zf := Zrw4.set (Cn.v ⟨6, n0, n1, e0, e1, k0, k1, d0, d1⟩)
        have bf := below_setRow brw4 gZ (Cn.v ⟨6, n0, n1, e0, e1, k0, k1, d0, d1⟩)
        go_wp2_with (first | (refine wpList_load_blk_w (by rfl) _ _ rfl w.heap.size (by rfl) _ Crw4 Try.underlying31 (by kernel_rfl) ?_) | (refine wpList_load_blk_w (by rfl) _ _ rfl W1.heap.size (by rfl) _ Grw4 Try.underlying110 (by kernel_rfl) ?_) | (refine wpList_store_row rfl _ _ _ rfl W2.heap.size (Cn.v ⟨6, n0, n1, e0, e1, k0, k1, d0, d1⟩) (by rfl) (by rfl) _ _ Zrw4 (by kernel_rfl) (by rfl) (by kernel_rfl) ?_))
        obtain rfl : R = some ⟨6, n0, n1, e0, e1, k0, k1, d0, d1⟩ := by rw [← HR.out]; first | rfl | simp [sdI, stOf, Cn.nx, Cn.ed, Cn.kn, Cn.ans, Cn.byR, *]
        exact ret_cell_tmp (k := 6) (j := 7) Try.f98 (by kernel_rfl) Zf Try.underlying31 (by kernel_rfl) (by rfl) (by rfl) rfl ⟨rfl, bf⟩


    | true =>
      cases Q with
      | false =>
        go_wp2_with (first | (refine wpList_load_blk_w (by rfl) _ _ rfl w.heap.size (by rfl) _ C4 Try.underlying31 (by kernel_rfl) ?_) | (refine wpList_load_blk_w (by rfl) _ _ rfl W1.heap.size (by rfl) _ G4 Try.underlying110 (by kernel_rfl) ?_))
        clear c0 c1 g4
        refine Calls.mono (KW.out _) ?_
        rintro e Ww4 ⟨rfl, bb⟩
        have Cw4 := C4.kept bb
        have Gw4 := G4.kept bb
        have Zw4 := Z4.kept bb
        have bw4 := bel_tr b4 bb
        clear bb
        clear C4 G4 Z4 b4
        cases P with
        | false =>
          have Zf := Zw4.set (Cn.v ⟨st, n0, n1, e0, e1, k0, k1, d0, d1⟩)
          have bf := below_setRow bw4 gZ (Cn.v ⟨st, n0, n1, e0, e1, k0, k1, d0, d1⟩)
          go_wp2_with (first | (refine wpList_load_blk_w (by rfl) _ _ rfl w.heap.size (by rfl) _ Cw4 Try.underlying31 (by kernel_rfl) ?_) | (refine wpList_load_blk_w (by rfl) _ _ rfl W1.heap.size (by rfl) _ Gw4 Try.underlying110 (by kernel_rfl) ?_) | (refine wpList_store_row rfl _ _ _ rfl W2.heap.size (Cn.v ⟨st, n0, n1, e0, e1, k0, k1, d0, d1⟩) (by rfl) (by rfl) _ _ Zw4 (by kernel_rfl) (by rfl) (by kernel_rfl) ?_))
          obtain rfl : R = none := by rw [← HR.out]; first | rfl | simp [sdI, stOf, Cn.nx, Cn.ed, Cn.kn, Cn.ans, Cn.byR, *]
          exact ret_cell_tmp (k := 6) (j := 7) Try.f98 (by kernel_rfl) Zf Try.underlying31 (by kernel_rfl) (by rfl) (by rfl) rfl ⟨rfl, bf⟩

        | true =>
          have y0 := Cw4.cell 0 (.int .i64 st) rfl
          have z0 := Cw4.frozen 0
          obtain ⟨Wrw4, hWrw4⟩ : ∃ W, Ww4.setCell ⟨w.heap.size, 0, none⟩ (.int .i64 6) = W := ⟨_, rfl⟩
          have Crw4 : Blk Wrw4 w.heap.size 31 (Cn.v ⟨6, n0, n1, e0, e1, k0, k1, d0, d1⟩) := hWrw4 ▸ Cw4.put 0 (.int .i64 6)
          have Grw4 := hWrw4 ▸ Gw4.put_other Cw4 nGC 0 (.int .i64 6)
          have Zrw4 := hWrw4 ▸ Zw4.put_other Cw4 nZC 0 (.int .i64 6)
          have brw4 := hWrw4 ▸ bw4.setCell (p := ⟨w.heap.size, 0, none⟩) (Nat.le_refl _) (.int .i64 6)
          have Zf := Zrw4.set (Cn.v ⟨6, n0, n1, e0, e1, k0, k1, d0, d1⟩)
          have bf := below_setRow brw4 gZ (Cn.v ⟨6, n0, n1, e0, e1, k0, k1, d0, d1⟩)
          go_wp2_with (first | (refine wpList_load_blk_w (by rfl) _ _ rfl w.heap.size (by rfl) _ Crw4 Try.underlying31 (by kernel_rfl) ?_) | (refine wpList_load_blk_w (by rfl) _ _ rfl W1.heap.size (by rfl) _ Grw4 Try.underlying110 (by kernel_rfl) ?_) | (refine wpList_store_row rfl _ _ _ rfl W2.heap.size (Cn.v ⟨6, n0, n1, e0, e1, k0, k1, d0, d1⟩) (by rfl) (by rfl) _ _ Zrw4 (by kernel_rfl) (by rfl) (by kernel_rfl) ?_))
          obtain rfl : R = some ⟨6, n0, n1, e0, e1, k0, k1, d0, d1⟩ := by rw [← HR.out]; first | rfl | simp [sdI, stOf, Cn.nx, Cn.ed, Cn.kn, Cn.ans, Cn.byR, *]
          exact ret_cell_tmp (k := 6) (j := 7) Try.f98 (by kernel_rfl) Zf Try.underlying31 (by kernel_rfl) (by rfl) (by rfl) rfl ⟨rfl, bf⟩


      | true =>
        have y0 := C4.cell 0 (.int .i64 st) rfl
        have z0 := C4.frozen 0
        obtain ⟨Wr4, hWr4⟩ : ∃ W, W4.setCell ⟨w.heap.size, 0, none⟩ (.int .i64 6) = W := ⟨_, rfl⟩
        have Cr4 : Blk Wr4 w.heap.size 31 (Cn.v ⟨6, n0, n1, e0, e1, k0, k1, d0, d1⟩) := hWr4 ▸ C4.put 0 (.int .i64 6)
        have Gr4 := hWr4 ▸ G4.put_other C4 nGC 0 (.int .i64 6)
        have Zr4 := hWr4 ▸ Z4.put_other C4 nZC 0 (.int .i64 6)
        have br4 := hWr4 ▸ b4.setCell (p := ⟨w.heap.size, 0, none⟩) (Nat.le_refl _) (.int .i64 6)
        have Zf := Zr4.set (Cn.v ⟨6, n0, n1, e0, e1, k0, k1, d0, d1⟩)
        have bf := below_setRow br4 gZ (Cn.v ⟨6, n0, n1, e0, e1, k0, k1, d0, d1⟩)
        go_wp2_with (first | (refine wpList_load_blk_w (by rfl) _ _ rfl w.heap.size (by rfl) _ Cr4 Try.underlying31 (by kernel_rfl) ?_) | (refine wpList_load_blk_w (by rfl) _ _ rfl W1.heap.size (by rfl) _ Gr4 Try.underlying110 (by kernel_rfl) ?_) | (refine wpList_store_row rfl _ _ _ rfl W2.heap.size (Cn.v ⟨6, n0, n1, e0, e1, k0, k1, d0, d1⟩) (by rfl) (by rfl) _ _ Zr4 (by kernel_rfl) (by rfl) (by kernel_rfl) ?_))
        obtain rfl : R = some ⟨6, n0, n1, e0, e1, k0, k1, d0, d1⟩ := by rw [← HR.out]; first | rfl | simp [sdI, stOf, Cn.nx, Cn.ed, Cn.kn, Cn.ans, Cn.byR, *]
        exact ret_cell_tmp (k := 6) (j := 7) Try.f98 (by kernel_rfl) Zf Try.underlying31 (by kernel_rfl) (by rfl) (by rfl) rfl ⟨rfl, bf⟩
end Go.Proofs.Ytmjjdbkipagkbaa
