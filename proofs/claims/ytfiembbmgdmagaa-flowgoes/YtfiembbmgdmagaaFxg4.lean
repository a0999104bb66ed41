/- Texts joined: TcI TcJ TcO TuB TuC FwC BlkZ FwD -/
import Derived.Test.YtfiembbmgdmagaaFxg2
import Derived.Test.YtfiembbmgdmagaaFxg3
import Derived.ChangeKeysEq
import Derived.Deep.RegionHeld3
namespace Go.Proofs.Ytfiembbmgdmagaa
abbrev fxg4o0 : Oper := { dst := some 4, op := Op.assign (.tmp 22), type := 4, pos := "flow.go:104", after := #[{ on := 10, ground := Ground.data }, { on := 6, ground := Ground.chain }, { on := 0, ground := Ground.phase }, { on := 1, ground := Ground.phase }, { on := 2, ground := Ground.phase }, { on := 3, ground := Ground.phase }, { on := 4, ground := Ground.phase }, { on := 5, ground := Ground.phase }, { on := 6, ground := Ground.phase }, { on := 7, ground := Ground.phase }, { on := 8, ground := Ground.phase }, { on := 9, ground := Ground.phase }, { on := 10, ground := Ground.phase }], guard := none }
abbrev fxg4o1 : Oper := { dst := some 21, op := Op.binOp BinOp.eql 3 (.tmp 20) (.const (.int .i64 0)) 3, type := 4, pos := "flow.go:104", after := #[{ on := 8, ground := Ground.data }, { on := 6, ground := Ground.guard }], guard := some (6, true) }
abbrev fxg4o2 : Oper := { dst := some 22, op := Op.pick (.tmp 18) (.tmp 21) (.const (.bool false)), type := 4, pos := "flow.go:104", after := #[{ on := 6, ground := Ground.data }, { on := 9, ground := Ground.data }], guard := none }
abbrev fxg4o3 : Oper := { dst := some 20, op := Op.load 3 (.tmp 19), type := 3, pos := "flow.go:104", after := #[{ on := 7, ground := Ground.data }, { on := 6, ground := Ground.guard }], guard := some (6, true) }
abbrev fxg4o4 : Oper := { dst := some 19, op := Op.fieldAddr 36 (.tmp 2) 6, type := 0, pos := "flow.go:104", after := #[{ on := 6, ground := Ground.guard }], guard := some (6, true) }
abbrev fxg4o5 : Oper := { dst := some 17, op := Op.binOp BinOp.eql 3 (.tmp 13) (.tmp 16) 3, type := 4, pos := "flow.go:104", after := #[{ on := 1, ground := Ground.data }, { on := 4, ground := Ground.data }], guard := none }
abbrev fxg4o6 : Oper := { dst := some 15, op := Op.indexAddr 45 (.tmp 5) (.tmp 14), type := 0, pos := "flow.go:104", after := #[{ on := 2, ground := Ground.data }], guard := none }
abbrev fxg4o7 : Oper := { dst := some 13, op := Op.load 3 (.tmp 12), type := 3, pos := "flow.go:104", after := #[{ on := 0, ground := Ground.data }], guard := none }
abbrev fxg4o8 : Oper := { dst := some 16, op := Op.load 3 (.tmp 15), type := 3, pos := "flow.go:104", after := #[{ on := 3, ground := Ground.data }], guard := none }
abbrev fxg4o9 : Oper := { dst := some 18, op := Op.move (.tmp 17), type := 4, pos := "flow.go:104", after := #[{ on := 5, ground := Ground.data }], guard := none }
abbrev fxg4o10 : Oper := { dst := some 12, op := Op.fieldAddr 36 (.tmp 2) 5, type := 0, pos := "flow.go:104", after := #[], guard := none }
abbrev fxg4o11 : Oper := { dst := some 14, op := Op.move (.tmp 1), type := 3, pos := "flow.go:104", after := #[], guard := none }
end Go.Proofs.Ytfiembbmgdmagaa
namespace Go.Proofs.Ytfiembbmgdmagaa
open Go.RowKit
set_option linter.unusedVariables false
set_option linter.unusedSimpArgs false
set_option maxRecDepth 100000 in
set_option maxHeartbeats 4000000 in
theorem step0_tc (c : Cn) (g : Gt) (w : World) :
  Calls Try.prog 68 #[.agg c.v, .int .i64 0, .agg g.v] w fun e w' => e = .returned (.tuple #[.agg (c.step 0 g).1.v, .int .i64 (c.step 0 g).2]) ∧ Below w.heap.size w w' := by
 obtain ⟨R, hR⟩ : ∃ R, c.step 0 g = R := ⟨_, rfl⟩
 have HR : Hid ((if c.right && (inB15 g.win && inB15 g.sz) then (match c.take false g with | some d => ((d, 0) : Cn × Int) | none => (cn0, 23)) else (cn0, 1)) = R) := hR
 rw [hR]
 clear hR
 have KR : Hid (∀ W, Calls Try.prog 67 #[.agg c.v] W fun e w' => e = .returned (.bool c.right) ∧ Below W.heap.size W w') := fun W => right_tc c W
 have KW : Hid (∀ W, Calls Try.prog 79 #[.int .i64 g.win] W fun e w' => e = .returned (.bool (inB15 g.win)) ∧ Below W.heap.size W w') := fun W => size_tc g.win W
 have KZ : Hid (∀ W, Calls Try.prog 79 #[.int .i64 g.sz] W fun e w' => e = .returned (.bool (inB15 g.sz)) ∧ Below W.heap.size W w') := fun W => size_tc g.sz W
 have KT : Hid (∀ W, Calls Try.prog 83 #[.agg c.v, .int .i64 0, .agg g.v] W fun e w' => e = .returned (.tuple #[.agg ((c.take false g).getD c).v, .bool (c.take false g).isSome]) ∧ Below W.heap.size W w') := fun W => take0_tc c g W
 generalize inB15 g.win = P at *
 generalize inB15 g.sz = Q at *
 generalize c.take false g = X at *
 generalize c.right = V at *
 obtain ⟨W1, hW1⟩ : ∃ W, w.alloc (.cells (c.v) 31) = W := ⟨_, rfl⟩
 have b1 := bel_nw hW1
 have C1 := blk_nw hW1
 have g1 := C1.lt
 obtain ⟨W2, hW2⟩ : ∃ W, W1.alloc (.cells g.v 110) = W := ⟨_, rfl⟩
 have b2 := bel_al b1 hW2
 have C2 := C1.al hW2
 have G2 := blk_nw hW2
 have g2 := G2.lt
 obtain ⟨W3, hW3⟩ : ∃ W, W2.alloc (.cells #[.int .i64 0, .int .u32 0, .int .u32 0, .int .u32 0, .int .u32 0, .bool false, .bool false, .bool false, .bool false] 31) = W := ⟨_, rfl⟩
 have b3 := bel_al b2 hW3
 have C3 := C2.al hW3
 have G3 := G2.al hW3
 have Z3 := blk_nw hW3
 have nCG : w.heap.size ≠ W1.heap.size := by omega
 have nGC : W1.heap.size ≠ w.heap.size := by omega
 have nCZ : w.heap.size ≠ W2.heap.size := by omega
 have nGZ : W1.heap.size ≠ W2.heap.size := by omega
 have nZC : W2.heap.size ≠ w.heap.size := by omega
 have gZ : w.heap.size ≤ W2.heap.size := by omega
 have gG : w.heap.size ≤ W1.heap.size := by omega
 clear b1 b2 C1 C2 G2 g1 g2
 go_enter Try.func68, Try.ntmps68
 go_wp2_with (first | (refine wpList_load_blk_w (by rfl) _ _ rfl w.heap.size (by rfl) _ C3 Try.underlying31 (by kernel_rfl) ?_) | (refine wpList_load_blk_w (by rfl) _ _ rfl W1.heap.size (by rfl) _ G3 Try.underlying110 (by kernel_rfl) ?_))
 refine Calls.mono (KR.out _) ?_
 rintro e W4 ⟨rfl, bb⟩
 have C4 := C3.kept bb
 have G4 := G3.kept bb
 have Z4 := Z3.kept bb
 have b4 := bel_tr b3 bb
 clear bb
 clear C3 G3 Z3 b3
 have g1 := G4.cell 1 (.int .i64 g.win) rfl
 have g2 := G4.cell 2 (.int .i64 g.sz) rfl
 cases V with
 | false =>
  have Zf := Z4.set cn0.v
  have bf := below_setRow b4 gZ cn0.v
  go_wp2_with (first | (refine wpList_load_blk_w (by rfl) _ _ rfl w.heap.size (by rfl) _ C4 Try.underlying31 (by kernel_rfl) ?_) | (refine wpList_load_blk_w (by rfl) _ _ rfl W1.heap.size (by rfl) _ G4 Try.underlying110 (by kernel_rfl) ?_) | (refine wpList_store_row rfl _ _ _ rfl W2.heap.size cn0.v (by rfl) (by rfl) _ _ Z4 (by kernel_rfl) (by rfl) (by kernel_rfl) ?_))
  obtain rfl : (cn0, (1 : Int)) = R := by rw [← HR.out]; first | rfl | simp
  exact ret_cell_tmp (k := 6) (j := 7) Try.f68 (by kernel_rfl) Zf Try.underlying31 (by kernel_rfl) (by rfl) (by rfl) rfl ⟨rfl, bf⟩

 | true =>
  go_wp2_with (first | (refine wpList_load_blk_w (by rfl) _ _ rfl w.heap.size (by rfl) _ C4 Try.underlying31 (by kernel_rfl) ?_) | (refine wpList_load_blk_w (by rfl) _ _ rfl W1.heap.size (by rfl) _ G4 Try.underlying110 (by kernel_rfl) ?_))
  clear g1 g2
  refine Calls.mono (KW.out _) ?_
  rintro e W5 ⟨rfl, bb⟩
  have C5 := C4.kept bb
  have G5 := G4.kept bb
  have Z5 := Z4.kept bb
  have b5 := bel_tr b4 bb
  clear bb
  clear C4 G4 Z4 b4
  have g1 := G5.cell 1 (.int .i64 g.win) rfl
  have g2 := G5.cell 2 (.int .i64 g.sz) rfl
  cases P with
  | false =>
   have Zf := Z5.set cn0.v
   have bf := below_setRow b5 gZ cn0.v
   go_wp2_with (first | (refine wpList_load_blk_w (by rfl) _ _ rfl w.heap.size (by rfl) _ C5 Try.underlying31 (by kernel_rfl) ?_) | (refine wpList_load_blk_w (by rfl) _ _ rfl W1.heap.size (by rfl) _ G5 Try.underlying110 (by kernel_rfl) ?_) | (refine wpList_store_row rfl _ _ _ rfl W2.heap.size cn0.v (by rfl) (by rfl) _ _ Z5 (by kernel_rfl) (by rfl) (by kernel_rfl) ?_))
   obtain rfl : (cn0, (1 : Int)) = R := by rw [← HR.out]; first | rfl | simp
   exact ret_cell_tmp (k := 6) (j := 7) Try.f68 (by kernel_rfl) Zf Try.underlying31 (by kernel_rfl) (by rfl) (by rfl) rfl ⟨rfl, bf⟩

  | true =>
   go_wp2_with (first | (refine wpList_load_blk_w (by rfl) _ _ rfl w.heap.size (by rfl) _ C5 Try.underlying31 (by kernel_rfl) ?_) | (refine wpList_load_blk_w (by rfl) _ _ rfl W1.heap.size (by rfl) _ G5 Try.underlying110 (by kernel_rfl) ?_))
   clear g1 g2
   refine Calls.mono (KZ.out _) ?_
   rintro e W5z ⟨rfl, bb⟩
   have C5z := C5.kept bb
   have G5z := G5.kept bb
   have Z5z := Z5.kept bb
   have b5z := bel_tr b5 bb
   clear bb
   clear C5 G5 Z5 b5
   cases Q with
   | false =>
    have Zf := Z5z.set cn0.v
    have bf := below_setRow b5z gZ cn0.v
    go_wp2_with (first | (refine wpList_load_blk_w (by rfl) _ _ rfl w.heap.size (by rfl) _ C5z Try.underlying31 (by kernel_rfl) ?_) | (refine wpList_load_blk_w (by rfl) _ _ rfl W1.heap.size (by rfl) _ G5z Try.underlying110 (by kernel_rfl) ?_) | (refine wpList_store_row rfl _ _ _ rfl W2.heap.size cn0.v (by rfl) (by rfl) _ _ Z5z (by kernel_rfl) (by rfl) (by kernel_rfl) ?_))
    obtain rfl : (cn0, (1 : Int)) = R := by rw [← HR.out]; first | rfl | simp
    exact ret_cell_tmp (k := 6) (j := 7) Try.f68 (by kernel_rfl) Zf Try.underlying31 (by kernel_rfl) (by rfl) (by rfl) rfl ⟨rfl, bf⟩

   | true =>
    go_wp2_with (first | (refine wpList_load_blk_w (by rfl) _ _ rfl w.heap.size (by rfl) _ C5z Try.underlying31 (by kernel_rfl) ?_) | (refine wpList_load_blk_w (by rfl) _ _ rfl W1.heap.size (by rfl) _ G5z Try.underlying110 (by kernel_rfl) ?_))
    refine Calls.mono (KT.out _) ?_
    rintro e W5zt ⟨rfl, bb⟩
    have C5zt := C5z.kept bb
    have G5zt := G5z.kept bb
    have Z5zt := Z5z.kept bb
    have b5zt := bel_tr b5z bb
    clear bb
    clear C5z G5z Z5z b5z
    cases X with
    | none =>
     obtain ⟨Wy, hWy⟩ : ∃ W, W5zt.alloc (.cells #[.int .i64 0, .int .u32 0, .int .u32 0, .int .u32 0, .int .u32 0, .bool false, .bool false, .bool false, .bool false] 31) = W := ⟨_, rfl⟩
     have Yy := blk_nw hWy
     have Zy := Z5zt.al hWy
     have by_ := bel_al b5zt hWy
     have nZY : W2.heap.size ≠ W5zt.heap.size := by have := Z5zt.lt; omega
     have gY : w.heap.size ≤ W5zt.heap.size := by have := Z5zt.lt; omega
     have Ys := Yy.set c.v
     have Zs := Zy.other nZY c.v
     have bs := below_setRow by_ gY c.v
     have Zf := Zs.set cn0.v
     have bf := below_setRow bs gZ cn0.v
     go_wp2_with (first | (refine wpList_store_row rfl _ _ _ rfl W5zt.heap.size c.v (by rfl) (by rfl) _ _ Yy (by kernel_rfl) (by rfl) (by kernel_rfl) ?_) | (refine wpList_load_blk_w (by rfl) _ _ rfl W5zt.heap.size (by rfl) _ Ys Try.underlying31 (by kernel_rfl) ?_) | (refine wpList_store_row rfl _ _ _ rfl W2.heap.size cn0.v (by rfl) (by rfl) _ _ Zs (by kernel_rfl) (by rfl) (by kernel_rfl) ?_))
     obtain rfl : (cn0, (23 : Int)) = R := by rw [← HR.out]; first | rfl | simp
     exact ret_cell_tmp (k := 6) (j := 7) Try.f68 (by kernel_rfl) Zf Try.underlying31 (by kernel_rfl) (by rfl) (by rfl) rfl ⟨rfl, bf⟩

    | some d =>
     obtain ⟨Wy, hWy⟩ : ∃ W, W5zt.alloc (.cells #[.int .i64 0, .int .u32 0, .int .u32 0, .int .u32 0, .int .u32 0, .bool false, .bool false, .bool false, .bool false] 31) = W := ⟨_, rfl⟩
     have Yy := blk_nw hWy
     have Zy := Z5zt.al hWy
     have by_ := bel_al b5zt hWy
     have nZY : W2.heap.size ≠ W5zt.heap.size := by have := Z5zt.lt; omega
     have gY : w.heap.size ≤ W5zt.heap.size := by have := Z5zt.lt; omega
     have Ys := Yy.set d.v
     have Zs := Zy.other nZY d.v
     have bs := below_setRow by_ gY d.v
     have Zf := Zs.set d.v
     have bf := below_setRow bs gZ d.v
     go_wp2_with (first | (refine wpList_store_row rfl _ _ _ rfl W5zt.heap.size d.v (by rfl) (by rfl) _ _ Yy (by kernel_rfl) (by rfl) (by kernel_rfl) ?_) | (refine wpList_load_blk_w (by rfl) _ _ rfl W5zt.heap.size (by rfl) _ Ys Try.underlying31 (by kernel_rfl) ?_) | (refine wpList_store_row rfl _ _ _ rfl W2.heap.size d.v (by rfl) (by rfl) _ _ Zs (by kernel_rfl) (by rfl) (by kernel_rfl) ?_))
     obtain rfl : (d, (0 : Int)) = R := by rw [← HR.out]; first | rfl | simp
     exact ret_cell_tmp (k := 6) (j := 7) Try.f68 (by kernel_rfl) Zf Try.underlying31 (by kernel_rfl) (by rfl) (by rfl) rfl ⟨rfl, bf⟩
set_option maxRecDepth 100000 in
set_option maxHeartbeats 4000000 in
theorem step1_tc (c : Cn) (g : Gt) (w : World) :
  Calls Try.prog 68 #[.agg c.v, .int .i64 1, .agg g.v] w fun e w' => e = .returned (.tuple #[.agg (c.step 1 g).1.v, .int .i64 (c.step 1 g).2]) ∧ Below w.heap.size w w' := by
 obtain ⟨R, hR⟩ : ∃ R, c.step 1 g = R := ⟨_, rfl⟩
 have HR : Hid ((if c.right && (inB15 g.win && inB15 g.sz) then (match c.take true g with | some d => ((d, 0) : Cn × Int) | none => (cn0, 23)) else (cn0, 1)) = R) := hR
 rw [hR]
 clear hR
 have KR : Hid (∀ W, Calls Try.prog 67 #[.agg c.v] W fun e w' => e = .returned (.bool c.right) ∧ Below W.heap.size W w') := fun W => right_tc c W
 have KW : Hid (∀ W, Calls Try.prog 79 #[.int .i64 g.win] W fun e w' => e = .returned (.bool (inB15 g.win)) ∧ Below W.heap.size W w') := fun W => size_tc g.win W
 have KZ : Hid (∀ W, Calls Try.prog 79 #[.int .i64 g.sz] W fun e w' => e = .returned (.bool (inB15 g.sz)) ∧ Below W.heap.size W w') := fun W => size_tc g.sz W
 have KT : Hid (∀ W, Calls Try.prog 83 #[.agg c.v, .int .i64 1, .agg g.v] W fun e w' => e = .returned (.tuple #[.agg ((c.take true g).getD c).v, .bool (c.take true g).isSome]) ∧ Below W.heap.size W w') := fun W => take1_tc c g W
 generalize inB15 g.win = P at *
 generalize inB15 g.sz = Q at *
 generalize c.take true g = X at *
 generalize c.right = V at *
 obtain ⟨W1, hW1⟩ : ∃ W, w.alloc (.cells (c.v) 31) = W := ⟨_, rfl⟩
 have b1 := bel_nw hW1
 have C1 := blk_nw hW1
 have g1 := C1.lt
 obtain ⟨W2, hW2⟩ : ∃ W, W1.alloc (.cells g.v 110) = W := ⟨_, rfl⟩
 have b2 := bel_al b1 hW2
 have C2 := C1.al hW2
 have G2 := blk_nw hW2
 have g2 := G2.lt
 obtain ⟨W3, hW3⟩ : ∃ W, W2.alloc (.cells #[.int .i64 0, .int .u32 0, .int .u32 0, .int .u32 0, .int .u32 0, .bool false, .bool false, .bool false, .bool false] 31) = W := ⟨_, rfl⟩
 have b3 := bel_al b2 hW3
 have C3 := C2.al hW3
 have G3 := G2.al hW3
 have Z3 := blk_nw hW3
 have nCG : w.heap.size ≠ W1.heap.size := by omega
 have nGC : W1.heap.size ≠ w.heap.size := by omega
 have nCZ : w.heap.size ≠ W2.heap.size := by omega
 have nGZ : W1.heap.size ≠ W2.heap.size := by omega
 have nZC : W2.heap.size ≠ w.heap.size := by omega
 have gZ : w.heap.size ≤ W2.heap.size := by omega
 have gG : w.heap.size ≤ W1.heap.size := by omega
 clear b1 b2 C1 C2 G2 g1 g2
 go_enter Try.func68, Try.ntmps68
 go_wp2_with (first | (refine wpList_load_blk_w (by rfl) _ _ rfl w.heap.size (by rfl) _ C3 Try.underlying31 (by kernel_rfl) ?_) | (refine wpList_load_blk_w (by rfl) _ _ rfl W1.heap.size (by rfl) _ G3 Try.underlying110 (by kernel_rfl) ?_))
 refine Calls.mono (KR.out _) ?_
 rintro e W4 ⟨rfl, bb⟩
 have C4 := C3.kept bb
 have G4 := G3.kept bb
 have Z4 := Z3.kept bb
 have b4 := bel_tr b3 bb
 clear bb
 clear C3 G3 Z3 b3
 have g1 := G4.cell 1 (.int .i64 g.win) rfl
 have g2 := G4.cell 2 (.int .i64 g.sz) rfl
 cases V with
 | false =>
  have Zf := Z4.set cn0.v
  have bf := below_setRow b4 gZ cn0.v
  go_wp2_with (first | (refine wpList_load_blk_w (by rfl) _ _ rfl w.heap.size (by rfl) _ C4 Try.underlying31 (by kernel_rfl) ?_) | (refine wpList_load_blk_w (by rfl) _ _ rfl W1.heap.size (by rfl) _ G4 Try.underlying110 (by kernel_rfl) ?_) | (refine wpList_store_row rfl _ _ _ rfl W2.heap.size cn0.v (by rfl) (by rfl) _ _ Z4 (by kernel_rfl) (by rfl) (by kernel_rfl) ?_))
  obtain rfl : (cn0, (1 : Int)) = R := by rw [← HR.out]; first | rfl | simp
  exact ret_cell_tmp (k := 6) (j := 7) Try.f68 (by kernel_rfl) Zf Try.underlying31 (by kernel_rfl) (by rfl) (by rfl) rfl ⟨rfl, bf⟩

 | true =>
  go_wp2_with (first | (refine wpList_load_blk_w (by rfl) _ _ rfl w.heap.size (by rfl) _ C4 Try.underlying31 (by kernel_rfl) ?_) | (refine wpList_load_blk_w (by rfl) _ _ rfl W1.heap.size (by rfl) _ G4 Try.underlying110 (by kernel_rfl) ?_))
  clear g1 g2
  refine Calls.mono (KW.out _) ?_
  rintro e W5 ⟨rfl, bb⟩
  have C5 := C4.kept bb
  have G5 := G4.kept bb
  have Z5 := Z4.kept bb
  have b5 := bel_tr b4 bb
  clear bb
  clear C4 G4 Z4 b4
  have g1 := G5.cell 1 (.int .i64 g.win) rfl
  have g2 := G5.cell 2 (.int .i64 g.sz) rfl
  cases P with
  | false =>
   have Zf := Z5.set cn0.v
   have bf := below_setRow b5 gZ cn0.v
   go_wp2_with (first | (refine wpList_load_blk_w (by rfl) _ _ rfl w.heap.size (by rfl) _ C5 Try.underlying31 (by kernel_rfl) ?_) | (refine wpList_load_blk_w (by rfl) _ _ rfl W1.heap.size (by rfl) _ G5 Try.underlying110 (by kernel_rfl) ?_) | (refine wpList_store_row rfl _ _ _ rfl W2.heap.size cn0.v (by rfl) (by rfl) _ _ Z5 (by kernel_rfl) (by rfl) (by kernel_rfl) ?_))
   obtain rfl : (cn0, (1 : Int)) = R := by rw [← HR.out]; first | rfl | simp
   exact ret_cell_tmp (k := 6) (j := 7) Try.f68 (by kernel_rfl) Zf Try.underlying31 (by kernel_rfl) (by rfl) (by rfl) rfl ⟨rfl, bf⟩

  | true =>
   go_wp2_with (first | (refine wpList_load_blk_w (by rfl) _ _ rfl w.heap.size (by rfl) _ C5 Try.underlying31 (by kernel_rfl) ?_) | (refine wpList_load_blk_w (by rfl) _ _ rfl W1.heap.size (by rfl) _ G5 Try.underlying110 (by kernel_rfl) ?_))
   clear g1 g2
   refine Calls.mono (KZ.out _) ?_
   rintro e W5z ⟨rfl, bb⟩
   have C5z := C5.kept bb
   have G5z := G5.kept bb
   have Z5z := Z5.kept bb
   have b5z := bel_tr b5 bb
   clear bb
   clear C5 G5 Z5 b5
   cases Q with
   | false =>
    have Zf := Z5z.set cn0.v
    have bf := below_setRow b5z gZ cn0.v
    go_wp2_with (first | (refine wpList_load_blk_w (by rfl) _ _ rfl w.heap.size (by rfl) _ C5z Try.underlying31 (by kernel_rfl) ?_) | (refine wpList_load_blk_w (by rfl) _ _ rfl W1.heap.size (by rfl) _ G5z Try.underlying110 (by kernel_rfl) ?_) | (refine wpList_store_row rfl _ _ _ rfl W2.heap.size cn0.v (by rfl) (by rfl) _ _ Z5z (by kernel_rfl) (by rfl) (by kernel_rfl) ?_))
    obtain rfl : (cn0, (1 : Int)) = R := by rw [← HR.out]; first | rfl | simp
    exact ret_cell_tmp (k := 6) (j := 7) Try.f68 (by kernel_rfl) Zf Try.underlying31 (by kernel_rfl) (by rfl) (by rfl) rfl ⟨rfl, bf⟩

   | true =>
    go_wp2_with (first | (refine wpList_load_blk_w (by rfl) _ _ rfl w.heap.size (by rfl) _ C5z Try.underlying31 (by kernel_rfl) ?_) | (refine wpList_load_blk_w (by rfl) _ _ rfl W1.heap.size (by rfl) _ G5z Try.underlying110 (by kernel_rfl) ?_))
    refine Calls.mono (KT.out _) ?_
    rintro e W5zt ⟨rfl, bb⟩
    have C5zt := C5z.kept bb
    have G5zt := G5z.kept bb
    have Z5zt := Z5z.kept bb
    have b5zt := bel_tr b5z bb
    clear bb
    clear C5z G5z Z5z b5z
    cases X with
    | none =>
     obtain ⟨Wy, hWy⟩ : ∃ W, W5zt.alloc (.cells #[.int .i64 0, .int .u32 0, .int .u32 0, .int .u32 0, .int .u32 0, .bool false, .bool false, .bool false, .bool false] 31) = W := ⟨_, rfl⟩
     have Yy := blk_nw hWy
     have Zy := Z5zt.al hWy
     have by_ := bel_al b5zt hWy
     have nZY : W2.heap.size ≠ W5zt.heap.size := by have := Z5zt.lt; omega
     have gY : w.heap.size ≤ W5zt.heap.size := by have := Z5zt.lt; omega
     have Ys := Yy.set c.v
     have Zs := Zy.other nZY c.v
     have bs := below_setRow by_ gY c.v
     have Zf := Zs.set cn0.v
     have bf := below_setRow bs gZ cn0.v
     go_wp2_with (first | (refine wpList_store_row rfl _ _ _ rfl W5zt.heap.size c.v (by rfl) (by rfl) _ _ Yy (by kernel_rfl) (by rfl) (by kernel_rfl) ?_) | (refine wpList_load_blk_w (by rfl) _ _ rfl W5zt.heap.size (by rfl) _ Ys Try.underlying31 (by kernel_rfl) ?_) | (refine wpList_store_row rfl _ _ _ rfl W2.heap.size cn0.v (by rfl) (by rfl) _ _ Zs (by kernel_rfl) (by rfl) (by kernel_rfl) ?_))
     obtain rfl : (cn0, (23 : Int)) = R := by rw [← HR.out]; first | rfl | simp
     exact ret_cell_tmp (k := 6) (j := 7) Try.f68 (by kernel_rfl) Zf Try.underlying31 (by kernel_rfl) (by rfl) (by rfl) rfl ⟨rfl, bf⟩

    | some d =>
     obtain ⟨Wy, hWy⟩ : ∃ W, W5zt.alloc (.cells #[.int .i64 0, .int .u32 0, .int .u32 0, .int .u32 0, .int .u32 0, .bool false, .bool false, .bool false, .bool false] 31) = W := ⟨_, rfl⟩
     have Yy := blk_nw hWy
     have Zy := Z5zt.al hWy
     have by_ := bel_al b5zt hWy
     have nZY : W2.heap.size ≠ W5zt.heap.size := by have := Z5zt.lt; omega
     have gY : w.heap.size ≤ W5zt.heap.size := by have := Z5zt.lt; omega
     have Ys := Yy.set d.v
     have Zs := Zy.other nZY d.v
     have bs := below_setRow by_ gY d.v
     have Zf := Zs.set d.v
     have bf := below_setRow bs gZ d.v
     go_wp2_with (first | (refine wpList_store_row rfl _ _ _ rfl W5zt.heap.size d.v (by rfl) (by rfl) _ _ Yy (by kernel_rfl) (by rfl) (by kernel_rfl) ?_) | (refine wpList_load_blk_w (by rfl) _ _ rfl W5zt.heap.size (by rfl) _ Ys Try.underlying31 (by kernel_rfl) ?_) | (refine wpList_store_row rfl _ _ _ rfl W2.heap.size d.v (by rfl) (by rfl) _ _ Zs (by kernel_rfl) (by rfl) (by kernel_rfl) ?_))
     obtain rfl : (d, (0 : Int)) = R := by rw [← HR.out]; first | rfl | simp
     exact ret_cell_tmp (k := 6) (j := 7) Try.f68 (by kernel_rfl) Zf Try.underlying31 (by kernel_rfl) (by rfl) (by rfl) rfl ⟨rfl, bf⟩
set_option maxRecDepth 100000 in
set_option maxHeartbeats 4000000 in
theorem stepB_tc (c : Cn) (i : Int) (g : Gt) (w : World) (n0 : i ≠ 0) (n1 : i ≠ 1) :
  Calls Try.prog 68 #[.agg c.v, .int .i64 i, .agg g.v] w fun e w' => e = .returned (.tuple #[.agg (c.step i g).1.v, .int .i64 (c.step i g).2]) ∧ Below w.heap.size w w' := by
 obtain ⟨R, hR⟩ : ∃ R, c.step i g = R := ⟨_, rfl⟩
 have e0 : (i == 0) = false := by simpa using n0
 have e1 : (i == 1) = false := by simpa using n1
 have f0 : (i != 0) = true := by simpa using n0
 have f1 : (i != 1) = true := by simpa using n1
 rw [hR]
 obtain rfl : (cn0, 1) = R := by rw [← hR, Cn.step, e0, e1]; simp
 clear hR
 clear n0 n1
 have KR : Hid (∀ W, Calls Try.prog 67 #[.agg c.v] W fun e w' => e = .returned (.bool c.right) ∧ Below W.heap.size W w') := fun W => right_tc c W
 generalize c.right = V at *
 obtain ⟨W1, hW1⟩ : ∃ W, w.alloc (.cells (c.v) 31) = W := ⟨_, rfl⟩
 have b1 := bel_nw hW1
 have C1 := blk_nw hW1
 have g1 := C1.lt
 obtain ⟨W2, hW2⟩ : ∃ W, W1.alloc (.cells g.v 110) = W := ⟨_, rfl⟩
 have b2 := bel_al b1 hW2
 have C2 := C1.al hW2
 have G2 := blk_nw hW2
 have g2 := G2.lt
 obtain ⟨W3, hW3⟩ : ∃ W, W2.alloc (.cells #[.int .i64 0, .int .u32 0, .int .u32 0, .int .u32 0, .int .u32 0, .bool false, .bool false, .bool false, .bool false] 31) = W := ⟨_, rfl⟩
 have b3 := bel_al b2 hW3
 have C3 := C2.al hW3
 have G3 := G2.al hW3
 have Z3 := blk_nw hW3
 have nCG : w.heap.size ≠ W1.heap.size := by omega
 have nGC : W1.heap.size ≠ w.heap.size := by omega
 have nCZ : w.heap.size ≠ W2.heap.size := by omega
 have nGZ : W1.heap.size ≠ W2.heap.size := by omega
 have nZC : W2.heap.size ≠ w.heap.size := by omega
 have gZ : w.heap.size ≤ W2.heap.size := by omega
 have gG : w.heap.size ≤ W1.heap.size := by omega
 clear b1 b2 C1 C2 G2 g1 g2
 go_enter Try.func68, Try.ntmps68
 go_wp2_with (first | (refine wpList_load_blk_w (by rfl) _ _ rfl w.heap.size (by rfl) _ C3 Try.underlying31 (by kernel_rfl) ?_) | (refine wpList_load_blk_w (by rfl) _ _ rfl W1.heap.size (by rfl) _ G3 Try.underlying110 (by kernel_rfl) ?_))
 refine Calls.mono (KR.out _) ?_
 rintro e W4 ⟨rfl, bb⟩
 have C4 := C3.kept bb
 have G4 := G3.kept bb
 have Z4 := Z3.kept bb
 have b4 := bel_tr b3 bb
 clear bb
 clear C3 G3 Z3 b3
 cases V with
 | false =>
  have Zf := Z4.set cn0.v
  have bf := below_setRow b4 gZ cn0.v
  go_wp2_with (first | (refine wpList_load_blk_w (by rfl) _ _ rfl w.heap.size (by rfl) _ C4 Try.underlying31 (by kernel_rfl) ?_) | (refine wpList_load_blk_w (by rfl) _ _ rfl W1.heap.size (by rfl) _ G4 Try.underlying110 (by kernel_rfl) ?_) | (refine wpList_store_row rfl _ _ _ rfl W2.heap.size cn0.v (by rfl) (by rfl) _ _ Z4 (by kernel_rfl) (by rfl) (by kernel_rfl) ?_))
  exact ret_cell_tmp (k := 6) (j := 7) Try.f68 (by kernel_rfl) Zf Try.underlying31 (by kernel_rfl) (by rfl) (by rfl) rfl ⟨rfl, bf⟩

 | true =>
  have Zf := Z4.set cn0.v
  have bf := below_setRow b4 gZ cn0.v
  go_wp2_with (first | (refine wpList_load_blk_w (by rfl) _ _ rfl w.heap.size (by rfl) _ C4 Try.underlying31 (by kernel_rfl) ?_) | (refine wpList_load_blk_w (by rfl) _ _ rfl W1.heap.size (by rfl) _ G4 Try.underlying110 (by kernel_rfl) ?_) | (refine wpList_store_row rfl _ _ _ rfl W2.heap.size cn0.v (by rfl) (by rfl) _ _ Z4 (by kernel_rfl) (by rfl) (by kernel_rfl) ?_))
  exact ret_cell_tmp (k := 6) (j := 7) Try.f68 (by kernel_rfl) Zf Try.underlying31 (by kernel_rfl) (by rfl) (by rfl) rfl ⟨rfl, bf⟩
set_option maxRecDepth 100000 in
set_option maxHeartbeats 4000000 in
theorem begin_tc (f sq win sz : Int) (w : World) :
  Calls Try.prog 60 #[.int .i64 f, .int .u32 sq, .int .i64 win, .int .i64 sz] w fun e w' => e = .returned (.tuple #[.agg (beg f sq win sz).1.v, .int .i64 (beg f sq win sz).2]) ∧ Below w.heap.size w w' := by
 obtain ⟨R, hR⟩ : ∃ R, beg f sq win sz = R := ⟨_, rfl⟩
 have HR : Hid ((if inB15 win && inB15 sz then (if bits .and .i64 f 23 == 2 && sz == 0 then (⟨1, (sq + 1) % 4294967296, 0, (sq + 1) % 4294967296, win % 4294967296, true, false, false, false⟩, 0) else (cn0, 23)) else (cn0, 1)) = R) := hR
 rw [hR]
 clear hR
 have KW : Hid (∀ W, Calls Try.prog 79 #[.int .i64 win] W fun e w' => e = .returned (.bool (inB15 win)) ∧ Below W.heap.size W w') := fun W => size_tc win W
 have KZ : Hid (∀ W, Calls Try.prog 79 #[.int .i64 sz] W fun e w' => e = .returned (.bool (inB15 sz)) ∧ Below W.heap.size W w') := fun W => size_tc sz W
 generalize inB15 win = P at *
 generalize inB15 sz = Q at *
 have e2 : (bits .and .i64 f 23 != 2) = !(bits .and .i64 f 23 == 2) := rfl
 have e3 : (sz != 0) = !(sz == 0) := rfl
 generalize (bits .and .i64 f 23 == 2) = F at *
 generalize (sz == 0) = N at *
 obtain ⟨W1, hW1⟩ : ∃ W, w.alloc (.cells #[.int .i64 0, .int .u32 0, .int .u32 0, .int .u32 0, .int .u32 0, .bool false, .bool false, .bool false, .bool false] 31) = W := ⟨_, rfl⟩
 have b1 := bel_nw hW1
 have Z1 := blk_nw hW1
 have gZ : w.heap.size ≤ w.heap.size := Nat.le_refl _
 go_enter Try.func60, Try.ntmps60
 go_wp2_with fail
 refine Calls.mono (KW.out _) ?_
 rintro e W2 ⟨rfl, bb⟩
 have Z2 := Z1.kept bb
 have b2 := bel_tr b1 bb
 clear bb
 clear Z1 b1
 cases P with
 | false =>
  have Zf := Z2.set cn0.v
  have bf := below_setRow b2 gZ cn0.v
  go_wp2_with (refine wpList_store_row rfl _ _ _ rfl w.heap.size cn0.v (by rfl) (by rfl) _ _ Z2 (by kernel_rfl) (by rfl) (by kernel_rfl) ?_)
  obtain rfl : (cn0, (1 : Int)) = R := by rw [← HR.out]; first | rfl | simp
  exact ret_cell_tmp (k := 8) (j := 9) Try.f60 (by kernel_rfl) Zf Try.underlying31 (by kernel_rfl) (by rfl) (by rfl) rfl ⟨rfl, bf⟩

 | true =>
  go_wp2_with fail
  refine Calls.mono (KZ.out _) ?_
  rintro e W3 ⟨rfl, bb⟩
  have Z3 := Z2.kept bb
  have b3 := bel_tr b2 bb
  clear bb
  clear Z2 b2
  cases Q with
  | false =>
   have Zf := Z3.set cn0.v
   have bf := below_setRow b3 gZ cn0.v
   go_wp2_with (refine wpList_store_row rfl _ _ _ rfl w.heap.size cn0.v (by rfl) (by rfl) _ _ Z3 (by kernel_rfl) (by rfl) (by kernel_rfl) ?_)
   obtain rfl : (cn0, (1 : Int)) = R := by rw [← HR.out]; first | rfl | simp
   exact ret_cell_tmp (k := 8) (j := 9) Try.f60 (by kernel_rfl) Zf Try.underlying31 (by kernel_rfl) (by rfl) (by rfl) rfl ⟨rfl, bf⟩

  | true =>
   cases F with
   | false =>
    try dsimp only [Bool.not_true, Bool.not_false] at e2 e3
    have Zf := Z3.set cn0.v
    have bf := below_setRow b3 gZ cn0.v
    go_wp2_with (refine wpList_store_row rfl _ _ _ rfl w.heap.size cn0.v (by rfl) (by rfl) _ _ Z3 (by kernel_rfl) (by rfl) (by kernel_rfl) ?_)
    obtain rfl : (cn0, (23 : Int)) = R := by rw [← HR.out]; first | rfl | simp
    exact ret_cell_tmp (k := 8) (j := 9) Try.f60 (by kernel_rfl) Zf Try.underlying31 (by kernel_rfl) (by rfl) (by rfl) rfl ⟨rfl, bf⟩

   | true =>
    cases N with
    | false =>
     try dsimp only [Bool.not_true, Bool.not_false] at e2 e3
     have Zf := Z3.set cn0.v
     have bf := below_setRow b3 gZ cn0.v
     go_wp2_with (refine wpList_store_row rfl _ _ _ rfl w.heap.size cn0.v (by rfl) (by rfl) _ _ Z3 (by kernel_rfl) (by rfl) (by kernel_rfl) ?_)
     obtain rfl : (cn0, (23 : Int)) = R := by rw [← HR.out]; first | rfl | simp
     exact ret_cell_tmp (k := 8) (j := 9) Try.f60 (by kernel_rfl) Zf Try.underlying31 (by kernel_rfl) (by rfl) (by rfl) rfl ⟨rfl, bf⟩

    | true =>
     try dsimp only [Bool.not_true, Bool.not_false] at e2 e3
     have Zf := Z3.set (Cn.v ⟨1, (sq + 1) % 4294967296, 0, (sq + 1) % 4294967296, win % 4294967296, true, false, false, false⟩)
     have bf := below_setRow b3 gZ (Cn.v ⟨1, (sq + 1) % 4294967296, 0, (sq + 1) % 4294967296, win % 4294967296, true, false, false, false⟩)
     go_wp2_with (refine wpList_store_row rfl _ _ _ rfl w.heap.size (Cn.v ⟨1, (sq + 1) % 4294967296, 0, (sq + 1) % 4294967296, win % 4294967296, true, false, false, false⟩) (by rfl) (by rfl) _ _ Z3 (by kernel_rfl) (by rfl) (by kernel_rfl) ?_)
     obtain rfl : ((⟨1, (sq + 1) % 4294967296, 0, (sq + 1) % 4294967296, win % 4294967296, true, false, false, false⟩ : Cn), (0 : Int)) = R := by rw [← HR.out]; first | rfl | simp
     exact ret_cell_tmp (k := 8) (j := 9) Try.f60 (by kernel_rfl) Zf Try.underlying31 (by kernel_rfl) (by rfl) (by rfl) rfl ⟨rfl, bf⟩
theorem step_tc (c : Cn) (i : Int) (g : Gt) (w : World) : Calls Try.prog 68 #[.agg c.v, .int .i64 i, .agg g.v] w fun e w' => e = .returned (.tuple #[.agg (c.step i g).1.v, .int .i64 (c.step i g).2]) ∧ Below w.heap.size w w' := by
 by_cases h0 : i = 0
 ·subst h0; exact step0_tc c g w
 by_cases h1 : i = 1
 ·subst h1; exact step1_tc c g w
 exact stepB_tc c i g w h0 h1
theorem eqU_tc (d : Nat) (a b a' b' : Int) (w : World) : (Op.equalIn (d + 2) 28 (.agg #[.int .u32 a, .int .u32 b]) (.agg #[.int .u32 a', .int .u32 b'])).run Try.prog w = .ok (a == a' && b == b') w := by
 obtain ⟨i, hi⟩ := Option.isSome_iff_exists.1 (show (Try.prog.info? 27).isSome = true by kernel_rfl)
 have hc : Try.prog.cellsOf 27 = 1 := by kernel_rfl
 rw [show d + 2 = (d + 1) + 1 from rfl, run_equalIn_array w (d + 1) _ _ Try.underlying28 hi, hc]
 show (Op.eqItems (d + 1) 27 1 _ _ [0, 1]).run Try.prog w = _
 cases h : (a == a') <;> cases h2 : (b == b') <;> simp [Op.eqItems, go_sem, h, h2] <;> simpa using h2
theorem eqL_tc (d : Nat) (a b a' b' : Bool) (w : World) : (Op.equalIn (d + 2) 29 (.agg #[.bool a, .bool b]) (.agg #[.bool a', .bool b'])).run Try.prog w = .ok (a == a' && b == b') w := by
 obtain ⟨i, hi⟩ := Option.isSome_iff_exists.1 (show (Try.prog.info? 4).isSome = true by kernel_rfl)
 have hc : Try.prog.cellsOf 4 = 1 := by kernel_rfl
 rw [show d + 2 = (d + 1) + 1 from rfl, run_equalIn_array w (d + 1) _ _ Try.underlying29 hi, hc]
 show (Op.eqItems (d + 1) 4 1 _ _ [0, 1]).run Try.prog w = _
 cases a <;> cases a' <;> cases b <;> cases b' <;> simp [Op.eqItems, go_sem]
theorem retB_tu {a b : Bool} (h : a = b) : Ending.returned (.bool a) = Ending.returned (.bool b) := by rw [h]
theorem Blk.wy {W : World} {g : Nat} {t : TypeId} {r : Wy} (h : Blk W g t r.v) : W.cell? ⟨g, 0, none⟩ = some (.int .i64 r.fam) ∧ W.cell? ⟨g, 1, none⟩ = some (.int .i64 r.pr) ∧ W.cell? ⟨g, 2, none⟩ = some (.int .i64 r.s.fam) ∧ W.cell? ⟨g, 3, none⟩ = some (.int .u64 r.s.hi) ∧ W.cell? ⟨g, 4, none⟩ = some (.int .u64 r.s.lo) ∧ W.cell? ⟨g, 5, none⟩ = some (.int .i64 r.d.fam) ∧ W.cell? ⟨g, 6, none⟩ = some (.int .u64 r.d.hi) ∧ W.cell? ⟨g, 7, none⟩ = some (.int .u64 r.d.lo) ∧ W.cell? ⟨g, 8, none⟩ = some (.int .i64 r.sp) ∧ W.cell? ⟨g, 9, none⟩ = some (.int .i64 r.dp) :=
 ⟨h.cell 0 _ rfl, h.cell 1 _ rfl, h.cell 2 _ rfl, h.cell 3 _ rfl, h.cell 4 _ rfl, h.cell 5 _ rfl, h.cell 6 _ rfl, h.cell 7 _ rfl, h.cell 8 _ rfl, h.cell 9 _ rfl⟩
set_option maxRecDepth 100000 in
set_option maxHeartbeats 1000000 in
theorem rightSide_t (f p af ah al : Int) (w : World) :
  Calls Try.prog 58 #[.int .i64 f, .agg #[.int .i64 af, .int .u64 ah, .int .u64 al], .int .i64 p] w fun e w' => e = .returned (.bool (sideB f ⟨af, ah, al⟩ p)) ∧ Below w.heap.size w w' := by
 have K3 : ∀ W, Calls Try.prog 78 #[.agg #[.int .i64 af, .int .u64 ah, .int .u64 al]] W fun e w' => e = .returned (.bool (Ad.right ⟨af, ah, al⟩)) ∧ Below W.heap.size W w' := fun W => (right_any af ah al W).mono fun e w' h => ⟨h.1, by rw [h.2]; exact (Below.refl _ _).alloc (Nat.le_refl _) _⟩
 have E : Hid (sideB f ⟨af, ah, al⟩ p = ((af == f) && (Ad.right ⟨af, ah, al⟩ && (decide (0 ≤ p) && decide (p ≤ 65535))))) := rfl
 generalize Ad.right ⟨af, ah, al⟩ = R at *
 generalize sideB f ⟨af, ah, al⟩ p = T at *
 obtain ⟨W1, hW1⟩ : ∃ W1, w.alloc (.cells #[.int .i64 af, .int .u64 ah, .int .u64 al] 24) = W1 := ⟨_, rfl⟩
 have b1 := bel_nw hW1
 have A1 := blk_nw hW1
 have c0 := A1.cell 0 (.int .i64 af) rfl
 have c1 := A1.cell 1 (.int .u64 ah) rfl
 have c2 := A1.cell 2 (.int .u64 al) rfl
 go_enter Try.func58, Try.ntmps58
 by_cases hf : af = f
 ·subst hf
  go_wp2_with fail
  refine (K3 _).mono ?_
  rintro e w2 ⟨rfl, bb⟩
  have b2 := bel_tr b1 bb
  cases R with
  | false =>
   go_wp2
   go_ret
   exact ⟨retB_tu (by rw [E.out]; simp), b2⟩
  | true =>
   by_cases h0 : 0 ≤ p
   ·by_cases h1 : p ≤ 65535
    ·go_wp2
     go_ret
     exact ⟨retB_tu (by rw [E.out]; simp [h0, h1]), b2⟩
    ·go_wp2
     go_ret
     exact ⟨retB_tu (by rw [E.out]; simp [h0, h1]), b2⟩
   ·go_wp2
    go_ret
    exact ⟨retB_tu (by rw [E.out]; simp; omega), b2⟩
 ·have hf' : (af == f) = false := by simpa using hf
  go_wp2
  go_ret
  exact ⟨retB_tu (by rw [E.out]; simp [hf]), b1⟩
set_option maxRecDepth 100000 in
set_option maxHeartbeats 1000000 in
theorem protoName_t (t : Wy) (w : World) :
  Calls Try.prog 59 #[.agg t.v] w fun e w' => e = .returned (.string (ByteArray.mk (nameB t.fam t.pr).toArray)) ∧ Below w.heap.size w w' := by
 obtain ⟨W1, hW1⟩ : ∃ W1, w.alloc (.cells t.v 26) = W1 := ⟨_, rfl⟩
 have b1 := bel_nw hW1
 have A1 := blk_nw hW1
 obtain ⟨k0, k1, k2, k3, k4, k5, k6, k7, k8, k9⟩ := A1.wy
 have E : Hid (nameB t.fam t.pr = nameB t.fam t.pr) := rfl
 obtain ⟨T, hT⟩ : ∃ T, nameB t.fam t.pr = T := ⟨_, rfl⟩
 have HT : Hid (nameB t.fam t.pr = T) := hT
 rw [hT]
 clear hT E
 go_enter Try.func59, Try.ntmps59
 by_cases h1 : t.pr = 6
 ·go_wp2
  go_ret
  exact ⟨by rw [← HT.out]; simp [nameB, h1], b1⟩
 by_cases h2 : t.pr = 17
 ·go_wp2
  go_ret
  exact ⟨by rw [← HT.out]; simp [nameB, h2], b1⟩
 by_cases h3 : t.pr = 1
 ·by_cases h4 : t.fam = 4
  ·go_wp2
   go_ret
   exact ⟨by rw [← HT.out]; simp [nameB, h3, h4], b1⟩
  ·go_wp2
   go_ret
   exact ⟨by rw [← HT.out]; simp [nameB, h3, h4], b1⟩
 by_cases h3' : t.pr = 58
 ·by_cases h4 : t.fam = 6
  ·go_wp2
   go_ret
   exact ⟨by rw [← HT.out]; simp [nameB, h3', h4], b1⟩
  ·go_wp2
   go_ret
   exact ⟨by rw [← HT.out]; simp [nameB, h3', h4], b1⟩
 go_wp2
 go_ret
 exact ⟨by rw [← HT.out]; simp [nameB, h1, h2, h3, h3'], b1⟩
set_option maxRecDepth 100000 in
set_option maxHeartbeats 1000000 in
theorem right_t (t : Wy) (w : World) :
  Calls Try.prog 30 #[.agg t.v] w fun e w' => e = .returned (.bool t.right) ∧ Below w.heap.size w w' := by
 obtain ⟨f, pr, ⟨sf, sh, sl⟩, ⟨df, dh, dl⟩, sp, dp⟩ := t
 have K1 : Hid (∀ W, Calls Try.prog 58 _ W _) := fun W => rightSide_t f sp sf sh sl W
 have K2 : Hid (∀ W, Calls Try.prog 58 _ W _) := fun W => rightSide_t f dp df dh dl W
 have K3 : Hid (∀ W, Calls Try.prog 59 _ W _) := fun W => protoName_t ⟨f, pr, ⟨sf, sh, sl⟩, ⟨df, dh, dl⟩, sp, dp⟩ W
 have E : Hid (Wy.right ⟨f, pr, ⟨sf, sh, sl⟩, ⟨df, dh, dl⟩, sp, dp⟩ = (sideB f ⟨sf, sh, sl⟩ sp && (sideB f ⟨df, dh, dl⟩ dp && (nameB f pr != [])))) := rfl
 generalize Wy.right ⟨f, pr, ⟨sf, sh, sl⟩, ⟨df, dh, dl⟩, sp, dp⟩ = T at *
 have hn : nameB f pr = [] ∨ (ByteArray.mk (nameB f pr).toArray == ByteArray.mk #[]) = false := by
  unfold nameB
  (repeat' split) <;> first | exact .inl rfl | exact .inr (by decide)
 simp only at K3
 generalize sideB f ⟨sf, sh, sl⟩ sp = R1 at *
 generalize sideB f ⟨df, dh, dl⟩ dp = R2 at *
 generalize nameB f pr = NM at *
 obtain ⟨W1, hW1⟩ : ∃ W1, w.alloc (.cells (Wy.v ⟨f, pr, ⟨sf, sh, sl⟩, ⟨df, dh, dl⟩, sp, dp⟩) 26) = W1 := ⟨_, rfl⟩
 have b1 := bel_nw hW1
 have A1 := blk_nw hW1
 obtain ⟨k0, k1, k2, k3, k4, k5, k6, k7, k8, k9⟩ := A1.wy
 go_enter Try.func30, Try.ntmps30
 go_wp2_with fail
 refine (K1.out _).mono ?_
 rintro e w2 ⟨rfl, bb⟩
 have b2 := bel_tr b1 bb
 have A2 := A1.kept bb
 clear k0 k1 k2 k3 k4 k5 k6 k7 k8 k9 bb b1 A1 hW1 K1
 obtain ⟨k0, k1, k2, k3, k4, k5, k6, k7, k8, k9⟩ := A2.wy
 cases R1 with
 | false =>
  go_wp2
  go_ret
  exact ⟨retB_tu (by rw [E.out]; simp), b2⟩
 | true =>
  go_wp2_with fail
  refine (K2.out _).mono ?_
  rintro e w3 ⟨rfl, bb⟩
  have b3 := bel_tr b2 bb
  have A3 := A2.kept bb
  clear k0 k1 k2 k3 k4 k5 k6 k7 k8 k9 bb b2 A2 K2
  obtain ⟨k0, k1, k2, k3, k4, k5, k6, k7, k8, k9⟩ := A3.wy
  cases R2 with
  | false =>
   go_wp2
   go_ret
   exact ⟨retB_tu (by rw [E.out]; simp), b3⟩
  | true =>
   go_wp2_with fail
   refine (K3.out _).mono ?_
   rintro e w4 ⟨rfl, bb⟩
   have b4 := bel_tr b3 bb
   clear bb K3 k0 k1 k2 k3 k4 k5 k6 k7 k8 k9
   rcases hn with rfl | hn
   ·have e0 : (ByteArray.mk ([] : List UInt8).toArray == ByteArray.mk #[]) = true := rfl
    go_wp2
    go_ret
    exact ⟨retB_tu (by rw [E.out]; simp), b4⟩
   ·have e0 : NM ≠ [] := by rintro rfl; exact absurd hn (by decide)
    go_wp2
    go_ret
    have e1 : (NM != []) = true := by cases NM with | nil => exact absurd rfl e0 | cons x y => rfl
    exact ⟨retB_tu (by rw [E.out, e1]; simp; exact e0), b4⟩
set_option maxRecDepth 100000 in
set_option maxHeartbeats 1000000 in
theorem rrev_t (t : Wy) (w : World) :
  Calls Try.prog 27 #[.agg t.v] w fun e w' => e = .returned (.agg t.rev.v) ∧ Below w.heap.size w w' := by
 obtain ⟨f, pr, ⟨sf, sh, sl⟩, ⟨df, dh, dl⟩, sp, dp⟩ := t
 go_enter Try.func27, Try.ntmps27
 go_wp2
 exact ret_cell (k := 2) Try.f27 (by kernel_rfl) (blk_two _ _ _ _) Try.underlying26 (by kernel_rfl) (by rfl) rfl ⟨rfl, bel_two _ _ _⟩
set_option maxRecDepth 100000 in
set_option maxHeartbeats 1000000 in
theorem rev_t (t : Wy) (w : World) :
  Calls Try.prog 55 #[.agg t.v] w fun e w' => e = .returned (.agg t.rev.v) ∧ Below w.heap.size w w' := by
 obtain ⟨f, pr, ⟨sf, sh, sl⟩, ⟨df, dh, dl⟩, sp, dp⟩ := t
 go_enter Try.func55, Try.ntmps55
 go_wp2
 exact ret_cell (k := 2) Try.f55 (by kernel_rfl) (blk_two _ _ _ _) Try.underlying26 (by kernel_rfl) (by rfl) rfl ⟨rfl, bel_two _ _ _⟩
theorem bne_t_fw {a b : Int} (h : (a != b) = true) : (a == b) = false := by simpa using h
theorem bne_f_fw {a b : Int} (h : (a != b) = false) : (a == b) = true := by simpa using h
theorem retB_fw {a b : Bool} (h : a = b) : Ending.returned (.bool a) = Ending.returned (.bool b) := by rw [h]
theorem retN_fw {k : IntKind} {a b : Int} (h : a = b) : Ending.returned (.int k a) = Ending.returned (.int k b) := by rw [h]
set_option maxRecDepth 100000 in
theorem eqz_cn (c : Cn) (w : World) : (Go.binOp .eql 31 (.agg c.v) (.agg #[.int .i64 0, .int .u32 0, .int .u32 0, .int .u32 0, .int .u32 0, .bool false, .bool false, .bool false, .bool false])).run Try.prog w = Result.ok (.bool c.zB) w := by
 obtain ⟨st, n0, n1, e0, e1, k0, k1, d0, d1⟩ := c
 unfold Cn.zB
 simp only
 by_cases h0 : st = 0
 case neg => simp [go_sem, h0]
 subst h0
 by_cases h1 : (n0 == 0 && n1 == 0) = true
 case neg =>
  have h1' : (n0 == 0 && n1 == 0) = false := by simpa using h1
  simp [go_sem, eqU_tc 9997, h1', -Bool.and_eq_false_imp]
 by_cases h2 : (e0 == 0 && e1 == 0) = true
 case neg =>
  have h2' : (e0 == 0 && e1 == 0) = false := by simpa using h2
  simp [go_sem, eqU_tc 9997, h1, h2', -Bool.and_eq_false_imp, -Bool.and_eq_true]
 cases k0 <;> cases k1 <;> cases d0 <;> cases d1 <;> simp [go_sem, eqU_tc 9997, eqL_tc 9997, h1, h2, -Bool.and_eq_true]
set_option maxRecDepth 100000 in
set_option maxHeartbeats 4000000 in
theorem help_fw (h : Int) (w : World) :
  Calls Try.prog 32 #[.int .i64 h] w fun e w' => e = .returned (.bool (hlpB h)) ∧ Below w.heap.size w w' := by
 obtain ⟨R, hR⟩ : ∃ R, hlpB h = R := ⟨_, rfl⟩
 have HR : Hid (hlpB h = R) := hR
 rw [hR]
 clear hR
 have b := Below.refl w.heap.size w
 go_enter Try.func32, Try.ntmps32
 cases hq1 : (decide (0 ≤ h)) with
 | false =>
  go_wp2_with fail
  go_ret
  exact ⟨retB_fw (by rw [← HR.out]; first | rfl | (simp [hlpB, hq1]; done)), b⟩

 | true =>
  go_wp2_with fail
  go_ret
  exact ⟨retB_fw (by rw [← HR.out]; first | rfl | (simp [hlpB, hq1]; done)), b⟩
set_option maxRecDepth 100000 in
set_option maxHeartbeats 4000000 in
theorem now_fw (n : Int) (w : World) :
  Calls Try.prog 31 #[.int .i64 n] w fun e w' => e = .returned (.bool (nowB n)) ∧ Below w.heap.size w w' := by
 obtain ⟨R, hR⟩ : ∃ R, nowB n = R := ⟨_, rfl⟩
 have HR : Hid (nowB n = R) := hR
 rw [hR]
 clear hR
 have b := Below.refl w.heap.size w
 go_enter Try.func31, Try.ntmps31
 cases hq1 : (decide (0 ≤ n)) with
 | false =>
  go_wp2_with fail
  go_ret
  exact ⟨retB_fw (by rw [← HR.out]; first | rfl | (simp [nowB, hq1]; done)), b⟩

 | true =>
  go_wp2_with fail
  go_ret
  exact ⟨retB_fw (by rw [← HR.out]; first | rfl | (simp [nowB, hq1]; done)), b⟩
set_option maxRecDepth 100000 in
set_option maxHeartbeats 4000000 in
theorem conn_fw (f : Fl) (w : World) :
  Calls Try.prog 40 #[.agg f.v] w fun e w' => e = .returned (.bool f.cnB) ∧ Below w.heap.size w w' := by
 obtain ⟨R, hR⟩ : ∃ R, f.cnB = R := ⟨_, rfl⟩
 have HR : Hid (f.cnB = R) := hR
 rw [hR]
 clear hR
 have b := Below.refl w.heap.size w
 go_enter Try.func40, Try.ntmps40
 cases hq3 : (f.w.pr == 6) with
 | false =>
  obtain ⟨Wm4, hWm4⟩ : ∃ W, w.alloc (.cells f.v 33) = W := ⟨_, rfl⟩
  have bm4 := bel_nw hWm4
  have Am4 := blk_nw hWm4
  have gA : w.heap.size ≤ w.heap.size := Nat.le_refl _
  have c5 := Am4.cell 1 (.int .i64 f.w.pr) rfl
  have hE6 := eqz_cn f.c
  go_wp2_with (refine wpList_load_sub_w (by rfl) _ _ rfl w.heap.size 10 _ (by rfl) _ f.c.v Am4 (by rfl) Try.underlying31 (by kernel_rfl) ?_)
  go_ret
  exact ⟨retB_fw (by rw [← HR.out]; first | rfl | (simp [Fl.cnB, hq3]; done)), bm4⟩

 | true =>
  obtain ⟨Wm7, hWm7⟩ : ∃ W, w.alloc (.cells f.v 33) = W := ⟨_, rfl⟩
  have bm7 := bel_nw hWm7
  have Am7 := blk_nw hWm7
  have gA : w.heap.size ≤ w.heap.size := Nat.le_refl _
  have c8 := Am7.cell 1 (.int .i64 f.w.pr) rfl
  go_wp2_with (refine wpList_load_sub_w (by rfl) _ _ rfl w.heap.size 10 _ (by rfl) _ f.c.v Am7 (by rfl) Try.underlying31 (by kernel_rfl) ?_)
  clear c8
  refine Calls.mono (right_tc f.c _) ?_
  rintro e Wm9 ⟨rfl, bb⟩
  have Am9 := Am7.kept bb
  have bm9 := bel_tr bm7 bb
  clear bb
  clear Am7 bm7
  go_wp2_with fail
  go_ret
  exact ⟨retB_fw (by rw [← HR.out]; first | rfl | (simp [Fl.cnB, hq3]; done)), bm9⟩
set_option maxRecDepth 100000 in
set_option maxHeartbeats 4000000 in
theorem right_fw (f : Fl) (w : World) :
  Calls Try.prog 12 #[.agg f.v] w fun e w' => e = .returned (.bool f.right) ∧ Below w.heap.size w w' := by
 obtain ⟨R, hR⟩ : ∃ R, f.right = R := ⟨_, rfl⟩
 have HR : Hid (f.right = R) := hR
 rw [hR]
 clear hR
 have b := Below.refl w.heap.size w
 go_enter Try.func12, Try.ntmps12
 obtain ⟨Wm1, hWm1⟩ : ∃ W, w.alloc (.cells f.v 33) = W := ⟨_, rfl⟩
 have bm1 := bel_nw hWm1
 have Am1 := blk_nw hWm1
 have gA : w.heap.size ≤ w.heap.size := Nat.le_refl _
 go_wp2_with (refine wpList_load_sub_w (by rfl) _ _ rfl w.heap.size 0 _ (by rfl) _ f.w.v Am1 (by rfl) Try.underlying26 (by kernel_rfl) ?_)
 refine Calls.mono (right_t f.w _) ?_
 rintro e Wm2 ⟨rfl, bb⟩
 have Am2 := Am1.kept bb
 have bm2 := bel_tr bm1 bb
 clear bb
 clear Am1 bm1
 cases hq3 : f.w.right with
 | false =>
  go_wp2_with fail
  go_ret
  exact ⟨retB_fw (by rw [← HR.out]; first | rfl | (simp [Fl.right, endB, hq3]; done)), bm2⟩

 | true =>
  cases hq5 : (decide (0 ≤ f.ends)) with
  | false =>
   have c6 := Am2.cell 19 (.int .i64 f.ends) rfl
   go_wp2_with fail
   go_ret
   exact ⟨retB_fw (by rw [← HR.out]; first | rfl | (simp [Fl.right, endB, hq3, hq5]; done)), bm2⟩

  | true =>
   cases hq8 : (decide (f.ends ≤ 4611686018427387904)) with
   | false =>
    have c9 := Am2.cell 19 (.int .i64 f.ends) rfl
    go_wp2_with fail
    go_ret
    exact ⟨retB_fw (by rw [← HR.out]; first | rfl | (simp [Fl.right, endB, hq3, hq5, hq8]; done)), bm2⟩

   | true =>
    have c10 := Am2.cell 19 (.int .i64 f.ends) rfl
    have c11 := Am2.cell 20 (.int .i64 f.help) rfl
    go_wp2_with fail
    clear c10 c11
    refine Calls.mono (help_fw f.help _) ?_
    rintro e Wm12 ⟨rfl, bb⟩
    have Am12 := Am2.kept bb
    have bm12 := bel_tr bm2 bb
    clear bb
    clear Am2 bm2
    cases hq13 : (hlpB f.help) with
    | false =>
     go_wp2_with fail
     go_ret
     exact ⟨retB_fw (by rw [← HR.out]; first | rfl | (simp [Fl.right, endB, hq3, hq5, hq8, hq13]; done)), bm12⟩

    | true =>
     go_wp2_with (refine wpList_load_blk_w (by rfl) _ _ rfl w.heap.size (by rfl) _ Am12 Try.underlying33 (by kernel_rfl) ?_)
     refine Calls.mono (conn_fw f _) ?_
     rintro e Wm14 ⟨rfl, bb⟩
     have Am14 := Am12.kept bb
     have bm14 := bel_tr bm12 bb
     clear bb
     clear Am12 bm12
     go_wp2_with fail
     go_ret
     exact ⟨retB_fw (by rw [← HR.out]; first | rfl | (simp [Fl.right, endB, hq3, hq5, hq8, hq13]; done)), bm14⟩
/-- Cells put one behind the other. -/
def setMany (cur : Array Value) (j : Nat) : List Value → Array Value
 | [] => cur
 | v :: vs => setMany (cur.setIfInBounds j v) (j + 1) vs
theorem setRow_self {W : World} {g : Nat} {t : TypeId} {cs : Array Value} (h : Blk W g t cs) : W.setRow g cs = W := by
 have hlt : g < W.heap.size := h.lt
 have hv : W.heap[g] = .cells cs t (0, 0) := (Array.getElem?_eq_some_iff.1 h).2
 unfold World.setRow
 cases W with
 | mk heap tape drawn os output =>
  congr 1
  apply Array.ext
  ·simp
  ·intro k h1 h2
   simp only [Array.getElem_modify]
   split
   ·rename_i hk; subst hk; simp at hv; simp [hv]
   ·rfl
theorem run_storeCells_off (g k : Nat) (t : TypeId) : ∀ (vs : List Value) (i : Nat) (cur : Array Value) (w : World), Blk w g t cur → k + i + vs.length ≤ cur.size → (∀ v ∈ vs, v.oneCell' = true) →
  (storeCells ⟨g, k, none⟩ vs i).run Try.prog w = .ok () (w.setRow g (setMany cur (k + i) vs))
 | [], i, cur, w, hg, hl, _ => by
  simp only [storeCells, setMany]
  rw [setRow_self hg]
  rfl
 | v :: rest, i, cur, w, hg, hl, h1 => by
  have hi : k + i < cur.size := by simp at hl; omega
  have hadd : (⟨g, k, none⟩ : Addr).add i = ⟨g, k + i, none⟩ := Go.WideShapes.add_plain ..
  have hcell : w.cell? ⟨g, k + i, none⟩ = some cur[k + i] := hg.cell (k + i) _ (by simp [hi])
  have hfro : w.frozen? ⟨g, k + i, none⟩ = false := hg.frozen _
  have hst : (store ((⟨g, k, none⟩ : Addr).add i) v).run Try.prog w = .ok () (w.setRow g (cur.setIfInBounds (k + i) v)) := by
   rw [hadd, run_store Try.prog w _ v _ (h1 v (by simp)), hcell]
   simp [hfro, setCell_eq_setRow w g (k + i) cur t (0, 0) v hg]
  have ih := run_storeCells_off g k t rest (i + 1) (cur.setIfInBounds (k + i) v) (w.setRow g (cur.setIfInBounds (k + i) v)) (hg.set _) (by simp at hl ⊢; omega) (fun x hx => h1 x (by simp [hx]))
  simp only [storeCells, Sem.run_bind, hst, Result.andThen_ok, ih, setRow_setRow, setMany]
  rfl
theorem run_storeVar_off {W : World} {g k : Nat} {t ty : TypeId} {cur cells : Array Value} (h : Blk W g t cur) (hi : (Try.prog.info? ty).map (·.size) = some cells.size) (hl : k + cells.size ≤ cur.size) (h1 : cells.all (·.oneCell') = true) :
  (storeVar ty ⟨g, k, none⟩ (.agg cells)).run Try.prog W = .ok () (W.setRow g (setMany cur k cells.toList)) := by
 have := run_storeCells_off g k t cells.toList 0 cur W h (by simp; omega) (fun v hv => (Array.all_eq_true_iff_forall_mem.1 h1) v (by simpa using hv))
 cases hq : Try.prog.info? ty with
 | none => simp [hq] at hi
 | some i =>
  have hs : cells.size = i.size := by simp [hq] at hi; omega
  simp [storeVar, sizeOf, typeInfo, hq, Value.cells, hs, this]
theorem wpList_store_off {ops : Array Oper} {rest : List Oper} {o : Oper} {ac : Act} {Q : Exit → Act → World → Prop} {w : World} (hgd : o.guard = none) (ty : TypeId) (p x : Operand) (ho : o.op = Op.store ty p x) (g k : Nat) (t : TypeId) (cs cur new : Array Value)
  (hp : ac.eval p = .pointer (some ⟨g, k, none⟩)) (hx : ac.eval x = .agg cs) (hb : Blk w g t cur) (hi : (Try.prog.info? ty).map (·.size) = some cs.size) (hl : k + cs.size ≤ cur.size) (h1 : cs.all (·.oneCell') = true) (hn : setMany cur k cs.toList = new) (h : wpList Try.prog ops Q rest (ac.put o.dst undef) (w.setRow g new)) : wpList Try.prog ops Q (o :: rest) ac w := by
 refine wpList_plain hgd fun K hK => ?_
 subst hn
 unfold Oper.wp execOp
 simp only [ho, hp, hx, Instr.storeAt, Instr.sureAddr, Sem.run_bind, Sem.run_pure, Result.andThen_ok, run_storeVar_off hb hi hl h1]
 exact hK _ _ h
set_option maxRecDepth 100000 in
set_option maxHeartbeats 4000000 in
theorem neq_way (a b : Wy) (w : World) : (Go.binOp .neq 26 (.agg a.v) (.agg b.v)).run Try.prog w = Result.ok (.bool (!(a.eqB b))) w := by
 obtain ⟨f, pr, ⟨sf, sh, sl⟩, ⟨df, dh, dl⟩, sp, dp⟩ := a
 obtain ⟨f', pr', ⟨sf', sh', sl'⟩, ⟨df', dh', dl'⟩, sp', dp'⟩ := b
 unfold Wy.eqB
 simp only
 by_cases h1 : f = f'
 case neg => simp [go_sem, h1]
 subst h1
 by_cases h2 : pr = pr'
 case neg => simp [go_sem, h2]
 subst h2
 by_cases h3 : sf = sf'
 case neg => simp [go_sem, h3]
 subst h3
 by_cases h4 : sh = sh'
 case neg => simp [go_sem, h4]
 subst h4
 by_cases h5 : sl = sl'
 case neg => simp [go_sem, h5]
 subst h5
 by_cases h6 : df = df'
 case neg => simp [go_sem, h6]
 subst h6
 by_cases h7 : dh = dh'
 case neg => simp [go_sem, h7]
 subst h7
 by_cases h8 : dl = dl'
 case neg => simp [go_sem, h8]
 subst h8
 by_cases h9 : sp = sp'
 case neg => simp [go_sem, h9]
 subst h9
 by_cases h : dp = dp' <;> simp [go_sem, h]
theorem startC {s : Sm} (help : Int) (h : (s.beg.2 != 0) = false) : (⟨s.w, s.beg.1, 0, help, false⟩ : Fl).cnB = true := by
 unfold Fl.cnB
 have h3 : s.beg.2 = 0 := by simpa using h
 unfold Sm.beg at h3 ⊢
 cases h6 : (s.w.pr == 6)
 ·simp only [h6, if_false, Bool.false_eq_true] at h3 ⊢
  split <;> first | rfl | skip
  all_goals decide
 ·simp only [h6, if_true] at h3 ⊢
  exact beg_right h3
theorem stepC {f : Fl} {s : Sm} {side both : Bool} {e h : Int} (hr : f.right = true) (hw : s.w.eqB (f.way side) = true) (h3 : ((s.stp f.c side).2 != 0) = false) : (⟨f.w, (s.stp f.c side).1, e, h, both⟩ : Fl).cnB = true := by
 have hp : s.w.pr = f.w.pr := by
  have := (Wy.eqB_iff _ _).1 hw
  rw [this]
  unfold Fl.way
  split <;> rfl
 unfold Fl.right at hr
 simp only [Bool.and_eq_true] at hr
 have hc := hr.2.2.2
 unfold Fl.cnB at hc ⊢
 have h4 : (s.stp f.c side).2 = 0 := by simpa using h3
 unfold Sm.stp at h4 ⊢
 rw [hp] at h4 ⊢
 cases h6 : (f.w.pr == 6)
 ·simp only [h6, if_false, Bool.false_eq_true] at h4 hc ⊢
  split
  ·exact hc
  ·rename_i h7; rw [if_neg h7] at h4; simp at h4
 ·simp only [h6, if_true] at h4 hc ⊢
  exact (step_right (i := if side then 1 else 0) (g := s.g) hc (d := (f.c.step (if side then 1 else 0) s.g).1) (Prod.ext rfl h4)).1
set_option maxRecDepth 100000 in
set_option maxHeartbeats 4000000 in
theorem life_fw (f : Fl) (w : World) :
  Calls Try.prog 62 #[.agg f.v] w fun e w' => e = .returned (.int .i64 f.life) ∧ Below w.heap.size w w' := by
 obtain ⟨R, hR⟩ : ∃ R, f.life = R := ⟨_, rfl⟩
 have HR : Hid (f.life = R) := hR
 rw [hR]
 clear hR
 have b := Below.refl w.heap.size w
 go_enter Try.func62, Try.ntmps62
 cases hq3 : (f.w.pr == 6) with
 | false =>
  cases hq6 : (f.w.pr == 17) with
  | false =>
   obtain ⟨Wm7, hWm7⟩ : ∃ W, w.alloc (.cells f.v 33) = W := ⟨_, rfl⟩
   have bm7 := bel_nw hWm7
   have Am7 := blk_nw hWm7
   have gA : w.heap.size ≤ w.heap.size := Nat.le_refl _
   have c8 := Am7.cell 1 (.int .i64 f.w.pr) rfl
   go_wp2_with fail
   go_ret
   exact ⟨retN_fw (by rw [← HR.out]; first | rfl | (simp [Fl.life, hq3, hq6]; done)), bm7⟩

  | true =>
   cases hq12 : f.both with
   | false =>
    obtain ⟨Wm13, hWm13⟩ : ∃ W, w.alloc (.cells f.v 33) = W := ⟨_, rfl⟩
    have bm13 := bel_nw hWm13
    have Am13 := blk_nw hWm13
    have gA : w.heap.size ≤ w.heap.size := Nat.le_refl _
    have c14 := Am13.cell 1 (.int .i64 f.w.pr) rfl
    have c15 := Am13.cell 21 (.bool f.both) rfl
    go_wp2_with fail
    go_ret
    exact ⟨retN_fw (by rw [← HR.out]; first | rfl | (simp [Fl.life, hq3, hq6, hq12]; done)), bm13⟩

   | true =>
    obtain ⟨Wm16, hWm16⟩ : ∃ W, w.alloc (.cells f.v 33) = W := ⟨_, rfl⟩
    have bm16 := bel_nw hWm16
    have Am16 := blk_nw hWm16
    have gA : w.heap.size ≤ w.heap.size := Nat.le_refl _
    have c17 := Am16.cell 1 (.int .i64 f.w.pr) rfl
    have c18 := Am16.cell 21 (.bool f.both) rfl
    go_wp2_with fail
    go_ret
    exact ⟨retN_fw (by rw [← HR.out]; first | rfl | (simp [Fl.life, hq3, hq6, hq12]; done)), bm16⟩



 | true =>
  obtain ⟨Wm19, hWm19⟩ : ∃ W, w.alloc (.cells f.v 33) = W := ⟨_, rfl⟩
  have bm19 := bel_nw hWm19
  have Am19 := blk_nw hWm19
  have gA : w.heap.size ≤ w.heap.size := Nat.le_refl _
  have c20 := Am19.cell 1 (.int .i64 f.w.pr) rfl
  go_wp2_with (refine wpList_load_sub_w (by rfl) _ _ rfl w.heap.size 10 _ (by rfl) _ f.c.v Am19 (by rfl) Try.underlying31 (by kernel_rfl) ?_)
  clear c20
  refine Calls.mono (life_tc f.c _) ?_
  rintro e Wm21 ⟨rfl, bb⟩
  have Am21 := Am19.kept bb
  have bm21 := bel_tr bm19 bb
  clear bb
  clear Am19 bm19
  go_wp2_with fail
  go_ret
  exact ⟨retN_fw (by rw [← HR.out]; first | rfl | (simp [Fl.life, hq3]; done)), bm21⟩
set_option maxRecDepth 100000 in
set_option maxHeartbeats 4000000 in
theorem keep_fw (f : Fl) (now : Int) (w : World) (hn : nowB now = true) (hc : f.cnB = true) :
  Calls Try.prog 34 #[.agg f.v, .int .i64 now] w fun e w' => e = .returned (.agg (f.keep now).v) ∧ Below w.heap.size w w' := by
 have hl := life_bd f hc
 simp only [nowB, Bool.and_eq_true, decide_eq_true_eq] at hn
 obtain ⟨R, hR⟩ : ∃ R, f.keep now = R := ⟨_, rfl⟩
 have HR : Hid (f.keep now = R) := hR
 rw [hR]
 clear hR
 have b := Below.refl w.heap.size w
 go_enter Try.func34, Try.ntmps34
 obtain ⟨Wm1, hWm1⟩ : ∃ W, w.alloc (.cells f.v 33) = W := ⟨_, rfl⟩
 have bm1 := bel_nw hWm1
 have Am1 := blk_nw hWm1
 have gA : w.heap.size ≤ w.heap.size := Nat.le_refl _
 obtain ⟨Wm2, hWm2⟩ : ∃ W, Wm1.alloc (.cells #[.int .i64 0, .int .i64 0, .int .i64 0, .int .u64 0, .int .u64 0, .int .i64 0, .int .u64 0, .int .u64 0, .int .i64 0, .int .i64 0, .int .i64 0, .int .u32 0, .int .u32 0, .int .u32 0, .int .u32 0, .bool false, .bool false, .bool false, .bool false, .int .i64 0, .int .i64 0, .bool false] 33) = W := ⟨_, rfl⟩
 have bm2 := bel_al bm1 hWm2
 have Am2 := Am1.al hWm2
 have Bm2 := blk_nw hWm2
 have gB : w.heap.size ≤ Wm1.heap.size := bm1.size
 have nAB : w.heap.size ≠ Wm1.heap.size := by have := Am1.lt; omega
 have nBA : Wm1.heap.size ≠ w.heap.size := fun e => nAB e.symm
 go_wp2_with (refine wpList_load_blk_w (by rfl) _ _ rfl w.heap.size (by rfl) _ Am2 Try.underlying33 (by kernel_rfl) ?_)
 refine Calls.mono (life_fw f _) ?_
 rintro e Wm3 ⟨rfl, bb⟩
 have Am3 := Am2.kept bb
 have Bm3 := Bm2.kept bb
 have bm3 := bel_tr bm2 bb
 clear bb
 clear Am2 Bm2 bm2
 have y5 := Am3.cell 19 (.int .i64 f.ends) rfl
 have z6 := Am3.frozen 19
 obtain ⟨Wm4, hWm4⟩ : ∃ W, Wm3.setCell ⟨w.heap.size, 19, none⟩ (.int .i64 (now + (Fl.life f))) = W := ⟨_, rfl⟩
 have Am4 : Blk Wm4 w.heap.size 33 (Fl.v ⟨f.w, f.c, now + (Fl.life f), f.help, f.both⟩) := hWm4 ▸ Am3.put 19 (.int .i64 (now + (Fl.life f)))
 have Bm4 := hWm4 ▸ Bm3.put_other Am3 nBA 19 (.int .i64 (now + (Fl.life f)))
 have bm4 := hWm4 ▸ bm3.setCell (p := ⟨w.heap.size, 19, none⟩) gA (.int .i64 (now + (Fl.life f)))
 obtain ⟨Wm7, hWm7⟩ : ∃ W, Wm4.setRow Wm1.heap.size (Fl.v ⟨f.w, f.c, now + (Fl.life f), f.help, f.both⟩) = W := ⟨_, rfl⟩
 have Bm7 : Blk Wm7 Wm1.heap.size 33 (Fl.v ⟨f.w, f.c, now + (Fl.life f), f.help, f.both⟩) := hWm7 ▸ Bm4.set (Fl.v ⟨f.w, f.c, now + (Fl.life f), f.help, f.both⟩)
 have Am7 := hWm7 ▸ Am4.other nAB (Fl.v ⟨f.w, f.c, now + (Fl.life f), f.help, f.both⟩)
 have bm7 := hWm7 ▸ below_setRow bm4 gB (Fl.v ⟨f.w, f.c, now + (Fl.life f), f.help, f.both⟩)
 go_wp2_with (first | (refine wpList_load_blk_w (by rfl) _ _ rfl w.heap.size (by rfl) _ Am4 Try.underlying33 (by kernel_rfl) ?_) | (refine wpList_store_row rfl _ _ _ rfl Wm1.heap.size (Fl.v ⟨f.w, f.c, now + (Fl.life f), f.help, f.both⟩) (by rfl) (by rfl) _ _ Bm4 (by kernel_rfl) (by rfl) (by kernel_rfl) ?_; rw [hWm7]))
 have hR2 : R = (⟨f.w, f.c, now + (Fl.life f), f.help, f.both⟩ : Fl) := by rw [← HR.out]; first | rfl | (simp [Fl.keep]; done)
 subst hR2
 exact ret_cell (k := 4) Try.f34 (by kernel_rfl) Bm7 Try.underlying33 (by kernel_rfl) (by rfl) rfl ⟨rfl, bm7⟩
set_option maxRecDepth 100000 in
set_option maxHeartbeats 4000000 in
theorem echo0_fw (s : Sm) (w : World) :
  Calls Try.prog 61 #[.agg s.v, .int .i64 0] w fun e w' => e = .returned (.bool (s.ec false)) ∧ Below w.heap.size w w' := by
 obtain ⟨R, hR⟩ : ∃ R, s.ec false = R := ⟨_, rfl⟩
 have HR : Hid (s.ec false = R) := hR
 rw [hR]
 clear hR
 have b := Below.refl w.heap.size w
 go_enter Try.func61, Try.ntmps61
 cases hq5 : (s.w.pr == 58) with
 | false =>
  obtain ⟨Wm6, hWm6⟩ : ∃ W, w.alloc (.cells s.v 36) = W := ⟨_, rfl⟩
  have bm6 := bel_nw hWm6
  have Am6 := blk_nw hWm6
  have gA : w.heap.size ≤ w.heap.size := Nat.le_refl _
  obtain ⟨Wm7, hWm7⟩ : ∃ W, Wm6.alloc (.cells #[.int .i64 0, .int .i64 0] 45) = W := ⟨_, rfl⟩
  have bm7 := bel_al bm6 hWm7
  have Am7 := Am6.al hWm7
  have Bm7 := blk_nw hWm7
  have gB : w.heap.size ≤ Wm6.heap.size := bm6.size
  have nAB : w.heap.size ≠ Wm6.heap.size := by have := Am6.lt; omega
  have nBA : Wm6.heap.size ≠ w.heap.size := fun e => nAB e.symm
  obtain ⟨Wm8, hWm8⟩ : ∃ W, Wm7.setRow Wm6.heap.size #[.int .i64 8, .int .i64 0] = W := ⟨_, rfl⟩
  have Bm8 : Blk Wm8 Wm6.heap.size 45 #[.int .i64 8, .int .i64 0] := hWm8 ▸ Bm7.set #[.int .i64 8, .int .i64 0]
  have Am8 := hWm8 ▸ Am7.other nAB #[.int .i64 8, .int .i64 0]
  have bm8 := hWm8 ▸ below_setRow bm7 gB #[.int .i64 8, .int .i64 0]
  have c9 := Am8.cell 1 (.int .i64 s.w.pr) rfl
  go_wp2_with (refine wpList_store_row rfl _ _ _ rfl Wm6.heap.size #[.int .i64 8, .int .i64 0] (by rfl) (by rfl) _ _ Bm7 (by kernel_rfl) (by rfl) (by kernel_rfl) ?_; rw [hWm8])
  clear c9
  obtain ⟨Wdq10, hWdq10⟩ : ∃ W, Wm8.drew = W := ⟨_, rfl⟩
  have Adq10 := hWdq10 ▸ Am8.drew
  have Bdq10 := hWdq10 ▸ Bm8.drew
  have bdq10 := hWdq10 ▸ bm8.drew
  refine wp_region_noPanic ?_
  refine wp_region_held_drew (S := fun w' => Blk w' w.heap.size 36 s.v ∧ Blk w' Wm6.heap.size 45 #[.int .i64 8, .int .i64 0]) (by kernel_rfl) (by rw [hWdq10]; exact ⟨Adq10, Bdq10⟩) (fun hHeld => ?_)
  rw [hWdq10] at hHeld ⊢
  refine qtk (i := 0) (oi := fxg4o10) (v := (.pointer (some ⟨w.heap.size, 14, none⟩))) hHeld ?_ ?_
  ·intro w9 hSw
   try dsimp only at hSw
   go_simp
  try simp only [qpu]
  refine qtk (i := 1) (oi := fxg4o7) (v := (.int .i64 s.ty)) hHeld ?_ ?_
  ·intro w9 hSw
   try dsimp only at hSw
   have hcc := hSw.1.cell 14 (.int .i64 s.ty) rfl
   go_simp
  try simp only [qpu]
  refine qtk (i := 2) (oi := fxg4o11) (v := (.int .i64 0)) hHeld ?_ ?_
  ·intro w9 hSw
   try dsimp only at hSw
   go_simp
  try simp only [qpu]
  refine qtk (i := 3) (oi := fxg4o6) (v := (.pointer (some ⟨Wm6.heap.size, 0, none⟩))) hHeld ?_ ?_
  ·intro w9 hSw
   try dsimp only at hSw
   go_simp
  try simp only [qpu]
  refine qtk (i := 4) (oi := fxg4o8) (v := (.int .i64 8)) hHeld ?_ ?_
  ·intro w9 hSw
   try dsimp only at hSw
   have hcc := hSw.2.cell 0 (.int .i64 8) rfl
   go_simp
  try simp only [qpu]
  refine qtk (i := 5) (oi := fxg4o5) (v := (.bool (s.ty == 8))) hHeld ?_ ?_
  ·intro w9 hSw
   try dsimp only at hSw
   go_simp
  try simp only [qpu]
  refine qtk (i := 6) (oi := fxg4o9) (v := (.bool (s.ty == 8))) hHeld ?_ ?_
  ·intro w9 hSw
   try dsimp only at hSw
   go_simp
  try simp only [qpu]
  cases hq11 : (s.ty == 8) with
  | false =>
   refine qtn (i := 7) (oi := fxg4o4) hHeld ?_
   try simp only [qpu]
   refine qtn (i := 8) (oi := fxg4o3) hHeld ?_
   try simp only [qpu]
   refine qtn (i := 9) (oi := fxg4o1) hHeld ?_
   try simp only [qpu]
   refine qtk (i := 10) (oi := fxg4o2) (v := (.bool false)) hHeld ?_ ?_
   ·intro w9 hSw
    try dsimp only at hSw
    go_simp
   try simp only [qpu]
   refine qtk (i := 11) (oi := fxg4o0) (v := (.bool false)) hHeld ?_ ?_
   ·intro w9 hSw
    try dsimp only at hSw
    go_simp
   try simp only [qpu]
   refine wpAnyH_done (by kernel_rfl) ?_ _
   refine NoPanic.normal ?_
   go_wp2_with fail
   go_ret
   exact ⟨retB_fw (by rw [← HR.out]; first | rfl | (simp [Sm.ec, ecT, hq5, hq11]; done)), bdq10⟩

  | true =>
   refine qtk (i := 7) (oi := fxg4o4) (v := (.pointer (some ⟨w.heap.size, 15, none⟩))) hHeld ?_ ?_
   ·intro w9 hSw
    try dsimp only at hSw
    go_simp
   try simp only [qpu]
   refine qtk (i := 8) (oi := fxg4o3) (v := (.int .i64 s.co)) hHeld ?_ ?_
   ·intro w9 hSw
    try dsimp only at hSw
    have hcc := hSw.1.cell 15 (.int .i64 s.co) rfl
    go_simp
   try simp only [qpu]
   refine qtk (i := 9) (oi := fxg4o1) (v := (.bool (s.co == 0))) hHeld ?_ ?_
   ·intro w9 hSw
    try dsimp only at hSw
    go_simp
   try simp only [qpu]
   refine qtk (i := 10) (oi := fxg4o2) (v := (.bool (s.co == 0))) hHeld ?_ ?_
   ·intro w9 hSw
    try dsimp only at hSw
    go_simp
   try simp only [qpu]
   refine qtk (i := 11) (oi := fxg4o0) (v := (.bool (s.co == 0))) hHeld ?_ ?_
   ·intro w9 hSw
    try dsimp only at hSw
    go_simp
   try simp only [qpu]
   refine wpAnyH_done (by kernel_rfl) ?_ _
   refine NoPanic.normal ?_
   go_wp2_with fail
   go_ret
   exact ⟨retB_fw (by rw [← HR.out]; first | rfl | (simp [Sm.ec, ecT, hq5, hq11]; done)), bdq10⟩


 | true =>
  obtain ⟨Wm12, hWm12⟩ : ∃ W, w.alloc (.cells s.v 36) = W := ⟨_, rfl⟩
  have bm12 := bel_nw hWm12
  have Am12 := blk_nw hWm12
  have gA : w.heap.size ≤ w.heap.size := Nat.le_refl _
  obtain ⟨Wm13, hWm13⟩ : ∃ W, Wm12.alloc (.cells #[.int .i64 0, .int .i64 0] 45) = W := ⟨_, rfl⟩
  have bm13 := bel_al bm12 hWm13
  have Am13 := Am12.al hWm13
  have Bm13 := blk_nw hWm13
  have gB : w.heap.size ≤ Wm12.heap.size := bm12.size
  have nAB : w.heap.size ≠ Wm12.heap.size := by have := Am12.lt; omega
  have nBA : Wm12.heap.size ≠ w.heap.size := fun e => nAB e.symm
  obtain ⟨Wm14, hWm14⟩ : ∃ W, Wm13.setRow Wm12.heap.size #[.int .i64 8, .int .i64 0] = W := ⟨_, rfl⟩
  have Bm14 : Blk Wm14 Wm12.heap.size 45 #[.int .i64 8, .int .i64 0] := hWm14 ▸ Bm13.set #[.int .i64 8, .int .i64 0]
  have Am14 := hWm14 ▸ Am13.other nAB #[.int .i64 8, .int .i64 0]
  have bm14 := hWm14 ▸ below_setRow bm13 gB #[.int .i64 8, .int .i64 0]
  have c15 := Am14.cell 1 (.int .i64 s.w.pr) rfl
  obtain ⟨Wm16, hWm16⟩ : ∃ W, Wm14.setRow Wm12.heap.size #[.int .i64 128, .int .i64 129] = W := ⟨_, rfl⟩
  have Bm16 : Blk Wm16 Wm12.heap.size 45 #[.int .i64 128, .int .i64 129] := hWm16 ▸ Bm14.set #[.int .i64 128, .int .i64 129]
  have Am16 := hWm16 ▸ Am14.other nAB #[.int .i64 128, .int .i64 129]
  have bm16 := hWm16 ▸ below_setRow bm14 gB #[.int .i64 128, .int .i64 129]
  go_wp2_with (first | (refine wpList_store_row rfl _ _ _ rfl Wm12.heap.size #[.int .i64 8, .int .i64 0] (by rfl) (by rfl) _ _ Bm13 (by kernel_rfl) (by rfl) (by kernel_rfl) ?_; rw [hWm14]) | (refine wpList_store_row rfl _ _ _ rfl Wm12.heap.size #[.int .i64 128, .int .i64 129] (by rfl) (by rfl) _ _ Bm14 (by kernel_rfl) (by rfl) (by kernel_rfl) ?_; rw [hWm16]))
  clear c15
  obtain ⟨Wdq17, hWdq17⟩ : ∃ W, Wm16.drew = W := ⟨_, rfl⟩
  have Adq17 := hWdq17 ▸ Am16.drew
  have Bdq17 := hWdq17 ▸ Bm16.drew
  have bdq17 := hWdq17 ▸ bm16.drew
  refine wp_region_noPanic ?_
  refine wp_region_held_drew (S := fun w' => Blk w' w.heap.size 36 s.v ∧ Blk w' Wm12.heap.size 45 #[.int .i64 128, .int .i64 129]) (by kernel_rfl) (by rw [hWdq17]; exact ⟨Adq17, Bdq17⟩) (fun hHeld => ?_)
  rw [hWdq17] at hHeld ⊢
  refine qtk (i := 0) (oi := fxg4o10) (v := (.pointer (some ⟨w.heap.size, 14, none⟩))) hHeld ?_ ?_
  ·intro w9 hSw
   try dsimp only at hSw
   go_simp
  try simp only [qpu]
  refine qtk (i := 1) (oi := fxg4o7) (v := (.int .i64 s.ty)) hHeld ?_ ?_
  ·intro w9 hSw
   try dsimp only at hSw
   have hcc := hSw.1.cell 14 (.int .i64 s.ty) rfl
   go_simp
  try simp only [qpu]
  refine qtk (i := 2) (oi := fxg4o11) (v := (.int .i64 0)) hHeld ?_ ?_
  ·intro w9 hSw
   try dsimp only at hSw
   go_simp
  try simp only [qpu]
  refine qtk (i := 3) (oi := fxg4o6) (v := (.pointer (some ⟨Wm12.heap.size, 0, none⟩))) hHeld ?_ ?_
  ·intro w9 hSw
   try dsimp only at hSw
   go_simp
  try simp only [qpu]
  refine qtk (i := 4) (oi := fxg4o8) (v := (.int .i64 128)) hHeld ?_ ?_
  ·intro w9 hSw
   try dsimp only at hSw
   have hcc := hSw.2.cell 0 (.int .i64 128) rfl
   go_simp
  try simp only [qpu]
  refine qtk (i := 5) (oi := fxg4o5) (v := (.bool (s.ty == 128))) hHeld ?_ ?_
  ·intro w9 hSw
   try dsimp only at hSw
   go_simp
  try simp only [qpu]
  refine qtk (i := 6) (oi := fxg4o9) (v := (.bool (s.ty == 128))) hHeld ?_ ?_
  ·intro w9 hSw
   try dsimp only at hSw
   go_simp
  try simp only [qpu]
  cases hq18 : (s.ty == 128) with
  | false =>
   refine qtn (i := 7) (oi := fxg4o4) hHeld ?_
   try simp only [qpu]
   refine qtn (i := 8) (oi := fxg4o3) hHeld ?_
   try simp only [qpu]
   refine qtn (i := 9) (oi := fxg4o1) hHeld ?_
   try simp only [qpu]
   refine qtk (i := 10) (oi := fxg4o2) (v := (.bool false)) hHeld ?_ ?_
   ·intro w9 hSw
    try dsimp only at hSw
    go_simp
   try simp only [qpu]
   refine qtk (i := 11) (oi := fxg4o0) (v := (.bool false)) hHeld ?_ ?_
   ·intro w9 hSw
    try dsimp only at hSw
    go_simp
   try simp only [qpu]
   refine wpAnyH_done (by kernel_rfl) ?_ _
   refine NoPanic.normal ?_
   go_wp2_with fail
   go_ret
   exact ⟨retB_fw (by rw [← HR.out]; first | rfl | (simp [Sm.ec, ecT, hq5, hq18]; done)), bdq17⟩

  | true =>
   refine qtk (i := 7) (oi := fxg4o4) (v := (.pointer (some ⟨w.heap.size, 15, none⟩))) hHeld ?_ ?_
   ·intro w9 hSw
    try dsimp only at hSw
    go_simp
   try simp only [qpu]
   refine qtk (i := 8) (oi := fxg4o3) (v := (.int .i64 s.co)) hHeld ?_ ?_
   ·intro w9 hSw
    try dsimp only at hSw
    have hcc := hSw.1.cell 15 (.int .i64 s.co) rfl
    go_simp
   try simp only [qpu]
   refine qtk (i := 9) (oi := fxg4o1) (v := (.bool (s.co == 0))) hHeld ?_ ?_
   ·intro w9 hSw
    try dsimp only at hSw
    go_simp
   try simp only [qpu]
   refine qtk (i := 10) (oi := fxg4o2) (v := (.bool (s.co == 0))) hHeld ?_ ?_
   ·intro w9 hSw
    try dsimp only at hSw
    go_simp
   try simp only [qpu]
   refine qtk (i := 11) (oi := fxg4o0) (v := (.bool (s.co == 0))) hHeld ?_ ?_
   ·intro w9 hSw
    try dsimp only at hSw
    go_simp
   try simp only [qpu]
   refine wpAnyH_done (by kernel_rfl) ?_ _
   refine NoPanic.normal ?_
   go_wp2_with fail
   go_ret
   exact ⟨retB_fw (by rw [← HR.out]; first | rfl | (simp [Sm.ec, ecT, hq5, hq18]; done)), bdq17⟩
set_option maxRecDepth 100000 in
set_option maxHeartbeats 4000000 in
theorem echo1_fw (s : Sm) (w : World) :
  Calls Try.prog 61 #[.agg s.v, .int .i64 1] w fun e w' => e = .returned (.bool (s.ec true)) ∧ Below w.heap.size w w' := by
 obtain ⟨R, hR⟩ : ∃ R, s.ec true = R := ⟨_, rfl⟩
 have HR : Hid (s.ec true = R) := hR
 rw [hR]
 clear hR
 have b := Below.refl w.heap.size w
 go_enter Try.func61, Try.ntmps61
 cases hq5 : (s.w.pr == 58) with
 | false =>
  obtain ⟨Wm6, hWm6⟩ : ∃ W, w.alloc (.cells s.v 36) = W := ⟨_, rfl⟩
  have bm6 := bel_nw hWm6
  have Am6 := blk_nw hWm6
  have gA : w.heap.size ≤ w.heap.size := Nat.le_refl _
  obtain ⟨Wm7, hWm7⟩ : ∃ W, Wm6.alloc (.cells #[.int .i64 0, .int .i64 0] 45) = W := ⟨_, rfl⟩
  have bm7 := bel_al bm6 hWm7
  have Am7 := Am6.al hWm7
  have Bm7 := blk_nw hWm7
  have gB : w.heap.size ≤ Wm6.heap.size := bm6.size
  have nAB : w.heap.size ≠ Wm6.heap.size := by have := Am6.lt; omega
  have nBA : Wm6.heap.size ≠ w.heap.size := fun e => nAB e.symm
  obtain ⟨Wm8, hWm8⟩ : ∃ W, Wm7.setRow Wm6.heap.size #[.int .i64 8, .int .i64 0] = W := ⟨_, rfl⟩
  have Bm8 : Blk Wm8 Wm6.heap.size 45 #[.int .i64 8, .int .i64 0] := hWm8 ▸ Bm7.set #[.int .i64 8, .int .i64 0]
  have Am8 := hWm8 ▸ Am7.other nAB #[.int .i64 8, .int .i64 0]
  have bm8 := hWm8 ▸ below_setRow bm7 gB #[.int .i64 8, .int .i64 0]
  have c9 := Am8.cell 1 (.int .i64 s.w.pr) rfl
  go_wp2_with (refine wpList_store_row rfl _ _ _ rfl Wm6.heap.size #[.int .i64 8, .int .i64 0] (by rfl) (by rfl) _ _ Bm7 (by kernel_rfl) (by rfl) (by kernel_rfl) ?_; rw [hWm8])
  clear c9
  obtain ⟨Wdq10, hWdq10⟩ : ∃ W, Wm8.drew = W := ⟨_, rfl⟩
  have Adq10 := hWdq10 ▸ Am8.drew
  have Bdq10 := hWdq10 ▸ Bm8.drew
  have bdq10 := hWdq10 ▸ bm8.drew
  refine wp_region_noPanic ?_
  refine wp_region_held_drew (S := fun w' => Blk w' w.heap.size 36 s.v ∧ Blk w' Wm6.heap.size 45 #[.int .i64 8, .int .i64 0]) (by kernel_rfl) (by rw [hWdq10]; exact ⟨Adq10, Bdq10⟩) (fun hHeld => ?_)
  rw [hWdq10] at hHeld ⊢
  refine qtk (i := 0) (oi := fxg4o10) (v := (.pointer (some ⟨w.heap.size, 14, none⟩))) hHeld ?_ ?_
  ·intro w9 hSw
   try dsimp only at hSw
   go_simp
  try simp only [qpu]
  refine qtk (i := 1) (oi := fxg4o7) (v := (.int .i64 s.ty)) hHeld ?_ ?_
  ·intro w9 hSw
   try dsimp only at hSw
   have hcc := hSw.1.cell 14 (.int .i64 s.ty) rfl
   go_simp
  try simp only [qpu]
  refine qtk (i := 2) (oi := fxg4o11) (v := (.int .i64 1)) hHeld ?_ ?_
  ·intro w9 hSw
   try dsimp only at hSw
   go_simp
  try simp only [qpu]
  refine qtk (i := 3) (oi := fxg4o6) (v := (.pointer (some ⟨Wm6.heap.size, 1, none⟩))) hHeld ?_ ?_
  ·intro w9 hSw
   try dsimp only at hSw
   go_simp
  try simp only [qpu]
  refine qtk (i := 4) (oi := fxg4o8) (v := (.int .i64 0)) hHeld ?_ ?_
  ·intro w9 hSw
   try dsimp only at hSw
   have hcc := hSw.2.cell 1 (.int .i64 0) rfl
   go_simp
  try simp only [qpu]
  refine qtk (i := 5) (oi := fxg4o5) (v := (.bool (s.ty == 0))) hHeld ?_ ?_
  ·intro w9 hSw
   try dsimp only at hSw
   go_simp
  try simp only [qpu]
  refine qtk (i := 6) (oi := fxg4o9) (v := (.bool (s.ty == 0))) hHeld ?_ ?_
  ·intro w9 hSw
   try dsimp only at hSw
   go_simp
  try simp only [qpu]
  cases hq11 : (s.ty == 0) with
  | false =>
   refine qtn (i := 7) (oi := fxg4o4) hHeld ?_
   try simp only [qpu]
   refine qtn (i := 8) (oi := fxg4o3) hHeld ?_
   try simp only [qpu]
   refine qtn (i := 9) (oi := fxg4o1) hHeld ?_
   try simp only [qpu]
   refine qtk (i := 10) (oi := fxg4o2) (v := (.bool false)) hHeld ?_ ?_
   ·intro w9 hSw
    try dsimp only at hSw
    go_simp
   try simp only [qpu]
   refine qtk (i := 11) (oi := fxg4o0) (v := (.bool false)) hHeld ?_ ?_
   ·intro w9 hSw
    try dsimp only at hSw
    go_simp
   try simp only [qpu]
   refine wpAnyH_done (by kernel_rfl) ?_ _
   refine NoPanic.normal ?_
   go_wp2_with fail
   go_ret
   exact ⟨retB_fw (by rw [← HR.out]; first | rfl | (simp [Sm.ec, ecT, hq5, hq11]; done)), bdq10⟩

  | true =>
   refine qtk (i := 7) (oi := fxg4o4) (v := (.pointer (some ⟨w.heap.size, 15, none⟩))) hHeld ?_ ?_
   ·intro w9 hSw
    try dsimp only at hSw
    go_simp
   try simp only [qpu]
   refine qtk (i := 8) (oi := fxg4o3) (v := (.int .i64 s.co)) hHeld ?_ ?_
   ·intro w9 hSw
    try dsimp only at hSw
    have hcc := hSw.1.cell 15 (.int .i64 s.co) rfl
    go_simp
   try simp only [qpu]
   refine qtk (i := 9) (oi := fxg4o1) (v := (.bool (s.co == 0))) hHeld ?_ ?_
   ·intro w9 hSw
    try dsimp only at hSw
    go_simp
   try simp only [qpu]
   refine qtk (i := 10) (oi := fxg4o2) (v := (.bool (s.co == 0))) hHeld ?_ ?_
   ·intro w9 hSw
    try dsimp only at hSw
    go_simp
   try simp only [qpu]
   refine qtk (i := 11) (oi := fxg4o0) (v := (.bool (s.co == 0))) hHeld ?_ ?_
   ·intro w9 hSw
    try dsimp only at hSw
    go_simp
   try simp only [qpu]
   refine wpAnyH_done (by kernel_rfl) ?_ _
   refine NoPanic.normal ?_
   go_wp2_with fail
   go_ret
   exact ⟨retB_fw (by rw [← HR.out]; first | rfl | (simp [Sm.ec, ecT, hq5, hq11]; done)), bdq10⟩


 | true =>
  obtain ⟨Wm12, hWm12⟩ : ∃ W, w.alloc (.cells s.v 36) = W := ⟨_, rfl⟩
  have bm12 := bel_nw hWm12
  have Am12 := blk_nw hWm12
  have gA : w.heap.size ≤ w.heap.size := Nat.le_refl _
  obtain ⟨Wm13, hWm13⟩ : ∃ W, Wm12.alloc (.cells #[.int .i64 0, .int .i64 0] 45) = W := ⟨_, rfl⟩
  have bm13 := bel_al bm12 hWm13
  have Am13 := Am12.al hWm13
  have Bm13 := blk_nw hWm13
  have gB : w.heap.size ≤ Wm12.heap.size := bm12.size
  have nAB : w.heap.size ≠ Wm12.heap.size := by have := Am12.lt; omega
  have nBA : Wm12.heap.size ≠ w.heap.size := fun e => nAB e.symm
  obtain ⟨Wm14, hWm14⟩ : ∃ W, Wm13.setRow Wm12.heap.size #[.int .i64 8, .int .i64 0] = W := ⟨_, rfl⟩
  have Bm14 : Blk Wm14 Wm12.heap.size 45 #[.int .i64 8, .int .i64 0] := hWm14 ▸ Bm13.set #[.int .i64 8, .int .i64 0]
  have Am14 := hWm14 ▸ Am13.other nAB #[.int .i64 8, .int .i64 0]
  have bm14 := hWm14 ▸ below_setRow bm13 gB #[.int .i64 8, .int .i64 0]
  have c15 := Am14.cell 1 (.int .i64 s.w.pr) rfl
  obtain ⟨Wm16, hWm16⟩ : ∃ W, Wm14.setRow Wm12.heap.size #[.int .i64 128, .int .i64 129] = W := ⟨_, rfl⟩
  have Bm16 : Blk Wm16 Wm12.heap.size 45 #[.int .i64 128, .int .i64 129] := hWm16 ▸ Bm14.set #[.int .i64 128, .int .i64 129]
  have Am16 := hWm16 ▸ Am14.other nAB #[.int .i64 128, .int .i64 129]
  have bm16 := hWm16 ▸ below_setRow bm14 gB #[.int .i64 128, .int .i64 129]
  go_wp2_with (first | (refine wpList_store_row rfl _ _ _ rfl Wm12.heap.size #[.int .i64 8, .int .i64 0] (by rfl) (by rfl) _ _ Bm13 (by kernel_rfl) (by rfl) (by kernel_rfl) ?_; rw [hWm14]) | (refine wpList_store_row rfl _ _ _ rfl Wm12.heap.size #[.int .i64 128, .int .i64 129] (by rfl) (by rfl) _ _ Bm14 (by kernel_rfl) (by rfl) (by kernel_rfl) ?_; rw [hWm16]))
  clear c15
  obtain ⟨Wdq17, hWdq17⟩ : ∃ W, Wm16.drew = W := ⟨_, rfl⟩
  have Adq17 := hWdq17 ▸ Am16.drew
  have Bdq17 := hWdq17 ▸ Bm16.drew
  have bdq17 := hWdq17 ▸ bm16.drew
  refine wp_region_noPanic ?_
  refine wp_region_held_drew (S := fun w' => Blk w' w.heap.size 36 s.v ∧ Blk w' Wm12.heap.size 45 #[.int .i64 128, .int .i64 129]) (by kernel_rfl) (by rw [hWdq17]; exact ⟨Adq17, Bdq17⟩) (fun hHeld => ?_)
  rw [hWdq17] at hHeld ⊢
  refine qtk (i := 0) (oi := fxg4o10) (v := (.pointer (some ⟨w.heap.size, 14, none⟩))) hHeld ?_ ?_
  ·intro w9 hSw
   try dsimp only at hSw
   go_simp
  try simp only [qpu]
  refine qtk (i := 1) (oi := fxg4o7) (v := (.int .i64 s.ty)) hHeld ?_ ?_
  ·intro w9 hSw
   try dsimp only at hSw
   have hcc := hSw.1.cell 14 (.int .i64 s.ty) rfl
   go_simp
  try simp only [qpu]
  refine qtk (i := 2) (oi := fxg4o11) (v := (.int .i64 1)) hHeld ?_ ?_
  ·intro w9 hSw
   try dsimp only at hSw
   go_simp
  try simp only [qpu]
  refine qtk (i := 3) (oi := fxg4o6) (v := (.pointer (some ⟨Wm12.heap.size, 1, none⟩))) hHeld ?_ ?_
  ·intro w9 hSw
   try dsimp only at hSw
   go_simp
  try simp only [qpu]
  refine qtk (i := 4) (oi := fxg4o8) (v := (.int .i64 129)) hHeld ?_ ?_
  ·intro w9 hSw
   try dsimp only at hSw
   have hcc := hSw.2.cell 1 (.int .i64 129) rfl
   go_simp
  try simp only [qpu]
  refine qtk (i := 5) (oi := fxg4o5) (v := (.bool (s.ty == 129))) hHeld ?_ ?_
  ·intro w9 hSw
   try dsimp only at hSw
   go_simp
  try simp only [qpu]
  refine qtk (i := 6) (oi := fxg4o9) (v := (.bool (s.ty == 129))) hHeld ?_ ?_
  ·intro w9 hSw
   try dsimp only at hSw
   go_simp
  try simp only [qpu]
  cases hq18 : (s.ty == 129) with
  | false =>
   refine qtn (i := 7) (oi := fxg4o4) hHeld ?_
   try simp only [qpu]
   refine qtn (i := 8) (oi := fxg4o3) hHeld ?_
   try simp only [qpu]
   refine qtn (i := 9) (oi := fxg4o1) hHeld ?_
   try simp only [qpu]
   refine qtk (i := 10) (oi := fxg4o2) (v := (.bool false)) hHeld ?_ ?_
   ·intro w9 hSw
    try dsimp only at hSw
    go_simp
   try simp only [qpu]
   refine qtk (i := 11) (oi := fxg4o0) (v := (.bool false)) hHeld ?_ ?_
   ·intro w9 hSw
    try dsimp only at hSw
    go_simp
   try simp only [qpu]
   refine wpAnyH_done (by kernel_rfl) ?_ _
   refine NoPanic.normal ?_
   go_wp2_with fail
   go_ret
   exact ⟨retB_fw (by rw [← HR.out]; first | rfl | (simp [Sm.ec, ecT, hq5, hq18]; done)), bdq17⟩

  | true =>
   refine qtk (i := 7) (oi := fxg4o4) (v := (.pointer (some ⟨w.heap.size, 15, none⟩))) hHeld ?_ ?_
   ·intro w9 hSw
    try dsimp only at hSw
    go_simp
   try simp only [qpu]
   refine qtk (i := 8) (oi := fxg4o3) (v := (.int .i64 s.co)) hHeld ?_ ?_
   ·intro w9 hSw
    try dsimp only at hSw
    have hcc := hSw.1.cell 15 (.int .i64 s.co) rfl
    go_simp
   try simp only [qpu]
   refine qtk (i := 9) (oi := fxg4o1) (v := (.bool (s.co == 0))) hHeld ?_ ?_
   ·intro w9 hSw
    try dsimp only at hSw
    go_simp
   try simp only [qpu]
   refine qtk (i := 10) (oi := fxg4o2) (v := (.bool (s.co == 0))) hHeld ?_ ?_
   ·intro w9 hSw
    try dsimp only at hSw
    go_simp
   try simp only [qpu]
   refine qtk (i := 11) (oi := fxg4o0) (v := (.bool (s.co == 0))) hHeld ?_ ?_
   ·intro w9 hSw
    try dsimp only at hSw
    go_simp
   try simp only [qpu]
   refine wpAnyH_done (by kernel_rfl) ?_ _
   refine NoPanic.normal ?_
   go_wp2_with fail
   go_ret
   exact ⟨retB_fw (by rw [← HR.out]; first | rfl | (simp [Sm.ec, ecT, hq5, hq18]; done)), bdq17⟩
set_option maxRecDepth 100000 in
set_option maxHeartbeats 4000000 in
theorem begin_fw (s : Sm) (w : World) :
  Calls Try.prog 33 #[.agg s.v] w fun e w' => e = .returned (.tuple #[.agg s.beg.1.v, .int .i64 s.beg.2]) ∧ Below w.heap.size w w' := by
 obtain ⟨R, hR⟩ : ∃ R, s.beg = R := ⟨_, rfl⟩
 have HR : Hid (s.beg = R) := hR
 rw [hR]
 clear hR
 have b := Below.refl w.heap.size w
 go_enter Try.func33, Try.ntmps33
 cases hq4 : (s.w.pr == 6) with
 | false =>
  cases hq8 : (s.w.pr == 17) with
  | false =>
   obtain ⟨Wm9, hWm9⟩ : ∃ W, w.alloc (.cells s.v 36) = W := ⟨_, rfl⟩
   have bm9 := bel_nw hWm9
   have Am9 := blk_nw hWm9
   have gA : w.heap.size ≤ w.heap.size := Nat.le_refl _
   obtain ⟨Wm10, hWm10⟩ : ∃ W, Wm9.alloc (.cells #[.int .i64 0, .int .u32 0, .int .u32 0, .int .u32 0, .int .u32 0, .bool false, .bool false, .bool false, .bool false] 31) = W := ⟨_, rfl⟩
   have bm10 := bel_al bm9 hWm10
   have Am10 := Am9.al hWm10
   have Bm10 := blk_nw hWm10
   have gB : w.heap.size ≤ Wm9.heap.size := bm9.size
   have nAB : w.heap.size ≠ Wm9.heap.size := by have := Am9.lt; omega
   have nBA : Wm9.heap.size ≠ w.heap.size := fun e => nAB e.symm
   have c11 := Am10.cell 1 (.int .i64 s.w.pr) rfl
   go_wp2_with (refine wpList_load_blk_w (by rfl) _ _ rfl w.heap.size (by rfl) _ Am10 Try.underlying36 (by kernel_rfl) ?_)
   clear c11
   refine Calls.mono (echo0_fw s _) ?_
   rintro e Wm12 ⟨rfl, bb⟩
   have Am12 := Am10.kept bb
   have Bm12 := Bm10.kept bb
   have bm12 := bel_tr bm10 bb
   clear bb
   clear Am10 Bm10 bm10
   cases hq13 : (Sm.ec s false) with
   | false =>
    obtain ⟨Wm14, hWm14⟩ : ∃ W, Wm12.setRow Wm9.heap.size cn0.v = W := ⟨_, rfl⟩
    have Bm14 : Blk Wm14 Wm9.heap.size 31 cn0.v := hWm14 ▸ Bm12.set cn0.v
    have Am14 := hWm14 ▸ Am12.other nAB cn0.v
    have bm14 := hWm14 ▸ below_setRow bm12 gB cn0.v
    go_wp2_with (refine wpList_store_row rfl _ _ _ rfl Wm9.heap.size cn0.v (by rfl) (by rfl) _ _ Bm12 (by kernel_rfl) (by rfl) (by kernel_rfl) ?_; rw [hWm14])
    have hR2 : R = ((cn0 : Cn), (23 : Int)) := by rw [← HR.out]; first | rfl | (simp [Sm.beg, hq4, hq8, hq13]; done)
    subst hR2
    exact ret_cell_tmp (k := 2) (j := 3) Try.f33 (by kernel_rfl) Bm14 Try.underlying31 (by kernel_rfl) (by rfl) (by rfl) rfl ⟨rfl, bm14⟩

   | true =>
    obtain ⟨Wm15, hWm15⟩ : ∃ W, Wm12.setRow Wm9.heap.size cn0.v = W := ⟨_, rfl⟩
    have Bm15 : Blk Wm15 Wm9.heap.size 31 cn0.v := hWm15 ▸ Bm12.set cn0.v
    have Am15 := hWm15 ▸ Am12.other nAB cn0.v
    have bm15 := hWm15 ▸ below_setRow bm12 gB cn0.v
    go_wp2_with (refine wpList_store_row rfl _ _ _ rfl Wm9.heap.size cn0.v (by rfl) (by rfl) _ _ Bm12 (by kernel_rfl) (by rfl) (by kernel_rfl) ?_; rw [hWm15])
    have hR2 : R = ((cn0 : Cn), (0 : Int)) := by rw [← HR.out]; first | rfl | (simp [Sm.beg, hq4, hq8, hq13]; done)
    subst hR2
    exact ret_cell_tmp (k := 2) (j := 3) Try.f33 (by kernel_rfl) Bm15 Try.underlying31 (by kernel_rfl) (by rfl) (by rfl) rfl ⟨rfl, bm15⟩


  | true =>
   obtain ⟨Wm16, hWm16⟩ : ∃ W, w.alloc (.cells s.v 36) = W := ⟨_, rfl⟩
   have bm16 := bel_nw hWm16
   have Am16 := blk_nw hWm16
   have gA : w.heap.size ≤ w.heap.size := Nat.le_refl _
   obtain ⟨Wm17, hWm17⟩ : ∃ W, Wm16.alloc (.cells #[.int .i64 0, .int .u32 0, .int .u32 0, .int .u32 0, .int .u32 0, .bool false, .bool false, .bool false, .bool false] 31) = W := ⟨_, rfl⟩
   have bm17 := bel_al bm16 hWm17
   have Am17 := Am16.al hWm17
   have Bm17 := blk_nw hWm17
   have gB : w.heap.size ≤ Wm16.heap.size := bm16.size
   have nAB : w.heap.size ≠ Wm16.heap.size := by have := Am16.lt; omega
   have nBA : Wm16.heap.size ≠ w.heap.size := fun e => nAB e.symm
   have c18 := Am17.cell 1 (.int .i64 s.w.pr) rfl
   obtain ⟨Wm19, hWm19⟩ : ∃ W, Wm17.setRow Wm16.heap.size cn0.v = W := ⟨_, rfl⟩
   have Bm19 : Blk Wm19 Wm16.heap.size 31 cn0.v := hWm19 ▸ Bm17.set cn0.v
   have Am19 := hWm19 ▸ Am17.other nAB cn0.v
   have bm19 := hWm19 ▸ below_setRow bm17 gB cn0.v
   go_wp2_with (refine wpList_store_row rfl _ _ _ rfl Wm16.heap.size cn0.v (by rfl) (by rfl) _ _ Bm17 (by kernel_rfl) (by rfl) (by kernel_rfl) ?_; rw [hWm19])
   have hR2 : R = ((cn0 : Cn), (0 : Int)) := by rw [← HR.out]; first | rfl | (simp [Sm.beg, hq4, hq8]; done)
   subst hR2
   exact ret_cell_tmp (k := 2) (j := 3) Try.f33 (by kernel_rfl) Bm19 Try.underlying31 (by kernel_rfl) (by rfl) (by rfl) rfl ⟨rfl, bm19⟩


 | true =>
  obtain ⟨Wm20, hWm20⟩ : ∃ W, w.alloc (.cells s.v 36) = W := ⟨_, rfl⟩
  have bm20 := bel_nw hWm20
  have Am20 := blk_nw hWm20
  have gA : w.heap.size ≤ w.heap.size := Nat.le_refl _
  obtain ⟨Wm21, hWm21⟩ : ∃ W, Wm20.alloc (.cells #[.int .i64 0, .int .u32 0, .int .u32 0, .int .u32 0, .int .u32 0, .bool false, .bool false, .bool false, .bool false] 31) = W := ⟨_, rfl⟩
  have bm21 := bel_al bm20 hWm21
  have Am21 := Am20.al hWm21
  have Bm21 := blk_nw hWm21
  have gB : w.heap.size ≤ Wm20.heap.size := bm20.size
  have nAB : w.heap.size ≠ Wm20.heap.size := by have := Am20.lt; omega
  have nBA : Wm20.heap.size ≠ w.heap.size := fun e => nAB e.symm
  have c22 := Am21.cell 1 (.int .i64 s.w.pr) rfl
  have c23 := Am21.cell 10 (.int .i64 s.fl) rfl
  have c24 := Am21.cell 11 (.int .u32 s.sq) rfl
  have c25 := Am21.cell 13 (.int .i64 s.win) rfl
  have c26 := Am21.cell 27 (.slice s.da s.dn s.dc) rfl
  go_wp2_with fail
  clear c22 c23 c24 c25 c26
  refine Calls.mono (begin_tc s.fl s.sq s.win (s.dn : Int) _) ?_
  rintro e Wm27 ⟨rfl, bb⟩
  have Am27 := Am21.kept bb
  have Bm27 := Bm21.kept bb
  have bm27 := bel_tr bm21 bb
  clear bb
  clear Am21 Bm21 bm21
  obtain ⟨Wm28, hWm28⟩ : ∃ W, Wm27.setRow Wm20.heap.size (beg s.fl s.sq s.win (s.dn : Int)).1.v = W := ⟨_, rfl⟩
  have Bm28 : Blk Wm28 Wm20.heap.size 31 (beg s.fl s.sq s.win (s.dn : Int)).1.v := hWm28 ▸ Bm27.set (beg s.fl s.sq s.win (s.dn : Int)).1.v
  have Am28 := hWm28 ▸ Am27.other nAB (beg s.fl s.sq s.win (s.dn : Int)).1.v
  have bm28 := hWm28 ▸ below_setRow bm27 gB (beg s.fl s.sq s.win (s.dn : Int)).1.v
  go_wp2_with (refine wpList_store_row rfl _ _ _ rfl Wm20.heap.size (beg s.fl s.sq s.win (s.dn : Int)).1.v (by rfl) (by rfl) _ _ Bm27 (by kernel_rfl) (by rfl) (by kernel_rfl) ?_; rw [hWm28])
  have hR2 : R = (((beg s.fl s.sq s.win (s.dn : Int)).1 : Cn), ((beg s.fl s.sq s.win (s.dn : Int)).2 : Int)) := by rw [← HR.out]; first | rfl | (simp [Sm.beg, hq4]; done)
  subst hR2
  exact ret_cell_tmp (k := 2) (j := 3) Try.f33 (by kernel_rfl) Bm28 Try.underlying31 (by kernel_rfl) (by rfl) (by rfl) rfl ⟨rfl, bm28⟩
set_option maxRecDepth 100000 in
set_option maxHeartbeats 4000000 in
theorem start_fw (s : Sm) (now help : Int) (w : World) :
  Calls Try.prog 10 #[.agg s.v, .int .i64 now, .int .i64 help] w fun e w' => e = .returned (.tuple #[.agg (startF s now help).1.v, .int .i64 (startF s now help).2]) ∧ Below w.heap.size w w' := by
 obtain ⟨R, hR⟩ : ∃ R, startF s now help = R := ⟨_, rfl⟩
 have HR : Hid (startF s now help = R) := hR
 rw [hR]
 clear hR
 have b := Below.refl w.heap.size w
 go_enter Try.func10, Try.ntmps10
 obtain ⟨Wm1, hWm1⟩ : ∃ W, w.alloc (.cells s.v 36) = W := ⟨_, rfl⟩
 have bm1 := bel_nw hWm1
 have Am1 := blk_nw hWm1
 have gA : w.heap.size ≤ w.heap.size := Nat.le_refl _
 obtain ⟨Wm2, hWm2⟩ : ∃ W, Wm1.alloc (.cells #[.int .i64 0, .int .i64 0, .int .i64 0, .int .u64 0, .int .u64 0, .int .i64 0, .int .u64 0, .int .u64 0, .int .i64 0, .int .i64 0, .int .i64 0, .int .u32 0, .int .u32 0, .int .u32 0, .int .u32 0, .bool false, .bool false, .bool false, .bool false, .int .i64 0, .int .i64 0, .bool false] 33) = W := ⟨_, rfl⟩
 have bm2 := bel_al bm1 hWm2
 have Am2 := Am1.al hWm2
 have Bm2 := blk_nw hWm2
 have gB : w.heap.size ≤ Wm1.heap.size := bm1.size
 have nAB : w.heap.size ≠ Wm1.heap.size := by have := Am1.lt; omega
 have nBA : Wm1.heap.size ≠ w.heap.size := fun e => nAB e.symm
 go_wp2_with (refine wpList_load_sub_w (by rfl) _ _ rfl w.heap.size 0 _ (by rfl) _ s.w.v Am2 (by rfl) Try.underlying26 (by kernel_rfl) ?_)
 refine Calls.mono (right_t s.w _) ?_
 rintro e Wm3 ⟨rfl, bb⟩
 have Am3 := Am2.kept bb
 have Bm3 := Bm2.kept bb
 have bm3 := bel_tr bm2 bb
 clear bb
 clear Am2 Bm2 bm2
 cases hq4 : s.w.right with
 | false =>
  obtain ⟨Wm5, hWm5⟩ : ∃ W, Wm3.setRow Wm1.heap.size fl0.v = W := ⟨_, rfl⟩
  have Bm5 : Blk Wm5 Wm1.heap.size 33 fl0.v := hWm5 ▸ Bm3.set fl0.v
  have Am5 := hWm5 ▸ Am3.other nAB fl0.v
  have bm5 := hWm5 ▸ below_setRow bm3 gB fl0.v
  go_wp2_with (refine wpList_store_row rfl _ _ _ rfl Wm1.heap.size fl0.v (by rfl) (by rfl) _ _ Bm3 (by kernel_rfl) (by rfl) (by kernel_rfl) ?_; rw [hWm5])
  have hR2 : R = ((fl0 : Fl), (1 : Int)) := by rw [← HR.out]; first | rfl | (simp [startF, hq4]; done)
  subst hR2
  exact ret_cell_tmp (k := 6) (j := 7) Try.f10 (by kernel_rfl) Bm5 Try.underlying33 (by kernel_rfl) (by rfl) (by rfl) rfl ⟨rfl, bm5⟩

 | true =>
  go_wp2_with fail
  refine Calls.mono (now_fw now _) ?_
  rintro e Wm6 ⟨rfl, bb⟩
  have Am6 := Am3.kept bb
  have Bm6 := Bm3.kept bb
  have bm6 := bel_tr bm3 bb
  clear bb
  clear Am3 Bm3 bm3
  cases hq7 : (nowB now) with
  | false =>
   obtain ⟨Wm8, hWm8⟩ : ∃ W, Wm6.setRow Wm1.heap.size fl0.v = W := ⟨_, rfl⟩
   have Bm8 : Blk Wm8 Wm1.heap.size 33 fl0.v := hWm8 ▸ Bm6.set fl0.v
   have Am8 := hWm8 ▸ Am6.other nAB fl0.v
   have bm8 := hWm8 ▸ below_setRow bm6 gB fl0.v
   go_wp2_with (refine wpList_store_row rfl _ _ _ rfl Wm1.heap.size fl0.v (by rfl) (by rfl) _ _ Bm6 (by kernel_rfl) (by rfl) (by kernel_rfl) ?_; rw [hWm8])
   have hR2 : R = ((fl0 : Fl), (1 : Int)) := by rw [← HR.out]; first | rfl | (simp [startF, hq4, hq7]; done)
   subst hR2
   exact ret_cell_tmp (k := 6) (j := 7) Try.f10 (by kernel_rfl) Bm8 Try.underlying33 (by kernel_rfl) (by rfl) (by rfl) rfl ⟨rfl, bm8⟩

  | true =>
   go_wp2_with fail
   refine Calls.mono (help_fw help _) ?_
   rintro e Wm9 ⟨rfl, bb⟩
   have Am9 := Am6.kept bb
   have Bm9 := Bm6.kept bb
   have bm9 := bel_tr bm6 bb
   clear bb
   clear Am6 Bm6 bm6
   cases hq10 : (hlpB help) with
   | false =>
    obtain ⟨Wm11, hWm11⟩ : ∃ W, Wm9.setRow Wm1.heap.size fl0.v = W := ⟨_, rfl⟩
    have Bm11 : Blk Wm11 Wm1.heap.size 33 fl0.v := hWm11 ▸ Bm9.set fl0.v
    have Am11 := hWm11 ▸ Am9.other nAB fl0.v
    have bm11 := hWm11 ▸ below_setRow bm9 gB fl0.v
    go_wp2_with (refine wpList_store_row rfl _ _ _ rfl Wm1.heap.size fl0.v (by rfl) (by rfl) _ _ Bm9 (by kernel_rfl) (by rfl) (by kernel_rfl) ?_; rw [hWm11])
    have hR2 : R = ((fl0 : Fl), (1 : Int)) := by rw [← HR.out]; first | rfl | (simp [startF, hq4, hq7, hq10]; done)
    subst hR2
    exact ret_cell_tmp (k := 6) (j := 7) Try.f10 (by kernel_rfl) Bm11 Try.underlying33 (by kernel_rfl) (by rfl) (by rfl) rfl ⟨rfl, bm11⟩

   | true =>
    go_wp2_with (refine wpList_load_blk_w (by rfl) _ _ rfl w.heap.size (by rfl) _ Am9 Try.underlying36 (by kernel_rfl) ?_)
    refine Calls.mono (begin_fw s _) ?_
    rintro e Wm12 ⟨rfl, bb⟩
    have Am12 := Am9.kept bb
    have Bm12 := Bm9.kept bb
    have bm12 := bel_tr bm9 bb
    clear bb
    clear Am9 Bm9 bm9
    cases hq15 : ((s.beg).2 != 0) with
    | false =>
     obtain ⟨Wm16, hWm16⟩ : ∃ W, Wm12.alloc (.cells #[.int .i64 0, .int .u32 0, .int .u32 0, .int .u32 0, .int .u32 0, .bool false, .bool false, .bool false, .bool false] 31) = W := ⟨_, rfl⟩
     have bm16 := bel_al bm12 hWm16
     have Am16 := Am12.al hWm16
     have Bm16 := Bm12.al hWm16
     have Cm16 := blk_nw hWm16
     have gC : w.heap.size ≤ Wm12.heap.size := bm12.size
     have nAC : w.heap.size ≠ Wm12.heap.size := by have := Am12.lt; omega
     have nCA : Wm12.heap.size ≠ w.heap.size := fun e => nAC e.symm
     have nBC : Wm1.heap.size ≠ Wm12.heap.size := by have := Bm12.lt; omega
     have nCB : Wm12.heap.size ≠ Wm1.heap.size := fun e => nBC e.symm
     obtain ⟨Wm17, hWm17⟩ : ∃ W, Wm16.setRow Wm12.heap.size (s.beg).1.v = W := ⟨_, rfl⟩
     have Cm17 : Blk Wm17 Wm12.heap.size 31 (s.beg).1.v := hWm17 ▸ Cm16.set (s.beg).1.v
     have Am17 := hWm17 ▸ Am16.other nAC (s.beg).1.v
     have Bm17 := hWm17 ▸ Bm16.other nBC (s.beg).1.v
     have bm17 := hWm17 ▸ below_setRow bm16 gC (s.beg).1.v
     go_wp2_with (first | (refine wpList_store_row rfl _ _ _ rfl Wm12.heap.size (s.beg).1.v (by rfl) (by rfl) _ _ Cm16 (by kernel_rfl) (by rfl) (by kernel_rfl) ?_; rw [hWm17]) | (refine wpList_load_sub_w (by rfl) _ _ rfl w.heap.size 0 _ (by rfl) _ s.w.v Am17 (by rfl) Try.underlying26 (by kernel_rfl) ?_) | (refine wpList_load_blk_w (by rfl) _ _ rfl Wm12.heap.size (by rfl) _ Cm17 Try.underlying31 (by kernel_rfl) ?_))
     refine Calls.mono (keep_fw (⟨s.w, (s.beg).1, 0, help, false⟩) now _ (by assumption) (startC _ (by assumption))) ?_
     rintro e Wm18 ⟨rfl, bb⟩
     have Am18 := Am17.kept bb
     have Bm18 := Bm17.kept bb
     have Cm18 := Cm17.kept bb
     have bm18 := bel_tr bm17 bb
     clear bb
     clear Am17 Bm17 Cm17 bm17
     obtain ⟨Wm19, hWm19⟩ : ∃ W, Wm18.setRow Wm1.heap.size (Fl.keep (⟨s.w, (s.beg).1, 0, help, false⟩) now).v = W := ⟨_, rfl⟩
     have Bm19 : Blk Wm19 Wm1.heap.size 33 (Fl.keep (⟨s.w, (s.beg).1, 0, help, false⟩) now).v := hWm19 ▸ Bm18.set (Fl.keep (⟨s.w, (s.beg).1, 0, help, false⟩) now).v
     have Am19 := hWm19 ▸ Am18.other nAB (Fl.keep (⟨s.w, (s.beg).1, 0, help, false⟩) now).v
     have Cm19 := hWm19 ▸ Cm18.other nCB (Fl.keep (⟨s.w, (s.beg).1, 0, help, false⟩) now).v
     have bm19 := hWm19 ▸ below_setRow bm18 gB (Fl.keep (⟨s.w, (s.beg).1, 0, help, false⟩) now).v
     go_wp2_with (refine wpList_store_row rfl _ _ _ rfl Wm1.heap.size (Fl.keep (⟨s.w, (s.beg).1, 0, help, false⟩) now).v (by rfl) (by rfl) _ _ Bm18 (by kernel_rfl) (by rfl) (by kernel_rfl) ?_; rw [hWm19])
     have hR2 : R = (((Fl.keep (⟨s.w, (s.beg).1, 0, help, false⟩) now) : Fl), (0 : Int)) := by rw [← HR.out]; first | rfl | (simp [startF, hq4, hq7, hq10, bne_f_fw hq15]; done)
     subst hR2
     exact ret_cell_tmp (k := 6) (j := 7) Try.f10 (by kernel_rfl) Bm19 Try.underlying33 (by kernel_rfl) (by rfl) (by rfl) rfl ⟨rfl, bm19⟩

    | true =>
     obtain ⟨Wm20, hWm20⟩ : ∃ W, Wm12.alloc (.cells #[.int .i64 0, .int .u32 0, .int .u32 0, .int .u32 0, .int .u32 0, .bool false, .bool false, .bool false, .bool false] 31) = W := ⟨_, rfl⟩
     have bm20 := bel_al bm12 hWm20
     have Am20 := Am12.al hWm20
     have Bm20 := Bm12.al hWm20
     have Cm20 := blk_nw hWm20
     have gC : w.heap.size ≤ Wm12.heap.size := bm12.size
     have nAC : w.heap.size ≠ Wm12.heap.size := by have := Am12.lt; omega
     have nCA : Wm12.heap.size ≠ w.heap.size := fun e => nAC e.symm
     have nBC : Wm1.heap.size ≠ Wm12.heap.size := by have := Bm12.lt; omega
     have nCB : Wm12.heap.size ≠ Wm1.heap.size := fun e => nBC e.symm
     obtain ⟨Wm21, hWm21⟩ : ∃ W, Wm20.setRow Wm12.heap.size (s.beg).1.v = W := ⟨_, rfl⟩
     have Cm21 : Blk Wm21 Wm12.heap.size 31 (s.beg).1.v := hWm21 ▸ Cm20.set (s.beg).1.v
     have Am21 := hWm21 ▸ Am20.other nAC (s.beg).1.v
     have Bm21 := hWm21 ▸ Bm20.other nBC (s.beg).1.v
     have bm21 := hWm21 ▸ below_setRow bm20 gC (s.beg).1.v
     obtain ⟨Wm22, hWm22⟩ : ∃ W, Wm21.setRow Wm1.heap.size fl0.v = W := ⟨_, rfl⟩
     have Bm22 : Blk Wm22 Wm1.heap.size 33 fl0.v := hWm22 ▸ Bm21.set fl0.v
     have Am22 := hWm22 ▸ Am21.other nAB fl0.v
     have Cm22 := hWm22 ▸ Cm21.other nCB fl0.v
     have bm22 := hWm22 ▸ below_setRow bm21 gB fl0.v
     go_wp2_with (first | (refine wpList_store_row rfl _ _ _ rfl Wm12.heap.size (s.beg).1.v (by rfl) (by rfl) _ _ Cm20 (by kernel_rfl) (by rfl) (by kernel_rfl) ?_; rw [hWm21]) | (refine wpList_store_row rfl _ _ _ rfl Wm1.heap.size fl0.v (by rfl) (by rfl) _ _ Bm21 (by kernel_rfl) (by rfl) (by kernel_rfl) ?_; rw [hWm22]))
     have hR2 : R = ((fl0 : Fl), ((s.beg).2 : Int)) := by rw [← HR.out]; first | rfl | (simp [startF, hq4, hq7, hq10, bne_t_fw hq15]; done)
     subst hR2
     exact ret_cell_tmp (k := 6) (j := 7) Try.f10 (by kernel_rfl) Bm22 Try.underlying33 (by kernel_rfl) (by rfl) (by rfl) rfl ⟨rfl, bm22⟩
set_option maxRecDepth 100000 in
set_option maxHeartbeats 4000000 in
theorem way0_fw (f : Fl) (w : World) :
  Calls Try.prog 43 #[.agg f.v, .int .i64 0] w fun e w' => e = .returned (.agg (f.way false).v) ∧ Below w.heap.size w w' := by
 obtain ⟨R, hR⟩ : ∃ R, f.way false = R := ⟨_, rfl⟩
 have HR : Hid (f.way false = R) := hR
 rw [hR]
 clear hR
 have b := Below.refl w.heap.size w
 go_enter Try.func43, Try.ntmps43
 obtain ⟨Wm1, hWm1⟩ : ∃ W, w.alloc (.cells f.v 33) = W := ⟨_, rfl⟩
 have bm1 := bel_nw hWm1
 have Am1 := blk_nw hWm1
 have gA : w.heap.size ≤ w.heap.size := Nat.le_refl _
 obtain ⟨Wm2, hWm2⟩ : ∃ W, Wm1.alloc (.cells #[.int .i64 0, .int .i64 0, .int .i64 0, .int .u64 0, .int .u64 0, .int .i64 0, .int .u64 0, .int .u64 0, .int .i64 0, .int .i64 0] 26) = W := ⟨_, rfl⟩
 have bm2 := bel_al bm1 hWm2
 have Am2 := Am1.al hWm2
 have Bm2 := blk_nw hWm2
 have gB : w.heap.size ≤ Wm1.heap.size := bm1.size
 have nAB : w.heap.size ≠ Wm1.heap.size := by have := Am1.lt; omega
 have nBA : Wm1.heap.size ≠ w.heap.size := fun e => nAB e.symm
 obtain ⟨Wm3, hWm3⟩ : ∃ W, Wm2.setRow Wm1.heap.size f.w.v = W := ⟨_, rfl⟩
 have Bm3 : Blk Wm3 Wm1.heap.size 26 f.w.v := hWm3 ▸ Bm2.set f.w.v
 have Am3 := hWm3 ▸ Am2.other nAB f.w.v
 have bm3 := hWm3 ▸ below_setRow bm2 gB f.w.v
 go_wp2_with (first | (refine wpList_load_sub_w (by rfl) _ _ rfl w.heap.size 0 _ (by rfl) _ f.w.v Am2 (by rfl) Try.underlying26 (by kernel_rfl) ?_) | (refine wpList_store_row rfl _ _ _ rfl Wm1.heap.size f.w.v (by rfl) (by rfl) _ _ Bm2 (by kernel_rfl) (by rfl) (by kernel_rfl) ?_; rw [hWm3]))
 have hR2 : R = (f.w : Wy) := by rw [← HR.out]; first | rfl | (simp [Fl.way]; done)
 subst hR2
 exact ret_cell (k := 4) Try.f43 (by kernel_rfl) Bm3 Try.underlying26 (by kernel_rfl) (by rfl) rfl ⟨rfl, bm3⟩
set_option maxRecDepth 100000 in
set_option maxHeartbeats 4000000 in
theorem step0_fw (c : Cn) (s : Sm) (w : World) :
  Calls Try.prog 44 #[.agg c.v, .int .i64 0, .agg s.v] w fun e w' => e = .returned (.tuple #[.agg (s.stp c false).1.v, .int .i64 (s.stp c false).2]) ∧ Below w.heap.size w w' := by
 obtain ⟨R, hR⟩ : ∃ R, s.stp c false = R := ⟨_, rfl⟩
 have HR : Hid (s.stp c false = R) := hR
 rw [hR]
 clear hR
 have b := Below.refl w.heap.size w
 go_enter Try.func44, Try.ntmps44
 cases hq5 : (s.w.pr == 6) with
 | false =>
  cases hq10 : (s.w.pr == 17) with
  | false =>
   obtain ⟨Wm11, hWm11⟩ : ∃ W, w.alloc (.cells c.v 31) = W := ⟨_, rfl⟩
   have bm11 := bel_nw hWm11
   have Am11 := blk_nw hWm11
   have gA : w.heap.size ≤ w.heap.size := Nat.le_refl _
   obtain ⟨Wm12, hWm12⟩ : ∃ W, Wm11.alloc (.cells s.v 36) = W := ⟨_, rfl⟩
   have bm12 := bel_al bm11 hWm12
   have Am12 := Am11.al hWm12
   have Bm12 := blk_nw hWm12
   have gB : w.heap.size ≤ Wm11.heap.size := bm11.size
   have nAB : w.heap.size ≠ Wm11.heap.size := by have := Am11.lt; omega
   have nBA : Wm11.heap.size ≠ w.heap.size := fun e => nAB e.symm
   obtain ⟨Wm13, hWm13⟩ : ∃ W, Wm12.alloc (.cells #[.int .i64 0, .int .u32 0, .int .u32 0, .int .u32 0, .int .u32 0, .bool false, .bool false, .bool false, .bool false] 31) = W := ⟨_, rfl⟩
   have bm13 := bel_al bm12 hWm13
   have Am13 := Am12.al hWm13
   have Bm13 := Bm12.al hWm13
   have Cm13 := blk_nw hWm13
   have gC : w.heap.size ≤ Wm12.heap.size := bm12.size
   have nAC : w.heap.size ≠ Wm12.heap.size := by have := Am12.lt; omega
   have nCA : Wm12.heap.size ≠ w.heap.size := fun e => nAC e.symm
   have nBC : Wm11.heap.size ≠ Wm12.heap.size := by have := Bm12.lt; omega
   have nCB : Wm12.heap.size ≠ Wm11.heap.size := fun e => nBC e.symm
   have c14 := Bm13.cell 1 (.int .i64 s.w.pr) rfl
   go_wp2_with (refine wpList_load_blk_w (by rfl) _ _ rfl Wm11.heap.size (by rfl) _ Bm13 Try.underlying36 (by kernel_rfl) ?_)
   clear c14
   refine Calls.mono (echo0_fw s _) ?_
   rintro e Wm15 ⟨rfl, bb⟩
   have Am15 := Am13.kept bb
   have Bm15 := Bm13.kept bb
   have Cm15 := Cm13.kept bb
   have bm15 := bel_tr bm13 bb
   clear bb
   clear Am13 Bm13 Cm13 bm13
   cases hq16 : (Sm.ec s false) with
   | false =>
    obtain ⟨Wm17, hWm17⟩ : ∃ W, Wm15.setRow Wm12.heap.size cn0.v = W := ⟨_, rfl⟩
    have Cm17 : Blk Wm17 Wm12.heap.size 31 cn0.v := hWm17 ▸ Cm15.set cn0.v
    have Am17 := hWm17 ▸ Am15.other nAC cn0.v
    have Bm17 := hWm17 ▸ Bm15.other nBC cn0.v
    have bm17 := hWm17 ▸ below_setRow bm15 gC cn0.v
    go_wp2_with (refine wpList_store_row rfl _ _ _ rfl Wm12.heap.size cn0.v (by rfl) (by rfl) _ _ Cm15 (by kernel_rfl) (by rfl) (by kernel_rfl) ?_; rw [hWm17])
    have hR2 : R = ((cn0 : Cn), (23 : Int)) := by rw [← HR.out]; first | rfl | (simp [Sm.stp, Sm.g, hq5, hq10, hq16]; done)
    subst hR2
    exact ret_cell_tmp (k := 6) (j := 7) Try.f44 (by kernel_rfl) Cm17 Try.underlying31 (by kernel_rfl) (by rfl) (by rfl) rfl ⟨rfl, bm17⟩

   | true =>
    obtain ⟨Wm18, hWm18⟩ : ∃ W, Wm15.setRow Wm12.heap.size c.v = W := ⟨_, rfl⟩
    have Cm18 : Blk Wm18 Wm12.heap.size 31 c.v := hWm18 ▸ Cm15.set c.v
    have Am18 := hWm18 ▸ Am15.other nAC c.v
    have Bm18 := hWm18 ▸ Bm15.other nBC c.v
    have bm18 := hWm18 ▸ below_setRow bm15 gC c.v
    go_wp2_with (first | (refine wpList_load_blk_w (by rfl) _ _ rfl w.heap.size (by rfl) _ Am15 Try.underlying31 (by kernel_rfl) ?_) | (refine wpList_store_row rfl _ _ _ rfl Wm12.heap.size c.v (by rfl) (by rfl) _ _ Cm15 (by kernel_rfl) (by rfl) (by kernel_rfl) ?_; rw [hWm18]))
    have hR2 : R = ((c : Cn), (0 : Int)) := by rw [← HR.out]; first | rfl | (simp [Sm.stp, Sm.g, hq5, hq10, hq16]; done)
    subst hR2
    exact ret_cell_tmp (k := 6) (j := 7) Try.f44 (by kernel_rfl) Cm18 Try.underlying31 (by kernel_rfl) (by rfl) (by rfl) rfl ⟨rfl, bm18⟩


  | true =>
   obtain ⟨Wm19, hWm19⟩ : ∃ W, w.alloc (.cells c.v 31) = W := ⟨_, rfl⟩
   have bm19 := bel_nw hWm19
   have Am19 := blk_nw hWm19
   have gA : w.heap.size ≤ w.heap.size := Nat.le_refl _
   obtain ⟨Wm20, hWm20⟩ : ∃ W, Wm19.alloc (.cells s.v 36) = W := ⟨_, rfl⟩
   have bm20 := bel_al bm19 hWm20
   have Am20 := Am19.al hWm20
   have Bm20 := blk_nw hWm20
   have gB : w.heap.size ≤ Wm19.heap.size := bm19.size
   have nAB : w.heap.size ≠ Wm19.heap.size := by have := Am19.lt; omega
   have nBA : Wm19.heap.size ≠ w.heap.size := fun e => nAB e.symm
   obtain ⟨Wm21, hWm21⟩ : ∃ W, Wm20.alloc (.cells #[.int .i64 0, .int .u32 0, .int .u32 0, .int .u32 0, .int .u32 0, .bool false, .bool false, .bool false, .bool false] 31) = W := ⟨_, rfl⟩
   have bm21 := bel_al bm20 hWm21
   have Am21 := Am20.al hWm21
   have Bm21 := Bm20.al hWm21
   have Cm21 := blk_nw hWm21
   have gC : w.heap.size ≤ Wm20.heap.size := bm20.size
   have nAC : w.heap.size ≠ Wm20.heap.size := by have := Am20.lt; omega
   have nCA : Wm20.heap.size ≠ w.heap.size := fun e => nAC e.symm
   have nBC : Wm19.heap.size ≠ Wm20.heap.size := by have := Bm20.lt; omega
   have nCB : Wm20.heap.size ≠ Wm19.heap.size := fun e => nBC e.symm
   have c22 := Bm21.cell 1 (.int .i64 s.w.pr) rfl
   obtain ⟨Wm23, hWm23⟩ : ∃ W, Wm21.setRow Wm20.heap.size c.v = W := ⟨_, rfl⟩
   have Cm23 : Blk Wm23 Wm20.heap.size 31 c.v := hWm23 ▸ Cm21.set c.v
   have Am23 := hWm23 ▸ Am21.other nAC c.v
   have Bm23 := hWm23 ▸ Bm21.other nBC c.v
   have bm23 := hWm23 ▸ below_setRow bm21 gC c.v
   go_wp2_with (first | (refine wpList_load_blk_w (by rfl) _ _ rfl w.heap.size (by rfl) _ Am21 Try.underlying31 (by kernel_rfl) ?_) | (refine wpList_store_row rfl _ _ _ rfl Wm20.heap.size c.v (by rfl) (by rfl) _ _ Cm21 (by kernel_rfl) (by rfl) (by kernel_rfl) ?_; rw [hWm23]))
   have hR2 : R = ((c : Cn), (0 : Int)) := by rw [← HR.out]; first | rfl | (simp [Sm.stp, Sm.g, hq5, hq10]; done)
   subst hR2
   exact ret_cell_tmp (k := 6) (j := 7) Try.f44 (by kernel_rfl) Cm23 Try.underlying31 (by kernel_rfl) (by rfl) (by rfl) rfl ⟨rfl, bm23⟩


 | true =>
  obtain ⟨Wm24, hWm24⟩ : ∃ W, w.alloc (.cells c.v 31) = W := ⟨_, rfl⟩
  have bm24 := bel_nw hWm24
  have Am24 := blk_nw hWm24
  have gA : w.heap.size ≤ w.heap.size := Nat.le_refl _
  obtain ⟨Wm25, hWm25⟩ : ∃ W, Wm24.alloc (.cells s.v 36) = W := ⟨_, rfl⟩
  have bm25 := bel_al bm24 hWm25
  have Am25 := Am24.al hWm25
  have Bm25 := blk_nw hWm25
  have gB : w.heap.size ≤ Wm24.heap.size := bm24.size
  have nAB : w.heap.size ≠ Wm24.heap.size := by have := Am24.lt; omega
  have nBA : Wm24.heap.size ≠ w.heap.size := fun e => nAB e.symm
  obtain ⟨Wm26, hWm26⟩ : ∃ W, Wm25.alloc (.cells #[.int .i64 0, .int .u32 0, .int .u32 0, .int .u32 0, .int .u32 0, .bool false, .bool false, .bool false, .bool false] 31) = W := ⟨_, rfl⟩
  have bm26 := bel_al bm25 hWm26
  have Am26 := Am25.al hWm26
  have Bm26 := Bm25.al hWm26
  have Cm26 := blk_nw hWm26
  have gC : w.heap.size ≤ Wm25.heap.size := bm25.size
  have nAC : w.heap.size ≠ Wm25.heap.size := by have := Am25.lt; omega
  have nCA : Wm25.heap.size ≠ w.heap.size := fun e => nAC e.symm
  have nBC : Wm24.heap.size ≠ Wm25.heap.size := by have := Bm25.lt; omega
  have nCB : Wm25.heap.size ≠ Wm24.heap.size := fun e => nBC e.symm
  have c27 := Bm26.cell 1 (.int .i64 s.w.pr) rfl
  have c28 := Bm26.cell 10 (.int .i64 s.fl) rfl
  have c29 := Bm26.cell 13 (.int .i64 s.win) rfl
  have c30 := Bm26.cell 27 (.slice s.da s.dn s.dc) rfl
  have c31 := Bm26.cell 11 (.int .u32 s.sq) rfl
  have c32 := Bm26.cell 12 (.int .u32 s.ak) rfl
  go_wp2_with (refine wpList_load_blk_w (by rfl) _ _ rfl w.heap.size (by rfl) _ Am26 Try.underlying31 (by kernel_rfl) ?_)
  clear c27 c28 c29 c30 c31 c32
  refine Calls.mono (step_tc c 0 (⟨s.fl, s.win, (s.dn : Int), s.sq, s.ak⟩) _) ?_
  rintro e Wm33 ⟨rfl, bb⟩
  have Am33 := Am26.kept bb
  have Bm33 := Bm26.kept bb
  have Cm33 := Cm26.kept bb
  have bm33 := bel_tr bm26 bb
  clear bb
  clear Am26 Bm26 Cm26 bm26
  obtain ⟨Wm34, hWm34⟩ : ∃ W, Wm33.setRow Wm25.heap.size (Cn.step c 0 (⟨s.fl, s.win, (s.dn : Int), s.sq, s.ak⟩)).1.v = W := ⟨_, rfl⟩
  have Cm34 : Blk Wm34 Wm25.heap.size 31 (Cn.step c 0 (⟨s.fl, s.win, (s.dn : Int), s.sq, s.ak⟩)).1.v := hWm34 ▸ Cm33.set (Cn.step c 0 (⟨s.fl, s.win, (s.dn : Int), s.sq, s.ak⟩)).1.v
  have Am34 := hWm34 ▸ Am33.other nAC (Cn.step c 0 (⟨s.fl, s.win, (s.dn : Int), s.sq, s.ak⟩)).1.v
  have Bm34 := hWm34 ▸ Bm33.other nBC (Cn.step c 0 (⟨s.fl, s.win, (s.dn : Int), s.sq, s.ak⟩)).1.v
  have bm34 := hWm34 ▸ below_setRow bm33 gC (Cn.step c 0 (⟨s.fl, s.win, (s.dn : Int), s.sq, s.ak⟩)).1.v
  go_wp2_with (refine wpList_store_row rfl _ _ _ rfl Wm25.heap.size (Cn.step c 0 (⟨s.fl, s.win, (s.dn : Int), s.sq, s.ak⟩)).1.v (by rfl) (by rfl) _ _ Cm33 (by kernel_rfl) (by rfl) (by kernel_rfl) ?_; rw [hWm34])
  have hR2 : R = (((Cn.step c 0 (⟨s.fl, s.win, (s.dn : Int), s.sq, s.ak⟩)).1 : Cn), ((Cn.step c 0 (⟨s.fl, s.win, (s.dn : Int), s.sq, s.ak⟩)).2 : Int)) := by rw [← HR.out]; first | rfl | (simp [Sm.stp, Sm.g, hq5]; done)
  subst hR2
  exact ret_cell_tmp (k := 6) (j := 7) Try.f44 (by kernel_rfl) Cm34 Try.underlying31 (by kernel_rfl) (by rfl) (by rfl) rfl ⟨rfl, bm34⟩
set_option maxRecDepth 100000 in
set_option maxHeartbeats 4000000 in
theorem way1_fw (f : Fl) (w : World) :
  Calls Try.prog 43 #[.agg f.v, .int .i64 1] w fun e w' => e = .returned (.agg (f.way true).v) ∧ Below w.heap.size w w' := by
 obtain ⟨R, hR⟩ : ∃ R, f.way true = R := ⟨_, rfl⟩
 have HR : Hid (f.way true = R) := hR
 rw [hR]
 clear hR
 have b := Below.refl w.heap.size w
 go_enter Try.func43, Try.ntmps43
 obtain ⟨Wm1, hWm1⟩ : ∃ W, w.alloc (.cells f.v 33) = W := ⟨_, rfl⟩
 have bm1 := bel_nw hWm1
 have Am1 := blk_nw hWm1
 have gA : w.heap.size ≤ w.heap.size := Nat.le_refl _
 obtain ⟨Wm2, hWm2⟩ : ∃ W, Wm1.alloc (.cells #[.int .i64 0, .int .i64 0, .int .i64 0, .int .u64 0, .int .u64 0, .int .i64 0, .int .u64 0, .int .u64 0, .int .i64 0, .int .i64 0] 26) = W := ⟨_, rfl⟩
 have bm2 := bel_al bm1 hWm2
 have Am2 := Am1.al hWm2
 have Bm2 := blk_nw hWm2
 have gB : w.heap.size ≤ Wm1.heap.size := bm1.size
 have nAB : w.heap.size ≠ Wm1.heap.size := by have := Am1.lt; omega
 have nBA : Wm1.heap.size ≠ w.heap.size := fun e => nAB e.symm
 go_wp2_with (refine wpList_load_sub_w (by rfl) _ _ rfl w.heap.size 0 _ (by rfl) _ f.w.v Am2 (by rfl) Try.underlying26 (by kernel_rfl) ?_)
 refine Calls.mono (rev_t f.w _) ?_
 rintro e Wm3 ⟨rfl, bb⟩
 have Am3 := Am2.kept bb
 have Bm3 := Bm2.kept bb
 have bm3 := bel_tr bm2 bb
 clear bb
 clear Am2 Bm2 bm2
 obtain ⟨Wm4, hWm4⟩ : ∃ W, Wm3.setRow Wm1.heap.size f.w.rev.v = W := ⟨_, rfl⟩
 have Bm4 : Blk Wm4 Wm1.heap.size 26 f.w.rev.v := hWm4 ▸ Bm3.set f.w.rev.v
 have Am4 := hWm4 ▸ Am3.other nAB f.w.rev.v
 have bm4 := hWm4 ▸ below_setRow bm3 gB f.w.rev.v
 go_wp2_with (refine wpList_store_row rfl _ _ _ rfl Wm1.heap.size f.w.rev.v (by rfl) (by rfl) _ _ Bm3 (by kernel_rfl) (by rfl) (by kernel_rfl) ?_; rw [hWm4])
 have hR2 : R = (f.w.rev : Wy) := by rw [← HR.out]; first | rfl | (simp [Fl.way]; done)
 subst hR2
 exact ret_cell (k := 4) Try.f43 (by kernel_rfl) Bm4 Try.underlying26 (by kernel_rfl) (by rfl) rfl ⟨rfl, bm4⟩
set_option maxRecDepth 100000 in
set_option maxHeartbeats 4000000 in
theorem step1_fw (c : Cn) (s : Sm) (w : World) :
  Calls Try.prog 44 #[.agg c.v, .int .i64 1, .agg s.v] w fun e w' => e = .returned (.tuple #[.agg (s.stp c true).1.v, .int .i64 (s.stp c true).2]) ∧ Below w.heap.size w w' := by
 obtain ⟨R, hR⟩ : ∃ R, s.stp c true = R := ⟨_, rfl⟩
 have HR : Hid (s.stp c true = R) := hR
 rw [hR]
 clear hR
 have b := Below.refl w.heap.size w
 go_enter Try.func44, Try.ntmps44
 cases hq5 : (s.w.pr == 6) with
 | false =>
  cases hq10 : (s.w.pr == 17) with
  | false =>
   obtain ⟨Wm11, hWm11⟩ : ∃ W, w.alloc (.cells c.v 31) = W := ⟨_, rfl⟩
   have bm11 := bel_nw hWm11
   have Am11 := blk_nw hWm11
   have gA : w.heap.size ≤ w.heap.size := Nat.le_refl _
   obtain ⟨Wm12, hWm12⟩ : ∃ W, Wm11.alloc (.cells s.v 36) = W := ⟨_, rfl⟩
   have bm12 := bel_al bm11 hWm12
   have Am12 := Am11.al hWm12
   have Bm12 := blk_nw hWm12
   have gB : w.heap.size ≤ Wm11.heap.size := bm11.size
   have nAB : w.heap.size ≠ Wm11.heap.size := by have := Am11.lt; omega
   have nBA : Wm11.heap.size ≠ w.heap.size := fun e => nAB e.symm
   obtain ⟨Wm13, hWm13⟩ : ∃ W, Wm12.alloc (.cells #[.int .i64 0, .int .u32 0, .int .u32 0, .int .u32 0, .int .u32 0, .bool false, .bool false, .bool false, .bool false] 31) = W := ⟨_, rfl⟩
   have bm13 := bel_al bm12 hWm13
   have Am13 := Am12.al hWm13
   have Bm13 := Bm12.al hWm13
   have Cm13 := blk_nw hWm13
   have gC : w.heap.size ≤ Wm12.heap.size := bm12.size
   have nAC : w.heap.size ≠ Wm12.heap.size := by have := Am12.lt; omega
   have nCA : Wm12.heap.size ≠ w.heap.size := fun e => nAC e.symm
   have nBC : Wm11.heap.size ≠ Wm12.heap.size := by have := Bm12.lt; omega
   have nCB : Wm12.heap.size ≠ Wm11.heap.size := fun e => nBC e.symm
   have c14 := Bm13.cell 1 (.int .i64 s.w.pr) rfl
   go_wp2_with (refine wpList_load_blk_w (by rfl) _ _ rfl Wm11.heap.size (by rfl) _ Bm13 Try.underlying36 (by kernel_rfl) ?_)
   clear c14
   refine Calls.mono (echo1_fw s _) ?_
   rintro e Wm15 ⟨rfl, bb⟩
   have Am15 := Am13.kept bb
   have Bm15 := Bm13.kept bb
   have Cm15 := Cm13.kept bb
   have bm15 := bel_tr bm13 bb
   clear bb
   clear Am13 Bm13 Cm13 bm13
   cases hq16 : (Sm.ec s true) with
   | false =>
    obtain ⟨Wm17, hWm17⟩ : ∃ W, Wm15.setRow Wm12.heap.size cn0.v = W := ⟨_, rfl⟩
    have Cm17 : Blk Wm17 Wm12.heap.size 31 cn0.v := hWm17 ▸ Cm15.set cn0.v
    have Am17 := hWm17 ▸ Am15.other nAC cn0.v
    have Bm17 := hWm17 ▸ Bm15.other nBC cn0.v
    have bm17 := hWm17 ▸ below_setRow bm15 gC cn0.v
    go_wp2_with (refine wpList_store_row rfl _ _ _ rfl Wm12.heap.size cn0.v (by rfl) (by rfl) _ _ Cm15 (by kernel_rfl) (by rfl) (by kernel_rfl) ?_; rw [hWm17])
    have hR2 : R = ((cn0 : Cn), (23 : Int)) := by rw [← HR.out]; first | rfl | (simp [Sm.stp, Sm.g, hq5, hq10, hq16]; done)
    subst hR2
    exact ret_cell_tmp (k := 6) (j := 7) Try.f44 (by kernel_rfl) Cm17 Try.underlying31 (by kernel_rfl) (by rfl) (by rfl) rfl ⟨rfl, bm17⟩

   | true =>
    obtain ⟨Wm18, hWm18⟩ : ∃ W, Wm15.setRow Wm12.heap.size c.v = W := ⟨_, rfl⟩
    have Cm18 : Blk Wm18 Wm12.heap.size 31 c.v := hWm18 ▸ Cm15.set c.v
    have Am18 := hWm18 ▸ Am15.other nAC c.v
    have Bm18 := hWm18 ▸ Bm15.other nBC c.v
    have bm18 := hWm18 ▸ below_setRow bm15 gC c.v
    go_wp2_with (first | (refine wpList_load_blk_w (by rfl) _ _ rfl w.heap.size (by rfl) _ Am15 Try.underlying31 (by kernel_rfl) ?_) | (refine wpList_store_row rfl _ _ _ rfl Wm12.heap.size c.v (by rfl) (by rfl) _ _ Cm15 (by kernel_rfl) (by rfl) (by kernel_rfl) ?_; rw [hWm18]))
    have hR2 : R = ((c : Cn), (0 : Int)) := by rw [← HR.out]; first | rfl | (simp [Sm.stp, Sm.g, hq5, hq10, hq16]; done)
    subst hR2
    exact ret_cell_tmp (k := 6) (j := 7) Try.f44 (by kernel_rfl) Cm18 Try.underlying31 (by kernel_rfl) (by rfl) (by rfl) rfl ⟨rfl, bm18⟩


  | true =>
   obtain ⟨Wm19, hWm19⟩ : ∃ W, w.alloc (.cells c.v 31) = W := ⟨_, rfl⟩
   have bm19 := bel_nw hWm19
   have Am19 := blk_nw hWm19
   have gA : w.heap.size ≤ w.heap.size := Nat.le_refl _
   obtain ⟨Wm20, hWm20⟩ : ∃ W, Wm19.alloc (.cells s.v 36) = W := ⟨_, rfl⟩
   have bm20 := bel_al bm19 hWm20
   have Am20 := Am19.al hWm20
   have Bm20 := blk_nw hWm20
   have gB : w.heap.size ≤ Wm19.heap.size := bm19.size
   have nAB : w.heap.size ≠ Wm19.heap.size := by have := Am19.lt; omega
   have nBA : Wm19.heap.size ≠ w.heap.size := fun e => nAB e.symm
   obtain ⟨Wm21, hWm21⟩ : ∃ W, Wm20.alloc (.cells #[.int .i64 0, .int .u32 0, .int .u32 0, .int .u32 0, .int .u32 0, .bool false, .bool false, .bool false, .bool false] 31) = W := ⟨_, rfl⟩
   have bm21 := bel_al bm20 hWm21
   have Am21 := Am20.al hWm21
   have Bm21 := Bm20.al hWm21
   have Cm21 := blk_nw hWm21
   have gC : w.heap.size ≤ Wm20.heap.size := bm20.size
   have nAC : w.heap.size ≠ Wm20.heap.size := by have := Am20.lt; omega
   have nCA : Wm20.heap.size ≠ w.heap.size := fun e => nAC e.symm
   have nBC : Wm19.heap.size ≠ Wm20.heap.size := by have := Bm20.lt; omega
   have nCB : Wm20.heap.size ≠ Wm19.heap.size := fun e => nBC e.symm
   have c22 := Bm21.cell 1 (.int .i64 s.w.pr) rfl
   obtain ⟨Wm23, hWm23⟩ : ∃ W, Wm21.setRow Wm20.heap.size c.v = W := ⟨_, rfl⟩
   have Cm23 : Blk Wm23 Wm20.heap.size 31 c.v := hWm23 ▸ Cm21.set c.v
   have Am23 := hWm23 ▸ Am21.other nAC c.v
   have Bm23 := hWm23 ▸ Bm21.other nBC c.v
   have bm23 := hWm23 ▸ below_setRow bm21 gC c.v
   go_wp2_with (first | (refine wpList_load_blk_w (by rfl) _ _ rfl w.heap.size (by rfl) _ Am21 Try.underlying31 (by kernel_rfl) ?_) | (refine wpList_store_row rfl _ _ _ rfl Wm20.heap.size c.v (by rfl) (by rfl) _ _ Cm21 (by kernel_rfl) (by rfl) (by kernel_rfl) ?_; rw [hWm23]))
   have hR2 : R = ((c : Cn), (0 : Int)) := by rw [← HR.out]; first | rfl | (simp [Sm.stp, Sm.g, hq5, hq10]; done)
   subst hR2
   exact ret_cell_tmp (k := 6) (j := 7) Try.f44 (by kernel_rfl) Cm23 Try.underlying31 (by kernel_rfl) (by rfl) (by rfl) rfl ⟨rfl, bm23⟩


 | true =>
  obtain ⟨Wm24, hWm24⟩ : ∃ W, w.alloc (.cells c.v 31) = W := ⟨_, rfl⟩
  have bm24 := bel_nw hWm24
  have Am24 := blk_nw hWm24
  have gA : w.heap.size ≤ w.heap.size := Nat.le_refl _
  obtain ⟨Wm25, hWm25⟩ : ∃ W, Wm24.alloc (.cells s.v 36) = W := ⟨_, rfl⟩
  have bm25 := bel_al bm24 hWm25
  have Am25 := Am24.al hWm25
  have Bm25 := blk_nw hWm25
  have gB : w.heap.size ≤ Wm24.heap.size := bm24.size
  have nAB : w.heap.size ≠ Wm24.heap.size := by have := Am24.lt; omega
  have nBA : Wm24.heap.size ≠ w.heap.size := fun e => nAB e.symm
  obtain ⟨Wm26, hWm26⟩ : ∃ W, Wm25.alloc (.cells #[.int .i64 0, .int .u32 0, .int .u32 0, .int .u32 0, .int .u32 0, .bool false, .bool false, .bool false, .bool false] 31) = W := ⟨_, rfl⟩
  have bm26 := bel_al bm25 hWm26
  have Am26 := Am25.al hWm26
  have Bm26 := Bm25.al hWm26
  have Cm26 := blk_nw hWm26
  have gC : w.heap.size ≤ Wm25.heap.size := bm25.size
  have nAC : w.heap.size ≠ Wm25.heap.size := by have := Am25.lt; omega
  have nCA : Wm25.heap.size ≠ w.heap.size := fun e => nAC e.symm
  have nBC : Wm24.heap.size ≠ Wm25.heap.size := by have := Bm25.lt; omega
  have nCB : Wm25.heap.size ≠ Wm24.heap.size := fun e => nBC e.symm
  have c27 := Bm26.cell 1 (.int .i64 s.w.pr) rfl
  have c28 := Bm26.cell 10 (.int .i64 s.fl) rfl
  have c29 := Bm26.cell 13 (.int .i64 s.win) rfl
  have c30 := Bm26.cell 27 (.slice s.da s.dn s.dc) rfl
  have c31 := Bm26.cell 11 (.int .u32 s.sq) rfl
  have c32 := Bm26.cell 12 (.int .u32 s.ak) rfl
  go_wp2_with (refine wpList_load_blk_w (by rfl) _ _ rfl w.heap.size (by rfl) _ Am26 Try.underlying31 (by kernel_rfl) ?_)
  clear c27 c28 c29 c30 c31 c32
  refine Calls.mono (step_tc c 1 (⟨s.fl, s.win, (s.dn : Int), s.sq, s.ak⟩) _) ?_
  rintro e Wm33 ⟨rfl, bb⟩
  have Am33 := Am26.kept bb
  have Bm33 := Bm26.kept bb
  have Cm33 := Cm26.kept bb
  have bm33 := bel_tr bm26 bb
  clear bb
  clear Am26 Bm26 Cm26 bm26
  obtain ⟨Wm34, hWm34⟩ : ∃ W, Wm33.setRow Wm25.heap.size (Cn.step c 1 (⟨s.fl, s.win, (s.dn : Int), s.sq, s.ak⟩)).1.v = W := ⟨_, rfl⟩
  have Cm34 : Blk Wm34 Wm25.heap.size 31 (Cn.step c 1 (⟨s.fl, s.win, (s.dn : Int), s.sq, s.ak⟩)).1.v := hWm34 ▸ Cm33.set (Cn.step c 1 (⟨s.fl, s.win, (s.dn : Int), s.sq, s.ak⟩)).1.v
  have Am34 := hWm34 ▸ Am33.other nAC (Cn.step c 1 (⟨s.fl, s.win, (s.dn : Int), s.sq, s.ak⟩)).1.v
  have Bm34 := hWm34 ▸ Bm33.other nBC (Cn.step c 1 (⟨s.fl, s.win, (s.dn : Int), s.sq, s.ak⟩)).1.v
  have bm34 := hWm34 ▸ below_setRow bm33 gC (Cn.step c 1 (⟨s.fl, s.win, (s.dn : Int), s.sq, s.ak⟩)).1.v
  go_wp2_with (refine wpList_store_row rfl _ _ _ rfl Wm25.heap.size (Cn.step c 1 (⟨s.fl, s.win, (s.dn : Int), s.sq, s.ak⟩)).1.v (by rfl) (by rfl) _ _ Cm33 (by kernel_rfl) (by rfl) (by kernel_rfl) ?_; rw [hWm34])
  have hR2 : R = (((Cn.step c 1 (⟨s.fl, s.win, (s.dn : Int), s.sq, s.ak⟩)).1 : Cn), ((Cn.step c 1 (⟨s.fl, s.win, (s.dn : Int), s.sq, s.ak⟩)).2 : Int)) := by rw [← HR.out]; first | rfl | (simp [Sm.stp, Sm.g, hq5]; done)
  subst hR2
  exact ret_cell_tmp (k := 6) (j := 7) Try.f44 (by kernel_rfl) Cm34 Try.underlying31 (by kernel_rfl) (by rfl) (by rfl) rfl ⟨rfl, bm34⟩
end Go.Proofs.Ytfiembbmgdmagaa
