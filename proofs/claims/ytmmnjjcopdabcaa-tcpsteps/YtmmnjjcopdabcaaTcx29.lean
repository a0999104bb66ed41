/- Texts joined: TcM0N -/
import Derived.Test.YtmmnjjcopdabcaaTcx27
import Derived.Test.YtmmnjjcopdabcaaTcx28
namespace Go.Proofs.Ytmmnjjcopdabcaa
abbrev tcx29o0 : Oper := { dst := some 130, op := Op.call { callee := Callee.value (.func 27), args := #[.tmp 127, .tmp 129], argTypes := #[22, 22] }, type := 4, pos := "ref.go:121", after := #[{ on := 20, ground := Ground.data }, { on := 22, ground := Ground.data }, { on := 16, ground := Ground.chain }, { on := 16, ground := Ground.guard }], guard := some (16, false) }
abbrev tcx29o1 : Oper := { dst := some 132, op := Op.pick (.tmp 123) (.const (.bool true)) (.tmp 131), type := 4, pos := "ref.go:121", after := #[{ on := 16, ground := Ground.data }, { on := 24, ground := Ground.data }], guard := none }
abbrev tcx29o2 : Oper := { dst := some 131, op := Op.unOp UnOp.not 4 (.tmp 130), type := 4, pos := "ref.go:121", after := #[{ on := 23, ground := Ground.data }, { on := 16, ground := Ground.guard }], guard := some (16, false) }
abbrev tcx29o3 : Oper := { dst := some 126, op := Op.indexAddr 25 (.tmp 125) (.tmp 124), type := 0, pos := "ref.go:121", after := #[{ on := 18, ground := Ground.data }, { on := 17, ground := Ground.data }, { on := 16, ground := Ground.guard }], guard := some (16, false) }
abbrev tcx29o4 : Oper := { dst := some 120, op := Op.call { callee := Callee.value (.func 27), args := #[.tmp 114, .tmp 119], argTypes := #[22, 22] }, type := 4, pos := "ref.go:121", after := #[{ on := 7, ground := Ground.data }, { on := 12, ground := Ground.data }, { on := 5, ground := Ground.chain }, { on := 5, ground := Ground.guard }], guard := some (5, false) }
abbrev tcx29o5 : Oper := { dst := some 122, op := Op.pick (.tmp 112) (.const (.bool true)) (.tmp 121), type := 4, pos := "ref.go:121", after := #[{ on := 5, ground := Ground.data }, { on := 14, ground := Ground.data }], guard := none }
abbrev tcx29o6 : Oper := { dst := some 121, op := Op.unOp UnOp.not 4 (.tmp 120), type := 4, pos := "ref.go:121", after := #[{ on := 13, ground := Ground.data }, { on := 5, ground := Ground.guard }], guard := some (5, false) }
abbrev tcx29o7 : Oper := { dst := some 127, op := Op.load 22 (.tmp 126), type := 22, pos := "ref.go:121", after := #[{ on := 19, ground := Ground.data }, { on := 16, ground := Ground.guard }], guard := some (16, false) }
abbrev tcx29o8 : Oper := { dst := some 129, op := Op.load 22 (.tmp 128), type := 22, pos := "ref.go:121", after := #[{ on := 21, ground := Ground.data }, { on := 16, ground := Ground.guard }], guard := some (16, false) }
abbrev tcx29o9 : Oper := { dst := some 123, op := Op.move (.tmp 122), type := 4, pos := "ref.go:121", after := #[{ on := 15, ground := Ground.data }, { on := 13, ground := Ground.chain }], guard := none }
abbrev tcx29o10 : Oper := { dst := some 128, op := Op.fieldAddr 24 (.tmp 5) 4, type := 0, pos := "ref.go:121", after := #[{ on := 16, ground := Ground.guard }], guard := some (16, false) }
abbrev tcx29o11 : Oper := { dst := some 119, op := Op.binOp BinOp.sub 22 (.tmp 118) (.const (.int .u32 65535)) 22, type := 22, pos := "ref.go:121", after := #[{ on := 11, ground := Ground.data }, { on := 5, ground := Ground.guard }], guard := some (5, false) }
abbrev tcx29o12 : Oper := { dst := some 125, op := Op.fieldAddr 28 (.tmp 3) 1, type := 0, pos := "ref.go:121", after := #[{ on := 16, ground := Ground.guard }], guard := some (16, false) }
abbrev tcx29o13 : Oper := { dst := some 117, op := Op.indexAddr 25 (.tmp 116) (.tmp 115), type := 0, pos := "ref.go:121", after := #[{ on := 9, ground := Ground.data }, { on := 8, ground := Ground.data }, { on := 5, ground := Ground.guard }], guard := some (5, false) }
abbrev tcx29o14 : Oper := { dst := some 124, op := Op.move (.tmp 8), type := 3, pos := "ref.go:121", after := #[{ on := 16, ground := Ground.guard }], guard := some (16, false) }
abbrev tcx29o15 : Oper := { dst := some 118, op := Op.load 22 (.tmp 117), type := 22, pos := "ref.go:121", after := #[{ on := 10, ground := Ground.data }, { on := 5, ground := Ground.guard }], guard := some (5, false) }
abbrev tcx29o16 : Oper := { dst := some 114, op := Op.load 22 (.tmp 113), type := 22, pos := "ref.go:121", after := #[{ on := 6, ground := Ground.data }, { on := 5, ground := Ground.guard }], guard := some (5, false) }
abbrev tcx29o18 : Oper := { dst := some 112, op := Op.move (.tmp 111), type := 4, pos := "ref.go:121", after := #[{ on := 4, ground := Ground.data }, { on := 3, ground := Ground.chain }], guard := none }
abbrev tcx29o19 : Oper := { dst := some 113, op := Op.fieldAddr 24 (.tmp 5) 4, type := 0, pos := "ref.go:121", after := #[{ on := 5, ground := Ground.guard }], guard := some (5, false) }
abbrev tcx29o20 : Oper := { dst := some 116, op := Op.fieldAddr 28 (.tmp 3) 1, type := 0, pos := "ref.go:121", after := #[{ on := 5, ground := Ground.guard }], guard := some (5, false) }
abbrev tcx29o21 : Oper := { dst := some 111, op := Op.unOp UnOp.not 4 (.tmp 110), type := 4, pos := "ref.go:121", after := #[{ on := 3, ground := Ground.data }], guard := none }
abbrev tcx29o22 : Oper := { dst := some 115, op := Op.move (.tmp 8), type := 3, pos := "ref.go:121", after := #[{ on := 5, ground := Ground.guard }], guard := some (5, false) }
end Go.Proofs.Ytmmnjjcopdabcaa
namespace Go.Proofs.Ytmmnjjcopdabcaa
open Go.RowKit
set_option linter.unusedVariables false
set_option linter.unusedSimpArgs false
set_option maxRecDepth 100000 in
set_option maxHeartbeats 16000000 in
theorem rstep0N_tc (c : Cn) (g : Gt) (w : World) (hN : ¬ (c.right = true ∧ inB15 g.win = true ∧ inB15 g.sz = true ∧ flB g.fl 4 = false ∧ (c.st == 6) = false ∧ flB g.fl 2 = false ∧ flB g.fl 16 = true ∧ (c.st == 1) = false ∧ c.win false g = true ∧ frB g.ak ((c.n1 - 65535) % 4294967296) = true ∧ frB c.n1 g.ak = true)) :
  Calls Try.prog 19 #[.agg c.v, .int .i64 0, .agg g.v] w fun e w' => e = .returned (.tuple #[.agg (c.step 0 g).1.v, .int .i64 (c.step 0 g).2]) ∧ Below w.heap.size w w' := by
 obtain ⟨R, hR⟩ : ∃ R, c.step 0 g = R := ⟨_, rfl⟩
 have HR : Hid ((if c.right && (inB15 g.win && inB15 g.sz) then (if flB g.fl 4 then Cn.ret (if c.win false g || (false && (c.st == 1 && (flB g.fl 16 && g.ak == c.n0))) then some ⟨6, c.n0, c.n1, c.e0, c.e1, c.k0, c.k1, c.d0, c.d1⟩ else none) else if c.st == 6 then (cn0, 23) else if flB g.fl 2 then Cn.ret (c.syn false g) else if !flB g.fl 16 || (c.st == 1 || (false && c.st == 2)) then (cn0, 23) else Cn.ret (if c.win false g && (frB g.ak ((c.n1 - 65535) % 4294967296) && frB c.n1 g.ak) then some (c.byR false g.e ((g.ak + g.win) % 4294967296) (frB g.e c.n0) (frB ((g.ak + g.win) % 4294967296) c.e1) (flB g.fl 1)) else none)) else (cn0, 1)) = R) := by
  have h : (if c.right && (inB15 g.win && inB15 g.sz) then Cn.ret (c.take false g) else (cn0, 1)) = R := hR
  have k : Cn.ret (c.take false g) = (if flB g.fl 4 then Cn.ret (if c.win false g || (false && (c.st == 1 && (flB g.fl 16 && g.ak == c.n0))) then some ⟨6, c.n0, c.n1, c.e0, c.e1, c.k0, c.k1, c.d0, c.d1⟩ else none) else if c.st == 6 then (cn0, 23) else if flB g.fl 2 then Cn.ret (c.syn false g) else if !flB g.fl 16 || (c.st == 1 || (false && c.st == 2)) then (cn0, 23) else Cn.ret (if c.win false g && (frB g.ak ((c.n1 - 65535) % 4294967296) && frB c.n1 g.ak) then some (c.byR false g.e ((g.ak + g.win) % 4294967296) (frB g.e c.n0) (frB ((g.ak + g.win) % 4294967296) c.e1) (flB g.fl 1)) else none)) := by
   unfold Cn.take
   split
   ·rfl
   ·split
    ·rfl
    ·split
     ·rfl
     ·split <;> rfl
  rw [k] at h
  exact h
 rw [hR]
 clear hR
 have HN : Hid (¬ (c.right = true ∧ inB15 g.win = true ∧ inB15 g.sz = true ∧ flB g.fl 4 = false ∧ (c.st == 6) = false ∧ flB g.fl 2 = false ∧ flB g.fl 16 = true ∧ (c.st == 1) = false ∧ c.win false g = true ∧ frB g.ak ((c.n1 - 65535) % 4294967296) = true ∧ frB c.n1 g.ak = true)) := hN
 clear hN
 have KR : Hid (∀ W, Calls Try.prog 14 #[.agg c.v] W fun e w' => e = .returned (.bool c.right) ∧ Below W.heap.size W w') := fun W => rright_tc c W
 have KZ : Hid (∀ W, Calls Try.prog 22 #[.int .i64 g.sz] W fun e w' => e = .returned (.bool (inB15 g.sz)) ∧ Below W.heap.size W w') := fun W => rin_tc g.sz W
 have KV : Hid (∀ W, Calls Try.prog 22 #[.int .i64 g.win] W fun e w' => e = .returned (.bool (inB15 g.win)) ∧ Below W.heap.size W w') := fun W => rin_tc g.win W
 have KW : Hid (∀ W, Calls Try.prog 25 #[.agg c.v, .int .i64 0, .agg g.v] W fun e w' => e = .returned (.bool (c.win false g)) ∧ Below W.heap.size W w') := fun W => rwindow0_tc c g W
 have KS : Hid (∀ W, Calls Try.prog 26 #[.agg c.v, .int .i64 0, .agg g.v] W fun e w' => e = .returned (.tuple #[.agg (Cn.ret (c.syn false g)).1.v, .int .i64 (Cn.ret (c.syn false g)).2]) ∧ Below W.heap.size W w') := fun W => rsyn0_tc c g W
 have KE : Hid (∀ W, Calls Try.prog 28 #[.agg g.v] W fun e w' => e = .returned (.int .u32 g.e) ∧ Below W.heap.size W w') := fun W => rend_tc g W
 have KQ1 : Hid (∀ W, Calls Try.prog 27 #[.int .u32 (g.ak), .int .u32 ((c.n1 - 65535) % 4294967296)] W fun e w' => e = .returned (.bool (frB (g.ak) ((c.n1 - 65535) % 4294967296))) ∧ Below W.heap.size W w') := fun W => rfrom_tc _ _ W
 have KQ2 : Hid (∀ W, Calls Try.prog 27 #[.int .u32 (c.n1), .int .u32 (g.ak)] W fun e w' => e = .returned (.bool (frB (c.n1) (g.ak))) ∧ Below W.heap.size W w') := fun W => rfrom_tc _ _ W
 have KP : Hid (∀ W, Calls Try.prog 27 #[.int .u32 (g.e), .int .u32 (c.n0)] W fun e w' => e = .returned (.bool (frB (g.e) (c.n0))) ∧ Below W.heap.size W w') := fun W => rfrom_tc _ _ W
 have KO : Hid (∀ W, Calls Try.prog 27 #[.int .u32 ((g.ak + g.win) % 4294967296), .int .u32 (c.e1)] W fun e w' => e = .returned (.bool (frB ((g.ak + g.win) % 4294967296) (c.e1))) ∧ Below W.heap.size W w') := fun W => rfrom_tc _ _ W
 generalize hQ1 : frB (g.ak) ((c.n1 - 65535) % 4294967296) = Q1 at *
 clear hQ1
 generalize hQ2 : frB (c.n1) (g.ak) = Q2 at *
 clear hQ2
 generalize hP : frB (g.e) (c.n0) = P at *
 clear hP
 generalize hO : frB ((g.ak + g.win) % 4294967296) (c.e1) = O at *
 clear hO
 generalize c.right = RR at *
 generalize inB15 g.win = IW at *
 generalize inB15 g.sz = IZ at *
 generalize c.win false g = V at *
 generalize Cn.ret (c.syn false g) = XS at *
 generalize hE : g.e = E at *
 clear hE
 obtain ⟨fl, win, sz, sq, ak⟩ := g
 obtain ⟨st, n0, n1, e0, e1, k0, k1, d0, d1⟩ := c
 dsimp only at *
 have hA16 : (bits .and .i64 fl 16 != 0) = flB fl 16 := rfl
 generalize flB fl 16 = A16 at *
 have hA4 : (bits .and .i64 fl 4 != 0) = flB fl 4 := rfl
 generalize flB fl 4 = A4 at *
 have hA2 : (bits .and .i64 fl 2 != 0) = flB fl 2 := rfl
 generalize flB fl 2 = A2 at *
 have hA1 : (bits .and .i64 fl 1 != 0) = flB fl 1 := rfl
 generalize flB fl 1 = A1 at *
 generalize h6 : (st == 6) = X6 at *
 generalize h1 : (st == 1) = X1 at *
 obtain ⟨W1, hW1⟩ : ∃ W, w.alloc (.cells (Cn.v ⟨st, n0, n1, e0, e1, k0, k1, d0, d1⟩) 28) = W := ⟨_, rfl⟩
 have b1 := bel_nw hW1
 have C1 := blk_nw hW1
 have g1 := C1.lt
 obtain ⟨W2, hW2⟩ : ∃ W, W1.alloc (.cells (Gt.v ⟨fl, win, sz, sq, ak⟩) 24) = W := ⟨_, rfl⟩
 have b2 := bel_al b1 hW2
 have C2 := C1.al hW2
 have G2 := blk_nw hW2
 have g2 := G2.lt
 obtain ⟨W3, hW3⟩ : ∃ W, W2.alloc (.cells #[.int .i64 0, .int .u32 0, .int .u32 0, .int .u32 0, .int .u32 0, .bool false, .bool false, .bool false, .bool false] 28) = W := ⟨_, rfl⟩
 have b3 := bel_al b2 hW3
 have C3 := C2.al hW3
 have G3 := G2.al hW3
 have Z3 := blk_nw hW3
 have nCG : w.heap.size ≠ W1.heap.size := by omega
 have nGC : W1.heap.size ≠ w.heap.size := by omega
 have nCZ : w.heap.size ≠ W2.heap.size := by omega
 have nGZ : W1.heap.size ≠ W2.heap.size := by omega
 have nZC : W2.heap.size ≠ w.heap.size := by omega
 have gZ : w.heap.size ≤ W2.heap.size := by omega
 have gG : w.heap.size ≤ W1.heap.size := by omega
 clear b1 b2 C1 C2 G2 g1 g2
 have c0 := C3.cell 0 (.int .i64 st) rfl
 have c1 := C3.cell 1 (.int .u32 n0) rfl
 have g0 := G3.cell 0 (.int .i64 fl) rfl
 have g1 := G3.cell 1 (.int .i64 win) rfl
 have g2 := G3.cell 2 (.int .i64 sz) rfl
 have g4 := G3.cell 4 (.int .u32 ak) rfl
 go_enter Try.func19, Try.ntmps19
 go_wp2_with (first | (refine wpList_load_blk_w (by rfl) _ _ rfl w.heap.size (by rfl) _ C3 Try.underlying28 (by kernel_rfl) ?_) | (refine wpList_load_blk_w (by rfl) _ _ rfl W1.heap.size (by rfl) _ G3 Try.underlying24 (by kernel_rfl) ?_))
 clear c0 c1 g0 g1 g2 g4
 refine Calls.mono (KR.out _) ?_
 rintro e W4 ⟨rfl, bb⟩
 have C4 := C3.kept bb
 have G4 := G3.kept bb
 have Z4 := Z3.kept bb
 have b4 := bel_tr b3 bb
 clear bb
 clear C3 G3 Z3 b3
 have c0 := C4.cell 0 (.int .i64 st) rfl
 have c1 := C4.cell 1 (.int .u32 n0) rfl
 have g0 := G4.cell 0 (.int .i64 fl) rfl
 have g1 := G4.cell 1 (.int .i64 win) rfl
 have g2 := G4.cell 2 (.int .i64 sz) rfl
 have g4 := G4.cell 4 (.int .u32 ak) rfl
 cases RR with
 | false =>
  have Zf := Z4.set cn0.v
  have bf := below_setRow b4 gZ cn0.v
  go_wp2_with (refine wpList_store_row rfl _ _ _ rfl W2.heap.size cn0.v (by rfl) (by rfl) _ _ Z4 (by kernel_rfl) (by rfl) (by kernel_rfl) ?_)
  obtain rfl : (cn0, (1 : Int)) = R := by rw [← HR.out]; first | rfl | simp [Cn.ret]
  exact ret_cell_tmp (k := 6) (j := 7) Try.f19 (by kernel_rfl) Zf Try.underlying28 (by kernel_rfl) (by rfl) (by rfl) rfl ⟨rfl, bf⟩

 | true =>
  go_wp2_with (first | (refine wpList_load_blk_w (by rfl) _ _ rfl w.heap.size (by rfl) _ C4 Try.underlying28 (by kernel_rfl) ?_) | (refine wpList_load_blk_w (by rfl) _ _ rfl W1.heap.size (by rfl) _ G4 Try.underlying24 (by kernel_rfl) ?_))
  clear c0 c1 g0 g1 g2 g4
  refine Calls.mono (KV.out _) ?_
  rintro e W5 ⟨rfl, bb⟩
  have C5 := C4.kept bb
  have G5 := G4.kept bb
  have Z5 := Z4.kept bb
  have b5 := bel_tr b4 bb
  clear bb
  clear C4 G4 Z4 b4
  have c0 := C5.cell 0 (.int .i64 st) rfl
  have c1 := C5.cell 1 (.int .u32 n0) rfl
  have g0 := G5.cell 0 (.int .i64 fl) rfl
  have g1 := G5.cell 1 (.int .i64 win) rfl
  have g2 := G5.cell 2 (.int .i64 sz) rfl
  have g4 := G5.cell 4 (.int .u32 ak) rfl
  cases IW with
  | false =>
   have Zf := Z5.set cn0.v
   have bf := below_setRow b5 gZ cn0.v
   go_wp2_with (refine wpList_store_row rfl _ _ _ rfl W2.heap.size cn0.v (by rfl) (by rfl) _ _ Z5 (by kernel_rfl) (by rfl) (by kernel_rfl) ?_)
   obtain rfl : (cn0, (1 : Int)) = R := by rw [← HR.out]; first | rfl | simp [Cn.ret]
   exact ret_cell_tmp (k := 6) (j := 7) Try.f19 (by kernel_rfl) Zf Try.underlying28 (by kernel_rfl) (by rfl) (by rfl) rfl ⟨rfl, bf⟩

  | true =>
   go_wp2_with (first | (refine wpList_load_blk_w (by rfl) _ _ rfl w.heap.size (by rfl) _ C5 Try.underlying28 (by kernel_rfl) ?_) | (refine wpList_load_blk_w (by rfl) _ _ rfl W1.heap.size (by rfl) _ G5 Try.underlying24 (by kernel_rfl) ?_))
   clear c0 c1 g0 g1 g2 g4
   refine Calls.mono (KZ.out _) ?_
   rintro e W6 ⟨rfl, bb⟩
   have C6 := C5.kept bb
   have G6 := G5.kept bb
   have Z6 := Z5.kept bb
   have b6 := bel_tr b5 bb
   clear bb
   clear C5 G5 Z5 b5
   have c0 := C6.cell 0 (.int .i64 st) rfl
   have c1 := C6.cell 1 (.int .u32 n0) rfl
   have g0 := G6.cell 0 (.int .i64 fl) rfl
   have g1 := G6.cell 1 (.int .i64 win) rfl
   have g2 := G6.cell 2 (.int .i64 sz) rfl
   have g4 := G6.cell 4 (.int .u32 ak) rfl
   cases IZ with
   | false =>
    have Zf := Z6.set cn0.v
    have bf := below_setRow b6 gZ cn0.v
    go_wp2_with (refine wpList_store_row rfl _ _ _ rfl W2.heap.size cn0.v (by rfl) (by rfl) _ _ Z6 (by kernel_rfl) (by rfl) (by kernel_rfl) ?_)
    obtain rfl : (cn0, (1 : Int)) = R := by rw [← HR.out]; first | rfl | simp [Cn.ret]
    exact ret_cell_tmp (k := 6) (j := 7) Try.f19 (by kernel_rfl) Zf Try.underlying28 (by kernel_rfl) (by rfl) (by rfl) rfl ⟨rfl, bf⟩

   | true =>
    cases A4 with
    | false =>
     cases X6 with
     | false =>
      cases A2 with
      | false =>
       cases A16 with
       | false =>
        have Zf := Z6.set cn0.v
        have bf := below_setRow b6 gZ cn0.v
        go_wp2_with (refine wpList_store_row rfl _ _ _ rfl W2.heap.size cn0.v (by rfl) (by rfl) _ _ Z6 (by kernel_rfl) (by rfl) (by kernel_rfl) ?_)
        obtain rfl : (cn0, (23 : Int)) = R := by rw [← HR.out]; first | rfl | simp [Cn.ret]
        exact ret_cell_tmp (k := 6) (j := 7) Try.f19 (by kernel_rfl) Zf Try.underlying28 (by kernel_rfl) (by rfl) (by rfl) rfl ⟨rfl, bf⟩

       | true =>
        cases X1 with
        | false =>
         go_wp2_with (first | (refine wpList_load_blk_w (by rfl) _ _ rfl w.heap.size (by rfl) _ C6 Try.underlying28 (by kernel_rfl) ?_) | (refine wpList_load_blk_w (by rfl) _ _ rfl W1.heap.size (by rfl) _ G6 Try.underlying24 (by kernel_rfl) ?_))
         clear c0 c1 g0 g1 g2 g4
         have Cd := C6.drew
         have Gd := G6.drew
         have Zd := Z6.drew
         have bd := b6.drew
         refine wp_region_noPanic ?_
         refine wp_region_held_drew (S := fun w' => Blk w' w.heap.size 28 (Cn.v ⟨st, n0, n1, e0, e1, k0, k1, d0, d1⟩) ∧ Blk w' W1.heap.size 24 (Gt.v ⟨fl, win, sz, sq, ak⟩)) (by kernel_rfl) (by exact ⟨Cd, Gd⟩) (fun hHeld => ?_)
         refine qty (i := 0) (oi := { dst := some 107, op := Op.load 28 (.tmp 3), type := 28, pos := "ref.go:121", after := #[], guard := none }) (v := (.agg (Cn.v ⟨st, n0, n1, e0, e1, k0, k1, d0, d1⟩))) (yieldsIf_blk_w (by kernel_rfl) _ _ rfl w.heap.size (by rfl) _ (fun _ hSw => hSw.1) Try.underlying28 (by kernel_rfl)) hHeld ?_
         try simp only [qpu]
         refine qtk (i := 1) (oi := { dst := some 108, op := Op.move (.tmp 1), type := 3, pos := "ref.go:121", after := #[], guard := none }) (v := (.int .i64 0)) hHeld ?_ ?_
         ·intro w9 hSw
          try dsimp only at hSw
          go_simp
         try simp only [qpu]
         refine qty (i := 2) (oi := { dst := some 109, op := Op.load 24 (.tmp 5), type := 24, pos := "ref.go:121", after := #[], guard := none }) (v := (.agg (Gt.v ⟨fl, win, sz, sq, ak⟩))) (yieldsIf_blk_w (by kernel_rfl) _ _ rfl W1.heap.size (by rfl) _ (fun _ hSw => hSw.2) Try.underlying24 (by kernel_rfl)) hHeld ?_
         try simp only [qpu]
         refine wpAnyH_ready (rs := [3]) (by kernel_rfl) (by simp) ?_
         refine AllReadyH.cons (o := { dst := some 110, op := Op.call { callee := Callee.value (.func 25), args := #[.tmp 107, .tmp 108, .tmp 109], argTypes := #[28, 3, 24] }, type := 4, pos := "ref.go:121", after := #[{ on := 0, ground := Ground.data }, { on := 1, ground := Ground.data }, { on := 2, ground := Ground.data }], guard := none }) rfl (fun K hK => ?_) AllReadyH.nil
         go_simp
         refine Calls.mono (KW.out _) ?_
         rintro e Wx41 ⟨rfl, bb⟩
         have Cx41 := Cd.kept bb
         have Gx41 := Gd.kept bb
         have Zx41 := Zd.kept bb
         have bx41 := bel_tr bd bb
         clear bb
         refine hK.out _ _ (by exact ⟨Cx41, Gx41⟩) (fun hHeld => ?_)
         clear hK K
         try simp only [qpu]
         cases V with
         | false =>
          refine qtk (i := 4) (oi := tcx29o21) (v := (.bool true)) hHeld ?_ ?_
          ·intro w9 hSw
           try dsimp only at hSw
           go_simp
          try simp only [qpu]
          refine qtk (i := 5) (oi := tcx29o18) (v := (.bool true)) hHeld ?_ ?_
          ·intro w9 hSw
           try dsimp only at hSw
           go_simp
          try simp only [qpu]
          refine qtn (i := 6) (oi := tcx29o19) hHeld ?_
          try simp only [qpu]
          refine qtn (i := 7) (oi := tcx29o16) hHeld ?_
          try simp only [qpu]
          refine qtn (i := 8) (oi := tcx29o22) hHeld ?_
          try simp only [qpu]
          refine qtn (i := 9) (oi := tcx29o20) hHeld ?_
          try simp only [qpu]
          refine qtn (i := 10) (oi := tcx29o13) hHeld ?_
          try simp only [qpu]
          refine qtn (i := 11) (oi := tcx29o15) hHeld ?_
          try simp only [qpu]
          refine qtn (i := 12) (oi := tcx29o11) hHeld ?_
          try simp only [qpu]
          refine qtn (i := 13) (oi := tcx29o4) hHeld ?_
          try simp only [qpu]
          refine qtn (i := 14) (oi := tcx29o6) hHeld ?_
          try simp only [qpu]
          refine qtk (i := 15) (oi := tcx29o5) (v := (.bool true)) hHeld ?_ ?_
          ·intro w9 hSw
           try dsimp only at hSw
           go_simp
          try simp only [qpu]
          refine qtk (i := 16) (oi := tcx29o9) (v := (.bool true)) hHeld ?_ ?_
          ·intro w9 hSw
           try dsimp only at hSw
           go_simp
          try simp only [qpu]
          refine qtn (i := 17) (oi := tcx29o14) hHeld ?_
          try simp only [qpu]
          refine qtn (i := 18) (oi := tcx29o12) hHeld ?_
          try simp only [qpu]
          refine qtn (i := 19) (oi := tcx29o3) hHeld ?_
          try simp only [qpu]
          refine qtn (i := 20) (oi := tcx29o7) hHeld ?_
          try simp only [qpu]
          refine qtn (i := 21) (oi := tcx29o10) hHeld ?_
          try simp only [qpu]
          refine qtn (i := 22) (oi := tcx29o8) hHeld ?_
          try simp only [qpu]
          refine qtn (i := 23) (oi := tcx29o0) hHeld ?_
          try simp only [qpu]
          refine qtn (i := 24) (oi := tcx29o2) hHeld ?_
          try simp only [qpu]
          refine qtk (i := 25) (oi := tcx29o1) (v := (.bool true)) hHeld ?_ ?_
          ·intro w9 hSw
           try dsimp only at hSw
           go_simp
          try simp only [qpu]
          refine wpAnyH_done (by kernel_rfl) ?_ _
          refine NoPanic.normal ?_
          have Zf := Zx41.set cn0.v
          have bf := below_setRow bx41 gZ cn0.v
          go_wp2_with (refine wpList_store_row rfl _ _ _ rfl W2.heap.size cn0.v (by rfl) (by rfl) _ _ Zx41 (by kernel_rfl) (by rfl) (by kernel_rfl) ?_)
          obtain rfl : (cn0, (23 : Int)) = R := by rw [← HR.out]; first | rfl | simp [Cn.ret]
          exact ret_cell_tmp (k := 6) (j := 7) Try.f19 (by kernel_rfl) Zf Try.underlying28 (by kernel_rfl) (by rfl) (by rfl) rfl ⟨rfl, bf⟩

         | true =>
          refine qtk (i := 4) (oi := tcx29o21) (v := (.bool false)) hHeld ?_ ?_
          ·intro w9 hSw
           try dsimp only at hSw
           go_simp
          try simp only [qpu]
          refine qtk (i := 5) (oi := tcx29o18) (v := (.bool false)) hHeld ?_ ?_
          ·intro w9 hSw
           try dsimp only at hSw
           go_simp
          try simp only [qpu]
          refine qtk (i := 6) (oi := tcx29o19) (v := (.pointer (some ⟨W1.heap.size, 4, none⟩))) hHeld ?_ ?_
          ·intro w9 hSw
           try dsimp only at hSw
           go_simp
          try simp only [qpu]
          refine qtk (i := 7) (oi := tcx29o16) (v := (.int .u32 ak)) hHeld ?_ ?_
          ·intro w9 hSw
           try dsimp only at hSw
           have hcc := hSw.2.cell 4 (.int .u32 ak) rfl
           go_simp
          try simp only [qpu]
          refine qtk (i := 8) (oi := tcx29o22) (v := (.int .i64 1)) hHeld ?_ ?_
          ·intro w9 hSw
           try dsimp only at hSw
           go_simp
          try simp only [qpu]
          refine qtk (i := 9) (oi := tcx29o20) (v := (.pointer (some ⟨w.heap.size, 1, none⟩))) hHeld ?_ ?_
          ·intro w9 hSw
           try dsimp only at hSw
           go_simp
          try simp only [qpu]
          refine qtk (i := 10) (oi := tcx29o13) (v := (.pointer (some ⟨w.heap.size, 2, none⟩))) hHeld ?_ ?_
          ·intro w9 hSw
           try dsimp only at hSw
           go_simp
          try simp only [qpu]
          refine qtk (i := 11) (oi := tcx29o15) (v := (.int .u32 n1)) hHeld ?_ ?_
          ·intro w9 hSw
           try dsimp only at hSw
           have hcc := hSw.1.cell 2 (.int .u32 n1) rfl
           go_simp
          try simp only [qpu]
          refine qtk (i := 12) (oi := tcx29o11) (v := (.int .u32 ((n1 - 65535) % 4294967296))) hHeld ?_ ?_
          ·intro w9 hSw
           try dsimp only at hSw
           go_simp
           try rw [IntKind.wrap_u32]
          try simp only [qpu]
          refine wpAnyH_ready (rs := [13]) (by kernel_rfl) (by simp) ?_
          refine AllReadyH.cons (o := tcx29o4) rfl (fun K hK => ?_) AllReadyH.nil
          go_simp
          refine Calls.mono (KQ1.out _) ?_
          rintro e Wx42 ⟨rfl, bb⟩
          have Cx42 := Cx41.kept bb
          have Gx42 := Gx41.kept bb
          have Zx42 := Zx41.kept bb
          have bx42 := bel_tr bx41 bb
          clear bb
          refine hK.out _ _ (by exact ⟨Cx42, Gx42⟩) (fun hHeld => ?_)
          clear hK K
          try simp only [qpu]
          cases Q1 with
          | false =>
           refine qtk (i := 14) (oi := tcx29o6) (v := (.bool true)) hHeld ?_ ?_
           ·intro w9 hSw
            try dsimp only at hSw
            go_simp
           try simp only [qpu]
           refine qtk (i := 15) (oi := tcx29o5) (v := (.bool true)) hHeld ?_ ?_
           ·intro w9 hSw
            try dsimp only at hSw
            go_simp
           try simp only [qpu]
           refine qtk (i := 16) (oi := tcx29o9) (v := (.bool true)) hHeld ?_ ?_
           ·intro w9 hSw
            try dsimp only at hSw
            go_simp
           try simp only [qpu]
           refine qtn (i := 17) (oi := tcx29o14) hHeld ?_
           try simp only [qpu]
           refine qtn (i := 18) (oi := tcx29o12) hHeld ?_
           try simp only [qpu]
           refine qtn (i := 19) (oi := tcx29o3) hHeld ?_
           try simp only [qpu]
           refine qtn (i := 20) (oi := tcx29o7) hHeld ?_
           try simp only [qpu]
           refine qtn (i := 21) (oi := tcx29o10) hHeld ?_
           try simp only [qpu]
           refine qtn (i := 22) (oi := tcx29o8) hHeld ?_
           try simp only [qpu]
           refine qtn (i := 23) (oi := tcx29o0) hHeld ?_
           try simp only [qpu]
           refine qtn (i := 24) (oi := tcx29o2) hHeld ?_
           try simp only [qpu]
           refine qtk (i := 25) (oi := tcx29o1) (v := (.bool true)) hHeld ?_ ?_
           ·intro w9 hSw
            try dsimp only at hSw
            go_simp
           try simp only [qpu]
           refine wpAnyH_done (by kernel_rfl) ?_ _
           refine NoPanic.normal ?_
           have Zf := Zx42.set cn0.v
           have bf := below_setRow bx42 gZ cn0.v
           go_wp2_with (refine wpList_store_row rfl _ _ _ rfl W2.heap.size cn0.v (by rfl) (by rfl) _ _ Zx42 (by kernel_rfl) (by rfl) (by kernel_rfl) ?_)
           obtain rfl : (cn0, (23 : Int)) = R := by rw [← HR.out]; first | rfl | simp [Cn.ret]
           exact ret_cell_tmp (k := 6) (j := 7) Try.f19 (by kernel_rfl) Zf Try.underlying28 (by kernel_rfl) (by rfl) (by rfl) rfl ⟨rfl, bf⟩

          | true =>
           refine qtk (i := 14) (oi := tcx29o6) (v := (.bool false)) hHeld ?_ ?_
           ·intro w9 hSw
            try dsimp only at hSw
            go_simp
           try simp only [qpu]
           refine qtk (i := 15) (oi := tcx29o5) (v := (.bool false)) hHeld ?_ ?_
           ·intro w9 hSw
            try dsimp only at hSw
            go_simp
           try simp only [qpu]
           refine qtk (i := 16) (oi := tcx29o9) (v := (.bool false)) hHeld ?_ ?_
           ·intro w9 hSw
            try dsimp only at hSw
            go_simp
           try simp only [qpu]
           refine qtk (i := 17) (oi := tcx29o14) (v := (.int .i64 1)) hHeld ?_ ?_
           ·intro w9 hSw
            try dsimp only at hSw
            go_simp
           try simp only [qpu]
           refine qtk (i := 18) (oi := tcx29o12) (v := (.pointer (some ⟨w.heap.size, 1, none⟩))) hHeld ?_ ?_
           ·intro w9 hSw
            try dsimp only at hSw
            go_simp
           try simp only [qpu]
           refine qtk (i := 19) (oi := tcx29o3) (v := (.pointer (some ⟨w.heap.size, 2, none⟩))) hHeld ?_ ?_
           ·intro w9 hSw
            try dsimp only at hSw
            go_simp
           try simp only [qpu]
           refine qtk (i := 20) (oi := tcx29o7) (v := (.int .u32 n1)) hHeld ?_ ?_
           ·intro w9 hSw
            try dsimp only at hSw
            have hcc := hSw.1.cell 2 (.int .u32 n1) rfl
            go_simp
           try simp only [qpu]
           refine qtk (i := 21) (oi := tcx29o10) (v := (.pointer (some ⟨W1.heap.size, 4, none⟩))) hHeld ?_ ?_
           ·intro w9 hSw
            try dsimp only at hSw
            go_simp
           try simp only [qpu]
           refine qtk (i := 22) (oi := tcx29o8) (v := (.int .u32 ak)) hHeld ?_ ?_
           ·intro w9 hSw
            try dsimp only at hSw
            have hcc := hSw.2.cell 4 (.int .u32 ak) rfl
            go_simp
           try simp only [qpu]
           refine wpAnyH_ready (rs := [23]) (by kernel_rfl) (by simp) ?_
           refine AllReadyH.cons (o := tcx29o0) rfl (fun K hK => ?_) AllReadyH.nil
           go_simp
           refine Calls.mono (KQ2.out _) ?_
           rintro e Wx43 ⟨rfl, bb⟩
           have Cx43 := Cx42.kept bb
           have Gx43 := Gx42.kept bb
           have Zx43 := Zx42.kept bb
           have bx43 := bel_tr bx42 bb
           clear bb
           refine hK.out _ _ (by exact ⟨Cx43, Gx43⟩) (fun hHeld => ?_)
           clear hK K
           try simp only [qpu]
           cases Q2 with
           | false =>
            refine qtk (i := 24) (oi := tcx29o2) (v := (.bool true)) hHeld ?_ ?_
            ·intro w9 hSw
             try dsimp only at hSw
             go_simp
            try simp only [qpu]
            refine qtk (i := 25) (oi := tcx29o1) (v := (.bool true)) hHeld ?_ ?_
            ·intro w9 hSw
             try dsimp only at hSw
             go_simp
            try simp only [qpu]
            refine wpAnyH_done (by kernel_rfl) ?_ _
            refine NoPanic.normal ?_
            have Zf := Zx43.set cn0.v
            have bf := below_setRow bx43 gZ cn0.v
            go_wp2_with (refine wpList_store_row rfl _ _ _ rfl W2.heap.size cn0.v (by rfl) (by rfl) _ _ Zx43 (by kernel_rfl) (by rfl) (by kernel_rfl) ?_)
            obtain rfl : (cn0, (23 : Int)) = R := by rw [← HR.out]; first | rfl | simp [Cn.ret]
            exact ret_cell_tmp (k := 6) (j := 7) Try.f19 (by kernel_rfl) Zf Try.underlying28 (by kernel_rfl) (by rfl) (by rfl) rfl ⟨rfl, bf⟩

           | true =>
            refine qtk (i := 24) (oi := tcx29o2) (v := (.bool false)) hHeld ?_ ?_
            ·intro w9 hSw
             try dsimp only at hSw
             go_simp
            try simp only [qpu]
            refine qtk (i := 25) (oi := tcx29o1) (v := (.bool false)) hHeld ?_ ?_
            ·intro w9 hSw
             try dsimp only at hSw
             go_simp
            try simp only [qpu]
            refine wpAnyH_done (by kernel_rfl) ?_ _
            refine NoPanic.normal ?_
            exact (HN.out (by simp)).elim




        | true =>
         have Zf := Z6.set cn0.v
         have bf := below_setRow b6 gZ cn0.v
         go_wp2_with (refine wpList_store_row rfl _ _ _ rfl W2.heap.size cn0.v (by rfl) (by rfl) _ _ Z6 (by kernel_rfl) (by rfl) (by kernel_rfl) ?_)
         obtain rfl : (cn0, (23 : Int)) = R := by rw [← HR.out]; first | rfl | simp [Cn.ret]
         exact ret_cell_tmp (k := 6) (j := 7) Try.f19 (by kernel_rfl) Zf Try.underlying28 (by kernel_rfl) (by rfl) (by rfl) rfl ⟨rfl, bf⟩



      | true =>
       go_wp2_with (first | (refine wpList_load_blk_w (by rfl) _ _ rfl w.heap.size (by rfl) _ C6 Try.underlying28 (by kernel_rfl) ?_) | (refine wpList_load_blk_w (by rfl) _ _ rfl W1.heap.size (by rfl) _ G6 Try.underlying24 (by kernel_rfl) ?_))
       clear c0 c1 g0 g1 g2 g4
       refine Calls.mono (KS.out _) ?_
       rintro e W6y ⟨rfl, bb⟩
       have C6y := C6.kept bb
       have G6y := G6.kept bb
       have Z6y := Z6.kept bb
       have b6y := bel_tr b6 bb
       clear bb
       clear C6 G6 Z6 b6
       have Zf := Z6y.set XS.1.v
       have bf := below_setRow b6y gZ XS.1.v
       go_wp2_with (first | (refine wpList_load_blk_w (by rfl) _ _ rfl w.heap.size (by rfl) _ C6y Try.underlying28 (by kernel_rfl) ?_) | (refine wpList_load_blk_w (by rfl) _ _ rfl W1.heap.size (by rfl) _ G6y Try.underlying24 (by kernel_rfl) ?_) | (refine wpList_store_row rfl _ _ _ rfl W2.heap.size XS.1.v (by rfl) (by rfl) _ _ Z6y (by kernel_rfl) (by rfl) (by kernel_rfl) ?_))
       obtain rfl : XS = R := by rw [← HR.out]; first | rfl | simp [Cn.ret]
       exact ret_cell_tmp (k := 6) (j := 7) Try.f19 (by kernel_rfl) Zf Try.underlying28 (by kernel_rfl) (by rfl) (by rfl) rfl ⟨rfl, bf⟩


     | true =>
      have Zf := Z6.set cn0.v
      have bf := below_setRow b6 gZ cn0.v
      go_wp2_with (refine wpList_store_row rfl _ _ _ rfl W2.heap.size cn0.v (by rfl) (by rfl) _ _ Z6 (by kernel_rfl) (by rfl) (by kernel_rfl) ?_)
      obtain rfl : (cn0, (23 : Int)) = R := by rw [← HR.out]; first | rfl | simp [Cn.ret]
      exact ret_cell_tmp (k := 6) (j := 7) Try.f19 (by kernel_rfl) Zf Try.underlying28 (by kernel_rfl) (by rfl) (by rfl) rfl ⟨rfl, bf⟩


    | true =>
     go_wp2_with (first | (refine wpList_load_blk_w (by rfl) _ _ rfl w.heap.size (by rfl) _ C6 Try.underlying28 (by kernel_rfl) ?_) | (refine wpList_load_blk_w (by rfl) _ _ rfl W1.heap.size (by rfl) _ G6 Try.underlying24 (by kernel_rfl) ?_))
     clear c0 c1 g0 g1 g2 g4
     refine Calls.mono (KW.out _) ?_
     rintro e W6a ⟨rfl, bb⟩
     have C6a := C6.kept bb
     have G6a := G6.kept bb
     have Z6a := Z6.kept bb
     have b6a := bel_tr b6 bb
     clear bb
     clear C6 G6 Z6 b6
     have c0 := C6a.cell 0 (.int .i64 st) rfl
     have c1 := C6a.cell 1 (.int .u32 n0) rfl
     have g0 := G6a.cell 0 (.int .i64 fl) rfl
     have g1 := G6a.cell 1 (.int .i64 win) rfl
     have g2 := G6a.cell 2 (.int .i64 sz) rfl
     have g4 := G6a.cell 4 (.int .u32 ak) rfl
     cases V with
     | false =>
      have Zf := Z6a.set cn0.v
      have bf := below_setRow b6a gZ cn0.v
      go_wp2_with (refine wpList_store_row rfl _ _ _ rfl W2.heap.size cn0.v (by rfl) (by rfl) _ _ Z6a (by kernel_rfl) (by rfl) (by kernel_rfl) ?_)
      obtain rfl : (cn0, (23 : Int)) = R := by rw [← HR.out]; first | rfl | simp [Cn.ret]
      exact ret_cell_tmp (k := 6) (j := 7) Try.f19 (by kernel_rfl) Zf Try.underlying28 (by kernel_rfl) (by rfl) (by rfl) rfl ⟨rfl, bf⟩

     | true =>
      have y0 := C6a.cell 0 (.int .i64 st) rfl
      have z0 := C6a.frozen 0
      obtain ⟨W6ar, hW6ar⟩ : ∃ W, W6a.setCell ⟨w.heap.size, 0, none⟩ (.int .i64 6) = W := ⟨_, rfl⟩
      have C6ar : Blk W6ar w.heap.size 28 (Cn.v ⟨6, n0, n1, e0, e1, k0, k1, d0, d1⟩) := hW6ar ▸ C6a.put 0 (.int .i64 6)
      have G6ar := hW6ar ▸ G6a.put_other C6a nGC 0 (.int .i64 6)
      have Z6ar := hW6ar ▸ Z6a.put_other C6a nZC 0 (.int .i64 6)
      have b6ar := hW6ar ▸ b6a.setCell (p := ⟨w.heap.size, 0, none⟩) (Nat.le_refl _) (.int .i64 6)
      have Zf := Z6ar.set (Cn.v ⟨6, n0, n1, e0, e1, k0, k1, d0, d1⟩)
      have bf := below_setRow b6ar gZ (Cn.v ⟨6, n0, n1, e0, e1, k0, k1, d0, d1⟩)
      go_wp2_with (first | (refine wpList_load_blk_w (by rfl) _ _ rfl w.heap.size (by rfl) _ C6ar Try.underlying28 (by kernel_rfl) ?_) | (refine wpList_load_blk_w (by rfl) _ _ rfl W1.heap.size (by rfl) _ G6ar Try.underlying24 (by kernel_rfl) ?_) | (refine wpList_store_row rfl _ _ _ rfl W2.heap.size (Cn.v ⟨6, n0, n1, e0, e1, k0, k1, d0, d1⟩) (by rfl) (by rfl) _ _ Z6ar (by kernel_rfl) (by rfl) (by kernel_rfl) ?_))
      obtain rfl : ((⟨6, n0, n1, e0, e1, k0, k1, d0, d1⟩ : Cn), (0 : Int)) = R := by rw [← HR.out]; first | rfl | simp [Cn.ret]
      exact ret_cell_tmp (k := 6) (j := 7) Try.f19 (by kernel_rfl) Zf Try.underlying28 (by kernel_rfl) (by rfl) (by rfl) rfl ⟨rfl, bf⟩
end Go.Proofs.Ytmmnjjcopdabcaa
