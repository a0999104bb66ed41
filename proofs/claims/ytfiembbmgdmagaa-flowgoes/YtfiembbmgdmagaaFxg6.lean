/- Texts joined: TcM0ff TcM0ft TcM0tf TcM0tt TcM0 -/
import Derived.Test.YtfiembbmgdmagaaFxg5
namespace Go.Proofs.Ytfiembbmgdmagaa
abbrev fxg6o0 : Oper := { dst := some 130, op := Op.call { callee := Callee.value (.func 71), args := #[.tmp 127, .tmp 129], argTypes := #[27, 27] }, type := 4, pos := "ref.go:121", after := #[{ on := 20, ground := Ground.data }, { on := 22, ground := Ground.data }, { on := 16, ground := Ground.chain }, { on := 16, ground := Ground.guard }], guard := some (16, false) }
abbrev fxg6o1 : Oper := { dst := some 120, op := Op.call { callee := Callee.value (.func 71), args := #[.tmp 114, .tmp 119], argTypes := #[27, 27] }, type := 4, pos := "ref.go:121", after := #[{ on := 7, ground := Ground.data }, { on := 12, ground := Ground.data }, { on := 5, ground := Ground.chain }, { on := 5, ground := Ground.guard }], guard := some (5, false) }
abbrev fxg6o2 : Oper := { dst := some 110, op := Op.call { callee := Callee.value (.func 69), args := #[.tmp 107, .tmp 108, .tmp 109], argTypes := #[31, 3, 96] }, type := 4, pos := "ref.go:121", after := #[{ on := 0, ground := Ground.data }, { on := 1, ground := Ground.data }, { on := 2, ground := Ground.data }], guard := none }
abbrev fxg6o3 : Oper := { dst := some 140, op := Op.call { callee := Callee.value (.func 71), args := #[.tmp 135, .tmp 139], argTypes := #[27, 27] }, type := 4, pos := "ref.go:124", after := #[{ on := 1, ground := Ground.data }, { on := 5, ground := Ground.data }, { on := 1, ground := Ground.chain }], guard := none }
abbrev fxg6o4 : Oper := { dst := some 119, op := Op.binOp BinOp.sub 27 (.tmp 118) (.const (.int .u32 65535)) 27, type := 27, pos := "ref.go:121", after := #[{ on := 11, ground := Ground.data }, { on := 5, ground := Ground.guard }], guard := some (5, false) }
abbrev fxg6o5 : Oper := { dst := some 126, op := Op.indexAddr 28 (.tmp 125) (.tmp 124), type := 0, pos := "ref.go:121", after := #[{ on := 18, ground := Ground.data }, { on := 17, ground := Ground.data }, { on := 16, ground := Ground.guard }], guard := some (16, false) }
abbrev fxg6o6 : Oper := { dst := some 135, op := Op.call { callee := Callee.value (.func 72), args := #[.tmp 134], argTypes := #[96] }, type := 27, pos := "ref.go:124", after := #[{ on := 0, ground := Ground.data }], guard := none }
abbrev fxg6o7 : Oper := { dst := some 117, op := Op.indexAddr 28 (.tmp 116) (.tmp 115), type := 0, pos := "ref.go:121", after := #[{ on := 9, ground := Ground.data }, { on := 8, ground := Ground.data }, { on := 5, ground := Ground.guard }], guard := some (5, false) }
abbrev fxg6o8 : Oper := { dst := some 132, op := Op.pick (.tmp 123) (.const (.bool true)) (.tmp 131), type := 4, pos := "ref.go:121", after := #[{ on := 16, ground := Ground.data }, { on := 24, ground := Ground.data }], guard := none }
abbrev fxg6o9 : Oper := { dst := some 122, op := Op.pick (.tmp 112) (.const (.bool true)) (.tmp 121), type := 4, pos := "ref.go:121", after := #[{ on := 5, ground := Ground.data }, { on := 14, ground := Ground.data }], guard := none }
abbrev fxg6o10 : Oper := { dst := some 131, op := Op.unOp UnOp.not 4 (.tmp 130), type := 4, pos := "ref.go:121", after := #[{ on := 23, ground := Ground.data }, { on := 16, ground := Ground.guard }], guard := some (16, false) }
abbrev fxg6o11 : Oper := { dst := some 121, op := Op.unOp UnOp.not 4 (.tmp 120), type := 4, pos := "ref.go:121", after := #[{ on := 13, ground := Ground.data }, { on := 5, ground := Ground.guard }], guard := some (5, false) }
abbrev fxg6o12 : Oper := { dst := some 127, op := Op.load 27 (.tmp 126), type := 27, pos := "ref.go:121", after := #[{ on := 19, ground := Ground.data }, { on := 16, ground := Ground.guard }], guard := some (16, false) }
abbrev fxg6o13 : Oper := { dst := some 129, op := Op.load 27 (.tmp 128), type := 27, pos := "ref.go:121", after := #[{ on := 21, ground := Ground.data }, { on := 16, ground := Ground.guard }], guard := some (16, false) }
abbrev fxg6o14 : Oper := { dst := some 118, op := Op.load 27 (.tmp 117), type := 27, pos := "ref.go:121", after := #[{ on := 10, ground := Ground.data }, { on := 5, ground := Ground.guard }], guard := some (5, false) }
abbrev fxg6o15 : Oper := { dst := some 114, op := Op.load 27 (.tmp 113), type := 27, pos := "ref.go:121", after := #[{ on := 6, ground := Ground.data }, { on := 5, ground := Ground.guard }], guard := some (5, false) }
abbrev fxg6o16 : Oper := { dst := some 138, op := Op.indexAddr 28 (.tmp 137) (.tmp 136), type := 0, pos := "ref.go:124", after := #[{ on := 3, ground := Ground.data }, { on := 2, ground := Ground.data }], guard := none }
abbrev fxg6o17 : Oper := { dst := some 123, op := Op.move (.tmp 122), type := 4, pos := "ref.go:121", after := #[{ on := 15, ground := Ground.data }, { on := 13, ground := Ground.chain }], guard := none }
abbrev fxg6o18 : Oper := { dst := some 128, op := Op.fieldAddr 96 (.tmp 5) 4, type := 0, pos := "ref.go:121", after := #[{ on := 16, ground := Ground.guard }], guard := some (16, false) }
abbrev fxg6o19 : Oper := { dst := some 112, op := Op.move (.tmp 111), type := 4, pos := "ref.go:121", after := #[{ on := 4, ground := Ground.data }, { on := 3, ground := Ground.chain }], guard := none }
abbrev fxg6o20 : Oper := { dst := some 113, op := Op.fieldAddr 96 (.tmp 5) 4, type := 0, pos := "ref.go:121", after := #[{ on := 5, ground := Ground.guard }], guard := some (5, false) }
abbrev fxg6o21 : Oper := { dst := some 125, op := Op.fieldAddr 31 (.tmp 3) 1, type := 0, pos := "ref.go:121", after := #[{ on := 16, ground := Ground.guard }], guard := some (16, false) }
abbrev fxg6o22 : Oper := { dst := some 116, op := Op.fieldAddr 31 (.tmp 3) 1, type := 0, pos := "ref.go:121", after := #[{ on := 5, ground := Ground.guard }], guard := some (5, false) }
abbrev fxg6o23 : Oper := { dst := some 111, op := Op.unOp UnOp.not 4 (.tmp 110), type := 4, pos := "ref.go:121", after := #[{ on := 3, ground := Ground.data }], guard := none }
abbrev fxg6o24 : Oper := { dst := some 139, op := Op.load 27 (.tmp 138), type := 27, pos := "ref.go:124", after := #[{ on := 4, ground := Ground.data }], guard := none }
abbrev fxg6o25 : Oper := { dst := some 124, op := Op.move (.tmp 8), type := 3, pos := "ref.go:121", after := #[{ on := 16, ground := Ground.guard }], guard := some (16, false) }
abbrev fxg6o26 : Oper := { dst := some 115, op := Op.move (.tmp 8), type := 3, pos := "ref.go:121", after := #[{ on := 5, ground := Ground.guard }], guard := some (5, false) }
abbrev fxg6o27 : Oper := { dst := some 109, op := Op.load 96 (.tmp 5), type := 96, pos := "ref.go:121", after := #[], guard := none }
abbrev fxg6o28 : Oper := { dst := some 134, op := Op.load 96 (.tmp 5), type := 96, pos := "ref.go:124", after := #[], guard := none }
abbrev fxg6o29 : Oper := { dst := some 107, op := Op.load 31 (.tmp 3), type := 31, pos := "ref.go:121", after := #[], guard := none }
abbrev fxg6o30 : Oper := { dst := some 137, op := Op.fieldAddr 31 (.tmp 3) 1, type := 0, pos := "ref.go:124", after := #[], guard := none }
abbrev fxg6o31 : Oper := { dst := some 108, op := Op.move (.tmp 1), type := 3, pos := "ref.go:121", after := #[], guard := none }
abbrev fxg6o32 : Oper := { dst := some 136, op := Op.move (.tmp 1), type := 3, pos := "ref.go:124", after := #[], guard := none }
end Go.Proofs.Ytfiembbmgdmagaa
namespace Go.Proofs.Ytfiembbmgdmagaa
open Go.RowKit
set_option linter.unusedVariables false
set_option linter.unusedSimpArgs false
set_option maxRecDepth 100000 in
set_option maxHeartbeats 4000000 in
theorem rstep0ff_tc (c : Cn) (g : Gt) (w : World) (qRR : c.right = true) (qIW : inB15 g.win = true) (qIZ : inB15 g.sz = true) (qA4 : flB g.fl 4 = false) (qX6 : (c.st == 6) = false) (qA2 : flB g.fl 2 = false) (qA16 : flB g.fl 16 = true) (qX1 : (c.st == 1) = false) (qV : c.win false g = true) (qQ1 : frB g.ak ((c.n1 - 65535) % 4294967296) = true) (qQ2 : frB c.n1 g.ak = true) (qP : frB g.e c.n0 = false) (qO : frB ((g.ak + g.win) % 4294967296) c.e1 = false) :
  Calls Try.prog 46 #[.agg c.v, .int .i64 0, .agg g.v] w fun e w' => e = .returned (.tuple #[.agg (c.step 0 g).1.v, .int .i64 (c.step 0 g).2]) ∧ Below w.heap.size w w' := by
 obtain ⟨R, hR⟩ : ∃ R, c.step 0 g = R := ⟨_, rfl⟩
 have HR : Hid ((if c.right && (inB15 g.win && inB15 g.sz) then (if flB g.fl 4 then Cn.ret (if c.win false g || (false && (c.st == 1 && (flB g.fl 16 && g.ak == c.n0))) then some ⟨6, c.n0, c.n1, c.e0, c.e1, c.k0, c.k1, c.d0, c.d1⟩ else none) else if c.st == 6 then (cn0, 23) else if flB g.fl 2 then Cn.ret (c.syn false g) else if !flB g.fl 16 || (c.st == 1 || (false && c.st == 2)) then (cn0, 23) else Cn.ret (if c.win false g && (frB g.ak ((c.n1 - 65535) % 4294967296) && frB c.n1 g.ak) then some (c.byR false g.e ((g.ak + g.win) % 4294967296) (frB g.e c.n0) (frB ((g.ak + g.win) % 4294967296) c.e1) (flB g.fl 1)) else none)) else (cn0, 1)) = R) := by
  have h : (if c.right && (inB15 g.win && inB15 g.sz) then Cn.ret (c.take false g) else (cn0, 1)) = R := hR
  have k : Cn.ret (c.take false g) = (if flB g.fl 4 then Cn.ret (if c.win false g || (false && (c.st == 1 && (flB g.fl 16 && g.ak == c.n0))) then some ⟨6, c.n0, c.n1, c.e0, c.e1, c.k0, c.k1, c.d0, c.d1⟩ else none) else if c.st == 6 then (cn0, 23) else if flB g.fl 2 then Cn.ret (c.syn false g) else if !flB g.fl 16 || (c.st == 1 || (false && c.st == 2)) then (cn0, 23) else Cn.ret (if c.win false g && (frB g.ak ((c.n1 - 65535) % 4294967296) && frB c.n1 g.ak) then some (c.byR false g.e ((g.ak + g.win) % 4294967296) (frB g.e c.n0) (frB ((g.ak + g.win) % 4294967296) c.e1) (flB g.fl 1)) else none)) := by
   unfold Cn.take
   split
   ·rfl
   ·split
    ·rfl
    ·split
     ·rfl
     ·split <;> rfl
  rw [k] at h
  exact h
 rw [hR]
 clear hR
 have KR : Hid (∀ W, Calls Try.prog 41 #[.agg c.v] W fun e w' => e = .returned (.bool c.right) ∧ Below W.heap.size W w') := fun W => rright_tc c W
 have KZ : Hid (∀ W, Calls Try.prog 65 #[.int .i64 g.sz] W fun e w' => e = .returned (.bool (inB15 g.sz)) ∧ Below W.heap.size W w') := fun W => rin_tc g.sz W
 have KV : Hid (∀ W, Calls Try.prog 65 #[.int .i64 g.win] W fun e w' => e = .returned (.bool (inB15 g.win)) ∧ Below W.heap.size W w') := fun W => rin_tc g.win W
 have KW : Hid (∀ W, Calls Try.prog 69 #[.agg c.v, .int .i64 0, .agg g.v] W fun e w' => e = .returned (.bool (c.win false g)) ∧ Below W.heap.size W w') := fun W => rwindow0_tc c g W
 have KS : Hid (∀ W, Calls Try.prog 70 #[.agg c.v, .int .i64 0, .agg g.v] W fun e w' => e = .returned (.tuple #[.agg (Cn.ret (c.syn false g)).1.v, .int .i64 (Cn.ret (c.syn false g)).2]) ∧ Below W.heap.size W w') := fun W => rsyn0_tc c g W
 have KE : Hid (∀ W, Calls Try.prog 72 #[.agg g.v] W fun e w' => e = .returned (.int .u32 g.e) ∧ Below W.heap.size W w') := fun W => rend_tc g W
 have KQ1 : Hid (∀ W, Calls Try.prog 71 #[.int .u32 (g.ak), .int .u32 ((c.n1 - 65535) % 4294967296)] W fun e w' => e = .returned (.bool (frB (g.ak) ((c.n1 - 65535) % 4294967296))) ∧ Below W.heap.size W w') := fun W => rfrom_tc _ _ W
 have KQ2 : Hid (∀ W, Calls Try.prog 71 #[.int .u32 (c.n1), .int .u32 (g.ak)] W fun e w' => e = .returned (.bool (frB (c.n1) (g.ak))) ∧ Below W.heap.size W w') := fun W => rfrom_tc _ _ W
 have KP : Hid (∀ W, Calls Try.prog 71 #[.int .u32 (g.e), .int .u32 (c.n0)] W fun e w' => e = .returned (.bool (frB (g.e) (c.n0))) ∧ Below W.heap.size W w') := fun W => rfrom_tc _ _ W
 have KO : Hid (∀ W, Calls Try.prog 71 #[.int .u32 ((g.ak + g.win) % 4294967296), .int .u32 (c.e1)] W fun e w' => e = .returned (.bool (frB ((g.ak + g.win) % 4294967296) (c.e1))) ∧ Below W.heap.size W w') := fun W => rfrom_tc _ _ W
 generalize hQ1 : frB (g.ak) ((c.n1 - 65535) % 4294967296) = Q1 at *
 clear hQ1
 generalize hQ2 : frB (c.n1) (g.ak) = Q2 at *
 clear hQ2
 generalize hP : frB (g.e) (c.n0) = P at *
 clear hP
 generalize hO : frB ((g.ak + g.win) % 4294967296) (c.e1) = O at *
 clear hO
 generalize c.right = RR at *
 generalize inB15 g.win = IW at *
 generalize inB15 g.sz = IZ at *
 generalize c.win false g = V at *
 generalize Cn.ret (c.syn false g) = XS at *
 generalize hE : g.e = E at *
 clear hE
 obtain ⟨fl, win, sz, sq, ak⟩ := g
 obtain ⟨st, n0, n1, e0, e1, k0, k1, d0, d1⟩ := c
 dsimp only at *
 have hA16 : (bits .and .i64 fl 16 != 0) = flB fl 16 := rfl
 generalize flB fl 16 = A16 at *
 have hA4 : (bits .and .i64 fl 4 != 0) = flB fl 4 := rfl
 generalize flB fl 4 = A4 at *
 have hA2 : (bits .and .i64 fl 2 != 0) = flB fl 2 := rfl
 generalize flB fl 2 = A2 at *
 have hA1 : (bits .and .i64 fl 1 != 0) = flB fl 1 := rfl
 generalize flB fl 1 = A1 at *
 generalize h6 : (st == 6) = X6 at *
 generalize h1 : (st == 1) = X1 at *
 subst qRR qIW qIZ qA4 qX6 qA2 qA16 qX1 qV qQ1 qQ2 qP qO
 obtain ⟨W1, hW1⟩ : ∃ W, w.alloc (.cells (Cn.v ⟨st, n0, n1, e0, e1, k0, k1, d0, d1⟩) 31) = W := ⟨_, rfl⟩
 have b1 := bel_nw hW1
 have C1 := blk_nw hW1
 have g1 := C1.lt
 obtain ⟨W2, hW2⟩ : ∃ W, W1.alloc (.cells (Gt.v ⟨fl, win, sz, sq, ak⟩) 96) = W := ⟨_, rfl⟩
 have b2 := bel_al b1 hW2
 have C2 := C1.al hW2
 have G2 := blk_nw hW2
 have g2 := G2.lt
 obtain ⟨W3, hW3⟩ : ∃ W, W2.alloc (.cells #[.int .i64 0, .int .u32 0, .int .u32 0, .int .u32 0, .int .u32 0, .bool false, .bool false, .bool false, .bool false] 31) = W := ⟨_, rfl⟩
 have b3 := bel_al b2 hW3
 have C3 := C2.al hW3
 have G3 := G2.al hW3
 have Z3 := blk_nw hW3
 have nCG : w.heap.size ≠ W1.heap.size := by omega
 have nGC : W1.heap.size ≠ w.heap.size := by omega
 have nCZ : w.heap.size ≠ W2.heap.size := by omega
 have nGZ : W1.heap.size ≠ W2.heap.size := by omega
 have nZC : W2.heap.size ≠ w.heap.size := by omega
 have gZ : w.heap.size ≤ W2.heap.size := by omega
 have gG : w.heap.size ≤ W1.heap.size := by omega
 clear b1 b2 C1 C2 G2 g1 g2
 have c0 := C3.cell 0 (.int .i64 st) rfl
 have c1 := C3.cell 1 (.int .u32 n0) rfl
 have g0 := G3.cell 0 (.int .i64 fl) rfl
 have g1 := G3.cell 1 (.int .i64 win) rfl
 have g2 := G3.cell 2 (.int .i64 sz) rfl
 have g4 := G3.cell 4 (.int .u32 ak) rfl
 go_enter Try.func46, Try.ntmps46
 go_wp2_with (first | (refine wpList_load_blk_w (by rfl) _ _ rfl w.heap.size (by rfl) _ C3 Try.underlying31 (by kernel_rfl) ?_) | (refine wpList_load_blk_w (by rfl) _ _ rfl W1.heap.size (by rfl) _ G3 Try.underlying96 (by kernel_rfl) ?_))
 clear c0 c1 g0 g1 g2 g4
 refine Calls.mono (KR.out _) ?_
 rintro e W4 ⟨rfl, bb⟩
 have C4 := C3.kept bb
 have G4 := G3.kept bb
 have Z4 := Z3.kept bb
 have b4 := bel_tr b3 bb
 clear bb
 clear C3 G3 Z3 b3
 have c0 := C4.cell 0 (.int .i64 st) rfl
 have c1 := C4.cell 1 (.int .u32 n0) rfl
 have g0 := G4.cell 0 (.int .i64 fl) rfl
 have g1 := G4.cell 1 (.int .i64 win) rfl
 have g2 := G4.cell 2 (.int .i64 sz) rfl
 have g4 := G4.cell 4 (.int .u32 ak) rfl
 go_wp2_with (first | (refine wpList_load_blk_w (by rfl) _ _ rfl w.heap.size (by rfl) _ C4 Try.underlying31 (by kernel_rfl) ?_) | (refine wpList_load_blk_w (by rfl) _ _ rfl W1.heap.size (by rfl) _ G4 Try.underlying96 (by kernel_rfl) ?_))
 clear c0 c1 g0 g1 g2 g4
 refine Calls.mono (KV.out _) ?_
 rintro e W5 ⟨rfl, bb⟩
 have C5 := C4.kept bb
 have G5 := G4.kept bb
 have Z5 := Z4.kept bb
 have b5 := bel_tr b4 bb
 clear bb
 clear C4 G4 Z4 b4
 have c0 := C5.cell 0 (.int .i64 st) rfl
 have c1 := C5.cell 1 (.int .u32 n0) rfl
 have g0 := G5.cell 0 (.int .i64 fl) rfl
 have g1 := G5.cell 1 (.int .i64 win) rfl
 have g2 := G5.cell 2 (.int .i64 sz) rfl
 have g4 := G5.cell 4 (.int .u32 ak) rfl
 go_wp2_with (first | (refine wpList_load_blk_w (by rfl) _ _ rfl w.heap.size (by rfl) _ C5 Try.underlying31 (by kernel_rfl) ?_) | (refine wpList_load_blk_w (by rfl) _ _ rfl W1.heap.size (by rfl) _ G5 Try.underlying96 (by kernel_rfl) ?_))
 clear c0 c1 g0 g1 g2 g4
 refine Calls.mono (KZ.out _) ?_
 rintro e W6 ⟨rfl, bb⟩
 have C6 := C5.kept bb
 have G6 := G5.kept bb
 have Z6 := Z5.kept bb
 have b6 := bel_tr b5 bb
 clear bb
 clear C5 G5 Z5 b5
 have c0 := C6.cell 0 (.int .i64 st) rfl
 have c1 := C6.cell 1 (.int .u32 n0) rfl
 have g0 := G6.cell 0 (.int .i64 fl) rfl
 have g1 := G6.cell 1 (.int .i64 win) rfl
 have g2 := G6.cell 2 (.int .i64 sz) rfl
 have g4 := G6.cell 4 (.int .u32 ak) rfl
 go_wp2_with (first | (refine wpList_load_blk_w (by rfl) _ _ rfl w.heap.size (by rfl) _ C6 Try.underlying31 (by kernel_rfl) ?_) | (refine wpList_load_blk_w (by rfl) _ _ rfl W1.heap.size (by rfl) _ G6 Try.underlying96 (by kernel_rfl) ?_))
 clear c0 c1 g0 g1 g2 g4
 have Cd := C6.drew
 have Gd := G6.drew
 have Zd := Z6.drew
 have bd := b6.drew
 refine wp_region_noPanic ?_
 refine wp_region_held_drew (S := fun w' => Blk w' w.heap.size 31 (Cn.v ⟨st, n0, n1, e0, e1, k0, k1, d0, d1⟩) ∧ Blk w' W1.heap.size 96 (Gt.v ⟨fl, win, sz, sq, ak⟩)) (by kernel_rfl) (by exact ⟨Cd, Gd⟩) (fun hHeld => ?_)
 refine qty (i := 0) (oi := fxg6o29) (v := (.agg (Cn.v ⟨st, n0, n1, e0, e1, k0, k1, d0, d1⟩))) (yieldsIf_blk_w (by kernel_rfl) _ _ rfl w.heap.size (by rfl) _ (fun _ hSw => hSw.1) Try.underlying31 (by kernel_rfl)) hHeld ?_
 try simp only [qpu]
 refine qtk (i := 1) (oi := fxg6o31) (v := (.int .i64 0)) hHeld ?_ ?_
 ·intro w9 hSw
  try dsimp only at hSw
  go_simp
 try simp only [qpu]
 refine qty (i := 2) (oi := fxg6o27) (v := (.agg (Gt.v ⟨fl, win, sz, sq, ak⟩))) (yieldsIf_blk_w (by kernel_rfl) _ _ rfl W1.heap.size (by rfl) _ (fun _ hSw => hSw.2) Try.underlying96 (by kernel_rfl)) hHeld ?_
 try simp only [qpu]
 refine wpAnyH_ready (rs := [3]) (by kernel_rfl) (by simp) ?_
 refine AllReadyH.cons (o := fxg6o2) rfl (fun K hK => ?_) AllReadyH.nil
 go_simp
 refine Calls.mono (KW.out _) ?_
 rintro e Wx41 ⟨rfl, bb⟩
 have Cx41 := Cd.kept bb
 have Gx41 := Gd.kept bb
 have Zx41 := Zd.kept bb
 have bx41 := bel_tr bd bb
 clear bb
 refine hK.out _ _ (by exact ⟨Cx41, Gx41⟩) (fun hHeld => ?_)
 clear hK K
 try simp only [qpu]
 refine qtk (i := 4) (oi := fxg6o23) (v := (.bool false)) hHeld ?_ ?_
 ·intro w9 hSw
  try dsimp only at hSw
  go_simp
 try simp only [qpu]
 refine qtk (i := 5) (oi := fxg6o19) (v := (.bool false)) hHeld ?_ ?_
 ·intro w9 hSw
  try dsimp only at hSw
  go_simp
 try simp only [qpu]
 refine qtk (i := 6) (oi := fxg6o20) (v := (.pointer (some ⟨W1.heap.size, 4, none⟩))) hHeld ?_ ?_
 ·intro w9 hSw
  try dsimp only at hSw
  go_simp
 try simp only [qpu]
 refine qtk (i := 7) (oi := fxg6o15) (v := (.int .u32 ak)) hHeld ?_ ?_
 ·intro w9 hSw
  try dsimp only at hSw
  have hcc := hSw.2.cell 4 (.int .u32 ak) rfl
  go_simp
 try simp only [qpu]
 refine qtk (i := 8) (oi := fxg6o26) (v := (.int .i64 1)) hHeld ?_ ?_
 ·intro w9 hSw
  try dsimp only at hSw
  go_simp
 try simp only [qpu]
 refine qtk (i := 9) (oi := fxg6o22) (v := (.pointer (some ⟨w.heap.size, 1, none⟩))) hHeld ?_ ?_
 ·intro w9 hSw
  try dsimp only at hSw
  go_simp
 try simp only [qpu]
 refine qtk (i := 10) (oi := fxg6o7) (v := (.pointer (some ⟨w.heap.size, 2, none⟩))) hHeld ?_ ?_
 ·intro w9 hSw
  try dsimp only at hSw
  go_simp
 try simp only [qpu]
 refine qtk (i := 11) (oi := fxg6o14) (v := (.int .u32 n1)) hHeld ?_ ?_
 ·intro w9 hSw
  try dsimp only at hSw
  have hcc := hSw.1.cell 2 (.int .u32 n1) rfl
  go_simp
 try simp only [qpu]
 refine qtk (i := 12) (oi := fxg6o4) (v := (.int .u32 ((n1 - 65535) % 4294967296))) hHeld ?_ ?_
 ·intro w9 hSw
  try dsimp only at hSw
  go_simp
  try rw [IntKind.wrap_u32]
 try simp only [qpu]
 refine wpAnyH_ready (rs := [13]) (by kernel_rfl) (by simp) ?_
 refine AllReadyH.cons (o := fxg6o1) rfl (fun K hK => ?_) AllReadyH.nil
 go_simp
 refine Calls.mono (KQ1.out _) ?_
 rintro e Wx42 ⟨rfl, bb⟩
 have Cx42 := Cx41.kept bb
 have Gx42 := Gx41.kept bb
 have Zx42 := Zx41.kept bb
 have bx42 := bel_tr bx41 bb
 clear bb
 refine hK.out _ _ (by exact ⟨Cx42, Gx42⟩) (fun hHeld => ?_)
 clear hK K
 try simp only [qpu]
 refine qtk (i := 14) (oi := fxg6o11) (v := (.bool false)) hHeld ?_ ?_
 ·intro w9 hSw
  try dsimp only at hSw
  go_simp
 try simp only [qpu]
 refine qtk (i := 15) (oi := fxg6o9) (v := (.bool false)) hHeld ?_ ?_
 ·intro w9 hSw
  try dsimp only at hSw
  go_simp
 try simp only [qpu]
 refine qtk (i := 16) (oi := fxg6o17) (v := (.bool false)) hHeld ?_ ?_
 ·intro w9 hSw
  try dsimp only at hSw
  go_simp
 try simp only [qpu]
 refine qtk (i := 17) (oi := fxg6o25) (v := (.int .i64 1)) hHeld ?_ ?_
 ·intro w9 hSw
  try dsimp only at hSw
  go_simp
 try simp only [qpu]
 refine qtk (i := 18) (oi := fxg6o21) (v := (.pointer (some ⟨w.heap.size, 1, none⟩))) hHeld ?_ ?_
 ·intro w9 hSw
  try dsimp only at hSw
  go_simp
 try simp only [qpu]
 refine qtk (i := 19) (oi := fxg6o5) (v := (.pointer (some ⟨w.heap.size, 2, none⟩))) hHeld ?_ ?_
 ·intro w9 hSw
  try dsimp only at hSw
  go_simp
 try simp only [qpu]
 refine qtk (i := 20) (oi := fxg6o12) (v := (.int .u32 n1)) hHeld ?_ ?_
 ·intro w9 hSw
  try dsimp only at hSw
  have hcc := hSw.1.cell 2 (.int .u32 n1) rfl
  go_simp
 try simp only [qpu]
 refine qtk (i := 21) (oi := fxg6o18) (v := (.pointer (some ⟨W1.heap.size, 4, none⟩))) hHeld ?_ ?_
 ·intro w9 hSw
  try dsimp only at hSw
  go_simp
 try simp only [qpu]
 refine qtk (i := 22) (oi := fxg6o13) (v := (.int .u32 ak)) hHeld ?_ ?_
 ·intro w9 hSw
  try dsimp only at hSw
  have hcc := hSw.2.cell 4 (.int .u32 ak) rfl
  go_simp
 try simp only [qpu]
 refine wpAnyH_ready (rs := [23]) (by kernel_rfl) (by simp) ?_
 refine AllReadyH.cons (o := fxg6o0) rfl (fun K hK => ?_) AllReadyH.nil
 go_simp
 refine Calls.mono (KQ2.out _) ?_
 rintro e Wx43 ⟨rfl, bb⟩
 have Cx43 := Cx42.kept bb
 have Gx43 := Gx42.kept bb
 have Zx43 := Zx42.kept bb
 have bx43 := bel_tr bx42 bb
 clear bb
 refine hK.out _ _ (by exact ⟨Cx43, Gx43⟩) (fun hHeld => ?_)
 clear hK K
 try simp only [qpu]
 refine qtk (i := 24) (oi := fxg6o10) (v := (.bool false)) hHeld ?_ ?_
 ·intro w9 hSw
  try dsimp only at hSw
  go_simp
 try simp only [qpu]
 refine qtk (i := 25) (oi := fxg6o8) (v := (.bool false)) hHeld ?_ ?_
 ·intro w9 hSw
  try dsimp only at hSw
  go_simp
 try simp only [qpu]
 refine wpAnyH_done (by kernel_rfl) ?_ _
 refine NoPanic.normal ?_
 go_wp2_with (first | (refine wpList_load_blk_w (by rfl) _ _ rfl w.heap.size (by rfl) _ Cx43 Try.underlying31 (by kernel_rfl) ?_) | (refine wpList_load_blk_w (by rfl) _ _ rfl W1.heap.size (by rfl) _ Gx43 Try.underlying96 (by kernel_rfl) ?_))
 have Cd := Cx43.drew
 have Gd := Gx43.drew
 have Zd := Zx43.drew
 have bd := bx43.drew
 refine wp_region_noPanic ?_
 refine wp_region_held_drew (S := fun w' => Blk w' w.heap.size 31 (Cn.v ⟨st, n0, n1, e0, e1, k0, k1, d0, d1⟩) ∧ Blk w' W1.heap.size 96 (Gt.v ⟨fl, win, sz, sq, ak⟩)) (by kernel_rfl) (by exact ⟨Cd, Gd⟩) (fun hHeld => ?_)
 refine qty (i := 0) (oi := fxg6o28) (v := (.agg (Gt.v ⟨fl, win, sz, sq, ak⟩))) (yieldsIf_blk_w (by kernel_rfl) _ _ rfl W1.heap.size (by rfl) _ (fun _ hSw => hSw.2) Try.underlying96 (by kernel_rfl)) hHeld ?_
 try simp only [qpu]
 refine qtk (i := 2) (oi := fxg6o32) (v := (.int .i64 0)) hHeld ?_ ?_
 ·intro w9 hSw
  try dsimp only at hSw
  go_simp
 try simp only [qpu]
 refine qtk (i := 3) (oi := fxg6o30) (v := (.pointer (some ⟨w.heap.size, 1, none⟩))) hHeld ?_ ?_
 ·intro w9 hSw
  try dsimp only at hSw
  go_simp
 try simp only [qpu]
 refine qtk (i := 4) (oi := fxg6o16) (v := (.pointer (some ⟨w.heap.size, 1, none⟩))) hHeld ?_ ?_
 ·intro w9 hSw
  try dsimp only at hSw
  go_simp
 try simp only [qpu]
 refine qtk (i := 5) (oi := fxg6o24) (v := (.int .u32 n0)) hHeld ?_ ?_
 ·intro w9 hSw
  try dsimp only at hSw
  have hcc := hSw.1.cell 1 (.int .u32 n0) rfl
  go_simp
 try simp only [qpu]
 refine wpAnyH_ready (rs := [1]) (by kernel_rfl) (by simp) ?_
 refine AllReadyH.cons (o := fxg6o6) rfl (fun K hK => ?_) AllReadyH.nil
 go_simp
 refine Calls.mono (KE.out _) ?_
 rintro e Wx81 ⟨rfl, bb⟩
 have Cx81 := Cd.kept bb
 have Gx81 := Gd.kept bb
 have Zx81 := Zd.kept bb
 have bx81 := bel_tr bd bb
 clear bb
 refine hK.out _ _ (by exact ⟨Cx81, Gx81⟩) (fun hHeld => ?_)
 clear hK K
 try simp only [qpu]
 refine wpAnyH_ready (rs := [6]) (by kernel_rfl) (by simp) ?_
 refine AllReadyH.cons (o := fxg6o3) rfl (fun K hK => ?_) AllReadyH.nil
 go_simp
 refine Calls.mono (KP.out _) ?_
 rintro e Wx82 ⟨rfl, bb⟩
 have Cx82 := Cx81.kept bb
 have Gx82 := Gx81.kept bb
 have Zx82 := Zx81.kept bb
 have bx82 := bel_tr bx81 bb
 clear bb
 refine hK.out _ _ (by exact ⟨Cx82, Gx82⟩) (fun hHeld => ?_)
 clear hK K
 try simp only [qpu]
 refine wpAnyH_done (by kernel_rfl) ?_ _
 refine NoPanic.normal ?_
 have u4 := Cx82.cell 4 (.int .u32 e1) rfl
 have g0 := Gx82.cell 0 (.int .i64 fl) rfl
 have g1 := Gx82.cell 1 (.int .i64 win) rfl
 have g4 := Gx82.cell 4 (.int .u32 ak) rfl
 go_wp2_with (first | (refine wpList_load_blk_w (by rfl) _ _ rfl w.heap.size (by rfl) _ Cx82 Try.underlying31 (by kernel_rfl) ?_) | (refine wpList_load_blk_w (by rfl) _ _ rfl W1.heap.size (by rfl) _ Gx82 Try.underlying96 (by kernel_rfl) ?_))
 clear u4 g0 g1 g4
 refine Calls.mono (KO.out _) ?_
 rintro e Wx82o ⟨rfl, bb⟩
 have Cx82o := Cx82.kept bb
 have Gx82o := Gx82.kept bb
 have Zx82o := Zx82.kept bb
 have bx82o := bel_tr bx82 bb
 clear bb
 clear Cx82 Gx82 Zx82 bx82
 have g0 := Gx82o.cell 0 (.int .i64 fl) rfl
 cases A1 with
 | false =>
  cases d0 with
  | false =>
   cases d1 with
   | false =>
    have y0 := Cx82o.cell 0 (.int .i64 st) rfl
    have z0 := Cx82o.frozen 0
    obtain ⟨Wx82os, hWx82os⟩ : ∃ W, Wx82o.setCell ⟨w.heap.size, 0, none⟩ (.int .i64 3) = W := ⟨_, rfl⟩
    have Cx82os : Blk Wx82os w.heap.size 31 (Cn.v ⟨3, n0, n1, e0, e1, k0, k1, false, false⟩) := hWx82os ▸ Cx82o.put 0 (.int .i64 3)
    have Gx82os := hWx82os ▸ Gx82o.put_other Cx82o nGC 0 (.int .i64 3)
    have Zx82os := hWx82os ▸ Zx82o.put_other Cx82o nZC 0 (.int .i64 3)
    have bx82os := hWx82os ▸ bx82o.setCell (p := ⟨w.heap.size, 0, none⟩) (Nat.le_refl _) (.int .i64 3)
    have t7 := Cx82os.cell 7 (.bool false) rfl
    have t8 := Cx82os.cell 8 (.bool false) rfl
    have Zf := Zx82os.set (Cn.v ⟨3, n0, n1, e0, e1, k0, k1, false, false⟩)
    have bf := below_setRow bx82os gZ (Cn.v ⟨3, n0, n1, e0, e1, k0, k1, false, false⟩)
    go_wp2_with (first | (refine wpList_load_blk_w (by rfl) _ _ rfl w.heap.size (by rfl) _ Cx82os Try.underlying31 (by kernel_rfl) ?_) | (refine wpList_load_blk_w (by rfl) _ _ rfl W1.heap.size (by rfl) _ Gx82os Try.underlying96 (by kernel_rfl) ?_) | (refine wpList_store_row rfl _ _ _ rfl W2.heap.size (Cn.v ⟨3, n0, n1, e0, e1, k0, k1, false, false⟩) (by rfl) (by rfl) _ _ Zx82os (by kernel_rfl) (by rfl) (by kernel_rfl) ?_))
    obtain rfl : ((⟨3, n0, n1, e0, e1, k0, k1, false, false⟩ : Cn), (0 : Int)) = R := by rw [← HR.out]; first | rfl | simp [Cn.ret]
    exact ret_cell_tmp (k := 6) (j := 7) Try.f46 (by kernel_rfl) Zf Try.underlying31 (by kernel_rfl) (by rfl) (by rfl) rfl ⟨rfl, bf⟩

   | true =>
    have y0 := Cx82o.cell 0 (.int .i64 st) rfl
    have z0 := Cx82o.frozen 0
    obtain ⟨Wx82os, hWx82os⟩ : ∃ W, Wx82o.setCell ⟨w.heap.size, 0, none⟩ (.int .i64 3) = W := ⟨_, rfl⟩
    have Cx82os : Blk Wx82os w.heap.size 31 (Cn.v ⟨3, n0, n1, e0, e1, k0, k1, false, true⟩) := hWx82os ▸ Cx82o.put 0 (.int .i64 3)
    have Gx82os := hWx82os ▸ Gx82o.put_other Cx82o nGC 0 (.int .i64 3)
    have Zx82os := hWx82os ▸ Zx82o.put_other Cx82o nZC 0 (.int .i64 3)
    have bx82os := hWx82os ▸ bx82o.setCell (p := ⟨w.heap.size, 0, none⟩) (Nat.le_refl _) (.int .i64 3)
    have t7 := Cx82os.cell 7 (.bool false) rfl
    have t8 := Cx82os.cell 8 (.bool true) rfl
    have y0 := Cx82os.cell 0 (.int .i64 3) rfl
    have z0 := Cx82os.frozen 0
    obtain ⟨Wx82oss, hWx82oss⟩ : ∃ W, Wx82os.setCell ⟨w.heap.size, 0, none⟩ (.int .i64 4) = W := ⟨_, rfl⟩
    have Cx82oss : Blk Wx82oss w.heap.size 31 (Cn.v ⟨4, n0, n1, e0, e1, k0, k1, false, true⟩) := hWx82oss ▸ Cx82os.put 0 (.int .i64 4)
    have Gx82oss := hWx82oss ▸ Gx82os.put_other Cx82os nGC 0 (.int .i64 4)
    have Zx82oss := hWx82oss ▸ Zx82os.put_other Cx82os nZC 0 (.int .i64 4)
    have bx82oss := hWx82oss ▸ bx82os.setCell (p := ⟨w.heap.size, 0, none⟩) (Nat.le_refl _) (.int .i64 4)
    have t7 := Cx82oss.cell 7 (.bool false) rfl
    have t8 := Cx82oss.cell 8 (.bool true) rfl
    have Zf := Zx82oss.set (Cn.v ⟨4, n0, n1, e0, e1, k0, k1, false, true⟩)
    have bf := below_setRow bx82oss gZ (Cn.v ⟨4, n0, n1, e0, e1, k0, k1, false, true⟩)
    go_wp2_with (first | (refine wpList_load_blk_w (by rfl) _ _ rfl w.heap.size (by rfl) _ Cx82oss Try.underlying31 (by kernel_rfl) ?_) | (refine wpList_load_blk_w (by rfl) _ _ rfl W1.heap.size (by rfl) _ Gx82oss Try.underlying96 (by kernel_rfl) ?_) | (refine wpList_store_row rfl _ _ _ rfl W2.heap.size (Cn.v ⟨4, n0, n1, e0, e1, k0, k1, false, true⟩) (by rfl) (by rfl) _ _ Zx82oss (by kernel_rfl) (by rfl) (by kernel_rfl) ?_))
    obtain rfl : ((⟨4, n0, n1, e0, e1, k0, k1, false, true⟩ : Cn), (0 : Int)) = R := by rw [← HR.out]; first | rfl | simp [Cn.ret]
    exact ret_cell_tmp (k := 6) (j := 7) Try.f46 (by kernel_rfl) Zf Try.underlying31 (by kernel_rfl) (by rfl) (by rfl) rfl ⟨rfl, bf⟩


  | true =>
   cases d1 with
   | false =>
    have y0 := Cx82o.cell 0 (.int .i64 st) rfl
    have z0 := Cx82o.frozen 0
    obtain ⟨Wx82os, hWx82os⟩ : ∃ W, Wx82o.setCell ⟨w.heap.size, 0, none⟩ (.int .i64 3) = W := ⟨_, rfl⟩
    have Cx82os : Blk Wx82os w.heap.size 31 (Cn.v ⟨3, n0, n1, e0, e1, k0, k1, true, false⟩) := hWx82os ▸ Cx82o.put 0 (.int .i64 3)
    have Gx82os := hWx82os ▸ Gx82o.put_other Cx82o nGC 0 (.int .i64 3)
    have Zx82os := hWx82os ▸ Zx82o.put_other Cx82o nZC 0 (.int .i64 3)
    have bx82os := hWx82os ▸ bx82o.setCell (p := ⟨w.heap.size, 0, none⟩) (Nat.le_refl _) (.int .i64 3)
    have t7 := Cx82os.cell 7 (.bool true) rfl
    have t8 := Cx82os.cell 8 (.bool false) rfl
    have y0 := Cx82os.cell 0 (.int .i64 3) rfl
    have z0 := Cx82os.frozen 0
    obtain ⟨Wx82oss, hWx82oss⟩ : ∃ W, Wx82os.setCell ⟨w.heap.size, 0, none⟩ (.int .i64 4) = W := ⟨_, rfl⟩
    have Cx82oss : Blk Wx82oss w.heap.size 31 (Cn.v ⟨4, n0, n1, e0, e1, k0, k1, true, false⟩) := hWx82oss ▸ Cx82os.put 0 (.int .i64 4)
    have Gx82oss := hWx82oss ▸ Gx82os.put_other Cx82os nGC 0 (.int .i64 4)
    have Zx82oss := hWx82oss ▸ Zx82os.put_other Cx82os nZC 0 (.int .i64 4)
    have bx82oss := hWx82oss ▸ bx82os.setCell (p := ⟨w.heap.size, 0, none⟩) (Nat.le_refl _) (.int .i64 4)
    have t7 := Cx82oss.cell 7 (.bool true) rfl
    have t8 := Cx82oss.cell 8 (.bool false) rfl
    have Zf := Zx82oss.set (Cn.v ⟨4, n0, n1, e0, e1, k0, k1, true, false⟩)
    have bf := below_setRow bx82oss gZ (Cn.v ⟨4, n0, n1, e0, e1, k0, k1, true, false⟩)
    go_wp2_with (first | (refine wpList_load_blk_w (by rfl) _ _ rfl w.heap.size (by rfl) _ Cx82oss Try.underlying31 (by kernel_rfl) ?_) | (refine wpList_load_blk_w (by rfl) _ _ rfl W1.heap.size (by rfl) _ Gx82oss Try.underlying96 (by kernel_rfl) ?_) | (refine wpList_store_row rfl _ _ _ rfl W2.heap.size (Cn.v ⟨4, n0, n1, e0, e1, k0, k1, true, false⟩) (by rfl) (by rfl) _ _ Zx82oss (by kernel_rfl) (by rfl) (by kernel_rfl) ?_))
    obtain rfl : ((⟨4, n0, n1, e0, e1, k0, k1, true, false⟩ : Cn), (0 : Int)) = R := by rw [← HR.out]; first | rfl | simp [Cn.ret]
    exact ret_cell_tmp (k := 6) (j := 7) Try.f46 (by kernel_rfl) Zf Try.underlying31 (by kernel_rfl) (by rfl) (by rfl) rfl ⟨rfl, bf⟩

   | true =>
    have y0 := Cx82o.cell 0 (.int .i64 st) rfl
    have z0 := Cx82o.frozen 0
    obtain ⟨Wx82os, hWx82os⟩ : ∃ W, Wx82o.setCell ⟨w.heap.size, 0, none⟩ (.int .i64 3) = W := ⟨_, rfl⟩
    have Cx82os : Blk Wx82os w.heap.size 31 (Cn.v ⟨3, n0, n1, e0, e1, k0, k1, true, true⟩) := hWx82os ▸ Cx82o.put 0 (.int .i64 3)
    have Gx82os := hWx82os ▸ Gx82o.put_other Cx82o nGC 0 (.int .i64 3)
    have Zx82os := hWx82os ▸ Zx82o.put_other Cx82o nZC 0 (.int .i64 3)
    have bx82os := hWx82os ▸ bx82o.setCell (p := ⟨w.heap.size, 0, none⟩) (Nat.le_refl _) (.int .i64 3)
    have t7 := Cx82os.cell 7 (.bool true) rfl
    have t8 := Cx82os.cell 8 (.bool true) rfl
    have y0 := Cx82os.cell 0 (.int .i64 3) rfl
    have z0 := Cx82os.frozen 0
    obtain ⟨Wx82oss, hWx82oss⟩ : ∃ W, Wx82os.setCell ⟨w.heap.size, 0, none⟩ (.int .i64 4) = W := ⟨_, rfl⟩
    have Cx82oss : Blk Wx82oss w.heap.size 31 (Cn.v ⟨4, n0, n1, e0, e1, k0, k1, true, true⟩) := hWx82oss ▸ Cx82os.put 0 (.int .i64 4)
    have Gx82oss := hWx82oss ▸ Gx82os.put_other Cx82os nGC 0 (.int .i64 4)
    have Zx82oss := hWx82oss ▸ Zx82os.put_other Cx82os nZC 0 (.int .i64 4)
    have bx82oss := hWx82oss ▸ bx82os.setCell (p := ⟨w.heap.size, 0, none⟩) (Nat.le_refl _) (.int .i64 4)
    have t7 := Cx82oss.cell 7 (.bool true) rfl
    have t8 := Cx82oss.cell 8 (.bool true) rfl
    have y0 := Cx82oss.cell 0 (.int .i64 4) rfl
    have z0 := Cx82oss.frozen 0
    obtain ⟨Wx82osss, hWx82osss⟩ : ∃ W, Wx82oss.setCell ⟨w.heap.size, 0, none⟩ (.int .i64 5) = W := ⟨_, rfl⟩
    have Cx82osss : Blk Wx82osss w.heap.size 31 (Cn.v ⟨5, n0, n1, e0, e1, k0, k1, true, true⟩) := hWx82osss ▸ Cx82oss.put 0 (.int .i64 5)
    have Gx82osss := hWx82osss ▸ Gx82oss.put_other Cx82oss nGC 0 (.int .i64 5)
    have Zx82osss := hWx82osss ▸ Zx82oss.put_other Cx82oss nZC 0 (.int .i64 5)
    have bx82osss := hWx82osss ▸ bx82oss.setCell (p := ⟨w.heap.size, 0, none⟩) (Nat.le_refl _) (.int .i64 5)
    have t7 := Cx82osss.cell 7 (.bool true) rfl
    have t8 := Cx82osss.cell 8 (.bool true) rfl
    have Zf := Zx82osss.set (Cn.v ⟨5, n0, n1, e0, e1, k0, k1, true, true⟩)
    have bf := below_setRow bx82osss gZ (Cn.v ⟨5, n0, n1, e0, e1, k0, k1, true, true⟩)
    go_wp2_with (first | (refine wpList_load_blk_w (by rfl) _ _ rfl w.heap.size (by rfl) _ Cx82osss Try.underlying31 (by kernel_rfl) ?_) | (refine wpList_load_blk_w (by rfl) _ _ rfl W1.heap.size (by rfl) _ Gx82osss Try.underlying96 (by kernel_rfl) ?_) | (refine wpList_store_row rfl _ _ _ rfl W2.heap.size (Cn.v ⟨5, n0, n1, e0, e1, k0, k1, true, true⟩) (by rfl) (by rfl) _ _ Zx82osss (by kernel_rfl) (by rfl) (by kernel_rfl) ?_))
    obtain rfl : ((⟨5, n0, n1, e0, e1, k0, k1, true, true⟩ : Cn), (0 : Int)) = R := by rw [← HR.out]; first | rfl | simp [Cn.ret]
    exact ret_cell_tmp (k := 6) (j := 7) Try.f46 (by kernel_rfl) Zf Try.underlying31 (by kernel_rfl) (by rfl) (by rfl) rfl ⟨rfl, bf⟩



 | true =>
  have y7 := Cx82o.cell 7 (.bool d0) rfl
  have z7 := Cx82o.frozen 7
  obtain ⟨Wx82of, hWx82of⟩ : ∃ W, Wx82o.setCell ⟨w.heap.size, 7, none⟩ (.bool true) = W := ⟨_, rfl⟩
  have Cx82of : Blk Wx82of w.heap.size 31 (Cn.v ⟨st, n0, n1, e0, e1, k0, k1, true, d1⟩) := hWx82of ▸ Cx82o.put 7 (.bool true)
  have Gx82of := hWx82of ▸ Gx82o.put_other Cx82o nGC 7 (.bool true)
  have Zx82of := hWx82of ▸ Zx82o.put_other Cx82o nZC 7 (.bool true)
  have bx82of := hWx82of ▸ bx82o.setCell (p := ⟨w.heap.size, 7, none⟩) (Nat.le_refl _) (.bool true)
  cases d1 with
  | false =>
   have y0 := Cx82of.cell 0 (.int .i64 st) rfl
   have z0 := Cx82of.frozen 0
   obtain ⟨Wx82ofs, hWx82ofs⟩ : ∃ W, Wx82of.setCell ⟨w.heap.size, 0, none⟩ (.int .i64 3) = W := ⟨_, rfl⟩
   have Cx82ofs : Blk Wx82ofs w.heap.size 31 (Cn.v ⟨3, n0, n1, e0, e1, k0, k1, true, false⟩) := hWx82ofs ▸ Cx82of.put 0 (.int .i64 3)
   have Gx82ofs := hWx82ofs ▸ Gx82of.put_other Cx82of nGC 0 (.int .i64 3)
   have Zx82ofs := hWx82ofs ▸ Zx82of.put_other Cx82of nZC 0 (.int .i64 3)
   have bx82ofs := hWx82ofs ▸ bx82of.setCell (p := ⟨w.heap.size, 0, none⟩) (Nat.le_refl _) (.int .i64 3)
   have t7 := Cx82ofs.cell 7 (.bool true) rfl
   have t8 := Cx82ofs.cell 8 (.bool false) rfl
   have y0 := Cx82ofs.cell 0 (.int .i64 3) rfl
   have z0 := Cx82ofs.frozen 0
   obtain ⟨Wx82ofss, hWx82ofss⟩ : ∃ W, Wx82ofs.setCell ⟨w.heap.size, 0, none⟩ (.int .i64 4) = W := ⟨_, rfl⟩
   have Cx82ofss : Blk Wx82ofss w.heap.size 31 (Cn.v ⟨4, n0, n1, e0, e1, k0, k1, true, false⟩) := hWx82ofss ▸ Cx82ofs.put 0 (.int .i64 4)
   have Gx82ofss := hWx82ofss ▸ Gx82ofs.put_other Cx82ofs nGC 0 (.int .i64 4)
   have Zx82ofss := hWx82ofss ▸ Zx82ofs.put_other Cx82ofs nZC 0 (.int .i64 4)
   have bx82ofss := hWx82ofss ▸ bx82ofs.setCell (p := ⟨w.heap.size, 0, none⟩) (Nat.le_refl _) (.int .i64 4)
   have t7 := Cx82ofss.cell 7 (.bool true) rfl
   have t8 := Cx82ofss.cell 8 (.bool false) rfl
   have Zf := Zx82ofss.set (Cn.v ⟨4, n0, n1, e0, e1, k0, k1, true, false⟩)
   have bf := below_setRow bx82ofss gZ (Cn.v ⟨4, n0, n1, e0, e1, k0, k1, true, false⟩)
   go_wp2_with (first | (refine wpList_load_blk_w (by rfl) _ _ rfl w.heap.size (by rfl) _ Cx82ofss Try.underlying31 (by kernel_rfl) ?_) | (refine wpList_load_blk_w (by rfl) _ _ rfl W1.heap.size (by rfl) _ Gx82ofss Try.underlying96 (by kernel_rfl) ?_) | (refine wpList_store_row rfl _ _ _ rfl W2.heap.size (Cn.v ⟨4, n0, n1, e0, e1, k0, k1, true, false⟩) (by rfl) (by rfl) _ _ Zx82ofss (by kernel_rfl) (by rfl) (by kernel_rfl) ?_))
   obtain rfl : ((⟨4, n0, n1, e0, e1, k0, k1, true, false⟩ : Cn), (0 : Int)) = R := by rw [← HR.out]; first | rfl | simp [Cn.ret]
   exact ret_cell_tmp (k := 6) (j := 7) Try.f46 (by kernel_rfl) Zf Try.underlying31 (by kernel_rfl) (by rfl) (by rfl) rfl ⟨rfl, bf⟩

  | true =>
   have y0 := Cx82of.cell 0 (.int .i64 st) rfl
   have z0 := Cx82of.frozen 0
   obtain ⟨Wx82ofs, hWx82ofs⟩ : ∃ W, Wx82of.setCell ⟨w.heap.size, 0, none⟩ (.int .i64 3) = W := ⟨_, rfl⟩
   have Cx82ofs : Blk Wx82ofs w.heap.size 31 (Cn.v ⟨3, n0, n1, e0, e1, k0, k1, true, true⟩) := hWx82ofs ▸ Cx82of.put 0 (.int .i64 3)
   have Gx82ofs := hWx82ofs ▸ Gx82of.put_other Cx82of nGC 0 (.int .i64 3)
   have Zx82ofs := hWx82ofs ▸ Zx82of.put_other Cx82of nZC 0 (.int .i64 3)
   have bx82ofs := hWx82ofs ▸ bx82of.setCell (p := ⟨w.heap.size, 0, none⟩) (Nat.le_refl _) (.int .i64 3)
   have t7 := Cx82ofs.cell 7 (.bool true) rfl
   have t8 := Cx82ofs.cell 8 (.bool true) rfl
   have y0 := Cx82ofs.cell 0 (.int .i64 3) rfl
   have z0 := Cx82ofs.frozen 0
   obtain ⟨Wx82ofss, hWx82ofss⟩ : ∃ W, Wx82ofs.setCell ⟨w.heap.size, 0, none⟩ (.int .i64 4) = W := ⟨_, rfl⟩
   have Cx82ofss : Blk Wx82ofss w.heap.size 31 (Cn.v ⟨4, n0, n1, e0, e1, k0, k1, true, true⟩) := hWx82ofss ▸ Cx82ofs.put 0 (.int .i64 4)
   have Gx82ofss := hWx82ofss ▸ Gx82ofs.put_other Cx82ofs nGC 0 (.int .i64 4)
   have Zx82ofss := hWx82ofss ▸ Zx82ofs.put_other Cx82ofs nZC 0 (.int .i64 4)
   have bx82ofss := hWx82ofss ▸ bx82ofs.setCell (p := ⟨w.heap.size, 0, none⟩) (Nat.le_refl _) (.int .i64 4)
   have t7 := Cx82ofss.cell 7 (.bool true) rfl
   have t8 := Cx82ofss.cell 8 (.bool true) rfl
   have y0 := Cx82ofss.cell 0 (.int .i64 4) rfl
   have z0 := Cx82ofss.frozen 0
   obtain ⟨Wx82ofsss, hWx82ofsss⟩ : ∃ W, Wx82ofss.setCell ⟨w.heap.size, 0, none⟩ (.int .i64 5) = W := ⟨_, rfl⟩
   have Cx82ofsss : Blk Wx82ofsss w.heap.size 31 (Cn.v ⟨5, n0, n1, e0, e1, k0, k1, true, true⟩) := hWx82ofsss ▸ Cx82ofss.put 0 (.int .i64 5)
   have Gx82ofsss := hWx82ofsss ▸ Gx82ofss.put_other Cx82ofss nGC 0 (.int .i64 5)
   have Zx82ofsss := hWx82ofsss ▸ Zx82ofss.put_other Cx82ofss nZC 0 (.int .i64 5)
   have bx82ofsss := hWx82ofsss ▸ bx82ofss.setCell (p := ⟨w.heap.size, 0, none⟩) (Nat.le_refl _) (.int .i64 5)
   have t7 := Cx82ofsss.cell 7 (.bool true) rfl
   have t8 := Cx82ofsss.cell 8 (.bool true) rfl
   have Zf := Zx82ofsss.set (Cn.v ⟨5, n0, n1, e0, e1, k0, k1, true, true⟩)
   have bf := below_setRow bx82ofsss gZ (Cn.v ⟨5, n0, n1, e0, e1, k0, k1, true, true⟩)
   go_wp2_with (first | (refine wpList_load_blk_w (by rfl) _ _ rfl w.heap.size (by rfl) _ Cx82ofsss Try.underlying31 (by kernel_rfl) ?_) | (refine wpList_load_blk_w (by rfl) _ _ rfl W1.heap.size (by rfl) _ Gx82ofsss Try.underlying96 (by kernel_rfl) ?_) | (refine wpList_store_row rfl _ _ _ rfl W2.heap.size (Cn.v ⟨5, n0, n1, e0, e1, k0, k1, true, true⟩) (by rfl) (by rfl) _ _ Zx82ofsss (by kernel_rfl) (by rfl) (by kernel_rfl) ?_))
   obtain rfl : ((⟨5, n0, n1, e0, e1, k0, k1, true, true⟩ : Cn), (0 : Int)) = R := by rw [← HR.out]; first | rfl | simp [Cn.ret]
   exact ret_cell_tmp (k := 6) (j := 7) Try.f46 (by kernel_rfl) Zf Try.underlying31 (by kernel_rfl) (by rfl) (by rfl) rfl ⟨rfl, bf⟩
set_option maxRecDepth 100000 in
set_option maxHeartbeats 4000000 in
theorem rstep0ft_tc (c : Cn) (g : Gt) (w : World) (qRR : c.right = true) (qIW : inB15 g.win = true) (qIZ : inB15 g.sz = true) (qA4 : flB g.fl 4 = false) (qX6 : (c.st == 6) = false) (qA2 : flB g.fl 2 = false) (qA16 : flB g.fl 16 = true) (qX1 : (c.st == 1) = false) (qV : c.win false g = true) (qQ1 : frB g.ak ((c.n1 - 65535) % 4294967296) = true) (qQ2 : frB c.n1 g.ak = true) (qP : frB g.e c.n0 = false) (qO : frB ((g.ak + g.win) % 4294967296) c.e1 = true) :
  Calls Try.prog 46 #[.agg c.v, .int .i64 0, .agg g.v] w fun e w' => e = .returned (.tuple #[.agg (c.step 0 g).1.v, .int .i64 (c.step 0 g).2]) ∧ Below w.heap.size w w' := by
 obtain ⟨R, hR⟩ : ∃ R, c.step 0 g = R := ⟨_, rfl⟩
 have HR : Hid ((if c.right && (inB15 g.win && inB15 g.sz) then (if flB g.fl 4 then Cn.ret (if c.win false g || (false && (c.st == 1 && (flB g.fl 16 && g.ak == c.n0))) then some ⟨6, c.n0, c.n1, c.e0, c.e1, c.k0, c.k1, c.d0, c.d1⟩ else none) else if c.st == 6 then (cn0, 23) else if flB g.fl 2 then Cn.ret (c.syn false g) else if !flB g.fl 16 || (c.st == 1 || (false && c.st == 2)) then (cn0, 23) else Cn.ret (if c.win false g && (frB g.ak ((c.n1 - 65535) % 4294967296) && frB c.n1 g.ak) then some (c.byR false g.e ((g.ak + g.win) % 4294967296) (frB g.e c.n0) (frB ((g.ak + g.win) % 4294967296) c.e1) (flB g.fl 1)) else none)) else (cn0, 1)) = R) := by
  have h : (if c.right && (inB15 g.win && inB15 g.sz) then Cn.ret (c.take false g) else (cn0, 1)) = R := hR
  have k : Cn.ret (c.take false g) = (if flB g.fl 4 then Cn.ret (if c.win false g || (false && (c.st == 1 && (flB g.fl 16 && g.ak == c.n0))) then some ⟨6, c.n0, c.n1, c.e0, c.e1, c.k0, c.k1, c.d0, c.d1⟩ else none) else if c.st == 6 then (cn0, 23) else if flB g.fl 2 then Cn.ret (c.syn false g) else if !flB g.fl 16 || (c.st == 1 || (false && c.st == 2)) then (cn0, 23) else Cn.ret (if c.win false g && (frB g.ak ((c.n1 - 65535) % 4294967296) && frB c.n1 g.ak) then some (c.byR false g.e ((g.ak + g.win) % 4294967296) (frB g.e c.n0) (frB ((g.ak + g.win) % 4294967296) c.e1) (flB g.fl 1)) else none)) := by
   unfold Cn.take
   split
   ·rfl
   ·split
    ·rfl
    ·split
     ·rfl
     ·split <;> rfl
  rw [k] at h
  exact h
 rw [hR]
 clear hR
 have KR : Hid (∀ W, Calls Try.prog 41 #[.agg c.v] W fun e w' => e = .returned (.bool c.right) ∧ Below W.heap.size W w') := fun W => rright_tc c W
 have KZ : Hid (∀ W, Calls Try.prog 65 #[.int .i64 g.sz] W fun e w' => e = .returned (.bool (inB15 g.sz)) ∧ Below W.heap.size W w') := fun W => rin_tc g.sz W
 have KV : Hid (∀ W, Calls Try.prog 65 #[.int .i64 g.win] W fun e w' => e = .returned (.bool (inB15 g.win)) ∧ Below W.heap.size W w') := fun W => rin_tc g.win W
 have KW : Hid (∀ W, Calls Try.prog 69 #[.agg c.v, .int .i64 0, .agg g.v] W fun e w' => e = .returned (.bool (c.win false g)) ∧ Below W.heap.size W w') := fun W => rwindow0_tc c g W
 have KS : Hid (∀ W, Calls Try.prog 70 #[.agg c.v, .int .i64 0, .agg g.v] W fun e w' => e = .returned (.tuple #[.agg (Cn.ret (c.syn false g)).1.v, .int .i64 (Cn.ret (c.syn false g)).2]) ∧ Below W.heap.size W w') := fun W => rsyn0_tc c g W
 have KE : Hid (∀ W, Calls Try.prog 72 #[.agg g.v] W fun e w' => e = .returned (.int .u32 g.e) ∧ Below W.heap.size W w') := fun W => rend_tc g W
 have KQ1 : Hid (∀ W, Calls Try.prog 71 #[.int .u32 (g.ak), .int .u32 ((c.n1 - 65535) % 4294967296)] W fun e w' => e = .returned (.bool (frB (g.ak) ((c.n1 - 65535) % 4294967296))) ∧ Below W.heap.size W w') := fun W => rfrom_tc _ _ W
 have KQ2 : Hid (∀ W, Calls Try.prog 71 #[.int .u32 (c.n1), .int .u32 (g.ak)] W fun e w' => e = .returned (.bool (frB (c.n1) (g.ak))) ∧ Below W.heap.size W w') := fun W => rfrom_tc _ _ W
 have KP : Hid (∀ W, Calls Try.prog 71 #[.int .u32 (g.e), .int .u32 (c.n0)] W fun e w' => e = .returned (.bool (frB (g.e) (c.n0))) ∧ Below W.heap.size W w') := fun W => rfrom_tc _ _ W
 have KO : Hid (∀ W, Calls Try.prog 71 #[.int .u32 ((g.ak + g.win) % 4294967296), .int .u32 (c.e1)] W fun e w' => e = .returned (.bool (frB ((g.ak + g.win) % 4294967296) (c.e1))) ∧ Below W.heap.size W w') := fun W => rfrom_tc _ _ W
 generalize hQ1 : frB (g.ak) ((c.n1 - 65535) % 4294967296) = Q1 at *
 clear hQ1
 generalize hQ2 : frB (c.n1) (g.ak) = Q2 at *
 clear hQ2
 generalize hP : frB (g.e) (c.n0) = P at *
 clear hP
 generalize hO : frB ((g.ak + g.win) % 4294967296) (c.e1) = O at *
 clear hO
 generalize c.right = RR at *
 generalize inB15 g.win = IW at *
 generalize inB15 g.sz = IZ at *
 generalize c.win false g = V at *
 generalize Cn.ret (c.syn false g) = XS at *
 generalize hE : g.e = E at *
 clear hE
 obtain ⟨fl, win, sz, sq, ak⟩ := g
 obtain ⟨st, n0, n1, e0, e1, k0, k1, d0, d1⟩ := c
 dsimp only at *
 have hA16 : (bits .and .i64 fl 16 != 0) = flB fl 16 := rfl
 generalize flB fl 16 = A16 at *
 have hA4 : (bits .and .i64 fl 4 != 0) = flB fl 4 := rfl
 generalize flB fl 4 = A4 at *
 have hA2 : (bits .and .i64 fl 2 != 0) = flB fl 2 := rfl
 generalize flB fl 2 = A2 at *
 have hA1 : (bits .and .i64 fl 1 != 0) = flB fl 1 := rfl
 generalize flB fl 1 = A1 at *
 generalize h6 : (st == 6) = X6 at *
 generalize h1 : (st == 1) = X1 at *
 subst qRR qIW qIZ qA4 qX6 qA2 qA16 qX1 qV qQ1 qQ2 qP qO
 obtain ⟨W1, hW1⟩ : ∃ W, w.alloc (.cells (Cn.v ⟨st, n0, n1, e0, e1, k0, k1, d0, d1⟩) 31) = W := ⟨_, rfl⟩
 have b1 := bel_nw hW1
 have C1 := blk_nw hW1
 have g1 := C1.lt
 obtain ⟨W2, hW2⟩ : ∃ W, W1.alloc (.cells (Gt.v ⟨fl, win, sz, sq, ak⟩) 96) = W := ⟨_, rfl⟩
 have b2 := bel_al b1 hW2
 have C2 := C1.al hW2
 have G2 := blk_nw hW2
 have g2 := G2.lt
 obtain ⟨W3, hW3⟩ : ∃ W, W2.alloc (.cells #[.int .i64 0, .int .u32 0, .int .u32 0, .int .u32 0, .int .u32 0, .bool false, .bool false, .bool false, .bool false] 31) = W := ⟨_, rfl⟩
 have b3 := bel_al b2 hW3
 have C3 := C2.al hW3
 have G3 := G2.al hW3
 have Z3 := blk_nw hW3
 have nCG : w.heap.size ≠ W1.heap.size := by omega
 have nGC : W1.heap.size ≠ w.heap.size := by omega
 have nCZ : w.heap.size ≠ W2.heap.size := by omega
 have nGZ : W1.heap.size ≠ W2.heap.size := by omega
 have nZC : W2.heap.size ≠ w.heap.size := by omega
 have gZ : w.heap.size ≤ W2.heap.size := by omega
 have gG : w.heap.size ≤ W1.heap.size := by omega
 clear b1 b2 C1 C2 G2 g1 g2
 have c0 := C3.cell 0 (.int .i64 st) rfl
 have c1 := C3.cell 1 (.int .u32 n0) rfl
 have g0 := G3.cell 0 (.int .i64 fl) rfl
 have g1 := G3.cell 1 (.int .i64 win) rfl
 have g2 := G3.cell 2 (.int .i64 sz) rfl
 have g4 := G3.cell 4 (.int .u32 ak) rfl
 go_enter Try.func46, Try.ntmps46
 go_wp2_with (first | (refine wpList_load_blk_w (by rfl) _ _ rfl w.heap.size (by rfl) _ C3 Try.underlying31 (by kernel_rfl) ?_) | (refine wpList_load_blk_w (by rfl) _ _ rfl W1.heap.size (by rfl) _ G3 Try.underlying96 (by kernel_rfl) ?_))
 clear c0 c1 g0 g1 g2 g4
 refine Calls.mono (KR.out _) ?_
 rintro e W4 ⟨rfl, bb⟩
 have C4 := C3.kept bb
 have G4 := G3.kept bb
 have Z4 := Z3.kept bb
 have b4 := bel_tr b3 bb
 clear bb
 clear C3 G3 Z3 b3
 have c0 := C4.cell 0 (.int .i64 st) rfl
 have c1 := C4.cell 1 (.int .u32 n0) rfl
 have g0 := G4.cell 0 (.int .i64 fl) rfl
 have g1 := G4.cell 1 (.int .i64 win) rfl
 have g2 := G4.cell 2 (.int .i64 sz) rfl
 have g4 := G4.cell 4 (.int .u32 ak) rfl
 go_wp2_with (first | (refine wpList_load_blk_w (by rfl) _ _ rfl w.heap.size (by rfl) _ C4 Try.underlying31 (by kernel_rfl) ?_) | (refine wpList_load_blk_w (by rfl) _ _ rfl W1.heap.size (by rfl) _ G4 Try.underlying96 (by kernel_rfl) ?_))
 clear c0 c1 g0 g1 g2 g4
 refine Calls.mono (KV.out _) ?_
 rintro e W5 ⟨rfl, bb⟩
 have C5 := C4.kept bb
 have G5 := G4.kept bb
 have Z5 := Z4.kept bb
 have b5 := bel_tr b4 bb
 clear bb
 clear C4 G4 Z4 b4
 have c0 := C5.cell 0 (.int .i64 st) rfl
 have c1 := C5.cell 1 (.int .u32 n0) rfl
 have g0 := G5.cell 0 (.int .i64 fl) rfl
 have g1 := G5.cell 1 (.int .i64 win) rfl
 have g2 := G5.cell 2 (.int .i64 sz) rfl
 have g4 := G5.cell 4 (.int .u32 ak) rfl
 go_wp2_with (first | (refine wpList_load_blk_w (by rfl) _ _ rfl w.heap.size (by rfl) _ C5 Try.underlying31 (by kernel_rfl) ?_) | (refine wpList_load_blk_w (by rfl) _ _ rfl W1.heap.size (by rfl) _ G5 Try.underlying96 (by kernel_rfl) ?_))
 clear c0 c1 g0 g1 g2 g4
 refine Calls.mono (KZ.out _) ?_
 rintro e W6 ⟨rfl, bb⟩
 have C6 := C5.kept bb
 have G6 := G5.kept bb
 have Z6 := Z5.kept bb
 have b6 := bel_tr b5 bb
 clear bb
 clear C5 G5 Z5 b5
 have c0 := C6.cell 0 (.int .i64 st) rfl
 have c1 := C6.cell 1 (.int .u32 n0) rfl
 have g0 := G6.cell 0 (.int .i64 fl) rfl
 have g1 := G6.cell 1 (.int .i64 win) rfl
 have g2 := G6.cell 2 (.int .i64 sz) rfl
 have g4 := G6.cell 4 (.int .u32 ak) rfl
 go_wp2_with (first | (refine wpList_load_blk_w (by rfl) _ _ rfl w.heap.size (by rfl) _ C6 Try.underlying31 (by kernel_rfl) ?_) | (refine wpList_load_blk_w (by rfl) _ _ rfl W1.heap.size (by rfl) _ G6 Try.underlying96 (by kernel_rfl) ?_))
 clear c0 c1 g0 g1 g2 g4
 have Cd := C6.drew
 have Gd := G6.drew
 have Zd := Z6.drew
 have bd := b6.drew
 refine wp_region_noPanic ?_
 refine wp_region_held_drew (S := fun w' => Blk w' w.heap.size 31 (Cn.v ⟨st, n0, n1, e0, e1, k0, k1, d0, d1⟩) ∧ Blk w' W1.heap.size 96 (Gt.v ⟨fl, win, sz, sq, ak⟩)) (by kernel_rfl) (by exact ⟨Cd, Gd⟩) (fun hHeld => ?_)
 refine qty (i := 0) (oi := fxg6o29) (v := (.agg (Cn.v ⟨st, n0, n1, e0, e1, k0, k1, d0, d1⟩))) (yieldsIf_blk_w (by kernel_rfl) _ _ rfl w.heap.size (by rfl) _ (fun _ hSw => hSw.1) Try.underlying31 (by kernel_rfl)) hHeld ?_
 try simp only [qpu]
 refine qtk (i := 1) (oi := fxg6o31) (v := (.int .i64 0)) hHeld ?_ ?_
 ·intro w9 hSw
  try dsimp only at hSw
  go_simp
 try simp only [qpu]
 refine qty (i := 2) (oi := fxg6o27) (v := (.agg (Gt.v ⟨fl, win, sz, sq, ak⟩))) (yieldsIf_blk_w (by kernel_rfl) _ _ rfl W1.heap.size (by rfl) _ (fun _ hSw => hSw.2) Try.underlying96 (by kernel_rfl)) hHeld ?_
 try simp only [qpu]
 refine wpAnyH_ready (rs := [3]) (by kernel_rfl) (by simp) ?_
 refine AllReadyH.cons (o := fxg6o2) rfl (fun K hK => ?_) AllReadyH.nil
 go_simp
 refine Calls.mono (KW.out _) ?_
 rintro e Wx41 ⟨rfl, bb⟩
 have Cx41 := Cd.kept bb
 have Gx41 := Gd.kept bb
 have Zx41 := Zd.kept bb
 have bx41 := bel_tr bd bb
 clear bb
 refine hK.out _ _ (by exact ⟨Cx41, Gx41⟩) (fun hHeld => ?_)
 clear hK K
 try simp only [qpu]
 refine qtk (i := 4) (oi := fxg6o23) (v := (.bool false)) hHeld ?_ ?_
 ·intro w9 hSw
  try dsimp only at hSw
  go_simp
 try simp only [qpu]
 refine qtk (i := 5) (oi := fxg6o19) (v := (.bool false)) hHeld ?_ ?_
 ·intro w9 hSw
  try dsimp only at hSw
  go_simp
 try simp only [qpu]
 refine qtk (i := 6) (oi := fxg6o20) (v := (.pointer (some ⟨W1.heap.size, 4, none⟩))) hHeld ?_ ?_
 ·intro w9 hSw
  try dsimp only at hSw
  go_simp
 try simp only [qpu]
 refine qtk (i := 7) (oi := fxg6o15) (v := (.int .u32 ak)) hHeld ?_ ?_
 ·intro w9 hSw
  try dsimp only at hSw
  have hcc := hSw.2.cell 4 (.int .u32 ak) rfl
  go_simp
 try simp only [qpu]
 refine qtk (i := 8) (oi := fxg6o26) (v := (.int .i64 1)) hHeld ?_ ?_
 ·intro w9 hSw
  try dsimp only at hSw
  go_simp
 try simp only [qpu]
 refine qtk (i := 9) (oi := fxg6o22) (v := (.pointer (some ⟨w.heap.size, 1, none⟩))) hHeld ?_ ?_
 ·intro w9 hSw
  try dsimp only at hSw
  go_simp
 try simp only [qpu]
 refine qtk (i := 10) (oi := fxg6o7) (v := (.pointer (some ⟨w.heap.size, 2, none⟩))) hHeld ?_ ?_
 ·intro w9 hSw
  try dsimp only at hSw
  go_simp
 try simp only [qpu]
 refine qtk (i := 11) (oi := fxg6o14) (v := (.int .u32 n1)) hHeld ?_ ?_
 ·intro w9 hSw
  try dsimp only at hSw
  have hcc := hSw.1.cell 2 (.int .u32 n1) rfl
  go_simp
 try simp only [qpu]
 refine qtk (i := 12) (oi := fxg6o4) (v := (.int .u32 ((n1 - 65535) % 4294967296))) hHeld ?_ ?_
 ·intro w9 hSw
  try dsimp only at hSw
  go_simp
  try rw [IntKind.wrap_u32]
 try simp only [qpu]
 refine wpAnyH_ready (rs := [13]) (by kernel_rfl) (by simp) ?_
 refine AllReadyH.cons (o := fxg6o1) rfl (fun K hK => ?_) AllReadyH.nil
 go_simp
 refine Calls.mono (KQ1.out _) ?_
 rintro e Wx42 ⟨rfl, bb⟩
 have Cx42 := Cx41.kept bb
 have Gx42 := Gx41.kept bb
 have Zx42 := Zx41.kept bb
 have bx42 := bel_tr bx41 bb
 clear bb
 refine hK.out _ _ (by exact ⟨Cx42, Gx42⟩) (fun hHeld => ?_)
 clear hK K
 try simp only [qpu]
 refine qtk (i := 14) (oi := fxg6o11) (v := (.bool false)) hHeld ?_ ?_
 ·intro w9 hSw
  try dsimp only at hSw
  go_simp
 try simp only [qpu]
 refine qtk (i := 15) (oi := fxg6o9) (v := (.bool false)) hHeld ?_ ?_
 ·intro w9 hSw
  try dsimp only at hSw
  go_simp
 try simp only [qpu]
 refine qtk (i := 16) (oi := fxg6o17) (v := (.bool false)) hHeld ?_ ?_
 ·intro w9 hSw
  try dsimp only at hSw
  go_simp
 try simp only [qpu]
 refine qtk (i := 17) (oi := fxg6o25) (v := (.int .i64 1)) hHeld ?_ ?_
 ·intro w9 hSw
  try dsimp only at hSw
  go_simp
 try simp only [qpu]
 refine qtk (i := 18) (oi := fxg6o21) (v := (.pointer (some ⟨w.heap.size, 1, none⟩))) hHeld ?_ ?_
 ·intro w9 hSw
  try dsimp only at hSw
  go_simp
 try simp only [qpu]
 refine qtk (i := 19) (oi := fxg6o5) (v := (.pointer (some ⟨w.heap.size, 2, none⟩))) hHeld ?_ ?_
 ·intro w9 hSw
  try dsimp only at hSw
  go_simp
 try simp only [qpu]
 refine qtk (i := 20) (oi := fxg6o12) (v := (.int .u32 n1)) hHeld ?_ ?_
 ·intro w9 hSw
  try dsimp only at hSw
  have hcc := hSw.1.cell 2 (.int .u32 n1) rfl
  go_simp
 try simp only [qpu]
 refine qtk (i := 21) (oi := fxg6o18) (v := (.pointer (some ⟨W1.heap.size, 4, none⟩))) hHeld ?_ ?_
 ·intro w9 hSw
  try dsimp only at hSw
  go_simp
 try simp only [qpu]
 refine qtk (i := 22) (oi := fxg6o13) (v := (.int .u32 ak)) hHeld ?_ ?_
 ·intro w9 hSw
  try dsimp only at hSw
  have hcc := hSw.2.cell 4 (.int .u32 ak) rfl
  go_simp
 try simp only [qpu]
 refine wpAnyH_ready (rs := [23]) (by kernel_rfl) (by simp) ?_
 refine AllReadyH.cons (o := fxg6o0) rfl (fun K hK => ?_) AllReadyH.nil
 go_simp
 refine Calls.mono (KQ2.out _) ?_
 rintro e Wx43 ⟨rfl, bb⟩
 have Cx43 := Cx42.kept bb
 have Gx43 := Gx42.kept bb
 have Zx43 := Zx42.kept bb
 have bx43 := bel_tr bx42 bb
 clear bb
 refine hK.out _ _ (by exact ⟨Cx43, Gx43⟩) (fun hHeld => ?_)
 clear hK K
 try simp only [qpu]
 refine qtk (i := 24) (oi := fxg6o10) (v := (.bool false)) hHeld ?_ ?_
 ·intro w9 hSw
  try dsimp only at hSw
  go_simp
 try simp only [qpu]
 refine qtk (i := 25) (oi := fxg6o8) (v := (.bool false)) hHeld ?_ ?_
 ·intro w9 hSw
  try dsimp only at hSw
  go_simp
 try simp only [qpu]
 refine wpAnyH_done (by kernel_rfl) ?_ _
 refine NoPanic.normal ?_
 go_wp2_with (first | (refine wpList_load_blk_w (by rfl) _ _ rfl w.heap.size (by rfl) _ Cx43 Try.underlying31 (by kernel_rfl) ?_) | (refine wpList_load_blk_w (by rfl) _ _ rfl W1.heap.size (by rfl) _ Gx43 Try.underlying96 (by kernel_rfl) ?_))
 have Cd := Cx43.drew
 have Gd := Gx43.drew
 have Zd := Zx43.drew
 have bd := bx43.drew
 refine wp_region_noPanic ?_
 refine wp_region_held_drew (S := fun w' => Blk w' w.heap.size 31 (Cn.v ⟨st, n0, n1, e0, e1, k0, k1, d0, d1⟩) ∧ Blk w' W1.heap.size 96 (Gt.v ⟨fl, win, sz, sq, ak⟩)) (by kernel_rfl) (by exact ⟨Cd, Gd⟩) (fun hHeld => ?_)
 refine qty (i := 0) (oi := fxg6o28) (v := (.agg (Gt.v ⟨fl, win, sz, sq, ak⟩))) (yieldsIf_blk_w (by kernel_rfl) _ _ rfl W1.heap.size (by rfl) _ (fun _ hSw => hSw.2) Try.underlying96 (by kernel_rfl)) hHeld ?_
 try simp only [qpu]
 refine qtk (i := 2) (oi := fxg6o32) (v := (.int .i64 0)) hHeld ?_ ?_
 ·intro w9 hSw
  try dsimp only at hSw
  go_simp
 try simp only [qpu]
 refine qtk (i := 3) (oi := fxg6o30) (v := (.pointer (some ⟨w.heap.size, 1, none⟩))) hHeld ?_ ?_
 ·intro w9 hSw
  try dsimp only at hSw
  go_simp
 try simp only [qpu]
 refine qtk (i := 4) (oi := fxg6o16) (v := (.pointer (some ⟨w.heap.size, 1, none⟩))) hHeld ?_ ?_
 ·intro w9 hSw
  try dsimp only at hSw
  go_simp
 try simp only [qpu]
 refine qtk (i := 5) (oi := fxg6o24) (v := (.int .u32 n0)) hHeld ?_ ?_
 ·intro w9 hSw
  try dsimp only at hSw
  have hcc := hSw.1.cell 1 (.int .u32 n0) rfl
  go_simp
 try simp only [qpu]
 refine wpAnyH_ready (rs := [1]) (by kernel_rfl) (by simp) ?_
 refine AllReadyH.cons (o := fxg6o6) rfl (fun K hK => ?_) AllReadyH.nil
 go_simp
 refine Calls.mono (KE.out _) ?_
 rintro e Wx81 ⟨rfl, bb⟩
 have Cx81 := Cd.kept bb
 have Gx81 := Gd.kept bb
 have Zx81 := Zd.kept bb
 have bx81 := bel_tr bd bb
 clear bb
 refine hK.out _ _ (by exact ⟨Cx81, Gx81⟩) (fun hHeld => ?_)
 clear hK K
 try simp only [qpu]
 refine wpAnyH_ready (rs := [6]) (by kernel_rfl) (by simp) ?_
 refine AllReadyH.cons (o := fxg6o3) rfl (fun K hK => ?_) AllReadyH.nil
 go_simp
 refine Calls.mono (KP.out _) ?_
 rintro e Wx82 ⟨rfl, bb⟩
 have Cx82 := Cx81.kept bb
 have Gx82 := Gx81.kept bb
 have Zx82 := Zx81.kept bb
 have bx82 := bel_tr bx81 bb
 clear bb
 refine hK.out _ _ (by exact ⟨Cx82, Gx82⟩) (fun hHeld => ?_)
 clear hK K
 try simp only [qpu]
 refine wpAnyH_done (by kernel_rfl) ?_ _
 refine NoPanic.normal ?_
 have u4 := Cx82.cell 4 (.int .u32 e1) rfl
 have g0 := Gx82.cell 0 (.int .i64 fl) rfl
 have g1 := Gx82.cell 1 (.int .i64 win) rfl
 have g4 := Gx82.cell 4 (.int .u32 ak) rfl
 go_wp2_with (first | (refine wpList_load_blk_w (by rfl) _ _ rfl w.heap.size (by rfl) _ Cx82 Try.underlying31 (by kernel_rfl) ?_) | (refine wpList_load_blk_w (by rfl) _ _ rfl W1.heap.size (by rfl) _ Gx82 Try.underlying96 (by kernel_rfl) ?_))
 clear u4 g0 g1 g4
 refine Calls.mono (KO.out _) ?_
 rintro e Wx82o ⟨rfl, bb⟩
 have Cx82o := Cx82.kept bb
 have Gx82o := Gx82.kept bb
 have Zx82o := Zx82.kept bb
 have bx82o := bel_tr bx82 bb
 clear bb
 clear Cx82 Gx82 Zx82 bx82
 have y4 := Cx82o.cell 4 (.int .u32 e1) rfl
 have z4 := Cx82o.frozen 4
 obtain ⟨Wx82oq, hWx82oq⟩ : ∃ W, Wx82o.setCell ⟨w.heap.size, 4, none⟩ (.int .u32 ((ak + win) % 4294967296)) = W := ⟨_, rfl⟩
 have Cx82oq : Blk Wx82oq w.heap.size 31 (Cn.v ⟨st, n0, n1, e0, ((ak + win) % 4294967296), k0, k1, d0, d1⟩) := hWx82oq ▸ Cx82o.put 4 (.int .u32 ((ak + win) % 4294967296))
 have Gx82oq := hWx82oq ▸ Gx82o.put_other Cx82o nGC 4 (.int .u32 ((ak + win) % 4294967296))
 have Zx82oq := hWx82oq ▸ Zx82o.put_other Cx82o nZC 4 (.int .u32 ((ak + win) % 4294967296))
 have bx82oq := hWx82oq ▸ bx82o.setCell (p := ⟨w.heap.size, 4, none⟩) (Nat.le_refl _) (.int .u32 ((ak + win) % 4294967296))
 have g0 := Gx82oq.cell 0 (.int .i64 fl) rfl
 cases A1 with
 | false =>
  cases d0 with
  | false =>
   cases d1 with
   | false =>
    have y0 := Cx82oq.cell 0 (.int .i64 st) rfl
    have z0 := Cx82oq.frozen 0
    obtain ⟨Wx82oqs, hWx82oqs⟩ : ∃ W, Wx82oq.setCell ⟨w.heap.size, 0, none⟩ (.int .i64 3) = W := ⟨_, rfl⟩
    have Cx82oqs : Blk Wx82oqs w.heap.size 31 (Cn.v ⟨3, n0, n1, e0, ((ak + win) % 4294967296), k0, k1, false, false⟩) := hWx82oqs ▸ Cx82oq.put 0 (.int .i64 3)
    have Gx82oqs := hWx82oqs ▸ Gx82oq.put_other Cx82oq nGC 0 (.int .i64 3)
    have Zx82oqs := hWx82oqs ▸ Zx82oq.put_other Cx82oq nZC 0 (.int .i64 3)
    have bx82oqs := hWx82oqs ▸ bx82oq.setCell (p := ⟨w.heap.size, 0, none⟩) (Nat.le_refl _) (.int .i64 3)
    have t7 := Cx82oqs.cell 7 (.bool false) rfl
    have t8 := Cx82oqs.cell 8 (.bool false) rfl
    have Zf := Zx82oqs.set (Cn.v ⟨3, n0, n1, e0, ((ak + win) % 4294967296), k0, k1, false, false⟩)
    have bf := below_setRow bx82oqs gZ (Cn.v ⟨3, n0, n1, e0, ((ak + win) % 4294967296), k0, k1, false, false⟩)
    go_wp2_with (first | (refine wpList_load_blk_w (by rfl) _ _ rfl w.heap.size (by rfl) _ Cx82oqs Try.underlying31 (by kernel_rfl) ?_) | (refine wpList_load_blk_w (by rfl) _ _ rfl W1.heap.size (by rfl) _ Gx82oqs Try.underlying96 (by kernel_rfl) ?_) | (refine wpList_store_row rfl _ _ _ rfl W2.heap.size (Cn.v ⟨3, n0, n1, e0, ((ak + win) % 4294967296), k0, k1, false, false⟩) (by rfl) (by rfl) _ _ Zx82oqs (by kernel_rfl) (by rfl) (by kernel_rfl) ?_))
    obtain rfl : ((⟨3, n0, n1, e0, ((ak + win) % 4294967296), k0, k1, false, false⟩ : Cn), (0 : Int)) = R := by rw [← HR.out]; first | rfl | simp [Cn.ret]
    exact ret_cell_tmp (k := 6) (j := 7) Try.f46 (by kernel_rfl) Zf Try.underlying31 (by kernel_rfl) (by rfl) (by rfl) rfl ⟨rfl, bf⟩

   | true =>
    have y0 := Cx82oq.cell 0 (.int .i64 st) rfl
    have z0 := Cx82oq.frozen 0
    obtain ⟨Wx82oqs, hWx82oqs⟩ : ∃ W, Wx82oq.setCell ⟨w.heap.size, 0, none⟩ (.int .i64 3) = W := ⟨_, rfl⟩
    have Cx82oqs : Blk Wx82oqs w.heap.size 31 (Cn.v ⟨3, n0, n1, e0, ((ak + win) % 4294967296), k0, k1, false, true⟩) := hWx82oqs ▸ Cx82oq.put 0 (.int .i64 3)
    have Gx82oqs := hWx82oqs ▸ Gx82oq.put_other Cx82oq nGC 0 (.int .i64 3)
    have Zx82oqs := hWx82oqs ▸ Zx82oq.put_other Cx82oq nZC 0 (.int .i64 3)
    have bx82oqs := hWx82oqs ▸ bx82oq.setCell (p := ⟨w.heap.size, 0, none⟩) (Nat.le_refl _) (.int .i64 3)
    have t7 := Cx82oqs.cell 7 (.bool false) rfl
    have t8 := Cx82oqs.cell 8 (.bool true) rfl
    have y0 := Cx82oqs.cell 0 (.int .i64 3) rfl
    have z0 := Cx82oqs.frozen 0
    obtain ⟨Wx82oqss, hWx82oqss⟩ : ∃ W, Wx82oqs.setCell ⟨w.heap.size, 0, none⟩ (.int .i64 4) = W := ⟨_, rfl⟩
    have Cx82oqss : Blk Wx82oqss w.heap.size 31 (Cn.v ⟨4, n0, n1, e0, ((ak + win) % 4294967296), k0, k1, false, true⟩) := hWx82oqss ▸ Cx82oqs.put 0 (.int .i64 4)
    have Gx82oqss := hWx82oqss ▸ Gx82oqs.put_other Cx82oqs nGC 0 (.int .i64 4)
    have Zx82oqss := hWx82oqss ▸ Zx82oqs.put_other Cx82oqs nZC 0 (.int .i64 4)
    have bx82oqss := hWx82oqss ▸ bx82oqs.setCell (p := ⟨w.heap.size, 0, none⟩) (Nat.le_refl _) (.int .i64 4)
    have t7 := Cx82oqss.cell 7 (.bool false) rfl
    have t8 := Cx82oqss.cell 8 (.bool true) rfl
    have Zf := Zx82oqss.set (Cn.v ⟨4, n0, n1, e0, ((ak + win) % 4294967296), k0, k1, false, true⟩)
    have bf := below_setRow bx82oqss gZ (Cn.v ⟨4, n0, n1, e0, ((ak + win) % 4294967296), k0, k1, false, true⟩)
    go_wp2_with (first | (refine wpList_load_blk_w (by rfl) _ _ rfl w.heap.size (by rfl) _ Cx82oqss Try.underlying31 (by kernel_rfl) ?_) | (refine wpList_load_blk_w (by rfl) _ _ rfl W1.heap.size (by rfl) _ Gx82oqss Try.underlying96 (by kernel_rfl) ?_) | (refine wpList_store_row rfl _ _ _ rfl W2.heap.size (Cn.v ⟨4, n0, n1, e0, ((ak + win) % 4294967296), k0, k1, false, true⟩) (by rfl) (by rfl) _ _ Zx82oqss (by kernel_rfl) (by rfl) (by kernel_rfl) ?_))
    obtain rfl : ((⟨4, n0, n1, e0, ((ak + win) % 4294967296), k0, k1, false, true⟩ : Cn), (0 : Int)) = R := by rw [← HR.out]; first | rfl | simp [Cn.ret]
    exact ret_cell_tmp (k := 6) (j := 7) Try.f46 (by kernel_rfl) Zf Try.underlying31 (by kernel_rfl) (by rfl) (by rfl) rfl ⟨rfl, bf⟩


  | true =>
   cases d1 with
   | false =>
    have y0 := Cx82oq.cell 0 (.int .i64 st) rfl
    have z0 := Cx82oq.frozen 0
    obtain ⟨Wx82oqs, hWx82oqs⟩ : ∃ W, Wx82oq.setCell ⟨w.heap.size, 0, none⟩ (.int .i64 3) = W := ⟨_, rfl⟩
    have Cx82oqs : Blk Wx82oqs w.heap.size 31 (Cn.v ⟨3, n0, n1, e0, ((ak + win) % 4294967296), k0, k1, true, false⟩) := hWx82oqs ▸ Cx82oq.put 0 (.int .i64 3)
    have Gx82oqs := hWx82oqs ▸ Gx82oq.put_other Cx82oq nGC 0 (.int .i64 3)
    have Zx82oqs := hWx82oqs ▸ Zx82oq.put_other Cx82oq nZC 0 (.int .i64 3)
    have bx82oqs := hWx82oqs ▸ bx82oq.setCell (p := ⟨w.heap.size, 0, none⟩) (Nat.le_refl _) (.int .i64 3)
    have t7 := Cx82oqs.cell 7 (.bool true) rfl
    have t8 := Cx82oqs.cell 8 (.bool false) rfl
    have y0 := Cx82oqs.cell 0 (.int .i64 3) rfl
    have z0 := Cx82oqs.frozen 0
    obtain ⟨Wx82oqss, hWx82oqss⟩ : ∃ W, Wx82oqs.setCell ⟨w.heap.size, 0, none⟩ (.int .i64 4) = W := ⟨_, rfl⟩
    have Cx82oqss : Blk Wx82oqss w.heap.size 31 (Cn.v ⟨4, n0, n1, e0, ((ak + win) % 4294967296), k0, k1, true, false⟩) := hWx82oqss ▸ Cx82oqs.put 0 (.int .i64 4)
    have Gx82oqss := hWx82oqss ▸ Gx82oqs.put_other Cx82oqs nGC 0 (.int .i64 4)
    have Zx82oqss := hWx82oqss ▸ Zx82oqs.put_other Cx82oqs nZC 0 (.int .i64 4)
    have bx82oqss := hWx82oqss ▸ bx82oqs.setCell (p := ⟨w.heap.size, 0, none⟩) (Nat.le_refl _) (.int .i64 4)
    have t7 := Cx82oqss.cell 7 (.bool true) rfl
    have t8 := Cx82oqss.cell 8 (.bool false) rfl
    have Zf := Zx82oqss.set (Cn.v ⟨4, n0, n1, e0, ((ak + win) % 4294967296), k0, k1, true, false⟩)
    have bf := below_setRow bx82oqss gZ (Cn.v ⟨4, n0, n1, e0, ((ak + win) % 4294967296), k0, k1, true, false⟩)
    go_wp2_with (first | (refine wpList_load_blk_w (by rfl) _ _ rfl w.heap.size (by rfl) _ Cx82oqss Try.underlying31 (by kernel_rfl) ?_) | (refine wpList_load_blk_w (by rfl) _ _ rfl W1.heap.size (by rfl) _ Gx82oqss Try.underlying96 (by kernel_rfl) ?_) | (refine wpList_store_row rfl _ _ _ rfl W2.heap.size (Cn.v ⟨4, n0, n1, e0, ((ak + win) % 4294967296), k0, k1, true, false⟩) (by rfl) (by rfl) _ _ Zx82oqss (by kernel_rfl) (by rfl) (by kernel_rfl) ?_))
    obtain rfl : ((⟨4, n0, n1, e0, ((ak + win) % 4294967296), k0, k1, true, false⟩ : Cn), (0 : Int)) = R := by rw [← HR.out]; first | rfl | simp [Cn.ret]
    exact ret_cell_tmp (k := 6) (j := 7) Try.f46 (by kernel_rfl) Zf Try.underlying31 (by kernel_rfl) (by rfl) (by rfl) rfl ⟨rfl, bf⟩

   | true =>
    have y0 := Cx82oq.cell 0 (.int .i64 st) rfl
    have z0 := Cx82oq.frozen 0
    obtain ⟨Wx82oqs, hWx82oqs⟩ : ∃ W, Wx82oq.setCell ⟨w.heap.size, 0, none⟩ (.int .i64 3) = W := ⟨_, rfl⟩
    have Cx82oqs : Blk Wx82oqs w.heap.size 31 (Cn.v ⟨3, n0, n1, e0, ((ak + win) % 4294967296), k0, k1, true, true⟩) := hWx82oqs ▸ Cx82oq.put 0 (.int .i64 3)
    have Gx82oqs := hWx82oqs ▸ Gx82oq.put_other Cx82oq nGC 0 (.int .i64 3)
    have Zx82oqs := hWx82oqs ▸ Zx82oq.put_other Cx82oq nZC 0 (.int .i64 3)
    have bx82oqs := hWx82oqs ▸ bx82oq.setCell (p := ⟨w.heap.size, 0, none⟩) (Nat.le_refl _) (.int .i64 3)
    have t7 := Cx82oqs.cell 7 (.bool true) rfl
    have t8 := Cx82oqs.cell 8 (.bool true) rfl
    have y0 := Cx82oqs.cell 0 (.int .i64 3) rfl
    have z0 := Cx82oqs.frozen 0
    obtain ⟨Wx82oqss, hWx82oqss⟩ : ∃ W, Wx82oqs.setCell ⟨w.heap.size, 0, none⟩ (.int .i64 4) = W := ⟨_, rfl⟩
    have Cx82oqss : Blk Wx82oqss w.heap.size 31 (Cn.v ⟨4, n0, n1, e0, ((ak + win) % 4294967296), k0, k1, true, true⟩) := hWx82oqss ▸ Cx82oqs.put 0 (.int .i64 4)
    have Gx82oqss := hWx82oqss ▸ Gx82oqs.put_other Cx82oqs nGC 0 (.int .i64 4)
    have Zx82oqss := hWx82oqss ▸ Zx82oqs.put_other Cx82oqs nZC 0 (.int .i64 4)
    have bx82oqss := hWx82oqss ▸ bx82oqs.setCell (p := ⟨w.heap.size, 0, none⟩) (Nat.le_refl _) (.int .i64 4)
    have t7 := Cx82oqss.cell 7 (.bool true) rfl
    have t8 := Cx82oqss.cell 8 (.bool true) rfl
    have y0 := Cx82oqss.cell 0 (.int .i64 4) rfl
    have z0 := Cx82oqss.frozen 0
    obtain ⟨Wx82oqsss, hWx82oqsss⟩ : ∃ W, Wx82oqss.setCell ⟨w.heap.size, 0, none⟩ (.int .i64 5) = W := ⟨_, rfl⟩
    have Cx82oqsss : Blk Wx82oqsss w.heap.size 31 (Cn.v ⟨5, n0, n1, e0, ((ak + win) % 4294967296), k0, k1, true, true⟩) := hWx82oqsss ▸ Cx82oqss.put 0 (.int .i64 5)
    have Gx82oqsss := hWx82oqsss ▸ Gx82oqss.put_other Cx82oqss nGC 0 (.int .i64 5)
    have Zx82oqsss := hWx82oqsss ▸ Zx82oqss.put_other Cx82oqss nZC 0 (.int .i64 5)
    have bx82oqsss := hWx82oqsss ▸ bx82oqss.setCell (p := ⟨w.heap.size, 0, none⟩) (Nat.le_refl _) (.int .i64 5)
    have t7 := Cx82oqsss.cell 7 (.bool true) rfl
    have t8 := Cx82oqsss.cell 8 (.bool true) rfl
    have Zf := Zx82oqsss.set (Cn.v ⟨5, n0, n1, e0, ((ak + win) % 4294967296), k0, k1, true, true⟩)
    have bf := below_setRow bx82oqsss gZ (Cn.v ⟨5, n0, n1, e0, ((ak + win) % 4294967296), k0, k1, true, true⟩)
    go_wp2_with (first | (refine wpList_load_blk_w (by rfl) _ _ rfl w.heap.size (by rfl) _ Cx82oqsss Try.underlying31 (by kernel_rfl) ?_) | (refine wpList_load_blk_w (by rfl) _ _ rfl W1.heap.size (by rfl) _ Gx82oqsss Try.underlying96 (by kernel_rfl) ?_) | (refine wpList_store_row rfl _ _ _ rfl W2.heap.size (Cn.v ⟨5, n0, n1, e0, ((ak + win) % 4294967296), k0, k1, true, true⟩) (by rfl) (by rfl) _ _ Zx82oqsss (by kernel_rfl) (by rfl) (by kernel_rfl) ?_))
    obtain rfl : ((⟨5, n0, n1, e0, ((ak + win) % 4294967296), k0, k1, true, true⟩ : Cn), (0 : Int)) = R := by rw [← HR.out]; first | rfl | simp [Cn.ret]
    exact ret_cell_tmp (k := 6) (j := 7) Try.f46 (by kernel_rfl) Zf Try.underlying31 (by kernel_rfl) (by rfl) (by rfl) rfl ⟨rfl, bf⟩



 | true =>
  have y7 := Cx82oq.cell 7 (.bool d0) rfl
  have z7 := Cx82oq.frozen 7
  obtain ⟨Wx82oqf, hWx82oqf⟩ : ∃ W, Wx82oq.setCell ⟨w.heap.size, 7, none⟩ (.bool true) = W := ⟨_, rfl⟩
  have Cx82oqf : Blk Wx82oqf w.heap.size 31 (Cn.v ⟨st, n0, n1, e0, ((ak + win) % 4294967296), k0, k1, true, d1⟩) := hWx82oqf ▸ Cx82oq.put 7 (.bool true)
  have Gx82oqf := hWx82oqf ▸ Gx82oq.put_other Cx82oq nGC 7 (.bool true)
  have Zx82oqf := hWx82oqf ▸ Zx82oq.put_other Cx82oq nZC 7 (.bool true)
  have bx82oqf := hWx82oqf ▸ bx82oq.setCell (p := ⟨w.heap.size, 7, none⟩) (Nat.le_refl _) (.bool true)
  cases d1 with
  | false =>
   have y0 := Cx82oqf.cell 0 (.int .i64 st) rfl
   have z0 := Cx82oqf.frozen 0
   obtain ⟨Wx82oqfs, hWx82oqfs⟩ : ∃ W, Wx82oqf.setCell ⟨w.heap.size, 0, none⟩ (.int .i64 3) = W := ⟨_, rfl⟩
   have Cx82oqfs : Blk Wx82oqfs w.heap.size 31 (Cn.v ⟨3, n0, n1, e0, ((ak + win) % 4294967296), k0, k1, true, false⟩) := hWx82oqfs ▸ Cx82oqf.put 0 (.int .i64 3)
   have Gx82oqfs := hWx82oqfs ▸ Gx82oqf.put_other Cx82oqf nGC 0 (.int .i64 3)
   have Zx82oqfs := hWx82oqfs ▸ Zx82oqf.put_other Cx82oqf nZC 0 (.int .i64 3)
   have bx82oqfs := hWx82oqfs ▸ bx82oqf.setCell (p := ⟨w.heap.size, 0, none⟩) (Nat.le_refl _) (.int .i64 3)
   have t7 := Cx82oqfs.cell 7 (.bool true) rfl
   have t8 := Cx82oqfs.cell 8 (.bool false) rfl
   have y0 := Cx82oqfs.cell 0 (.int .i64 3) rfl
   have z0 := Cx82oqfs.frozen 0
   obtain ⟨Wx82oqfss, hWx82oqfss⟩ : ∃ W, Wx82oqfs.setCell ⟨w.heap.size, 0, none⟩ (.int .i64 4) = W := ⟨_, rfl⟩
   have Cx82oqfss : Blk Wx82oqfss w.heap.size 31 (Cn.v ⟨4, n0, n1, e0, ((ak + win) % 4294967296), k0, k1, true, false⟩) := hWx82oqfss ▸ Cx82oqfs.put 0 (.int .i64 4)
   have Gx82oqfss := hWx82oqfss ▸ Gx82oqfs.put_other Cx82oqfs nGC 0 (.int .i64 4)
   have Zx82oqfss := hWx82oqfss ▸ Zx82oqfs.put_other Cx82oqfs nZC 0 (.int .i64 4)
   have bx82oqfss := hWx82oqfss ▸ bx82oqfs.setCell (p := ⟨w.heap.size, 0, none⟩) (Nat.le_refl _) (.int .i64 4)
   have t7 := Cx82oqfss.cell 7 (.bool true) rfl
   have t8 := Cx82oqfss.cell 8 (.bool false) rfl
   have Zf := Zx82oqfss.set (Cn.v ⟨4, n0, n1, e0, ((ak + win) % 4294967296), k0, k1, true, false⟩)
   have bf := below_setRow bx82oqfss gZ (Cn.v ⟨4, n0, n1, e0, ((ak + win) % 4294967296), k0, k1, true, false⟩)
   go_wp2_with (first | (refine wpList_load_blk_w (by rfl) _ _ rfl w.heap.size (by rfl) _ Cx82oqfss Try.underlying31 (by kernel_rfl) ?_) | (refine wpList_load_blk_w (by rfl) _ _ rfl W1.heap.size (by rfl) _ Gx82oqfss Try.underlying96 (by kernel_rfl) ?_) | (refine wpList_store_row rfl _ _ _ rfl W2.heap.size (Cn.v ⟨4, n0, n1, e0, ((ak + win) % 4294967296), k0, k1, true, false⟩) (by rfl) (by rfl) _ _ Zx82oqfss (by kernel_rfl) (by rfl) (by kernel_rfl) ?_))
   obtain rfl : ((⟨4, n0, n1, e0, ((ak + win) % 4294967296), k0, k1, true, false⟩ : Cn), (0 : Int)) = R := by rw [← HR.out]; first | rfl | simp [Cn.ret]
   exact ret_cell_tmp (k := 6) (j := 7) Try.f46 (by kernel_rfl) Zf Try.underlying31 (by kernel_rfl) (by rfl) (by rfl) rfl ⟨rfl, bf⟩

  | true =>
   have y0 := Cx82oqf.cell 0 (.int .i64 st) rfl
   have z0 := Cx82oqf.frozen 0
   obtain ⟨Wx82oqfs, hWx82oqfs⟩ : ∃ W, Wx82oqf.setCell ⟨w.heap.size, 0, none⟩ (.int .i64 3) = W := ⟨_, rfl⟩
   have Cx82oqfs : Blk Wx82oqfs w.heap.size 31 (Cn.v ⟨3, n0, n1, e0, ((ak + win) % 4294967296), k0, k1, true, true⟩) := hWx82oqfs ▸ Cx82oqf.put 0 (.int .i64 3)
   have Gx82oqfs := hWx82oqfs ▸ Gx82oqf.put_other Cx82oqf nGC 0 (.int .i64 3)
   have Zx82oqfs := hWx82oqfs ▸ Zx82oqf.put_other Cx82oqf nZC 0 (.int .i64 3)
   have bx82oqfs := hWx82oqfs ▸ bx82oqf.setCell (p := ⟨w.heap.size, 0, none⟩) (Nat.le_refl _) (.int .i64 3)
   have t7 := Cx82oqfs.cell 7 (.bool true) rfl
   have t8 := Cx82oqfs.cell 8 (.bool true) rfl
   have y0 := Cx82oqfs.cell 0 (.int .i64 3) rfl
   have z0 := Cx82oqfs.frozen 0
   obtain ⟨Wx82oqfss, hWx82oqfss⟩ : ∃ W, Wx82oqfs.setCell ⟨w.heap.size, 0, none⟩ (.int .i64 4) = W := ⟨_, rfl⟩
   have Cx82oqfss : Blk Wx82oqfss w.heap.size 31 (Cn.v ⟨4, n0, n1, e0, ((ak + win) % 4294967296), k0, k1, true, true⟩) := hWx82oqfss ▸ Cx82oqfs.put 0 (.int .i64 4)
   have Gx82oqfss := hWx82oqfss ▸ Gx82oqfs.put_other Cx82oqfs nGC 0 (.int .i64 4)
   have Zx82oqfss := hWx82oqfss ▸ Zx82oqfs.put_other Cx82oqfs nZC 0 (.int .i64 4)
   have bx82oqfss := hWx82oqfss ▸ bx82oqfs.setCell (p := ⟨w.heap.size, 0, none⟩) (Nat.le_refl _) (.int .i64 4)
   have t7 := Cx82oqfss.cell 7 (.bool true) rfl
   have t8 := Cx82oqfss.cell 8 (.bool true) rfl
   have y0 := Cx82oqfss.cell 0 (.int .i64 4) rfl
   have z0 := Cx82oqfss.frozen 0
   obtain ⟨Wx82oqfsss, hWx82oqfsss⟩ : ∃ W, Wx82oqfss.setCell ⟨w.heap.size, 0, none⟩ (.int .i64 5) = W := ⟨_, rfl⟩
   have Cx82oqfsss : Blk Wx82oqfsss w.heap.size 31 (Cn.v ⟨5, n0, n1, e0, ((ak + win) % 4294967296), k0, k1, true, true⟩) := hWx82oqfsss ▸ Cx82oqfss.put 0 (.int .i64 5)
   have Gx82oqfsss := hWx82oqfsss ▸ Gx82oqfss.put_other Cx82oqfss nGC 0 (.int .i64 5)
   have Zx82oqfsss := hWx82oqfsss ▸ Zx82oqfss.put_other Cx82oqfss nZC 0 (.int .i64 5)
   have bx82oqfsss := hWx82oqfsss ▸ bx82oqfss.setCell (p := ⟨w.heap.size, 0, none⟩) (Nat.le_refl _) (.int .i64 5)
   have t7 := Cx82oqfsss.cell 7 (.bool true) rfl
   have t8 := Cx82oqfsss.cell 8 (.bool true) rfl
   have Zf := Zx82oqfsss.set (Cn.v ⟨5, n0, n1, e0, ((ak + win) % 4294967296), k0, k1, true, true⟩)
   have bf := below_setRow bx82oqfsss gZ (Cn.v ⟨5, n0, n1, e0, ((ak + win) % 4294967296), k0, k1, true, true⟩)
   go_wp2_with (first | (refine wpList_load_blk_w (by rfl) _ _ rfl w.heap.size (by rfl) _ Cx82oqfsss Try.underlying31 (by kernel_rfl) ?_) | (refine wpList_load_blk_w (by rfl) _ _ rfl W1.heap.size (by rfl) _ Gx82oqfsss Try.underlying96 (by kernel_rfl) ?_) | (refine wpList_store_row rfl _ _ _ rfl W2.heap.size (Cn.v ⟨5, n0, n1, e0, ((ak + win) % 4294967296), k0, k1, true, true⟩) (by rfl) (by rfl) _ _ Zx82oqfsss (by kernel_rfl) (by rfl) (by kernel_rfl) ?_))
   obtain rfl : ((⟨5, n0, n1, e0, ((ak + win) % 4294967296), k0, k1, true, true⟩ : Cn), (0 : Int)) = R := by rw [← HR.out]; first | rfl | simp [Cn.ret]
   exact ret_cell_tmp (k := 6) (j := 7) Try.f46 (by kernel_rfl) Zf Try.underlying31 (by kernel_rfl) (by rfl) (by rfl) rfl ⟨rfl, bf⟩
set_option maxRecDepth 100000 in
set_option maxHeartbeats 4000000 in
theorem rstep0tf_tc (c : Cn) (g : Gt) (w : World) (qRR : c.right = true) (qIW : inB15 g.win = true) (qIZ : inB15 g.sz = true) (qA4 : flB g.fl 4 = false) (qX6 : (c.st == 6) = false) (qA2 : flB g.fl 2 = false) (qA16 : flB g.fl 16 = true) (qX1 : (c.st == 1) = false) (qV : c.win false g = true) (qQ1 : frB g.ak ((c.n1 - 65535) % 4294967296) = true) (qQ2 : frB c.n1 g.ak = true) (qP : frB g.e c.n0 = true) (qO : frB ((g.ak + g.win) % 4294967296) c.e1 = false) :
  Calls Try.prog 46 #[.agg c.v, .int .i64 0, .agg g.v] w fun e w' => e = .returned (.tuple #[.agg (c.step 0 g).1.v, .int .i64 (c.step 0 g).2]) ∧ Below w.heap.size w w' := by
 obtain ⟨R, hR⟩ : ∃ R, c.step 0 g = R := ⟨_, rfl⟩
 have HR : Hid ((if c.right && (inB15 g.win && inB15 g.sz) then (if flB g.fl 4 then Cn.ret (if c.win false g || (false && (c.st == 1 && (flB g.fl 16 && g.ak == c.n0))) then some ⟨6, c.n0, c.n1, c.e0, c.e1, c.k0, c.k1, c.d0, c.d1⟩ else none) else if c.st == 6 then (cn0, 23) else if flB g.fl 2 then Cn.ret (c.syn false g) else if !flB g.fl 16 || (c.st == 1 || (false && c.st == 2)) then (cn0, 23) else Cn.ret (if c.win false g && (frB g.ak ((c.n1 - 65535) % 4294967296) && frB c.n1 g.ak) then some (c.byR false g.e ((g.ak + g.win) % 4294967296) (frB g.e c.n0) (frB ((g.ak + g.win) % 4294967296) c.e1) (flB g.fl 1)) else none)) else (cn0, 1)) = R) := by
  have h : (if c.right && (inB15 g.win && inB15 g.sz) then Cn.ret (c.take false g) else (cn0, 1)) = R := hR
  have k : Cn.ret (c.take false g) = (if flB g.fl 4 then Cn.ret (if c.win false g || (false && (c.st == 1 && (flB g.fl 16 && g.ak == c.n0))) then some ⟨6, c.n0, c.n1, c.e0, c.e1, c.k0, c.k1, c.d0, c.d1⟩ else none) else if c.st == 6 then (cn0, 23) else if flB g.fl 2 then Cn.ret (c.syn false g) else if !flB g.fl 16 || (c.st == 1 || (false && c.st == 2)) then (cn0, 23) else Cn.ret (if c.win false g && (frB g.ak ((c.n1 - 65535) % 4294967296) && frB c.n1 g.ak) then some (c.byR false g.e ((g.ak + g.win) % 4294967296) (frB g.e c.n0) (frB ((g.ak + g.win) % 4294967296) c.e1) (flB g.fl 1)) else none)) := by
   unfold Cn.take
   split
   ·rfl
   ·split
    ·rfl
    ·split
     ·rfl
     ·split <;> rfl
  rw [k] at h
  exact h
 rw [hR]
 clear hR
 have KR : Hid (∀ W, Calls Try.prog 41 #[.agg c.v] W fun e w' => e = .returned (.bool c.right) ∧ Below W.heap.size W w') := fun W => rright_tc c W
 have KZ : Hid (∀ W, Calls Try.prog 65 #[.int .i64 g.sz] W fun e w' => e = .returned (.bool (inB15 g.sz)) ∧ Below W.heap.size W w') := fun W => rin_tc g.sz W
 have KV : Hid (∀ W, Calls Try.prog 65 #[.int .i64 g.win] W fun e w' => e = .returned (.bool (inB15 g.win)) ∧ Below W.heap.size W w') := fun W => rin_tc g.win W
 have KW : Hid (∀ W, Calls Try.prog 69 #[.agg c.v, .int .i64 0, .agg g.v] W fun e w' => e = .returned (.bool (c.win false g)) ∧ Below W.heap.size W w') := fun W => rwindow0_tc c g W
 have KS : Hid (∀ W, Calls Try.prog 70 #[.agg c.v, .int .i64 0, .agg g.v] W fun e w' => e = .returned (.tuple #[.agg (Cn.ret (c.syn false g)).1.v, .int .i64 (Cn.ret (c.syn false g)).2]) ∧ Below W.heap.size W w') := fun W => rsyn0_tc c g W
 have KE : Hid (∀ W, Calls Try.prog 72 #[.agg g.v] W fun e w' => e = .returned (.int .u32 g.e) ∧ Below W.heap.size W w') := fun W => rend_tc g W
 have KQ1 : Hid (∀ W, Calls Try.prog 71 #[.int .u32 (g.ak), .int .u32 ((c.n1 - 65535) % 4294967296)] W fun e w' => e = .returned (.bool (frB (g.ak) ((c.n1 - 65535) % 4294967296))) ∧ Below W.heap.size W w') := fun W => rfrom_tc _ _ W
 have KQ2 : Hid (∀ W, Calls Try.prog 71 #[.int .u32 (c.n1), .int .u32 (g.ak)] W fun e w' => e = .returned (.bool (frB (c.n1) (g.ak))) ∧ Below W.heap.size W w') := fun W => rfrom_tc _ _ W
 have KP : Hid (∀ W, Calls Try.prog 71 #[.int .u32 (g.e), .int .u32 (c.n0)] W fun e w' => e = .returned (.bool (frB (g.e) (c.n0))) ∧ Below W.heap.size W w') := fun W => rfrom_tc _ _ W
 have KO : Hid (∀ W, Calls Try.prog 71 #[.int .u32 ((g.ak + g.win) % 4294967296), .int .u32 (c.e1)] W fun e w' => e = .returned (.bool (frB ((g.ak + g.win) % 4294967296) (c.e1))) ∧ Below W.heap.size W w') := fun W => rfrom_tc _ _ W
 generalize hQ1 : frB (g.ak) ((c.n1 - 65535) % 4294967296) = Q1 at *
 clear hQ1
 generalize hQ2 : frB (c.n1) (g.ak) = Q2 at *
 clear hQ2
 generalize hP : frB (g.e) (c.n0) = P at *
 clear hP
 generalize hO : frB ((g.ak + g.win) % 4294967296) (c.e1) = O at *
 clear hO
 generalize c.right = RR at *
 generalize inB15 g.win = IW at *
 generalize inB15 g.sz = IZ at *
 generalize c.win false g = V at *
 generalize Cn.ret (c.syn false g) = XS at *
 generalize hE : g.e = E at *
 clear hE
 obtain ⟨fl, win, sz, sq, ak⟩ := g
 obtain ⟨st, n0, n1, e0, e1, k0, k1, d0, d1⟩ := c
 dsimp only at *
 have hA16 : (bits .and .i64 fl 16 != 0) = flB fl 16 := rfl
 generalize flB fl 16 = A16 at *
 have hA4 : (bits .and .i64 fl 4 != 0) = flB fl 4 := rfl
 generalize flB fl 4 = A4 at *
 have hA2 : (bits .and .i64 fl 2 != 0) = flB fl 2 := rfl
 generalize flB fl 2 = A2 at *
 have hA1 : (bits .and .i64 fl 1 != 0) = flB fl 1 := rfl
 generalize flB fl 1 = A1 at *
 generalize h6 : (st == 6) = X6 at *
 generalize h1 : (st == 1) = X1 at *
 subst qRR qIW qIZ qA4 qX6 qA2 qA16 qX1 qV qQ1 qQ2 qP qO
 obtain ⟨W1, hW1⟩ : ∃ W, w.alloc (.cells (Cn.v ⟨st, n0, n1, e0, e1, k0, k1, d0, d1⟩) 31) = W := ⟨_, rfl⟩
 have b1 := bel_nw hW1
 have C1 := blk_nw hW1
 have g1 := C1.lt
 obtain ⟨W2, hW2⟩ : ∃ W, W1.alloc (.cells (Gt.v ⟨fl, win, sz, sq, ak⟩) 96) = W := ⟨_, rfl⟩
 have b2 := bel_al b1 hW2
 have C2 := C1.al hW2
 have G2 := blk_nw hW2
 have g2 := G2.lt
 obtain ⟨W3, hW3⟩ : ∃ W, W2.alloc (.cells #[.int .i64 0, .int .u32 0, .int .u32 0, .int .u32 0, .int .u32 0, .bool false, .bool false, .bool false, .bool false] 31) = W := ⟨_, rfl⟩
 have b3 := bel_al b2 hW3
 have C3 := C2.al hW3
 have G3 := G2.al hW3
 have Z3 := blk_nw hW3
 have nCG : w.heap.size ≠ W1.heap.size := by omega
 have nGC : W1.heap.size ≠ w.heap.size := by omega
 have nCZ : w.heap.size ≠ W2.heap.size := by omega
 have nGZ : W1.heap.size ≠ W2.heap.size := by omega
 have nZC : W2.heap.size ≠ w.heap.size := by omega
 have gZ : w.heap.size ≤ W2.heap.size := by omega
 have gG : w.heap.size ≤ W1.heap.size := by omega
 clear b1 b2 C1 C2 G2 g1 g2
 have c0 := C3.cell 0 (.int .i64 st) rfl
 have c1 := C3.cell 1 (.int .u32 n0) rfl
 have g0 := G3.cell 0 (.int .i64 fl) rfl
 have g1 := G3.cell 1 (.int .i64 win) rfl
 have g2 := G3.cell 2 (.int .i64 sz) rfl
 have g4 := G3.cell 4 (.int .u32 ak) rfl
 go_enter Try.func46, Try.ntmps46
 go_wp2_with (first | (refine wpList_load_blk_w (by rfl) _ _ rfl w.heap.size (by rfl) _ C3 Try.underlying31 (by kernel_rfl) ?_) | (refine wpList_load_blk_w (by rfl) _ _ rfl W1.heap.size (by rfl) _ G3 Try.underlying96 (by kernel_rfl) ?_))
 clear c0 c1 g0 g1 g2 g4
 refine Calls.mono (KR.out _) ?_
 rintro e W4 ⟨rfl, bb⟩
 have C4 := C3.kept bb
 have G4 := G3.kept bb
 have Z4 := Z3.kept bb
 have b4 := bel_tr b3 bb
 clear bb
 clear C3 G3 Z3 b3
 have c0 := C4.cell 0 (.int .i64 st) rfl
 have c1 := C4.cell 1 (.int .u32 n0) rfl
 have g0 := G4.cell 0 (.int .i64 fl) rfl
 have g1 := G4.cell 1 (.int .i64 win) rfl
 have g2 := G4.cell 2 (.int .i64 sz) rfl
 have g4 := G4.cell 4 (.int .u32 ak) rfl
 go_wp2_with (first | (refine wpList_load_blk_w (by rfl) _ _ rfl w.heap.size (by rfl) _ C4 Try.underlying31 (by kernel_rfl) ?_) | (refine wpList_load_blk_w (by rfl) _ _ rfl W1.heap.size (by rfl) _ G4 Try.underlying96 (by kernel_rfl) ?_))
 clear c0 c1 g0 g1 g2 g4
 refine Calls.mono (KV.out _) ?_
 rintro e W5 ⟨rfl, bb⟩
 have C5 := C4.kept bb
 have G5 := G4.kept bb
 have Z5 := Z4.kept bb
 have b5 := bel_tr b4 bb
 clear bb
 clear C4 G4 Z4 b4
 have c0 := C5.cell 0 (.int .i64 st) rfl
 have c1 := C5.cell 1 (.int .u32 n0) rfl
 have g0 := G5.cell 0 (.int .i64 fl) rfl
 have g1 := G5.cell 1 (.int .i64 win) rfl
 have g2 := G5.cell 2 (.int .i64 sz) rfl
 have g4 := G5.cell 4 (.int .u32 ak) rfl
 go_wp2_with (first | (refine wpList_load_blk_w (by rfl) _ _ rfl w.heap.size (by rfl) _ C5 Try.underlying31 (by kernel_rfl) ?_) | (refine wpList_load_blk_w (by rfl) _ _ rfl W1.heap.size (by rfl) _ G5 Try.underlying96 (by kernel_rfl) ?_))
 clear c0 c1 g0 g1 g2 g4
 refine Calls.mono (KZ.out _) ?_
 rintro e W6 ⟨rfl, bb⟩
 have C6 := C5.kept bb
 have G6 := G5.kept bb
 have Z6 := Z5.kept bb
 have b6 := bel_tr b5 bb
 clear bb
 clear C5 G5 Z5 b5
 have c0 := C6.cell 0 (.int .i64 st) rfl
 have c1 := C6.cell 1 (.int .u32 n0) rfl
 have g0 := G6.cell 0 (.int .i64 fl) rfl
 have g1 := G6.cell 1 (.int .i64 win) rfl
 have g2 := G6.cell 2 (.int .i64 sz) rfl
 have g4 := G6.cell 4 (.int .u32 ak) rfl
 go_wp2_with (first | (refine wpList_load_blk_w (by rfl) _ _ rfl w.heap.size (by rfl) _ C6 Try.underlying31 (by kernel_rfl) ?_) | (refine wpList_load_blk_w (by rfl) _ _ rfl W1.heap.size (by rfl) _ G6 Try.underlying96 (by kernel_rfl) ?_))
 clear c0 c1 g0 g1 g2 g4
 have Cd := C6.drew
 have Gd := G6.drew
 have Zd := Z6.drew
 have bd := b6.drew
 refine wp_region_noPanic ?_
 refine wp_region_held_drew (S := fun w' => Blk w' w.heap.size 31 (Cn.v ⟨st, n0, n1, e0, e1, k0, k1, d0, d1⟩) ∧ Blk w' W1.heap.size 96 (Gt.v ⟨fl, win, sz, sq, ak⟩)) (by kernel_rfl) (by exact ⟨Cd, Gd⟩) (fun hHeld => ?_)
 refine qty (i := 0) (oi := fxg6o29) (v := (.agg (Cn.v ⟨st, n0, n1, e0, e1, k0, k1, d0, d1⟩))) (yieldsIf_blk_w (by kernel_rfl) _ _ rfl w.heap.size (by rfl) _ (fun _ hSw => hSw.1) Try.underlying31 (by kernel_rfl)) hHeld ?_
 try simp only [qpu]
 refine qtk (i := 1) (oi := fxg6o31) (v := (.int .i64 0)) hHeld ?_ ?_
 ·intro w9 hSw
  try dsimp only at hSw
  go_simp
 try simp only [qpu]
 refine qty (i := 2) (oi := fxg6o27) (v := (.agg (Gt.v ⟨fl, win, sz, sq, ak⟩))) (yieldsIf_blk_w (by kernel_rfl) _ _ rfl W1.heap.size (by rfl) _ (fun _ hSw => hSw.2) Try.underlying96 (by kernel_rfl)) hHeld ?_
 try simp only [qpu]
 refine wpAnyH_ready (rs := [3]) (by kernel_rfl) (by simp) ?_
 refine AllReadyH.cons (o := fxg6o2) rfl (fun K hK => ?_) AllReadyH.nil
 go_simp
 refine Calls.mono (KW.out _) ?_
 rintro e Wx41 ⟨rfl, bb⟩
 have Cx41 := Cd.kept bb
 have Gx41 := Gd.kept bb
 have Zx41 := Zd.kept bb
 have bx41 := bel_tr bd bb
 clear bb
 refine hK.out _ _ (by exact ⟨Cx41, Gx41⟩) (fun hHeld => ?_)
 clear hK K
 try simp only [qpu]
 refine qtk (i := 4) (oi := fxg6o23) (v := (.bool false)) hHeld ?_ ?_
 ·intro w9 hSw
  try dsimp only at hSw
  go_simp
 try simp only [qpu]
 refine qtk (i := 5) (oi := fxg6o19) (v := (.bool false)) hHeld ?_ ?_
 ·intro w9 hSw
  try dsimp only at hSw
  go_simp
 try simp only [qpu]
 refine qtk (i := 6) (oi := fxg6o20) (v := (.pointer (some ⟨W1.heap.size, 4, none⟩))) hHeld ?_ ?_
 ·intro w9 hSw
  try dsimp only at hSw
  go_simp
 try simp only [qpu]
 refine qtk (i := 7) (oi := fxg6o15) (v := (.int .u32 ak)) hHeld ?_ ?_
 ·intro w9 hSw
  try dsimp only at hSw
  have hcc := hSw.2.cell 4 (.int .u32 ak) rfl
  go_simp
 try simp only [qpu]
 refine qtk (i := 8) (oi := fxg6o26) (v := (.int .i64 1)) hHeld ?_ ?_
 ·intro w9 hSw
  try dsimp only at hSw
  go_simp
 try simp only [qpu]
 refine qtk (i := 9) (oi := fxg6o22) (v := (.pointer (some ⟨w.heap.size, 1, none⟩))) hHeld ?_ ?_
 ·intro w9 hSw
  try dsimp only at hSw
  go_simp
 try simp only [qpu]
 refine qtk (i := 10) (oi := fxg6o7) (v := (.pointer (some ⟨w.heap.size, 2, none⟩))) hHeld ?_ ?_
 ·intro w9 hSw
  try dsimp only at hSw
  go_simp
 try simp only [qpu]
 refine qtk (i := 11) (oi := fxg6o14) (v := (.int .u32 n1)) hHeld ?_ ?_
 ·intro w9 hSw
  try dsimp only at hSw
  have hcc := hSw.1.cell 2 (.int .u32 n1) rfl
  go_simp
 try simp only [qpu]
 refine qtk (i := 12) (oi := fxg6o4) (v := (.int .u32 ((n1 - 65535) % 4294967296))) hHeld ?_ ?_
 ·intro w9 hSw
  try dsimp only at hSw
  go_simp
  try rw [IntKind.wrap_u32]
 try simp only [qpu]
 refine wpAnyH_ready (rs := [13]) (by kernel_rfl) (by simp) ?_
 refine AllReadyH.cons (o := fxg6o1) rfl (fun K hK => ?_) AllReadyH.nil
 go_simp
 refine Calls.mono (KQ1.out _) ?_
 rintro e Wx42 ⟨rfl, bb⟩
 have Cx42 := Cx41.kept bb
 have Gx42 := Gx41.kept bb
 have Zx42 := Zx41.kept bb
 have bx42 := bel_tr bx41 bb
 clear bb
 refine hK.out _ _ (by exact ⟨Cx42, Gx42⟩) (fun hHeld => ?_)
 clear hK K
 try simp only [qpu]
 refine qtk (i := 14) (oi := fxg6o11) (v := (.bool false)) hHeld ?_ ?_
 ·intro w9 hSw
  try dsimp only at hSw
  go_simp
 try simp only [qpu]
 refine qtk (i := 15) (oi := fxg6o9) (v := (.bool false)) hHeld ?_ ?_
 ·intro w9 hSw
  try dsimp only at hSw
  go_simp
 try simp only [qpu]
 refine qtk (i := 16) (oi := fxg6o17) (v := (.bool false)) hHeld ?_ ?_
 ·intro w9 hSw
  try dsimp only at hSw
  go_simp
 try simp only [qpu]
 refine qtk (i := 17) (oi := fxg6o25) (v := (.int .i64 1)) hHeld ?_ ?_
 ·intro w9 hSw
  try dsimp only at hSw
  go_simp
 try simp only [qpu]
 refine qtk (i := 18) (oi := fxg6o21) (v := (.pointer (some ⟨w.heap.size, 1, none⟩))) hHeld ?_ ?_
 ·intro w9 hSw
  try dsimp only at hSw
  go_simp
 try simp only [qpu]
 refine qtk (i := 19) (oi := fxg6o5) (v := (.pointer (some ⟨w.heap.size, 2, none⟩))) hHeld ?_ ?_
 ·intro w9 hSw
  try dsimp only at hSw
  go_simp
 try simp only [qpu]
 refine qtk (i := 20) (oi := fxg6o12) (v := (.int .u32 n1)) hHeld ?_ ?_
 ·intro w9 hSw
  try dsimp only at hSw
  have hcc := hSw.1.cell 2 (.int .u32 n1) rfl
  go_simp
 try simp only [qpu]
 refine qtk (i := 21) (oi := fxg6o18) (v := (.pointer (some ⟨W1.heap.size, 4, none⟩))) hHeld ?_ ?_
 ·intro w9 hSw
  try dsimp only at hSw
  go_simp
 try simp only [qpu]
 refine qtk (i := 22) (oi := fxg6o13) (v := (.int .u32 ak)) hHeld ?_ ?_
 ·intro w9 hSw
  try dsimp only at hSw
  have hcc := hSw.2.cell 4 (.int .u32 ak) rfl
  go_simp
 try simp only [qpu]
 refine wpAnyH_ready (rs := [23]) (by kernel_rfl) (by simp) ?_
 refine AllReadyH.cons (o := fxg6o0) rfl (fun K hK => ?_) AllReadyH.nil
 go_simp
 refine Calls.mono (KQ2.out _) ?_
 rintro e Wx43 ⟨rfl, bb⟩
 have Cx43 := Cx42.kept bb
 have Gx43 := Gx42.kept bb
 have Zx43 := Zx42.kept bb
 have bx43 := bel_tr bx42 bb
 clear bb
 refine hK.out _ _ (by exact ⟨Cx43, Gx43⟩) (fun hHeld => ?_)
 clear hK K
 try simp only [qpu]
 refine qtk (i := 24) (oi := fxg6o10) (v := (.bool false)) hHeld ?_ ?_
 ·intro w9 hSw
  try dsimp only at hSw
  go_simp
 try simp only [qpu]
 refine qtk (i := 25) (oi := fxg6o8) (v := (.bool false)) hHeld ?_ ?_
 ·intro w9 hSw
  try dsimp only at hSw
  go_simp
 try simp only [qpu]
 refine wpAnyH_done (by kernel_rfl) ?_ _
 refine NoPanic.normal ?_
 go_wp2_with (first | (refine wpList_load_blk_w (by rfl) _ _ rfl w.heap.size (by rfl) _ Cx43 Try.underlying31 (by kernel_rfl) ?_) | (refine wpList_load_blk_w (by rfl) _ _ rfl W1.heap.size (by rfl) _ Gx43 Try.underlying96 (by kernel_rfl) ?_))
 have Cd := Cx43.drew
 have Gd := Gx43.drew
 have Zd := Zx43.drew
 have bd := bx43.drew
 refine wp_region_noPanic ?_
 refine wp_region_held_drew (S := fun w' => Blk w' w.heap.size 31 (Cn.v ⟨st, n0, n1, e0, e1, k0, k1, d0, d1⟩) ∧ Blk w' W1.heap.size 96 (Gt.v ⟨fl, win, sz, sq, ak⟩)) (by kernel_rfl) (by exact ⟨Cd, Gd⟩) (fun hHeld => ?_)
 refine qty (i := 0) (oi := fxg6o28) (v := (.agg (Gt.v ⟨fl, win, sz, sq, ak⟩))) (yieldsIf_blk_w (by kernel_rfl) _ _ rfl W1.heap.size (by rfl) _ (fun _ hSw => hSw.2) Try.underlying96 (by kernel_rfl)) hHeld ?_
 try simp only [qpu]
 refine qtk (i := 2) (oi := fxg6o32) (v := (.int .i64 0)) hHeld ?_ ?_
 ·intro w9 hSw
  try dsimp only at hSw
  go_simp
 try simp only [qpu]
 refine qtk (i := 3) (oi := fxg6o30) (v := (.pointer (some ⟨w.heap.size, 1, none⟩))) hHeld ?_ ?_
 ·intro w9 hSw
  try dsimp only at hSw
  go_simp
 try simp only [qpu]
 refine qtk (i := 4) (oi := fxg6o16) (v := (.pointer (some ⟨w.heap.size, 1, none⟩))) hHeld ?_ ?_
 ·intro w9 hSw
  try dsimp only at hSw
  go_simp
 try simp only [qpu]
 refine qtk (i := 5) (oi := fxg6o24) (v := (.int .u32 n0)) hHeld ?_ ?_
 ·intro w9 hSw
  try dsimp only at hSw
  have hcc := hSw.1.cell 1 (.int .u32 n0) rfl
  go_simp
 try simp only [qpu]
 refine wpAnyH_ready (rs := [1]) (by kernel_rfl) (by simp) ?_
 refine AllReadyH.cons (o := fxg6o6) rfl (fun K hK => ?_) AllReadyH.nil
 go_simp
 refine Calls.mono (KE.out _) ?_
 rintro e Wx81 ⟨rfl, bb⟩
 have Cx81 := Cd.kept bb
 have Gx81 := Gd.kept bb
 have Zx81 := Zd.kept bb
 have bx81 := bel_tr bd bb
 clear bb
 refine hK.out _ _ (by exact ⟨Cx81, Gx81⟩) (fun hHeld => ?_)
 clear hK K
 try simp only [qpu]
 refine wpAnyH_ready (rs := [6]) (by kernel_rfl) (by simp) ?_
 refine AllReadyH.cons (o := fxg6o3) rfl (fun K hK => ?_) AllReadyH.nil
 go_simp
 refine Calls.mono (KP.out _) ?_
 rintro e Wx82 ⟨rfl, bb⟩
 have Cx82 := Cx81.kept bb
 have Gx82 := Gx81.kept bb
 have Zx82 := Zx81.kept bb
 have bx82 := bel_tr bx81 bb
 clear bb
 refine hK.out _ _ (by exact ⟨Cx82, Gx82⟩) (fun hHeld => ?_)
 clear hK K
 try simp only [qpu]
 refine wpAnyH_done (by kernel_rfl) ?_ _
 refine NoPanic.normal ?_
 go_wp2_with (first | (refine wpList_load_blk_w (by rfl) _ _ rfl w.heap.size (by rfl) _ Cx82 Try.underlying31 (by kernel_rfl) ?_) | (refine wpList_load_blk_w (by rfl) _ _ rfl W1.heap.size (by rfl) _ Gx82 Try.underlying96 (by kernel_rfl) ?_))
 refine Calls.mono (KE.out _) ?_
 rintro e Wx82e ⟨rfl, bb⟩
 have Cx82e := Cx82.kept bb
 have Gx82e := Gx82.kept bb
 have Zx82e := Zx82.kept bb
 have bx82e := bel_tr bx82 bb
 clear bb
 clear Cx82 Gx82 Zx82 bx82
 have y1 := Cx82e.cell 1 (.int .u32 n0) rfl
 have z1 := Cx82e.frozen 1
 obtain ⟨Wx82p, hWx82p⟩ : ∃ W, Wx82e.setCell ⟨w.heap.size, 1, none⟩ (.int .u32 E) = W := ⟨_, rfl⟩
 have Cx82p : Blk Wx82p w.heap.size 31 (Cn.v ⟨st, E, n1, e0, e1, k0, k1, d0, d1⟩) := hWx82p ▸ Cx82e.put 1 (.int .u32 E)
 have Gx82p := hWx82p ▸ Gx82e.put_other Cx82e nGC 1 (.int .u32 E)
 have Zx82p := hWx82p ▸ Zx82e.put_other Cx82e nZC 1 (.int .u32 E)
 have bx82p := hWx82p ▸ bx82e.setCell (p := ⟨w.heap.size, 1, none⟩) (Nat.le_refl _) (.int .u32 E)
 have u4 := Cx82p.cell 4 (.int .u32 e1) rfl
 have g0 := Gx82p.cell 0 (.int .i64 fl) rfl
 have g1 := Gx82p.cell 1 (.int .i64 win) rfl
 have g4 := Gx82p.cell 4 (.int .u32 ak) rfl
 go_wp2_with (first | (refine wpList_load_blk_w (by rfl) _ _ rfl w.heap.size (by rfl) _ Cx82p Try.underlying31 (by kernel_rfl) ?_) | (refine wpList_load_blk_w (by rfl) _ _ rfl W1.heap.size (by rfl) _ Gx82p Try.underlying96 (by kernel_rfl) ?_))
 clear u4 g0 g1 g4
 refine Calls.mono (KO.out _) ?_
 rintro e Wx82po ⟨rfl, bb⟩
 have Cx82po := Cx82p.kept bb
 have Gx82po := Gx82p.kept bb
 have Zx82po := Zx82p.kept bb
 have bx82po := bel_tr bx82p bb
 clear bb
 clear Cx82p Gx82p Zx82p bx82p
 have g0 := Gx82po.cell 0 (.int .i64 fl) rfl
 cases A1 with
 | false =>
  cases d0 with
  | false =>
   cases d1 with
   | false =>
    have y0 := Cx82po.cell 0 (.int .i64 st) rfl
    have z0 := Cx82po.frozen 0
    obtain ⟨Wx82pos, hWx82pos⟩ : ∃ W, Wx82po.setCell ⟨w.heap.size, 0, none⟩ (.int .i64 3) = W := ⟨_, rfl⟩
    have Cx82pos : Blk Wx82pos w.heap.size 31 (Cn.v ⟨3, E, n1, e0, e1, k0, k1, false, false⟩) := hWx82pos ▸ Cx82po.put 0 (.int .i64 3)
    have Gx82pos := hWx82pos ▸ Gx82po.put_other Cx82po nGC 0 (.int .i64 3)
    have Zx82pos := hWx82pos ▸ Zx82po.put_other Cx82po nZC 0 (.int .i64 3)
    have bx82pos := hWx82pos ▸ bx82po.setCell (p := ⟨w.heap.size, 0, none⟩) (Nat.le_refl _) (.int .i64 3)
    have t7 := Cx82pos.cell 7 (.bool false) rfl
    have t8 := Cx82pos.cell 8 (.bool false) rfl
    have Zf := Zx82pos.set (Cn.v ⟨3, E, n1, e0, e1, k0, k1, false, false⟩)
    have bf := below_setRow bx82pos gZ (Cn.v ⟨3, E, n1, e0, e1, k0, k1, false, false⟩)
    go_wp2_with (first | (refine wpList_load_blk_w (by rfl) _ _ rfl w.heap.size (by rfl) _ Cx82pos Try.underlying31 (by kernel_rfl) ?_) | (refine wpList_load_blk_w (by rfl) _ _ rfl W1.heap.size (by rfl) _ Gx82pos Try.underlying96 (by kernel_rfl) ?_) | (refine wpList_store_row rfl _ _ _ rfl W2.heap.size (Cn.v ⟨3, E, n1, e0, e1, k0, k1, false, false⟩) (by rfl) (by rfl) _ _ Zx82pos (by kernel_rfl) (by rfl) (by kernel_rfl) ?_))
    obtain rfl : ((⟨3, E, n1, e0, e1, k0, k1, false, false⟩ : Cn), (0 : Int)) = R := by rw [← HR.out]; first | rfl | simp [Cn.ret]
    exact ret_cell_tmp (k := 6) (j := 7) Try.f46 (by kernel_rfl) Zf Try.underlying31 (by kernel_rfl) (by rfl) (by rfl) rfl ⟨rfl, bf⟩

   | true =>
    have y0 := Cx82po.cell 0 (.int .i64 st) rfl
    have z0 := Cx82po.frozen 0
    obtain ⟨Wx82pos, hWx82pos⟩ : ∃ W, Wx82po.setCell ⟨w.heap.size, 0, none⟩ (.int .i64 3) = W := ⟨_, rfl⟩
    have Cx82pos : Blk Wx82pos w.heap.size 31 (Cn.v ⟨3, E, n1, e0, e1, k0, k1, false, true⟩) := hWx82pos ▸ Cx82po.put 0 (.int .i64 3)
    have Gx82pos := hWx82pos ▸ Gx82po.put_other Cx82po nGC 0 (.int .i64 3)
    have Zx82pos := hWx82pos ▸ Zx82po.put_other Cx82po nZC 0 (.int .i64 3)
    have bx82pos := hWx82pos ▸ bx82po.setCell (p := ⟨w.heap.size, 0, none⟩) (Nat.le_refl _) (.int .i64 3)
    have t7 := Cx82pos.cell 7 (.bool false) rfl
    have t8 := Cx82pos.cell 8 (.bool true) rfl
    have y0 := Cx82pos.cell 0 (.int .i64 3) rfl
    have z0 := Cx82pos.frozen 0
    obtain ⟨Wx82poss, hWx82poss⟩ : ∃ W, Wx82pos.setCell ⟨w.heap.size, 0, none⟩ (.int .i64 4) = W := ⟨_, rfl⟩
    have Cx82poss : Blk Wx82poss w.heap.size 31 (Cn.v ⟨4, E, n1, e0, e1, k0, k1, false, true⟩) := hWx82poss ▸ Cx82pos.put 0 (.int .i64 4)
    have Gx82poss := hWx82poss ▸ Gx82pos.put_other Cx82pos nGC 0 (.int .i64 4)
    have Zx82poss := hWx82poss ▸ Zx82pos.put_other Cx82pos nZC 0 (.int .i64 4)
    have bx82poss := hWx82poss ▸ bx82pos.setCell (p := ⟨w.heap.size, 0, none⟩) (Nat.le_refl _) (.int .i64 4)
    have t7 := Cx82poss.cell 7 (.bool false) rfl
    have t8 := Cx82poss.cell 8 (.bool true) rfl
    have Zf := Zx82poss.set (Cn.v ⟨4, E, n1, e0, e1, k0, k1, false, true⟩)
    have bf := below_setRow bx82poss gZ (Cn.v ⟨4, E, n1, e0, e1, k0, k1, false, true⟩)
    go_wp2_with (first | (refine wpList_load_blk_w (by rfl) _ _ rfl w.heap.size (by rfl) _ Cx82poss Try.underlying31 (by kernel_rfl) ?_) | (refine wpList_load_blk_w (by rfl) _ _ rfl W1.heap.size (by rfl) _ Gx82poss Try.underlying96 (by kernel_rfl) ?_) | (refine wpList_store_row rfl _ _ _ rfl W2.heap.size (Cn.v ⟨4, E, n1, e0, e1, k0, k1, false, true⟩) (by rfl) (by rfl) _ _ Zx82poss (by kernel_rfl) (by rfl) (by kernel_rfl) ?_))
    obtain rfl : ((⟨4, E, n1, e0, e1, k0, k1, false, true⟩ : Cn), (0 : Int)) = R := by rw [← HR.out]; first | rfl | simp [Cn.ret]
    exact ret_cell_tmp (k := 6) (j := 7) Try.f46 (by kernel_rfl) Zf Try.underlying31 (by kernel_rfl) (by rfl) (by rfl) rfl ⟨rfl, bf⟩


  | true =>
   cases d1 with
   | false =>
    have y0 := Cx82po.cell 0 (.int .i64 st) rfl
    have z0 := Cx82po.frozen 0
    obtain ⟨Wx82pos, hWx82pos⟩ : ∃ W, Wx82po.setCell ⟨w.heap.size, 0, none⟩ (.int .i64 3) = W := ⟨_, rfl⟩
    have Cx82pos : Blk Wx82pos w.heap.size 31 (Cn.v ⟨3, E, n1, e0, e1, k0, k1, true, false⟩) := hWx82pos ▸ Cx82po.put 0 (.int .i64 3)
    have Gx82pos := hWx82pos ▸ Gx82po.put_other Cx82po nGC 0 (.int .i64 3)
    have Zx82pos := hWx82pos ▸ Zx82po.put_other Cx82po nZC 0 (.int .i64 3)
    have bx82pos := hWx82pos ▸ bx82po.setCell (p := ⟨w.heap.size, 0, none⟩) (Nat.le_refl _) (.int .i64 3)
    have t7 := Cx82pos.cell 7 (.bool true) rfl
    have t8 := Cx82pos.cell 8 (.bool false) rfl
    have y0 := Cx82pos.cell 0 (.int .i64 3) rfl
    have z0 := Cx82pos.frozen 0
    obtain ⟨Wx82poss, hWx82poss⟩ : ∃ W, Wx82pos.setCell ⟨w.heap.size, 0, none⟩ (.int .i64 4) = W := ⟨_, rfl⟩
    have Cx82poss : Blk Wx82poss w.heap.size 31 (Cn.v ⟨4, E, n1, e0, e1, k0, k1, true, false⟩) := hWx82poss ▸ Cx82pos.put 0 (.int .i64 4)
    have Gx82poss := hWx82poss ▸ Gx82pos.put_other Cx82pos nGC 0 (.int .i64 4)
    have Zx82poss := hWx82poss ▸ Zx82pos.put_other Cx82pos nZC 0 (.int .i64 4)
    have bx82poss := hWx82poss ▸ bx82pos.setCell (p := ⟨w.heap.size, 0, none⟩) (Nat.le_refl _) (.int .i64 4)
    have t7 := Cx82poss.cell 7 (.bool true) rfl
    have t8 := Cx82poss.cell 8 (.bool false) rfl
    have Zf := Zx82poss.set (Cn.v ⟨4, E, n1, e0, e1, k0, k1, true, false⟩)
    have bf := below_setRow bx82poss gZ (Cn.v ⟨4, E, n1, e0, e1, k0, k1, true, false⟩)
    go_wp2_with (first | (refine wpList_load_blk_w (by rfl) _ _ rfl w.heap.size (by rfl) _ Cx82poss Try.underlying31 (by kernel_rfl) ?_) | (refine wpList_load_blk_w (by rfl) _ _ rfl W1.heap.size (by rfl) _ Gx82poss Try.underlying96 (by kernel_rfl) ?_) | (refine wpList_store_row rfl _ _ _ rfl W2.heap.size (Cn.v ⟨4, E, n1, e0, e1, k0, k1, true, false⟩) (by rfl) (by rfl) _ _ Zx82poss (by kernel_rfl) (by rfl) (by kernel_rfl) ?_))
    obtain rfl : ((⟨4, E, n1, e0, e1, k0, k1, true, false⟩ : Cn), (0 : Int)) = R := by rw [← HR.out]; first | rfl | simp [Cn.ret]
    exact ret_cell_tmp (k := 6) (j := 7) Try.f46 (by kernel_rfl) Zf Try.underlying31 (by kernel_rfl) (by rfl) (by rfl) rfl ⟨rfl, bf⟩

   | true =>
    have y0 := Cx82po.cell 0 (.int .i64 st) rfl
    have z0 := Cx82po.frozen 0
    obtain ⟨Wx82pos, hWx82pos⟩ : ∃ W, Wx82po.setCell ⟨w.heap.size, 0, none⟩ (.int .i64 3) = W := ⟨_, rfl⟩
    have Cx82pos : Blk Wx82pos w.heap.size 31 (Cn.v ⟨3, E, n1, e0, e1, k0, k1, true, true⟩) := hWx82pos ▸ Cx82po.put 0 (.int .i64 3)
    have Gx82pos := hWx82pos ▸ Gx82po.put_other Cx82po nGC 0 (.int .i64 3)
    have Zx82pos := hWx82pos ▸ Zx82po.put_other Cx82po nZC 0 (.int .i64 3)
    have bx82pos := hWx82pos ▸ bx82po.setCell (p := ⟨w.heap.size, 0, none⟩) (Nat.le_refl _) (.int .i64 3)
    have t7 := Cx82pos.cell 7 (.bool true) rfl
    have t8 := Cx82pos.cell 8 (.bool true) rfl
    have y0 := Cx82pos.cell 0 (.int .i64 3) rfl
    have z0 := Cx82pos.frozen 0
    obtain ⟨Wx82poss, hWx82poss⟩ : ∃ W, Wx82pos.setCell ⟨w.heap.size, 0, none⟩ (.int .i64 4) = W := ⟨_, rfl⟩
    have Cx82poss : Blk Wx82poss w.heap.size 31 (Cn.v ⟨4, E, n1, e0, e1, k0, k1, true, true⟩) := hWx82poss ▸ Cx82pos.put 0 (.int .i64 4)
    have Gx82poss := hWx82poss ▸ Gx82pos.put_other Cx82pos nGC 0 (.int .i64 4)
    have Zx82poss := hWx82poss ▸ Zx82pos.put_other Cx82pos nZC 0 (.int .i64 4)
    have bx82poss := hWx82poss ▸ bx82pos.setCell (p := ⟨w.heap.size, 0, none⟩) (Nat.le_refl _) (.int .i64 4)
    have t7 := Cx82poss.cell 7 (.bool true) rfl
    have t8 := Cx82poss.cell 8 (.bool true) rfl
    have y0 := Cx82poss.cell 0 (.int .i64 4) rfl
    have z0 := Cx82poss.frozen 0
    obtain ⟨Wx82posss, hWx82posss⟩ : ∃ W, Wx82poss.setCell ⟨w.heap.size, 0, none⟩ (.int .i64 5) = W := ⟨_, rfl⟩
    have Cx82posss : Blk Wx82posss w.heap.size 31 (Cn.v ⟨5, E, n1, e0, e1, k0, k1, true, true⟩) := hWx82posss ▸ Cx82poss.put 0 (.int .i64 5)
    have Gx82posss := hWx82posss ▸ Gx82poss.put_other Cx82poss nGC 0 (.int .i64 5)
    have Zx82posss := hWx82posss ▸ Zx82poss.put_other Cx82poss nZC 0 (.int .i64 5)
    have bx82posss := hWx82posss ▸ bx82poss.setCell (p := ⟨w.heap.size, 0, none⟩) (Nat.le_refl _) (.int .i64 5)
    have t7 := Cx82posss.cell 7 (.bool true) rfl
    have t8 := Cx82posss.cell 8 (.bool true) rfl
    have Zf := Zx82posss.set (Cn.v ⟨5, E, n1, e0, e1, k0, k1, true, true⟩)
    have bf := below_setRow bx82posss gZ (Cn.v ⟨5, E, n1, e0, e1, k0, k1, true, true⟩)
    go_wp2_with (first | (refine wpList_load_blk_w (by rfl) _ _ rfl w.heap.size (by rfl) _ Cx82posss Try.underlying31 (by kernel_rfl) ?_) | (refine wpList_load_blk_w (by rfl) _ _ rfl W1.heap.size (by rfl) _ Gx82posss Try.underlying96 (by kernel_rfl) ?_) | (refine wpList_store_row rfl _ _ _ rfl W2.heap.size (Cn.v ⟨5, E, n1, e0, e1, k0, k1, true, true⟩) (by rfl) (by rfl) _ _ Zx82posss (by kernel_rfl) (by rfl) (by kernel_rfl) ?_))
    obtain rfl : ((⟨5, E, n1, e0, e1, k0, k1, true, true⟩ : Cn), (0 : Int)) = R := by rw [← HR.out]; first | rfl | simp [Cn.ret]
    exact ret_cell_tmp (k := 6) (j := 7) Try.f46 (by kernel_rfl) Zf Try.underlying31 (by kernel_rfl) (by rfl) (by rfl) rfl ⟨rfl, bf⟩



 | true =>
  have y7 := Cx82po.cell 7 (.bool d0) rfl
  have z7 := Cx82po.frozen 7
  obtain ⟨Wx82pof, hWx82pof⟩ : ∃ W, Wx82po.setCell ⟨w.heap.size, 7, none⟩ (.bool true) = W := ⟨_, rfl⟩
  have Cx82pof : Blk Wx82pof w.heap.size 31 (Cn.v ⟨st, E, n1, e0, e1, k0, k1, true, d1⟩) := hWx82pof ▸ Cx82po.put 7 (.bool true)
  have Gx82pof := hWx82pof ▸ Gx82po.put_other Cx82po nGC 7 (.bool true)
  have Zx82pof := hWx82pof ▸ Zx82po.put_other Cx82po nZC 7 (.bool true)
  have bx82pof := hWx82pof ▸ bx82po.setCell (p := ⟨w.heap.size, 7, none⟩) (Nat.le_refl _) (.bool true)
  cases d1 with
  | false =>
   have y0 := Cx82pof.cell 0 (.int .i64 st) rfl
   have z0 := Cx82pof.frozen 0
   obtain ⟨Wx82pofs, hWx82pofs⟩ : ∃ W, Wx82pof.setCell ⟨w.heap.size, 0, none⟩ (.int .i64 3) = W := ⟨_, rfl⟩
   have Cx82pofs : Blk Wx82pofs w.heap.size 31 (Cn.v ⟨3, E, n1, e0, e1, k0, k1, true, false⟩) := hWx82pofs ▸ Cx82pof.put 0 (.int .i64 3)
   have Gx82pofs := hWx82pofs ▸ Gx82pof.put_other Cx82pof nGC 0 (.int .i64 3)
   have Zx82pofs := hWx82pofs ▸ Zx82pof.put_other Cx82pof nZC 0 (.int .i64 3)
   have bx82pofs := hWx82pofs ▸ bx82pof.setCell (p := ⟨w.heap.size, 0, none⟩) (Nat.le_refl _) (.int .i64 3)
   have t7 := Cx82pofs.cell 7 (.bool true) rfl
   have t8 := Cx82pofs.cell 8 (.bool false) rfl
   have y0 := Cx82pofs.cell 0 (.int .i64 3) rfl
   have z0 := Cx82pofs.frozen 0
   obtain ⟨Wx82pofss, hWx82pofss⟩ : ∃ W, Wx82pofs.setCell ⟨w.heap.size, 0, none⟩ (.int .i64 4) = W := ⟨_, rfl⟩
   have Cx82pofss : Blk Wx82pofss w.heap.size 31 (Cn.v ⟨4, E, n1, e0, e1, k0, k1, true, false⟩) := hWx82pofss ▸ Cx82pofs.put 0 (.int .i64 4)
   have Gx82pofss := hWx82pofss ▸ Gx82pofs.put_other Cx82pofs nGC 0 (.int .i64 4)
   have Zx82pofss := hWx82pofss ▸ Zx82pofs.put_other Cx82pofs nZC 0 (.int .i64 4)
   have bx82pofss := hWx82pofss ▸ bx82pofs.setCell (p := ⟨w.heap.size, 0, none⟩) (Nat.le_refl _) (.int .i64 4)
   have t7 := Cx82pofss.cell 7 (.bool true) rfl
   have t8 := Cx82pofss.cell 8 (.bool false) rfl
   have Zf := Zx82pofss.set (Cn.v ⟨4, E, n1, e0, e1, k0, k1, true, false⟩)
   have bf := below_setRow bx82pofss gZ (Cn.v ⟨4, E, n1, e0, e1, k0, k1, true, false⟩)
   go_wp2_with (first | (refine wpList_load_blk_w (by rfl) _ _ rfl w.heap.size (by rfl) _ Cx82pofss Try.underlying31 (by kernel_rfl) ?_) | (refine wpList_load_blk_w (by rfl) _ _ rfl W1.heap.size (by rfl) _ Gx82pofss Try.underlying96 (by kernel_rfl) ?_) | (refine wpList_store_row rfl _ _ _ rfl W2.heap.size (Cn.v ⟨4, E, n1, e0, e1, k0, k1, true, false⟩) (by rfl) (by rfl) _ _ Zx82pofss (by kernel_rfl) (by rfl) (by kernel_rfl) ?_))
   obtain rfl : ((⟨4, E, n1, e0, e1, k0, k1, true, false⟩ : Cn), (0 : Int)) = R := by rw [← HR.out]; first | rfl | simp [Cn.ret]
   exact ret_cell_tmp (k := 6) (j := 7) Try.f46 (by kernel_rfl) Zf Try.underlying31 (by kernel_rfl) (by rfl) (by rfl) rfl ⟨rfl, bf⟩

  | true =>
   have y0 := Cx82pof.cell 0 (.int .i64 st) rfl
   have z0 := Cx82pof.frozen 0
   obtain ⟨Wx82pofs, hWx82pofs⟩ : ∃ W, Wx82pof.setCell ⟨w.heap.size, 0, none⟩ (.int .i64 3) = W := ⟨_, rfl⟩
   have Cx82pofs : Blk Wx82pofs w.heap.size 31 (Cn.v ⟨3, E, n1, e0, e1, k0, k1, true, true⟩) := hWx82pofs ▸ Cx82pof.put 0 (.int .i64 3)
   have Gx82pofs := hWx82pofs ▸ Gx82pof.put_other Cx82pof nGC 0 (.int .i64 3)
   have Zx82pofs := hWx82pofs ▸ Zx82pof.put_other Cx82pof nZC 0 (.int .i64 3)
   have bx82pofs := hWx82pofs ▸ bx82pof.setCell (p := ⟨w.heap.size, 0, none⟩) (Nat.le_refl _) (.int .i64 3)
   have t7 := Cx82pofs.cell 7 (.bool true) rfl
   have t8 := Cx82pofs.cell 8 (.bool true) rfl
   have y0 := Cx82pofs.cell 0 (.int .i64 3) rfl
   have z0 := Cx82pofs.frozen 0
   obtain ⟨Wx82pofss, hWx82pofss⟩ : ∃ W, Wx82pofs.setCell ⟨w.heap.size, 0, none⟩ (.int .i64 4) = W := ⟨_, rfl⟩
   have Cx82pofss : Blk Wx82pofss w.heap.size 31 (Cn.v ⟨4, E, n1, e0, e1, k0, k1, true, true⟩) := hWx82pofss ▸ Cx82pofs.put 0 (.int .i64 4)
   have Gx82pofss := hWx82pofss ▸ Gx82pofs.put_other Cx82pofs nGC 0 (.int .i64 4)
   have Zx82pofss := hWx82pofss ▸ Zx82pofs.put_other Cx82pofs nZC 0 (.int .i64 4)
   have bx82pofss := hWx82pofss ▸ bx82pofs.setCell (p := ⟨w.heap.size, 0, none⟩) (Nat.le_refl _) (.int .i64 4)
   have t7 := Cx82pofss.cell 7 (.bool true) rfl
   have t8 := Cx82pofss.cell 8 (.bool true) rfl
   have y0 := Cx82pofss.cell 0 (.int .i64 4) rfl
   have z0 := Cx82pofss.frozen 0
   obtain ⟨Wx82pofsss, hWx82pofsss⟩ : ∃ W, Wx82pofss.setCell ⟨w.heap.size, 0, none⟩ (.int .i64 5) = W := ⟨_, rfl⟩
   have Cx82pofsss : Blk Wx82pofsss w.heap.size 31 (Cn.v ⟨5, E, n1, e0, e1, k0, k1, true, true⟩) := hWx82pofsss ▸ Cx82pofss.put 0 (.int .i64 5)
   have Gx82pofsss := hWx82pofsss ▸ Gx82pofss.put_other Cx82pofss nGC 0 (.int .i64 5)
   have Zx82pofsss := hWx82pofsss ▸ Zx82pofss.put_other Cx82pofss nZC 0 (.int .i64 5)
   have bx82pofsss := hWx82pofsss ▸ bx82pofss.setCell (p := ⟨w.heap.size, 0, none⟩) (Nat.le_refl _) (.int .i64 5)
   have t7 := Cx82pofsss.cell 7 (.bool true) rfl
   have t8 := Cx82pofsss.cell 8 (.bool true) rfl
   have Zf := Zx82pofsss.set (Cn.v ⟨5, E, n1, e0, e1, k0, k1, true, true⟩)
   have bf := below_setRow bx82pofsss gZ (Cn.v ⟨5, E, n1, e0, e1, k0, k1, true, true⟩)
   go_wp2_with (first | (refine wpList_load_blk_w (by rfl) _ _ rfl w.heap.size (by rfl) _ Cx82pofsss Try.underlying31 (by kernel_rfl) ?_) | (refine wpList_load_blk_w (by rfl) _ _ rfl W1.heap.size (by rfl) _ Gx82pofsss Try.underlying96 (by kernel_rfl) ?_) | (refine wpList_store_row rfl _ _ _ rfl W2.heap.size (Cn.v ⟨5, E, n1, e0, e1, k0, k1, true, true⟩) (by rfl) (by rfl) _ _ Zx82pofsss (by kernel_rfl) (by rfl) (by kernel_rfl) ?_))
   obtain rfl : ((⟨5, E, n1, e0, e1, k0, k1, true, true⟩ : Cn), (0 : Int)) = R := by rw [← HR.out]; first | rfl | simp [Cn.ret]
   exact ret_cell_tmp (k := 6) (j := 7) Try.f46 (by kernel_rfl) Zf Try.underlying31 (by kernel_rfl) (by rfl) (by rfl) rfl ⟨rfl, bf⟩
set_option maxRecDepth 100000 in
set_option maxHeartbeats 4000000 in
theorem rstep0tt_tc (c : Cn) (g : Gt) (w : World) (qRR : c.right = true) (qIW : inB15 g.win = true) (qIZ : inB15 g.sz = true) (qA4 : flB g.fl 4 = false) (qX6 : (c.st == 6) = false) (qA2 : flB g.fl 2 = false) (qA16 : flB g.fl 16 = true) (qX1 : (c.st == 1) = false) (qV : c.win false g = true) (qQ1 : frB g.ak ((c.n1 - 65535) % 4294967296) = true) (qQ2 : frB c.n1 g.ak = true) (qP : frB g.e c.n0 = true) (qO : frB ((g.ak + g.win) % 4294967296) c.e1 = true) :
  Calls Try.prog 46 #[.agg c.v, .int .i64 0, .agg g.v] w fun e w' => e = .returned (.tuple #[.agg (c.step 0 g).1.v, .int .i64 (c.step 0 g).2]) ∧ Below w.heap.size w w' := by
 obtain ⟨R, hR⟩ : ∃ R, c.step 0 g = R := ⟨_, rfl⟩
 have HR : Hid ((if c.right && (inB15 g.win && inB15 g.sz) then (if flB g.fl 4 then Cn.ret (if c.win false g || (false && (c.st == 1 && (flB g.fl 16 && g.ak == c.n0))) then some ⟨6, c.n0, c.n1, c.e0, c.e1, c.k0, c.k1, c.d0, c.d1⟩ else none) else if c.st == 6 then (cn0, 23) else if flB g.fl 2 then Cn.ret (c.syn false g) else if !flB g.fl 16 || (c.st == 1 || (false && c.st == 2)) then (cn0, 23) else Cn.ret (if c.win false g && (frB g.ak ((c.n1 - 65535) % 4294967296) && frB c.n1 g.ak) then some (c.byR false g.e ((g.ak + g.win) % 4294967296) (frB g.e c.n0) (frB ((g.ak + g.win) % 4294967296) c.e1) (flB g.fl 1)) else none)) else (cn0, 1)) = R) := by
  have h : (if c.right && (inB15 g.win && inB15 g.sz) then Cn.ret (c.take false g) else (cn0, 1)) = R := hR
  have k : Cn.ret (c.take false g) = (if flB g.fl 4 then Cn.ret (if c.win false g || (false && (c.st == 1 && (flB g.fl 16 && g.ak == c.n0))) then some ⟨6, c.n0, c.n1, c.e0, c.e1, c.k0, c.k1, c.d0, c.d1⟩ else none) else if c.st == 6 then (cn0, 23) else if flB g.fl 2 then Cn.ret (c.syn false g) else if !flB g.fl 16 || (c.st == 1 || (false && c.st == 2)) then (cn0, 23) else Cn.ret (if c.win false g && (frB g.ak ((c.n1 - 65535) % 4294967296) && frB c.n1 g.ak) then some (c.byR false g.e ((g.ak + g.win) % 4294967296) (frB g.e c.n0) (frB ((g.ak + g.win) % 4294967296) c.e1) (flB g.fl 1)) else none)) := by
   unfold Cn.take
   split
   ·rfl
   ·split
    ·rfl
    ·split
     ·rfl
     ·split <;> rfl
  rw [k] at h
  exact h
 rw [hR]
 clear hR
 have KR : Hid (∀ W, Calls Try.prog 41 #[.agg c.v] W fun e w' => e = .returned (.bool c.right) ∧ Below W.heap.size W w') := fun W => rright_tc c W
 have KZ : Hid (∀ W, Calls Try.prog 65 #[.int .i64 g.sz] W fun e w' => e = .returned (.bool (inB15 g.sz)) ∧ Below W.heap.size W w') := fun W => rin_tc g.sz W
 have KV : Hid (∀ W, Calls Try.prog 65 #[.int .i64 g.win] W fun e w' => e = .returned (.bool (inB15 g.win)) ∧ Below W.heap.size W w') := fun W => rin_tc g.win W
 have KW : Hid (∀ W, Calls Try.prog 69 #[.agg c.v, .int .i64 0, .agg g.v] W fun e w' => e = .returned (.bool (c.win false g)) ∧ Below W.heap.size W w') := fun W => rwindow0_tc c g W
 have KS : Hid (∀ W, Calls Try.prog 70 #[.agg c.v, .int .i64 0, .agg g.v] W fun e w' => e = .returned (.tuple #[.agg (Cn.ret (c.syn false g)).1.v, .int .i64 (Cn.ret (c.syn false g)).2]) ∧ Below W.heap.size W w') := fun W => rsyn0_tc c g W
 have KE : Hid (∀ W, Calls Try.prog 72 #[.agg g.v] W fun e w' => e = .returned (.int .u32 g.e) ∧ Below W.heap.size W w') := fun W => rend_tc g W
 have KQ1 : Hid (∀ W, Calls Try.prog 71 #[.int .u32 (g.ak), .int .u32 ((c.n1 - 65535) % 4294967296)] W fun e w' => e = .returned (.bool (frB (g.ak) ((c.n1 - 65535) % 4294967296))) ∧ Below W.heap.size W w') := fun W => rfrom_tc _ _ W
 have KQ2 : Hid (∀ W, Calls Try.prog 71 #[.int .u32 (c.n1), .int .u32 (g.ak)] W fun e w' => e = .returned (.bool (frB (c.n1) (g.ak))) ∧ Below W.heap.size W w') := fun W => rfrom_tc _ _ W
 have KP : Hid (∀ W, Calls Try.prog 71 #[.int .u32 (g.e), .int .u32 (c.n0)] W fun e w' => e = .returned (.bool (frB (g.e) (c.n0))) ∧ Below W.heap.size W w') := fun W => rfrom_tc _ _ W
 have KO : Hid (∀ W, Calls Try.prog 71 #[.int .u32 ((g.ak + g.win) % 4294967296), .int .u32 (c.e1)] W fun e w' => e = .returned (.bool (frB ((g.ak + g.win) % 4294967296) (c.e1))) ∧ Below W.heap.size W w') := fun W => rfrom_tc _ _ W
 generalize hQ1 : frB (g.ak) ((c.n1 - 65535) % 4294967296) = Q1 at *
 clear hQ1
 generalize hQ2 : frB (c.n1) (g.ak) = Q2 at *
 clear hQ2
 generalize hP : frB (g.e) (c.n0) = P at *
 clear hP
 generalize hO : frB ((g.ak + g.win) % 4294967296) (c.e1) = O at *
 clear hO
 generalize c.right = RR at *
 generalize inB15 g.win = IW at *
 generalize inB15 g.sz = IZ at *
 generalize c.win false g = V at *
 generalize Cn.ret (c.syn false g) = XS at *
 generalize hE : g.e = E at *
 clear hE
 obtain ⟨fl, win, sz, sq, ak⟩ := g
 obtain ⟨st, n0, n1, e0, e1, k0, k1, d0, d1⟩ := c
 dsimp only at *
 have hA16 : (bits .and .i64 fl 16 != 0) = flB fl 16 := rfl
 generalize flB fl 16 = A16 at *
 have hA4 : (bits .and .i64 fl 4 != 0) = flB fl 4 := rfl
 generalize flB fl 4 = A4 at *
 have hA2 : (bits .and .i64 fl 2 != 0) = flB fl 2 := rfl
 generalize flB fl 2 = A2 at *
 have hA1 : (bits .and .i64 fl 1 != 0) = flB fl 1 := rfl
 generalize flB fl 1 = A1 at *
 generalize h6 : (st == 6) = X6 at *
 generalize h1 : (st == 1) = X1 at *
 subst qRR qIW qIZ qA4 qX6 qA2 qA16 qX1 qV qQ1 qQ2 qP qO
 obtain ⟨W1, hW1⟩ : ∃ W, w.alloc (.cells (Cn.v ⟨st, n0, n1, e0, e1, k0, k1, d0, d1⟩) 31) = W := ⟨_, rfl⟩
 have b1 := bel_nw hW1
 have C1 := blk_nw hW1
 have g1 := C1.lt
 obtain ⟨W2, hW2⟩ : ∃ W, W1.alloc (.cells (Gt.v ⟨fl, win, sz, sq, ak⟩) 96) = W := ⟨_, rfl⟩
 have b2 := bel_al b1 hW2
 have C2 := C1.al hW2
 have G2 := blk_nw hW2
 have g2 := G2.lt
 obtain ⟨W3, hW3⟩ : ∃ W, W2.alloc (.cells #[.int .i64 0, .int .u32 0, .int .u32 0, .int .u32 0, .int .u32 0, .bool false, .bool false, .bool false, .bool false] 31) = W := ⟨_, rfl⟩
 have b3 := bel_al b2 hW3
 have C3 := C2.al hW3
 have G3 := G2.al hW3
 have Z3 := blk_nw hW3
 have nCG : w.heap.size ≠ W1.heap.size := by omega
 have nGC : W1.heap.size ≠ w.heap.size := by omega
 have nCZ : w.heap.size ≠ W2.heap.size := by omega
 have nGZ : W1.heap.size ≠ W2.heap.size := by omega
 have nZC : W2.heap.size ≠ w.heap.size := by omega
 have gZ : w.heap.size ≤ W2.heap.size := by omega
 have gG : w.heap.size ≤ W1.heap.size := by omega
 clear b1 b2 C1 C2 G2 g1 g2
 have c0 := C3.cell 0 (.int .i64 st) rfl
 have c1 := C3.cell 1 (.int .u32 n0) rfl
 have g0 := G3.cell 0 (.int .i64 fl) rfl
 have g1 := G3.cell 1 (.int .i64 win) rfl
 have g2 := G3.cell 2 (.int .i64 sz) rfl
 have g4 := G3.cell 4 (.int .u32 ak) rfl
 go_enter Try.func46, Try.ntmps46
 go_wp2_with (first | (refine wpList_load_blk_w (by rfl) _ _ rfl w.heap.size (by rfl) _ C3 Try.underlying31 (by kernel_rfl) ?_) | (refine wpList_load_blk_w (by rfl) _ _ rfl W1.heap.size (by rfl) _ G3 Try.underlying96 (by kernel_rfl) ?_))
 clear c0 c1 g0 g1 g2 g4
 refine Calls.mono (KR.out _) ?_
 rintro e W4 ⟨rfl, bb⟩
 have C4 := C3.kept bb
 have G4 := G3.kept bb
 have Z4 := Z3.kept bb
 have b4 := bel_tr b3 bb
 clear bb
 clear C3 G3 Z3 b3
 have c0 := C4.cell 0 (.int .i64 st) rfl
 have c1 := C4.cell 1 (.int .u32 n0) rfl
 have g0 := G4.cell 0 (.int .i64 fl) rfl
 have g1 := G4.cell 1 (.int .i64 win) rfl
 have g2 := G4.cell 2 (.int .i64 sz) rfl
 have g4 := G4.cell 4 (.int .u32 ak) rfl
 go_wp2_with (first | (refine wpList_load_blk_w (by rfl) _ _ rfl w.heap.size (by rfl) _ C4 Try.underlying31 (by kernel_rfl) ?_) | (refine wpList_load_blk_w (by rfl) _ _ rfl W1.heap.size (by rfl) _ G4 Try.underlying96 (by kernel_rfl) ?_))
 clear c0 c1 g0 g1 g2 g4
 refine Calls.mono (KV.out _) ?_
 rintro e W5 ⟨rfl, bb⟩
 have C5 := C4.kept bb
 have G5 := G4.kept bb
 have Z5 := Z4.kept bb
 have b5 := bel_tr b4 bb
 clear bb
 clear C4 G4 Z4 b4
 have c0 := C5.cell 0 (.int .i64 st) rfl
 have c1 := C5.cell 1 (.int .u32 n0) rfl
 have g0 := G5.cell 0 (.int .i64 fl) rfl
 have g1 := G5.cell 1 (.int .i64 win) rfl
 have g2 := G5.cell 2 (.int .i64 sz) rfl
 have g4 := G5.cell 4 (.int .u32 ak) rfl
 go_wp2_with (first | (refine wpList_load_blk_w (by rfl) _ _ rfl w.heap.size (by rfl) _ C5 Try.underlying31 (by kernel_rfl) ?_) | (refine wpList_load_blk_w (by rfl) _ _ rfl W1.heap.size (by rfl) _ G5 Try.underlying96 (by kernel_rfl) ?_))
 clear c0 c1 g0 g1 g2 g4
 refine Calls.mono (KZ.out _) ?_
 rintro e W6 ⟨rfl, bb⟩
 have C6 := C5.kept bb
 have G6 := G5.kept bb
 have Z6 := Z5.kept bb
 have b6 := bel_tr b5 bb
 clear bb
 clear C5 G5 Z5 b5
 have c0 := C6.cell 0 (.int .i64 st) rfl
 have c1 := C6.cell 1 (.int .u32 n0) rfl
 have g0 := G6.cell 0 (.int .i64 fl) rfl
 have g1 := G6.cell 1 (.int .i64 win) rfl
 have g2 := G6.cell 2 (.int .i64 sz) rfl
 have g4 := G6.cell 4 (.int .u32 ak) rfl
 go_wp2_with (first | (refine wpList_load_blk_w (by rfl) _ _ rfl w.heap.size (by rfl) _ C6 Try.underlying31 (by kernel_rfl) ?_) | (refine wpList_load_blk_w (by rfl) _ _ rfl W1.heap.size (by rfl) _ G6 Try.underlying96 (by kernel_rfl) ?_))
 clear c0 c1 g0 g1 g2 g4
 have Cd := C6.drew
 have Gd := G6.drew
 have Zd := Z6.drew
 have bd := b6.drew
 refine wp_region_noPanic ?_
 refine wp_region_held_drew (S := fun w' => Blk w' w.heap.size 31 (Cn.v ⟨st, n0, n1, e0, e1, k0, k1, d0, d1⟩) ∧ Blk w' W1.heap.size 96 (Gt.v ⟨fl, win, sz, sq, ak⟩)) (by kernel_rfl) (by exact ⟨Cd, Gd⟩) (fun hHeld => ?_)
 refine qty (i := 0) (oi := fxg6o29) (v := (.agg (Cn.v ⟨st, n0, n1, e0, e1, k0, k1, d0, d1⟩))) (yieldsIf_blk_w (by kernel_rfl) _ _ rfl w.heap.size (by rfl) _ (fun _ hSw => hSw.1) Try.underlying31 (by kernel_rfl)) hHeld ?_
 try simp only [qpu]
 refine qtk (i := 1) (oi := fxg6o31) (v := (.int .i64 0)) hHeld ?_ ?_
 ·intro w9 hSw
  try dsimp only at hSw
  go_simp
 try simp only [qpu]
 refine qty (i := 2) (oi := fxg6o27) (v := (.agg (Gt.v ⟨fl, win, sz, sq, ak⟩))) (yieldsIf_blk_w (by kernel_rfl) _ _ rfl W1.heap.size (by rfl) _ (fun _ hSw => hSw.2) Try.underlying96 (by kernel_rfl)) hHeld ?_
 try simp only [qpu]
 refine wpAnyH_ready (rs := [3]) (by kernel_rfl) (by simp) ?_
 refine AllReadyH.cons (o := fxg6o2) rfl (fun K hK => ?_) AllReadyH.nil
 go_simp
 refine Calls.mono (KW.out _) ?_
 rintro e Wx41 ⟨rfl, bb⟩
 have Cx41 := Cd.kept bb
 have Gx41 := Gd.kept bb
 have Zx41 := Zd.kept bb
 have bx41 := bel_tr bd bb
 clear bb
 refine hK.out _ _ (by exact ⟨Cx41, Gx41⟩) (fun hHeld => ?_)
 clear hK K
 try simp only [qpu]
 refine qtk (i := 4) (oi := fxg6o23) (v := (.bool false)) hHeld ?_ ?_
 ·intro w9 hSw
  try dsimp only at hSw
  go_simp
 try simp only [qpu]
 refine qtk (i := 5) (oi := fxg6o19) (v := (.bool false)) hHeld ?_ ?_
 ·intro w9 hSw
  try dsimp only at hSw
  go_simp
 try simp only [qpu]
 refine qtk (i := 6) (oi := fxg6o20) (v := (.pointer (some ⟨W1.heap.size, 4, none⟩))) hHeld ?_ ?_
 ·intro w9 hSw
  try dsimp only at hSw
  go_simp
 try simp only [qpu]
 refine qtk (i := 7) (oi := fxg6o15) (v := (.int .u32 ak)) hHeld ?_ ?_
 ·intro w9 hSw
  try dsimp only at hSw
  have hcc := hSw.2.cell 4 (.int .u32 ak) rfl
  go_simp
 try simp only [qpu]
 refine qtk (i := 8) (oi := fxg6o26) (v := (.int .i64 1)) hHeld ?_ ?_
 ·intro w9 hSw
  try dsimp only at hSw
  go_simp
 try simp only [qpu]
 refine qtk (i := 9) (oi := fxg6o22) (v := (.pointer (some ⟨w.heap.size, 1, none⟩))) hHeld ?_ ?_
 ·intro w9 hSw
  try dsimp only at hSw
  go_simp
 try simp only [qpu]
 refine qtk (i := 10) (oi := fxg6o7) (v := (.pointer (some ⟨w.heap.size, 2, none⟩))) hHeld ?_ ?_
 ·intro w9 hSw
  try dsimp only at hSw
  go_simp
 try simp only [qpu]
 refine qtk (i := 11) (oi := fxg6o14) (v := (.int .u32 n1)) hHeld ?_ ?_
 ·intro w9 hSw
  try dsimp only at hSw
  have hcc := hSw.1.cell 2 (.int .u32 n1) rfl
  go_simp
 try simp only [qpu]
 refine qtk (i := 12) (oi := fxg6o4) (v := (.int .u32 ((n1 - 65535) % 4294967296))) hHeld ?_ ?_
 ·intro w9 hSw
  try dsimp only at hSw
  go_simp
  try rw [IntKind.wrap_u32]
 try simp only [qpu]
 refine wpAnyH_ready (rs := [13]) (by kernel_rfl) (by simp) ?_
 refine AllReadyH.cons (o := fxg6o1) rfl (fun K hK => ?_) AllReadyH.nil
 go_simp
 refine Calls.mono (KQ1.out _) ?_
 rintro e Wx42 ⟨rfl, bb⟩
 have Cx42 := Cx41.kept bb
 have Gx42 := Gx41.kept bb
 have Zx42 := Zx41.kept bb
 have bx42 := bel_tr bx41 bb
 clear bb
 refine hK.out _ _ (by exact ⟨Cx42, Gx42⟩) (fun hHeld => ?_)
 clear hK K
 try simp only [qpu]
 refine qtk (i := 14) (oi := fxg6o11) (v := (.bool false)) hHeld ?_ ?_
 ·intro w9 hSw
  try dsimp only at hSw
  go_simp
 try simp only [qpu]
 refine qtk (i := 15) (oi := fxg6o9) (v := (.bool false)) hHeld ?_ ?_
 ·intro w9 hSw
  try dsimp only at hSw
  go_simp
 try simp only [qpu]
 refine qtk (i := 16) (oi := fxg6o17) (v := (.bool false)) hHeld ?_ ?_
 ·intro w9 hSw
  try dsimp only at hSw
  go_simp
 try simp only [qpu]
 refine qtk (i := 17) (oi := fxg6o25) (v := (.int .i64 1)) hHeld ?_ ?_
 ·intro w9 hSw
  try dsimp only at hSw
  go_simp
 try simp only [qpu]
 refine qtk (i := 18) (oi := fxg6o21) (v := (.pointer (some ⟨w.heap.size, 1, none⟩))) hHeld ?_ ?_
 ·intro w9 hSw
  try dsimp only at hSw
  go_simp
 try simp only [qpu]
 refine qtk (i := 19) (oi := fxg6o5) (v := (.pointer (some ⟨w.heap.size, 2, none⟩))) hHeld ?_ ?_
 ·intro w9 hSw
  try dsimp only at hSw
  go_simp
 try simp only [qpu]
 refine qtk (i := 20) (oi := fxg6o12) (v := (.int .u32 n1)) hHeld ?_ ?_
 ·intro w9 hSw
  try dsimp only at hSw
  have hcc := hSw.1.cell 2 (.int .u32 n1) rfl
  go_simp
 try simp only [qpu]
 refine qtk (i := 21) (oi := fxg6o18) (v := (.pointer (some ⟨W1.heap.size, 4, none⟩))) hHeld ?_ ?_
 ·intro w9 hSw
  try dsimp only at hSw
  go_simp
 try simp only [qpu]
 refine qtk (i := 22) (oi := fxg6o13) (v := (.int .u32 ak)) hHeld ?_ ?_
 ·intro w9 hSw
  try dsimp only at hSw
  have hcc := hSw.2.cell 4 (.int .u32 ak) rfl
  go_simp
 try simp only [qpu]
 refine wpAnyH_ready (rs := [23]) (by kernel_rfl) (by simp) ?_
 refine AllReadyH.cons (o := fxg6o0) rfl (fun K hK => ?_) AllReadyH.nil
 go_simp
 refine Calls.mono (KQ2.out _) ?_
 rintro e Wx43 ⟨rfl, bb⟩
 have Cx43 := Cx42.kept bb
 have Gx43 := Gx42.kept bb
 have Zx43 := Zx42.kept bb
 have bx43 := bel_tr bx42 bb
 clear bb
 refine hK.out _ _ (by exact ⟨Cx43, Gx43⟩) (fun hHeld => ?_)
 clear hK K
 try simp only [qpu]
 refine qtk (i := 24) (oi := fxg6o10) (v := (.bool false)) hHeld ?_ ?_
 ·intro w9 hSw
  try dsimp only at hSw
  go_simp
 try simp only [qpu]
 refine qtk (i := 25) (oi := fxg6o8) (v := (.bool false)) hHeld ?_ ?_
 ·intro w9 hSw
  try dsimp only at hSw
  go_simp
 try simp only [qpu]
 refine wpAnyH_done (by kernel_rfl) ?_ _
 refine NoPanic.normal ?_
 go_wp2_with (first | (refine wpList_load_blk_w (by rfl) _ _ rfl w.heap.size (by rfl) _ Cx43 Try.underlying31 (by kernel_rfl) ?_) | (refine wpList_load_blk_w (by rfl) _ _ rfl W1.heap.size (by rfl) _ Gx43 Try.underlying96 (by kernel_rfl) ?_))
 have Cd := Cx43.drew
 have Gd := Gx43.drew
 have Zd := Zx43.drew
 have bd := bx43.drew
 refine wp_region_noPanic ?_
 refine wp_region_held_drew (S := fun w' => Blk w' w.heap.size 31 (Cn.v ⟨st, n0, n1, e0, e1, k0, k1, d0, d1⟩) ∧ Blk w' W1.heap.size 96 (Gt.v ⟨fl, win, sz, sq, ak⟩)) (by kernel_rfl) (by exact ⟨Cd, Gd⟩) (fun hHeld => ?_)
 refine qty (i := 0) (oi := fxg6o28) (v := (.agg (Gt.v ⟨fl, win, sz, sq, ak⟩))) (yieldsIf_blk_w (by kernel_rfl) _ _ rfl W1.heap.size (by rfl) _ (fun _ hSw => hSw.2) Try.underlying96 (by kernel_rfl)) hHeld ?_
 try simp only [qpu]
 refine qtk (i := 2) (oi := fxg6o32) (v := (.int .i64 0)) hHeld ?_ ?_
 ·intro w9 hSw
  try dsimp only at hSw
  go_simp
 try simp only [qpu]
 refine qtk (i := 3) (oi := fxg6o30) (v := (.pointer (some ⟨w.heap.size, 1, none⟩))) hHeld ?_ ?_
 ·intro w9 hSw
  try dsimp only at hSw
  go_simp
 try simp only [qpu]
 refine qtk (i := 4) (oi := fxg6o16) (v := (.pointer (some ⟨w.heap.size, 1, none⟩))) hHeld ?_ ?_
 ·intro w9 hSw
  try dsimp only at hSw
  go_simp
 try simp only [qpu]
 refine qtk (i := 5) (oi := fxg6o24) (v := (.int .u32 n0)) hHeld ?_ ?_
 ·intro w9 hSw
  try dsimp only at hSw
  have hcc := hSw.1.cell 1 (.int .u32 n0) rfl
  go_simp
 try simp only [qpu]
 refine wpAnyH_ready (rs := [1]) (by kernel_rfl) (by simp) ?_
 refine AllReadyH.cons (o := fxg6o6) rfl (fun K hK => ?_) AllReadyH.nil
 go_simp
 refine Calls.mono (KE.out _) ?_
 rintro e Wx81 ⟨rfl, bb⟩
 have Cx81 := Cd.kept bb
 have Gx81 := Gd.kept bb
 have Zx81 := Zd.kept bb
 have bx81 := bel_tr bd bb
 clear bb
 refine hK.out _ _ (by exact ⟨Cx81, Gx81⟩) (fun hHeld => ?_)
 clear hK K
 try simp only [qpu]
 refine wpAnyH_ready (rs := [6]) (by kernel_rfl) (by simp) ?_
 refine AllReadyH.cons (o := fxg6o3) rfl (fun K hK => ?_) AllReadyH.nil
 go_simp
 refine Calls.mono (KP.out _) ?_
 rintro e Wx82 ⟨rfl, bb⟩
 have Cx82 := Cx81.kept bb
 have Gx82 := Gx81.kept bb
 have Zx82 := Zx81.kept bb
 have bx82 := bel_tr bx81 bb
 clear bb
 refine hK.out _ _ (by exact ⟨Cx82, Gx82⟩) (fun hHeld => ?_)
 clear hK K
 try simp only [qpu]
 refine wpAnyH_done (by kernel_rfl) ?_ _
 refine NoPanic.normal ?_
 go_wp2_with (first | (refine wpList_load_blk_w (by rfl) _ _ rfl w.heap.size (by rfl) _ Cx82 Try.underlying31 (by kernel_rfl) ?_) | (refine wpList_load_blk_w (by rfl) _ _ rfl W1.heap.size (by rfl) _ Gx82 Try.underlying96 (by kernel_rfl) ?_))
 refine Calls.mono (KE.out _) ?_
 rintro e Wx82e ⟨rfl, bb⟩
 have Cx82e := Cx82.kept bb
 have Gx82e := Gx82.kept bb
 have Zx82e := Zx82.kept bb
 have bx82e := bel_tr bx82 bb
 clear bb
 clear Cx82 Gx82 Zx82 bx82
 have y1 := Cx82e.cell 1 (.int .u32 n0) rfl
 have z1 := Cx82e.frozen 1
 obtain ⟨Wx82p, hWx82p⟩ : ∃ W, Wx82e.setCell ⟨w.heap.size, 1, none⟩ (.int .u32 E) = W := ⟨_, rfl⟩
 have Cx82p : Blk Wx82p w.heap.size 31 (Cn.v ⟨st, E, n1, e0, e1, k0, k1, d0, d1⟩) := hWx82p ▸ Cx82e.put 1 (.int .u32 E)
 have Gx82p := hWx82p ▸ Gx82e.put_other Cx82e nGC 1 (.int .u32 E)
 have Zx82p := hWx82p ▸ Zx82e.put_other Cx82e nZC 1 (.int .u32 E)
 have bx82p := hWx82p ▸ bx82e.setCell (p := ⟨w.heap.size, 1, none⟩) (Nat.le_refl _) (.int .u32 E)
 have u4 := Cx82p.cell 4 (.int .u32 e1) rfl
 have g0 := Gx82p.cell 0 (.int .i64 fl) rfl
 have g1 := Gx82p.cell 1 (.int .i64 win) rfl
 have g4 := Gx82p.cell 4 (.int .u32 ak) rfl
 go_wp2_with (first | (refine wpList_load_blk_w (by rfl) _ _ rfl w.heap.size (by rfl) _ Cx82p Try.underlying31 (by kernel_rfl) ?_) | (refine wpList_load_blk_w (by rfl) _ _ rfl W1.heap.size (by rfl) _ Gx82p Try.underlying96 (by kernel_rfl) ?_))
 clear u4 g0 g1 g4
 refine Calls.mono (KO.out _) ?_
 rintro e Wx82po ⟨rfl, bb⟩
 have Cx82po := Cx82p.kept bb
 have Gx82po := Gx82p.kept bb
 have Zx82po := Zx82p.kept bb
 have bx82po := bel_tr bx82p bb
 clear bb
 clear Cx82p Gx82p Zx82p bx82p
 have y4 := Cx82po.cell 4 (.int .u32 e1) rfl
 have z4 := Cx82po.frozen 4
 obtain ⟨Wx82poq, hWx82poq⟩ : ∃ W, Wx82po.setCell ⟨w.heap.size, 4, none⟩ (.int .u32 ((ak + win) % 4294967296)) = W := ⟨_, rfl⟩
 have Cx82poq : Blk Wx82poq w.heap.size 31 (Cn.v ⟨st, E, n1, e0, ((ak + win) % 4294967296), k0, k1, d0, d1⟩) := hWx82poq ▸ Cx82po.put 4 (.int .u32 ((ak + win) % 4294967296))
 have Gx82poq := hWx82poq ▸ Gx82po.put_other Cx82po nGC 4 (.int .u32 ((ak + win) % 4294967296))
 have Zx82poq := hWx82poq ▸ Zx82po.put_other Cx82po nZC 4 (.int .u32 ((ak + win) % 4294967296))
 have bx82poq := hWx82poq ▸ bx82po.setCell (p := ⟨w.heap.size, 4, none⟩) (Nat.le_refl _) (.int .u32 ((ak + win) % 4294967296))
 have g0 := Gx82poq.cell 0 (.int .i64 fl) rfl
 cases A1 with
 | false =>
  cases d0 with
  | false =>
   cases d1 with
   | false =>
    have y0 := Cx82poq.cell 0 (.int .i64 st) rfl
    have z0 := Cx82poq.frozen 0
    obtain ⟨Wx82poqs, hWx82poqs⟩ : ∃ W, Wx82poq.setCell ⟨w.heap.size, 0, none⟩ (.int .i64 3) = W := ⟨_, rfl⟩
    have Cx82poqs : Blk Wx82poqs w.heap.size 31 (Cn.v ⟨3, E, n1, e0, ((ak + win) % 4294967296), k0, k1, false, false⟩) := hWx82poqs ▸ Cx82poq.put 0 (.int .i64 3)
    have Gx82poqs := hWx82poqs ▸ Gx82poq.put_other Cx82poq nGC 0 (.int .i64 3)
    have Zx82poqs := hWx82poqs ▸ Zx82poq.put_other Cx82poq nZC 0 (.int .i64 3)
    have bx82poqs := hWx82poqs ▸ bx82poq.setCell (p := ⟨w.heap.size, 0, none⟩) (Nat.le_refl _) (.int .i64 3)
    have t7 := Cx82poqs.cell 7 (.bool false) rfl
    have t8 := Cx82poqs.cell 8 (.bool false) rfl
    have Zf := Zx82poqs.set (Cn.v ⟨3, E, n1, e0, ((ak + win) % 4294967296), k0, k1, false, false⟩)
    have bf := below_setRow bx82poqs gZ (Cn.v ⟨3, E, n1, e0, ((ak + win) % 4294967296), k0, k1, false, false⟩)
    go_wp2_with (first | (refine wpList_load_blk_w (by rfl) _ _ rfl w.heap.size (by rfl) _ Cx82poqs Try.underlying31 (by kernel_rfl) ?_) | (refine wpList_load_blk_w (by rfl) _ _ rfl W1.heap.size (by rfl) _ Gx82poqs Try.underlying96 (by kernel_rfl) ?_) | (refine wpList_store_row rfl _ _ _ rfl W2.heap.size (Cn.v ⟨3, E, n1, e0, ((ak + win) % 4294967296), k0, k1, false, false⟩) (by rfl) (by rfl) _ _ Zx82poqs (by kernel_rfl) (by rfl) (by kernel_rfl) ?_))
    obtain rfl : ((⟨3, E, n1, e0, ((ak + win) % 4294967296), k0, k1, false, false⟩ : Cn), (0 : Int)) = R := by rw [← HR.out]; first | rfl | simp [Cn.ret]
    exact ret_cell_tmp (k := 6) (j := 7) Try.f46 (by kernel_rfl) Zf Try.underlying31 (by kernel_rfl) (by rfl) (by rfl) rfl ⟨rfl, bf⟩

   | true =>
    have y0 := Cx82poq.cell 0 (.int .i64 st) rfl
    have z0 := Cx82poq.frozen 0
    obtain ⟨Wx82poqs, hWx82poqs⟩ : ∃ W, Wx82poq.setCell ⟨w.heap.size, 0, none⟩ (.int .i64 3) = W := ⟨_, rfl⟩
    have Cx82poqs : Blk Wx82poqs w.heap.size 31 (Cn.v ⟨3, E, n1, e0, ((ak + win) % 4294967296), k0, k1, false, true⟩) := hWx82poqs ▸ Cx82poq.put 0 (.int .i64 3)
    have Gx82poqs := hWx82poqs ▸ Gx82poq.put_other Cx82poq nGC 0 (.int .i64 3)
    have Zx82poqs := hWx82poqs ▸ Zx82poq.put_other Cx82poq nZC 0 (.int .i64 3)
    have bx82poqs := hWx82poqs ▸ bx82poq.setCell (p := ⟨w.heap.size, 0, none⟩) (Nat.le_refl _) (.int .i64 3)
    have t7 := Cx82poqs.cell 7 (.bool false) rfl
    have t8 := Cx82poqs.cell 8 (.bool true) rfl
    have y0 := Cx82poqs.cell 0 (.int .i64 3) rfl
    have z0 := Cx82poqs.frozen 0
    obtain ⟨Wx82poqss, hWx82poqss⟩ : ∃ W, Wx82poqs.setCell ⟨w.heap.size, 0, none⟩ (.int .i64 4) = W := ⟨_, rfl⟩
    have Cx82poqss : Blk Wx82poqss w.heap.size 31 (Cn.v ⟨4, E, n1, e0, ((ak + win) % 4294967296), k0, k1, false, true⟩) := hWx82poqss ▸ Cx82poqs.put 0 (.int .i64 4)
    have Gx82poqss := hWx82poqss ▸ Gx82poqs.put_other Cx82poqs nGC 0 (.int .i64 4)
    have Zx82poqss := hWx82poqss ▸ Zx82poqs.put_other Cx82poqs nZC 0 (.int .i64 4)
    have bx82poqss := hWx82poqss ▸ bx82poqs.setCell (p := ⟨w.heap.size, 0, none⟩) (Nat.le_refl _) (.int .i64 4)
    have t7 := Cx82poqss.cell 7 (.bool false) rfl
    have t8 := Cx82poqss.cell 8 (.bool true) rfl
    have Zf := Zx82poqss.set (Cn.v ⟨4, E, n1, e0, ((ak + win) % 4294967296), k0, k1, false, true⟩)
    have bf := below_setRow bx82poqss gZ (Cn.v ⟨4, E, n1, e0, ((ak + win) % 4294967296), k0, k1, false, true⟩)
    go_wp2_with (first | (refine wpList_load_blk_w (by rfl) _ _ rfl w.heap.size (by rfl) _ Cx82poqss Try.underlying31 (by kernel_rfl) ?_) | (refine wpList_load_blk_w (by rfl) _ _ rfl W1.heap.size (by rfl) _ Gx82poqss Try.underlying96 (by kernel_rfl) ?_) | (refine wpList_store_row rfl _ _ _ rfl W2.heap.size (Cn.v ⟨4, E, n1, e0, ((ak + win) % 4294967296), k0, k1, false, true⟩) (by rfl) (by rfl) _ _ Zx82poqss (by kernel_rfl) (by rfl) (by kernel_rfl) ?_))
    obtain rfl : ((⟨4, E, n1, e0, ((ak + win) % 4294967296), k0, k1, false, true⟩ : Cn), (0 : Int)) = R := by rw [← HR.out]; first | rfl | simp [Cn.ret]
    exact ret_cell_tmp (k := 6) (j := 7) Try.f46 (by kernel_rfl) Zf Try.underlying31 (by kernel_rfl) (by rfl) (by rfl) rfl ⟨rfl, bf⟩


  | true =>
   cases d1 with
   | false =>
    have y0 := Cx82poq.cell 0 (.int .i64 st) rfl
    have z0 := Cx82poq.frozen 0
    obtain ⟨Wx82poqs, hWx82poqs⟩ : ∃ W, Wx82poq.setCell ⟨w.heap.size, 0, none⟩ (.int .i64 3) = W := ⟨_, rfl⟩
    have Cx82poqs : Blk Wx82poqs w.heap.size 31 (Cn.v ⟨3, E, n1, e0, ((ak + win) % 4294967296), k0, k1, true, false⟩) := hWx82poqs ▸ Cx82poq.put 0 (.int .i64 3)
    have Gx82poqs := hWx82poqs ▸ Gx82poq.put_other Cx82poq nGC 0 (.int .i64 3)
    have Zx82poqs := hWx82poqs ▸ Zx82poq.put_other Cx82poq nZC 0 (.int .i64 3)
    have bx82poqs := hWx82poqs ▸ bx82poq.setCell (p := ⟨w.heap.size, 0, none⟩) (Nat.le_refl _) (.int .i64 3)
    have t7 := Cx82poqs.cell 7 (.bool true) rfl
    have t8 := Cx82poqs.cell 8 (.bool false) rfl
    have y0 := Cx82poqs.cell 0 (.int .i64 3) rfl
    have z0 := Cx82poqs.frozen 0
    obtain ⟨Wx82poqss, hWx82poqss⟩ : ∃ W, Wx82poqs.setCell ⟨w.heap.size, 0, none⟩ (.int .i64 4) = W := ⟨_, rfl⟩
    have Cx82poqss : Blk Wx82poqss w.heap.size 31 (Cn.v ⟨4, E, n1, e0, ((ak + win) % 4294967296), k0, k1, true, false⟩) := hWx82poqss ▸ Cx82poqs.put 0 (.int .i64 4)
    have Gx82poqss := hWx82poqss ▸ Gx82poqs.put_other Cx82poqs nGC 0 (.int .i64 4)
    have Zx82poqss := hWx82poqss ▸ Zx82poqs.put_other Cx82poqs nZC 0 (.int .i64 4)
    have bx82poqss := hWx82poqss ▸ bx82poqs.setCell (p := ⟨w.heap.size, 0, none⟩) (Nat.le_refl _) (.int .i64 4)
    have t7 := Cx82poqss.cell 7 (.bool true) rfl
    have t8 := Cx82poqss.cell 8 (.bool false) rfl
    have Zf := Zx82poqss.set (Cn.v ⟨4, E, n1, e0, ((ak + win) % 4294967296), k0, k1, true, false⟩)
    have bf := below_setRow bx82poqss gZ (Cn.v ⟨4, E, n1, e0, ((ak + win) % 4294967296), k0, k1, true, false⟩)
    go_wp2_with (first | (refine wpList_load_blk_w (by rfl) _ _ rfl w.heap.size (by rfl) _ Cx82poqss Try.underlying31 (by kernel_rfl) ?_) | (refine wpList_load_blk_w (by rfl) _ _ rfl W1.heap.size (by rfl) _ Gx82poqss Try.underlying96 (by kernel_rfl) ?_) | (refine wpList_store_row rfl _ _ _ rfl W2.heap.size (Cn.v ⟨4, E, n1, e0, ((ak + win) % 4294967296), k0, k1, true, false⟩) (by rfl) (by rfl) _ _ Zx82poqss (by kernel_rfl) (by rfl) (by kernel_rfl) ?_))
    obtain rfl : ((⟨4, E, n1, e0, ((ak + win) % 4294967296), k0, k1, true, false⟩ : Cn), (0 : Int)) = R := by rw [← HR.out]; first | rfl | simp [Cn.ret]
    exact ret_cell_tmp (k := 6) (j := 7) Try.f46 (by kernel_rfl) Zf Try.underlying31 (by kernel_rfl) (by rfl) (by rfl) rfl ⟨rfl, bf⟩

   | true =>
    have y0 := Cx82poq.cell 0 (.int .i64 st) rfl
    have z0 := Cx82poq.frozen 0
    obtain ⟨Wx82poqs, hWx82poqs⟩ : ∃ W, Wx82poq.setCell ⟨w.heap.size, 0, none⟩ (.int .i64 3) = W := ⟨_, rfl⟩
    have Cx82poqs : Blk Wx82poqs w.heap.size 31 (Cn.v ⟨3, E, n1, e0, ((ak + win) % 4294967296), k0, k1, true, true⟩) := hWx82poqs ▸ Cx82poq.put 0 (.int .i64 3)
    have Gx82poqs := hWx82poqs ▸ Gx82poq.put_other Cx82poq nGC 0 (.int .i64 3)
    have Zx82poqs := hWx82poqs ▸ Zx82poq.put_other Cx82poq nZC 0 (.int .i64 3)
    have bx82poqs := hWx82poqs ▸ bx82poq.setCell (p := ⟨w.heap.size, 0, none⟩) (Nat.le_refl _) (.int .i64 3)
    have t7 := Cx82poqs.cell 7 (.bool true) rfl
    have t8 := Cx82poqs.cell 8 (.bool true) rfl
    have y0 := Cx82poqs.cell 0 (.int .i64 3) rfl
    have z0 := Cx82poqs.frozen 0
    obtain ⟨Wx82poqss, hWx82poqss⟩ : ∃ W, Wx82poqs.setCell ⟨w.heap.size, 0, none⟩ (.int .i64 4) = W := ⟨_, rfl⟩
    have Cx82poqss : Blk Wx82poqss w.heap.size 31 (Cn.v ⟨4, E, n1, e0, ((ak + win) % 4294967296), k0, k1, true, true⟩) := hWx82poqss ▸ Cx82poqs.put 0 (.int .i64 4)
    have Gx82poqss := hWx82poqss ▸ Gx82poqs.put_other Cx82poqs nGC 0 (.int .i64 4)
    have Zx82poqss := hWx82poqss ▸ Zx82poqs.put_other Cx82poqs nZC 0 (.int .i64 4)
    have bx82poqss := hWx82poqss ▸ bx82poqs.setCell (p := ⟨w.heap.size, 0, none⟩) (Nat.le_refl _) (.int .i64 4)
    have t7 := Cx82poqss.cell 7 (.bool true) rfl
    have t8 := Cx82poqss.cell 8 (.bool true) rfl
    have y0 := Cx82poqss.cell 0 (.int .i64 4) rfl
    have z0 := Cx82poqss.frozen 0
    obtain ⟨Wx82poqsss, hWx82poqsss⟩ : ∃ W, Wx82poqss.setCell ⟨w.heap.size, 0, none⟩ (.int .i64 5) = W := ⟨_, rfl⟩
    have Cx82poqsss : Blk Wx82poqsss w.heap.size 31 (Cn.v ⟨5, E, n1, e0, ((ak + win) % 4294967296), k0, k1, true, true⟩) := hWx82poqsss ▸ Cx82poqss.put 0 (.int .i64 5)
    have Gx82poqsss := hWx82poqsss ▸ Gx82poqss.put_other Cx82poqss nGC 0 (.int .i64 5)
    have Zx82poqsss := hWx82poqsss ▸ Zx82poqss.put_other Cx82poqss nZC 0 (.int .i64 5)
    have bx82poqsss := hWx82poqsss ▸ bx82poqss.setCell (p := ⟨w.heap.size, 0, none⟩) (Nat.le_refl _) (.int .i64 5)
    have t7 := Cx82poqsss.cell 7 (.bool true) rfl
    have t8 := Cx82poqsss.cell 8 (.bool true) rfl
    have Zf := Zx82poqsss.set (Cn.v ⟨5, E, n1, e0, ((ak + win) % 4294967296), k0, k1, true, true⟩)
    have bf := below_setRow bx82poqsss gZ (Cn.v ⟨5, E, n1, e0, ((ak + win) % 4294967296), k0, k1, true, true⟩)
    go_wp2_with (first | (refine wpList_load_blk_w (by rfl) _ _ rfl w.heap.size (by rfl) _ Cx82poqsss Try.underlying31 (by kernel_rfl) ?_) | (refine wpList_load_blk_w (by rfl) _ _ rfl W1.heap.size (by rfl) _ Gx82poqsss Try.underlying96 (by kernel_rfl) ?_) | (refine wpList_store_row rfl _ _ _ rfl W2.heap.size (Cn.v ⟨5, E, n1, e0, ((ak + win) % 4294967296), k0, k1, true, true⟩) (by rfl) (by rfl) _ _ Zx82poqsss (by kernel_rfl) (by rfl) (by kernel_rfl) ?_))
    obtain rfl : ((⟨5, E, n1, e0, ((ak + win) % 4294967296), k0, k1, true, true⟩ : Cn), (0 : Int)) = R := by rw [← HR.out]; first | rfl | simp [Cn.ret]
    exact ret_cell_tmp (k := 6) (j := 7) Try.f46 (by kernel_rfl) Zf Try.underlying31 (by kernel_rfl) (by rfl) (by rfl) rfl ⟨rfl, bf⟩



 | true =>
  have y7 := Cx82poq.cell 7 (.bool d0) rfl
  have z7 := Cx82poq.frozen 7
  obtain ⟨Wx82poqf, hWx82poqf⟩ : ∃ W, Wx82poq.setCell ⟨w.heap.size, 7, none⟩ (.bool true) = W := ⟨_, rfl⟩
  have Cx82poqf : Blk Wx82poqf w.heap.size 31 (Cn.v ⟨st, E, n1, e0, ((ak + win) % 4294967296), k0, k1, true, d1⟩) := hWx82poqf ▸ Cx82poq.put 7 (.bool true)
  have Gx82poqf := hWx82poqf ▸ Gx82poq.put_other Cx82poq nGC 7 (.bool true)
  have Zx82poqf := hWx82poqf ▸ Zx82poq.put_other Cx82poq nZC 7 (.bool true)
  have bx82poqf := hWx82poqf ▸ bx82poq.setCell (p := ⟨w.heap.size, 7, none⟩) (Nat.le_refl _) (.bool true)
  cases d1 with
  | false =>
   have y0 := Cx82poqf.cell 0 (.int .i64 st) rfl
   have z0 := Cx82poqf.frozen 0
   obtain ⟨Wx82poqfs, hWx82poqfs⟩ : ∃ W, Wx82poqf.setCell ⟨w.heap.size, 0, none⟩ (.int .i64 3) = W := ⟨_, rfl⟩
   have Cx82poqfs : Blk Wx82poqfs w.heap.size 31 (Cn.v ⟨3, E, n1, e0, ((ak + win) % 4294967296), k0, k1, true, false⟩) := hWx82poqfs ▸ Cx82poqf.put 0 (.int .i64 3)
   have Gx82poqfs := hWx82poqfs ▸ Gx82poqf.put_other Cx82poqf nGC 0 (.int .i64 3)
   have Zx82poqfs := hWx82poqfs ▸ Zx82poqf.put_other Cx82poqf nZC 0 (.int .i64 3)
   have bx82poqfs := hWx82poqfs ▸ bx82poqf.setCell (p := ⟨w.heap.size, 0, none⟩) (Nat.le_refl _) (.int .i64 3)
   have t7 := Cx82poqfs.cell 7 (.bool true) rfl
   have t8 := Cx82poqfs.cell 8 (.bool false) rfl
   have y0 := Cx82poqfs.cell 0 (.int .i64 3) rfl
   have z0 := Cx82poqfs.frozen 0
   obtain ⟨Wx82poqfss, hWx82poqfss⟩ : ∃ W, Wx82poqfs.setCell ⟨w.heap.size, 0, none⟩ (.int .i64 4) = W := ⟨_, rfl⟩
   have Cx82poqfss : Blk Wx82poqfss w.heap.size 31 (Cn.v ⟨4, E, n1, e0, ((ak + win) % 4294967296), k0, k1, true, false⟩) := hWx82poqfss ▸ Cx82poqfs.put 0 (.int .i64 4)
   have Gx82poqfss := hWx82poqfss ▸ Gx82poqfs.put_other Cx82poqfs nGC 0 (.int .i64 4)
   have Zx82poqfss := hWx82poqfss ▸ Zx82poqfs.put_other Cx82poqfs nZC 0 (.int .i64 4)
   have bx82poqfss := hWx82poqfss ▸ bx82poqfs.setCell (p := ⟨w.heap.size, 0, none⟩) (Nat.le_refl _) (.int .i64 4)
   have t7 := Cx82poqfss.cell 7 (.bool true) rfl
   have t8 := Cx82poqfss.cell 8 (.bool false) rfl
   have Zf := Zx82poqfss.set (Cn.v ⟨4, E, n1, e0, ((ak + win) % 4294967296), k0, k1, true, false⟩)
   have bf := below_setRow bx82poqfss gZ (Cn.v ⟨4, E, n1, e0, ((ak + win) % 4294967296), k0, k1, true, false⟩)
   go_wp2_with (first | (refine wpList_load_blk_w (by rfl) _ _ rfl w.heap.size (by rfl) _ Cx82poqfss Try.underlying31 (by kernel_rfl) ?_) | (refine wpList_load_blk_w (by rfl) _ _ rfl W1.heap.size (by rfl) _ Gx82poqfss Try.underlying96 (by kernel_rfl) ?_) | (refine wpList_store_row rfl _ _ _ rfl W2.heap.size (Cn.v ⟨4, E, n1, e0, ((ak + win) % 4294967296), k0, k1, true, false⟩) (by rfl) (by rfl) _ _ Zx82poqfss (by kernel_rfl) (by rfl) (by kernel_rfl) ?_))
   obtain rfl : ((⟨4, E, n1, e0, ((ak + win) % 4294967296), k0, k1, true, false⟩ : Cn), (0 : Int)) = R := by rw [← HR.out]; first | rfl | simp [Cn.ret]
   exact ret_cell_tmp (k := 6) (j := 7) Try.f46 (by kernel_rfl) Zf Try.underlying31 (by kernel_rfl) (by rfl) (by rfl) rfl ⟨rfl, bf⟩

  | true =>
   have y0 := Cx82poqf.cell 0 (.int .i64 st) rfl
   have z0 := Cx82poqf.frozen 0
   obtain ⟨Wx82poqfs, hWx82poqfs⟩ : ∃ W, Wx82poqf.setCell ⟨w.heap.size, 0, none⟩ (.int .i64 3) = W := ⟨_, rfl⟩
   have Cx82poqfs : Blk Wx82poqfs w.heap.size 31 (Cn.v ⟨3, E, n1, e0, ((ak + win) % 4294967296), k0, k1, true, true⟩) := hWx82poqfs ▸ Cx82poqf.put 0 (.int .i64 3)
   have Gx82poqfs := hWx82poqfs ▸ Gx82poqf.put_other Cx82poqf nGC 0 (.int .i64 3)
   have Zx82poqfs := hWx82poqfs ▸ Zx82poqf.put_other Cx82poqf nZC 0 (.int .i64 3)
   have bx82poqfs := hWx82poqfs ▸ bx82poqf.setCell (p := ⟨w.heap.size, 0, none⟩) (Nat.le_refl _) (.int .i64 3)
   have t7 := Cx82poqfs.cell 7 (.bool true) rfl
   have t8 := Cx82poqfs.cell 8 (.bool true) rfl
   have y0 := Cx82poqfs.cell 0 (.int .i64 3) rfl
   have z0 := Cx82poqfs.frozen 0
   obtain ⟨Wx82poqfss, hWx82poqfss⟩ : ∃ W, Wx82poqfs.setCell ⟨w.heap.size, 0, none⟩ (.int .i64 4) = W := ⟨_, rfl⟩
   have Cx82poqfss : Blk Wx82poqfss w.heap.size 31 (Cn.v ⟨4, E, n1, e0, ((ak + win) % 4294967296), k0, k1, true, true⟩) := hWx82poqfss ▸ Cx82poqfs.put 0 (.int .i64 4)
   have Gx82poqfss := hWx82poqfss ▸ Gx82poqfs.put_other Cx82poqfs nGC 0 (.int .i64 4)
   have Zx82poqfss := hWx82poqfss ▸ Zx82poqfs.put_other Cx82poqfs nZC 0 (.int .i64 4)
   have bx82poqfss := hWx82poqfss ▸ bx82poqfs.setCell (p := ⟨w.heap.size, 0, none⟩) (Nat.le_refl _) (.int .i64 4)
   have t7 := Cx82poqfss.cell 7 (.bool true) rfl
   have t8 := Cx82poqfss.cell 8 (.bool true) rfl
   have y0 := Cx82poqfss.cell 0 (.int .i64 4) rfl
   have z0 := Cx82poqfss.frozen 0
   obtain ⟨Wx82poqfsss, hWx82poqfsss⟩ : ∃ W, Wx82poqfss.setCell ⟨w.heap.size, 0, none⟩ (.int .i64 5) = W := ⟨_, rfl⟩
   have Cx82poqfsss : Blk Wx82poqfsss w.heap.size 31 (Cn.v ⟨5, E, n1, e0, ((ak + win) % 4294967296), k0, k1, true, true⟩) := hWx82poqfsss ▸ Cx82poqfss.put 0 (.int .i64 5)
   have Gx82poqfsss := hWx82poqfsss ▸ Gx82poqfss.put_other Cx82poqfss nGC 0 (.int .i64 5)
   have Zx82poqfsss := hWx82poqfsss ▸ Zx82poqfss.put_other Cx82poqfss nZC 0 (.int .i64 5)
   have bx82poqfsss := hWx82poqfsss ▸ bx82poqfss.setCell (p := ⟨w.heap.size, 0, none⟩) (Nat.le_refl _) (.int .i64 5)
   have t7 := Cx82poqfsss.cell 7 (.bool true) rfl
   have t8 := Cx82poqfsss.cell 8 (.bool true) rfl
   have Zf := Zx82poqfsss.set (Cn.v ⟨5, E, n1, e0, ((ak + win) % 4294967296), k0, k1, true, true⟩)
   have bf := below_setRow bx82poqfsss gZ (Cn.v ⟨5, E, n1, e0, ((ak + win) % 4294967296), k0, k1, true, true⟩)
   go_wp2_with (first | (refine wpList_load_blk_w (by rfl) _ _ rfl w.heap.size (by rfl) _ Cx82poqfsss Try.underlying31 (by kernel_rfl) ?_) | (refine wpList_load_blk_w (by rfl) _ _ rfl W1.heap.size (by rfl) _ Gx82poqfsss Try.underlying96 (by kernel_rfl) ?_) | (refine wpList_store_row rfl _ _ _ rfl W2.heap.size (Cn.v ⟨5, E, n1, e0, ((ak + win) % 4294967296), k0, k1, true, true⟩) (by rfl) (by rfl) _ _ Zx82poqfsss (by kernel_rfl) (by rfl) (by kernel_rfl) ?_))
   obtain rfl : ((⟨5, E, n1, e0, ((ak + win) % 4294967296), k0, k1, true, true⟩ : Cn), (0 : Int)) = R := by rw [← HR.out]; first | rfl | simp [Cn.ret]
   exact ret_cell_tmp (k := 6) (j := 7) Try.f46 (by kernel_rfl) Zf Try.underlying31 (by kernel_rfl) (by rfl) (by rfl) rfl ⟨rfl, bf⟩
set_option maxRecDepth 100000 in
set_option maxHeartbeats 4000000 in
theorem rstep0_tc (c : Cn) (g : Gt) (w : World) :
  Calls Try.prog 46 #[.agg c.v, .int .i64 0, .agg g.v] w fun e w' => e = .returned (.tuple #[.agg (c.step 0 g).1.v, .int .i64 (c.step 0 g).2]) ∧ Below w.heap.size w w' := by
 by_cases h : c.right = true ∧ inB15 g.win = true ∧ inB15 g.sz = true ∧ flB g.fl 4 = false ∧ (c.st == 6) = false ∧ flB g.fl 2 = false ∧ flB g.fl 16 = true ∧ (c.st == 1) = false ∧ c.win false g = true ∧ frB g.ak ((c.n1 - 65535) % 4294967296) = true ∧ frB c.n1 g.ak = true
 ·obtain ⟨qRR, qIW, qIZ, qA4, qX6, qA2, qA16, qX1, qV, qQ1, qQ2⟩ := h
  cases p : frB g.e c.n0 <;> cases o : frB ((g.ak + g.win) % 4294967296) c.e1
  ·exact rstep0ff_tc c g w qRR qIW qIZ qA4 qX6 qA2 qA16 qX1 qV qQ1 qQ2 p o
  ·exact rstep0ft_tc c g w qRR qIW qIZ qA4 qX6 qA2 qA16 qX1 qV qQ1 qQ2 p o
  ·exact rstep0tf_tc c g w qRR qIW qIZ qA4 qX6 qA2 qA16 qX1 qV qQ1 qQ2 p o
  ·exact rstep0tt_tc c g w qRR qIW qIZ qA4 qX6 qA2 qA16 qX1 qV qQ1 qQ2 p o
 ·exact rstep0N_tc c g w h
end Go.Proofs.Ytfiembbmgdmagaa
