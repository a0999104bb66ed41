/- Texts joined: TcL TcK TcMB TcM0N -/
import Derived.Test.YtfiembbmgdmagaaFxg1
namespace Go.Proofs.Ytfiembbmgdmagaa
abbrev fxg5o0 : Oper := { dst := some 6, op := Op.assign (.tmp 29), type := 4, pos := "ref.go:73", after := #[{ on := 22, ground := Ground.data }, { on := 21, ground := Ground.chain }, { on := 0, ground := Ground.phase }, { on := 1, ground := Ground.phase }, { on := 2, ground := Ground.phase }, { on := 3, ground := Ground.phase }, { on := 4, ground := Ground.phase }, { on := 5, ground := Ground.phase }, { on := 6, ground := Ground.phase }, { on := 7, ground := Ground.phase }, { on := 8, ground := Ground.phase }, { on := 9, ground := Ground.phase }, { on := 10, ground := Ground.phase }, { on := 11, ground := Ground.phase }, { on := 12, ground := Ground.phase }, { on := 13, ground := Ground.phase }, { on := 14, ground := Ground.phase }, { on := 15, ground := Ground.phase }, { on := 16, ground := Ground.phase }, { on := 17, ground := Ground.phase }, { on := 18, ground := Ground.phase }, { on := 19, ground := Ground.phase }, { on := 20, ground := Ground.phase }, { on := 21, ground := Ground.phase }, { on := 22, ground := Ground.phase }], guard := none }
abbrev fxg5o1 : Oper := { dst := some 28, op := Op.call { callee := Callee.value (.func 71), args := #[.tmp 25, .tmp 27], argTypes := #[27, 27] }, type := 4, pos := "ref.go:73", after := #[{ on := 18, ground := Ground.data }, { on := 20, ground := Ground.data }, { on := 20, ground := Ground.chain }, { on := 14, ground := Ground.guard }], guard := some (14, true) }
abbrev fxg5o2 : Oper := { dst := some 27, op := Op.call { callee := Callee.value (.func 72), args := #[.tmp 26], argTypes := #[96] }, type := 27, pos := "ref.go:73", after := #[{ on := 19, ground := Ground.data }, { on := 14, ground := Ground.chain }, { on := 14, ground := Ground.guard }], guard := some (14, true) }
abbrev fxg5o3 : Oper := { dst := some 19, op := Op.call { callee := Callee.value (.func 71), args := #[.tmp 13, .tmp 18], argTypes := #[27, 27] }, type := 4, pos := "ref.go:73", after := #[{ on := 6, ground := Ground.data }, { on := 11, ground := Ground.data }, { on := 6, ground := Ground.chain }, { on := 4, ground := Ground.guard }], guard := some (4, true) }
abbrev fxg5o4 : Oper := { dst := some 24, op := Op.indexAddr 28 (.tmp 23) (.tmp 22), type := 0, pos := "ref.go:73", after := #[{ on := 16, ground := Ground.data }, { on := 15, ground := Ground.data }, { on := 14, ground := Ground.guard }], guard := some (14, true) }
abbrev fxg5o5 : Oper := { dst := some 13, op := Op.call { callee := Callee.value (.func 72), args := #[.tmp 12], argTypes := #[96] }, type := 27, pos := "ref.go:73", after := #[{ on := 5, ground := Ground.data }, { on := 4, ground := Ground.chain }, { on := 4, ground := Ground.guard }], guard := some (4, true) }
abbrev fxg5o6 : Oper := { dst := some 29, op := Op.pick (.tmp 21) (.tmp 28) (.const (.bool false)), type := 4, pos := "ref.go:73", after := #[{ on := 14, ground := Ground.data }, { on := 21, ground := Ground.data }], guard := none }
abbrev fxg5o7 : Oper := { dst := some 20, op := Op.pick (.tmp 11) (.tmp 19) (.const (.bool false)), type := 4, pos := "ref.go:73", after := #[{ on := 4, ground := Ground.data }, { on := 12, ground := Ground.data }], guard := none }
abbrev fxg5o8 : Oper := { dst := some 25, op := Op.load 27 (.tmp 24), type := 27, pos := "ref.go:73", after := #[{ on := 17, ground := Ground.data }, { on := 14, ground := Ground.guard }], guard := some (14, true) }
abbrev fxg5o9 : Oper := { dst := some 26, op := Op.load 96 (.tmp 5), type := 96, pos := "ref.go:73", after := #[{ on := 14, ground := Ground.guard }], guard := some (14, true) }
abbrev fxg5o10 : Oper := { dst := some 130, op := Op.call { callee := Callee.value (.func 71), args := #[.tmp 127, .tmp 129], argTypes := #[27, 27] }, type := 4, pos := "ref.go:121", after := #[{ on := 20, ground := Ground.data }, { on := 22, ground := Ground.data }, { on := 16, ground := Ground.chain }, { on := 16, ground := Ground.guard }], guard := some (16, false) }
abbrev fxg5o11 : Oper := { dst := some 21, op := Op.move (.tmp 20), type := 4, pos := "ref.go:73", after := #[{ on := 13, ground := Ground.data }, { on := 12, ground := Ground.chain }], guard := none }
abbrev fxg5o12 : Oper := { dst := some 18, op := Op.binOp BinOp.sub 27 (.tmp 17) (.const (.int .u32 65535)) 27, type := 27, pos := "ref.go:73", after := #[{ on := 10, ground := Ground.data }, { on := 4, ground := Ground.guard }], guard := some (4, true) }
abbrev fxg5o13 : Oper := { dst := some 23, op := Op.fieldAddr 31 (.tmp 3) 2, type := 0, pos := "ref.go:73", after := #[{ on := 14, ground := Ground.guard }], guard := some (14, true) }
abbrev fxg5o14 : Oper := { dst := some 16, op := Op.indexAddr 28 (.tmp 15) (.tmp 14), type := 0, pos := "ref.go:73", after := #[{ on := 8, ground := Ground.data }, { on := 7, ground := Ground.data }, { on := 4, ground := Ground.guard }], guard := some (4, true) }
abbrev fxg5o15 : Oper := { dst := some 22, op := Op.move (.tmp 1), type := 3, pos := "ref.go:73", after := #[{ on := 14, ground := Ground.guard }], guard := some (14, true) }
abbrev fxg5o16 : Oper := { dst := some 132, op := Op.pick (.tmp 123) (.const (.bool true)) (.tmp 131), type := 4, pos := "ref.go:121", after := #[{ on := 16, ground := Ground.data }, { on := 24, ground := Ground.data }], guard := none }
abbrev fxg5o17 : Oper := { dst := some 131, op := Op.unOp UnOp.not 4 (.tmp 130), type := 4, pos := "ref.go:121", after := #[{ on := 23, ground := Ground.data }, { on := 16, ground := Ground.guard }], guard := some (16, false) }
abbrev fxg5o18 : Oper := { dst := some 17, op := Op.load 27 (.tmp 16), type := 27, pos := "ref.go:73", after := #[{ on := 9, ground := Ground.data }, { on := 4, ground := Ground.guard }], guard := some (4, true) }
abbrev fxg5o19 : Oper := { dst := some 9, op := Op.indexAddr 29 (.tmp 8) (.tmp 7), type := 0, pos := "ref.go:73", after := #[{ on := 1, ground := Ground.data }, { on := 0, ground := Ground.data }], guard := none }
abbrev fxg5o20 : Oper := { dst := some 12, op := Op.load 96 (.tmp 5), type := 96, pos := "ref.go:73", after := #[{ on := 4, ground := Ground.guard }], guard := some (4, true) }
abbrev fxg5o21 : Oper := { dst := some 126, op := Op.indexAddr 28 (.tmp 125) (.tmp 124), type := 0, pos := "ref.go:121", after := #[{ on := 18, ground := Ground.data }, { on := 17, ground := Ground.data }, { on := 16, ground := Ground.guard }], guard := some (16, false) }
abbrev fxg5o22 : Oper := { dst := some 120, op := Op.call { callee := Callee.value (.func 71), args := #[.tmp 114, .tmp 119], argTypes := #[27, 27] }, type := 4, pos := "ref.go:121", after := #[{ on := 7, ground := Ground.data }, { on := 12, ground := Ground.data }, { on := 5, ground := Ground.chain }, { on := 5, ground := Ground.guard }], guard := some (5, false) }
abbrev fxg5o23 : Oper := { dst := some 15, op := Op.fieldAddr 31 (.tmp 3) 1, type := 0, pos := "ref.go:73", after := #[{ on := 4, ground := Ground.guard }], guard := some (4, true) }
abbrev fxg5o24 : Oper := { dst := some 122, op := Op.pick (.tmp 112) (.const (.bool true)) (.tmp 121), type := 4, pos := "ref.go:121", after := #[{ on := 5, ground := Ground.data }, { on := 14, ground := Ground.data }], guard := none }
abbrev fxg5o25 : Oper := { dst := some 121, op := Op.unOp UnOp.not 4 (.tmp 120), type := 4, pos := "ref.go:121", after := #[{ on := 13, ground := Ground.data }, { on := 5, ground := Ground.guard }], guard := some (5, false) }
abbrev fxg5o26 : Oper := { dst := some 127, op := Op.load 27 (.tmp 126), type := 27, pos := "ref.go:121", after := #[{ on := 19, ground := Ground.data }, { on := 16, ground := Ground.guard }], guard := some (16, false) }
abbrev fxg5o27 : Oper := { dst := some 129, op := Op.load 27 (.tmp 128), type := 27, pos := "ref.go:121", after := #[{ on := 21, ground := Ground.data }, { on := 16, ground := Ground.guard }], guard := some (16, false) }
abbrev fxg5o28 : Oper := { dst := some 14, op := Op.move (.tmp 1), type := 3, pos := "ref.go:73", after := #[{ on := 4, ground := Ground.guard }], guard := some (4, true) }
abbrev fxg5o29 : Oper := { dst := some 10, op := Op.load 4 (.tmp 9), type := 4, pos := "ref.go:73", after := #[{ on := 2, ground := Ground.data }], guard := none }
abbrev fxg5o30 : Oper := { dst := some 11, op := Op.move (.tmp 10), type := 4, pos := "ref.go:73", after := #[{ on := 3, ground := Ground.data }], guard := none }
abbrev fxg5o31 : Oper := { dst := some 123, op := Op.move (.tmp 122), type := 4, pos := "ref.go:121", after := #[{ on := 15, ground := Ground.data }, { on := 13, ground := Ground.chain }], guard := none }
abbrev fxg5o32 : Oper := { dst := some 128, op := Op.fieldAddr 96 (.tmp 5) 4, type := 0, pos := "ref.go:121", after := #[{ on := 16, ground := Ground.guard }], guard := some (16, false) }
abbrev fxg5o33 : Oper := { dst := some 119, op := Op.binOp BinOp.sub 27 (.tmp 118) (.const (.int .u32 65535)) 27, type := 27, pos := "ref.go:121", after := #[{ on := 11, ground := Ground.data }, { on := 5, ground := Ground.guard }], guard := some (5, false) }
abbrev fxg5o34 : Oper := { dst := some 125, op := Op.fieldAddr 31 (.tmp 3) 1, type := 0, pos := "ref.go:121", after := #[{ on := 16, ground := Ground.guard }], guard := some (16, false) }
abbrev fxg5o35 : Oper := { dst := some 117, op := Op.indexAddr 28 (.tmp 116) (.tmp 115), type := 0, pos := "ref.go:121", after := #[{ on := 9, ground := Ground.data }, { on := 8, ground := Ground.data }, { on := 5, ground := Ground.guard }], guard := some (5, false) }
abbrev fxg5o36 : Oper := { dst := some 8, op := Op.fieldAddr 31 (.tmp 3) 3, type := 0, pos := "ref.go:73", after := #[], guard := none }
abbrev fxg5o37 : Oper := { dst := some 124, op := Op.move (.tmp 8), type := 3, pos := "ref.go:121", after := #[{ on := 16, ground := Ground.guard }], guard := some (16, false) }
abbrev fxg5o38 : Oper := { dst := some 7, op := Op.move (.tmp 1), type := 3, pos := "ref.go:73", after := #[], guard := none }
abbrev fxg5o39 : Oper := { dst := some 118, op := Op.load 27 (.tmp 117), type := 27, pos := "ref.go:121", after := #[{ on := 10, ground := Ground.data }, { on := 5, ground := Ground.guard }], guard := some (5, false) }
abbrev fxg5o40 : Oper := { dst := some 114, op := Op.load 27 (.tmp 113), type := 27, pos := "ref.go:121", after := #[{ on := 6, ground := Ground.data }, { on := 5, ground := Ground.guard }], guard := some (5, false) }
abbrev fxg5o42 : Oper := { dst := some 112, op := Op.move (.tmp 111), type := 4, pos := "ref.go:121", after := #[{ on := 4, ground := Ground.data }, { on := 3, ground := Ground.chain }], guard := none }
abbrev fxg5o43 : Oper := { dst := some 113, op := Op.fieldAddr 96 (.tmp 5) 4, type := 0, pos := "ref.go:121", after := #[{ on := 5, ground := Ground.guard }], guard := some (5, false) }
abbrev fxg5o44 : Oper := { dst := some 116, op := Op.fieldAddr 31 (.tmp 3) 1, type := 0, pos := "ref.go:121", after := #[{ on := 5, ground := Ground.guard }], guard := some (5, false) }
abbrev fxg5o45 : Oper := { dst := some 111, op := Op.unOp UnOp.not 4 (.tmp 110), type := 4, pos := "ref.go:121", after := #[{ on := 3, ground := Ground.data }], guard := none }
abbrev fxg5o46 : Oper := { dst := some 115, op := Op.move (.tmp 8), type := 3, pos := "ref.go:121", after := #[{ on := 5, ground := Ground.guard }], guard := some (5, false) }
end Go.Proofs.Ytfiembbmgdmagaa
namespace Go.Proofs.Ytfiembbmgdmagaa
open Go.RowKit
set_option linter.unusedVariables false
set_option linter.unusedSimpArgs false
set_option maxRecDepth 100000 in
set_option maxHeartbeats 4000000 in
theorem rright_tc (c : Cn) (w : World) :
  Calls Try.prog 41 #[.agg c.v] w fun e w' => e = .returned (.bool c.right) ∧ Below w.heap.size w w' := by
 obtain ⟨R, hR⟩ : ∃ R, c.right = R := ⟨_, rfl⟩
 have HR : Hid (c.right = R) := hR
 rw [hR]
 clear hR
 obtain ⟨st, n0, n1, e0, e1, k0, k1, d0, d1⟩ := c
 by_cases h1 : st = 1
 ·subst h1
  obtain ⟨W1, hW1⟩ : ∃ W, w.alloc (.cells (Cn.v ⟨1, n0, n1, e0, e1, k0, k1, d0, d1⟩) 31) = W := ⟨_, rfl⟩
  have b1 := bel_nw hW1
  have C1 := blk_nw hW1
  cases k0 <;> cases k1 <;> cases d0 <;> cases d1 <;> (
   have c0 := C1.cell 0 (.int .i64 1) rfl
   have c5 := C1.cell 5 _ rfl
   have c6 := C1.cell 6 _ rfl
   have c7 := C1.cell 7 _ rfl
   have c8 := C1.cell 8 _ rfl
   go_enter Try.func41, Try.ntmps41
   go_wp2
   all_goals (go_ret; exact ⟨retB_tc (by rw [← HR.out]; rfl), b1⟩))

 by_cases h2 : st = 2
 ·subst h2
  obtain ⟨W1, hW1⟩ : ∃ W, w.alloc (.cells (Cn.v ⟨2, n0, n1, e0, e1, k0, k1, d0, d1⟩) 31) = W := ⟨_, rfl⟩
  have b1 := bel_nw hW1
  have C1 := blk_nw hW1
  cases k0 <;> cases k1 <;> cases d0 <;> cases d1 <;> (
   have c0 := C1.cell 0 (.int .i64 2) rfl
   have c5 := C1.cell 5 _ rfl
   have c6 := C1.cell 6 _ rfl
   have c7 := C1.cell 7 _ rfl
   have c8 := C1.cell 8 _ rfl
   go_enter Try.func41, Try.ntmps41
   go_wp2
   all_goals (go_ret; exact ⟨retB_tc (by rw [← HR.out]; rfl), b1⟩))

 by_cases h3 : st = 3
 ·subst h3
  obtain ⟨W1, hW1⟩ : ∃ W, w.alloc (.cells (Cn.v ⟨3, n0, n1, e0, e1, k0, k1, d0, d1⟩) 31) = W := ⟨_, rfl⟩
  have b1 := bel_nw hW1
  have C1 := blk_nw hW1
  cases k0 <;> cases k1 <;> cases d0 <;> cases d1 <;> (
   have c0 := C1.cell 0 (.int .i64 3) rfl
   have c5 := C1.cell 5 _ rfl
   have c6 := C1.cell 6 _ rfl
   have c7 := C1.cell 7 _ rfl
   have c8 := C1.cell 8 _ rfl
   go_enter Try.func41, Try.ntmps41
   go_wp2
   all_goals (go_ret; exact ⟨retB_tc (by rw [← HR.out]; rfl), b1⟩))

 by_cases h4 : st = 4
 ·subst h4
  obtain ⟨W1, hW1⟩ : ∃ W, w.alloc (.cells (Cn.v ⟨4, n0, n1, e0, e1, k0, k1, d0, d1⟩) 31) = W := ⟨_, rfl⟩
  have b1 := bel_nw hW1
  have C1 := blk_nw hW1
  cases k0 <;> cases k1 <;> cases d0 <;> cases d1 <;> (
   have c0 := C1.cell 0 (.int .i64 4) rfl
   have c5 := C1.cell 5 _ rfl
   have c6 := C1.cell 6 _ rfl
   have c7 := C1.cell 7 _ rfl
   have c8 := C1.cell 8 _ rfl
   go_enter Try.func41, Try.ntmps41
   go_wp2
   all_goals (go_ret; exact ⟨retB_tc (by rw [← HR.out]; rfl), b1⟩))

 by_cases h5 : st = 5
 ·subst h5
  obtain ⟨W1, hW1⟩ : ∃ W, w.alloc (.cells (Cn.v ⟨5, n0, n1, e0, e1, k0, k1, d0, d1⟩) 31) = W := ⟨_, rfl⟩
  have b1 := bel_nw hW1
  have C1 := blk_nw hW1
  cases k0 <;> cases k1 <;> cases d0 <;> cases d1 <;> (
   have c0 := C1.cell 0 (.int .i64 5) rfl
   have c5 := C1.cell 5 _ rfl
   have c6 := C1.cell 6 _ rfl
   have c7 := C1.cell 7 _ rfl
   have c8 := C1.cell 8 _ rfl
   go_enter Try.func41, Try.ntmps41
   go_wp2
   all_goals (go_ret; exact ⟨retB_tc (by rw [← HR.out]; rfl), b1⟩))

 by_cases h6 : st = 6
 ·subst h6
  obtain ⟨W1, hW1⟩ : ∃ W, w.alloc (.cells (Cn.v ⟨6, n0, n1, e0, e1, k0, k1, d0, d1⟩) 31) = W := ⟨_, rfl⟩
  have b1 := bel_nw hW1
  have C1 := blk_nw hW1
  cases k0 <;> cases k1 <;> cases d0 <;> cases d1 <;> (
   have c0 := C1.cell 0 (.int .i64 6) rfl
   have c5 := C1.cell 5 _ rfl
   have c6 := C1.cell 6 _ rfl
   have c7 := C1.cell 7 _ rfl
   have c8 := C1.cell 8 _ rfl
   go_enter Try.func41, Try.ntmps41
   go_wp2
   all_goals (go_ret; exact ⟨retB_tc (by rw [← HR.out]; rfl), b1⟩))

 have HO : Hid (st ≠ 1 ∧ st ≠ 2 ∧ st ≠ 3 ∧ st ≠ 4 ∧ st ≠ 5 ∧ st ≠ 6) := ⟨h1, h2, h3, h4, h5, h6⟩
 clear h1 h2 h3 h4 h5 h6
 obtain rfl : false = R := by rw [← HR.out]; simp [Cn.right, HO.out]
 clear HR
 by_cases hl : st < 1
 ·obtain ⟨W1, hW1⟩ : ∃ W, w.alloc (.cells (Cn.v ⟨st, n0, n1, e0, e1, k0, k1, d0, d1⟩) 31) = W := ⟨_, rfl⟩
  have b1 := bel_nw hW1
  have C1 := blk_nw hW1
  have c0 := C1.cell 0 (.int .i64 st) rfl
  go_enter Try.func41, Try.ntmps41
  go_wp2
  go_ret
  exact ⟨rfl, b1⟩
 ·have hg : 6 < st := by have := HO.out; omega
  obtain ⟨W1, hW1⟩ : ∃ W, w.alloc (.cells (Cn.v ⟨st, n0, n1, e0, e1, k0, k1, d0, d1⟩) 31) = W := ⟨_, rfl⟩
  have b1 := bel_nw hW1
  have C1 := blk_nw hW1
  have c0 := C1.cell 0 (.int .i64 st) rfl
  go_enter Try.func41, Try.ntmps41
  go_wp2
  go_ret
  exact ⟨rfl, b1⟩
set_option maxRecDepth 100000 in
set_option maxHeartbeats 4000000 in
theorem rlife_tc (c : Cn) (w : World) :
  Calls Try.prog 66 #[.agg c.v] w fun e w' => e = .returned (.int .i64 c.life) ∧ Below w.heap.size w w' := by
 obtain ⟨R, hR⟩ : ∃ R, c.life = R := ⟨_, rfl⟩
 have HR : Hid ((if c.right then (if c.st == 3 then 3600 else if c.st == 4 then 60 else if c.st == 6 then 1 else 30) else 0) = R) := hR
 rw [hR]
 clear hR
 have KR : Hid (∀ W, Calls Try.prog 41 #[.agg c.v] W fun e w' => e = .returned (.bool c.right) ∧ Below W.heap.size W w') := fun W => rright_tc c W
 generalize c.right = Q at *
 generalize h3 : (c.st == 3) = X3 at *
 generalize h4 : (c.st == 4) = X4 at *
 generalize h6 : (c.st == 6) = X6 at *
 obtain ⟨W1, hW1⟩ : ∃ W, w.alloc (.cells c.v 31) = W := ⟨_, rfl⟩
 have b1 := bel_nw hW1
 have C1 := blk_nw hW1
 go_enter Try.func66, Try.ntmps66
 go_wp2_with (refine wpList_load_blk_w (by rfl) _ _ rfl w.heap.size (by rfl) _ C1 Try.underlying31 (by kernel_rfl) ?_)
 refine Calls.mono (KR.out _) ?_
 rintro e W2 ⟨rfl, bb⟩
 have C2 := C1.kept bb
 have b2 := bel_tr b1 bb
 clear bb
 have c0 := C2.cell 0 (.int .i64 c.st) rfl
 cases Q with
 | false =>
  go_wp2
  go_ret
  exact ⟨retN_tc (by rw [← HR.out]; first | rfl | simp), b2⟩

 | true =>
  cases X3 with
  | false =>
   cases X4 with
   | false =>
    cases X6 with
    | false =>
     go_wp2
     go_ret
     exact ⟨retN_tc (by rw [← HR.out]; first | rfl | simp), b2⟩

    | true =>
     go_wp2
     go_ret
     exact ⟨retN_tc (by rw [← HR.out]; first | rfl | simp), b2⟩


   | true =>
    go_wp2
    go_ret
    exact ⟨retN_tc (by rw [← HR.out]; first | rfl | simp), b2⟩


  | true =>
   go_wp2
   go_ret
   exact ⟨retN_tc (by rw [← HR.out]; first | rfl | simp), b2⟩
def Cn.ret (o : Option Cn) : Cn × Int := match o with | some d => (d, 0) | none => (cn0, 23)
set_option maxRecDepth 100000 in
set_option maxHeartbeats 4000000 in
theorem rwindow0_tc (c : Cn) (g : Gt) (w : World) :
  Calls Try.prog 69 #[.agg c.v, .int .i64 0, .agg g.v] w fun e w' => e = .returned (.bool (c.win false g)) ∧ Below w.heap.size w w' := by
 obtain ⟨V, hV⟩ : ∃ V, c.win false g = V := ⟨_, rfl⟩
 have HV : Hid ((c.k0 && wiB g.e c.n0 c.e0) = V) := hV
 rw [hV]
 clear hV
 have KE : Hid (∀ W, Calls Try.prog 72 #[.agg g.v] W fun e w' => e = .returned (.int .u32 g.e) ∧ Below W.heap.size W w') := fun W => rend_tc g W
 have K1 : Hid (∀ W, Calls Try.prog 71 #[.int .u32 g.e, .int .u32 ((c.n0 - 65535) % 4294967296)] W fun e w' => e = .returned (.bool (frB g.e ((c.n0 - 65535) % 4294967296))) ∧ Below W.heap.size W w') := fun W => rfrom_tc _ _ W
 have K2 : Hid (∀ W, Calls Try.prog 71 #[.int .u32 c.e0, .int .u32 g.e] W fun e w' => e = .returned (.bool (frB c.e0 g.e)) ∧ Below W.heap.size W w') := fun W => rfrom_tc _ _ W
 have HV : Hid ((c.k0 && (frB g.e ((c.n0 - 65535) % 4294967296) && frB c.e0 g.e)) = V) := HV
 generalize hP : frB g.e ((c.n0 - 65535) % 4294967296) = P at *
 generalize hQ : frB c.e0 g.e = Q at *
 clear hP hQ
 generalize g.e = E at *
 obtain ⟨st, n0, n1, e0, e1, k0, k1, d0, d1⟩ := c
 dsimp only at *
 obtain ⟨W1, hW1⟩ : ∃ W, w.alloc (.cells (Cn.v ⟨st, n0, n1, e0, e1, k0, k1, d0, d1⟩) 31) = W := ⟨_, rfl⟩
 have b1 := bel_nw hW1
 have C1 := blk_nw hW1
 obtain ⟨W2, hW2⟩ : ∃ W, W1.alloc (.cells g.v 96) = W := ⟨_, rfl⟩
 have b2 := bel_al b1 hW2
 have C2 := C1.al hW2
 have G2 := blk_nw hW2
 clear b1 C1
 go_enter Try.func69, Try.ntmps69
 go_wp2_with fail
 cases k0 with
 | false =>
  have Cd := C2.drew
  have Gd := G2.drew
  have bd := b2.drew
  refine wp_region_noPanic ?_
  refine wp_region_held_drew (S := fun w' => Blk w' w.heap.size 31 (Cn.v ⟨st, n0, n1, e0, e1, false, k1, d0, d1⟩) ∧ Blk w' W1.heap.size 96 g.v) (by kernel_rfl) (by exact ⟨Cd, Gd⟩) (fun hHeld => ?_)
  refine qtk (i := 0) (oi := fxg5o38) (v := (.int .i64 0)) hHeld ?_ ?_
  ·intro w9 hSw
   try dsimp only at hSw
   go_simp
  try simp only [qpu]
  refine qtk (i := 1) (oi := fxg5o36) (v := (.pointer (some ⟨w.heap.size, 5, none⟩))) hHeld ?_ ?_
  ·intro w9 hSw
   try dsimp only at hSw
   go_simp
  try simp only [qpu]
  refine qtk (i := 2) (oi := fxg5o19) (v := (.pointer (some ⟨w.heap.size, 5, none⟩))) hHeld ?_ ?_
  ·intro w9 hSw
   try dsimp only at hSw
   go_simp
  try simp only [qpu]
  refine qtk (i := 3) (oi := fxg5o29) (v := (.bool false)) hHeld ?_ ?_
  ·intro w9 hSw
   try dsimp only at hSw
   have hcc := hSw.1.cell 5 (.bool false) rfl
   go_simp
  try simp only [qpu]
  refine qtk (i := 4) (oi := fxg5o30) (v := (.bool false)) hHeld ?_ ?_
  ·intro w9 hSw
   try dsimp only at hSw
   go_simp
  try simp only [qpu]
  refine qtn (i := 5) (oi := fxg5o20) hHeld ?_
  try simp only [qpu]
  refine qtn (i := 6) (oi := fxg5o5) hHeld ?_
  try simp only [qpu]
  refine qtn (i := 7) (oi := fxg5o28) hHeld ?_
  try simp only [qpu]
  refine qtn (i := 8) (oi := fxg5o23) hHeld ?_
  try simp only [qpu]
  refine qtn (i := 9) (oi := fxg5o14) hHeld ?_
  try simp only [qpu]
  refine qtn (i := 10) (oi := fxg5o18) hHeld ?_
  try simp only [qpu]
  refine qtn (i := 11) (oi := fxg5o12) hHeld ?_
  try simp only [qpu]
  refine qtn (i := 12) (oi := fxg5o3) hHeld ?_
  try simp only [qpu]
  refine qtk (i := 13) (oi := fxg5o7) (v := (.bool false)) hHeld ?_ ?_
  ·intro w9 hSw
   try dsimp only at hSw
   go_simp
  try simp only [qpu]
  refine qtk (i := 14) (oi := fxg5o11) (v := (.bool false)) hHeld ?_ ?_
  ·intro w9 hSw
   try dsimp only at hSw
   go_simp
  try simp only [qpu]
  refine qtn (i := 15) (oi := fxg5o15) hHeld ?_
  try simp only [qpu]
  refine qtn (i := 16) (oi := fxg5o13) hHeld ?_
  try simp only [qpu]
  refine qtn (i := 17) (oi := fxg5o4) hHeld ?_
  try simp only [qpu]
  refine qtn (i := 18) (oi := fxg5o8) hHeld ?_
  try simp only [qpu]
  refine qtn (i := 19) (oi := fxg5o9) hHeld ?_
  try simp only [qpu]
  refine qtn (i := 20) (oi := fxg5o2) hHeld ?_
  try simp only [qpu]
  refine qtn (i := 21) (oi := fxg5o1) hHeld ?_
  try simp only [qpu]
  refine qtk (i := 22) (oi := fxg5o6) (v := (.bool false)) hHeld ?_ ?_
  ·intro w9 hSw
   try dsimp only at hSw
   go_simp
  try simp only [qpu]
  refine qtk (i := 23) (oi := fxg5o0) (v := (.bool false)) hHeld ?_ ?_
  ·intro w9 hSw
   try dsimp only at hSw
   go_simp
  try simp only [qpu]
  refine wpAnyH_done (by kernel_rfl) ?_ _
  refine NoPanic.normal ?_
  go_wp2
  go_ret
  exact ⟨retB_tc (by rw [← HV.out]; rfl), bd⟩

 | true =>
  have Cd := C2.drew
  have Gd := G2.drew
  have bd := b2.drew
  refine wp_region_noPanic ?_
  refine wp_region_held_drew (S := fun w' => Blk w' w.heap.size 31 (Cn.v ⟨st, n0, n1, e0, e1, true, k1, d0, d1⟩) ∧ Blk w' W1.heap.size 96 g.v) (by kernel_rfl) (by exact ⟨Cd, Gd⟩) (fun hHeld => ?_)
  refine qtk (i := 0) (oi := fxg5o38) (v := (.int .i64 0)) hHeld ?_ ?_
  ·intro w9 hSw
   try dsimp only at hSw
   go_simp
  try simp only [qpu]
  refine qtk (i := 1) (oi := fxg5o36) (v := (.pointer (some ⟨w.heap.size, 5, none⟩))) hHeld ?_ ?_
  ·intro w9 hSw
   try dsimp only at hSw
   go_simp
  try simp only [qpu]
  refine qtk (i := 2) (oi := fxg5o19) (v := (.pointer (some ⟨w.heap.size, 5, none⟩))) hHeld ?_ ?_
  ·intro w9 hSw
   try dsimp only at hSw
   go_simp
  try simp only [qpu]
  refine qtk (i := 3) (oi := fxg5o29) (v := (.bool true)) hHeld ?_ ?_
  ·intro w9 hSw
   try dsimp only at hSw
   have hcc := hSw.1.cell 5 (.bool true) rfl
   go_simp
  try simp only [qpu]
  refine qtk (i := 4) (oi := fxg5o30) (v := (.bool true)) hHeld ?_ ?_
  ·intro w9 hSw
   try dsimp only at hSw
   go_simp
  try simp only [qpu]
  refine qty (i := 5) (oi := fxg5o20) (v := (.agg g.v)) (yieldsIf_blk_w (by kernel_rfl) _ _ rfl W1.heap.size (by rfl) _ (fun _ hSw => hSw.2) Try.underlying96 (by kernel_rfl)) hHeld ?_
  try simp only [qpu]
  refine qtk (i := 7) (oi := fxg5o28) (v := (.int .i64 0)) hHeld ?_ ?_
  ·intro w9 hSw
   try dsimp only at hSw
   go_simp
  try simp only [qpu]
  refine qtk (i := 8) (oi := fxg5o23) (v := (.pointer (some ⟨w.heap.size, 1, none⟩))) hHeld ?_ ?_
  ·intro w9 hSw
   try dsimp only at hSw
   go_simp
  try simp only [qpu]
  refine qtk (i := 9) (oi := fxg5o14) (v := (.pointer (some ⟨w.heap.size, 1, none⟩))) hHeld ?_ ?_
  ·intro w9 hSw
   try dsimp only at hSw
   go_simp
  try simp only [qpu]
  refine qtk (i := 10) (oi := fxg5o18) (v := (.int .u32 n0)) hHeld ?_ ?_
  ·intro w9 hSw
   try dsimp only at hSw
   have hcc := hSw.1.cell 1 (.int .u32 n0) rfl
   go_simp
  try simp only [qpu]
  refine qtk (i := 11) (oi := fxg5o12) (v := (.int .u32 ((n0 - 65535) % 4294967296))) hHeld ?_ ?_
  ·intro w9 hSw
   try dsimp only at hSw
   go_simp
   try rw [IntKind.wrap_u32]
  try simp only [qpu]
  refine wpAnyH_ready (rs := [6]) (by kernel_rfl) (by simp) ?_
  refine AllReadyH.cons (o := fxg5o5) rfl (fun K hK => ?_) AllReadyH.nil
  go_simp
  refine Calls.mono (KE.out _) ?_
  rintro e Wx1 ⟨rfl, bb⟩
  have Cx1 := Cd.kept bb
  have Gx1 := Gd.kept bb
  have bx1 := bel_tr bd bb
  clear bb
  refine hK.out _ _ (by exact ⟨Cx1, Gx1⟩) (fun hHeld => ?_)
  clear hK K
  try simp only [qpu]
  refine wpAnyH_ready (rs := [12]) (by kernel_rfl) (by simp) ?_
  refine AllReadyH.cons (o := fxg5o3) rfl (fun K hK => ?_) AllReadyH.nil
  go_simp
  refine Calls.mono (K1.out _) ?_
  rintro e Wx2 ⟨rfl, bb⟩
  have Cx2 := Cx1.kept bb
  have Gx2 := Gx1.kept bb
  have bx2 := bel_tr bx1 bb
  clear bb
  refine hK.out _ _ (by exact ⟨Cx2, Gx2⟩) (fun hHeld => ?_)
  clear hK K
  try simp only [qpu]
  cases P with
  | false =>
   refine qtk (i := 13) (oi := fxg5o7) (v := (.bool false)) hHeld ?_ ?_
   ·intro w9 hSw
    try dsimp only at hSw
    go_simp
   try simp only [qpu]
   refine qtk (i := 14) (oi := fxg5o11) (v := (.bool false)) hHeld ?_ ?_
   ·intro w9 hSw
    try dsimp only at hSw
    go_simp
   try simp only [qpu]
   refine qtn (i := 15) (oi := fxg5o15) hHeld ?_
   try simp only [qpu]
   refine qtn (i := 16) (oi := fxg5o13) hHeld ?_
   try simp only [qpu]
   refine qtn (i := 17) (oi := fxg5o4) hHeld ?_
   try simp only [qpu]
   refine qtn (i := 18) (oi := fxg5o8) hHeld ?_
   try simp only [qpu]
   refine qtn (i := 19) (oi := fxg5o9) hHeld ?_
   try simp only [qpu]
   refine qtn (i := 20) (oi := fxg5o2) hHeld ?_
   try simp only [qpu]
   refine qtn (i := 21) (oi := fxg5o1) hHeld ?_
   try simp only [qpu]
   refine qtk (i := 22) (oi := fxg5o6) (v := (.bool false)) hHeld ?_ ?_
   ·intro w9 hSw
    try dsimp only at hSw
    go_simp
   try simp only [qpu]
   refine qtk (i := 23) (oi := fxg5o0) (v := (.bool false)) hHeld ?_ ?_
   ·intro w9 hSw
    try dsimp only at hSw
    go_simp
   try simp only [qpu]
   refine wpAnyH_done (by kernel_rfl) ?_ _
   refine NoPanic.normal ?_
   go_wp2
   go_ret
   exact ⟨retB_tc (by rw [← HV.out]; rfl), bx2⟩

  | true =>
   refine qtk (i := 13) (oi := fxg5o7) (v := (.bool true)) hHeld ?_ ?_
   ·intro w9 hSw
    try dsimp only at hSw
    go_simp
   try simp only [qpu]
   refine qtk (i := 14) (oi := fxg5o11) (v := (.bool true)) hHeld ?_ ?_
   ·intro w9 hSw
    try dsimp only at hSw
    go_simp
   try simp only [qpu]
   refine qtk (i := 15) (oi := fxg5o15) (v := (.int .i64 0)) hHeld ?_ ?_
   ·intro w9 hSw
    try dsimp only at hSw
    go_simp
   try simp only [qpu]
   refine qtk (i := 16) (oi := fxg5o13) (v := (.pointer (some ⟨w.heap.size, 3, none⟩))) hHeld ?_ ?_
   ·intro w9 hSw
    try dsimp only at hSw
    go_simp
   try simp only [qpu]
   refine qtk (i := 17) (oi := fxg5o4) (v := (.pointer (some ⟨w.heap.size, 3, none⟩))) hHeld ?_ ?_
   ·intro w9 hSw
    try dsimp only at hSw
    go_simp
   try simp only [qpu]
   refine qtk (i := 18) (oi := fxg5o8) (v := (.int .u32 e0)) hHeld ?_ ?_
   ·intro w9 hSw
    try dsimp only at hSw
    have hcc := hSw.1.cell 3 (.int .u32 e0) rfl
    go_simp
   try simp only [qpu]
   refine qty (i := 19) (oi := fxg5o9) (v := (.agg g.v)) (yieldsIf_blk_w (by kernel_rfl) _ _ rfl W1.heap.size (by rfl) _ (fun _ hSw => hSw.2) Try.underlying96 (by kernel_rfl)) hHeld ?_
   try simp only [qpu]
   refine wpAnyH_ready (rs := [20]) (by kernel_rfl) (by simp) ?_
   refine AllReadyH.cons (o := fxg5o2) rfl (fun K hK => ?_) AllReadyH.nil
   go_simp
   refine Calls.mono (KE.out _) ?_
   rintro e Wx3 ⟨rfl, bb⟩
   have Cx3 := Cx2.kept bb
   have Gx3 := Gx2.kept bb
   have bx3 := bel_tr bx2 bb
   clear bb
   refine hK.out _ _ (by exact ⟨Cx3, Gx3⟩) (fun hHeld => ?_)
   clear hK K
   try simp only [qpu]
   refine wpAnyH_ready (rs := [21]) (by kernel_rfl) (by simp) ?_
   refine AllReadyH.cons (o := fxg5o1) rfl (fun K hK => ?_) AllReadyH.nil
   go_simp
   refine Calls.mono (K2.out _) ?_
   rintro e Wx4 ⟨rfl, bb⟩
   have Cx4 := Cx3.kept bb
   have Gx4 := Gx3.kept bb
   have bx4 := bel_tr bx3 bb
   clear bb
   refine hK.out _ _ (by exact ⟨Cx4, Gx4⟩) (fun hHeld => ?_)
   clear hK K
   try simp only [qpu]
   refine qtk (i := 22) (oi := fxg5o6) (v := (.bool Q)) hHeld ?_ ?_
   ·intro w9 hSw
    try dsimp only at hSw
    go_simp
   try simp only [qpu]
   refine qtk (i := 23) (oi := fxg5o0) (v := (.bool Q)) hHeld ?_ ?_
   ·intro w9 hSw
    try dsimp only at hSw
    go_simp
   try simp only [qpu]
   refine wpAnyH_done (by kernel_rfl) ?_ _
   refine NoPanic.normal ?_
   go_wp2
   go_ret
   exact ⟨retB_tc (by rw [← HV.out]; rfl), bx4⟩
set_option maxRecDepth 100000 in
set_option maxHeartbeats 4000000 in
theorem rwindow1_tc (c : Cn) (g : Gt) (w : World) :
  Calls Try.prog 69 #[.agg c.v, .int .i64 1, .agg g.v] w fun e w' => e = .returned (.bool (c.win true g)) ∧ Below w.heap.size w w' := by
 obtain ⟨V, hV⟩ : ∃ V, c.win true g = V := ⟨_, rfl⟩
 have HV : Hid ((c.k1 && wiB g.e c.n1 c.e1) = V) := hV
 rw [hV]
 clear hV
 have KE : Hid (∀ W, Calls Try.prog 72 #[.agg g.v] W fun e w' => e = .returned (.int .u32 g.e) ∧ Below W.heap.size W w') := fun W => rend_tc g W
 have K1 : Hid (∀ W, Calls Try.prog 71 #[.int .u32 g.e, .int .u32 ((c.n1 - 65535) % 4294967296)] W fun e w' => e = .returned (.bool (frB g.e ((c.n1 - 65535) % 4294967296))) ∧ Below W.heap.size W w') := fun W => rfrom_tc _ _ W
 have K2 : Hid (∀ W, Calls Try.prog 71 #[.int .u32 c.e1, .int .u32 g.e] W fun e w' => e = .returned (.bool (frB c.e1 g.e)) ∧ Below W.heap.size W w') := fun W => rfrom_tc _ _ W
 have HV : Hid ((c.k1 && (frB g.e ((c.n1 - 65535) % 4294967296) && frB c.e1 g.e)) = V) := HV
 generalize hP : frB g.e ((c.n1 - 65535) % 4294967296) = P at *
 generalize hQ : frB c.e1 g.e = Q at *
 clear hP hQ
 generalize g.e = E at *
 obtain ⟨st, n0, n1, e0, e1, k0, k1, d0, d1⟩ := c
 dsimp only at *
 obtain ⟨W1, hW1⟩ : ∃ W, w.alloc (.cells (Cn.v ⟨st, n0, n1, e0, e1, k0, k1, d0, d1⟩) 31) = W := ⟨_, rfl⟩
 have b1 := bel_nw hW1
 have C1 := blk_nw hW1
 obtain ⟨W2, hW2⟩ : ∃ W, W1.alloc (.cells g.v 96) = W := ⟨_, rfl⟩
 have b2 := bel_al b1 hW2
 have C2 := C1.al hW2
 have G2 := blk_nw hW2
 clear b1 C1
 go_enter Try.func69, Try.ntmps69
 go_wp2_with fail
 cases k1 with
 | false =>
  have Cd := C2.drew
  have Gd := G2.drew
  have bd := b2.drew
  refine wp_region_noPanic ?_
  refine wp_region_held_drew (S := fun w' => Blk w' w.heap.size 31 (Cn.v ⟨st, n0, n1, e0, e1, k0, false, d0, d1⟩) ∧ Blk w' W1.heap.size 96 g.v) (by kernel_rfl) (by exact ⟨Cd, Gd⟩) (fun hHeld => ?_)
  refine qtk (i := 0) (oi := fxg5o38) (v := (.int .i64 1)) hHeld ?_ ?_
  ·intro w9 hSw
   try dsimp only at hSw
   go_simp
  try simp only [qpu]
  refine qtk (i := 1) (oi := fxg5o36) (v := (.pointer (some ⟨w.heap.size, 5, none⟩))) hHeld ?_ ?_
  ·intro w9 hSw
   try dsimp only at hSw
   go_simp
  try simp only [qpu]
  refine qtk (i := 2) (oi := fxg5o19) (v := (.pointer (some ⟨w.heap.size, 6, none⟩))) hHeld ?_ ?_
  ·intro w9 hSw
   try dsimp only at hSw
   go_simp
  try simp only [qpu]
  refine qtk (i := 3) (oi := fxg5o29) (v := (.bool false)) hHeld ?_ ?_
  ·intro w9 hSw
   try dsimp only at hSw
   have hcc := hSw.1.cell 6 (.bool false) rfl
   go_simp
  try simp only [qpu]
  refine qtk (i := 4) (oi := fxg5o30) (v := (.bool false)) hHeld ?_ ?_
  ·intro w9 hSw
   try dsimp only at hSw
   go_simp
  try simp only [qpu]
  refine qtn (i := 5) (oi := fxg5o20) hHeld ?_
  try simp only [qpu]
  refine qtn (i := 6) (oi := fxg5o5) hHeld ?_
  try simp only [qpu]
  refine qtn (i := 7) (oi := fxg5o28) hHeld ?_
  try simp only [qpu]
  refine qtn (i := 8) (oi := fxg5o23) hHeld ?_
  try simp only [qpu]
  refine qtn (i := 9) (oi := fxg5o14) hHeld ?_
  try simp only [qpu]
  refine qtn (i := 10) (oi := fxg5o18) hHeld ?_
  try simp only [qpu]
  refine qtn (i := 11) (oi := fxg5o12) hHeld ?_
  try simp only [qpu]
  refine qtn (i := 12) (oi := fxg5o3) hHeld ?_
  try simp only [qpu]
  refine qtk (i := 13) (oi := fxg5o7) (v := (.bool false)) hHeld ?_ ?_
  ·intro w9 hSw
   try dsimp only at hSw
   go_simp
  try simp only [qpu]
  refine qtk (i := 14) (oi := fxg5o11) (v := (.bool false)) hHeld ?_ ?_
  ·intro w9 hSw
   try dsimp only at hSw
   go_simp
  try simp only [qpu]
  refine qtn (i := 15) (oi := fxg5o15) hHeld ?_
  try simp only [qpu]
  refine qtn (i := 16) (oi := fxg5o13) hHeld ?_
  try simp only [qpu]
  refine qtn (i := 17) (oi := fxg5o4) hHeld ?_
  try simp only [qpu]
  refine qtn (i := 18) (oi := fxg5o8) hHeld ?_
  try simp only [qpu]
  refine qtn (i := 19) (oi := fxg5o9) hHeld ?_
  try simp only [qpu]
  refine qtn (i := 20) (oi := fxg5o2) hHeld ?_
  try simp only [qpu]
  refine qtn (i := 21) (oi := fxg5o1) hHeld ?_
  try simp only [qpu]
  refine qtk (i := 22) (oi := fxg5o6) (v := (.bool false)) hHeld ?_ ?_
  ·intro w9 hSw
   try dsimp only at hSw
   go_simp
  try simp only [qpu]
  refine qtk (i := 23) (oi := fxg5o0) (v := (.bool false)) hHeld ?_ ?_
  ·intro w9 hSw
   try dsimp only at hSw
   go_simp
  try simp only [qpu]
  refine wpAnyH_done (by kernel_rfl) ?_ _
  refine NoPanic.normal ?_
  go_wp2
  go_ret
  exact ⟨retB_tc (by rw [← HV.out]; rfl), bd⟩

 | true =>
  have Cd := C2.drew
  have Gd := G2.drew
  have bd := b2.drew
  refine wp_region_noPanic ?_
  refine wp_region_held_drew (S := fun w' => Blk w' w.heap.size 31 (Cn.v ⟨st, n0, n1, e0, e1, k0, true, d0, d1⟩) ∧ Blk w' W1.heap.size 96 g.v) (by kernel_rfl) (by exact ⟨Cd, Gd⟩) (fun hHeld => ?_)
  refine qtk (i := 0) (oi := fxg5o38) (v := (.int .i64 1)) hHeld ?_ ?_
  ·intro w9 hSw
   try dsimp only at hSw
   go_simp
  try simp only [qpu]
  refine qtk (i := 1) (oi := fxg5o36) (v := (.pointer (some ⟨w.heap.size, 5, none⟩))) hHeld ?_ ?_
  ·intro w9 hSw
   try dsimp only at hSw
   go_simp
  try simp only [qpu]
  refine qtk (i := 2) (oi := fxg5o19) (v := (.pointer (some ⟨w.heap.size, 6, none⟩))) hHeld ?_ ?_
  ·intro w9 hSw
   try dsimp only at hSw
   go_simp
  try simp only [qpu]
  refine qtk (i := 3) (oi := fxg5o29) (v := (.bool true)) hHeld ?_ ?_
  ·intro w9 hSw
   try dsimp only at hSw
   have hcc := hSw.1.cell 6 (.bool true) rfl
   go_simp
  try simp only [qpu]
  refine qtk (i := 4) (oi := fxg5o30) (v := (.bool true)) hHeld ?_ ?_
  ·intro w9 hSw
   try dsimp only at hSw
   go_simp
  try simp only [qpu]
  refine qty (i := 5) (oi := fxg5o20) (v := (.agg g.v)) (yieldsIf_blk_w (by kernel_rfl) _ _ rfl W1.heap.size (by rfl) _ (fun _ hSw => hSw.2) Try.underlying96 (by kernel_rfl)) hHeld ?_
  try simp only [qpu]
  refine qtk (i := 7) (oi := fxg5o28) (v := (.int .i64 1)) hHeld ?_ ?_
  ·intro w9 hSw
   try dsimp only at hSw
   go_simp
  try simp only [qpu]
  refine qtk (i := 8) (oi := fxg5o23) (v := (.pointer (some ⟨w.heap.size, 1, none⟩))) hHeld ?_ ?_
  ·intro w9 hSw
   try dsimp only at hSw
   go_simp
  try simp only [qpu]
  refine qtk (i := 9) (oi := fxg5o14) (v := (.pointer (some ⟨w.heap.size, 2, none⟩))) hHeld ?_ ?_
  ·intro w9 hSw
   try dsimp only at hSw
   go_simp
  try simp only [qpu]
  refine qtk (i := 10) (oi := fxg5o18) (v := (.int .u32 n1)) hHeld ?_ ?_
  ·intro w9 hSw
   try dsimp only at hSw
   have hcc := hSw.1.cell 2 (.int .u32 n1) rfl
   go_simp
  try simp only [qpu]
  refine qtk (i := 11) (oi := fxg5o12) (v := (.int .u32 ((n1 - 65535) % 4294967296))) hHeld ?_ ?_
  ·intro w9 hSw
   try dsimp only at hSw
   go_simp
   try rw [IntKind.wrap_u32]
  try simp only [qpu]
  refine wpAnyH_ready (rs := [6]) (by kernel_rfl) (by simp) ?_
  refine AllReadyH.cons (o := fxg5o5) rfl (fun K hK => ?_) AllReadyH.nil
  go_simp
  refine Calls.mono (KE.out _) ?_
  rintro e Wx1 ⟨rfl, bb⟩
  have Cx1 := Cd.kept bb
  have Gx1 := Gd.kept bb
  have bx1 := bel_tr bd bb
  clear bb
  refine hK.out _ _ (by exact ⟨Cx1, Gx1⟩) (fun hHeld => ?_)
  clear hK K
  try simp only [qpu]
  refine wpAnyH_ready (rs := [12]) (by kernel_rfl) (by simp) ?_
  refine AllReadyH.cons (o := fxg5o3) rfl (fun K hK => ?_) AllReadyH.nil
  go_simp
  refine Calls.mono (K1.out _) ?_
  rintro e Wx2 ⟨rfl, bb⟩
  have Cx2 := Cx1.kept bb
  have Gx2 := Gx1.kept bb
  have bx2 := bel_tr bx1 bb
  clear bb
  refine hK.out _ _ (by exact ⟨Cx2, Gx2⟩) (fun hHeld => ?_)
  clear hK K
  try simp only [qpu]
  cases P with
  | false =>
   refine qtk (i := 13) (oi := fxg5o7) (v := (.bool false)) hHeld ?_ ?_
   ·intro w9 hSw
    try dsimp only at hSw
    go_simp
   try simp only [qpu]
   refine qtk (i := 14) (oi := fxg5o11) (v := (.bool false)) hHeld ?_ ?_
   ·intro w9 hSw
    try dsimp only at hSw
    go_simp
   try simp only [qpu]
   refine qtn (i := 15) (oi := fxg5o15) hHeld ?_
   try simp only [qpu]
   refine qtn (i := 16) (oi := fxg5o13) hHeld ?_
   try simp only [qpu]
   refine qtn (i := 17) (oi := fxg5o4) hHeld ?_
   try simp only [qpu]
   refine qtn (i := 18) (oi := fxg5o8) hHeld ?_
   try simp only [qpu]
   refine qtn (i := 19) (oi := fxg5o9) hHeld ?_
   try simp only [qpu]
   refine qtn (i := 20) (oi := fxg5o2) hHeld ?_
   try simp only [qpu]
   refine qtn (i := 21) (oi := fxg5o1) hHeld ?_
   try simp only [qpu]
   refine qtk (i := 22) (oi := fxg5o6) (v := (.bool false)) hHeld ?_ ?_
   ·intro w9 hSw
    try dsimp only at hSw
    go_simp
   try simp only [qpu]
   refine qtk (i := 23) (oi := fxg5o0) (v := (.bool false)) hHeld ?_ ?_
   ·intro w9 hSw
    try dsimp only at hSw
    go_simp
   try simp only [qpu]
   refine wpAnyH_done (by kernel_rfl) ?_ _
   refine NoPanic.normal ?_
   go_wp2
   go_ret
   exact ⟨retB_tc (by rw [← HV.out]; rfl), bx2⟩

  | true =>
   refine qtk (i := 13) (oi := fxg5o7) (v := (.bool true)) hHeld ?_ ?_
   ·intro w9 hSw
    try dsimp only at hSw
    go_simp
   try simp only [qpu]
   refine qtk (i := 14) (oi := fxg5o11) (v := (.bool true)) hHeld ?_ ?_
   ·intro w9 hSw
    try dsimp only at hSw
    go_simp
   try simp only [qpu]
   refine qtk (i := 15) (oi := fxg5o15) (v := (.int .i64 1)) hHeld ?_ ?_
   ·intro w9 hSw
    try dsimp only at hSw
    go_simp
   try simp only [qpu]
   refine qtk (i := 16) (oi := fxg5o13) (v := (.pointer (some ⟨w.heap.size, 3, none⟩))) hHeld ?_ ?_
   ·intro w9 hSw
    try dsimp only at hSw
    go_simp
   try simp only [qpu]
   refine qtk (i := 17) (oi := fxg5o4) (v := (.pointer (some ⟨w.heap.size, 4, none⟩))) hHeld ?_ ?_
   ·intro w9 hSw
    try dsimp only at hSw
    go_simp
   try simp only [qpu]
   refine qtk (i := 18) (oi := fxg5o8) (v := (.int .u32 e1)) hHeld ?_ ?_
   ·intro w9 hSw
    try dsimp only at hSw
    have hcc := hSw.1.cell 4 (.int .u32 e1) rfl
    go_simp
   try simp only [qpu]
   refine qty (i := 19) (oi := fxg5o9) (v := (.agg g.v)) (yieldsIf_blk_w (by kernel_rfl) _ _ rfl W1.heap.size (by rfl) _ (fun _ hSw => hSw.2) Try.underlying96 (by kernel_rfl)) hHeld ?_
   try simp only [qpu]
   refine wpAnyH_ready (rs := [20]) (by kernel_rfl) (by simp) ?_
   refine AllReadyH.cons (o := fxg5o2) rfl (fun K hK => ?_) AllReadyH.nil
   go_simp
   refine Calls.mono (KE.out _) ?_
   rintro e Wx3 ⟨rfl, bb⟩
   have Cx3 := Cx2.kept bb
   have Gx3 := Gx2.kept bb
   have bx3 := bel_tr bx2 bb
   clear bb
   refine hK.out _ _ (by exact ⟨Cx3, Gx3⟩) (fun hHeld => ?_)
   clear hK K
   try simp only [qpu]
   refine wpAnyH_ready (rs := [21]) (by kernel_rfl) (by simp) ?_
   refine AllReadyH.cons (o := fxg5o1) rfl (fun K hK => ?_) AllReadyH.nil
   go_simp
   refine Calls.mono (K2.out _) ?_
   rintro e Wx4 ⟨rfl, bb⟩
   have Cx4 := Cx3.kept bb
   have Gx4 := Gx3.kept bb
   have bx4 := bel_tr bx3 bb
   clear bb
   refine hK.out _ _ (by exact ⟨Cx4, Gx4⟩) (fun hHeld => ?_)
   clear hK K
   try simp only [qpu]
   refine qtk (i := 22) (oi := fxg5o6) (v := (.bool Q)) hHeld ?_ ?_
   ·intro w9 hSw
    try dsimp only at hSw
    go_simp
   try simp only [qpu]
   refine qtk (i := 23) (oi := fxg5o0) (v := (.bool Q)) hHeld ?_ ?_
   ·intro w9 hSw
    try dsimp only at hSw
    go_simp
   try simp only [qpu]
   refine wpAnyH_done (by kernel_rfl) ?_ _
   refine NoPanic.normal ?_
   go_wp2
   go_ret
   exact ⟨retB_tc (by rw [← HV.out]; rfl), bx4⟩
set_option maxRecDepth 100000 in
set_option maxHeartbeats 4000000 in
theorem rsyn0_tc (c : Cn) (g : Gt) (w : World) :
  Calls Try.prog 70 #[.agg c.v, .int .i64 0, .agg g.v] w fun e w' => e = .returned (.tuple #[.agg (Cn.ret (c.syn false g)).1.v, .int .i64 (Cn.ret (c.syn false g)).2]) ∧ Below w.heap.size w w' := by
 obtain ⟨R, hR⟩ : ∃ R, Cn.ret (c.syn false g) = R := ⟨_, rfl⟩
 have HR : Hid (Cn.ret (if flB g.fl 1 || g.sz != 0 then none else (if c.st == 1 && (!flB g.fl 16 && g.e == c.n0) then some c else none)) = R) := hR
 rw [hR]
 clear hR
 have KE : Hid (∀ W, Calls Try.prog 72 #[.agg g.v] W fun e w' => e = .returned (.int .u32 g.e) ∧ Below W.heap.size W w') := fun W => rend_tc g W
 obtain ⟨fl, win, sz, sq, ak⟩ := g
 obtain ⟨st, n0, n1, e0, e1, k0, k1, d0, d1⟩ := c
 dsimp only at *
 have hA : (bits .and .i64 fl 16 != 0) = flB fl 16 := rfl
 have hF : (bits .and .i64 fl 1 != 0) = flB fl 1 := rfl
 generalize flB fl 16 = A at *
 generalize flB fl 1 = F at *
 generalize hN : (sz != 0) = N at *
 generalize hX : (st == 1) = X at *
 generalize hE : Gt.e ⟨fl, win, sz, sq, ak⟩ = E at *
 clear hE
 generalize hQ : (E == n0) = Q at *
 obtain ⟨W1, hW1⟩ : ∃ W, w.alloc (.cells (Cn.v ⟨st, n0, n1, e0, e1, k0, k1, d0, d1⟩) 31) = W := ⟨_, rfl⟩
 have b1 := bel_nw hW1
 have C1 := blk_nw hW1
 have g1 := C1.lt
 obtain ⟨W2, hW2⟩ : ∃ W, W1.alloc (.cells (Gt.v ⟨fl, win, sz, sq, ak⟩) 96) = W := ⟨_, rfl⟩
 have b2 := bel_al b1 hW2
 have C2 := C1.al hW2
 have G2 := blk_nw hW2
 have g2 := G2.lt
 obtain ⟨W3, hW3⟩ : ∃ W, W2.alloc (.cells #[.int .i64 0, .int .u32 0, .int .u32 0, .int .u32 0, .int .u32 0, .bool false, .bool false, .bool false, .bool false] 31) = W := ⟨_, rfl⟩
 have b3 := bel_al b2 hW3
 have C3 := C2.al hW3
 have G3 := G2.al hW3
 have Z3 := blk_nw hW3
 have nCG : w.heap.size ≠ W1.heap.size := by omega
 have nGC : W1.heap.size ≠ w.heap.size := by omega
 have nCZ : w.heap.size ≠ W2.heap.size := by omega
 have nGZ : W1.heap.size ≠ W2.heap.size := by omega
 have nZC : W2.heap.size ≠ w.heap.size := by omega
 have gZ : w.heap.size ≤ W2.heap.size := by omega
 have gG : w.heap.size ≤ W1.heap.size := by omega
 clear b1 b2 C1 C2 G2 g1 g2
 go_enter Try.func70, Try.ntmps70
 have c0 := C3.cell 0 (.int .i64 st) rfl
 have c1 := C3.cell 1 (.int .u32 n0) rfl
 have c2 := C3.cell 2 (.int .u32 n1) rfl
 have c4 := C3.cell 4 (.int .u32 e1) rfl
 have g0 := G3.cell 0 (.int .i64 fl) rfl
 have g1 := G3.cell 1 (.int .i64 win) rfl
 have g2 := G3.cell 2 (.int .i64 sz) rfl
 have g4 := G3.cell 4 (.int .u32 ak) rfl
 cases F with
 | false =>
  cases N with
  | false =>
   go_wp2_with (first | (refine wpList_load_blk_w (by rfl) _ _ rfl w.heap.size (by rfl) _ C3 Try.underlying31 (by kernel_rfl) ?_) | (refine wpList_load_blk_w (by rfl) _ _ rfl W1.heap.size (by rfl) _ G3 Try.underlying96 (by kernel_rfl) ?_))
   clear c0 c1 c2 c4 g0 g1 g2 g4
   refine Calls.mono (KE.out _) ?_
   rintro e W3e ⟨rfl, bb⟩
   have C3e := C3.kept bb
   have G3e := G3.kept bb
   have Z3e := Z3.kept bb
   have b3e := bel_tr b3 bb
   clear bb
   clear C3 G3 Z3 b3
   have c0 := C3e.cell 0 (.int .i64 st) rfl
   have c1 := C3e.cell 1 (.int .u32 n0) rfl
   have c2 := C3e.cell 2 (.int .u32 n1) rfl
   have c4 := C3e.cell 4 (.int .u32 e1) rfl
   have g0 := G3e.cell 0 (.int .i64 fl) rfl
   have g1 := G3e.cell 1 (.int .i64 win) rfl
   have g2 := G3e.cell 2 (.int .i64 sz) rfl
   have g4 := G3e.cell 4 (.int .u32 ak) rfl
   cases X with
   | false =>
    have Zf := Z3e.set cn0.v
    have bf := below_setRow b3e gZ cn0.v
    go_wp2_with (first | (refine wpList_load_blk_w (by rfl) _ _ rfl w.heap.size (by rfl) _ C3e Try.underlying31 (by kernel_rfl) ?_) | (refine wpList_load_blk_w (by rfl) _ _ rfl W1.heap.size (by rfl) _ G3e Try.underlying96 (by kernel_rfl) ?_) | (refine wpList_store_row rfl _ _ _ rfl W2.heap.size cn0.v (by rfl) (by rfl) _ _ Z3e (by kernel_rfl) (by rfl) (by kernel_rfl) ?_))
    obtain rfl : (cn0, (23 : Int)) = R := by rw [← HR.out]; first | rfl | simp [Cn.ret]
    exact ret_cell_tmp (k := 6) (j := 7) Try.f70 (by kernel_rfl) Zf Try.underlying31 (by kernel_rfl) (by rfl) (by rfl) rfl ⟨rfl, bf⟩

   | true =>
    cases A with
    | false =>
     cases Q with
     | false =>
      have Zf := Z3e.set cn0.v
      have bf := below_setRow b3e gZ cn0.v
      go_wp2_with (first | (refine wpList_load_blk_w (by rfl) _ _ rfl w.heap.size (by rfl) _ C3e Try.underlying31 (by kernel_rfl) ?_) | (refine wpList_load_blk_w (by rfl) _ _ rfl W1.heap.size (by rfl) _ G3e Try.underlying96 (by kernel_rfl) ?_) | (refine wpList_store_row rfl _ _ _ rfl W2.heap.size cn0.v (by rfl) (by rfl) _ _ Z3e (by kernel_rfl) (by rfl) (by kernel_rfl) ?_))
      obtain rfl : (cn0, (23 : Int)) = R := by rw [← HR.out]; first | rfl | simp [Cn.ret]
      exact ret_cell_tmp (k := 6) (j := 7) Try.f70 (by kernel_rfl) Zf Try.underlying31 (by kernel_rfl) (by rfl) (by rfl) rfl ⟨rfl, bf⟩

     | true =>
      have Zf := Z3e.set (Cn.v ⟨st, n0, n1, e0, e1, k0, k1, d0, d1⟩)
      have bf := below_setRow b3e gZ (Cn.v ⟨st, n0, n1, e0, e1, k0, k1, d0, d1⟩)
      go_wp2_with (first | (refine wpList_load_blk_w (by rfl) _ _ rfl w.heap.size (by rfl) _ C3e Try.underlying31 (by kernel_rfl) ?_) | (refine wpList_load_blk_w (by rfl) _ _ rfl W1.heap.size (by rfl) _ G3e Try.underlying96 (by kernel_rfl) ?_) | (refine wpList_store_row rfl _ _ _ rfl W2.heap.size (Cn.v ⟨st, n0, n1, e0, e1, k0, k1, d0, d1⟩) (by rfl) (by rfl) _ _ Z3e (by kernel_rfl) (by rfl) (by kernel_rfl) ?_))
      obtain rfl : ((⟨st, n0, n1, e0, e1, k0, k1, d0, d1⟩ : Cn), (0 : Int)) = R := by rw [← HR.out]; first | rfl | simp [Cn.ret]
      exact ret_cell_tmp (k := 6) (j := 7) Try.f70 (by kernel_rfl) Zf Try.underlying31 (by kernel_rfl) (by rfl) (by rfl) rfl ⟨rfl, bf⟩


    | true =>
     have Zf := Z3e.set cn0.v
     have bf := below_setRow b3e gZ cn0.v
     go_wp2_with (first | (refine wpList_load_blk_w (by rfl) _ _ rfl w.heap.size (by rfl) _ C3e Try.underlying31 (by kernel_rfl) ?_) | (refine wpList_load_blk_w (by rfl) _ _ rfl W1.heap.size (by rfl) _ G3e Try.underlying96 (by kernel_rfl) ?_) | (refine wpList_store_row rfl _ _ _ rfl W2.heap.size cn0.v (by rfl) (by rfl) _ _ Z3e (by kernel_rfl) (by rfl) (by kernel_rfl) ?_))
     obtain rfl : (cn0, (23 : Int)) = R := by rw [← HR.out]; first | rfl | simp [Cn.ret]
     exact ret_cell_tmp (k := 6) (j := 7) Try.f70 (by kernel_rfl) Zf Try.underlying31 (by kernel_rfl) (by rfl) (by rfl) rfl ⟨rfl, bf⟩



  | true =>
   have Zf := Z3.set cn0.v
   have bf := below_setRow b3 gZ cn0.v
   go_wp2_with (first | (refine wpList_load_blk_w (by rfl) _ _ rfl w.heap.size (by rfl) _ C3 Try.underlying31 (by kernel_rfl) ?_) | (refine wpList_load_blk_w (by rfl) _ _ rfl W1.heap.size (by rfl) _ G3 Try.underlying96 (by kernel_rfl) ?_) | (refine wpList_store_row rfl _ _ _ rfl W2.heap.size cn0.v (by rfl) (by rfl) _ _ Z3 (by kernel_rfl) (by rfl) (by kernel_rfl) ?_))
   obtain rfl : (cn0, (23 : Int)) = R := by rw [← HR.out]; first | rfl | simp [Cn.ret]
   exact ret_cell_tmp (k := 6) (j := 7) Try.f70 (by kernel_rfl) Zf Try.underlying31 (by kernel_rfl) (by rfl) (by rfl) rfl ⟨rfl, bf⟩


 | true =>
  have Zf := Z3.set cn0.v
  have bf := below_setRow b3 gZ cn0.v
  go_wp2_with (first | (refine wpList_load_blk_w (by rfl) _ _ rfl w.heap.size (by rfl) _ C3 Try.underlying31 (by kernel_rfl) ?_) | (refine wpList_load_blk_w (by rfl) _ _ rfl W1.heap.size (by rfl) _ G3 Try.underlying96 (by kernel_rfl) ?_) | (refine wpList_store_row rfl _ _ _ rfl W2.heap.size cn0.v (by rfl) (by rfl) _ _ Z3 (by kernel_rfl) (by rfl) (by kernel_rfl) ?_))
  obtain rfl : (cn0, (23 : Int)) = R := by rw [← HR.out]; first | rfl | simp [Cn.ret]
  exact ret_cell_tmp (k := 6) (j := 7) Try.f70 (by kernel_rfl) Zf Try.underlying31 (by kernel_rfl) (by rfl) (by rfl) rfl ⟨rfl, bf⟩
set_option maxRecDepth 100000 in
set_option maxHeartbeats 4000000 in
theorem rsyn1_tc (c : Cn) (g : Gt) (w : World) :
  Calls Try.prog 70 #[.agg c.v, .int .i64 1, .agg g.v] w fun e w' => e = .returned (.tuple #[.agg (Cn.ret (c.syn true g)).1.v, .int .i64 (Cn.ret (c.syn true g)).2]) ∧ Below w.heap.size w w' := by
 obtain ⟨R, hR⟩ : ∃ R, Cn.ret (c.syn true g) = R := ⟨_, rfl⟩
 have HR : Hid (Cn.ret (if flB g.fl 1 || g.sz != 0 then none else (if !flB g.fl 16 || g.ak != c.n0 then none else if c.st == 1 then some ⟨2, c.n0, g.e, g.lim, (g.e + c.e1) % 4294967296, c.k0, true, c.d0, c.d1⟩ else if c.st == 2 && g.e == c.n1 then some c else none)) = R) := hR
 rw [hR]
 clear hR
 have KE : Hid (∀ W, Calls Try.prog 72 #[.agg g.v] W fun e w' => e = .returned (.int .u32 g.e) ∧ Below W.heap.size W w') := fun W => rend_tc g W
 have eL : g.lim = (g.ak + g.win) % 4294967296 := rfl
 rw [eL] at HR
 clear eL
 obtain ⟨fl, win, sz, sq, ak⟩ := g
 obtain ⟨st, n0, n1, e0, e1, k0, k1, d0, d1⟩ := c
 dsimp only at *
 have hA : (bits .and .i64 fl 16 != 0) = flB fl 16 := rfl
 have hF : (bits .and .i64 fl 1 != 0) = flB fl 1 := rfl
 generalize flB fl 16 = A at *
 generalize flB fl 1 = F at *
 generalize hN : (sz != 0) = N at *
 generalize hX : (st == 1) = X at *
 generalize hE : Gt.e ⟨fl, win, sz, sq, ak⟩ = E at *
 clear hE
 generalize hQ : (E == n1) = Q at *
 have hM0 : (ak != n0) = !(ak == n0) := rfl
 rw [hM0] at HR
 clear hM0
 generalize hM : (ak == n0) = M at *
 generalize hY : (st == 2) = Y at *
 obtain ⟨W1, hW1⟩ : ∃ W, w.alloc (.cells (Cn.v ⟨st, n0, n1, e0, e1, k0, k1, d0, d1⟩) 31) = W := ⟨_, rfl⟩
 have b1 := bel_nw hW1
 have C1 := blk_nw hW1
 have g1 := C1.lt
 obtain ⟨W2, hW2⟩ : ∃ W, W1.alloc (.cells (Gt.v ⟨fl, win, sz, sq, ak⟩) 96) = W := ⟨_, rfl⟩
 have b2 := bel_al b1 hW2
 have C2 := C1.al hW2
 have G2 := blk_nw hW2
 have g2 := G2.lt
 obtain ⟨W3, hW3⟩ : ∃ W, W2.alloc (.cells #[.int .i64 0, .int .u32 0, .int .u32 0, .int .u32 0, .int .u32 0, .bool false, .bool false, .bool false, .bool false] 31) = W := ⟨_, rfl⟩
 have b3 := bel_al b2 hW3
 have C3 := C2.al hW3
 have G3 := G2.al hW3
 have Z3 := blk_nw hW3
 have nCG : w.heap.size ≠ W1.heap.size := by omega
 have nGC : W1.heap.size ≠ w.heap.size := by omega
 have nCZ : w.heap.size ≠ W2.heap.size := by omega
 have nGZ : W1.heap.size ≠ W2.heap.size := by omega
 have nZC : W2.heap.size ≠ w.heap.size := by omega
 have gZ : w.heap.size ≤ W2.heap.size := by omega
 have gG : w.heap.size ≤ W1.heap.size := by omega
 clear b1 b2 C1 C2 G2 g1 g2
 go_enter Try.func70, Try.ntmps70
 have c0 := C3.cell 0 (.int .i64 st) rfl
 have c1 := C3.cell 1 (.int .u32 n0) rfl
 have c2 := C3.cell 2 (.int .u32 n1) rfl
 have c4 := C3.cell 4 (.int .u32 e1) rfl
 have g0 := G3.cell 0 (.int .i64 fl) rfl
 have g1 := G3.cell 1 (.int .i64 win) rfl
 have g2 := G3.cell 2 (.int .i64 sz) rfl
 have g4 := G3.cell 4 (.int .u32 ak) rfl
 cases F with
 | false =>
  cases N with
  | false =>
   go_wp2_with (first | (refine wpList_load_blk_w (by rfl) _ _ rfl w.heap.size (by rfl) _ C3 Try.underlying31 (by kernel_rfl) ?_) | (refine wpList_load_blk_w (by rfl) _ _ rfl W1.heap.size (by rfl) _ G3 Try.underlying96 (by kernel_rfl) ?_))
   clear c0 c1 c2 c4 g0 g1 g2 g4
   refine Calls.mono (KE.out _) ?_
   rintro e W3e ⟨rfl, bb⟩
   have C3e := C3.kept bb
   have G3e := G3.kept bb
   have Z3e := Z3.kept bb
   have b3e := bel_tr b3 bb
   clear bb
   clear C3 G3 Z3 b3
   have c0 := C3e.cell 0 (.int .i64 st) rfl
   have c1 := C3e.cell 1 (.int .u32 n0) rfl
   have c2 := C3e.cell 2 (.int .u32 n1) rfl
   have c4 := C3e.cell 4 (.int .u32 e1) rfl
   have g0 := G3e.cell 0 (.int .i64 fl) rfl
   have g1 := G3e.cell 1 (.int .i64 win) rfl
   have g2 := G3e.cell 2 (.int .i64 sz) rfl
   have g4 := G3e.cell 4 (.int .u32 ak) rfl
   cases A with
   | false =>
    have Zf := Z3e.set cn0.v
    have bf := below_setRow b3e gZ cn0.v
    go_wp2_with (first | (refine wpList_load_blk_w (by rfl) _ _ rfl w.heap.size (by rfl) _ C3e Try.underlying31 (by kernel_rfl) ?_) | (refine wpList_load_blk_w (by rfl) _ _ rfl W1.heap.size (by rfl) _ G3e Try.underlying96 (by kernel_rfl) ?_) | (refine wpList_store_row rfl _ _ _ rfl W2.heap.size cn0.v (by rfl) (by rfl) _ _ Z3e (by kernel_rfl) (by rfl) (by kernel_rfl) ?_))
    obtain rfl : (cn0, (23 : Int)) = R := by rw [← HR.out]; first | rfl | simp [Cn.ret]
    exact ret_cell_tmp (k := 6) (j := 7) Try.f70 (by kernel_rfl) Zf Try.underlying31 (by kernel_rfl) (by rfl) (by rfl) rfl ⟨rfl, bf⟩

   | true =>
    cases M with
    | false =>
     have Zf := Z3e.set cn0.v
     have bf := below_setRow b3e gZ cn0.v
     go_wp2_with (first | (refine wpList_load_blk_w (by rfl) _ _ rfl w.heap.size (by rfl) _ C3e Try.underlying31 (by kernel_rfl) ?_) | (refine wpList_load_blk_w (by rfl) _ _ rfl W1.heap.size (by rfl) _ G3e Try.underlying96 (by kernel_rfl) ?_) | (refine wpList_store_row rfl _ _ _ rfl W2.heap.size cn0.v (by rfl) (by rfl) _ _ Z3e (by kernel_rfl) (by rfl) (by kernel_rfl) ?_))
     obtain rfl : (cn0, (23 : Int)) = R := by rw [← HR.out]; first | rfl | simp [Cn.ret]
     exact ret_cell_tmp (k := 6) (j := 7) Try.f70 (by kernel_rfl) Zf Try.underlying31 (by kernel_rfl) (by rfl) (by rfl) rfl ⟨rfl, bf⟩

    | true =>
     cases X with
     | false =>
      cases Y with
      | false =>
       have Zf := Z3e.set cn0.v
       have bf := below_setRow b3e gZ cn0.v
       go_wp2_with (first | (refine wpList_load_blk_w (by rfl) _ _ rfl w.heap.size (by rfl) _ C3e Try.underlying31 (by kernel_rfl) ?_) | (refine wpList_load_blk_w (by rfl) _ _ rfl W1.heap.size (by rfl) _ G3e Try.underlying96 (by kernel_rfl) ?_) | (refine wpList_store_row rfl _ _ _ rfl W2.heap.size cn0.v (by rfl) (by rfl) _ _ Z3e (by kernel_rfl) (by rfl) (by kernel_rfl) ?_))
       obtain rfl : (cn0, (23 : Int)) = R := by rw [← HR.out]; first | rfl | simp [Cn.ret]
       exact ret_cell_tmp (k := 6) (j := 7) Try.f70 (by kernel_rfl) Zf Try.underlying31 (by kernel_rfl) (by rfl) (by rfl) rfl ⟨rfl, bf⟩

      | true =>
       cases Q with
       | false =>
        have Zf := Z3e.set cn0.v
        have bf := below_setRow b3e gZ cn0.v
        go_wp2_with (first | (refine wpList_load_blk_w (by rfl) _ _ rfl w.heap.size (by rfl) _ C3e Try.underlying31 (by kernel_rfl) ?_) | (refine wpList_load_blk_w (by rfl) _ _ rfl W1.heap.size (by rfl) _ G3e Try.underlying96 (by kernel_rfl) ?_) | (refine wpList_store_row rfl _ _ _ rfl W2.heap.size cn0.v (by rfl) (by rfl) _ _ Z3e (by kernel_rfl) (by rfl) (by kernel_rfl) ?_))
        obtain rfl : (cn0, (23 : Int)) = R := by rw [← HR.out]; first | rfl | simp [Cn.ret]
        exact ret_cell_tmp (k := 6) (j := 7) Try.f70 (by kernel_rfl) Zf Try.underlying31 (by kernel_rfl) (by rfl) (by rfl) rfl ⟨rfl, bf⟩

       | true =>
        have Zf := Z3e.set (Cn.v ⟨st, n0, n1, e0, e1, k0, k1, d0, d1⟩)
        have bf := below_setRow b3e gZ (Cn.v ⟨st, n0, n1, e0, e1, k0, k1, d0, d1⟩)
        go_wp2_with (first | (refine wpList_load_blk_w (by rfl) _ _ rfl w.heap.size (by rfl) _ C3e Try.underlying31 (by kernel_rfl) ?_) | (refine wpList_load_blk_w (by rfl) _ _ rfl W1.heap.size (by rfl) _ G3e Try.underlying96 (by kernel_rfl) ?_) | (refine wpList_store_row rfl _ _ _ rfl W2.heap.size (Cn.v ⟨st, n0, n1, e0, e1, k0, k1, d0, d1⟩) (by rfl) (by rfl) _ _ Z3e (by kernel_rfl) (by rfl) (by kernel_rfl) ?_))
        obtain rfl : ((⟨st, n0, n1, e0, e1, k0, k1, d0, d1⟩ : Cn), (0 : Int)) = R := by rw [← HR.out]; first | rfl | simp [Cn.ret]
        exact ret_cell_tmp (k := 6) (j := 7) Try.f70 (by kernel_rfl) Zf Try.underlying31 (by kernel_rfl) (by rfl) (by rfl) rfl ⟨rfl, bf⟩



     | true =>
      have y6 := C3e.cell 6 (.bool k1) rfl
      have z6 := C3e.frozen 6
      obtain ⟨W3ep, hW3ep⟩ : ∃ W, W3e.setCell ⟨w.heap.size, 6, none⟩ (.bool true) = W := ⟨_, rfl⟩
      have C3ep : Blk W3ep w.heap.size 31 (Cn.v ⟨st, n0, n1, e0, e1, k0, true, d0, d1⟩) := hW3ep ▸ C3e.put 6 (.bool true)
      have G3ep := hW3ep ▸ G3e.put_other C3e nGC 6 (.bool true)
      have Z3ep := hW3ep ▸ Z3e.put_other C3e nZC 6 (.bool true)
      have b3ep := hW3ep ▸ b3e.setCell (p := ⟨w.heap.size, 6, none⟩) (Nat.le_refl _) (.bool true)
      have y2 := C3ep.cell 2 (.int .u32 n1) rfl
      have z2 := C3ep.frozen 2
      obtain ⟨W3epp, hW3epp⟩ : ∃ W, W3ep.setCell ⟨w.heap.size, 2, none⟩ (.int .u32 E) = W := ⟨_, rfl⟩
      have C3epp : Blk W3epp w.heap.size 31 (Cn.v ⟨st, n0, E, e0, e1, k0, true, d0, d1⟩) := hW3epp ▸ C3ep.put 2 (.int .u32 E)
      have G3epp := hW3epp ▸ G3ep.put_other C3ep nGC 2 (.int .u32 E)
      have Z3epp := hW3epp ▸ Z3ep.put_other C3ep nZC 2 (.int .u32 E)
      have b3epp := hW3epp ▸ b3ep.setCell (p := ⟨w.heap.size, 2, none⟩) (Nat.le_refl _) (.int .u32 E)
      have y4 := C3epp.cell 4 (.int .u32 e1) rfl
      have z4 := C3epp.frozen 4
      obtain ⟨W3eppp, hW3eppp⟩ : ∃ W, W3epp.setCell ⟨w.heap.size, 4, none⟩ (.int .u32 ((E + e1) % 4294967296)) = W := ⟨_, rfl⟩
      have C3eppp : Blk W3eppp w.heap.size 31 (Cn.v ⟨st, n0, E, e0, ((E + e1) % 4294967296), k0, true, d0, d1⟩) := hW3eppp ▸ C3epp.put 4 (.int .u32 ((E + e1) % 4294967296))
      have G3eppp := hW3eppp ▸ G3epp.put_other C3epp nGC 4 (.int .u32 ((E + e1) % 4294967296))
      have Z3eppp := hW3eppp ▸ Z3epp.put_other C3epp nZC 4 (.int .u32 ((E + e1) % 4294967296))
      have b3eppp := hW3eppp ▸ b3epp.setCell (p := ⟨w.heap.size, 4, none⟩) (Nat.le_refl _) (.int .u32 ((E + e1) % 4294967296))
      have q1 := G3eppp.cell 1 (.int .i64 win) rfl
      have q4 := G3eppp.cell 4 (.int .u32 ak) rfl
      have y3 := C3eppp.cell 3 (.int .u32 e0) rfl
      have z3 := C3eppp.frozen 3
      obtain ⟨W3epppp, hW3epppp⟩ : ∃ W, W3eppp.setCell ⟨w.heap.size, 3, none⟩ (.int .u32 ((ak + win) % 4294967296)) = W := ⟨_, rfl⟩
      have C3epppp : Blk W3epppp w.heap.size 31 (Cn.v ⟨st, n0, E, ((ak + win) % 4294967296), ((E + e1) % 4294967296), k0, true, d0, d1⟩) := hW3epppp ▸ C3eppp.put 3 (.int .u32 ((ak + win) % 4294967296))
      have G3epppp := hW3epppp ▸ G3eppp.put_other C3eppp nGC 3 (.int .u32 ((ak + win) % 4294967296))
      have Z3epppp := hW3epppp ▸ Z3eppp.put_other C3eppp nZC 3 (.int .u32 ((ak + win) % 4294967296))
      have b3epppp := hW3epppp ▸ b3eppp.setCell (p := ⟨w.heap.size, 3, none⟩) (Nat.le_refl _) (.int .u32 ((ak + win) % 4294967296))
      have y0 := C3epppp.cell 0 (.int .i64 st) rfl
      have z0 := C3epppp.frozen 0
      obtain ⟨W3eppppp, hW3eppppp⟩ : ∃ W, W3epppp.setCell ⟨w.heap.size, 0, none⟩ (.int .i64 2) = W := ⟨_, rfl⟩
      have C3eppppp : Blk W3eppppp w.heap.size 31 (Cn.v ⟨2, n0, E, ((ak + win) % 4294967296), ((E + e1) % 4294967296), k0, true, d0, d1⟩) := hW3eppppp ▸ C3epppp.put 0 (.int .i64 2)
      have G3eppppp := hW3eppppp ▸ G3epppp.put_other C3epppp nGC 0 (.int .i64 2)
      have Z3eppppp := hW3eppppp ▸ Z3epppp.put_other C3epppp nZC 0 (.int .i64 2)
      have b3eppppp := hW3eppppp ▸ b3epppp.setCell (p := ⟨w.heap.size, 0, none⟩) (Nat.le_refl _) (.int .i64 2)
      have Zf := Z3eppppp.set (Cn.v ⟨2, n0, E, ((ak + win) % 4294967296), ((E + e1) % 4294967296), k0, true, d0, d1⟩)
      have bf := below_setRow b3eppppp gZ (Cn.v ⟨2, n0, E, ((ak + win) % 4294967296), ((E + e1) % 4294967296), k0, true, d0, d1⟩)
      go_wp2_with (first | (refine wpList_load_blk_w (by rfl) _ _ rfl w.heap.size (by rfl) _ C3eppppp Try.underlying31 (by kernel_rfl) ?_) | (refine wpList_load_blk_w (by rfl) _ _ rfl W1.heap.size (by rfl) _ G3eppppp Try.underlying96 (by kernel_rfl) ?_) | (refine wpList_store_row rfl _ _ _ rfl W2.heap.size (Cn.v ⟨2, n0, E, ((ak + win) % 4294967296), ((E + e1) % 4294967296), k0, true, d0, d1⟩) (by rfl) (by rfl) _ _ Z3eppppp (by kernel_rfl) (by rfl) (by kernel_rfl) ?_))
      obtain rfl : ((⟨2, n0, E, ((ak + win) % 4294967296), ((E + e1) % 4294967296), k0, true, d0, d1⟩ : Cn), (0 : Int)) = R := by rw [← HR.out]; first | rfl | simp [Cn.ret]
      exact ret_cell_tmp (k := 6) (j := 7) Try.f70 (by kernel_rfl) Zf Try.underlying31 (by kernel_rfl) (by rfl) (by rfl) rfl ⟨rfl, bf⟩




  | true =>
   have Zf := Z3.set cn0.v
   have bf := below_setRow b3 gZ cn0.v
   go_wp2_with (first | (refine wpList_load_blk_w (by rfl) _ _ rfl w.heap.size (by rfl) _ C3 Try.underlying31 (by kernel_rfl) ?_) | (refine wpList_load_blk_w (by rfl) _ _ rfl W1.heap.size (by rfl) _ G3 Try.underlying96 (by kernel_rfl) ?_) | (refine wpList_store_row rfl _ _ _ rfl W2.heap.size cn0.v (by rfl) (by rfl) _ _ Z3 (by kernel_rfl) (by rfl) (by kernel_rfl) ?_))
   obtain rfl : (cn0, (23 : Int)) = R := by rw [← HR.out]; first | rfl | simp [Cn.ret]
   exact ret_cell_tmp (k := 6) (j := 7) Try.f70 (by kernel_rfl) Zf Try.underlying31 (by kernel_rfl) (by rfl) (by rfl) rfl ⟨rfl, bf⟩


 | true =>
  have Zf := Z3.set cn0.v
  have bf := below_setRow b3 gZ cn0.v
  go_wp2_with (first | (refine wpList_load_blk_w (by rfl) _ _ rfl w.heap.size (by rfl) _ C3 Try.underlying31 (by kernel_rfl) ?_) | (refine wpList_load_blk_w (by rfl) _ _ rfl W1.heap.size (by rfl) _ G3 Try.underlying96 (by kernel_rfl) ?_) | (refine wpList_store_row rfl _ _ _ rfl W2.heap.size cn0.v (by rfl) (by rfl) _ _ Z3 (by kernel_rfl) (by rfl) (by kernel_rfl) ?_))
  obtain rfl : (cn0, (23 : Int)) = R := by rw [← HR.out]; first | rfl | simp [Cn.ret]
  exact ret_cell_tmp (k := 6) (j := 7) Try.f70 (by kernel_rfl) Zf Try.underlying31 (by kernel_rfl) (by rfl) (by rfl) rfl ⟨rfl, bf⟩
set_option maxRecDepth 100000 in
set_option maxHeartbeats 4000000 in
theorem rstepB_tc (c : Cn) (i : Int) (g : Gt) (w : World) (n0 : i ≠ 0) (n1 : i ≠ 1) :
  Calls Try.prog 46 #[.agg c.v, .int .i64 i, .agg g.v] w fun e w' => e = .returned (.tuple #[.agg (c.step i g).1.v, .int .i64 (c.step i g).2]) ∧ Below w.heap.size w w' := by
 obtain ⟨R, hR⟩ : ∃ R, c.step i g = R := ⟨_, rfl⟩
 have e0 : (i == 0) = false := by simpa using n0
 have e1 : (i == 1) = false := by simpa using n1
 rw [hR]
 obtain rfl : (cn0, 1) = R := by rw [← hR, Cn.step, e0, e1]; simp
 clear hR
 have hS : i < 0 ∨ 1 < i := by omega
 clear n0 n1 e0 e1
 have KR : Hid (∀ W, Calls Try.prog 41 #[.agg c.v] W fun e w' => e = .returned (.bool c.right) ∧ Below W.heap.size W w') := fun W => rright_tc c W
 generalize c.right = V at *
 obtain ⟨W1, hW1⟩ : ∃ W, w.alloc (.cells (c.v) 31) = W := ⟨_, rfl⟩
 have b1 := bel_nw hW1
 have C1 := blk_nw hW1
 have g1 := C1.lt
 obtain ⟨W2, hW2⟩ : ∃ W, W1.alloc (.cells g.v 96) = W := ⟨_, rfl⟩
 have b2 := bel_al b1 hW2
 have C2 := C1.al hW2
 have G2 := blk_nw hW2
 have g2 := G2.lt
 obtain ⟨W3, hW3⟩ : ∃ W, W2.alloc (.cells #[.int .i64 0, .int .u32 0, .int .u32 0, .int .u32 0, .int .u32 0, .bool false, .bool false, .bool false, .bool false] 31) = W := ⟨_, rfl⟩
 have b3 := bel_al b2 hW3
 have C3 := C2.al hW3
 have G3 := G2.al hW3
 have Z3 := blk_nw hW3
 have nCG : w.heap.size ≠ W1.heap.size := by omega
 have nGC : W1.heap.size ≠ w.heap.size := by omega
 have nCZ : w.heap.size ≠ W2.heap.size := by omega
 have nGZ : W1.heap.size ≠ W2.heap.size := by omega
 have nZC : W2.heap.size ≠ w.heap.size := by omega
 have gZ : w.heap.size ≤ W2.heap.size := by omega
 have gG : w.heap.size ≤ W1.heap.size := by omega
 clear b1 b2 C1 C2 G2 g1 g2
 go_enter Try.func46, Try.ntmps46
 go_wp2_with (first | (refine wpList_load_blk_w (by rfl) _ _ rfl w.heap.size (by rfl) _ C3 Try.underlying31 (by kernel_rfl) ?_) | (refine wpList_load_blk_w (by rfl) _ _ rfl W1.heap.size (by rfl) _ G3 Try.underlying96 (by kernel_rfl) ?_))
 refine Calls.mono (KR.out _) ?_
 rintro e W4 ⟨rfl, bb⟩
 have C4 := C3.kept bb
 have G4 := G3.kept bb
 have Z4 := Z3.kept bb
 have b4 := bel_tr b3 bb
 clear bb
 clear C3 G3 Z3 b3
 cases V with
 | false =>
  have Zf := Z4.set cn0.v
  have bf := below_setRow b4 gZ cn0.v
  go_wp2_with (refine wpList_store_row rfl _ _ _ rfl W2.heap.size cn0.v (by rfl) (by rfl) _ _ Z4 (by kernel_rfl) (by rfl) (by kernel_rfl) ?_)
  exact ret_cell_tmp (k := 6) (j := 7) Try.f46 (by kernel_rfl) Zf Try.underlying31 (by kernel_rfl) (by rfl) (by rfl) rfl ⟨rfl, bf⟩

 | true =>
  rcases hS with hS | hS
  ·have Zf := Z4.set cn0.v
   have bf := below_setRow b4 gZ cn0.v
   go_wp2_with (refine wpList_store_row rfl _ _ _ rfl W2.heap.size cn0.v (by rfl) (by rfl) _ _ Z4 (by kernel_rfl) (by rfl) (by kernel_rfl) ?_)
   exact ret_cell_tmp (k := 6) (j := 7) Try.f46 (by kernel_rfl) Zf Try.underlying31 (by kernel_rfl) (by rfl) (by rfl) rfl ⟨rfl, bf⟩
  ·have hS2 : ¬ i < 0 := by omega
   have Zf := Z4.set cn0.v
   have bf := below_setRow b4 gZ cn0.v
   go_wp2_with (refine wpList_store_row rfl _ _ _ rfl W2.heap.size cn0.v (by rfl) (by rfl) _ _ Z4 (by kernel_rfl) (by rfl) (by kernel_rfl) ?_)
   exact ret_cell_tmp (k := 6) (j := 7) Try.f46 (by kernel_rfl) Zf Try.underlying31 (by kernel_rfl) (by rfl) (by rfl) rfl ⟨rfl, bf⟩
set_option maxRecDepth 100000 in
set_option maxHeartbeats 16000000 in
theorem rstep0N_tc (c : Cn) (g : Gt) (w : World) (hN : ¬ (c.right = true ∧ inB15 g.win = true ∧ inB15 g.sz = true ∧ flB g.fl 4 = false ∧ (c.st == 6) = false ∧ flB g.fl 2 = false ∧ flB g.fl 16 = true ∧ (c.st == 1) = false ∧ c.win false g = true ∧ frB g.ak ((c.n1 - 65535) % 4294967296) = true ∧ frB c.n1 g.ak = true)) :
  Calls Try.prog 46 #[.agg c.v, .int .i64 0, .agg g.v] w fun e w' => e = .returned (.tuple #[.agg (c.step 0 g).1.v, .int .i64 (c.step 0 g).2]) ∧ Below w.heap.size w w' := by
 obtain ⟨R, hR⟩ : ∃ R, c.step 0 g = R := ⟨_, rfl⟩
 have HR : Hid ((if c.right && (inB15 g.win && inB15 g.sz) then (if flB g.fl 4 then Cn.ret (if c.win false g || (false && (c.st == 1 && (flB g.fl 16 && g.ak == c.n0))) then some ⟨6, c.n0, c.n1, c.e0, c.e1, c.k0, c.k1, c.d0, c.d1⟩ else none) else if c.st == 6 then (cn0, 23) else if flB g.fl 2 then Cn.ret (c.syn false g) else if !flB g.fl 16 || (c.st == 1 || (false && c.st == 2)) then (cn0, 23) else Cn.ret (if c.win false g && (frB g.ak ((c.n1 - 65535) % 4294967296) && frB c.n1 g.ak) then some (c.byR false g.e ((g.ak + g.win) % 4294967296) (frB g.e c.n0) (frB ((g.ak + g.win) % 4294967296) c.e1) (flB g.fl 1)) else none)) else (cn0, 1)) = R) := by
  have h : (if c.right && (inB15 g.win && inB15 g.sz) then Cn.ret (c.take false g) else (cn0, 1)) = R := hR
  have k : Cn.ret (c.take false g) = (if flB g.fl 4 then Cn.ret (if c.win false g || (false && (c.st == 1 && (flB g.fl 16 && g.ak == c.n0))) then some ⟨6, c.n0, c.n1, c.e0, c.e1, c.k0, c.k1, c.d0, c.d1⟩ else none) else if c.st == 6 then (cn0, 23) else if flB g.fl 2 then Cn.ret (c.syn false g) else if !flB g.fl 16 || (c.st == 1 || (false && c.st == 2)) then (cn0, 23) else Cn.ret (if c.win false g && (frB g.ak ((c.n1 - 65535) % 4294967296) && frB c.n1 g.ak) then some (c.byR false g.e ((g.ak + g.win) % 4294967296) (frB g.e c.n0) (frB ((g.ak + g.win) % 4294967296) c.e1) (flB g.fl 1)) else none)) := by
   unfold Cn.take
   split
   ·rfl
   ·split
    ·rfl
    ·split
     ·rfl
     ·split <;> rfl
  rw [k] at h
  exact h
 rw [hR]
 clear hR
 have HN : Hid (¬ (c.right = true ∧ inB15 g.win = true ∧ inB15 g.sz = true ∧ flB g.fl 4 = false ∧ (c.st == 6) = false ∧ flB g.fl 2 = false ∧ flB g.fl 16 = true ∧ (c.st == 1) = false ∧ c.win false g = true ∧ frB g.ak ((c.n1 - 65535) % 4294967296) = true ∧ frB c.n1 g.ak = true)) := hN
 clear hN
 have KR : Hid (∀ W, Calls Try.prog 41 #[.agg c.v] W fun e w' => e = .returned (.bool c.right) ∧ Below W.heap.size W w') := fun W => rright_tc c W
 have KZ : Hid (∀ W, Calls Try.prog 65 #[.int .i64 g.sz] W fun e w' => e = .returned (.bool (inB15 g.sz)) ∧ Below W.heap.size W w') := fun W => rin_tc g.sz W
 have KV : Hid (∀ W, Calls Try.prog 65 #[.int .i64 g.win] W fun e w' => e = .returned (.bool (inB15 g.win)) ∧ Below W.heap.size W w') := fun W => rin_tc g.win W
 have KW : Hid (∀ W, Calls Try.prog 69 #[.agg c.v, .int .i64 0, .agg g.v] W fun e w' => e = .returned (.bool (c.win false g)) ∧ Below W.heap.size W w') := fun W => rwindow0_tc c g W
 have KS : Hid (∀ W, Calls Try.prog 70 #[.agg c.v, .int .i64 0, .agg g.v] W fun e w' => e = .returned (.tuple #[.agg (Cn.ret (c.syn false g)).1.v, .int .i64 (Cn.ret (c.syn false g)).2]) ∧ Below W.heap.size W w') := fun W => rsyn0_tc c g W
 have KE : Hid (∀ W, Calls Try.prog 72 #[.agg g.v] W fun e w' => e = .returned (.int .u32 g.e) ∧ Below W.heap.size W w') := fun W => rend_tc g W
 have KQ1 : Hid (∀ W, Calls Try.prog 71 #[.int .u32 (g.ak), .int .u32 ((c.n1 - 65535) % 4294967296)] W fun e w' => e = .returned (.bool (frB (g.ak) ((c.n1 - 65535) % 4294967296))) ∧ Below W.heap.size W w') := fun W => rfrom_tc _ _ W
 have KQ2 : Hid (∀ W, Calls Try.prog 71 #[.int .u32 (c.n1), .int .u32 (g.ak)] W fun e w' => e = .returned (.bool (frB (c.n1) (g.ak))) ∧ Below W.heap.size W w') := fun W => rfrom_tc _ _ W
 have KP : Hid (∀ W, Calls Try.prog 71 #[.int .u32 (g.e), .int .u32 (c.n0)] W fun e w' => e = .returned (.bool (frB (g.e) (c.n0))) ∧ Below W.heap.size W w') := fun W => rfrom_tc _ _ W
 have KO : Hid (∀ W, Calls Try.prog 71 #[.int .u32 ((g.ak + g.win) % 4294967296), .int .u32 (c.e1)] W fun e w' => e = .returned (.bool (frB ((g.ak + g.win) % 4294967296) (c.e1))) ∧ Below W.heap.size W w') := fun W => rfrom_tc _ _ W
 generalize hQ1 : frB (g.ak) ((c.n1 - 65535) % 4294967296) = Q1 at *
 clear hQ1
 generalize hQ2 : frB (c.n1) (g.ak) = Q2 at *
 clear hQ2
 generalize hP : frB (g.e) (c.n0) = P at *
 clear hP
 generalize hO : frB ((g.ak + g.win) % 4294967296) (c.e1) = O at *
 clear hO
 generalize c.right = RR at *
 generalize inB15 g.win = IW at *
 generalize inB15 g.sz = IZ at *
 generalize c.win false g = V at *
 generalize Cn.ret (c.syn false g) = XS at *
 generalize hE : g.e = E at *
 clear hE
 obtain ⟨fl, win, sz, sq, ak⟩ := g
 obtain ⟨st, n0, n1, e0, e1, k0, k1, d0, d1⟩ := c
 dsimp only at *
 have hA16 : (bits .and .i64 fl 16 != 0) = flB fl 16 := rfl
 generalize flB fl 16 = A16 at *
 have hA4 : (bits .and .i64 fl 4 != 0) = flB fl 4 := rfl
 generalize flB fl 4 = A4 at *
 have hA2 : (bits .and .i64 fl 2 != 0) = flB fl 2 := rfl
 generalize flB fl 2 = A2 at *
 have hA1 : (bits .and .i64 fl 1 != 0) = flB fl 1 := rfl
 generalize flB fl 1 = A1 at *
 generalize h6 : (st == 6) = X6 at *
 generalize h1 : (st == 1) = X1 at *
 obtain ⟨W1, hW1⟩ : ∃ W, w.alloc (.cells (Cn.v ⟨st, n0, n1, e0, e1, k0, k1, d0, d1⟩) 31) = W := ⟨_, rfl⟩
 have b1 := bel_nw hW1
 have C1 := blk_nw hW1
 have g1 := C1.lt
 obtain ⟨W2, hW2⟩ : ∃ W, W1.alloc (.cells (Gt.v ⟨fl, win, sz, sq, ak⟩) 96) = W := ⟨_, rfl⟩
 have b2 := bel_al b1 hW2
 have C2 := C1.al hW2
 have G2 := blk_nw hW2
 have g2 := G2.lt
 obtain ⟨W3, hW3⟩ : ∃ W, W2.alloc (.cells #[.int .i64 0, .int .u32 0, .int .u32 0, .int .u32 0, .int .u32 0, .bool false, .bool false, .bool false, .bool false] 31) = W := ⟨_, rfl⟩
 have b3 := bel_al b2 hW3
 have C3 := C2.al hW3
 have G3 := G2.al hW3
 have Z3 := blk_nw hW3
 have nCG : w.heap.size ≠ W1.heap.size := by omega
 have nGC : W1.heap.size ≠ w.heap.size := by omega
 have nCZ : w.heap.size ≠ W2.heap.size := by omega
 have nGZ : W1.heap.size ≠ W2.heap.size := by omega
 have nZC : W2.heap.size ≠ w.heap.size := by omega
 have gZ : w.heap.size ≤ W2.heap.size := by omega
 have gG : w.heap.size ≤ W1.heap.size := by omega
 clear b1 b2 C1 C2 G2 g1 g2
 have c0 := C3.cell 0 (.int .i64 st) rfl
 have c1 := C3.cell 1 (.int .u32 n0) rfl
 have g0 := G3.cell 0 (.int .i64 fl) rfl
 have g1 := G3.cell 1 (.int .i64 win) rfl
 have g2 := G3.cell 2 (.int .i64 sz) rfl
 have g4 := G3.cell 4 (.int .u32 ak) rfl
 go_enter Try.func46, Try.ntmps46
 go_wp2_with (first | (refine wpList_load_blk_w (by rfl) _ _ rfl w.heap.size (by rfl) _ C3 Try.underlying31 (by kernel_rfl) ?_) | (refine wpList_load_blk_w (by rfl) _ _ rfl W1.heap.size (by rfl) _ G3 Try.underlying96 (by kernel_rfl) ?_))
 clear c0 c1 g0 g1 g2 g4
 refine Calls.mono (KR.out _) ?_
 rintro e W4 ⟨rfl, bb⟩
 have C4 := C3.kept bb
 have G4 := G3.kept bb
 have Z4 := Z3.kept bb
 have b4 := bel_tr b3 bb
 clear bb
 clear C3 G3 Z3 b3
 have c0 := C4.cell 0 (.int .i64 st) rfl
 have c1 := C4.cell 1 (.int .u32 n0) rfl
 have g0 := G4.cell 0 (.int .i64 fl) rfl
 have g1 := G4.cell 1 (.int .i64 win) rfl
 have g2 := G4.cell 2 (.int .i64 sz) rfl
 have g4 := G4.cell 4 (.int .u32 ak) rfl
 cases RR with
 | false =>
  have Zf := Z4.set cn0.v
  have bf := below_setRow b4 gZ cn0.v
  go_wp2_with (refine wpList_store_row rfl _ _ _ rfl W2.heap.size cn0.v (by rfl) (by rfl) _ _ Z4 (by kernel_rfl) (by rfl) (by kernel_rfl) ?_)
  obtain rfl : (cn0, (1 : Int)) = R := by rw [← HR.out]; first | rfl | simp [Cn.ret]
  exact ret_cell_tmp (k := 6) (j := 7) Try.f46 (by kernel_rfl) Zf Try.underlying31 (by kernel_rfl) (by rfl) (by rfl) rfl ⟨rfl, bf⟩

 | true =>
  go_wp2_with (first | (refine wpList_load_blk_w (by rfl) _ _ rfl w.heap.size (by rfl) _ C4 Try.underlying31 (by kernel_rfl) ?_) | (refine wpList_load_blk_w (by rfl) _ _ rfl W1.heap.size (by rfl) _ G4 Try.underlying96 (by kernel_rfl) ?_))
  clear c0 c1 g0 g1 g2 g4
  refine Calls.mono (KV.out _) ?_
  rintro e W5 ⟨rfl, bb⟩
  have C5 := C4.kept bb
  have G5 := G4.kept bb
  have Z5 := Z4.kept bb
  have b5 := bel_tr b4 bb
  clear bb
  clear C4 G4 Z4 b4
  have c0 := C5.cell 0 (.int .i64 st) rfl
  have c1 := C5.cell 1 (.int .u32 n0) rfl
  have g0 := G5.cell 0 (.int .i64 fl) rfl
  have g1 := G5.cell 1 (.int .i64 win) rfl
  have g2 := G5.cell 2 (.int .i64 sz) rfl
  have g4 := G5.cell 4 (.int .u32 ak) rfl
  cases IW with
  | false =>
   have Zf := Z5.set cn0.v
   have bf := below_setRow b5 gZ cn0.v
   go_wp2_with (refine wpList_store_row rfl _ _ _ rfl W2.heap.size cn0.v (by rfl) (by rfl) _ _ Z5 (by kernel_rfl) (by rfl) (by kernel_rfl) ?_)
   obtain rfl : (cn0, (1 : Int)) = R := by rw [← HR.out]; first | rfl | simp [Cn.ret]
   exact ret_cell_tmp (k := 6) (j := 7) Try.f46 (by kernel_rfl) Zf Try.underlying31 (by kernel_rfl) (by rfl) (by rfl) rfl ⟨rfl, bf⟩

  | true =>
   go_wp2_with (first | (refine wpList_load_blk_w (by rfl) _ _ rfl w.heap.size (by rfl) _ C5 Try.underlying31 (by kernel_rfl) ?_) | (refine wpList_load_blk_w (by rfl) _ _ rfl W1.heap.size (by rfl) _ G5 Try.underlying96 (by kernel_rfl) ?_))
   clear c0 c1 g0 g1 g2 g4
   refine Calls.mono (KZ.out _) ?_
   rintro e W6 ⟨rfl, bb⟩
   have C6 := C5.kept bb
   have G6 := G5.kept bb
   have Z6 := Z5.kept bb
   have b6 := bel_tr b5 bb
   clear bb
   clear C5 G5 Z5 b5
   have c0 := C6.cell 0 (.int .i64 st) rfl
   have c1 := C6.cell 1 (.int .u32 n0) rfl
   have g0 := G6.cell 0 (.int .i64 fl) rfl
   have g1 := G6.cell 1 (.int .i64 win) rfl
   have g2 := G6.cell 2 (.int .i64 sz) rfl
   have g4 := G6.cell 4 (.int .u32 ak) rfl
   cases IZ with
   | false =>
    have Zf := Z6.set cn0.v
    have bf := below_setRow b6 gZ cn0.v
    go_wp2_with (refine wpList_store_row rfl _ _ _ rfl W2.heap.size cn0.v (by rfl) (by rfl) _ _ Z6 (by kernel_rfl) (by rfl) (by kernel_rfl) ?_)
    obtain rfl : (cn0, (1 : Int)) = R := by rw [← HR.out]; first | rfl | simp [Cn.ret]
    exact ret_cell_tmp (k := 6) (j := 7) Try.f46 (by kernel_rfl) Zf Try.underlying31 (by kernel_rfl) (by rfl) (by rfl) rfl ⟨rfl, bf⟩

   | true =>
    cases A4 with
    | false =>
     cases X6 with
     | false =>
      cases A2 with
      | false =>
       cases A16 with
       | false =>
        have Zf := Z6.set cn0.v
        have bf := below_setRow b6 gZ cn0.v
        go_wp2_with (refine wpList_store_row rfl _ _ _ rfl W2.heap.size cn0.v (by rfl) (by rfl) _ _ Z6 (by kernel_rfl) (by rfl) (by kernel_rfl) ?_)
        obtain rfl : (cn0, (23 : Int)) = R := by rw [← HR.out]; first | rfl | simp [Cn.ret]
        exact ret_cell_tmp (k := 6) (j := 7) Try.f46 (by kernel_rfl) Zf Try.underlying31 (by kernel_rfl) (by rfl) (by rfl) rfl ⟨rfl, bf⟩

       | true =>
        cases X1 with
        | false =>
         go_wp2_with (first | (refine wpList_load_blk_w (by rfl) _ _ rfl w.heap.size (by rfl) _ C6 Try.underlying31 (by kernel_rfl) ?_) | (refine wpList_load_blk_w (by rfl) _ _ rfl W1.heap.size (by rfl) _ G6 Try.underlying96 (by kernel_rfl) ?_))
         clear c0 c1 g0 g1 g2 g4
         have Cd := C6.drew
         have Gd := G6.drew
         have Zd := Z6.drew
         have bd := b6.drew
         refine wp_region_noPanic ?_
         refine wp_region_held_drew (S := fun w' => Blk w' w.heap.size 31 (Cn.v ⟨st, n0, n1, e0, e1, k0, k1, d0, d1⟩) ∧ Blk w' W1.heap.size 96 (Gt.v ⟨fl, win, sz, sq, ak⟩)) (by kernel_rfl) (by exact ⟨Cd, Gd⟩) (fun hHeld => ?_)
         refine qty (i := 0) (oi := { dst := some 107, op := Op.load 31 (.tmp 3), type := 31, pos := "ref.go:121", after := #[], guard := none }) (v := (.agg (Cn.v ⟨st, n0, n1, e0, e1, k0, k1, d0, d1⟩))) (yieldsIf_blk_w (by kernel_rfl) _ _ rfl w.heap.size (by rfl) _ (fun _ hSw => hSw.1) Try.underlying31 (by kernel_rfl)) hHeld ?_
         try simp only [qpu]
         refine qtk (i := 1) (oi := { dst := some 108, op := Op.move (.tmp 1), type := 3, pos := "ref.go:121", after := #[], guard := none }) (v := (.int .i64 0)) hHeld ?_ ?_
         ·intro w9 hSw
          try dsimp only at hSw
          go_simp
         try simp only [qpu]
         refine qty (i := 2) (oi := { dst := some 109, op := Op.load 96 (.tmp 5), type := 96, pos := "ref.go:121", after := #[], guard := none }) (v := (.agg (Gt.v ⟨fl, win, sz, sq, ak⟩))) (yieldsIf_blk_w (by kernel_rfl) _ _ rfl W1.heap.size (by rfl) _ (fun _ hSw => hSw.2) Try.underlying96 (by kernel_rfl)) hHeld ?_
         try simp only [qpu]
         refine wpAnyH_ready (rs := [3]) (by kernel_rfl) (by simp) ?_
         refine AllReadyH.cons (o := { dst := some 110, op := Op.call { callee := Callee.value (.func 69), args := #[.tmp 107, .tmp 108, .tmp 109], argTypes := #[31, 3, 96] }, type := 4, pos := "ref.go:121", after := #[{ on := 0, ground := Ground.data }, { on := 1, ground := Ground.data }, { on := 2, ground := Ground.data }], guard := none }) rfl (fun K hK => ?_) AllReadyH.nil
         go_simp
         refine Calls.mono (KW.out _) ?_
         rintro e Wx41 ⟨rfl, bb⟩
         have Cx41 := Cd.kept bb
         have Gx41 := Gd.kept bb
         have Zx41 := Zd.kept bb
         have bx41 := bel_tr bd bb
         clear bb
         refine hK.out _ _ (by exact ⟨Cx41, Gx41⟩) (fun hHeld => ?_)
         clear hK K
         try simp only [qpu]
         cases V with
         | false =>
          refine qtk (i := 4) (oi := fxg5o45) (v := (.bool true)) hHeld ?_ ?_
          ·intro w9 hSw
           try dsimp only at hSw
           go_simp
          try simp only [qpu]
          refine qtk (i := 5) (oi := fxg5o42) (v := (.bool true)) hHeld ?_ ?_
          ·intro w9 hSw
           try dsimp only at hSw
           go_simp
          try simp only [qpu]
          refine qtn (i := 6) (oi := fxg5o43) hHeld ?_
          try simp only [qpu]
          refine qtn (i := 7) (oi := fxg5o40) hHeld ?_
          try simp only [qpu]
          refine qtn (i := 8) (oi := fxg5o46) hHeld ?_
          try simp only [qpu]
          refine qtn (i := 9) (oi := fxg5o44) hHeld ?_
          try simp only [qpu]
          refine qtn (i := 10) (oi := fxg5o35) hHeld ?_
          try simp only [qpu]
          refine qtn (i := 11) (oi := fxg5o39) hHeld ?_
          try simp only [qpu]
          refine qtn (i := 12) (oi := fxg5o33) hHeld ?_
          try simp only [qpu]
          refine qtn (i := 13) (oi := fxg5o22) hHeld ?_
          try simp only [qpu]
          refine qtn (i := 14) (oi := fxg5o25) hHeld ?_
          try simp only [qpu]
          refine qtk (i := 15) (oi := fxg5o24) (v := (.bool true)) hHeld ?_ ?_
          ·intro w9 hSw
           try dsimp only at hSw
           go_simp
          try simp only [qpu]
          refine qtk (i := 16) (oi := fxg5o31) (v := (.bool true)) hHeld ?_ ?_
          ·intro w9 hSw
           try dsimp only at hSw
           go_simp
          try simp only [qpu]
          refine qtn (i := 17) (oi := fxg5o37) hHeld ?_
          try simp only [qpu]
          refine qtn (i := 18) (oi := fxg5o34) hHeld ?_
          try simp only [qpu]
          refine qtn (i := 19) (oi := fxg5o21) hHeld ?_
          try simp only [qpu]
          refine qtn (i := 20) (oi := fxg5o26) hHeld ?_
          try simp only [qpu]
          refine qtn (i := 21) (oi := fxg5o32) hHeld ?_
          try simp only [qpu]
          refine qtn (i := 22) (oi := fxg5o27) hHeld ?_
          try simp only [qpu]
          refine qtn (i := 23) (oi := fxg5o10) hHeld ?_
          try simp only [qpu]
          refine qtn (i := 24) (oi := fxg5o17) hHeld ?_
          try simp only [qpu]
          refine qtk (i := 25) (oi := fxg5o16) (v := (.bool true)) hHeld ?_ ?_
          ·intro w9 hSw
           try dsimp only at hSw
           go_simp
          try simp only [qpu]
          refine wpAnyH_done (by kernel_rfl) ?_ _
          refine NoPanic.normal ?_
          have Zf := Zx41.set cn0.v
          have bf := below_setRow bx41 gZ cn0.v
          go_wp2_with (refine wpList_store_row rfl _ _ _ rfl W2.heap.size cn0.v (by rfl) (by rfl) _ _ Zx41 (by kernel_rfl) (by rfl) (by kernel_rfl) ?_)
          obtain rfl : (cn0, (23 : Int)) = R := by rw [← HR.out]; first | rfl | simp [Cn.ret]
          exact ret_cell_tmp (k := 6) (j := 7) Try.f46 (by kernel_rfl) Zf Try.underlying31 (by kernel_rfl) (by rfl) (by rfl) rfl ⟨rfl, bf⟩

         | true =>
          refine qtk (i := 4) (oi := fxg5o45) (v := (.bool false)) hHeld ?_ ?_
          ·intro w9 hSw
           try dsimp only at hSw
           go_simp
          try simp only [qpu]
          refine qtk (i := 5) (oi := fxg5o42) (v := (.bool false)) hHeld ?_ ?_
          ·intro w9 hSw
           try dsimp only at hSw
           go_simp
          try simp only [qpu]
          refine qtk (i := 6) (oi := fxg5o43) (v := (.pointer (some ⟨W1.heap.size, 4, none⟩))) hHeld ?_ ?_
          ·intro w9 hSw
           try dsimp only at hSw
           go_simp
          try simp only [qpu]
          refine qtk (i := 7) (oi := fxg5o40) (v := (.int .u32 ak)) hHeld ?_ ?_
          ·intro w9 hSw
           try dsimp only at hSw
           have hcc := hSw.2.cell 4 (.int .u32 ak) rfl
           go_simp
          try simp only [qpu]
          refine qtk (i := 8) (oi := fxg5o46) (v := (.int .i64 1)) hHeld ?_ ?_
          ·intro w9 hSw
           try dsimp only at hSw
           go_simp
          try simp only [qpu]
          refine qtk (i := 9) (oi := fxg5o44) (v := (.pointer (some ⟨w.heap.size, 1, none⟩))) hHeld ?_ ?_
          ·intro w9 hSw
           try dsimp only at hSw
           go_simp
          try simp only [qpu]
          refine qtk (i := 10) (oi := fxg5o35) (v := (.pointer (some ⟨w.heap.size, 2, none⟩))) hHeld ?_ ?_
          ·intro w9 hSw
           try dsimp only at hSw
           go_simp
          try simp only [qpu]
          refine qtk (i := 11) (oi := fxg5o39) (v := (.int .u32 n1)) hHeld ?_ ?_
          ·intro w9 hSw
           try dsimp only at hSw
           have hcc := hSw.1.cell 2 (.int .u32 n1) rfl
           go_simp
          try simp only [qpu]
          refine qtk (i := 12) (oi := fxg5o33) (v := (.int .u32 ((n1 - 65535) % 4294967296))) hHeld ?_ ?_
          ·intro w9 hSw
           try dsimp only at hSw
           go_simp
           try rw [IntKind.wrap_u32]
          try simp only [qpu]
          refine wpAnyH_ready (rs := [13]) (by kernel_rfl) (by simp) ?_
          refine AllReadyH.cons (o := fxg5o22) rfl (fun K hK => ?_) AllReadyH.nil
          go_simp
          refine Calls.mono (KQ1.out _) ?_
          rintro e Wx42 ⟨rfl, bb⟩
          have Cx42 := Cx41.kept bb
          have Gx42 := Gx41.kept bb
          have Zx42 := Zx41.kept bb
          have bx42 := bel_tr bx41 bb
          clear bb
          refine hK.out _ _ (by exact ⟨Cx42, Gx42⟩) (fun hHeld => ?_)
          clear hK K
          try simp only [qpu]
          cases Q1 with
          | false =>
           refine qtk (i := 14) (oi := fxg5o25) (v := (.bool true)) hHeld ?_ ?_
           ·intro w9 hSw
            try dsimp only at hSw
            go_simp
           try simp only [qpu]
           refine qtk (i := 15) (oi := fxg5o24) (v := (.bool true)) hHeld ?_ ?_
           ·intro w9 hSw
            try dsimp only at hSw
            go_simp
           try simp only [qpu]
           refine qtk (i := 16) (oi := fxg5o31) (v := (.bool true)) hHeld ?_ ?_
           ·intro w9 hSw
            try dsimp only at hSw
            go_simp
           try simp only [qpu]
           refine qtn (i := 17) (oi := fxg5o37) hHeld ?_
           try simp only [qpu]
           refine qtn (i := 18) (oi := fxg5o34) hHeld ?_
           try simp only [qpu]
           refine qtn (i := 19) (oi := fxg5o21) hHeld ?_
           try simp only [qpu]
           refine qtn (i := 20) (oi := fxg5o26) hHeld ?_
           try simp only [qpu]
           refine qtn (i := 21) (oi := fxg5o32) hHeld ?_
           try simp only [qpu]
           refine qtn (i := 22) (oi := fxg5o27) hHeld ?_
           try simp only [qpu]
           refine qtn (i := 23) (oi := fxg5o10) hHeld ?_
           try simp only [qpu]
           refine qtn (i := 24) (oi := fxg5o17) hHeld ?_
           try simp only [qpu]
           refine qtk (i := 25) (oi := fxg5o16) (v := (.bool true)) hHeld ?_ ?_
           ·intro w9 hSw
            try dsimp only at hSw
            go_simp
           try simp only [qpu]
           refine wpAnyH_done (by kernel_rfl) ?_ _
           refine NoPanic.normal ?_
           have Zf := Zx42.set cn0.v
           have bf := below_setRow bx42 gZ cn0.v
           go_wp2_with (refine wpList_store_row rfl _ _ _ rfl W2.heap.size cn0.v (by rfl) (by rfl) _ _ Zx42 (by kernel_rfl) (by rfl) (by kernel_rfl) ?_)
           obtain rfl : (cn0, (23 : Int)) = R := by rw [← HR.out]; first | rfl | simp [Cn.ret]
           exact ret_cell_tmp (k := 6) (j := 7) Try.f46 (by kernel_rfl) Zf Try.underlying31 (by kernel_rfl) (by rfl) (by rfl) rfl ⟨rfl, bf⟩

          | true =>
           refine qtk (i := 14) (oi := fxg5o25) (v := (.bool false)) hHeld ?_ ?_
           ·intro w9 hSw
            try dsimp only at hSw
            go_simp
           try simp only [qpu]
           refine qtk (i := 15) (oi := fxg5o24) (v := (.bool false)) hHeld ?_ ?_
           ·intro w9 hSw
            try dsimp only at hSw
            go_simp
           try simp only [qpu]
           refine qtk (i := 16) (oi := fxg5o31) (v := (.bool false)) hHeld ?_ ?_
           ·intro w9 hSw
            try dsimp only at hSw
            go_simp
           try simp only [qpu]
           refine qtk (i := 17) (oi := fxg5o37) (v := (.int .i64 1)) hHeld ?_ ?_
           ·intro w9 hSw
            try dsimp only at hSw
            go_simp
           try simp only [qpu]
           refine qtk (i := 18) (oi := fxg5o34) (v := (.pointer (some ⟨w.heap.size, 1, none⟩))) hHeld ?_ ?_
           ·intro w9 hSw
            try dsimp only at hSw
            go_simp
           try simp only [qpu]
           refine qtk (i := 19) (oi := fxg5o21) (v := (.pointer (some ⟨w.heap.size, 2, none⟩))) hHeld ?_ ?_
           ·intro w9 hSw
            try dsimp only at hSw
            go_simp
           try simp only [qpu]
           refine qtk (i := 20) (oi := fxg5o26) (v := (.int .u32 n1)) hHeld ?_ ?_
           ·intro w9 hSw
            try dsimp only at hSw
            have hcc := hSw.1.cell 2 (.int .u32 n1) rfl
            go_simp
           try simp only [qpu]
           refine qtk (i := 21) (oi := fxg5o32) (v := (.pointer (some ⟨W1.heap.size, 4, none⟩))) hHeld ?_ ?_
           ·intro w9 hSw
            try dsimp only at hSw
            go_simp
           try simp only [qpu]
           refine qtk (i := 22) (oi := fxg5o27) (v := (.int .u32 ak)) hHeld ?_ ?_
           ·intro w9 hSw
            try dsimp only at hSw
            have hcc := hSw.2.cell 4 (.int .u32 ak) rfl
            go_simp
           try simp only [qpu]
           refine wpAnyH_ready (rs := [23]) (by kernel_rfl) (by simp) ?_
           refine AllReadyH.cons (o := fxg5o10) rfl (fun K hK => ?_) AllReadyH.nil
           go_simp
           refine Calls.mono (KQ2.out _) ?_
           rintro e Wx43 ⟨rfl, bb⟩
           have Cx43 := Cx42.kept bb
           have Gx43 := Gx42.kept bb
           have Zx43 := Zx42.kept bb
           have bx43 := bel_tr bx42 bb
           clear bb
           refine hK.out _ _ (by exact ⟨Cx43, Gx43⟩) (fun hHeld => ?_)
           clear hK K
           try simp only [qpu]
           cases Q2 with
           | false =>
            refine qtk (i := 24) (oi := fxg5o17) (v := (.bool true)) hHeld ?_ ?_
            ·intro w9 hSw
             try dsimp only at hSw
             go_simp
            try simp only [qpu]
            refine qtk (i := 25) (oi := fxg5o16) (v := (.bool true)) hHeld ?_ ?_
            ·intro w9 hSw
             try dsimp only at hSw
             go_simp
            try simp only [qpu]
            refine wpAnyH_done (by kernel_rfl) ?_ _
            refine NoPanic.normal ?_
            have Zf := Zx43.set cn0.v
            have bf := below_setRow bx43 gZ cn0.v
            go_wp2_with (refine wpList_store_row rfl _ _ _ rfl W2.heap.size cn0.v (by rfl) (by rfl) _ _ Zx43 (by kernel_rfl) (by rfl) (by kernel_rfl) ?_)
            obtain rfl : (cn0, (23 : Int)) = R := by rw [← HR.out]; first | rfl | simp [Cn.ret]
            exact ret_cell_tmp (k := 6) (j := 7) Try.f46 (by kernel_rfl) Zf Try.underlying31 (by kernel_rfl) (by rfl) (by rfl) rfl ⟨rfl, bf⟩

           | true =>
            refine qtk (i := 24) (oi := fxg5o17) (v := (.bool false)) hHeld ?_ ?_
            ·intro w9 hSw
             try dsimp only at hSw
             go_simp
            try simp only [qpu]
            refine qtk (i := 25) (oi := fxg5o16) (v := (.bool false)) hHeld ?_ ?_
            ·intro w9 hSw
             try dsimp only at hSw
             go_simp
            try simp only [qpu]
            refine wpAnyH_done (by kernel_rfl) ?_ _
            refine NoPanic.normal ?_
            exact (HN.out (by simp)).elim




        | true =>
         have Zf := Z6.set cn0.v
         have bf := below_setRow b6 gZ cn0.v
         go_wp2_with (refine wpList_store_row rfl _ _ _ rfl W2.heap.size cn0.v (by rfl) (by rfl) _ _ Z6 (by kernel_rfl) (by rfl) (by kernel_rfl) ?_)
         obtain rfl : (cn0, (23 : Int)) = R := by rw [← HR.out]; first | rfl | simp [Cn.ret]
         exact ret_cell_tmp (k := 6) (j := 7) Try.f46 (by kernel_rfl) Zf Try.underlying31 (by kernel_rfl) (by rfl) (by rfl) rfl ⟨rfl, bf⟩



      | true =>
       go_wp2_with (first | (refine wpList_load_blk_w (by rfl) _ _ rfl w.heap.size (by rfl) _ C6 Try.underlying31 (by kernel_rfl) ?_) | (refine wpList_load_blk_w (by rfl) _ _ rfl W1.heap.size (by rfl) _ G6 Try.underlying96 (by kernel_rfl) ?_))
       clear c0 c1 g0 g1 g2 g4
       refine Calls.mono (KS.out _) ?_
       rintro e W6y ⟨rfl, bb⟩
       have C6y := C6.kept bb
       have G6y := G6.kept bb
       have Z6y := Z6.kept bb
       have b6y := bel_tr b6 bb
       clear bb
       clear C6 G6 Z6 b6
       have Zf := Z6y.set XS.1.v
       have bf := below_setRow b6y gZ XS.1.v
       go_wp2_with (first | (refine wpList_load_blk_w (by rfl) _ _ rfl w.heap.size (by rfl) _ C6y Try.underlying31 (by kernel_rfl) ?_) | (refine wpList_load_blk_w (by rfl) _ _ rfl W1.heap.size (by rfl) _ G6y Try.underlying96 (by kernel_rfl) ?_) | (refine wpList_store_row rfl _ _ _ rfl W2.heap.size XS.1.v (by rfl) (by rfl) _ _ Z6y (by kernel_rfl) (by rfl) (by kernel_rfl) ?_))
       obtain rfl : XS = R := by rw [← HR.out]; first | rfl | simp [Cn.ret]
       exact ret_cell_tmp (k := 6) (j := 7) Try.f46 (by kernel_rfl) Zf Try.underlying31 (by kernel_rfl) (by rfl) (by rfl) rfl ⟨rfl, bf⟩


     | true =>
      have Zf := Z6.set cn0.v
      have bf := below_setRow b6 gZ cn0.v
      go_wp2_with (refine wpList_store_row rfl _ _ _ rfl W2.heap.size cn0.v (by rfl) (by rfl) _ _ Z6 (by kernel_rfl) (by rfl) (by kernel_rfl) ?_)
      obtain rfl : (cn0, (23 : Int)) = R := by rw [← HR.out]; first | rfl | simp [Cn.ret]
      exact ret_cell_tmp (k := 6) (j := 7) Try.f46 (by kernel_rfl) Zf Try.underlying31 (by kernel_rfl) (by rfl) (by rfl) rfl ⟨rfl, bf⟩


    | true =>
     go_wp2_with (first | (refine wpList_load_blk_w (by rfl) _ _ rfl w.heap.size (by rfl) _ C6 Try.underlying31 (by kernel_rfl) ?_) | (refine wpList_load_blk_w (by rfl) _ _ rfl W1.heap.size (by rfl) _ G6 Try.underlying96 (by kernel_rfl) ?_))
     clear c0 c1 g0 g1 g2 g4
     refine Calls.mono (KW.out _) ?_
     rintro e W6a ⟨rfl, bb⟩
     have C6a := C6.kept bb
     have G6a := G6.kept bb
     have Z6a := Z6.kept bb
     have b6a := bel_tr b6 bb
     clear bb
     clear C6 G6 Z6 b6
     have c0 := C6a.cell 0 (.int .i64 st) rfl
     have c1 := C6a.cell 1 (.int .u32 n0) rfl
     have g0 := G6a.cell 0 (.int .i64 fl) rfl
     have g1 := G6a.cell 1 (.int .i64 win) rfl
     have g2 := G6a.cell 2 (.int .i64 sz) rfl
     have g4 := G6a.cell 4 (.int .u32 ak) rfl
     cases V with
     | false =>
      have Zf := Z6a.set cn0.v
      have bf := below_setRow b6a gZ cn0.v
      go_wp2_with (refine wpList_store_row rfl _ _ _ rfl W2.heap.size cn0.v (by rfl) (by rfl) _ _ Z6a (by kernel_rfl) (by rfl) (by kernel_rfl) ?_)
      obtain rfl : (cn0, (23 : Int)) = R := by rw [← HR.out]; first | rfl | simp [Cn.ret]
      exact ret_cell_tmp (k := 6) (j := 7) Try.f46 (by kernel_rfl) Zf Try.underlying31 (by kernel_rfl) (by rfl) (by rfl) rfl ⟨rfl, bf⟩

     | true =>
      have y0 := C6a.cell 0 (.int .i64 st) rfl
      have z0 := C6a.frozen 0
      obtain ⟨W6ar, hW6ar⟩ : ∃ W, W6a.setCell ⟨w.heap.size, 0, none⟩ (.int .i64 6) = W := ⟨_, rfl⟩
      have C6ar : Blk W6ar w.heap.size 31 (Cn.v ⟨6, n0, n1, e0, e1, k0, k1, d0, d1⟩) := hW6ar ▸ C6a.put 0 (.int .i64 6)
      have G6ar := hW6ar ▸ G6a.put_other C6a nGC 0 (.int .i64 6)
      have Z6ar := hW6ar ▸ Z6a.put_other C6a nZC 0 (.int .i64 6)
      have b6ar := hW6ar ▸ b6a.setCell (p := ⟨w.heap.size, 0, none⟩) (Nat.le_refl _) (.int .i64 6)
      have Zf := Z6ar.set (Cn.v ⟨6, n0, n1, e0, e1, k0, k1, d0, d1⟩)
      have bf := below_setRow b6ar gZ (Cn.v ⟨6, n0, n1, e0, e1, k0, k1, d0, d1⟩)
      go_wp2_with (first | (refine wpList_load_blk_w (by rfl) _ _ rfl w.heap.size (by rfl) _ C6ar Try.underlying31 (by kernel_rfl) ?_) | (refine wpList_load_blk_w (by rfl) _ _ rfl W1.heap.size (by rfl) _ G6ar Try.underlying96 (by kernel_rfl) ?_) | (refine wpList_store_row rfl _ _ _ rfl W2.heap.size (Cn.v ⟨6, n0, n1, e0, e1, k0, k1, d0, d1⟩) (by rfl) (by rfl) _ _ Z6ar (by kernel_rfl) (by rfl) (by kernel_rfl) ?_))
      obtain rfl : ((⟨6, n0, n1, e0, e1, k0, k1, d0, d1⟩ : Cn), (0 : Int)) = R := by rw [← HR.out]; first | rfl | simp [Cn.ret]
      exact ret_cell_tmp (k := 6) (j := 7) Try.f46 (by kernel_rfl) Zf Try.underlying31 (by kernel_rfl) (by rfl) (by rfl) rfl ⟨rfl, bf⟩
end Go.Proofs.Ytfiembbmgdmagaa
