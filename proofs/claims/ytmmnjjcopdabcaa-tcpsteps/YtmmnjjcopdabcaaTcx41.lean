/- Texts joined: TcMB -/
import Derived.Test.YtmmnjjcopdabcaaTcx27
import Derived.Test.YtmmnjjcopdabcaaTcx28
namespace Go.Proofs.Ytmmnjjcopdabcaa
open Go.RowKit
set_option linter.unusedVariables false
set_option linter.unusedSimpArgs false
set_option maxRecDepth 100000 in
set_option maxHeartbeats 4000000 in
theorem rstepB_tc (c : Cn) (i : Int) (g : Gt) (w : World) (n0 : i ≠ 0) (n1 : i ≠ 1) :
  Calls Try.prog 19 #[.agg c.v, .int .i64 i, .agg g.v] w fun e w' => e = .returned (.tuple #[.agg (c.step i g).1.v, .int .i64 (c.step i g).2]) ∧ Below w.heap.size w w' := by
 obtain ⟨R, hR⟩ : ∃ R, c.step i g = R := ⟨_, rfl⟩
 have e0 : (i == 0) = false := by simpa using n0
 have e1 : (i == 1) = false := by simpa using n1
 rw [hR]
 obtain rfl : (cn0, 1) = R := by rw [← hR, Cn.step, e0, e1]; simp
 clear hR
 have hS : i < 0 ∨ 1 < i := by omega
 clear n0 n1 e0 e1
 have KR : Hid (∀ W, Calls Try.prog 14 #[.agg c.v] W fun e w' => e = .returned (.bool c.right) ∧ Below W.heap.size W w') := fun W => rright_tc c W
 generalize c.right = V at *
 obtain ⟨W1, hW1⟩ : ∃ W, w.alloc (.cells (c.v) 28) = W := ⟨_, rfl⟩
 have b1 := bel_nw hW1
 have C1 := blk_nw hW1
 have g1 := C1.lt
 obtain ⟨W2, hW2⟩ : ∃ W, W1.alloc (.cells g.v 24) = W := ⟨_, rfl⟩
 have b2 := bel_al b1 hW2
 have C2 := C1.al hW2
 have G2 := blk_nw hW2
 have g2 := G2.lt
 obtain ⟨W3, hW3⟩ : ∃ W, W2.alloc (.cells #[.int .i64 0, .int .u32 0, .int .u32 0, .int .u32 0, .int .u32 0, .bool false, .bool false, .bool false, .bool false] 28) = W := ⟨_, rfl⟩
 have b3 := bel_al b2 hW3
 have C3 := C2.al hW3
 have G3 := G2.al hW3
 have Z3 := blk_nw hW3
 have nCG : w.heap.size ≠ W1.heap.size := by omega
 have nGC : W1.heap.size ≠ w.heap.size := by omega
 have nCZ : w.heap.size ≠ W2.heap.size := by omega
 have nGZ : W1.heap.size ≠ W2.heap.size := by omega
 have nZC : W2.heap.size ≠ w.heap.size := by omega
 have gZ : w.heap.size ≤ W2.heap.size := by omega
 have gG : w.heap.size ≤ W1.heap.size := by omega
 clear b1 b2 C1 C2 G2 g1 g2
 go_enter Try.func19, Try.ntmps19
 go_wp2_with (first | (refine wpList_load_blk_w (by rfl) _ _ rfl w.heap.size (by rfl) _ C3 Try.underlying28 (by kernel_rfl) ?_) | (refine wpList_load_blk_w (by rfl) _ _ rfl W1.heap.size (by rfl) _ G3 Try.underlying24 (by kernel_rfl) ?_))
 refine Calls.mono (KR.out _) ?_
 rintro e W4 ⟨rfl, bb⟩
 have C4 := C3.kept bb
 have G4 := G3.kept bb
 have Z4 := Z3.kept bb
 have b4 := bel_tr b3 bb
 clear bb
 clear C3 G3 Z3 b3
 cases V with
 | false =>
  have Zf := Z4.set cn0.v
  have bf := below_setRow b4 gZ cn0.v
  go_wp2_with (refine wpList_store_row rfl _ _ _ rfl W2.heap.size cn0.v (by rfl) (by rfl) _ _ Z4 (by kernel_rfl) (by rfl) (by kernel_rfl) ?_)
  exact ret_cell_tmp (k := 6) (j := 7) Try.f19 (by kernel_rfl) Zf Try.underlying28 (by kernel_rfl) (by rfl) (by rfl) rfl ⟨rfl, bf⟩

 | true =>
  rcases hS with hS | hS
  ·have Zf := Z4.set cn0.v
   have bf := below_setRow b4 gZ cn0.v
   go_wp2_with (refine wpList_store_row rfl _ _ _ rfl W2.heap.size cn0.v (by rfl) (by rfl) _ _ Z4 (by kernel_rfl) (by rfl) (by kernel_rfl) ?_)
   exact ret_cell_tmp (k := 6) (j := 7) Try.f19 (by kernel_rfl) Zf Try.underlying28 (by kernel_rfl) (by rfl) (by rfl) rfl ⟨rfl, bf⟩
  ·have hS2 : ¬ i < 0 := by omega
   have Zf := Z4.set cn0.v
   have bf := below_setRow b4 gZ cn0.v
   go_wp2_with (refine wpList_store_row rfl _ _ _ rfl W2.heap.size cn0.v (by rfl) (by rfl) _ _ Z4 (by kernel_rfl) (by rfl) (by kernel_rfl) ?_)
   exact ret_cell_tmp (k := 6) (j := 7) Try.f19 (by kernel_rfl) Zf Try.underlying28 (by kernel_rfl) (by rfl) (by rfl) rfl ⟨rfl, bf⟩
end Go.Proofs.Ytmmnjjcopdabcaa
