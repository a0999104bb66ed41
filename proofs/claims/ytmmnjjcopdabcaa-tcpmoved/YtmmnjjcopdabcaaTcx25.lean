/- Texts joined: TcJ -/
import Derived.Test.YtmmnjjcopdabcaaTcx16
namespace Go.Proofs.Ytmmnjjcopdabcaa
open Go.RowKit
set_option linter.unusedVariables false
set_option linter.unusedSimpArgs false
set_option maxRecDepth 100000 in
set_option maxHeartbeats 4000000 in
theorem begin_tc (f sq win sz : Int) (w : World) :
  Calls Try.prog 10 #[.int .i64 f, .int .u32 sq, .int .i64 win, .int .i64 sz] w fun e w' => e = .returned (.tuple #[.agg (beg f sq win sz).1.v, .int .i64 (beg f sq win sz).2]) ∧ Below w.heap.size w w' := by
 obtain ⟨R, hR⟩ : ∃ R, beg f sq win sz = R := ⟨_, rfl⟩
 have HR : Hid ((if inB15 win && inB15 sz then (if bits .and .i64 f 23 == 2 && sz == 0 then (⟨1, (sq + 1) % 4294967296, 0, (sq + 1) % 4294967296, win % 4294967296, true, false, false, false⟩, 0) else (cn0, 23)) else (cn0, 1)) = R) := hR
 rw [hR]
 clear hR
 have KW : Hid (∀ W, Calls Try.prog 21 #[.int .i64 win] W fun e w' => e = .returned (.bool (inB15 win)) ∧ Below W.heap.size W w') := fun W => size_tc win W
 have KZ : Hid (∀ W, Calls Try.prog 21 #[.int .i64 sz] W fun e w' => e = .returned (.bool (inB15 sz)) ∧ Below W.heap.size W w') := fun W => size_tc sz W
 generalize inB15 win = P at *
 generalize inB15 sz = Q at *
 have e2 : (bits .and .i64 f 23 != 2) = !(bits .and .i64 f 23 == 2) := rfl
 have e3 : (sz != 0) = !(sz == 0) := rfl
 generalize (bits .and .i64 f 23 == 2) = F at *
 generalize (sz == 0) = N at *
 obtain ⟨W1, hW1⟩ : ∃ W, w.alloc (.cells #[.int .i64 0, .int .u32 0, .int .u32 0, .int .u32 0, .int .u32 0, .bool false, .bool false, .bool false, .bool false] 28) = W := ⟨_, rfl⟩
 have b1 := bel_nw hW1
 have Z1 := blk_nw hW1
 have gZ : w.heap.size ≤ w.heap.size := Nat.le_refl _
 go_enter Try.func10, Try.ntmps10
 go_wp2_with fail
 refine Calls.mono (KW.out _) ?_
 rintro e W2 ⟨rfl, bb⟩
 have Z2 := Z1.kept bb
 have b2 := bel_tr b1 bb
 clear bb
 clear Z1 b1
 cases P with
 | false =>
  have Zf := Z2.set cn0.v
  have bf := below_setRow b2 gZ cn0.v
  go_wp2_with (refine wpList_store_row rfl _ _ _ rfl w.heap.size cn0.v (by rfl) (by rfl) _ _ Z2 (by kernel_rfl) (by rfl) (by kernel_rfl) ?_)
  obtain rfl : (cn0, (1 : Int)) = R := by rw [← HR.out]; first | rfl | simp
  exact ret_cell_tmp (k := 8) (j := 9) Try.f10 (by kernel_rfl) Zf Try.underlying28 (by kernel_rfl) (by rfl) (by rfl) rfl ⟨rfl, bf⟩

 | true =>
  go_wp2_with fail
  refine Calls.mono (KZ.out _) ?_
  rintro e W3 ⟨rfl, bb⟩
  have Z3 := Z2.kept bb
  have b3 := bel_tr b2 bb
  clear bb
  clear Z2 b2
  cases Q with
  | false =>
   have Zf := Z3.set cn0.v
   have bf := below_setRow b3 gZ cn0.v
   go_wp2_with (refine wpList_store_row rfl _ _ _ rfl w.heap.size cn0.v (by rfl) (by rfl) _ _ Z3 (by kernel_rfl) (by rfl) (by kernel_rfl) ?_)
   obtain rfl : (cn0, (1 : Int)) = R := by rw [← HR.out]; first | rfl | simp
   exact ret_cell_tmp (k := 8) (j := 9) Try.f10 (by kernel_rfl) Zf Try.underlying28 (by kernel_rfl) (by rfl) (by rfl) rfl ⟨rfl, bf⟩

  | true =>
   cases F with
   | false =>
    try dsimp only [Bool.not_true, Bool.not_false] at e2 e3
    have Zf := Z3.set cn0.v
    have bf := below_setRow b3 gZ cn0.v
    go_wp2_with (refine wpList_store_row rfl _ _ _ rfl w.heap.size cn0.v (by rfl) (by rfl) _ _ Z3 (by kernel_rfl) (by rfl) (by kernel_rfl) ?_)
    obtain rfl : (cn0, (23 : Int)) = R := by rw [← HR.out]; first | rfl | simp
    exact ret_cell_tmp (k := 8) (j := 9) Try.f10 (by kernel_rfl) Zf Try.underlying28 (by kernel_rfl) (by rfl) (by rfl) rfl ⟨rfl, bf⟩

   | true =>
    cases N with
    | false =>
     try dsimp only [Bool.not_true, Bool.not_false] at e2 e3
     have Zf := Z3.set cn0.v
     have bf := below_setRow b3 gZ cn0.v
     go_wp2_with (refine wpList_store_row rfl _ _ _ rfl w.heap.size cn0.v (by rfl) (by rfl) _ _ Z3 (by kernel_rfl) (by rfl) (by kernel_rfl) ?_)
     obtain rfl : (cn0, (23 : Int)) = R := by rw [← HR.out]; first | rfl | simp
     exact ret_cell_tmp (k := 8) (j := 9) Try.f10 (by kernel_rfl) Zf Try.underlying28 (by kernel_rfl) (by rfl) (by rfl) rfl ⟨rfl, bf⟩

    | true =>
     try dsimp only [Bool.not_true, Bool.not_false] at e2 e3
     have Zf := Z3.set (Cn.v ⟨1, (sq + 1) % 4294967296, 0, (sq + 1) % 4294967296, win % 4294967296, true, false, false, false⟩)
     have bf := below_setRow b3 gZ (Cn.v ⟨1, (sq + 1) % 4294967296, 0, (sq + 1) % 4294967296, win % 4294967296, true, false, false, false⟩)
     go_wp2_with (refine wpList_store_row rfl _ _ _ rfl w.heap.size (Cn.v ⟨1, (sq + 1) % 4294967296, 0, (sq + 1) % 4294967296, win % 4294967296, true, false, false, false⟩) (by rfl) (by rfl) _ _ Z3 (by kernel_rfl) (by rfl) (by kernel_rfl) ?_)
     obtain rfl : ((⟨1, (sq + 1) % 4294967296, 0, (sq + 1) % 4294967296, win % 4294967296, true, false, false, false⟩ : Cn), (0 : Int)) = R := by rw [← HR.out]; first | rfl | simp
     exact ret_cell_tmp (k := 8) (j := 9) Try.f10 (by kernel_rfl) Zf Try.underlying28 (by kernel_rfl) (by rfl) (by rfl) rfl ⟨rfl, bf⟩
end Go.Proofs.Ytmmnjjcopdabcaa
