/- Texts joined: TcG0 -/
import Derived.Test.YtmjjdbkipagkbaaFyp13
import Derived.Test.YtmjjdbkipagkbaaFyp14
import Derived.Test.YtmjjdbkipagkbaaFyp15
namespace Go.Proofs.Ytmjjdbkipagkbaa
open Go.RowKit
set_option linter.unusedVariables false
set_option linter.unusedSimpArgs false
set_option maxRecDepth 100000 in
set_option maxHeartbeats 4000000 in
theorem take0_tc (c : Cn) (g : Gt) (w : World) :
    Calls Try.prog 83 #[.agg c.v, .int .i64 0, .agg g.v] w fun e w' => e = .returned (.tuple #[.agg ((c.take false g).getD c).v, .bool (c.take false g).isSome]) ∧ Below w.heap.size w w' := by
  obtain ⟨R, hR⟩ : ∃ R, c.take false g = R := ⟨_, rfl⟩
  have HR : Hid ((if flB g.fl 4 then c.rst false g else if c.st == 6 then none else if flB g.fl 2 then c.syn false g else if !flB g.fl 16 || (c.st == 1 || (false && c.st == 2)) then none else c.byt false g) = R) := hR
  rw [hR]
  clear hR
  have K4 : Hid (∀ W, Calls Try.prog 97 #[.agg g.v, .int .i64 4] W fun e w' => e = .returned (.bool (flB g.fl 4)) ∧ Below W.heap.size W w') := fun W => has_tc g 4 W
  have K2 : Hid (∀ W, Calls Try.prog 97 #[.agg g.v, .int .i64 2] W fun e w' => e = .returned (.bool (flB g.fl 2)) ∧ Below W.heap.size W w') := fun W => has_tc g 2 W
  have K16 : Hid (∀ W, Calls Try.prog 97 #[.agg g.v, .int .i64 16] W fun e w' => e = .returned (.bool (flB g.fl 16)) ∧ Below W.heap.size W w') := fun W => has_tc g 16 W
  have KR : Hid (∀ W, Calls Try.prog 98 #[.agg c.v, .int .i64 0, .agg g.v] W fun e w' => e = .returned (.tuple #[.agg ((c.rst false g).getD c).v, .bool (c.rst false g).isSome]) ∧ Below W.heap.size W w') := fun W => reset0_tc c g W
  have KS : Hid (∀ W, Calls Try.prog 99 #[.agg c.v, .int .i64 0, .agg g.v] W fun e w' => e = .returned (.tuple #[.agg ((c.syn false g).getD c).v, .bool (c.syn false g).isSome]) ∧ Below W.heap.size W w') := fun W => syn0_tc c g W
  have KB : Hid (∀ W, Calls Try.prog 100 #[.agg c.v, .int .i64 0, .agg g.v] W fun e w' => e = .returned (.tuple #[.agg ((c.byt false g).getD c).v, .bool (c.byt false g).isSome]) ∧ Below W.heap.size W w') := fun W => byt0_tc c g W
  generalize hXR : c.rst false g = XR at *
  clear hXR
  generalize hXS : c.syn false g = XS at *
  clear hXS
  generalize hXB : c.byt false g = XB at *
  clear hXB
  generalize hA4 : flB g.fl 4 = A4 at *
  clear hA4
  generalize hA2 : flB g.fl 2 = A2 at *
  clear hA2
  generalize hA16 : flB g.fl 16 = A16 at *
  clear hA16
  generalize h6 : (c.st == 6) = X6 at *
  generalize h1 : (c.st == 1) = X1 at *
  obtain ⟨W1, hW1⟩ : ∃ W, w.alloc (.cells (c.v) 31) = W := ⟨_, rfl⟩
  have b1 := bel_nw hW1
  have C1 := blk_nw hW1
  have g1 := C1.lt
  obtain ⟨W2, hW2⟩ : ∃ W, W1.alloc (.cells g.v 110) = W := ⟨_, rfl⟩
  have b2 := bel_al b1 hW2
  have C2 := C1.al hW2
  have G2 := blk_nw hW2
  have g2 := G2.lt
  obtain ⟨W3, hW3⟩ : ∃ W, W2.alloc (.cells #[.int .i64 0, .int .u32 0, .int .u32 0, .int .u32 0, .int .u32 0, .bool false, .bool false, .bool false, .bool false] 31) = W := ⟨_, rfl⟩
  have b3 := bel_al b2 hW3
  have C3 := C2.al hW3
  have G3 := G2.al hW3
  have Z3 := blk_nw hW3
  have nCG : w.heap.size ≠ W1.heap.size := by omega
  have nGC : W1.heap.size ≠ w.heap.size := by omega
  have nCZ : w.heap.size ≠ W2.heap.size := by omega
  have nGZ : W1.heap.size ≠ W2.heap.size := by omega
  have nZC : W2.heap.size ≠ w.heap.size := by omega
  have gZ : w.heap.size ≤ W2.heap.size := by omega
  have gG : w.heap.size ≤ W1.heap.size := by omega
  clear b1 b2 C1 C2 G2 g1 g2
  go_enter Try.func83, Try.ntmps83
  go_wp2_with (first | (refine wpList_load_blk_w (by rfl) _ _ rfl w.heap.size (by rfl) _ C3 Try.underlying31 (by kernel_rfl) ?_) | (refine wpList_load_blk_w (by rfl) _ _ rfl W1.heap.size (by rfl) _ G3 Try.underlying110 (by kernel_rfl) ?_))
  refine Calls.mono (K4.out _) ?_
  rintro e W4 ⟨rfl, bb⟩
  have C4 := C3.kept bb
  have G4 := G3.kept bb
  have Z4 := Z3.kept bb
  have b4 := bel_tr b3 bb
  clear bb
  clear C3 G3 Z3 b3
  cases A4 with
  | false =>
    have c0 := C4.cell 0 (.int .i64 c.st) rfl
    cases X6 with
    | false =>
      go_wp2_with (first | (refine wpList_load_blk_w (by rfl) _ _ rfl w.heap.size (by rfl) _ C4 Try.underlying31 (by kernel_rfl) ?_) | (refine wpList_load_blk_w (by rfl) _ _ rfl W1.heap.size (by rfl) _ G4 Try.underlying110 (by kernel_rfl) ?_))
      clear c0
      refine Calls.mono (K2.out _) ?_
      rintro e W4b ⟨rfl, bb⟩
      have C4b := C4.kept bb
      have G4b := G4.kept bb
      have Z4b := Z4.kept bb
      have b4b := bel_tr b4 bb
      clear bb
      clear C4 G4 Z4 b4
      have c0 := C4b.cell 0 (.int .i64 c.st) rfl
      cases A2 with
      | false =>
        go_wp2_with (first | (refine wpList_load_blk_w (by rfl) _ _ rfl w.heap.size (by rfl) _ C4b Try.underlying31 (by kernel_rfl) ?_) | (refine wpList_load_blk_w (by rfl) _ _ rfl W1.heap.size (by rfl) _ G4b Try.underlying110 (by kernel_rfl) ?_))
        clear c0
        refine Calls.mono (K16.out _) ?_
        rintro e W4bc ⟨rfl, bb⟩
        have C4bc := C4b.kept bb
        have G4bc := G4b.kept bb
        have Z4bc := Z4b.kept bb
        have b4bc := bel_tr b4b bb
        clear bb
        clear C4b G4b Z4b b4b
        have c0 := C4bc.cell 0 (.int .i64 c.st) rfl
        cases A16 with
        | false =>
          have Zf := Z4bc.set c.v
          have bf := below_setRow b4bc gZ c.v
          go_wp2_with (first | (refine wpList_load_blk_w (by rfl) _ _ rfl w.heap.size (by rfl) _ C4bc Try.underlying31 (by kernel_rfl) ?_) | (refine wpList_load_blk_w (by rfl) _ _ rfl W1.heap.size (by rfl) _ G4bc Try.underlying110 (by kernel_rfl) ?_) | (refine wpList_store_row rfl _ _ _ rfl W2.heap.size c.v (by rfl) (by rfl) _ _ Z4bc (by kernel_rfl) (by rfl) (by kernel_rfl) ?_))
          obtain rfl : R = none := by rw [← HR.out]; first | rfl | simp
          exact ret_cell_tmp (k := 6) (j := 7) Try.f83 (by kernel_rfl) Zf Try.underlying31 (by kernel_rfl) (by rfl) (by rfl) rfl ⟨rfl, bf⟩

        | true =>
          cases X1 with
          | false =>
            go_wp2_with (first | (refine wpList_load_blk_w (by rfl) _ _ rfl w.heap.size (by rfl) _ C4bc Try.underlying31 (by kernel_rfl) ?_) | (refine wpList_load_blk_w (by rfl) _ _ rfl W1.heap.size (by rfl) _ G4bc Try.underlying110 (by kernel_rfl) ?_))
            refine Calls.mono (KB.out _) ?_
            rintro e W4bcs ⟨rfl, bb⟩
            have C4bcs := C4bc.kept bb
            have G4bcs := G4bc.kept bb
            have Z4bcs := Z4bc.kept bb
            have b4bcs := bel_tr b4bc bb
            clear bb
            clear C4bc G4bc Z4bc b4bc
            have Zf := Z4bcs.set ((XB.getD c).v)
            have bf := below_setRow b4bcs gZ ((XB.getD c).v)
            go_wp2_with (first | (refine wpList_load_blk_w (by rfl) _ _ rfl w.heap.size (by rfl) _ C4bcs Try.underlying31 (by kernel_rfl) ?_) | (refine wpList_load_blk_w (by rfl) _ _ rfl W1.heap.size (by rfl) _ G4bcs Try.underlying110 (by kernel_rfl) ?_) | (refine wpList_store_row rfl _ _ _ rfl W2.heap.size ((XB.getD c).v) (by rfl) (by rfl) _ _ Z4bcs (by kernel_rfl) (by rfl) (by kernel_rfl) ?_))
            obtain rfl : R = XB := by rw [← HR.out]; first | rfl | simp
            exact ret_cell_tmp (k := 6) (j := 7) Try.f83 (by kernel_rfl) Zf Try.underlying31 (by kernel_rfl) (by rfl) (by rfl) rfl ⟨rfl, bf⟩

          | true =>
            have Zf := Z4bc.set c.v
            have bf := below_setRow b4bc gZ c.v
            go_wp2_with (first | (refine wpList_load_blk_w (by rfl) _ _ rfl w.heap.size (by rfl) _ C4bc Try.underlying31 (by kernel_rfl) ?_) | (refine wpList_load_blk_w (by rfl) _ _ rfl W1.heap.size (by rfl) _ G4bc Try.underlying110 (by kernel_rfl) ?_) | (refine wpList_store_row rfl _ _ _ rfl W2.heap.size c.v (by rfl) (by rfl) _ _ Z4bc (by kernel_rfl) (by rfl) (by kernel_rfl) ?_))
            obtain rfl : R = none := by rw [← HR.out]; first | rfl | simp
            exact ret_cell_tmp (k := 6) (j := 7) Try.f83 (by kernel_rfl) Zf Try.underlying31 (by kernel_rfl) (by rfl) (by rfl) rfl ⟨rfl, bf⟩



      | true =>
        go_wp2_with (first | (refine wpList_load_blk_w (by rfl) _ _ rfl w.heap.size (by rfl) _ C4b Try.underlying31 (by kernel_rfl) ?_) | (refine wpList_load_blk_w (by rfl) _ _ rfl W1.heap.size (by rfl) _ G4b Try.underlying110 (by kernel_rfl) ?_))
        refine Calls.mono (KS.out _) ?_
        rintro e W4bs ⟨rfl, bb⟩
        have C4bs := C4b.kept bb
        have G4bs := G4b.kept bb
        have Z4bs := Z4b.kept bb
        have b4bs := bel_tr b4b bb
        clear bb
        clear C4b G4b Z4b b4b
        have Zf := Z4bs.set ((XS.getD c).v)
        have bf := below_setRow b4bs gZ ((XS.getD c).v)
        go_wp2_with (first | (refine wpList_load_blk_w (by rfl) _ _ rfl w.heap.size (by rfl) _ C4bs Try.underlying31 (by kernel_rfl) ?_) | (refine wpList_load_blk_w (by rfl) _ _ rfl W1.heap.size (by rfl) _ G4bs Try.underlying110 (by kernel_rfl) ?_) | (refine wpList_store_row rfl _ _ _ rfl W2.heap.size ((XS.getD c).v) (by rfl) (by rfl) _ _ Z4bs (by kernel_rfl) (by rfl) (by kernel_rfl) ?_))
        obtain rfl : R = XS := by rw [← HR.out]; first | rfl | simp
        exact ret_cell_tmp (k := 6) (j := 7) Try.f83 (by kernel_rfl) Zf Try.underlying31 (by kernel_rfl) (by rfl) (by rfl) rfl ⟨rfl, bf⟩


    | true =>
      have Zf := Z4.set c.v
      have bf := below_setRow b4 gZ c.v
      go_wp2_with (first | (refine wpList_load_blk_w (by rfl) _ _ rfl w.heap.size (by rfl) _ C4 Try.underlying31 (by kernel_rfl) ?_) | (refine wpList_load_blk_w (by rfl) _ _ rfl W1.heap.size (by rfl) _ G4 Try.underlying110 (by kernel_rfl) ?_) | (refine wpList_store_row rfl _ _ _ rfl W2.heap.size c.v (by rfl) (by rfl) _ _ Z4 (by kernel_rfl) (by rfl) (by kernel_rfl) ?_))
      obtain rfl : R = none := by rw [← HR.out]; first | rfl | simp
      exact ret_cell_tmp (k := 6) (j := 7) Try.f83 (by kernel_rfl) Zf Try.underlying31 (by kernel_rfl) (by rfl) (by rfl) rfl ⟨rfl, bf⟩


  | true =>
    go_wp2_with (first | (refine wpList_load_blk_w (by rfl) _ _ rfl w.heap.size (by rfl) _ C4 Try.underlying31 (by kernel_rfl) ?_) | (refine wpList_load_blk_w (by rfl) _ _ rfl W1.heap.size (by rfl) _ G4 Try.underlying110 (by kernel_rfl) ?_))
    refine Calls.mono (KR.out _) ?_
    rintro e W4s ⟨rfl, bb⟩
    have C4s := C4.kept bb
    have G4s := G4.kept bb
    have Z4s := Z4.kept bb
    have b4s := bel_tr b4 bb
    clear bb
    clear C4 G4 Z4 b4
    have Zf := Z4s.set ((XR.getD c).v)
    have bf := below_setRow b4s gZ ((XR.getD c).v)
    go_wp2_with (first | (refine wpList_load_blk_w (by rfl) _ _ rfl w.heap.size (by rfl) _ C4s Try.underlying31 (by kernel_rfl) ?_) | (refine wpList_load_blk_w (by rfl) _ _ rfl W1.heap.size (by rfl) _ G4s Try.underlying110 (by kernel_rfl) ?_) | (refine wpList_store_row rfl _ _ _ rfl W2.heap.size ((XR.getD c).v) (by rfl) (by rfl) _ _ Z4s (by kernel_rfl) (by rfl) (by kernel_rfl) ?_))
    obtain rfl : R = XR := by rw [← HR.out]; first | rfl | simp
    exact ret_cell_tmp (k := 6) (j := 7) Try.f83 (by kernel_rfl) Zf Try.underlying31 (by kernel_rfl) (by rfl) (by rfl) rfl ⟨rfl, bf⟩
end Go.Proofs.Ytmjjdbkipagkbaa
