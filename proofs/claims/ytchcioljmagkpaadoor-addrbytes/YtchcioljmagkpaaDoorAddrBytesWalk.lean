/- The law AddrBytes returns true. -/
import Derived.Test.YtchcioljmagkpaaDoorRHasB
import Derived.Test.YtchcioljmagkpaaDoorOrd2
import Derived.Test.YtchcioljmagkpaaDoorAlv
import Derived.Test.YtchcioljmagkpaaDoorBlkY
import Derived.Test.YtchcioljmagkpaaDoorAnys
import Derived.Deep.DeepCutAuto
namespace Go.Proofs.YtchcioljmagkpaaDoor
open Go.RowKit
set_option linter.unusedVariables false
set_option linter.unusedSimpArgs false

set_option maxRecDepth 100000 in
set_option maxHeartbeats 4000000 in
theorem addrBytes_walk (f h l : Int) (a : Option Addr) (c : Nat) (bs : List Int) (b : Int) (w : World) (m : Int) (hoa : Ad.ok ⟨f, h, l⟩) (hrow : Row w a bs) (hm : w.cell? ⟨0, 0, none⟩ = some (.int .i64 m)) (ht : w.cell? ⟨5, 15, none⟩ = some (.int .u8 4)) :
    Calls Tryd.prog 4 #[.agg #[.int .i64 f, .int .u64 h, .int .u64 l], .slice a bs.length c, .int .i64 b] w fun e w' => e = .returned (.bool true) ∧ Below w.heap.size w w' := by
  obtain ⟨⟨⟨xf, xh, xl⟩, xe⟩, hX⟩ : ∃ X, fromB bs = X := ⟨_, rfl⟩
  obtain ⟨⟨⟨mf, mh, ml⟩, me⟩, hM⟩ : ∃ X, Ad.mask ⟨f, h, l⟩ b = X := ⟨_, rfl⟩
  obtain ⟨L, hL⟩ : ∃ X, Ad.bytes ⟨f, h, l⟩ = X := ⟨_, rfl⟩
  have K1 : Hid (∀ W, Row W a bs → Calls Tryd.prog 16 #[.slice a bs.length c] W fun e w' => e = .returned (.tuple #[.agg #[.int .i64 xf, .int .u64 xh, .int .u64 xl], .int .i64 xe]) ∧ Below W.heap.size W w') := fun W hW => by
    have := from_any a c bs W hW
    rw [hX] at this
    exact this
  have K2 : Hid (∀ W, Row W a bs → Calls Tryd.prog 17 #[.slice a bs.length c] W fun e w' => e = .returned (.tuple #[.agg #[.int .i64 xf, .int .u64 xh, .int .u64 xl], .int .i64 xe]) ∧ Below W.heap.size W w') := fun W hW => by
    have := rfrom_any a c bs W hW
    rw [hX] at this
    exact this
  have K3 : Hid (∀ W, Calls Tryd.prog 18 #[.agg #[.int .i64 f, .int .u64 h, .int .u64 l], .int .i64 b] W fun e w' => e = .returned (.tuple #[.agg #[.int .i64 mf, .int .u64 mh, .int .u64 ml], .int .i64 me]) ∧ Below W.heap.size W w') := fun W => by
    have := mask_any f h l b W hoa
    rw [hM] at this
    exact this
  have K4 : Hid (∀ W, Calls Tryd.prog 19 #[.agg #[.int .i64 f, .int .u64 h, .int .u64 l], .int .i64 b] W fun e w' => e = .returned (.tuple #[.agg #[.int .i64 mf, .int .u64 mh, .int .u64 ml], .int .i64 me]) ∧ Below W.heap.size W w') := fun W => by
    have := rmask_any f h l b W hoa
    rw [hM] at this
    exact this
  have K5 : Hid (∀ W, Calls Tryd.prog 21 #[.agg #[.int .i64 f, .int .u64 h, .int .u64 l]] W fun e w' => ∃ a c, e = .returned (.slice a L.length c) ∧ Fresh W w' a c L) := fun W => by
    have := bytes_any f h l W hoa
    rw [hL] at this
    exact this
  have K6 : Hid (∀ W, Calls Tryd.prog 22 #[.agg #[.int .i64 f, .int .u64 h, .int .u64 l]] W fun e w' => ∃ a c, e = .returned (.slice a L.length c) ∧ Fresh W w' a c L) := fun W => by
    have := rbytes_any f h l W hoa
    rw [hL] at this
    exact this
  have KL : Hid (∀ W, Below w.heap.size w W → Calls Tryd.prog 15 #[] W fun e w' => e = .returned (.bool true) ∧ Below W.heap.size W w') := fun W hb => alive_any W m (kept hb hm) (kept hb ht)
  clear hX hM hL hoa hm ht
  obtain ⟨W1, hW1⟩ : ∃ W1, w.alloc (.cells #[.int .i64 f, .int .u64 h, .int .u64 l] 24) = W1 := ⟨_, rfl⟩
  have b1 := bel_nw hW1
  have A1 := blk_nw hW1
  go_enter Tryd.func4, Tryd.ntmps4
  go_wp2_with fail
  refine Calls.mono (K1.out _ (hrow.below b1)) ?_
  rintro e W2 ⟨rfl, bb⟩
  have A2 := A1.kept bb
  have b2 := bel_tr b1 bb
  clear bb K1 A1 b1
  obtain ⟨W3, hW3⟩ : ∃ W, W2.alloc (.cells #[.int .i64 0, .int .u64 0, .int .u64 0] 24) = W := ⟨_, rfl⟩
  have A3 := A2.al hW3
  have gA3 : w.heap.size < W2.heap.size := A2.lt
  have X3 := blk_nw hW3
  have b3 := bel_al b2 hW3
  have gw3 : w.heap.size ≤ W2.heap.size := b2.size
  have A4 := A3.other (show w.heap.size ≠ W2.heap.size by omega) #[.int .i64 xf, .int .u64 xh, .int .u64 xl]
  have X4 := X3.set #[.int .i64 xf, .int .u64 xh, .int .u64 xl]
  have b4 := below_setRow b3 gw3 #[.int .i64 xf, .int .u64 xh, .int .u64 xl]
  obtain ⟨W4, hW4⟩ : ∃ W, W3.setRow W2.heap.size #[.int .i64 xf, .int .u64 xh, .int .u64 xl] = W := ⟨_, rfl⟩
  rw [hW4] at A4 X4 b4
  have HW4 : Hid _ := hW4
  clear hW4
  go_wp2_with (refine wpList_store_row rfl _ _ _ rfl W2.heap.size #[.int .i64 xf, .int .u64 xh, .int .u64 xl] (by rfl) (by rfl) _ _ X3 (by kernel_rfl) (by rfl) (by kernel_rfl) ?_; rw [HW4.out])
  refine Calls.mono (K2.out _ (hrow.below b4)) ?_
  rintro e W5 ⟨rfl, bb⟩
  have A5 := A4.kept bb
  have X5 := X4.kept bb
  have b5 := bel_tr b4 bb
  clear bb K2 A4 X4 b4
  obtain ⟨W6, hW6⟩ : ∃ W, W5.alloc (.cells #[.int .i64 0, .int .u64 0, .int .u64 0] 24) = W := ⟨_, rfl⟩
  have A6 := A5.al hW6
  have gA6 : w.heap.size < W5.heap.size := A5.lt
  have X6 := X5.al hW6
  have gX6 : W2.heap.size < W5.heap.size := X5.lt
  have Y6 := blk_nw hW6
  have b6 := bel_al b5 hW6
  have gw6 : w.heap.size ≤ W5.heap.size := b5.size
  have A7 := A6.other (show w.heap.size ≠ W5.heap.size by omega) #[.int .i64 xf, .int .u64 xh, .int .u64 xl]
  have X7 := X6.other (show W2.heap.size ≠ W5.heap.size by omega) #[.int .i64 xf, .int .u64 xh, .int .u64 xl]
  have Y7 := Y6.set #[.int .i64 xf, .int .u64 xh, .int .u64 xl]
  have b7 := below_setRow b6 gw6 #[.int .i64 xf, .int .u64 xh, .int .u64 xl]
  obtain ⟨W7, hW7⟩ : ∃ W, W6.setRow W5.heap.size #[.int .i64 xf, .int .u64 xh, .int .u64 xl] = W := ⟨_, rfl⟩
  rw [hW7] at A7 X7 Y7 b7
  have HW7 : Hid _ := hW7
  clear hW7
  go_wp2_with (first
    | (refine wpList_store_row rfl _ _ _ rfl W5.heap.size #[.int .i64 xf, .int .u64 xh, .int .u64 xl] (by rfl) (by rfl) _ _ Y6 (by kernel_rfl) (by rfl) (by kernel_rfl) ?_; rw [HW7.out])
    | (refine wpList_load_row rfl _ _ rfl w.heap.size (by rfl) _ _ _ _ A7 Tryd.underlying24 rfl (by kernel_rfl) ?_))
  refine Calls.mono (K3.out _) ?_
  rintro e W8 ⟨rfl, bb⟩
  have A8 := A7.kept bb
  have X8 := X7.kept bb
  have Y8 := Y7.kept bb
  have b8 := bel_tr b7 bb
  clear bb K3 A7 X7 Y7 b7
  obtain ⟨W9, hW9⟩ : ∃ W, W8.alloc (.cells #[.int .i64 0, .int .u64 0, .int .u64 0] 24) = W := ⟨_, rfl⟩
  have A9 := A8.al hW9
  have gA9 : w.heap.size < W8.heap.size := A8.lt
  have X9 := X8.al hW9
  have gX9 : W2.heap.size < W8.heap.size := X8.lt
  have Y9 := Y8.al hW9
  have gY9 : W5.heap.size < W8.heap.size := Y8.lt
  have M9 := blk_nw hW9
  have b9 := bel_al b8 hW9
  have gw9 : w.heap.size ≤ W8.heap.size := b8.size
  have A10 := A9.other (show w.heap.size ≠ W8.heap.size by omega) #[.int .i64 mf, .int .u64 mh, .int .u64 ml]
  have X10 := X9.other (show W2.heap.size ≠ W8.heap.size by omega) #[.int .i64 mf, .int .u64 mh, .int .u64 ml]
  have Y10 := Y9.other (show W5.heap.size ≠ W8.heap.size by omega) #[.int .i64 mf, .int .u64 mh, .int .u64 ml]
  have M10 := M9.set #[.int .i64 mf, .int .u64 mh, .int .u64 ml]
  have b10 := below_setRow b9 gw9 #[.int .i64 mf, .int .u64 mh, .int .u64 ml]
  obtain ⟨W10, hW10⟩ : ∃ W, W9.setRow W8.heap.size #[.int .i64 mf, .int .u64 mh, .int .u64 ml] = W := ⟨_, rfl⟩
  rw [hW10] at A10 X10 Y10 M10 b10
  have HW10 : Hid _ := hW10
  clear hW10
  go_wp2_with (first
    | (refine wpList_store_row rfl _ _ _ rfl W8.heap.size #[.int .i64 mf, .int .u64 mh, .int .u64 ml] (by rfl) (by rfl) _ _ M9 (by kernel_rfl) (by rfl) (by kernel_rfl) ?_; rw [HW10.out])
    | (refine wpList_load_row rfl _ _ rfl w.heap.size (by rfl) _ _ _ _ A10 Tryd.underlying24 rfl (by kernel_rfl) ?_))
  refine Calls.mono (K4.out _) ?_
  rintro e W11 ⟨rfl, bb⟩
  have A11 := A10.kept bb
  have X11 := X10.kept bb
  have Y11 := Y10.kept bb
  have M11 := M10.kept bb
  have b11 := bel_tr b10 bb
  clear bb K4 A10 X10 Y10 M10 b10
  obtain ⟨W12, hW12⟩ : ∃ W, W11.alloc (.cells #[.int .i64 0, .int .u64 0, .int .u64 0] 24) = W := ⟨_, rfl⟩
  have A12 := A11.al hW12
  have gA12 : w.heap.size < W11.heap.size := A11.lt
  have X12 := X11.al hW12
  have gX12 : W2.heap.size < W11.heap.size := X11.lt
  have Y12 := Y11.al hW12
  have gY12 : W5.heap.size < W11.heap.size := Y11.lt
  have M12 := M11.al hW12
  have gM12 : W8.heap.size < W11.heap.size := M11.lt
  have N12 := blk_nw hW12
  have b12 := bel_al b11 hW12
  have gw12 : w.heap.size ≤ W11.heap.size := b11.size
  have A13 := A12.other (show w.heap.size ≠ W11.heap.size by omega) #[.int .i64 mf, .int .u64 mh, .int .u64 ml]
  have X13 := X12.other (show W2.heap.size ≠ W11.heap.size by omega) #[.int .i64 mf, .int .u64 mh, .int .u64 ml]
  have Y13 := Y12.other (show W5.heap.size ≠ W11.heap.size by omega) #[.int .i64 mf, .int .u64 mh, .int .u64 ml]
  have M13 := M12.other (show W8.heap.size ≠ W11.heap.size by omega) #[.int .i64 mf, .int .u64 mh, .int .u64 ml]
  have N13 := N12.set #[.int .i64 mf, .int .u64 mh, .int .u64 ml]
  have b13 := below_setRow b12 gw12 #[.int .i64 mf, .int .u64 mh, .int .u64 ml]
  obtain ⟨W13, hW13⟩ : ∃ W, W12.setRow W11.heap.size #[.int .i64 mf, .int .u64 mh, .int .u64 ml] = W := ⟨_, rfl⟩
  rw [hW13] at A13 X13 Y13 M13 N13 b13
  have HW13 : Hid _ := hW13
  clear hW13
  go_wp2_with (refine wpList_store_row rfl _ _ _ rfl W11.heap.size #[.int .i64 mf, .int .u64 mh, .int .u64 ml] (by rfl) (by rfl) _ _ N12 (by kernel_rfl) (by rfl) (by kernel_rfl) ?_; rw [HW13.out])
  have Ad := A13.drew
  have Xd := X13.drew
  have Yd := Y13.drew
  have Md := M13.drew
  have Nd := N13.drew
  have bd := b13.drew
  refine wp_region_noPanic ?_
  refine wp_region_held_drew (S := fun w' => Blk w' w.heap.size 24 #[.int .i64 f, .int .u64 h, .int .u64 l] ∧ Blk w' W2.heap.size 24 #[.int .i64 xf, .int .u64 xh, .int .u64 xl] ∧ Blk w' W5.heap.size 24 #[.int .i64 xf, .int .u64 xh, .int .u64 xl] ∧ Blk w' W8.heap.size 24 #[.int .i64 mf, .int .u64 mh, .int .u64 ml] ∧ Blk w' W11.heap.size 24 #[.int .i64 mf, .int .u64 mh, .int .u64 ml]) (by kernel_rfl) (by exact ⟨Ad, Xd, Yd, Md, Nd⟩) (fun hHeld => ?_)
  refine wpAnyH_take (i := 0) (oi := { dst := some 37, op := Op.load 24 (.tmp 3), type := 24, pos := "law.go:31", after := #[], guard := none }) (v := (.agg #[.int .i64 f, .int .u64 h, .int .u64 l])) rfl (by kernel_rfl) (by kernel_rfl) (by kernel_rfl) (fun _ _ _ h => h) (yieldsIf_blk_w (by kernel_rfl) _ _ rfl w.heap.size (by rfl) _ (fun _ hSw => hSw.1) Tryd.underlying24 (by kernel_rfl)) hHeld ?_
  try simp only [Act.put, List.setIfInBounds_toArray, List.set_cons_zero, List.set_cons_succ]
  refine wpAnyH_take (i := 2) (oi := { dst := some 39, op := Op.load 24 (.tmp 3), type := 24, pos := "law.go:31", after := #[], guard := none }) (v := (.agg #[.int .i64 f, .int .u64 h, .int .u64 l])) rfl (by kernel_rfl) (by kernel_rfl) (by kernel_rfl) (fun _ _ _ h => h) (yieldsIf_blk_w (by kernel_rfl) _ _ rfl w.heap.size (by rfl) _ (fun _ hSw => hSw.1) Tryd.underlying24 (by kernel_rfl)) hHeld ?_
  try simp only [Act.put, List.setIfInBounds_toArray, List.set_cons_zero, List.set_cons_succ]
  refine wpAnyH_ready (rs := [1]) (by kernel_rfl) (by simp) ?_
  refine AllReadyH.cons (o := { dst := some 38, op := Op.call { callee := Callee.value (.func 21), args := #[.tmp 37], argTypes := #[24] }, type := 33, pos := "law.go:31", after := #[{ on := 0, ground := Ground.data }], guard := none }) rfl (fun K hK => ?_) AllReadyH.nil
  go_simp
  refine Calls.mono (K5.out _) ?_
  rintro e W14 ⟨a5, c5, rfl, f5⟩
  have bb := f5.below
  have r5 := f5.row
  have A14 := Ad.kept bb
  have X14 := Xd.kept bb
  have Y14 := Yd.kept bb
  have M14 := Md.kept bb
  have N14 := Nd.kept bb
  have b14 := bel_tr bd bb
  refine hK.out _ _ ?_ (fun hHeld => ?_)
  · exact ⟨A14, X14, Y14, M14, N14⟩
  clear hK K
  try simp only [Act.put, List.setIfInBounds_toArray, List.set_cons_zero, List.set_cons_succ]
  clear bb f5 K5
  refine wpAnyH_ready (rs := [3]) (by kernel_rfl) (by simp) ?_
  refine AllReadyH.cons (o := { dst := some 40, op := Op.call { callee := Callee.value (.func 22), args := #[.tmp 39], argTypes := #[24] }, type := 33, pos := "law.go:31", after := #[{ on := 2, ground := Ground.data }, { on := 1, ground := Ground.chain }], guard := none }) rfl (fun K hK => ?_) AllReadyH.nil
  go_simp
  refine Calls.mono (K6.out _) ?_
  rintro e W15 ⟨a6, c6, rfl, f6⟩
  have bb := f6.below
  have r6 := f6.row
  have r5' := r5.below bb
  have A15 := A14.kept bb
  have X15 := X14.kept bb
  have Y15 := Y14.kept bb
  have M15 := M14.kept bb
  have N15 := N14.kept bb
  have b15 := bel_tr b14 bb
  refine hK.out _ _ ?_ (fun hHeld => ?_)
  · exact ⟨A15, X15, Y15, M15, N15⟩
  clear hK K
  try simp only [Act.put, List.setIfInBounds_toArray, List.set_cons_zero, List.set_cons_succ]
  have KS : Hid _ := same_any a5 a6 c5 c6 L W15 r5' r6
  clear bb f6 K6
  refine wpAnyH_ready (rs := [4]) (by kernel_rfl) (by simp) ?_
  refine AllReadyH.cons (o := { dst := some 41, op := Op.call { callee := Callee.value (.func 20), args := #[.tmp 38, .tmp 40], argTypes := #[33, 33] }, type := 4, pos := "law.go:31", after := #[{ on := 1, ground := Ground.data }, { on := 3, ground := Ground.data }, { on := 3, ground := Ground.chain }], guard := none }) rfl (fun K hK => ?_) AllReadyH.nil
  go_simp
  refine Calls.mono KS.out ?_
  rintro e W16 ⟨rfl, hWs⟩
  rw [hWs]
  have A16 := A15
  have X16 := X15
  have Y16 := Y15
  have M16 := M15
  have N16 := N15
  have b16 := b15
  refine hK.out _ _ ?_ (fun hHeld => ?_)
  · exact ⟨A16, X16, Y16, M16, N16⟩
  clear hK K
  try simp only [Act.put, List.setIfInBounds_toArray, List.set_cons_zero, List.set_cons_succ]
  clear hWs KS
  refine wpAnyH_take (i := 5) (oi := { dst := some 42, op := Op.move (.tmp 41), type := 4, pos := "law.go:31", after := #[{ on := 4, ground := Ground.data }, { on := 4, ground := Ground.chain }], guard := none }) (v := (.bool true)) rfl (by kernel_rfl) (by kernel_rfl) (by kernel_rfl) (fun _ _ _ h => h) (Or.inl ⟨by rfl, ?_⟩) hHeld ?_
  · intro w9 hSw
    try dsimp only at hSw
    go_simp
  try simp only [Act.put, List.setIfInBounds_toArray, List.set_cons_zero, List.set_cons_succ]
  refine wpAnyH_take (i := 6) (oi := { dst := some 43, op := Op.load 24 (.tmp 7), type := 24, pos := "law.go:31", after := #[{ on := 5, ground := Ground.guard }], guard := some (5, true) }) (v := (.agg #[.int .i64 xf, .int .u64 xh, .int .u64 xl])) rfl (by kernel_rfl) (by kernel_rfl) (by kernel_rfl) (fun _ _ _ h => h) (yieldsIf_blk_w (by kernel_rfl) _ _ rfl W2.heap.size (by rfl) _ (fun _ hSw => hSw.2.1) Tryd.underlying24 (by kernel_rfl)) hHeld ?_
  try simp only [Act.put, List.setIfInBounds_toArray, List.set_cons_zero, List.set_cons_succ]
  refine wpAnyH_take (i := 7) (oi := { dst := some 44, op := Op.load 24 (.tmp 9), type := 24, pos := "law.go:31", after := #[{ on := 5, ground := Ground.guard }], guard := some (5, true) }) (v := (.agg #[.int .i64 xf, .int .u64 xh, .int .u64 xl])) rfl (by kernel_rfl) (by kernel_rfl) (by kernel_rfl) (fun _ _ _ h => h) (yieldsIf_blk_w (by kernel_rfl) _ _ rfl W5.heap.size (by rfl) _ (fun _ hSw => hSw.2.2.1) Tryd.underlying24 (by kernel_rfl)) hHeld ?_
  try simp only [Act.put, List.setIfInBounds_toArray, List.set_cons_zero, List.set_cons_succ]
  refine wpAnyH_take (i := 8) (oi := { dst := some 45, op := Op.binOp BinOp.eql 24 (.tmp 43) (.tmp 44) 24, type := 4, pos := "law.go:31", after := #[{ on := 6, ground := Ground.data }, { on := 7, ground := Ground.data }, { on := 5, ground := Ground.guard }], guard := some (5, true) }) (v := (.bool true)) rfl (by kernel_rfl) (by kernel_rfl) (by kernel_rfl) (fun _ _ _ h => h) (Or.inl ⟨by rfl, ?_⟩) hHeld ?_
  · intro w9 hSw
    try dsimp only at hSw
    go_simp
  try simp only [Act.put, List.setIfInBounds_toArray, List.set_cons_zero, List.set_cons_succ]
  refine wpAnyH_take (i := 9) (oi := { dst := some 46, op := Op.pick (.tmp 42) (.tmp 45) (.const (.bool false)), type := 4, pos := "law.go:31", after := #[{ on := 5, ground := Ground.data }, { on := 8, ground := Ground.data }], guard := none }) (v := (.bool true)) rfl (by kernel_rfl) (by kernel_rfl) (by kernel_rfl) (fun _ _ _ h => h) (Or.inl ⟨by rfl, ?_⟩) hHeld ?_
  · intro w9 hSw
    try dsimp only at hSw
    go_simp
  try simp only [Act.put, List.setIfInBounds_toArray, List.set_cons_zero, List.set_cons_succ]
  refine wpAnyH_take (i := 10) (oi := { dst := some 47, op := Op.move (.tmp 46), type := 4, pos := "law.go:31", after := #[{ on := 9, ground := Ground.data }, { on := 5, ground := Ground.chain }], guard := none }) (v := (.bool true)) rfl (by kernel_rfl) (by kernel_rfl) (by kernel_rfl) (fun _ _ _ h => h) (Or.inl ⟨by rfl, ?_⟩) hHeld ?_
  · intro w9 hSw
    try dsimp only at hSw
    go_simp
  try simp only [Act.put, List.setIfInBounds_toArray, List.set_cons_zero, List.set_cons_succ]
  refine wpAnyH_take (i := 11) (oi := { dst := some 48, op := Op.move (.tmp 8), type := 34, pos := "law.go:31", after := #[{ on := 10, ground := Ground.guard }], guard := some (10, true) }) (v := (.int .i64 xe)) rfl (by kernel_rfl) (by kernel_rfl) (by kernel_rfl) (fun _ _ _ h => h) (Or.inl ⟨by rfl, ?_⟩) hHeld ?_
  · intro w9 hSw
    try dsimp only at hSw
    go_simp
  try simp only [Act.put, List.setIfInBounds_toArray, List.set_cons_zero, List.set_cons_succ]
  refine wpAnyH_take (i := 12) (oi := { dst := some 49, op := Op.move (.tmp 10), type := 3, pos := "law.go:31", after := #[{ on := 10, ground := Ground.guard }], guard := some (10, true) }) (v := (.int .i64 xe)) rfl (by kernel_rfl) (by kernel_rfl) (by kernel_rfl) (fun _ _ _ h => h) (Or.inl ⟨by rfl, ?_⟩) hHeld ?_
  · intro w9 hSw
    try dsimp only at hSw
    go_simp
  try simp only [Act.put, List.setIfInBounds_toArray, List.set_cons_zero, List.set_cons_succ]
  refine wpAnyH_take (i := 13) (oi := { dst := some 50, op := Op.binOp BinOp.eql 3 (.tmp 48) (.tmp 49) 3, type := 4, pos := "law.go:31", after := #[{ on := 11, ground := Ground.data }, { on := 12, ground := Ground.data }, { on := 10, ground := Ground.guard }], guard := some (10, true) }) (v := (.bool true)) rfl (by kernel_rfl) (by kernel_rfl) (by kernel_rfl) (fun _ _ _ h => h) (Or.inl ⟨by rfl, ?_⟩) hHeld ?_
  · intro w9 hSw
    try dsimp only at hSw
    go_simp
  try simp only [Act.put, List.setIfInBounds_toArray, List.set_cons_zero, List.set_cons_succ]
  refine wpAnyH_take (i := 14) (oi := { dst := some 51, op := Op.pick (.tmp 47) (.tmp 50) (.const (.bool false)), type := 4, pos := "law.go:31", after := #[{ on := 10, ground := Ground.data }, { on := 13, ground := Ground.data }], guard := none }) (v := (.bool true)) rfl (by kernel_rfl) (by kernel_rfl) (by kernel_rfl) (fun _ _ _ h => h) (Or.inl ⟨by rfl, ?_⟩) hHeld ?_
  · intro w9 hSw
    try dsimp only at hSw
    go_simp
  try simp only [Act.put, List.setIfInBounds_toArray, List.set_cons_zero, List.set_cons_succ]
  refine wpAnyH_take (i := 15) (oi := { dst := some 52, op := Op.move (.tmp 51), type := 4, pos := "law.go:31", after := #[{ on := 14, ground := Ground.data }, { on := 10, ground := Ground.chain }], guard := none }) (v := (.bool true)) rfl (by kernel_rfl) (by kernel_rfl) (by kernel_rfl) (fun _ _ _ h => h) (Or.inl ⟨by rfl, ?_⟩) hHeld ?_
  · intro w9 hSw
    try dsimp only at hSw
    go_simp
  try simp only [Act.put, List.setIfInBounds_toArray, List.set_cons_zero, List.set_cons_succ]
  refine wpAnyH_take (i := 16) (oi := { dst := some 53, op := Op.load 24 (.tmp 11), type := 24, pos := "law.go:31", after := #[{ on := 15, ground := Ground.guard }], guard := some (15, true) }) (v := (.agg #[.int .i64 mf, .int .u64 mh, .int .u64 ml])) rfl (by kernel_rfl) (by kernel_rfl) (by kernel_rfl) (fun _ _ _ h => h) (yieldsIf_blk_w (by kernel_rfl) _ _ rfl W8.heap.size (by rfl) _ (fun _ hSw => hSw.2.2.2.1) Tryd.underlying24 (by kernel_rfl)) hHeld ?_
  try simp only [Act.put, List.setIfInBounds_toArray, List.set_cons_zero, List.set_cons_succ]
  refine wpAnyH_take (i := 17) (oi := { dst := some 54, op := Op.load 24 (.tmp 13), type := 24, pos := "law.go:31", after := #[{ on := 15, ground := Ground.guard }], guard := some (15, true) }) (v := (.agg #[.int .i64 mf, .int .u64 mh, .int .u64 ml])) rfl (by kernel_rfl) (by kernel_rfl) (by kernel_rfl) (fun _ _ _ h => h) (yieldsIf_blk_w (by kernel_rfl) _ _ rfl W11.heap.size (by rfl) _ (fun _ hSw => hSw.2.2.2.2) Tryd.underlying24 (by kernel_rfl)) hHeld ?_
  try simp only [Act.put, List.setIfInBounds_toArray, List.set_cons_zero, List.set_cons_succ]
  refine wpAnyH_take (i := 18) (oi := { dst := some 55, op := Op.binOp BinOp.eql 24 (.tmp 53) (.tmp 54) 24, type := 4, pos := "law.go:31", after := #[{ on := 16, ground := Ground.data }, { on := 17, ground := Ground.data }, { on := 15, ground := Ground.guard }], guard := some (15, true) }) (v := (.bool true)) rfl (by kernel_rfl) (by kernel_rfl) (by kernel_rfl) (fun _ _ _ h => h) (Or.inl ⟨by rfl, ?_⟩) hHeld ?_
  · intro w9 hSw
    try dsimp only at hSw
    go_simp
  try simp only [Act.put, List.setIfInBounds_toArray, List.set_cons_zero, List.set_cons_succ]
  refine wpAnyH_take (i := 19) (oi := { dst := some 56, op := Op.pick (.tmp 52) (.tmp 55) (.const (.bool false)), type := 4, pos := "law.go:31", after := #[{ on := 15, ground := Ground.data }, { on := 18, ground := Ground.data }], guard := none }) (v := (.bool true)) rfl (by kernel_rfl) (by kernel_rfl) (by kernel_rfl) (fun _ _ _ h => h) (Or.inl ⟨by rfl, ?_⟩) hHeld ?_
  · intro w9 hSw
    try dsimp only at hSw
    go_simp
  try simp only [Act.put, List.setIfInBounds_toArray, List.set_cons_zero, List.set_cons_succ]
  refine wpAnyH_take (i := 20) (oi := { dst := some 57, op := Op.move (.tmp 56), type := 4, pos := "law.go:31", after := #[{ on := 19, ground := Ground.data }, { on := 15, ground := Ground.chain }], guard := none }) (v := (.bool true)) rfl (by kernel_rfl) (by kernel_rfl) (by kernel_rfl) (fun _ _ _ h => h) (Or.inl ⟨by rfl, ?_⟩) hHeld ?_
  · intro w9 hSw
    try dsimp only at hSw
    go_simp
  try simp only [Act.put, List.setIfInBounds_toArray, List.set_cons_zero, List.set_cons_succ]
  refine wpAnyH_take (i := 21) (oi := { dst := some 58, op := Op.move (.tmp 12), type := 34, pos := "law.go:31", after := #[{ on := 20, ground := Ground.guard }], guard := some (20, true) }) (v := (.int .i64 me)) rfl (by kernel_rfl) (by kernel_rfl) (by kernel_rfl) (fun _ _ _ h => h) (Or.inl ⟨by rfl, ?_⟩) hHeld ?_
  · intro w9 hSw
    try dsimp only at hSw
    go_simp
  try simp only [Act.put, List.setIfInBounds_toArray, List.set_cons_zero, List.set_cons_succ]
  refine wpAnyH_take (i := 22) (oi := { dst := some 59, op := Op.move (.tmp 14), type := 3, pos := "law.go:31", after := #[{ on := 20, ground := Ground.guard }], guard := some (20, true) }) (v := (.int .i64 me)) rfl (by kernel_rfl) (by kernel_rfl) (by kernel_rfl) (fun _ _ _ h => h) (Or.inl ⟨by rfl, ?_⟩) hHeld ?_
  · intro w9 hSw
    try dsimp only at hSw
    go_simp
  try simp only [Act.put, List.setIfInBounds_toArray, List.set_cons_zero, List.set_cons_succ]
  refine wpAnyH_take (i := 23) (oi := { dst := some 60, op := Op.binOp BinOp.eql 3 (.tmp 58) (.tmp 59) 3, type := 4, pos := "law.go:31", after := #[{ on := 21, ground := Ground.data }, { on := 22, ground := Ground.data }, { on := 20, ground := Ground.guard }], guard := some (20, true) }) (v := (.bool true)) rfl (by kernel_rfl) (by kernel_rfl) (by kernel_rfl) (fun _ _ _ h => h) (Or.inl ⟨by rfl, ?_⟩) hHeld ?_
  · intro w9 hSw
    try dsimp only at hSw
    go_simp
  try simp only [Act.put, List.setIfInBounds_toArray, List.set_cons_zero, List.set_cons_succ]
  refine wpAnyH_take (i := 24) (oi := { dst := some 61, op := Op.pick (.tmp 57) (.tmp 60) (.const (.bool false)), type := 4, pos := "law.go:31", after := #[{ on := 20, ground := Ground.data }, { on := 23, ground := Ground.data }], guard := none }) (v := (.bool true)) rfl (by kernel_rfl) (by kernel_rfl) (by kernel_rfl) (fun _ _ _ h => h) (Or.inl ⟨by rfl, ?_⟩) hHeld ?_
  · intro w9 hSw
    try dsimp only at hSw
    go_simp
  try simp only [Act.put, List.setIfInBounds_toArray, List.set_cons_zero, List.set_cons_succ]
  refine wpAnyH_take (i := 25) (oi := { dst := some 62, op := Op.move (.tmp 61), type := 4, pos := "law.go:31", after := #[{ on := 24, ground := Ground.data }, { on := 20, ground := Ground.chain }], guard := none }) (v := (.bool true)) rfl (by kernel_rfl) (by kernel_rfl) (by kernel_rfl) (fun _ _ _ h => h) (Or.inl ⟨by rfl, ?_⟩) hHeld ?_
  · intro w9 hSw
    try dsimp only at hSw
    go_simp
  try simp only [Act.put, List.setIfInBounds_toArray, List.set_cons_zero, List.set_cons_succ]
  refine wpAnyH_ready (rs := [26]) (by kernel_rfl) (by simp) ?_
  refine AllReadyH.cons (o := { dst := some 63, op := Op.call { callee := Callee.value (.func 15), args := #[], argTypes := #[] }, type := 4, pos := "law.go:31", after := #[{ on := 25, ground := Ground.chain }, { on := 25, ground := Ground.guard }], guard := some (25, true) }) rfl (fun K hK => ?_) AllReadyH.nil
  go_simp
  refine Calls.mono (KL.out _ b16) ?_
  rintro e W17 ⟨rfl, bb⟩
  have A17 := A16.kept bb
  have X17 := X16.kept bb
  have Y17 := Y16.kept bb
  have M17 := M16.kept bb
  have N17 := N16.kept bb
  have b17 := bel_tr b16 bb
  refine hK.out _ _ ?_ (fun hHeld => ?_)
  · exact ⟨A17, X17, Y17, M17, N17⟩
  clear hK K
  try simp only [Act.put, List.setIfInBounds_toArray, List.set_cons_zero, List.set_cons_succ]
  clear bb KL
  refine wpAnyH_take (i := 27) (oi := { dst := some 64, op := Op.pick (.tmp 62) (.tmp 63) (.const (.bool false)), type := 4, pos := "law.go:31", after := #[{ on := 25, ground := Ground.data }, { on := 26, ground := Ground.data }], guard := none }) (v := (.bool true)) rfl (by kernel_rfl) (by kernel_rfl) (by kernel_rfl) (fun _ _ _ h => h) (Or.inl ⟨by rfl, ?_⟩) hHeld ?_
  · intro w9 hSw
    try dsimp only at hSw
    go_simp
  try simp only [Act.put, List.setIfInBounds_toArray, List.set_cons_zero, List.set_cons_succ]
  refine wpAnyH_take (i := 28) (oi := { dst := some 6, op := Op.assign (.tmp 64), type := 4, pos := "law.go:31", after := #[{ on := 27, ground := Ground.data }, { on := 26, ground := Ground.chain }, { on := 0, ground := Ground.phase }, { on := 1, ground := Ground.phase }, { on := 2, ground := Ground.phase }, { on := 3, ground := Ground.phase }, { on := 4, ground := Ground.phase }, { on := 5, ground := Ground.phase }, { on := 6, ground := Ground.phase }, { on := 7, ground := Ground.phase }, { on := 8, ground := Ground.phase }, { on := 9, ground := Ground.phase }, { on := 10, ground := Ground.phase }, { on := 11, ground := Ground.phase }, { on := 12, ground := Ground.phase }, { on := 13, ground := Ground.phase }, { on := 14, ground := Ground.phase }, { on := 15, ground := Ground.phase }, { on := 16, ground := Ground.phase }, { on := 17, ground := Ground.phase }, { on := 18, ground := Ground.phase }, { on := 19, ground := Ground.phase }, { on := 20, ground := Ground.phase }, { on := 21, ground := Ground.phase }, { on := 22, ground := Ground.phase }, { on := 23, ground := Ground.phase }, { on := 24, ground := Ground.phase }, { on := 25, ground := Ground.phase }, { on := 26, ground := Ground.phase }, { on := 27, ground := Ground.phase }], guard := none }) (v := (.bool true)) rfl (by kernel_rfl) (by kernel_rfl) (by kernel_rfl) (fun _ _ _ h => h) (Or.inl ⟨by rfl, ?_⟩) hHeld ?_
  · intro w9 hSw
    try dsimp only at hSw
    go_simp
  try simp only [Act.put, List.setIfInBounds_toArray, List.set_cons_zero, List.set_cons_succ]
  refine wpAnyH_done (by kernel_rfl) ?_ _
  refine NoPanic.normal ?_
  go_wp2
  go_ret
  exact ⟨rfl, b17⟩

end Go.Proofs.YtchcioljmagkpaaDoor
