/- Texts joined: CmG -/
import Derived.Test.YtmfgjicfdjjihaaGreatDoorLxa21
namespace Go.Proofs.YtmfgjicfdjjihaaGreatDoor
abbrev lxa22o0 : Oper := { dst := none, op := Op.store 86 (.tmp 4) (.tmp 19), type := 0, pos := "ref.go:73", after := #[{ on := 2, ground := Ground.data }, { on := 5, ground := Ground.chain }, { on := 0, ground := Ground.phase }, { on := 1, ground := Ground.phase }, { on := 2, ground := Ground.phase }, { on := 3, ground := Ground.textOnly Departure.lateStores }, { on := 4, ground := Ground.textOnly Departure.lateStoresUnsure }, { on := 5, ground := Ground.textOnly Departure.lateStoresUnsure }, { on := 6, ground := Ground.textOnly Departure.lateStores }, { on := 7, ground := Ground.textOnly Departure.lateStores }, { on := 8, ground := Ground.textOnly Departure.lateStores }], guard := none }
abbrev lxa22o1 : Oper := { dst := none, op := Op.store 86 (.tmp 5) (.tmp 22), type := 0, pos := "ref.go:73", after := #[{ on := 5, ground := Ground.data }, { on := 9, ground := Ground.chain }, { on := 0, ground := Ground.phase }, { on := 1, ground := Ground.phase }, { on := 2, ground := Ground.phase }, { on := 3, ground := Ground.phase }, { on := 4, ground := Ground.phase }, { on := 5, ground := Ground.phase }, { on := 6, ground := Ground.textOnly Departure.lateStores }, { on := 7, ground := Ground.textOnly Departure.lateStores }, { on := 8, ground := Ground.textOnly Departure.lateStores }, { on := 9, ground := Ground.phase }], guard := none }
abbrev lxa22o2 : Oper := { dst := some 6, op := Op.assign (.tmp 25), type := 4, pos := "ref.go:73", after := #[{ on := 8, ground := Ground.data }, { on := 10, ground := Ground.chain }, { on := 0, ground := Ground.phase }, { on := 1, ground := Ground.phase }, { on := 2, ground := Ground.phase }, { on := 3, ground := Ground.phase }, { on := 4, ground := Ground.phase }, { on := 5, ground := Ground.phase }, { on := 6, ground := Ground.phase }, { on := 7, ground := Ground.phase }, { on := 8, ground := Ground.phase }, { on := 9, ground := Ground.phase }, { on := 10, ground := Ground.phase }], guard := none }
abbrev lxa22o3 : Oper := { dst := some 25, op := Op.binOp BinOp.eql 78 (.tmp 23) (.tmp 24) 78, type := 4, pos := "ref.go:73", after := #[{ on := 6, ground := Ground.data }, { on := 7, ground := Ground.data }, { on := 10, ground := Ground.gcOnly Departure.lateStores }], guard := none }
abbrev lxa22o4 : Oper := { dst := some 22, op := Op.call { callee := Callee.value (.func 58), args := #[.tmp 21], argTypes := #[31] }, type := 86, pos := "ref.go:73", after := #[{ on := 4, ground := Ground.data }, { on := 4, ground := Ground.chain }], guard := none }
abbrev lxa22o5 : Oper := { dst := some 21, op := Op.call { callee := Callee.value (.func 100), args := #[.tmp 20], argTypes := #[78] }, type := 31, pos := "ref.go:73", after := #[{ on := 3, ground := Ground.data }, { on := 2, ground := Ground.chain }], guard := none }
abbrev lxa22o6 : Oper := { dst := some 19, op := Op.call { callee := Callee.value (.func 58), args := #[.tmp 18], argTypes := #[31] }, type := 86, pos := "ref.go:73", after := #[{ on := 1, ground := Ground.data }], guard := none }
abbrev lxa22o7 : Oper := { dst := some 23, op := Op.load 78 (.tmp 9), type := 78, pos := "ref.go:73", after := #[{ on := 10, ground := Ground.gcOnly Departure.lateStores }], guard := none }
abbrev lxa22o8 : Oper := { dst := some 24, op := Op.build 78 #[], type := 78, pos := "ref.go:73", after := #[{ on := 10, ground := Ground.gcOnly Departure.lateStores }], guard := none }
abbrev lxa22o9 : Oper := { dst := some 18, op := Op.load 31 (.tmp 17), type := 31, pos := "ref.go:73", after := #[{ on := 0, ground := Ground.data }], guard := none }
abbrev lxa22o10 : Oper := { dst := some 20, op := Op.load 78 (.tmp 9), type := 78, pos := "ref.go:73", after := #[], guard := none }
abbrev lxa22o11 : Oper := { dst := some 17, op := Op.fieldAddr 78 (.tmp 9) 0, type := 0, pos := "ref.go:73", after := #[], guard := none }
end Go.Proofs.YtmfgjicfdjjihaaGreatDoor
namespace Go.Proofs.YtmfgjicfdjjihaaGreatDoor
open Go.RowKit
set_option linter.unusedVariables false
set_option linter.unusedSimpArgs false
set_option maxRecDepth 100000 in
set_option maxHeartbeats 4000000 in
theorem rpiece_2s (r : Rl) (w : World) (ho : r.s.ok) (hp : r.s.rightPrefix r.sn = true) :
  Calls Tryz.prog 72 #[.agg r.v, .int .i64 2] w fun e w' => e = .returned (.tuple #[.agg (ptAd r.s).v, .agg (ptAd (lastAd r.s r.sn)).v, .bool false]) ∧ Below w.heap.size w w' := by
 have hf := right_fam (right_of_prefix hp).1
 have hne : (r.s.fam == 0) = false := by rw [beq_eq_false_iff_ne]; omega
 have K1 := hidW (fun W => raddress_pt r.s W (by omega))
 have K2 : Hid (∀ W, Calls Tryz.prog 100 #[.agg #[.int .i64 r.s.fam, .int .u64 r.s.hi, .int .u64 r.s.lo, .int .i64 r.sn]] W fun e w' => e = .returned (lastAd r.s r.sn).v ∧ Below W.heap.size W w') := fun W => rlast_y r.s.fam r.s.hi r.s.lo r.sn W ho hp
 have K3 := hidW (fun W => raddress_pt (lastAd r.s r.sn) W (by rw [lastAd_fam0]; omega))
 clear ho hp hf
 generalize ptAd (lastAd r.s r.sn) = P' at *
 generalize lastAd r.s r.sn = A2 at *
 generalize ptAd r.s = P at *
 obtain ⟨W1, hW1⟩ : ∃ W1, w.alloc (.cells r.v 82) = W1 := ⟨_, rfl⟩
 obtain ⟨W2, hW2⟩ : ∃ W2, W1.alloc (.cells z3 86) = W2 := ⟨_, rfl⟩
 obtain ⟨W3, hW3⟩ : ∃ W3, W2.alloc (.cells z3 86) = W3 := ⟨_, rfl⟩
 have b1 := bel_nw hW1
 have b2 := bel_al b1 hW2
 have b3 := bel_al b2 hW3
 have B1 := ((blk_nw hW1).al hW2).al hW3
 have B2 := (blk_nw hW2).al hW3
 have B3 := blk_nw hW3
 have g1 : w.heap.size ≤ W1.heap.size := Nat.le_of_lt (blk_nw hW1).lt
 have g2 : W1.heap.size < W2.heap.size := (blk_nw hW2).lt
 have g2' : w.heap.size ≤ W2.heap.size := Nat.le_trans g1 (Nat.le_of_lt g2)
 have g0 : w.heap.size < W1.heap.size := (blk_nw hW1).lt
 have c0 := B1.cell 2 (.int .i64 r.s.fam) rfl
 have c1 := B1.cell 3 (.int .u64 r.s.hi) rfl
 have c2 := B1.cell 4 (.int .u64 r.s.lo) rfl
 have c3 := B1.cell 5 (.int .i64 r.sn) rfl
 clear b1 b2 B1
 obtain ⟨W4, hW4⟩ : ∃ W4, W3.alloc (.cells #[.int .i64 r.s.fam, .int .u64 r.s.hi, .int .u64 r.s.lo, .int .i64 r.sn] 78) = W4 := ⟨_, rfl⟩
 have b4 := bel_al b3 hW4
 have B4 : Blk W4 W3.heap.size 78 #[.int .i64 r.s.fam, .int .u64 r.s.hi, .int .u64 r.s.lo, .int .i64 r.sn] := blk_nw hW4
 have B24 := B2.al hW4
 have B34 := B3.al hW4
 have g3 : W2.heap.size < W3.heap.size := B3.lt
 generalize r.v = RV at *
 have HW4 : Hid (W3.alloc (.cells #[.int .i64 r.s.fam, .int .u64 r.s.hi, .int .u64 r.s.lo, .int .i64 r.sn] 78) = W4) := hW4
 clear hW4
 go_enter Tryz.func72, Tryz.ntmps72
 go_wp2_with fail
 rw [HW4.out]
 refine wp_region_noPanic ?_
 refine wp_region_held_drew (S := fun w'' => Blk w'' W3.heap.size 78 #[.int .i64 r.s.fam, .int .u64 r.s.hi, .int .u64 r.s.lo, .int .i64 r.sn]) (by kernel_rfl) (by exact B4.drew) (fun hHeld => ?_)
 refine qtk (i := 0) (oi := lxa22o11) (v := (.pointer (some ⟨W3.heap.size, 0, none⟩))) hHeld ?_ ?_
 ·intro w9 hSw
  try dsimp only at hSw
  go_simp
 try simp only [qpu]
 refine qty (i := 1) (oi := lxa22o9) (v := (.agg #[.int .i64 r.s.fam, .int .u64 r.s.hi, .int .u64 r.s.lo])) (yieldsIf_sub rfl _ _ rfl W3.heap.size 0 78 (by rfl) _ _ (fun _ hSw => hSw) (by rfl) Tryz.underlying31 (by kernel_rfl)) hHeld ?_
 try simp only [qpu]
 refine qty (i := 3) (oi := lxa22o10) (v := (.agg #[.int .i64 r.s.fam, .int .u64 r.s.hi, .int .u64 r.s.lo, .int .i64 r.sn])) (yieldsIf_blk rfl _ _ rfl W3.heap.size (by rfl) _ (fun _ hSw => hSw) Tryz.underlying78 (by kernel_rfl)) hHeld ?_
 try simp only [qpu]
 refine qty (i := 6) (oi := lxa22o7) (v := (.agg #[.int .i64 r.s.fam, .int .u64 r.s.hi, .int .u64 r.s.lo, .int .i64 r.sn])) (yieldsIf_blk rfl _ _ rfl W3.heap.size (by rfl) _ (fun _ hSw => hSw) Tryz.underlying78 (by kernel_rfl)) hHeld ?_
 try simp only [qpu]
 refine qtk (i := 7) (oi := lxa22o8) (v := (.agg #[.int .i64 0, .int .u64 0, .int .u64 0, .int .i64 0])) hHeld ?_ ?_
 ·intro w9 hSw
  try dsimp only at hSw
  go_simp
 try simp only [qpu]
 refine qtk (i := 8) (oi := lxa22o3) (v := (.bool false)) hHeld ?_ ?_
 ·intro w9 hSw
  try dsimp only at hSw
  go_simp
 try simp only [qpu]
 refine wpAnyH_ready (rs := [2]) (by kernel_rfl) (by simp) ?_
 refine AllReadyH.cons (o := lxa22o6) rfl (fun K hK => ?_) AllReadyH.nil
 go_simp
 refine Calls.mono (K1.out _) ?_
 rintro e V1 ⟨rfl, bb1⟩
 have C1 := B4.drew.kept bb1
 have D1 := B24.drew.kept bb1
 have E1 := B34.drew.kept bb1
 have f1 := bel_tr b4.drew bb1
 refine hK.out _ _ ?_ (fun hHeld => ?_)
 ·exact C1
 clear hK K
 try simp only [qpu]
 refine wpAnyH_ready (rs := [4]) (by kernel_rfl) (by simp) ?_
 refine AllReadyH.cons (o := lxa22o5) rfl (fun K hK => ?_) AllReadyH.nil
 go_simp
 refine Calls.mono (K2.out _) ?_
 rintro e V2 ⟨rfl, bb2⟩
 have C2 := C1.kept bb2
 have D2 := D1.kept bb2
 have E2 := E1.kept bb2
 have f2 := bel_tr f1 bb2
 refine hK.out _ _ ?_ (fun hHeld => ?_)
 ·exact C2
 clear hK K
 try simp only [qpu]
 refine wpAnyH_ready (rs := [5]) (by kernel_rfl) (by simp) ?_
 refine AllReadyH.cons (o := lxa22o4) rfl (fun K hK => ?_) AllReadyH.nil
 go_simp
 refine Calls.mono (K3.out _) ?_
 rintro e V3 ⟨rfl, bb3⟩
 have C3 := C2.kept bb3
 have D3 := D2.kept bb3
 have E3 := E2.kept bb3
 have f3 := bel_tr f2 bb3
 refine hK.out _ _ ?_ (fun hHeld => ?_)
 ·exact C3
 clear hK K
 try simp only [qpu]
 refine wpAnyH_ready (rs := [9]) (by kernel_rfl) (by simp) ?_
 refine AllReadyH.cons (o := lxa22o0) rfl (fun K hK => ?_) AllReadyH.nil
 refine step_store_blk rfl _ _ _ rfl W1.heap.size P.v _ (by rfl) (by rfl) D3 (by kernel_rfl) (by rfl) (by kernel_rfl) ?_
 refine hK.out _ _ ?_ (fun hHeld => ?_)
 ·exact C3.other (Nat.ne_of_gt (Nat.lt_trans g2 g3)) _
 clear hK K
 try simp only [qpu]
 refine wpAnyH_ready (rs := [10]) (by kernel_rfl) (by simp) ?_
 refine AllReadyH.cons (o := lxa22o1) rfl (fun K hK => ?_) AllReadyH.nil
 refine step_store_blk rfl _ _ _ rfl W2.heap.size P'.v _ (by rfl) (by rfl) (E3.other (Nat.ne_of_gt g2) _) (by kernel_rfl) (by rfl) (by kernel_rfl) ?_
 refine hK.out _ _ ?_ (fun hHeld => ?_)
 ·exact (C3.other (Nat.ne_of_gt (Nat.lt_trans g2 g3)) _).other (Nat.ne_of_gt g3) _
 clear hK K
 try simp only [qpu]
 refine qtk (i := 11) (oi := lxa22o2) (v := (.bool false)) hHeld ?_ ?_
 ·intro w9 hSw
  try dsimp only at hSw
  go_simp
 try simp only [qpu]
 refine wpAnyH_done (by kernel_rfl) ?_ _
 refine NoPanic.normal ?_
 go_wp2
 exact ret_cct (k1 := 4) (k2 := 5) (j := 6) Tryz.f72 (by kernel_rfl) ((D3.set _).other (Nat.ne_of_lt g2) _) ((E3.other (Nat.ne_of_gt g2) _).set _) Tryz.underlying86 (by kernel_rfl) (by kernel_rfl) (by rfl) (by rfl) (by rfl) rfl ⟨rfl, below_setRow (below_setRow f3 g1 _) g2' _⟩
set_option maxRecDepth 100000 in
set_option maxHeartbeats 4000000 in
theorem rpiece_2z (r : Rl) (w : World) (hz : zeroP r.s r.sn = true) :
  Calls Tryz.prog 72 #[.agg r.v, .int .i64 2] w fun e w' => e = .returned (.tuple #[.agg pt0.v, .agg pt0.v, .bool true]) ∧ Below w.heap.size w w' := by
 have K1 : Hid (∀ W, Calls Tryz.prog 58 #[.agg #[.int .i64 0, .int .u64 0, .int .u64 0]] W fun e w' => e = .returned (.agg pt0.v) ∧ Below W.heap.size W w') := fun W => raddress_pt ⟨0, 0, 0⟩ W (by simp only; omega)
 have K2 : Hid (∀ W, Calls Tryz.prog 100 #[.agg #[.int .i64 0, .int .u64 0, .int .u64 0, .int .i64 0]] W fun e w' => e = .returned (.agg #[.int .i64 0, .int .u64 0, .int .u64 0]) ∧ Below W.heap.size W w') := rlast_zero
 have K3 := K1
 simp only [zeroP, Bool.and_eq_true, beq_iff_eq] at hz
 obtain ⟨z1, z2, z3', z4⟩ := hz
 generalize pt0 = P at *
 have P' := P
 obtain ⟨W1, hW1⟩ : ∃ W1, w.alloc (.cells r.v 82) = W1 := ⟨_, rfl⟩
 obtain ⟨W2, hW2⟩ : ∃ W2, W1.alloc (.cells z3 86) = W2 := ⟨_, rfl⟩
 obtain ⟨W3, hW3⟩ : ∃ W3, W2.alloc (.cells z3 86) = W3 := ⟨_, rfl⟩
 have b1 := bel_nw hW1
 have b2 := bel_al b1 hW2
 have b3 := bel_al b2 hW3
 have B1 := ((blk_nw hW1).al hW2).al hW3
 have B2 := (blk_nw hW2).al hW3
 have B3 := blk_nw hW3
 have g1 : w.heap.size ≤ W1.heap.size := Nat.le_of_lt (blk_nw hW1).lt
 have g2 : W1.heap.size < W2.heap.size := (blk_nw hW2).lt
 have g2' : w.heap.size ≤ W2.heap.size := Nat.le_trans g1 (Nat.le_of_lt g2)
 have g0 : w.heap.size < W1.heap.size := (blk_nw hW1).lt
 have c0 := B1.cell 2 (.int .i64 r.s.fam) rfl
 have c1 := B1.cell 3 (.int .u64 r.s.hi) rfl
 have c2 := B1.cell 4 (.int .u64 r.s.lo) rfl
 have c3 := B1.cell 5 (.int .i64 r.sn) rfl
 rw [z1] at c0
 rw [z2] at c1
 rw [z3'] at c2
 rw [z4] at c3
 clear z1 z2 z3' z4
 clear b1 b2 B1
 obtain ⟨W4, hW4⟩ : ∃ W4, W3.alloc (.cells #[.int .i64 0, .int .u64 0, .int .u64 0, .int .i64 0] 78) = W4 := ⟨_, rfl⟩
 have b4 := bel_al b3 hW4
 have B4 : Blk W4 W3.heap.size 78 #[.int .i64 0, .int .u64 0, .int .u64 0, .int .i64 0] := blk_nw hW4
 have B24 := B2.al hW4
 have B34 := B3.al hW4
 have g3 : W2.heap.size < W3.heap.size := B3.lt
 generalize r.v = RV at *
 have HW4 : Hid (W3.alloc (.cells #[.int .i64 0, .int .u64 0, .int .u64 0, .int .i64 0] 78) = W4) := hW4
 clear hW4
 go_enter Tryz.func72, Tryz.ntmps72
 go_wp2_with fail
 rw [HW4.out]
 refine wp_region_noPanic ?_
 refine wp_region_held_drew (S := fun w'' => Blk w'' W3.heap.size 78 #[.int .i64 0, .int .u64 0, .int .u64 0, .int .i64 0]) (by kernel_rfl) (by exact B4.drew) (fun hHeld => ?_)
 refine qtk (i := 0) (oi := lxa22o11) (v := (.pointer (some ⟨W3.heap.size, 0, none⟩))) hHeld ?_ ?_
 ·intro w9 hSw
  try dsimp only at hSw
  go_simp
 try simp only [qpu]
 refine qty (i := 1) (oi := lxa22o9) (v := (.agg #[.int .i64 0, .int .u64 0, .int .u64 0])) (yieldsIf_sub rfl _ _ rfl W3.heap.size 0 78 (by rfl) _ _ (fun _ hSw => hSw) (by rfl) Tryz.underlying31 (by kernel_rfl)) hHeld ?_
 try simp only [qpu]
 refine qty (i := 3) (oi := lxa22o10) (v := (.agg #[.int .i64 0, .int .u64 0, .int .u64 0, .int .i64 0])) (yieldsIf_blk rfl _ _ rfl W3.heap.size (by rfl) _ (fun _ hSw => hSw) Tryz.underlying78 (by kernel_rfl)) hHeld ?_
 try simp only [qpu]
 refine qty (i := 6) (oi := lxa22o7) (v := (.agg #[.int .i64 0, .int .u64 0, .int .u64 0, .int .i64 0])) (yieldsIf_blk rfl _ _ rfl W3.heap.size (by rfl) _ (fun _ hSw => hSw) Tryz.underlying78 (by kernel_rfl)) hHeld ?_
 try simp only [qpu]
 refine qtk (i := 7) (oi := lxa22o8) (v := (.agg #[.int .i64 0, .int .u64 0, .int .u64 0, .int .i64 0])) hHeld ?_ ?_
 ·intro w9 hSw
  try dsimp only at hSw
  go_simp
 try simp only [qpu]
 refine qtk (i := 8) (oi := lxa22o3) (v := (.bool true)) hHeld ?_ ?_
 ·intro w9 hSw
  try dsimp only at hSw
  go_simp
 try simp only [qpu]
 refine wpAnyH_ready (rs := [2]) (by kernel_rfl) (by simp) ?_
 refine AllReadyH.cons (o := lxa22o6) rfl (fun K hK => ?_) AllReadyH.nil
 go_simp
 refine Calls.mono (K1.out _) ?_
 rintro e V1 ⟨rfl, bb1⟩
 have C1 := B4.drew.kept bb1
 have D1 := B24.drew.kept bb1
 have E1 := B34.drew.kept bb1
 have f1 := bel_tr b4.drew bb1
 refine hK.out _ _ ?_ (fun hHeld => ?_)
 ·exact C1
 clear hK K
 try simp only [qpu]
 refine wpAnyH_ready (rs := [4]) (by kernel_rfl) (by simp) ?_
 refine AllReadyH.cons (o := lxa22o5) rfl (fun K hK => ?_) AllReadyH.nil
 go_simp
 refine Calls.mono (K2.out _) ?_
 rintro e V2 ⟨rfl, bb2⟩
 have C2 := C1.kept bb2
 have D2 := D1.kept bb2
 have E2 := E1.kept bb2
 have f2 := bel_tr f1 bb2
 refine hK.out _ _ ?_ (fun hHeld => ?_)
 ·exact C2
 clear hK K
 try simp only [qpu]
 refine wpAnyH_ready (rs := [5]) (by kernel_rfl) (by simp) ?_
 refine AllReadyH.cons (o := lxa22o4) rfl (fun K hK => ?_) AllReadyH.nil
 go_simp
 refine Calls.mono (K3.out _) ?_
 rintro e V3 ⟨rfl, bb3⟩
 have C3 := C2.kept bb3
 have D3 := D2.kept bb3
 have E3 := E2.kept bb3
 have f3 := bel_tr f2 bb3
 refine hK.out _ _ ?_ (fun hHeld => ?_)
 ·exact C3
 clear hK K
 try simp only [qpu]
 refine wpAnyH_ready (rs := [9]) (by kernel_rfl) (by simp) ?_
 refine AllReadyH.cons (o := lxa22o0) rfl (fun K hK => ?_) AllReadyH.nil
 refine step_store_blk rfl _ _ _ rfl W1.heap.size P.v _ (by rfl) (by rfl) D3 (by kernel_rfl) (by rfl) (by kernel_rfl) ?_
 refine hK.out _ _ ?_ (fun hHeld => ?_)
 ·exact C3.other (Nat.ne_of_gt (Nat.lt_trans g2 g3)) _
 clear hK K
 try simp only [qpu]
 refine wpAnyH_ready (rs := [10]) (by kernel_rfl) (by simp) ?_
 refine AllReadyH.cons (o := lxa22o1) rfl (fun K hK => ?_) AllReadyH.nil
 refine step_store_blk rfl _ _ _ rfl W2.heap.size P.v _ (by rfl) (by rfl) (E3.other (Nat.ne_of_gt g2) _) (by kernel_rfl) (by rfl) (by kernel_rfl) ?_
 refine hK.out _ _ ?_ (fun hHeld => ?_)
 ·exact (C3.other (Nat.ne_of_gt (Nat.lt_trans g2 g3)) _).other (Nat.ne_of_gt g3) _
 clear hK K
 try simp only [qpu]
 refine qtk (i := 11) (oi := lxa22o2) (v := (.bool true)) hHeld ?_ ?_
 ·intro w9 hSw
  try dsimp only at hSw
  go_simp
 try simp only [qpu]
 refine wpAnyH_done (by kernel_rfl) ?_ _
 refine NoPanic.normal ?_
 go_wp2
 exact ret_cct (k1 := 4) (k2 := 5) (j := 6) Tryz.f72 (by kernel_rfl) ((D3.set _).other (Nat.ne_of_lt g2) _) ((E3.other (Nat.ne_of_gt g2) _).set _) Tryz.underlying86 (by kernel_rfl) (by kernel_rfl) (by rfl) (by rfl) (by rfl) rfl ⟨rfl, below_setRow (below_setRow f3 g1 _) g2' _⟩
set_option maxRecDepth 100000 in
set_option maxHeartbeats 4000000 in
theorem rpiece_3s (r : Rl) (w : World) (ho : r.d.ok) (hp : r.d.rightPrefix r.dn = true) :
  Calls Tryz.prog 72 #[.agg r.v, .int .i64 3] w fun e w' => e = .returned (.tuple #[.agg (ptAd r.d).v, .agg (ptAd (lastAd r.d r.dn)).v, .bool false]) ∧ Below w.heap.size w w' := by
 have hf := right_fam (right_of_prefix hp).1
 have hne : (r.d.fam == 0) = false := by rw [beq_eq_false_iff_ne]; omega
 have K1 := hidW (fun W => raddress_pt r.d W (by omega))
 have K2 : Hid (∀ W, Calls Tryz.prog 100 #[.agg #[.int .i64 r.d.fam, .int .u64 r.d.hi, .int .u64 r.d.lo, .int .i64 r.dn]] W fun e w' => e = .returned (lastAd r.d r.dn).v ∧ Below W.heap.size W w') := fun W => rlast_y r.d.fam r.d.hi r.d.lo r.dn W ho hp
 have K3 := hidW (fun W => raddress_pt (lastAd r.d r.dn) W (by rw [lastAd_fam0]; omega))
 clear ho hp hf
 generalize ptAd (lastAd r.d r.dn) = P' at *
 generalize lastAd r.d r.dn = A2 at *
 generalize ptAd r.d = P at *
 obtain ⟨W1, hW1⟩ : ∃ W1, w.alloc (.cells r.v 82) = W1 := ⟨_, rfl⟩
 obtain ⟨W2, hW2⟩ : ∃ W2, W1.alloc (.cells z3 86) = W2 := ⟨_, rfl⟩
 obtain ⟨W3, hW3⟩ : ∃ W3, W2.alloc (.cells z3 86) = W3 := ⟨_, rfl⟩
 have b1 := bel_nw hW1
 have b2 := bel_al b1 hW2
 have b3 := bel_al b2 hW3
 have B1 := ((blk_nw hW1).al hW2).al hW3
 have B2 := (blk_nw hW2).al hW3
 have B3 := blk_nw hW3
 have g1 : w.heap.size ≤ W1.heap.size := Nat.le_of_lt (blk_nw hW1).lt
 have g2 : W1.heap.size < W2.heap.size := (blk_nw hW2).lt
 have g2' : w.heap.size ≤ W2.heap.size := Nat.le_trans g1 (Nat.le_of_lt g2)
 have g0 : w.heap.size < W1.heap.size := (blk_nw hW1).lt
 have c0 := B1.cell 6 (.int .i64 r.d.fam) rfl
 have c1 := B1.cell 7 (.int .u64 r.d.hi) rfl
 have c2 := B1.cell 8 (.int .u64 r.d.lo) rfl
 have c3 := B1.cell 9 (.int .i64 r.dn) rfl
 have e0 := B1.cell 2 (.int .i64 r.s.fam) rfl
 have e1 := B1.cell 3 (.int .u64 r.s.hi) rfl
 have e2 := B1.cell 4 (.int .u64 r.s.lo) rfl
 have e3 := B1.cell 5 (.int .i64 r.sn) rfl
 have k0 := kept (bel_nw rfl : Below W3.heap.size W3 (W3.alloc (.cells #[.int .i64 r.s.fam, .int .u64 r.s.hi, .int .u64 r.s.lo, .int .i64 r.sn] 78))) c0
 have k1 := kept (bel_nw rfl : Below W3.heap.size W3 (W3.alloc (.cells #[.int .i64 r.s.fam, .int .u64 r.s.hi, .int .u64 r.s.lo, .int .i64 r.sn] 78))) c1
 have k2 := kept (bel_nw rfl : Below W3.heap.size W3 (W3.alloc (.cells #[.int .i64 r.s.fam, .int .u64 r.s.hi, .int .u64 r.s.lo, .int .i64 r.sn] 78))) c2
 have k3 := kept (bel_nw rfl : Below W3.heap.size W3 (W3.alloc (.cells #[.int .i64 r.s.fam, .int .u64 r.s.hi, .int .u64 r.s.lo, .int .i64 r.sn] 78))) c3
 clear b1 b2 B1
 obtain ⟨W4, hW4⟩ : ∃ W4, W3.alloc (.cells #[.int .i64 r.d.fam, .int .u64 r.d.hi, .int .u64 r.d.lo, .int .i64 r.dn] 78) = W4 := ⟨_, rfl⟩
 have b4 := bel_al b3 hW4
 have B4 : Blk W4 W3.heap.size 78 #[.int .i64 r.d.fam, .int .u64 r.d.hi, .int .u64 r.d.lo, .int .i64 r.dn] := blk_nw hW4
 have B24 := B2.al hW4
 have B34 := B3.al hW4
 have g3 : W2.heap.size < W3.heap.size := B3.lt
 generalize r.v = RV at *
 have HW4 : Hid (W3.alloc (.cells #[.int .i64 r.d.fam, .int .u64 r.d.hi, .int .u64 r.d.lo, .int .i64 r.dn] 78) = W4) := hW4
 clear hW4
 go_enter Tryz.func72, Tryz.ntmps72
 go_wp2_with fail
 rw [HW4.out]
 refine wp_region_noPanic ?_
 refine wp_region_held_drew (S := fun w'' => Blk w'' W3.heap.size 78 #[.int .i64 r.d.fam, .int .u64 r.d.hi, .int .u64 r.d.lo, .int .i64 r.dn]) (by kernel_rfl) (by exact B4.drew) (fun hHeld => ?_)
 refine qtk (i := 0) (oi := lxa22o11) (v := (.pointer (some ⟨W3.heap.size, 0, none⟩))) hHeld ?_ ?_
 ·intro w9 hSw
  try dsimp only at hSw
  go_simp
 try simp only [qpu]
 refine qty (i := 1) (oi := lxa22o9) (v := (.agg #[.int .i64 r.d.fam, .int .u64 r.d.hi, .int .u64 r.d.lo])) (yieldsIf_sub rfl _ _ rfl W3.heap.size 0 78 (by rfl) _ _ (fun _ hSw => hSw) (by rfl) Tryz.underlying31 (by kernel_rfl)) hHeld ?_
 try simp only [qpu]
 refine qty (i := 3) (oi := lxa22o10) (v := (.agg #[.int .i64 r.d.fam, .int .u64 r.d.hi, .int .u64 r.d.lo, .int .i64 r.dn])) (yieldsIf_blk rfl _ _ rfl W3.heap.size (by rfl) _ (fun _ hSw => hSw) Tryz.underlying78 (by kernel_rfl)) hHeld ?_
 try simp only [qpu]
 refine qty (i := 6) (oi := lxa22o7) (v := (.agg #[.int .i64 r.d.fam, .int .u64 r.d.hi, .int .u64 r.d.lo, .int .i64 r.dn])) (yieldsIf_blk rfl _ _ rfl W3.heap.size (by rfl) _ (fun _ hSw => hSw) Tryz.underlying78 (by kernel_rfl)) hHeld ?_
 try simp only [qpu]
 refine qtk (i := 7) (oi := lxa22o8) (v := (.agg #[.int .i64 0, .int .u64 0, .int .u64 0, .int .i64 0])) hHeld ?_ ?_
 ·intro w9 hSw
  try dsimp only at hSw
  go_simp
 try simp only [qpu]
 refine qtk (i := 8) (oi := lxa22o3) (v := (.bool false)) hHeld ?_ ?_
 ·intro w9 hSw
  try dsimp only at hSw
  go_simp
 try simp only [qpu]
 refine wpAnyH_ready (rs := [2]) (by kernel_rfl) (by simp) ?_
 refine AllReadyH.cons (o := lxa22o6) rfl (fun K hK => ?_) AllReadyH.nil
 go_simp
 refine Calls.mono (K1.out _) ?_
 rintro e V1 ⟨rfl, bb1⟩
 have C1 := B4.drew.kept bb1
 have D1 := B24.drew.kept bb1
 have E1 := B34.drew.kept bb1
 have f1 := bel_tr b4.drew bb1
 refine hK.out _ _ ?_ (fun hHeld => ?_)
 ·exact C1
 clear hK K
 try simp only [qpu]
 refine wpAnyH_ready (rs := [4]) (by kernel_rfl) (by simp) ?_
 refine AllReadyH.cons (o := lxa22o5) rfl (fun K hK => ?_) AllReadyH.nil
 go_simp
 refine Calls.mono (K2.out _) ?_
 rintro e V2 ⟨rfl, bb2⟩
 have C2 := C1.kept bb2
 have D2 := D1.kept bb2
 have E2 := E1.kept bb2
 have f2 := bel_tr f1 bb2
 refine hK.out _ _ ?_ (fun hHeld => ?_)
 ·exact C2
 clear hK K
 try simp only [qpu]
 refine wpAnyH_ready (rs := [5]) (by kernel_rfl) (by simp) ?_
 refine AllReadyH.cons (o := lxa22o4) rfl (fun K hK => ?_) AllReadyH.nil
 go_simp
 refine Calls.mono (K3.out _) ?_
 rintro e V3 ⟨rfl, bb3⟩
 have C3 := C2.kept bb3
 have D3 := D2.kept bb3
 have E3 := E2.kept bb3
 have f3 := bel_tr f2 bb3
 refine hK.out _ _ ?_ (fun hHeld => ?_)
 ·exact C3
 clear hK K
 try simp only [qpu]
 refine wpAnyH_ready (rs := [9]) (by kernel_rfl) (by simp) ?_
 refine AllReadyH.cons (o := lxa22o0) rfl (fun K hK => ?_) AllReadyH.nil
 refine step_store_blk rfl _ _ _ rfl W1.heap.size P.v _ (by rfl) (by rfl) D3 (by kernel_rfl) (by rfl) (by kernel_rfl) ?_
 refine hK.out _ _ ?_ (fun hHeld => ?_)
 ·exact C3.other (Nat.ne_of_gt (Nat.lt_trans g2 g3)) _
 clear hK K
 try simp only [qpu]
 refine wpAnyH_ready (rs := [10]) (by kernel_rfl) (by simp) ?_
 refine AllReadyH.cons (o := lxa22o1) rfl (fun K hK => ?_) AllReadyH.nil
 refine step_store_blk rfl _ _ _ rfl W2.heap.size P'.v _ (by rfl) (by rfl) (E3.other (Nat.ne_of_gt g2) _) (by kernel_rfl) (by rfl) (by kernel_rfl) ?_
 refine hK.out _ _ ?_ (fun hHeld => ?_)
 ·exact (C3.other (Nat.ne_of_gt (Nat.lt_trans g2 g3)) _).other (Nat.ne_of_gt g3) _
 clear hK K
 try simp only [qpu]
 refine qtk (i := 11) (oi := lxa22o2) (v := (.bool false)) hHeld ?_ ?_
 ·intro w9 hSw
  try dsimp only at hSw
  go_simp
 try simp only [qpu]
 refine wpAnyH_done (by kernel_rfl) ?_ _
 refine NoPanic.normal ?_
 go_wp2
 exact ret_cct (k1 := 4) (k2 := 5) (j := 6) Tryz.f72 (by kernel_rfl) ((D3.set _).other (Nat.ne_of_lt g2) _) ((E3.other (Nat.ne_of_gt g2) _).set _) Tryz.underlying86 (by kernel_rfl) (by kernel_rfl) (by rfl) (by rfl) (by rfl) rfl ⟨rfl, below_setRow (below_setRow f3 g1 _) g2' _⟩
set_option maxRecDepth 100000 in
set_option maxHeartbeats 4000000 in
theorem rpiece_3z (r : Rl) (w : World) (hz : zeroP r.d r.dn = true) :
  Calls Tryz.prog 72 #[.agg r.v, .int .i64 3] w fun e w' => e = .returned (.tuple #[.agg pt0.v, .agg pt0.v, .bool true]) ∧ Below w.heap.size w w' := by
 have K1 : Hid (∀ W, Calls Tryz.prog 58 #[.agg #[.int .i64 0, .int .u64 0, .int .u64 0]] W fun e w' => e = .returned (.agg pt0.v) ∧ Below W.heap.size W w') := fun W => raddress_pt ⟨0, 0, 0⟩ W (by simp only; omega)
 have K2 : Hid (∀ W, Calls Tryz.prog 100 #[.agg #[.int .i64 0, .int .u64 0, .int .u64 0, .int .i64 0]] W fun e w' => e = .returned (.agg #[.int .i64 0, .int .u64 0, .int .u64 0]) ∧ Below W.heap.size W w') := rlast_zero
 have K3 := K1
 simp only [zeroP, Bool.and_eq_true, beq_iff_eq] at hz
 obtain ⟨z1, z2, z3', z4⟩ := hz
 generalize pt0 = P at *
 have P' := P
 obtain ⟨W1, hW1⟩ : ∃ W1, w.alloc (.cells r.v 82) = W1 := ⟨_, rfl⟩
 obtain ⟨W2, hW2⟩ : ∃ W2, W1.alloc (.cells z3 86) = W2 := ⟨_, rfl⟩
 obtain ⟨W3, hW3⟩ : ∃ W3, W2.alloc (.cells z3 86) = W3 := ⟨_, rfl⟩
 have b1 := bel_nw hW1
 have b2 := bel_al b1 hW2
 have b3 := bel_al b2 hW3
 have B1 := ((blk_nw hW1).al hW2).al hW3
 have B2 := (blk_nw hW2).al hW3
 have B3 := blk_nw hW3
 have g1 : w.heap.size ≤ W1.heap.size := Nat.le_of_lt (blk_nw hW1).lt
 have g2 : W1.heap.size < W2.heap.size := (blk_nw hW2).lt
 have g2' : w.heap.size ≤ W2.heap.size := Nat.le_trans g1 (Nat.le_of_lt g2)
 have g0 : w.heap.size < W1.heap.size := (blk_nw hW1).lt
 have c0 := B1.cell 6 (.int .i64 r.d.fam) rfl
 have c1 := B1.cell 7 (.int .u64 r.d.hi) rfl
 have c2 := B1.cell 8 (.int .u64 r.d.lo) rfl
 have c3 := B1.cell 9 (.int .i64 r.dn) rfl
 rw [z1] at c0
 rw [z2] at c1
 rw [z3'] at c2
 rw [z4] at c3
 clear z1 z2 z3' z4
 have e0 := B1.cell 2 (.int .i64 r.s.fam) rfl
 have e1 := B1.cell 3 (.int .u64 r.s.hi) rfl
 have e2 := B1.cell 4 (.int .u64 r.s.lo) rfl
 have e3 := B1.cell 5 (.int .i64 r.sn) rfl
 have k0 := kept (bel_nw rfl : Below W3.heap.size W3 (W3.alloc (.cells #[.int .i64 r.s.fam, .int .u64 r.s.hi, .int .u64 r.s.lo, .int .i64 r.sn] 78))) c0
 have k1 := kept (bel_nw rfl : Below W3.heap.size W3 (W3.alloc (.cells #[.int .i64 r.s.fam, .int .u64 r.s.hi, .int .u64 r.s.lo, .int .i64 r.sn] 78))) c1
 have k2 := kept (bel_nw rfl : Below W3.heap.size W3 (W3.alloc (.cells #[.int .i64 r.s.fam, .int .u64 r.s.hi, .int .u64 r.s.lo, .int .i64 r.sn] 78))) c2
 have k3 := kept (bel_nw rfl : Below W3.heap.size W3 (W3.alloc (.cells #[.int .i64 r.s.fam, .int .u64 r.s.hi, .int .u64 r.s.lo, .int .i64 r.sn] 78))) c3
 clear b1 b2 B1
 obtain ⟨W4, hW4⟩ : ∃ W4, W3.alloc (.cells #[.int .i64 0, .int .u64 0, .int .u64 0, .int .i64 0] 78) = W4 := ⟨_, rfl⟩
 have b4 := bel_al b3 hW4
 have B4 : Blk W4 W3.heap.size 78 #[.int .i64 0, .int .u64 0, .int .u64 0, .int .i64 0] := blk_nw hW4
 have B24 := B2.al hW4
 have B34 := B3.al hW4
 have g3 : W2.heap.size < W3.heap.size := B3.lt
 generalize r.v = RV at *
 generalize r.s.fam = sf at *
 generalize r.s.hi = sh at *
 generalize r.s.lo = sl at *
 generalize r.sn = sn at *
 have HW4 : Hid (W3.alloc (.cells #[.int .i64 0, .int .u64 0, .int .u64 0, .int .i64 0] 78) = W4) := hW4
 clear hW4
 go_enter Tryz.func72, Tryz.ntmps72
 go_wp2_with fail
 rw [HW4.out]
 refine wp_region_noPanic ?_
 refine wp_region_held_drew (S := fun w'' => Blk w'' W3.heap.size 78 #[.int .i64 0, .int .u64 0, .int .u64 0, .int .i64 0]) (by kernel_rfl) (by exact B4.drew) (fun hHeld => ?_)
 refine qtk (i := 0) (oi := lxa22o11) (v := (.pointer (some ⟨W3.heap.size, 0, none⟩))) hHeld ?_ ?_
 ·intro w9 hSw
  try dsimp only at hSw
  go_simp
 try simp only [qpu]
 refine qty (i := 1) (oi := lxa22o9) (v := (.agg #[.int .i64 0, .int .u64 0, .int .u64 0])) (yieldsIf_sub rfl _ _ rfl W3.heap.size 0 78 (by rfl) _ _ (fun _ hSw => hSw) (by rfl) Tryz.underlying31 (by kernel_rfl)) hHeld ?_
 try simp only [qpu]
 refine qty (i := 3) (oi := lxa22o10) (v := (.agg #[.int .i64 0, .int .u64 0, .int .u64 0, .int .i64 0])) (yieldsIf_blk rfl _ _ rfl W3.heap.size (by rfl) _ (fun _ hSw => hSw) Tryz.underlying78 (by kernel_rfl)) hHeld ?_
 try simp only [qpu]
 refine qty (i := 6) (oi := lxa22o7) (v := (.agg #[.int .i64 0, .int .u64 0, .int .u64 0, .int .i64 0])) (yieldsIf_blk rfl _ _ rfl W3.heap.size (by rfl) _ (fun _ hSw => hSw) Tryz.underlying78 (by kernel_rfl)) hHeld ?_
 try simp only [qpu]
 refine qtk (i := 7) (oi := lxa22o8) (v := (.agg #[.int .i64 0, .int .u64 0, .int .u64 0, .int .i64 0])) hHeld ?_ ?_
 ·intro w9 hSw
  try dsimp only at hSw
  go_simp
 try simp only [qpu]
 refine qtk (i := 8) (oi := lxa22o3) (v := (.bool true)) hHeld ?_ ?_
 ·intro w9 hSw
  try dsimp only at hSw
  go_simp
 try simp only [qpu]
 refine wpAnyH_ready (rs := [2]) (by kernel_rfl) (by simp) ?_
 refine AllReadyH.cons (o := lxa22o6) rfl (fun K hK => ?_) AllReadyH.nil
 go_simp
 refine Calls.mono (K1.out _) ?_
 rintro e V1 ⟨rfl, bb1⟩
 have C1 := B4.drew.kept bb1
 have D1 := B24.drew.kept bb1
 have E1 := B34.drew.kept bb1
 have f1 := bel_tr b4.drew bb1
 refine hK.out _ _ ?_ (fun hHeld => ?_)
 ·exact C1
 clear hK K
 try simp only [qpu]
 refine wpAnyH_ready (rs := [4]) (by kernel_rfl) (by simp) ?_
 refine AllReadyH.cons (o := lxa22o5) rfl (fun K hK => ?_) AllReadyH.nil
 go_simp
 refine Calls.mono (K2.out _) ?_
 rintro e V2 ⟨rfl, bb2⟩
 have C2 := C1.kept bb2
 have D2 := D1.kept bb2
 have E2 := E1.kept bb2
 have f2 := bel_tr f1 bb2
 refine hK.out _ _ ?_ (fun hHeld => ?_)
 ·exact C2
 clear hK K
 try simp only [qpu]
 refine wpAnyH_ready (rs := [5]) (by kernel_rfl) (by simp) ?_
 refine AllReadyH.cons (o := lxa22o4) rfl (fun K hK => ?_) AllReadyH.nil
 go_simp
 refine Calls.mono (K3.out _) ?_
 rintro e V3 ⟨rfl, bb3⟩
 have C3 := C2.kept bb3
 have D3 := D2.kept bb3
 have E3 := E2.kept bb3
 have f3 := bel_tr f2 bb3
 refine hK.out _ _ ?_ (fun hHeld => ?_)
 ·exact C3
 clear hK K
 try simp only [qpu]
 refine wpAnyH_ready (rs := [9]) (by kernel_rfl) (by simp) ?_
 refine AllReadyH.cons (o := lxa22o0) rfl (fun K hK => ?_) AllReadyH.nil
 refine step_store_blk rfl _ _ _ rfl W1.heap.size P.v _ (by rfl) (by rfl) D3 (by kernel_rfl) (by rfl) (by kernel_rfl) ?_
 refine hK.out _ _ ?_ (fun hHeld => ?_)
 ·exact C3.other (Nat.ne_of_gt (Nat.lt_trans g2 g3)) _
 clear hK K
 try simp only [qpu]
 refine wpAnyH_ready (rs := [10]) (by kernel_rfl) (by simp) ?_
 refine AllReadyH.cons (o := lxa22o1) rfl (fun K hK => ?_) AllReadyH.nil
 refine step_store_blk rfl _ _ _ rfl W2.heap.size P.v _ (by rfl) (by rfl) (E3.other (Nat.ne_of_gt g2) _) (by kernel_rfl) (by rfl) (by kernel_rfl) ?_
 refine hK.out _ _ ?_ (fun hHeld => ?_)
 ·exact (C3.other (Nat.ne_of_gt (Nat.lt_trans g2 g3)) _).other (Nat.ne_of_gt g3) _
 clear hK K
 try simp only [qpu]
 refine qtk (i := 11) (oi := lxa22o2) (v := (.bool true)) hHeld ?_ ?_
 ·intro w9 hSw
  try dsimp only at hSw
  go_simp
 try simp only [qpu]
 refine wpAnyH_done (by kernel_rfl) ?_ _
 refine NoPanic.normal ?_
 go_wp2
 exact ret_cct (k1 := 4) (k2 := 5) (j := 6) Tryz.f72 (by kernel_rfl) ((D3.set _).other (Nat.ne_of_lt g2) _) ((E3.other (Nat.ne_of_gt g2) _).set _) Tryz.underlying86 (by kernel_rfl) (by kernel_rfl) (by rfl) (by rfl) (by rfl) rfl ⟨rfl, below_setRow (below_setRow f3 g1 _) g2' _⟩
end Go.Proofs.YtmfgjicfdjjihaaGreatDoor
