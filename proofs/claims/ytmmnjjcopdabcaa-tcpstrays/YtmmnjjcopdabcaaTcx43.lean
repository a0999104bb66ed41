/- Texts joined: TcR -/
import Derived.Test.YtmmnjjcopdabcaaTcx26
import Derived.Test.YtmmnjjcopdabcaaTcx42
namespace Go.Proofs.Ytmmnjjcopdabcaa
open Go.RowKit
set_option linter.unusedVariables false
set_option linter.unusedSimpArgs false
set_option maxRecDepth 100000 in
set_option maxHeartbeats 4000000 in
theorem opened_tc (a b v0 v1 : Int) (w : World) (h0 : 0 ≤ v0 ∧ v0 ≤ 65535) (h1 : 0 ≤ v1 ∧ v1 ≤ 65535) :
  Calls Try.prog 20 #[.int .u32 a, .int .u32 b, .agg #[.int .i64 v0, .int .i64 v1]] w fun e w' => e = .returned (.tuple #[.agg (opn a b v0 v1).v, .bool true]) ∧ Below w.heap.size w w' := by
 have KB : Hid (∀ W, Calls Try.prog 10 #[.int .i64 2, .int .u32 a, .int .i64 v0, .int .i64 0] W fun e w' => e = .returned (.tuple #[.agg (opn1 a v0).v, .int .i64 0]) ∧ Below W.heap.size W w') := fun W => by have h := begin_tc 2 a v0 0 W; rw [opn_1 h0] at h; exact h
 have K1 : Hid (∀ W, Calls Try.prog 17 #[.agg (opn1 a v0).v, .int .i64 1, .agg (Gt.v ⟨18, v1, 0, b, (a + 1) % 4294967296⟩)] W fun e w' => e = .returned (.tuple #[.agg (opn2 a b v0 v1).v, .int .i64 0]) ∧ Below W.heap.size W w') := fun W => by have h := step1_tc (opn1 a v0) ⟨18, v1, 0, b, (a + 1) % 4294967296⟩ W; rw [opn_2 h0 h1] at h; exact h
 have K2 : Hid (∀ W, Calls Try.prog 17 #[.agg (opn2 a b v0 v1).v, .int .i64 0, .agg (Gt.v ⟨16, v0, 0, (a + 1) % 4294967296, (b + 1) % 4294967296⟩)] W fun e w' => e = .returned (.tuple #[.agg (opn a b v0 v1).v, .int .i64 0]) ∧ Below W.heap.size W w') := fun W => by have h := step0_tc (opn2 a b v0 v1) ⟨16, v0, 0, (a + 1) % 4294967296, (b + 1) % 4294967296⟩ W; rw [opn_3 h0 h1] at h; exact h
 have e3 : ((opn a b v0 v1).st == 3) = true := rfl
 generalize opn1 a v0 = c1 at *
 generalize opn2 a b v0 v1 = c2 at *
 generalize opn a b v0 v1 = c3 at *
 clear h0 h1
 obtain ⟨Wk1, hWk1⟩ : ∃ W, w.alloc (.cells #[.int .i64 v0, .int .i64 v1] 49) = W := ⟨_, rfl⟩
 have bk1 := bel_nw hWk1
 have Vk1 := blk_nw hWk1
 obtain ⟨Wk2, hWk2⟩ : ∃ W, Wk1.alloc (.cells #[.int .i64 0, .int .u32 0, .int .u32 0, .int .u32 0, .int .u32 0, .bool false, .bool false, .bool false, .bool false] 28) = W := ⟨_, rfl⟩
 have bk2 := bel_al bk1 hWk2
 have Vk2 := Vk1.al hWk2
 have Zk2 := blk_nw hWk2
 have gZ : w.heap.size ≤ Wk1.heap.size := bk1.size
 clear Vk1 bk1
 have q0 := Vk2.cell 0 (.int .i64 v0) rfl
 have q1 := Vk2.cell 1 (.int .i64 v1) rfl
 go_enter Try.func20, Try.ntmps20
 go_wp2_with fail
 refine Calls.mono (KB.out _) ?_
 rintro e Wk3 ⟨rfl, bb⟩
 have Vk3 := Vk2.kept bb
 have Zk3 := Zk2.kept bb
 have bk3 := bel_tr bk2 bb
 clear bb
 clear Vk2 Zk2 bk2
 obtain ⟨Wyk4, hWyk4⟩ : ∃ W, Wk3.alloc (.cells #[.int .i64 0, .int .u32 0, .int .u32 0, .int .u32 0, .int .u32 0, .bool false, .bool false, .bool false, .bool false] 28) = W := ⟨_, rfl⟩
 have Bbyk4 := blk_nw hWyk4
 have Vyk4 := Vk3.al hWyk4
 have Zyk4 := Zk3.al hWyk4
 have byk4 := bel_al bk3 hWyk4
 have gC : w.heap.size ≤ Wk3.heap.size := bk3.size
 have nVC : w.heap.size ≠ Wk3.heap.size := by have := Vk3.lt; omega
 have nCV : Wk3.heap.size ≠ w.heap.size := fun e => nVC e.symm
 have nZC : Wk1.heap.size ≠ Wk3.heap.size := by have := Zk3.lt; omega
 have nCZ : Wk3.heap.size ≠ Wk1.heap.size := fun e => nZC e.symm
 obtain ⟨Wk4, hWk4⟩ : ∃ W, Wyk4.setRow Wk3.heap.size c1.v = W := ⟨_, rfl⟩
 have Ck4 : Blk Wk4 Wk3.heap.size 28 c1.v := hWk4 ▸ Bbyk4.set _
 have Vk4 := hWk4 ▸ Vyk4.other nVC c1.v
 have Zk4 := hWk4 ▸ Zyk4.other nZC c1.v
 have bk4 := hWk4 ▸ below_setRow byk4 gC c1.v
 clear Vyk4 Zyk4 byk4
 clear Vk3 Zk3 bk3
 have u0 := Vk4.cell 0 (.int .i64 v0) rfl
 have u1 := Vk4.cell 1 (.int .i64 v1) rfl
 go_wp2_with (first | (refine wpList_load_suba_w (by rfl) _ _ rfl w.heap.size 0 _ (by rfl) _ #[.int .i64 v0, .int .i64 v1] Vk4 (by rfl) Try.underlying49 (by kernel_rfl) ?_) | (refine wpList_load_blk_w (by rfl) _ _ rfl Wk1.heap.size (by rfl) _ Zk4 Try.underlying28 (by kernel_rfl) ?_) | (refine wpList_load_blk_w (by rfl) _ _ rfl Wk3.heap.size (by rfl) _ Ck4 Try.underlying28 (by kernel_rfl) ?_) | (refine wpList_store_row rfl _ _ _ rfl Wk3.heap.size c1.v (by rfl) (by rfl) _ _ Bbyk4 (by kernel_rfl) (by rfl) (by kernel_rfl) ?_; rw [hWk4]))
 refine Calls.mono (K1.out _) ?_
 rintro e Wk5 ⟨rfl, bb⟩
 have Vk5 := Vk4.kept bb
 have Zk5 := Zk4.kept bb
 have Ck5 := Ck4.kept bb
 have bk5 := bel_tr bk4 bb
 clear bb
 clear Vk4 Zk4 Ck4 bk4
 obtain ⟨Wyk6, hWyk6⟩ : ∃ W, Wk5.alloc (.cells #[.int .i64 0, .int .u32 0, .int .u32 0, .int .u32 0, .int .u32 0, .bool false, .bool false, .bool false, .bool false] 28) = W := ⟨_, rfl⟩
 have Bbyk6 := blk_nw hWyk6
 have Vyk6 := Vk5.al hWyk6
 have Zyk6 := Zk5.al hWyk6
 have Cyk6 := Ck5.al hWyk6
 have byk6 := bel_al bk5 hWyk6
 have gD : w.heap.size ≤ Wk5.heap.size := bk5.size
 have nVD : w.heap.size ≠ Wk5.heap.size := by have := Vk5.lt; omega
 have nDV : Wk5.heap.size ≠ w.heap.size := fun e => nVD e.symm
 have nZD : Wk1.heap.size ≠ Wk5.heap.size := by have := Zk5.lt; omega
 have nDZ : Wk5.heap.size ≠ Wk1.heap.size := fun e => nZD e.symm
 have nCD : Wk3.heap.size ≠ Wk5.heap.size := by have := Ck5.lt; omega
 have nDC : Wk5.heap.size ≠ Wk3.heap.size := fun e => nCD e.symm
 obtain ⟨Wk6, hWk6⟩ : ∃ W, Wyk6.setRow Wk5.heap.size c2.v = W := ⟨_, rfl⟩
 have Dk6 : Blk Wk6 Wk5.heap.size 28 c2.v := hWk6 ▸ Bbyk6.set _
 have Vk6 := hWk6 ▸ Vyk6.other nVD c2.v
 have Zk6 := hWk6 ▸ Zyk6.other nZD c2.v
 have Ck6 := hWk6 ▸ Cyk6.other nCD c2.v
 have bk6 := hWk6 ▸ below_setRow byk6 gD c2.v
 clear Vyk6 Zyk6 Cyk6 byk6
 clear Vk5 Zk5 Ck5 bk5
 have s0 := Vk6.cell 0 (.int .i64 v0) rfl
 have s1 := Vk6.cell 1 (.int .i64 v1) rfl
 go_wp2_with (first | (refine wpList_load_suba_w (by rfl) _ _ rfl w.heap.size 0 _ (by rfl) _ #[.int .i64 v0, .int .i64 v1] Vk6 (by rfl) Try.underlying49 (by kernel_rfl) ?_) | (refine wpList_load_blk_w (by rfl) _ _ rfl Wk1.heap.size (by rfl) _ Zk6 Try.underlying28 (by kernel_rfl) ?_) | (refine wpList_load_blk_w (by rfl) _ _ rfl Wk3.heap.size (by rfl) _ Ck6 Try.underlying28 (by kernel_rfl) ?_) | (refine wpList_load_blk_w (by rfl) _ _ rfl Wk5.heap.size (by rfl) _ Dk6 Try.underlying28 (by kernel_rfl) ?_) | (refine wpList_store_row rfl _ _ _ rfl Wk5.heap.size c2.v (by rfl) (by rfl) _ _ Bbyk6 (by kernel_rfl) (by rfl) (by kernel_rfl) ?_; rw [hWk6]))
 refine Calls.mono (K2.out _) ?_
 rintro e Wk7 ⟨rfl, bb⟩
 have Vk7 := Vk6.kept bb
 have Zk7 := Zk6.kept bb
 have Ck7 := Ck6.kept bb
 have Dk7 := Dk6.kept bb
 have bk7 := bel_tr bk6 bb
 clear bb
 clear Vk6 Zk6 Ck6 Dk6 bk6
 obtain ⟨Wyk8, hWyk8⟩ : ∃ W, Wk7.alloc (.cells #[.int .i64 0, .int .u32 0, .int .u32 0, .int .u32 0, .int .u32 0, .bool false, .bool false, .bool false, .bool false] 28) = W := ⟨_, rfl⟩
 have Bbyk8 := blk_nw hWyk8
 have Vyk8 := Vk7.al hWyk8
 have Zyk8 := Zk7.al hWyk8
 have Cyk8 := Ck7.al hWyk8
 have Dyk8 := Dk7.al hWyk8
 have byk8 := bel_al bk7 hWyk8
 have gO : w.heap.size ≤ Wk7.heap.size := bk7.size
 have nVO : w.heap.size ≠ Wk7.heap.size := by have := Vk7.lt; omega
 have nOV : Wk7.heap.size ≠ w.heap.size := fun e => nVO e.symm
 have nZO : Wk1.heap.size ≠ Wk7.heap.size := by have := Zk7.lt; omega
 have nOZ : Wk7.heap.size ≠ Wk1.heap.size := fun e => nZO e.symm
 have nCO : Wk3.heap.size ≠ Wk7.heap.size := by have := Ck7.lt; omega
 have nOC : Wk7.heap.size ≠ Wk3.heap.size := fun e => nCO e.symm
 have nDO : Wk5.heap.size ≠ Wk7.heap.size := by have := Dk7.lt; omega
 have nOD : Wk7.heap.size ≠ Wk5.heap.size := fun e => nDO e.symm
 obtain ⟨Wk8, hWk8⟩ : ∃ W, Wyk8.setRow Wk7.heap.size c3.v = W := ⟨_, rfl⟩
 have Ok8 : Blk Wk8 Wk7.heap.size 28 c3.v := hWk8 ▸ Bbyk8.set _
 have Vk8 := hWk8 ▸ Vyk8.other nVO c3.v
 have Zk8 := hWk8 ▸ Zyk8.other nZO c3.v
 have Ck8 := hWk8 ▸ Cyk8.other nCO c3.v
 have Dk8 := hWk8 ▸ Dyk8.other nDO c3.v
 have bk8 := hWk8 ▸ below_setRow byk8 gO c3.v
 clear Vyk8 Zyk8 Cyk8 Dyk8 byk8
 clear Vk7 Zk7 Ck7 Dk7 bk7
 go_wp2_with (first | (refine wpList_load_suba_w (by rfl) _ _ rfl w.heap.size 0 _ (by rfl) _ #[.int .i64 v0, .int .i64 v1] Vk8 (by rfl) Try.underlying49 (by kernel_rfl) ?_) | (refine wpList_load_blk_w (by rfl) _ _ rfl Wk1.heap.size (by rfl) _ Zk8 Try.underlying28 (by kernel_rfl) ?_) | (refine wpList_load_blk_w (by rfl) _ _ rfl Wk3.heap.size (by rfl) _ Ck8 Try.underlying28 (by kernel_rfl) ?_) | (refine wpList_load_blk_w (by rfl) _ _ rfl Wk5.heap.size (by rfl) _ Dk8 Try.underlying28 (by kernel_rfl) ?_) | (refine wpList_load_blk_w (by rfl) _ _ rfl Wk7.heap.size (by rfl) _ Ok8 Try.underlying28 (by kernel_rfl) ?_) | (refine wpList_store_row rfl _ _ _ rfl Wk7.heap.size c3.v (by rfl) (by rfl) _ _ Bbyk8 (by kernel_rfl) (by rfl) (by kernel_rfl) ?_; rw [hWk8]))
 have Od := Ok8.drew
 have Zd := Zk8.drew
 have bd := bk8.drew
 refine wp_region_noPanic ?_
 refine wp_region_held_drew (S := fun w' => Blk w' Wk7.heap.size 28 c3.v) (by kernel_rfl) (by exact Od) (fun hHeld => ?_)
 refine qty (i := 0) (oi := { dst := some 44, op := Op.load 28 (.tmp 12), type := 28, pos := "law.go:75", after := #[], guard := none }) (v := (.agg c3.v)) (yieldsIf_blk_w (by kernel_rfl) _ _ rfl Wk7.heap.size (by rfl) _ (fun _ hSw => hSw) Try.underlying28 (by kernel_rfl)) hHeld ?_
 try simp only [qpu]
 refine qtk (i := 1) (oi := { dst := some 45, op := Op.move (.tmp 9), type := 29, pos := "law.go:75", after := #[], guard := none }) (v := (.int .i64 0)) hHeld ?_ ?_
 ·intro w9 hSw
  try dsimp only at hSw
  go_simp
 try simp only [qpu]
 refine qtk (i := 2) (oi := { dst := some 46, op := Op.binOp BinOp.eql 29 (.tmp 45) (.const (.int .i64 0)) 29, type := 4, pos := "law.go:75", after := #[{ on := 1, ground := Ground.data }], guard := none }) (v := (.bool true)) hHeld ?_ ?_
 ·intro w9 hSw
  try dsimp only at hSw
  go_simp
 try simp only [qpu]
 refine qtk (i := 3) (oi := { dst := some 47, op := Op.move (.tmp 46), type := 4, pos := "law.go:75", after := #[{ on := 2, ground := Ground.data }], guard := none }) (v := (.bool true)) hHeld ?_ ?_
 ·intro w9 hSw
  try dsimp only at hSw
  go_simp
 try simp only [qpu]
 refine qtk (i := 4) (oi := { dst := some 48, op := Op.move (.tmp 11), type := 29, pos := "law.go:75", after := #[{ on := 3, ground := Ground.guard }], guard := some (3, true) }) (v := (.int .i64 0)) hHeld ?_ ?_
 ·intro w9 hSw
  try dsimp only at hSw
  go_simp
 try simp only [qpu]
 refine qtk (i := 5) (oi := { dst := some 49, op := Op.binOp BinOp.eql 29 (.tmp 48) (.const (.int .i64 0)) 29, type := 4, pos := "law.go:75", after := #[{ on := 4, ground := Ground.data }, { on := 3, ground := Ground.guard }], guard := some (3, true) }) (v := (.bool true)) hHeld ?_ ?_
 ·intro w9 hSw
  try dsimp only at hSw
  go_simp
 try simp only [qpu]
 refine qtk (i := 6) (oi := { dst := some 50, op := Op.pick (.tmp 47) (.tmp 49) (.const (.bool false)), type := 4, pos := "law.go:75", after := #[{ on := 3, ground := Ground.data }, { on := 5, ground := Ground.data }], guard := none }) (v := (.bool true)) hHeld ?_ ?_
 ·intro w9 hSw
  try dsimp only at hSw
  go_simp
 try simp only [qpu]
 refine qtk (i := 7) (oi := { dst := some 51, op := Op.move (.tmp 50), type := 4, pos := "law.go:75", after := #[{ on := 6, ground := Ground.data }, { on := 3, ground := Ground.chain }], guard := none }) (v := (.bool true)) hHeld ?_ ?_
 ·intro w9 hSw
  try dsimp only at hSw
  go_simp
 try simp only [qpu]
 refine qtk (i := 8) (oi := { dst := some 52, op := Op.move (.tmp 13), type := 29, pos := "law.go:75", after := #[{ on := 7, ground := Ground.guard }], guard := some (7, true) }) (v := (.int .i64 0)) hHeld ?_ ?_
 ·intro w9 hSw
  try dsimp only at hSw
  go_simp
 try simp only [qpu]
 refine qtk (i := 9) (oi := { dst := some 53, op := Op.binOp BinOp.eql 29 (.tmp 52) (.const (.int .i64 0)) 29, type := 4, pos := "law.go:75", after := #[{ on := 8, ground := Ground.data }, { on := 7, ground := Ground.guard }], guard := some (7, true) }) (v := (.bool true)) hHeld ?_ ?_
 ·intro w9 hSw
  try dsimp only at hSw
  go_simp
 try simp only [qpu]
 refine qtk (i := 10) (oi := { dst := some 54, op := Op.pick (.tmp 51) (.tmp 53) (.const (.bool false)), type := 4, pos := "law.go:75", after := #[{ on := 7, ground := Ground.data }, { on := 9, ground := Ground.data }], guard := none }) (v := (.bool true)) hHeld ?_ ?_
 ·intro w9 hSw
  try dsimp only at hSw
  go_simp
 try simp only [qpu]
 refine qtk (i := 11) (oi := { dst := some 55, op := Op.move (.tmp 54), type := 4, pos := "law.go:75", after := #[{ on := 10, ground := Ground.data }, { on := 7, ground := Ground.chain }], guard := none }) (v := (.bool true)) hHeld ?_ ?_
 ·intro w9 hSw
  try dsimp only at hSw
  go_simp
 try simp only [qpu]
 refine qtk (i := 12) (oi := { dst := some 56, op := Op.fieldAddr 28 (.tmp 12) 0, type := 0, pos := "law.go:75", after := #[{ on := 11, ground := Ground.guard }, { on := 16, ground := Ground.gcOnly Departure.lateStores }], guard := some (11, true) }) (v := (.pointer (some ⟨Wk7.heap.size, 0, none⟩))) hHeld ?_ ?_
 ·intro w9 hSw
  try dsimp only at hSw
  go_simp
 try simp only [qpu]
 refine qtk (i := 13) (oi := { dst := some 57, op := Op.load 3 (.tmp 56), type := 3, pos := "law.go:75", after := #[{ on := 12, ground := Ground.data }, { on := 11, ground := Ground.guard }, { on := 16, ground := Ground.gcOnly Departure.lateStores }], guard := some (11, true) }) (v := (.int .i64 c3.st)) hHeld ?_ ?_
 ·intro w9 hSw
  try dsimp only at hSw
  have hcc := hSw.cell 0 (.int .i64 c3.st) rfl
  go_simp
 try simp only [qpu]
 refine qtk (i := 14) (oi := { dst := some 58, op := Op.binOp BinOp.eql 3 (.tmp 57) (.const (.int .i64 3)) 3, type := 4, pos := "law.go:75", after := #[{ on := 13, ground := Ground.data }, { on := 11, ground := Ground.guard }, { on := 16, ground := Ground.gcOnly Departure.lateStores }], guard := some (11, true) }) (v := (.bool true)) hHeld ?_ ?_
 ·intro w9 hSw
  try dsimp only at hSw
  go_simp
 try simp only [qpu]
 refine qtk (i := 15) (oi := { dst := some 59, op := Op.pick (.tmp 55) (.tmp 58) (.const (.bool false)), type := 4, pos := "law.go:75", after := #[{ on := 11, ground := Ground.data }, { on := 14, ground := Ground.data }, { on := 16, ground := Ground.gcOnly Departure.lateStores }], guard := none }) (v := (.bool true)) hHeld ?_ ?_
 ·intro w9 hSw
  try dsimp only at hSw
  go_simp
 try simp only [qpu]
 refine wpAnyH_ready (rs := [16]) (by kernel_rfl) (by simp) ?_
 refine AllReadyH.cons (o := { dst := none, op := Op.store 28 (.tmp 6) (.tmp 44), type := 0, pos := "law.go:75", after := #[{ on := 0, ground := Ground.data }, { on := 11, ground := Ground.chain }, { on := 0, ground := Ground.phase }, { on := 1, ground := Ground.textOnly Departure.lateStores }, { on := 2, ground := Ground.textOnly Departure.lateStores }, { on := 3, ground := Ground.textOnly Departure.lateStores }, { on := 4, ground := Ground.textOnly Departure.lateStores }, { on := 5, ground := Ground.textOnly Departure.lateStores }, { on := 6, ground := Ground.textOnly Departure.lateStores }, { on := 7, ground := Ground.textOnly Departure.lateStores }, { on := 8, ground := Ground.textOnly Departure.lateStores }, { on := 9, ground := Ground.textOnly Departure.lateStores }, { on := 10, ground := Ground.textOnly Departure.lateStores }, { on := 11, ground := Ground.textOnly Departure.lateStores }, { on := 12, ground := Ground.textOnly Departure.lateStores }, { on := 13, ground := Ground.textOnly Departure.lateStores }, { on := 14, ground := Ground.textOnly Departure.lateStores }, { on := 15, ground := Ground.textOnly Departure.lateStores }], guard := none }) rfl (fun K hK => ?_) AllReadyH.nil
 refine step_store_blk rfl _ _ _ rfl Wk1.heap.size c3.v _ (by rfl) (by rfl) Zd (by kernel_rfl) (by rfl) (by kernel_rfl) ?_
 have Ox1 := Od.other nOZ c3.v
 have Zx1 := Zd.set c3.v
 have bx1 := below_setRow bd gZ c3.v
 refine hK.out _ _ (by exact Ox1) (fun hHeld => ?_)
 clear hK K
 try simp only [qpu]
 refine qtk (i := 17) (oi := { dst := some 7, op := Op.assign (.tmp 59), type := 4, pos := "law.go:75", after := #[{ on := 15, ground := Ground.data }, { on := 16, ground := Ground.chain }, { on := 0, ground := Ground.phase }, { on := 1, ground := Ground.phase }, { on := 2, ground := Ground.phase }, { on := 3, ground := Ground.phase }, { on := 4, ground := Ground.phase }, { on := 5, ground := Ground.phase }, { on := 6, ground := Ground.phase }, { on := 7, ground := Ground.phase }, { on := 8, ground := Ground.phase }, { on := 9, ground := Ground.phase }, { on := 10, ground := Ground.phase }, { on := 11, ground := Ground.phase }, { on := 12, ground := Ground.phase }, { on := 13, ground := Ground.phase }, { on := 14, ground := Ground.phase }, { on := 15, ground := Ground.phase }, { on := 16, ground := Ground.phase }], guard := none }) (v := (.bool true)) hHeld ?_ ?_
 ·intro w9 hSw
  try dsimp only at hSw
  go_simp
 try simp only [qpu]
 refine wpAnyH_done (by kernel_rfl) ?_ _
 refine NoPanic.normal ?_
 go_wp2_with fail
 exact ret_cell_tmp (k := 6) (j := 7) Try.f20 (by kernel_rfl) Zx1 Try.underlying28 (by kernel_rfl) (by rfl) (by rfl) rfl ⟨rfl, bx1⟩
theorem strayC_0 (a b t f : Int) (ht : 70000 ≤ t ∧ t < 1070000) (w : World) : Calls Try.prog 17 #[.agg (opn a b 100 100).v, .int .i64 0, .agg (Gt.v ⟨f, 0, 0, (a + 1 + t) % 4294967296, (b + 1) % 4294967296⟩)] w fun e w' => e = .returned (.tuple #[.agg cn0.v, .int .i64 23]) ∧ Below w.heap.size w w' := by
 have h := step0_tc (opn a b 100 100) ⟨f, 0, 0, ((a + 1) % 4294967296 + t) % 4294967296, (b + 1) % 4294967296⟩ w
 rw [stray_0 a b t f ht] at h
 rw [show (a + 1 + t) % 4294967296 = ((a + 1) % 4294967296 + t) % 4294967296 by omega]
 exact h
theorem strayC_1 (a b t f : Int) (ht : 70000 ≤ t ∧ t < 1070000) (w : World) : Calls Try.prog 17 #[.agg (opn a b 100 100).v, .int .i64 1, .agg (Gt.v ⟨f, 0, 0, (b + 1 - t - 2) % 4294967296, (a + 1) % 4294967296⟩)] w fun e w' => e = .returned (.tuple #[.agg cn0.v, .int .i64 23]) ∧ Below w.heap.size w w' := by
 have h := step1_tc (opn a b 100 100) ⟨f, 0, 0, (((b + 1) % 4294967296 - t) % 4294967296 - 2) % 4294967296, (a + 1) % 4294967296⟩ w
 rw [stray_1 a b t f ht] at h
 rw [show (b + 1 - t - 2) % 4294967296 = (((b + 1) % 4294967296 - t) % 4294967296 - 2) % 4294967296 by omega]
 exact h
theorem strayC_2 (a b t : Int) (ht : 70000 ≤ t ∧ t < 1070000) (w : World) : Calls Try.prog 17 #[.agg (opn a b 100 100).v, .int .i64 0, .agg (Gt.v ⟨16, 0, 0, (a + 1) % 4294967296, (b + 1 + t) % 4294967296⟩)] w fun e w' => e = .returned (.tuple #[.agg cn0.v, .int .i64 23]) ∧ Below w.heap.size w w' := by
 have h := step0_tc (opn a b 100 100) ⟨16, 0, 0, (a + 1) % 4294967296, ((b + 1) % 4294967296 + t) % 4294967296⟩ w
 rw [stray_2 a b t  ht] at h
 rw [show (b + 1 + t) % 4294967296 = ((b + 1) % 4294967296 + t) % 4294967296 by omega]
 exact h
end Go.Proofs.Ytmmnjjcopdabcaa
