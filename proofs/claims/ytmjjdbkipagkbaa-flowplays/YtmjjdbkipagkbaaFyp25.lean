/- Texts joined: TuH -/
import Derived.Test.YtmjjdbkipagkbaaFyp24
namespace Go.Proofs.Ytmjjdbkipagkbaa
open Go.RowKit
set_option linter.unusedVariables false
set_option linter.unusedSimpArgs false
theorem rcmp_t (x y : Int) (w : World) : Calls Try.prog 56 #[.int .i64 x, .int .i64 y] w fun e w' => e = .returned (.int .i64 (cmp3 x y)) ∧ w' = w := by
  go_enter Try.func56, Try.ntmps56
  rcases Int.lt_trichotomy x y with h | h | h
  · go_wp2
    go_ret
    exact ⟨ret_int (by simp [cmp3, h]), rfl⟩
  · subst h
    go_wp2
    go_ret
    exact ⟨ret_int (by simp [cmp3]), rfl⟩
  · have h' : ¬ x < y := by omega
    go_wp2
    go_ret
    exact ⟨ret_int (by simp [cmp3, h, h']), rfl⟩
set_option maxRecDepth 100000 in
set_option maxHeartbeats 4000000 in
theorem rorder_t (a b : Wy) (w : World) :
    Calls Try.prog 28 #[.agg a.v, .agg b.v] w fun e w' => e = .returned (.int .i64 (a.order b)) ∧ Below w.heap.size w w' := by
  rw [Wy.order_fst]
  obtain ⟨f, pr, ⟨sf, sh, sl⟩, ⟨df, dh, dl⟩, sp, dp⟩ := a
  obtain ⟨f', pr', ⟨sf', sh', sl'⟩, ⟨df', dh', dl'⟩, sp', dp'⟩ := b
  have K0 : Hid (∀ W, Calls Try.prog 56 #[.int .i64 f, .int .i64 f'] W _) := fun W => rcmp_t f f' W
  have K1 : Hid (∀ W, Calls Try.prog 56 #[.int .i64 pr, .int .i64 pr'] W _) := fun W => rcmp_t pr pr' W
  have K2 : Hid (∀ W, Calls Try.prog 57 #[.agg #[.int .i64 sf, .int .u64 sh, .int .u64 sl], .agg #[.int .i64 sf', .int .u64 sh', .int .u64 sl']] W _) := fun W => rorder_any sf sh sl sf' sh' sl' W
  have K3 : Hid (∀ W, Calls Try.prog 57 #[.agg #[.int .i64 df, .int .u64 dh, .int .u64 dl], .agg #[.int .i64 df', .int .u64 dh', .int .u64 dl']] W _) := fun W => rorder_any df dh dl df' dh' dl' W
  have K4 : Hid (∀ W, Calls Try.prog 56 #[.int .i64 sp, .int .i64 sp'] W _) := fun W => rcmp_t sp sp' W
  have K5 : Hid (∀ W, Calls Try.prog 56 #[.int .i64 dp, .int .i64 dp'] W _) := fun W => rcmp_t dp dp' W
  simp only
  generalize cmp3 f f' = x0 at *
  generalize cmp3 pr pr' = x1 at *
  generalize Ad.order ⟨sf, sh, sl⟩ ⟨sf', sh', sl'⟩ = x2 at *
  generalize Ad.order ⟨df, dh, dl⟩ ⟨df', dh', dl'⟩ = x3 at *
  generalize cmp3 sp sp' = x4 at *
  generalize cmp3 dp dp' = x5 at *
  obtain ⟨T, hT⟩ : ∃ T, fst0 [x0, x1, x2, x3, x4, x5] = T := ⟨_, rfl⟩
  rw [hT]
  have HT : Hid (fst0 [x0, x1, x2, x3, x4, x5] = T) := hT
  clear hT
  obtain ⟨W1, hW1⟩ : ∃ W1, w.alloc (.cells #[.int .i64 f, .int .i64 pr, .int .i64 sf, .int .u64 sh, .int .u64 sl, .int .i64 df, .int .u64 dh, .int .u64 dl, .int .i64 sp, .int .i64 dp] 26) = W1 := ⟨_, rfl⟩
  have b1 := bel_nw hW1
  have A1 := blk_nw hW1
  obtain ⟨W2, hW2⟩ : ∃ W2, W1.alloc (.cells #[.int .i64 f', .int .i64 pr', .int .i64 sf', .int .u64 sh', .int .u64 sl', .int .i64 df', .int .u64 dh', .int .u64 dl', .int .i64 sp', .int .i64 dp'] 26) = W2 := ⟨_, rfl⟩
  have b2 := bel_al b1 hW2
  have A2 := A1.al hW2
  have B2 := blk_nw hW2
  clear b1 A1
  go_enter Try.func28, Try.ntmps28
  go_wp2_with fail
  have Ad_ := A2.drew
  have Bd := B2.drew
  have bd := b2.drew
  refine wp_region_noPanic ?_
  refine wp_region_held_drew (S := fun w' => Blk w' w.heap.size 26 #[.int .i64 f, .int .i64 pr, .int .i64 sf, .int .u64 sh, .int .u64 sl, .int .i64 df, .int .u64 dh, .int .u64 dl, .int .i64 sp, .int .i64 dp] ∧ Blk w' W1.heap.size 26 #[.int .i64 f', .int .i64 pr', .int .i64 sf', .int .u64 sh', .int .u64 sl', .int .i64 df', .int .u64 dh', .int .u64 dl', .int .i64 sp', .int .i64 dp']) (by kernel_rfl) (by exact ⟨Ad_, Bd⟩) (fun hHeld => ?_)
  refine qtk (i := 0) (oi := { dst := some 7, op := Op.fieldAddr 26 (.tmp 2) 0, type := 0, pos := "ref.go:34", after := #[], guard := none }) (v := (.pointer (some ⟨w.heap.size, 0, none⟩))) hHeld ?_ ?_
  · intro w9 hSw
    try dsimp only at hSw
    go_simp
  try simp only [qpu]
  refine qtk (i := 1) (oi := { dst := some 8, op := Op.load 3 (.tmp 7), type := 3, pos := "ref.go:34", after := #[{ on := 0, ground := Ground.data }], guard := none }) (v := (.int .i64 f)) hHeld ?_ ?_
  · intro w9 hSw
    try dsimp only at hSw
    have hcc := Blk.wy (r := ⟨f, pr, ⟨sf, sh, sl⟩, ⟨df, dh, dl⟩, sp, dp⟩) hSw.1
    go_simp
  try simp only [qpu]
  refine qtk (i := 2) (oi := { dst := some 9, op := Op.fieldAddr 26 (.tmp 3) 0, type := 0, pos := "ref.go:34", after := #[], guard := none }) (v := (.pointer (some ⟨W1.heap.size, 0, none⟩))) hHeld ?_ ?_
  · intro w9 hSw
    try dsimp only at hSw
    go_simp
  try simp only [qpu]
  refine qtk (i := 3) (oi := { dst := some 10, op := Op.load 3 (.tmp 9), type := 3, pos := "ref.go:34", after := #[{ on := 2, ground := Ground.data }], guard := none }) (v := (.int .i64 f')) hHeld ?_ ?_
  · intro w9 hSw
    try dsimp only at hSw
    have hcc := Blk.wy (r := ⟨f', pr', ⟨sf', sh', sl'⟩, ⟨df', dh', dl'⟩, sp', dp'⟩) hSw.2
    go_simp
  try simp only [qpu]
  refine qtk (i := 5) (oi := { dst := some 12, op := Op.fieldAddr 26 (.tmp 2) 1, type := 0, pos := "ref.go:34", after := #[], guard := none }) (v := (.pointer (some ⟨w.heap.size, 1, none⟩))) hHeld ?_ ?_
  · intro w9 hSw
    try dsimp only at hSw
    go_simp
  try simp only [qpu]
  refine qtk (i := 6) (oi := { dst := some 13, op := Op.load 3 (.tmp 12), type := 3, pos := "ref.go:34", after := #[{ on := 5, ground := Ground.data }], guard := none }) (v := (.int .i64 pr)) hHeld ?_ ?_
  · intro w9 hSw
    try dsimp only at hSw
    have hcc := Blk.wy (r := ⟨f, pr, ⟨sf, sh, sl⟩, ⟨df, dh, dl⟩, sp, dp⟩) hSw.1
    go_simp
  try simp only [qpu]
  refine qtk (i := 7) (oi := { dst := some 14, op := Op.fieldAddr 26 (.tmp 3) 1, type := 0, pos := "ref.go:34", after := #[], guard := none }) (v := (.pointer (some ⟨W1.heap.size, 1, none⟩))) hHeld ?_ ?_
  · intro w9 hSw
    try dsimp only at hSw
    go_simp
  try simp only [qpu]
  refine qtk (i := 8) (oi := { dst := some 15, op := Op.load 3 (.tmp 14), type := 3, pos := "ref.go:34", after := #[{ on := 7, ground := Ground.data }], guard := none }) (v := (.int .i64 pr')) hHeld ?_ ?_
  · intro w9 hSw
    try dsimp only at hSw
    have hcc := Blk.wy (r := ⟨f', pr', ⟨sf', sh', sl'⟩, ⟨df', dh', dl'⟩, sp', dp'⟩) hSw.2
    go_simp
  try simp only [qpu]
  refine qtk (i := 10) (oi := { dst := some 17, op := Op.fieldAddr 26 (.tmp 2) 2, type := 0, pos := "ref.go:34", after := #[], guard := none }) (v := (.pointer (some ⟨w.heap.size, 2, none⟩))) hHeld ?_ ?_
  · intro w9 hSw
    try dsimp only at hSw
    go_simp
  try simp only [qpu]
  refine qtk (i := 11) (oi := { dst := some 18, op := Op.load 24 (.tmp 17), type := 24, pos := "ref.go:34", after := #[{ on := 10, ground := Ground.data }], guard := none }) (v := (.agg #[.int .i64 sf, .int .u64 sh, .int .u64 sl])) hHeld ?_ ?_
  · intro w9 hSw
    try dsimp only at hSw
    have hcc := Blk.wy (r := ⟨f, pr, ⟨sf, sh, sl⟩, ⟨df, dh, dl⟩, sp, dp⟩) hSw.1
    go_simp
  try simp only [qpu]
  refine qtk (i := 12) (oi := { dst := some 19, op := Op.fieldAddr 26 (.tmp 3) 2, type := 0, pos := "ref.go:34", after := #[], guard := none }) (v := (.pointer (some ⟨W1.heap.size, 2, none⟩))) hHeld ?_ ?_
  · intro w9 hSw
    try dsimp only at hSw
    go_simp
  try simp only [qpu]
  refine qtk (i := 13) (oi := { dst := some 20, op := Op.load 24 (.tmp 19), type := 24, pos := "ref.go:34", after := #[{ on := 12, ground := Ground.data }], guard := none }) (v := (.agg #[.int .i64 sf', .int .u64 sh', .int .u64 sl'])) hHeld ?_ ?_
  · intro w9 hSw
    try dsimp only at hSw
    have hcc := Blk.wy (r := ⟨f', pr', ⟨sf', sh', sl'⟩, ⟨df', dh', dl'⟩, sp', dp'⟩) hSw.2
    go_simp
  try simp only [qpu]
  refine qtk (i := 15) (oi := { dst := some 22, op := Op.fieldAddr 26 (.tmp 2) 3, type := 0, pos := "ref.go:34", after := #[], guard := none }) (v := (.pointer (some ⟨w.heap.size, 5, none⟩))) hHeld ?_ ?_
  · intro w9 hSw
    try dsimp only at hSw
    go_simp
  try simp only [qpu]
  refine qtk (i := 16) (oi := { dst := some 23, op := Op.load 24 (.tmp 22), type := 24, pos := "ref.go:34", after := #[{ on := 15, ground := Ground.data }], guard := none }) (v := (.agg #[.int .i64 df, .int .u64 dh, .int .u64 dl])) hHeld ?_ ?_
  · intro w9 hSw
    try dsimp only at hSw
    have hcc := Blk.wy (r := ⟨f, pr, ⟨sf, sh, sl⟩, ⟨df, dh, dl⟩, sp, dp⟩) hSw.1
    go_simp
  try simp only [qpu]
  refine qtk (i := 17) (oi := { dst := some 24, op := Op.fieldAddr 26 (.tmp 3) 3, type := 0, pos := "ref.go:34", after := #[], guard := none }) (v := (.pointer (some ⟨W1.heap.size, 5, none⟩))) hHeld ?_ ?_
  · intro w9 hSw
    try dsimp only at hSw
    go_simp
  try simp only [qpu]
  refine qtk (i := 18) (oi := { dst := some 25, op := Op.load 24 (.tmp 24), type := 24, pos := "ref.go:34", after := #[{ on := 17, ground := Ground.data }], guard := none }) (v := (.agg #[.int .i64 df', .int .u64 dh', .int .u64 dl'])) hHeld ?_ ?_
  · intro w9 hSw
    try dsimp only at hSw
    have hcc := Blk.wy (r := ⟨f', pr', ⟨sf', sh', sl'⟩, ⟨df', dh', dl'⟩, sp', dp'⟩) hSw.2
    go_simp
  try simp only [qpu]
  refine qtk (i := 20) (oi := { dst := some 27, op := Op.fieldAddr 26 (.tmp 2) 4, type := 0, pos := "ref.go:34", after := #[], guard := none }) (v := (.pointer (some ⟨w.heap.size, 8, none⟩))) hHeld ?_ ?_
  · intro w9 hSw
    try dsimp only at hSw
    go_simp
  try simp only [qpu]
  refine qtk (i := 21) (oi := { dst := some 28, op := Op.load 3 (.tmp 27), type := 3, pos := "ref.go:34", after := #[{ on := 20, ground := Ground.data }], guard := none }) (v := (.int .i64 sp)) hHeld ?_ ?_
  · intro w9 hSw
    try dsimp only at hSw
    have hcc := Blk.wy (r := ⟨f, pr, ⟨sf, sh, sl⟩, ⟨df, dh, dl⟩, sp, dp⟩) hSw.1
    go_simp
  try simp only [qpu]
  refine qtk (i := 22) (oi := { dst := some 29, op := Op.fieldAddr 26 (.tmp 3) 4, type := 0, pos := "ref.go:34", after := #[], guard := none }) (v := (.pointer (some ⟨W1.heap.size, 8, none⟩))) hHeld ?_ ?_
  · intro w9 hSw
    try dsimp only at hSw
    go_simp
  try simp only [qpu]
  refine qtk (i := 23) (oi := { dst := some 30, op := Op.load 3 (.tmp 29), type := 3, pos := "ref.go:34", after := #[{ on := 22, ground := Ground.data }], guard := none }) (v := (.int .i64 sp')) hHeld ?_ ?_
  · intro w9 hSw
    try dsimp only at hSw
    have hcc := Blk.wy (r := ⟨f', pr', ⟨sf', sh', sl'⟩, ⟨df', dh', dl'⟩, sp', dp'⟩) hSw.2
    go_simp
  try simp only [qpu]
  refine qtk (i := 25) (oi := { dst := some 32, op := Op.fieldAddr 26 (.tmp 2) 5, type := 0, pos := "ref.go:34", after := #[], guard := none }) (v := (.pointer (some ⟨w.heap.size, 9, none⟩))) hHeld ?_ ?_
  · intro w9 hSw
    try dsimp only at hSw
    go_simp
  try simp only [qpu]
  refine qtk (i := 26) (oi := { dst := some 33, op := Op.load 3 (.tmp 32), type := 3, pos := "ref.go:34", after := #[{ on := 25, ground := Ground.data }], guard := none }) (v := (.int .i64 dp)) hHeld ?_ ?_
  · intro w9 hSw
    try dsimp only at hSw
    have hcc := Blk.wy (r := ⟨f, pr, ⟨sf, sh, sl⟩, ⟨df, dh, dl⟩, sp, dp⟩) hSw.1
    go_simp
  try simp only [qpu]
  refine qtk (i := 27) (oi := { dst := some 34, op := Op.fieldAddr 26 (.tmp 3) 5, type := 0, pos := "ref.go:34", after := #[], guard := none }) (v := (.pointer (some ⟨W1.heap.size, 9, none⟩))) hHeld ?_ ?_
  · intro w9 hSw
    try dsimp only at hSw
    go_simp
  try simp only [qpu]
  refine qtk (i := 28) (oi := { dst := some 35, op := Op.load 3 (.tmp 34), type := 3, pos := "ref.go:34", after := #[{ on := 27, ground := Ground.data }], guard := none }) (v := (.int .i64 dp')) hHeld ?_ ?_
  · intro w9 hSw
    try dsimp only at hSw
    have hcc := Blk.wy (r := ⟨f', pr', ⟨sf', sh', sl'⟩, ⟨df', dh', dl'⟩, sp', dp'⟩) hSw.2
    go_simp
  try simp only [qpu]
  refine wpAnyH_ready (rs := [4]) (by kernel_rfl) (by simp) ?_
  refine AllReadyH.cons (o := { dst := some 11, op := Op.call { callee := Callee.value (.func 56), args := #[.tmp 8, .tmp 10], argTypes := #[3, 3] }, type := 3, pos := "ref.go:34", after := #[{ on := 1, ground := Ground.data }, { on := 3, ground := Ground.data }], guard := none }) rfl (fun K hK => ?_) AllReadyH.nil
  go_simp
  refine Calls.mono (K0.out _) ?_
  rintro e W9 ⟨rfl, hWs⟩
  rw [hWs]
  clear hWs W9 K0
  refine hK.out _ _ (by exact ⟨Ad_, Bd⟩) (fun hHeld => ?_)
  clear hK K
  try simp only [qpu]
  refine wpAnyH_ready (rs := [9]) (by kernel_rfl) (by simp) ?_
  refine AllReadyH.cons (o := { dst := some 16, op := Op.call { callee := Callee.value (.func 56), args := #[.tmp 13, .tmp 15], argTypes := #[3, 3] }, type := 3, pos := "ref.go:34", after := #[{ on := 6, ground := Ground.data }, { on := 8, ground := Ground.data }, { on := 4, ground := Ground.chain }], guard := none }) rfl (fun K hK => ?_) AllReadyH.nil
  go_simp
  refine Calls.mono (K1.out _) ?_
  rintro e W9 ⟨rfl, hWs⟩
  rw [hWs]
  clear hWs W9 K1
  refine hK.out _ _ (by exact ⟨Ad_, Bd⟩) (fun hHeld => ?_)
  clear hK K
  try simp only [qpu]
  refine wpAnyH_ready (rs := [14]) (by kernel_rfl) (by simp) ?_
  refine AllReadyH.cons (o := { dst := some 21, op := Op.call { callee := Callee.value (.func 57), args := #[.tmp 18, .tmp 20], argTypes := #[24, 24] }, type := 3, pos := "ref.go:34", after := #[{ on := 11, ground := Ground.data }, { on := 13, ground := Ground.data }, { on := 9, ground := Ground.chain }], guard := none }) rfl (fun K hK => ?_) AllReadyH.nil
  go_simp
  refine Calls.mono (K2.out _) ?_
  rintro e W3 ⟨rfl, bb⟩
  have A3 := Ad_.kept bb
  have B3 := Bd.kept bb
  have b3 := bel_tr bd bb
  clear bb K2
  refine hK.out _ _ (by exact ⟨A3, B3⟩) (fun hHeld => ?_)
  clear hK K
  try simp only [qpu]
  refine wpAnyH_ready (rs := [19]) (by kernel_rfl) (by simp) ?_
  refine AllReadyH.cons (o := { dst := some 26, op := Op.call { callee := Callee.value (.func 57), args := #[.tmp 23, .tmp 25], argTypes := #[24, 24] }, type := 3, pos := "ref.go:34", after := #[{ on := 16, ground := Ground.data }, { on := 18, ground := Ground.data }, { on := 14, ground := Ground.chain }], guard := none }) rfl (fun K hK => ?_) AllReadyH.nil
  go_simp
  refine Calls.mono (K3.out _) ?_
  rintro e W4 ⟨rfl, bb⟩
  have A4 := A3.kept bb
  have B4 := B3.kept bb
  have b4 := bel_tr b3 bb
  clear bb K3
  refine hK.out _ _ (by exact ⟨A4, B4⟩) (fun hHeld => ?_)
  clear hK K
  try simp only [qpu]
  refine wpAnyH_ready (rs := [24]) (by kernel_rfl) (by simp) ?_
  refine AllReadyH.cons (o := { dst := some 31, op := Op.call { callee := Callee.value (.func 56), args := #[.tmp 28, .tmp 30], argTypes := #[3, 3] }, type := 3, pos := "ref.go:34", after := #[{ on := 21, ground := Ground.data }, { on := 23, ground := Ground.data }, { on := 19, ground := Ground.chain }], guard := none }) rfl (fun K hK => ?_) AllReadyH.nil
  go_simp
  refine Calls.mono (K4.out _) ?_
  rintro e W9 ⟨rfl, hWs⟩
  rw [hWs]
  clear hWs W9 K4
  refine hK.out _ _ (by exact ⟨A4, B4⟩) (fun hHeld => ?_)
  clear hK K
  try simp only [qpu]
  refine wpAnyH_ready (rs := [29]) (by kernel_rfl) (by simp) ?_
  refine AllReadyH.cons (o := { dst := some 36, op := Op.call { callee := Callee.value (.func 56), args := #[.tmp 33, .tmp 35], argTypes := #[3, 3] }, type := 3, pos := "ref.go:34", after := #[{ on := 26, ground := Ground.data }, { on := 28, ground := Ground.data }, { on := 24, ground := Ground.chain }], guard := none }) rfl (fun K hK => ?_) AllReadyH.nil
  go_simp
  refine Calls.mono (K5.out _) ?_
  rintro e W9 ⟨rfl, hWs⟩
  rw [hWs]
  clear hWs W9 K5
  refine hK.out _ _ (by exact ⟨A4, B4⟩) (fun hHeld => ?_)
  clear hK K
  try simp only [qpu]
  refine wpAnyH_ready (rs := [30]) (by kernel_rfl) (by simp) ?_
  refine AllReadyH.cons (o := { dst := some 37, op := Op.buildSlice 102 6 #[(0, .tmp 11), (1, .tmp 16), (2, .tmp 21), (3, .tmp 26), (4, .tmp 31), (5, .tmp 36)], type := 102, pos := "ref.go:34", after := #[{ on := 4, ground := Ground.data }, { on := 9, ground := Ground.data }, { on := 14, ground := Ground.data }, { on := 19, ground := Ground.data }, { on := 24, ground := Ground.data }, { on := 29, ground := Ground.data }], guard := none }) rfl (fun K hK => ?_) AllReadyH.nil
  go_simp
  refine hK.out _ _ (by exact ⟨A4.alloc _, B4.alloc _⟩) (fun hHeld => ?_)
  clear hK K
  try simp only [qpu]
  refine qtk (i := 31) (oi := { dst := some 5, op := Op.assign (.tmp 37), type := 102, pos := "ref.go:34", after := #[{ on := 30, ground := Ground.data }, { on := 29, ground := Ground.chain }, { on := 0, ground := Ground.phase }, { on := 1, ground := Ground.phase }, { on := 2, ground := Ground.phase }, { on := 3, ground := Ground.phase }, { on := 4, ground := Ground.phase }, { on := 5, ground := Ground.phase }, { on := 6, ground := Ground.phase }, { on := 7, ground := Ground.phase }, { on := 8, ground := Ground.phase }, { on := 9, ground := Ground.phase }, { on := 10, ground := Ground.phase }, { on := 11, ground := Ground.phase }, { on := 12, ground := Ground.phase }, { on := 13, ground := Ground.phase }, { on := 14, ground := Ground.phase }, { on := 15, ground := Ground.phase }, { on := 16, ground := Ground.phase }, { on := 17, ground := Ground.phase }, { on := 18, ground := Ground.phase }, { on := 19, ground := Ground.phase }, { on := 20, ground := Ground.phase }, { on := 21, ground := Ground.phase }, { on := 22, ground := Ground.phase }, { on := 23, ground := Ground.phase }, { on := 24, ground := Ground.phase }, { on := 25, ground := Ground.phase }, { on := 26, ground := Ground.phase }, { on := 27, ground := Ground.phase }, { on := 28, ground := Ground.phase }, { on := 29, ground := Ground.phase }, { on := 30, ground := Ground.phase }], guard := none }) (v := (.slice (some ⟨W4.heap.size, 0, none⟩) 6 6)) hHeld ?_ ?_
  · intro w9 hSw
    try dsimp only at hSw
    go_simp
  try simp only [qpu]
  refine wpAnyH_done (by kernel_rfl) ?_ _
  refine NoPanic.normal ?_
  have c0 : ∀ (i : Nat) v, (#[.int .i64 x0, .int .i64 x1, .int .i64 x2, .int .i64 x3, .int .i64 x4, .int .i64 x5] : Array Value)[i]? = some v → (W4.alloc (.cells #[.int .i64 x0, .int .i64 x1, .int .i64 x2, .int .i64 x3, .int .i64 x4, .int .i64 x5] 3)).cell? ⟨W4.heap.size, i, none⟩ = some v := fun i v hv => (blk_new W4 #[.int .i64 x0, .int .i64 x1, .int .i64 x2, .int .i64 x3, .int .i64 x4, .int .i64 x5] 3).cell i v hv
  have d0 := c0 0 (.int .i64 x0) rfl
  have d1 := c0 1 (.int .i64 x1) rfl
  have d2 := c0 2 (.int .i64 x2) rfl
  have d3 := c0 3 (.int .i64 x3) rfl
  have d4 := c0 4 (.int .i64 x4) rfl
  have d5 := c0 5 (.int .i64 x5) rfl
  have b5 := b4.alloc b4.size (.cells #[.int .i64 x0, .int .i64 x1, .int .i64 x2, .int .i64 x3, .int .i64 x4, .int .i64 x5] 3)
  clear c0 hHeld A4 B4 b4
  generalize W4.heap.size = G at *
  generalize W4.alloc (.cells #[.int .i64 x0, .int .i64 x1, .int .i64 x2, .int .i64 x3, .int .i64 x4, .int .i64 x5] 3) = W5 at *
  go_wp2
  go_loop [6] (fun i => ∃ k : Nat, k ≤ 6 ∧ i = .int .i64 k ∧ Hid (fst0 [x0, x1, x2, x3, x4, x5] = fst0 (([x0, x1, x2, x3, x4, x5] : List Int).drop k))) (fun i => 6 - (intOf i).toNat)
  case atStart => exact ⟨0, by omega, rfl, rfl⟩
  case round =>
    obtain ⟨k, hk, rfl, hr⟩ := hrel
    have hk' : k = 0 ∨ k = 1 ∨ k = 2 ∨ k = 3 ∨ k = 4 ∨ k = 5 ∨ k = 6 := by omega
    rcases hk' with rfl | rfl | rfl | rfl | rfl | rfl | rfl
    · by_cases hx : x0 = 0
      · have n0 : (x0 == 0) = true := by simpa using hx
        have HX : Hid _ := hx
        clear hx
        go_wp2
        exact ⟨⟨1, by omega, rfl, hr.out.trans (by show fst0 (x0 :: _) = _; rw [fst0, if_pos HX.out]; rfl)⟩, by simp [intOf]⟩
      · have n0 : (x0 == 0) = false := by simpa using hx
        have HX : Hid _ := hx
        clear hx
        go_wp2
        go_ret
        exact ⟨ret_int (by rw [← HT.out, hr.out]; show _ = fst0 (x0 :: _); rw [fst0, if_neg HX.out]), b5⟩
    · by_cases hx : x1 = 0
      · have n0 : (x1 == 0) = true := by simpa using hx
        have HX : Hid _ := hx
        clear hx
        go_wp2
        exact ⟨⟨2, by omega, rfl, hr.out.trans (by show fst0 (x1 :: _) = _; rw [fst0, if_pos HX.out]; rfl)⟩, by simp [intOf]⟩
      · have n0 : (x1 == 0) = false := by simpa using hx
        have HX : Hid _ := hx
        clear hx
        go_wp2
        go_ret
        exact ⟨ret_int (by rw [← HT.out, hr.out]; show _ = fst0 (x1 :: _); rw [fst0, if_neg HX.out]), b5⟩
    · by_cases hx : x2 = 0
      · have n0 : (x2 == 0) = true := by simpa using hx
        have HX : Hid _ := hx
        clear hx
        go_wp2
        exact ⟨⟨3, by omega, rfl, hr.out.trans (by show fst0 (x2 :: _) = _; rw [fst0, if_pos HX.out]; rfl)⟩, by simp [intOf]⟩
      · have n0 : (x2 == 0) = false := by simpa using hx
        have HX : Hid _ := hx
        clear hx
        go_wp2
        go_ret
        exact ⟨ret_int (by rw [← HT.out, hr.out]; show _ = fst0 (x2 :: _); rw [fst0, if_neg HX.out]), b5⟩
    · by_cases hx : x3 = 0
      · have n0 : (x3 == 0) = true := by simpa using hx
        have HX : Hid _ := hx
        clear hx
        go_wp2
        exact ⟨⟨4, by omega, rfl, hr.out.trans (by show fst0 (x3 :: _) = _; rw [fst0, if_pos HX.out]; rfl)⟩, by simp [intOf]⟩
      · have n0 : (x3 == 0) = false := by simpa using hx
        have HX : Hid _ := hx
        clear hx
        go_wp2
        go_ret
        exact ⟨ret_int (by rw [← HT.out, hr.out]; show _ = fst0 (x3 :: _); rw [fst0, if_neg HX.out]), b5⟩
    · by_cases hx : x4 = 0
      · have n0 : (x4 == 0) = true := by simpa using hx
        have HX : Hid _ := hx
        clear hx
        go_wp2
        exact ⟨⟨5, by omega, rfl, hr.out.trans (by show fst0 (x4 :: _) = _; rw [fst0, if_pos HX.out]; rfl)⟩, by simp [intOf]⟩
      · have n0 : (x4 == 0) = false := by simpa using hx
        have HX : Hid _ := hx
        clear hx
        go_wp2
        go_ret
        exact ⟨ret_int (by rw [← HT.out, hr.out]; show _ = fst0 (x4 :: _); rw [fst0, if_neg HX.out]), b5⟩
    · by_cases hx : x5 = 0
      · have n0 : (x5 == 0) = true := by simpa using hx
        have HX : Hid _ := hx
        clear hx
        go_wp2
        exact ⟨⟨6, by omega, rfl, hr.out.trans (by show fst0 (x5 :: _) = _; rw [fst0, if_pos HX.out]; rfl)⟩, by simp [intOf]⟩
      · have n0 : (x5 == 0) = false := by simpa using hx
        have HX : Hid _ := hx
        clear hx
        go_wp2
        go_ret
        exact ⟨ret_int (by rw [← HT.out, hr.out]; show _ = fst0 (x5 :: _); rw [fst0, if_neg HX.out]), b5⟩
    · go_wp2
      go_ret
      exact ⟨ret_int (by rw [← HT.out, hr.out]; rfl), b5⟩
end Go.Proofs.Ytmjjdbkipagkbaa
