/- Texts joined: TcK TuH FwE0 FwE1 FwI -/
import Derived.Test.YtfiembbmgdmagaaFxb8
namespace Go.Proofs.Ytfiembbmgdmagaa
open Go.RowKit
set_option linter.unusedVariables false
set_option linter.unusedSimpArgs false
def Cn.ret (o : Option Cn) : Cn × Int := match o with | some d => (d, 0) | none => (cn0, 23)
theorem rcmp_t (x y : Int) (w : World) : Calls Try.prog 56 #[.int .i64 x, .int .i64 y] w fun e w' => e = .returned (.int .i64 (cmp3 x y)) ∧ w' = w := by
  go_enter Try.func56, Try.ntmps56
  rcases Int.lt_trichotomy x y with h | h | h
  · go_wp2
    go_ret
    exact ⟨ret_int (by simp [cmp3, h]), rfl⟩
  · subst h
    go_wp2
    go_ret
    exact ⟨ret_int (by simp [cmp3]), rfl⟩
  · have h' : ¬ x < y := by omega
    go_wp2
    go_ret
    exact ⟨ret_int (by simp [cmp3, h, h']), rfl⟩
set_option maxRecDepth 100000 in
set_option maxHeartbeats 4000000 in
theorem rorder_t (a b : Wy) (w : World) :
    Calls Try.prog 28 #[.agg a.v, .agg b.v] w fun e w' => e = .returned (.int .i64 (a.order b)) ∧ Below w.heap.size w w' := by
  rw [Wy.order_fst]
  obtain ⟨f, pr, ⟨sf, sh, sl⟩, ⟨df, dh, dl⟩, sp, dp⟩ := a
  obtain ⟨f', pr', ⟨sf', sh', sl'⟩, ⟨df', dh', dl'⟩, sp', dp'⟩ := b
  have K0 : Hid (∀ W, Calls Try.prog 56 #[.int .i64 f, .int .i64 f'] W _) := fun W => rcmp_t f f' W
  have K1 : Hid (∀ W, Calls Try.prog 56 #[.int .i64 pr, .int .i64 pr'] W _) := fun W => rcmp_t pr pr' W
  have K2 : Hid (∀ W, Calls Try.prog 57 #[.agg #[.int .i64 sf, .int .u64 sh, .int .u64 sl], .agg #[.int .i64 sf', .int .u64 sh', .int .u64 sl']] W _) := fun W => rorder_any sf sh sl sf' sh' sl' W
  have K3 : Hid (∀ W, Calls Try.prog 57 #[.agg #[.int .i64 df, .int .u64 dh, .int .u64 dl], .agg #[.int .i64 df', .int .u64 dh', .int .u64 dl']] W _) := fun W => rorder_any df dh dl df' dh' dl' W
  have K4 : Hid (∀ W, Calls Try.prog 56 #[.int .i64 sp, .int .i64 sp'] W _) := fun W => rcmp_t sp sp' W
  have K5 : Hid (∀ W, Calls Try.prog 56 #[.int .i64 dp, .int .i64 dp'] W _) := fun W => rcmp_t dp dp' W
  simp only
  generalize cmp3 f f' = x0 at *
  generalize cmp3 pr pr' = x1 at *
  generalize Ad.order ⟨sf, sh, sl⟩ ⟨sf', sh', sl'⟩ = x2 at *
  generalize Ad.order ⟨df, dh, dl⟩ ⟨df', dh', dl'⟩ = x3 at *
  generalize cmp3 sp sp' = x4 at *
  generalize cmp3 dp dp' = x5 at *
  obtain ⟨T, hT⟩ : ∃ T, fst0 [x0, x1, x2, x3, x4, x5] = T := ⟨_, rfl⟩
  rw [hT]
  have HT : Hid (fst0 [x0, x1, x2, x3, x4, x5] = T) := hT
  clear hT
  obtain ⟨W1, hW1⟩ : ∃ W1, w.alloc (.cells #[.int .i64 f, .int .i64 pr, .int .i64 sf, .int .u64 sh, .int .u64 sl, .int .i64 df, .int .u64 dh, .int .u64 dl, .int .i64 sp, .int .i64 dp] 26) = W1 := ⟨_, rfl⟩
  have b1 := bel_nw hW1
  have A1 := blk_nw hW1
  obtain ⟨W2, hW2⟩ : ∃ W2, W1.alloc (.cells #[.int .i64 f', .int .i64 pr', .int .i64 sf', .int .u64 sh', .int .u64 sl', .int .i64 df', .int .u64 dh', .int .u64 dl', .int .i64 sp', .int .i64 dp'] 26) = W2 := ⟨_, rfl⟩
  have b2 := bel_al b1 hW2
  have A2 := A1.al hW2
  have B2 := blk_nw hW2
  clear b1 A1
  go_enter Try.func28, Try.ntmps28
  go_wp2_with fail
  have Ad_ := A2.drew
  have Bd := B2.drew
  have bd := b2.drew
  refine wp_region_noPanic ?_
  refine wp_region_held_drew (S := fun w' => Blk w' w.heap.size 26 #[.int .i64 f, .int .i64 pr, .int .i64 sf, .int .u64 sh, .int .u64 sl, .int .i64 df, .int .u64 dh, .int .u64 dl, .int .i64 sp, .int .i64 dp] ∧ Blk w' W1.heap.size 26 #[.int .i64 f', .int .i64 pr', .int .i64 sf', .int .u64 sh', .int .u64 sl', .int .i64 df', .int .u64 dh', .int .u64 dl', .int .i64 sp', .int .i64 dp']) (by kernel_rfl) (by exact ⟨Ad_, Bd⟩) (fun hHeld => ?_)
  refine wpAnyH_take (i := 0) (oi := { dst := some 7, op := Op.fieldAddr 26 (.tmp 2) 0, type := 0, pos := "ref.go:34", after := #[], guard := none }) (v := (.pointer (some ⟨w.heap.size, 0, none⟩))) rfl (by kernel_rfl) (by kernel_rfl) (by kernel_rfl) (fun _ _ _ h => h) (Or.inl ⟨by rfl, ?_⟩) hHeld ?_
  · intro w9 hSw
    try dsimp only at hSw
    go_simp
  try simp only [Act.put, List.setIfInBounds_toArray, List.set_cons_zero, List.set_cons_succ]
  refine wpAnyH_take (i := 1) (oi := { dst := some 8, op := Op.load 3 (.tmp 7), type := 3, pos := "ref.go:34", after := #[{ on := 0, ground := Ground.data }], guard := none }) (v := (.int .i64 f)) rfl (by kernel_rfl) (by kernel_rfl) (by kernel_rfl) (fun _ _ _ h => h) (Or.inl ⟨by rfl, ?_⟩) hHeld ?_
  · intro w9 hSw
    try dsimp only at hSw
    have hcc := Blk.wy (r := ⟨f, pr, ⟨sf, sh, sl⟩, ⟨df, dh, dl⟩, sp, dp⟩) hSw.1
    go_simp
  try simp only [Act.put, List.setIfInBounds_toArray, List.set_cons_zero, List.set_cons_succ]
  refine wpAnyH_take (i := 2) (oi := { dst := some 9, op := Op.fieldAddr 26 (.tmp 3) 0, type := 0, pos := "ref.go:34", after := #[], guard := none }) (v := (.pointer (some ⟨W1.heap.size, 0, none⟩))) rfl (by kernel_rfl) (by kernel_rfl) (by kernel_rfl) (fun _ _ _ h => h) (Or.inl ⟨by rfl, ?_⟩) hHeld ?_
  · intro w9 hSw
    try dsimp only at hSw
    go_simp
  try simp only [Act.put, List.setIfInBounds_toArray, List.set_cons_zero, List.set_cons_succ]
  refine wpAnyH_take (i := 3) (oi := { dst := some 10, op := Op.load 3 (.tmp 9), type := 3, pos := "ref.go:34", after := #[{ on := 2, ground := Ground.data }], guard := none }) (v := (.int .i64 f')) rfl (by kernel_rfl) (by kernel_rfl) (by kernel_rfl) (fun _ _ _ h => h) (Or.inl ⟨by rfl, ?_⟩) hHeld ?_
  · intro w9 hSw
    try dsimp only at hSw
    have hcc := Blk.wy (r := ⟨f', pr', ⟨sf', sh', sl'⟩, ⟨df', dh', dl'⟩, sp', dp'⟩) hSw.2
    go_simp
  try simp only [Act.put, List.setIfInBounds_toArray, List.set_cons_zero, List.set_cons_succ]
  refine wpAnyH_take (i := 5) (oi := { dst := some 12, op := Op.fieldAddr 26 (.tmp 2) 1, type := 0, pos := "ref.go:34", after := #[], guard := none }) (v := (.pointer (some ⟨w.heap.size, 1, none⟩))) rfl (by kernel_rfl) (by kernel_rfl) (by kernel_rfl) (fun _ _ _ h => h) (Or.inl ⟨by rfl, ?_⟩) hHeld ?_
  · intro w9 hSw
    try dsimp only at hSw
    go_simp
  try simp only [Act.put, List.setIfInBounds_toArray, List.set_cons_zero, List.set_cons_succ]
  refine wpAnyH_take (i := 6) (oi := { dst := some 13, op := Op.load 3 (.tmp 12), type := 3, pos := "ref.go:34", after := #[{ on := 5, ground := Ground.data }], guard := none }) (v := (.int .i64 pr)) rfl (by kernel_rfl) (by kernel_rfl) (by kernel_rfl) (fun _ _ _ h => h) (Or.inl ⟨by rfl, ?_⟩) hHeld ?_
  · intro w9 hSw
    try dsimp only at hSw
    have hcc := Blk.wy (r := ⟨f, pr, ⟨sf, sh, sl⟩, ⟨df, dh, dl⟩, sp, dp⟩) hSw.1
    go_simp
  try simp only [Act.put, List.setIfInBounds_toArray, List.set_cons_zero, List.set_cons_succ]
  refine wpAnyH_take (i := 7) (oi := { dst := some 14, op := Op.fieldAddr 26 (.tmp 3) 1, type := 0, pos := "ref.go:34", after := #[], guard := none }) (v := (.pointer (some ⟨W1.heap.size, 1, none⟩))) rfl (by kernel_rfl) (by kernel_rfl) (by kernel_rfl) (fun _ _ _ h => h) (Or.inl ⟨by rfl, ?_⟩) hHeld ?_
  · intro w9 hSw
    try dsimp only at hSw
    go_simp
  try simp only [Act.put, List.setIfInBounds_toArray, List.set_cons_zero, List.set_cons_succ]
  refine wpAnyH_take (i := 8) (oi := { dst := some 15, op := Op.load 3 (.tmp 14), type := 3, pos := "ref.go:34", after := #[{ on := 7, ground := Ground.data }], guard := none }) (v := (.int .i64 pr')) rfl (by kernel_rfl) (by kernel_rfl) (by kernel_rfl) (fun _ _ _ h => h) (Or.inl ⟨by rfl, ?_⟩) hHeld ?_
  · intro w9 hSw
    try dsimp only at hSw
    have hcc := Blk.wy (r := ⟨f', pr', ⟨sf', sh', sl'⟩, ⟨df', dh', dl'⟩, sp', dp'⟩) hSw.2
    go_simp
  try simp only [Act.put, List.setIfInBounds_toArray, List.set_cons_zero, List.set_cons_succ]
  refine wpAnyH_take (i := 10) (oi := { dst := some 17, op := Op.fieldAddr 26 (.tmp 2) 2, type := 0, pos := "ref.go:34", after := #[], guard := none }) (v := (.pointer (some ⟨w.heap.size, 2, none⟩))) rfl (by kernel_rfl) (by kernel_rfl) (by kernel_rfl) (fun _ _ _ h => h) (Or.inl ⟨by rfl, ?_⟩) hHeld ?_
  · intro w9 hSw
    try dsimp only at hSw
    go_simp
  try simp only [Act.put, List.setIfInBounds_toArray, List.set_cons_zero, List.set_cons_succ]
  refine wpAnyH_take (i := 11) (oi := { dst := some 18, op := Op.load 24 (.tmp 17), type := 24, pos := "ref.go:34", after := #[{ on := 10, ground := Ground.data }], guard := none }) (v := (.agg #[.int .i64 sf, .int .u64 sh, .int .u64 sl])) rfl (by kernel_rfl) (by kernel_rfl) (by kernel_rfl) (fun _ _ _ h => h) (Or.inl ⟨by rfl, ?_⟩) hHeld ?_
  · intro w9 hSw
    try dsimp only at hSw
    have hcc := Blk.wy (r := ⟨f, pr, ⟨sf, sh, sl⟩, ⟨df, dh, dl⟩, sp, dp⟩) hSw.1
    go_simp
  try simp only [Act.put, List.setIfInBounds_toArray, List.set_cons_zero, List.set_cons_succ]
  refine wpAnyH_take (i := 12) (oi := { dst := some 19, op := Op.fieldAddr 26 (.tmp 3) 2, type := 0, pos := "ref.go:34", after := #[], guard := none }) (v := (.pointer (some ⟨W1.heap.size, 2, none⟩))) rfl (by kernel_rfl) (by kernel_rfl) (by kernel_rfl) (fun _ _ _ h => h) (Or.inl ⟨by rfl, ?_⟩) hHeld ?_
  · intro w9 hSw
    try dsimp only at hSw
    go_simp
  try simp only [Act.put, List.setIfInBounds_toArray, List.set_cons_zero, List.set_cons_succ]
  refine wpAnyH_take (i := 13) (oi := { dst := some 20, op := Op.load 24 (.tmp 19), type := 24, pos := "ref.go:34", after := #[{ on := 12, ground := Ground.data }], guard := none }) (v := (.agg #[.int .i64 sf', .int .u64 sh', .int .u64 sl'])) rfl (by kernel_rfl) (by kernel_rfl) (by kernel_rfl) (fun _ _ _ h => h) (Or.inl ⟨by rfl, ?_⟩) hHeld ?_
  · intro w9 hSw
    try dsimp only at hSw
    have hcc := Blk.wy (r := ⟨f', pr', ⟨sf', sh', sl'⟩, ⟨df', dh', dl'⟩, sp', dp'⟩) hSw.2
    go_simp
  try simp only [Act.put, List.setIfInBounds_toArray, List.set_cons_zero, List.set_cons_succ]
  refine wpAnyH_take (i := 15) (oi := { dst := some 22, op := Op.fieldAddr 26 (.tmp 2) 3, type := 0, pos := "ref.go:34", after := #[], guard := none }) (v := (.pointer (some ⟨w.heap.size, 5, none⟩))) rfl (by kernel_rfl) (by kernel_rfl) (by kernel_rfl) (fun _ _ _ h => h) (Or.inl ⟨by rfl, ?_⟩) hHeld ?_
  · intro w9 hSw
    try dsimp only at hSw
    go_simp
  try simp only [Act.put, List.setIfInBounds_toArray, List.set_cons_zero, List.set_cons_succ]
  refine wpAnyH_take (i := 16) (oi := { dst := some 23, op := Op.load 24 (.tmp 22), type := 24, pos := "ref.go:34", after := #[{ on := 15, ground := Ground.data }], guard := none }) (v := (.agg #[.int .i64 df, .int .u64 dh, .int .u64 dl])) rfl (by kernel_rfl) (by kernel_rfl) (by kernel_rfl) (fun _ _ _ h => h) (Or.inl ⟨by rfl, ?_⟩) hHeld ?_
  · intro w9 hSw
    try dsimp only at hSw
    have hcc := Blk.wy (r := ⟨f, pr, ⟨sf, sh, sl⟩, ⟨df, dh, dl⟩, sp, dp⟩) hSw.1
    go_simp
  try simp only [Act.put, List.setIfInBounds_toArray, List.set_cons_zero, List.set_cons_succ]
  refine wpAnyH_take (i := 17) (oi := { dst := some 24, op := Op.fieldAddr 26 (.tmp 3) 3, type := 0, pos := "ref.go:34", after := #[], guard := none }) (v := (.pointer (some ⟨W1.heap.size, 5, none⟩))) rfl (by kernel_rfl) (by kernel_rfl) (by kernel_rfl) (fun _ _ _ h => h) (Or.inl ⟨by rfl, ?_⟩) hHeld ?_
  · intro w9 hSw
    try dsimp only at hSw
    go_simp
  try simp only [Act.put, List.setIfInBounds_toArray, List.set_cons_zero, List.set_cons_succ]
  refine wpAnyH_take (i := 18) (oi := { dst := some 25, op := Op.load 24 (.tmp 24), type := 24, pos := "ref.go:34", after := #[{ on := 17, ground := Ground.data }], guard := none }) (v := (.agg #[.int .i64 df', .int .u64 dh', .int .u64 dl'])) rfl (by kernel_rfl) (by kernel_rfl) (by kernel_rfl) (fun _ _ _ h => h) (Or.inl ⟨by rfl, ?_⟩) hHeld ?_
  · intro w9 hSw
    try dsimp only at hSw
    have hcc := Blk.wy (r := ⟨f', pr', ⟨sf', sh', sl'⟩, ⟨df', dh', dl'⟩, sp', dp'⟩) hSw.2
    go_simp
  try simp only [Act.put, List.setIfInBounds_toArray, List.set_cons_zero, List.set_cons_succ]
  refine wpAnyH_take (i := 20) (oi := { dst := some 27, op := Op.fieldAddr 26 (.tmp 2) 4, type := 0, pos := "ref.go:34", after := #[], guard := none }) (v := (.pointer (some ⟨w.heap.size, 8, none⟩))) rfl (by kernel_rfl) (by kernel_rfl) (by kernel_rfl) (fun _ _ _ h => h) (Or.inl ⟨by rfl, ?_⟩) hHeld ?_
  · intro w9 hSw
    try dsimp only at hSw
    go_simp
  try simp only [Act.put, List.setIfInBounds_toArray, List.set_cons_zero, List.set_cons_succ]
  refine wpAnyH_take (i := 21) (oi := { dst := some 28, op := Op.load 3 (.tmp 27), type := 3, pos := "ref.go:34", after := #[{ on := 20, ground := Ground.data }], guard := none }) (v := (.int .i64 sp)) rfl (by kernel_rfl) (by kernel_rfl) (by kernel_rfl) (fun _ _ _ h => h) (Or.inl ⟨by rfl, ?_⟩) hHeld ?_
  · intro w9 hSw
    try dsimp only at hSw
    have hcc := Blk.wy (r := ⟨f, pr, ⟨sf, sh, sl⟩, ⟨df, dh, dl⟩, sp, dp⟩) hSw.1
    go_simp
  try simp only [Act.put, List.setIfInBounds_toArray, List.set_cons_zero, List.set_cons_succ]
  refine wpAnyH_take (i := 22) (oi := { dst := some 29, op := Op.fieldAddr 26 (.tmp 3) 4, type := 0, pos := "ref.go:34", after := #[], guard := none }) (v := (.pointer (some ⟨W1.heap.size, 8, none⟩))) rfl (by kernel_rfl) (by kernel_rfl) (by kernel_rfl) (fun _ _ _ h => h) (Or.inl ⟨by rfl, ?_⟩) hHeld ?_
  · intro w9 hSw
    try dsimp only at hSw
    go_simp
  try simp only [Act.put, List.setIfInBounds_toArray, List.set_cons_zero, List.set_cons_succ]
  refine wpAnyH_take (i := 23) (oi := { dst := some 30, op := Op.load 3 (.tmp 29), type := 3, pos := "ref.go:34", after := #[{ on := 22, ground := Ground.data }], guard := none }) (v := (.int .i64 sp')) rfl (by kernel_rfl) (by kernel_rfl) (by kernel_rfl) (fun _ _ _ h => h) (Or.inl ⟨by rfl, ?_⟩) hHeld ?_
  · intro w9 hSw
    try dsimp only at hSw
    have hcc := Blk.wy (r := ⟨f', pr', ⟨sf', sh', sl'⟩, ⟨df', dh', dl'⟩, sp', dp'⟩) hSw.2
    go_simp
  try simp only [Act.put, List.setIfInBounds_toArray, List.set_cons_zero, List.set_cons_succ]
  refine wpAnyH_take (i := 25) (oi := { dst := some 32, op := Op.fieldAddr 26 (.tmp 2) 5, type := 0, pos := "ref.go:34", after := #[], guard := none }) (v := (.pointer (some ⟨w.heap.size, 9, none⟩))) rfl (by kernel_rfl) (by kernel_rfl) (by kernel_rfl) (fun _ _ _ h => h) (Or.inl ⟨by rfl, ?_⟩) hHeld ?_
  · intro w9 hSw
    try dsimp only at hSw
    go_simp
  try simp only [Act.put, List.setIfInBounds_toArray, List.set_cons_zero, List.set_cons_succ]
  refine wpAnyH_take (i := 26) (oi := { dst := some 33, op := Op.load 3 (.tmp 32), type := 3, pos := "ref.go:34", after := #[{ on := 25, ground := Ground.data }], guard := none }) (v := (.int .i64 dp)) rfl (by kernel_rfl) (by kernel_rfl) (by kernel_rfl) (fun _ _ _ h => h) (Or.inl ⟨by rfl, ?_⟩) hHeld ?_
  · intro w9 hSw
    try dsimp only at hSw
    have hcc := Blk.wy (r := ⟨f, pr, ⟨sf, sh, sl⟩, ⟨df, dh, dl⟩, sp, dp⟩) hSw.1
    go_simp
  try simp only [Act.put, List.setIfInBounds_toArray, List.set_cons_zero, List.set_cons_succ]
  refine wpAnyH_take (i := 27) (oi := { dst := some 34, op := Op.fieldAddr 26 (.tmp 3) 5, type := 0, pos := "ref.go:34", after := #[], guard := none }) (v := (.pointer (some ⟨W1.heap.size, 9, none⟩))) rfl (by kernel_rfl) (by kernel_rfl) (by kernel_rfl) (fun _ _ _ h => h) (Or.inl ⟨by rfl, ?_⟩) hHeld ?_
  · intro w9 hSw
    try dsimp only at hSw
    go_simp
  try simp only [Act.put, List.setIfInBounds_toArray, List.set_cons_zero, List.set_cons_succ]
  refine wpAnyH_take (i := 28) (oi := { dst := some 35, op := Op.load 3 (.tmp 34), type := 3, pos := "ref.go:34", after := #[{ on := 27, ground := Ground.data }], guard := none }) (v := (.int .i64 dp')) rfl (by kernel_rfl) (by kernel_rfl) (by kernel_rfl) (fun _ _ _ h => h) (Or.inl ⟨by rfl, ?_⟩) hHeld ?_
  · intro w9 hSw
    try dsimp only at hSw
    have hcc := Blk.wy (r := ⟨f', pr', ⟨sf', sh', sl'⟩, ⟨df', dh', dl'⟩, sp', dp'⟩) hSw.2
    go_simp
  try simp only [Act.put, List.setIfInBounds_toArray, List.set_cons_zero, List.set_cons_succ]
  refine wpAnyH_ready (rs := [4]) (by kernel_rfl) (by simp) ?_
  refine AllReadyH.cons (o := { dst := some 11, op := Op.call { callee := Callee.value (.func 56), args := #[.tmp 8, .tmp 10], argTypes := #[3, 3] }, type := 3, pos := "ref.go:34", after := #[{ on := 1, ground := Ground.data }, { on := 3, ground := Ground.data }], guard := none }) rfl (fun K hK => ?_) AllReadyH.nil
  go_simp
  refine Calls.mono (K0.out _) ?_
  rintro e W9 ⟨rfl, hWs⟩
  rw [hWs]
  clear hWs W9 K0
  refine hK.out _ _ (by exact ⟨Ad_, Bd⟩) (fun hHeld => ?_)
  clear hK K
  try simp only [Act.put, List.setIfInBounds_toArray, List.set_cons_zero, List.set_cons_succ]
  refine wpAnyH_ready (rs := [9]) (by kernel_rfl) (by simp) ?_
  refine AllReadyH.cons (o := { dst := some 16, op := Op.call { callee := Callee.value (.func 56), args := #[.tmp 13, .tmp 15], argTypes := #[3, 3] }, type := 3, pos := "ref.go:34", after := #[{ on := 6, ground := Ground.data }, { on := 8, ground := Ground.data }, { on := 4, ground := Ground.chain }], guard := none }) rfl (fun K hK => ?_) AllReadyH.nil
  go_simp
  refine Calls.mono (K1.out _) ?_
  rintro e W9 ⟨rfl, hWs⟩
  rw [hWs]
  clear hWs W9 K1
  refine hK.out _ _ (by exact ⟨Ad_, Bd⟩) (fun hHeld => ?_)
  clear hK K
  try simp only [Act.put, List.setIfInBounds_toArray, List.set_cons_zero, List.set_cons_succ]
  refine wpAnyH_ready (rs := [14]) (by kernel_rfl) (by simp) ?_
  refine AllReadyH.cons (o := { dst := some 21, op := Op.call { callee := Callee.value (.func 57), args := #[.tmp 18, .tmp 20], argTypes := #[24, 24] }, type := 3, pos := "ref.go:34", after := #[{ on := 11, ground := Ground.data }, { on := 13, ground := Ground.data }, { on := 9, ground := Ground.chain }], guard := none }) rfl (fun K hK => ?_) AllReadyH.nil
  go_simp
  refine Calls.mono (K2.out _) ?_
  rintro e W3 ⟨rfl, bb⟩
  have A3 := Ad_.kept bb
  have B3 := Bd.kept bb
  have b3 := bel_tr bd bb
  clear bb K2
  refine hK.out _ _ (by exact ⟨A3, B3⟩) (fun hHeld => ?_)
  clear hK K
  try simp only [Act.put, List.setIfInBounds_toArray, List.set_cons_zero, List.set_cons_succ]
  refine wpAnyH_ready (rs := [19]) (by kernel_rfl) (by simp) ?_
  refine AllReadyH.cons (o := { dst := some 26, op := Op.call { callee := Callee.value (.func 57), args := #[.tmp 23, .tmp 25], argTypes := #[24, 24] }, type := 3, pos := "ref.go:34", after := #[{ on := 16, ground := Ground.data }, { on := 18, ground := Ground.data }, { on := 14, ground := Ground.chain }], guard := none }) rfl (fun K hK => ?_) AllReadyH.nil
  go_simp
  refine Calls.mono (K3.out _) ?_
  rintro e W4 ⟨rfl, bb⟩
  have A4 := A3.kept bb
  have B4 := B3.kept bb
  have b4 := bel_tr b3 bb
  clear bb K3
  refine hK.out _ _ (by exact ⟨A4, B4⟩) (fun hHeld => ?_)
  clear hK K
  try simp only [Act.put, List.setIfInBounds_toArray, List.set_cons_zero, List.set_cons_succ]
  refine wpAnyH_ready (rs := [24]) (by kernel_rfl) (by simp) ?_
  refine AllReadyH.cons (o := { dst := some 31, op := Op.call { callee := Callee.value (.func 56), args := #[.tmp 28, .tmp 30], argTypes := #[3, 3] }, type := 3, pos := "ref.go:34", after := #[{ on := 21, ground := Ground.data }, { on := 23, ground := Ground.data }, { on := 19, ground := Ground.chain }], guard := none }) rfl (fun K hK => ?_) AllReadyH.nil
  go_simp
  refine Calls.mono (K4.out _) ?_
  rintro e W9 ⟨rfl, hWs⟩
  rw [hWs]
  clear hWs W9 K4
  refine hK.out _ _ (by exact ⟨A4, B4⟩) (fun hHeld => ?_)
  clear hK K
  try simp only [Act.put, List.setIfInBounds_toArray, List.set_cons_zero, List.set_cons_succ]
  refine wpAnyH_ready (rs := [29]) (by kernel_rfl) (by simp) ?_
  refine AllReadyH.cons (o := { dst := some 36, op := Op.call { callee := Callee.value (.func 56), args := #[.tmp 33, .tmp 35], argTypes := #[3, 3] }, type := 3, pos := "ref.go:34", after := #[{ on := 26, ground := Ground.data }, { on := 28, ground := Ground.data }, { on := 24, ground := Ground.chain }], guard := none }) rfl (fun K hK => ?_) AllReadyH.nil
  go_simp
  refine Calls.mono (K5.out _) ?_
  rintro e W9 ⟨rfl, hWs⟩
  rw [hWs]
  clear hWs W9 K5
  refine hK.out _ _ (by exact ⟨A4, B4⟩) (fun hHeld => ?_)
  clear hK K
  try simp only [Act.put, List.setIfInBounds_toArray, List.set_cons_zero, List.set_cons_succ]
  refine wpAnyH_ready (rs := [30]) (by kernel_rfl) (by simp) ?_
  refine AllReadyH.cons (o := { dst := some 37, op := Op.buildSlice 102 6 #[(0, .tmp 11), (1, .tmp 16), (2, .tmp 21), (3, .tmp 26), (4, .tmp 31), (5, .tmp 36)], type := 102, pos := "ref.go:34", after := #[{ on := 4, ground := Ground.data }, { on := 9, ground := Ground.data }, { on := 14, ground := Ground.data }, { on := 19, ground := Ground.data }, { on := 24, ground := Ground.data }, { on := 29, ground := Ground.data }], guard := none }) rfl (fun K hK => ?_) AllReadyH.nil
  go_simp
  refine hK.out _ _ (by exact ⟨A4.alloc _, B4.alloc _⟩) (fun hHeld => ?_)
  clear hK K
  try simp only [Act.put, List.setIfInBounds_toArray, List.set_cons_zero, List.set_cons_succ]
  refine wpAnyH_take (i := 31) (oi := { dst := some 5, op := Op.assign (.tmp 37), type := 102, pos := "ref.go:34", after := #[{ on := 30, ground := Ground.data }, { on := 29, ground := Ground.chain }, { on := 0, ground := Ground.phase }, { on := 1, ground := Ground.phase }, { on := 2, ground := Ground.phase }, { on := 3, ground := Ground.phase }, { on := 4, ground := Ground.phase }, { on := 5, ground := Ground.phase }, { on := 6, ground := Ground.phase }, { on := 7, ground := Ground.phase }, { on := 8, ground := Ground.phase }, { on := 9, ground := Ground.phase }, { on := 10, ground := Ground.phase }, { on := 11, ground := Ground.phase }, { on := 12, ground := Ground.phase }, { on := 13, ground := Ground.phase }, { on := 14, ground := Ground.phase }, { on := 15, ground := Ground.phase }, { on := 16, ground := Ground.phase }, { on := 17, ground := Ground.phase }, { on := 18, ground := Ground.phase }, { on := 19, ground := Ground.phase }, { on := 20, ground := Ground.phase }, { on := 21, ground := Ground.phase }, { on := 22, ground := Ground.phase }, { on := 23, ground := Ground.phase }, { on := 24, ground := Ground.phase }, { on := 25, ground := Ground.phase }, { on := 26, ground := Ground.phase }, { on := 27, ground := Ground.phase }, { on := 28, ground := Ground.phase }, { on := 29, ground := Ground.phase }, { on := 30, ground := Ground.phase }], guard := none }) (v := (.slice (some ⟨W4.heap.size, 0, none⟩) 6 6)) rfl (by kernel_rfl) (by kernel_rfl) (by kernel_rfl) (fun _ _ _ h => h) (Or.inl ⟨by rfl, ?_⟩) hHeld ?_
  · intro w9 hSw
    try dsimp only at hSw
    go_simp
  try simp only [Act.put, List.setIfInBounds_toArray, List.set_cons_zero, List.set_cons_succ]
  refine wpAnyH_done (by kernel_rfl) ?_ _
  refine NoPanic.normal ?_
  have c0 : ∀ (i : Nat) v, (#[.int .i64 x0, .int .i64 x1, .int .i64 x2, .int .i64 x3, .int .i64 x4, .int .i64 x5] : Array Value)[i]? = some v → (W4.alloc (.cells #[.int .i64 x0, .int .i64 x1, .int .i64 x2, .int .i64 x3, .int .i64 x4, .int .i64 x5] 3)).cell? ⟨W4.heap.size, i, none⟩ = some v := fun i v hv => (blk_new W4 #[.int .i64 x0, .int .i64 x1, .int .i64 x2, .int .i64 x3, .int .i64 x4, .int .i64 x5] 3).cell i v hv
  have d0 := c0 0 (.int .i64 x0) rfl
  have d1 := c0 1 (.int .i64 x1) rfl
  have d2 := c0 2 (.int .i64 x2) rfl
  have d3 := c0 3 (.int .i64 x3) rfl
  have d4 := c0 4 (.int .i64 x4) rfl
  have d5 := c0 5 (.int .i64 x5) rfl
  have b5 := b4.alloc b4.size (.cells #[.int .i64 x0, .int .i64 x1, .int .i64 x2, .int .i64 x3, .int .i64 x4, .int .i64 x5] 3)
  clear c0 hHeld A4 B4 b4
  generalize W4.heap.size = G at *
  generalize W4.alloc (.cells #[.int .i64 x0, .int .i64 x1, .int .i64 x2, .int .i64 x3, .int .i64 x4, .int .i64 x5] 3) = W5 at *
  go_wp2
  go_loop [6] (fun i => ∃ k : Nat, k ≤ 6 ∧ i = .int .i64 k ∧ Hid (fst0 [x0, x1, x2, x3, x4, x5] = fst0 (([x0, x1, x2, x3, x4, x5] : List Int).drop k))) (fun i => 6 - (intOf i).toNat)
  case atStart => exact ⟨0, by omega, rfl, rfl⟩
  case round =>
    obtain ⟨k, hk, rfl, hr⟩ := hrel
    have hk' : k = 0 ∨ k = 1 ∨ k = 2 ∨ k = 3 ∨ k = 4 ∨ k = 5 ∨ k = 6 := by omega
    rcases hk' with rfl | rfl | rfl | rfl | rfl | rfl | rfl
    · by_cases hx : x0 = 0
      · have n0 : (x0 == 0) = true := by simpa using hx
        have HX : Hid _ := hx
        clear hx
        go_wp2
        exact ⟨⟨1, by omega, rfl, hr.out.trans (by show fst0 (x0 :: _) = _; rw [fst0, if_pos HX.out]; rfl)⟩, by simp [intOf]⟩
      · have n0 : (x0 == 0) = false := by simpa using hx
        have HX : Hid _ := hx
        clear hx
        go_wp2
        go_ret
        exact ⟨ret_int (by rw [← HT.out, hr.out]; show _ = fst0 (x0 :: _); rw [fst0, if_neg HX.out]), b5⟩
    · by_cases hx : x1 = 0
      · have n0 : (x1 == 0) = true := by simpa using hx
        have HX : Hid _ := hx
        clear hx
        go_wp2
        exact ⟨⟨2, by omega, rfl, hr.out.trans (by show fst0 (x1 :: _) = _; rw [fst0, if_pos HX.out]; rfl)⟩, by simp [intOf]⟩
      · have n0 : (x1 == 0) = false := by simpa using hx
        have HX : Hid _ := hx
        clear hx
        go_wp2
        go_ret
        exact ⟨ret_int (by rw [← HT.out, hr.out]; show _ = fst0 (x1 :: _); rw [fst0, if_neg HX.out]), b5⟩
    · by_cases hx : x2 = 0
      · have n0 : (x2 == 0) = true := by simpa using hx
        have HX : Hid _ := hx
        clear hx
        go_wp2
        exact ⟨⟨3, by omega, rfl, hr.out.trans (by show fst0 (x2 :: _) = _; rw [fst0, if_pos HX.out]; rfl)⟩, by simp [intOf]⟩
      · have n0 : (x2 == 0) = false := by simpa using hx
        have HX : Hid _ := hx
        clear hx
        go_wp2
        go_ret
        exact ⟨ret_int (by rw [← HT.out, hr.out]; show _ = fst0 (x2 :: _); rw [fst0, if_neg HX.out]), b5⟩
    · by_cases hx : x3 = 0
      · have n0 : (x3 == 0) = true := by simpa using hx
        have HX : Hid _ := hx
        clear hx
        go_wp2
        exact ⟨⟨4, by omega, rfl, hr.out.trans (by show fst0 (x3 :: _) = _; rw [fst0, if_pos HX.out]; rfl)⟩, by simp [intOf]⟩
      · have n0 : (x3 == 0) = false := by simpa using hx
        have HX : Hid _ := hx
        clear hx
        go_wp2
        go_ret
        exact ⟨ret_int (by rw [← HT.out, hr.out]; show _ = fst0 (x3 :: _); rw [fst0, if_neg HX.out]), b5⟩
    · by_cases hx : x4 = 0
      · have n0 : (x4 == 0) = true := by simpa using hx
        have HX : Hid _ := hx
        clear hx
        go_wp2
        exact ⟨⟨5, by omega, rfl, hr.out.trans (by show fst0 (x4 :: _) = _; rw [fst0, if_pos HX.out]; rfl)⟩, by simp [intOf]⟩
      · have n0 : (x4 == 0) = false := by simpa using hx
        have HX : Hid _ := hx
        clear hx
        go_wp2
        go_ret
        exact ⟨ret_int (by rw [← HT.out, hr.out]; show _ = fst0 (x4 :: _); rw [fst0, if_neg HX.out]), b5⟩
    · by_cases hx : x5 = 0
      · have n0 : (x5 == 0) = true := by simpa using hx
        have HX : Hid _ := hx
        clear hx
        go_wp2
        exact ⟨⟨6, by omega, rfl, hr.out.trans (by show fst0 (x5 :: _) = _; rw [fst0, if_pos HX.out]; rfl)⟩, by simp [intOf]⟩
      · have n0 : (x5 == 0) = false := by simpa using hx
        have HX : Hid _ := hx
        clear hx
        go_wp2
        go_ret
        exact ⟨ret_int (by rw [← HT.out, hr.out]; show _ = fst0 (x5 :: _); rw [fst0, if_neg HX.out]), b5⟩
    · go_wp2
      go_ret
      exact ⟨ret_int (by rw [← HT.out, hr.out]; rfl), b5⟩
theorem setConn_fw (f : Fl) (c : Cn) : setMany f.v 10 c.v.toList = Fl.v ⟨f.w, c, f.ends, f.help, f.both⟩ := by kernel_rfl
set_option maxRecDepth 100000 in
set_option maxHeartbeats 16000000 in
theorem go1_fw (f : Fl) (s : Sm) (now : Int) (w : World) :
    Calls Try.prog 15 #[.agg f.v, .int .i64 1, .agg s.v, .int .i64 now] w fun e w' => e = .returned (.tuple #[.agg (f.goS true s now).1.v, .int .i64 (f.goS true s now).2]) ∧ Below w.heap.size w w' := by
  obtain ⟨R, hR⟩ : ∃ R, f.goS true s now = R := ⟨_, rfl⟩
  have HR : Hid (f.goS true s now = R) := hR
  rw [hR]
  clear hR
  have b := Below.refl w.heap.size w
  go_enter Try.func15, Try.ntmps15
  obtain ⟨Wm1, hWm1⟩ : ∃ W, w.alloc (.cells f.v 33) = W := ⟨_, rfl⟩
  have bm1 := bel_nw hWm1
  have Am1 := blk_nw hWm1
  have gA : w.heap.size ≤ w.heap.size := Nat.le_refl _
  obtain ⟨Wm2, hWm2⟩ : ∃ W, Wm1.alloc (.cells s.v 36) = W := ⟨_, rfl⟩
  have bm2 := bel_al bm1 hWm2
  have Am2 := Am1.al hWm2
  have Bm2 := blk_nw hWm2
  have gB : w.heap.size ≤ Wm1.heap.size := bm1.size
  have nAB : w.heap.size ≠ Wm1.heap.size := by have := Am1.lt; omega
  have nBA : Wm1.heap.size ≠ w.heap.size := fun e => nAB e.symm
  obtain ⟨Wm3, hWm3⟩ : ∃ W, Wm2.alloc (.cells #[.int .i64 0, .int .i64 0, .int .i64 0, .int .u64 0, .int .u64 0, .int .i64 0, .int .u64 0, .int .u64 0, .int .i64 0, .int .i64 0, .int .i64 0, .int .u32 0, .int .u32 0, .int .u32 0, .int .u32 0, .bool false, .bool false, .bool false, .bool false, .int .i64 0, .int .i64 0, .bool false] 33) = W := ⟨_, rfl⟩
  have bm3 := bel_al bm2 hWm3
  have Am3 := Am2.al hWm3
  have Bm3 := Bm2.al hWm3
  have Cm3 := blk_nw hWm3
  have gC : w.heap.size ≤ Wm2.heap.size := bm2.size
  have nAC : w.heap.size ≠ Wm2.heap.size := by have := Am2.lt; omega
  have nCA : Wm2.heap.size ≠ w.heap.size := fun e => nAC e.symm
  have nBC : Wm1.heap.size ≠ Wm2.heap.size := by have := Bm2.lt; omega
  have nCB : Wm2.heap.size ≠ Wm1.heap.size := fun e => nBC e.symm
  go_wp2_with (refine wpList_load_blk_w (by rfl) _ _ rfl w.heap.size (by rfl) _ Am3 Try.underlying33 (by kernel_rfl) ?_)
  refine Calls.mono (right_fw f _) ?_
  rintro e Wm4 ⟨rfl, bb⟩
  have Am4 := Am3.kept bb
  have Bm4 := Bm3.kept bb
  have Cm4 := Cm3.kept bb
  have bm4 := bel_tr bm3 bb
  clear bb
  clear Am3 Bm3 Cm3 bm3
  cases hq5 : (Fl.right f) with
  | false =>
    obtain ⟨Wm6, hWm6⟩ : ∃ W, Wm4.setRow Wm2.heap.size fl0.v = W := ⟨_, rfl⟩
    have Cm6 : Blk Wm6 Wm2.heap.size 33 fl0.v := hWm6 ▸ Cm4.set fl0.v
    have Am6 := hWm6 ▸ Am4.other nAC fl0.v
    have Bm6 := hWm6 ▸ Bm4.other nBC fl0.v
    have bm6 := hWm6 ▸ below_setRow bm4 gC fl0.v
    go_wp2_with (refine wpList_store_row rfl _ _ _ rfl Wm2.heap.size fl0.v (by rfl) (by rfl) _ _ Cm4 (by kernel_rfl) (by rfl) (by kernel_rfl) ?_; rw [hWm6])
    have hR2 : R = ((fl0 : Fl), (1 : Int)) := by rw [← HR.out]; first | rfl | (simp [Fl.goS, hq5]; done) | (simp [Fl.goS, hq5]; rfl)
    subst hR2
    exact ret_cell_tmp (k := 8) (j := 9) Try.f15 (by kernel_rfl) Cm6 Try.underlying33 (by kernel_rfl) (by rfl) (by rfl) rfl ⟨rfl, bm6⟩

  | true =>
    go_wp2_with fail
    refine Calls.mono (now_fw now _) ?_
    rintro e Wm7 ⟨rfl, bb⟩
    have Am7 := Am4.kept bb
    have Bm7 := Bm4.kept bb
    have Cm7 := Cm4.kept bb
    have bm7 := bel_tr bm4 bb
    clear bb
    clear Am4 Bm4 Cm4 bm4
    cases hq8 : (nowB now) with
    | false =>
      obtain ⟨Wm9, hWm9⟩ : ∃ W, Wm7.setRow Wm2.heap.size fl0.v = W := ⟨_, rfl⟩
      have Cm9 : Blk Wm9 Wm2.heap.size 33 fl0.v := hWm9 ▸ Cm7.set fl0.v
      have Am9 := hWm9 ▸ Am7.other nAC fl0.v
      have Bm9 := hWm9 ▸ Bm7.other nBC fl0.v
      have bm9 := hWm9 ▸ below_setRow bm7 gC fl0.v
      go_wp2_with (refine wpList_store_row rfl _ _ _ rfl Wm2.heap.size fl0.v (by rfl) (by rfl) _ _ Cm7 (by kernel_rfl) (by rfl) (by kernel_rfl) ?_; rw [hWm9])
      have hR2 : R = ((fl0 : Fl), (1 : Int)) := by rw [← HR.out]; first | rfl | (simp [Fl.goS, hq5, hq8]; done) | (simp [Fl.goS, hq5, hq8]; rfl)
      subst hR2
      exact ret_cell_tmp (k := 8) (j := 9) Try.f15 (by kernel_rfl) Cm9 Try.underlying33 (by kernel_rfl) (by rfl) (by rfl) rfl ⟨rfl, bm9⟩

    | true =>
      go_wp2_with fail
      obtain ⟨Wdq10, hWdq10⟩ : ∃ W, Wm7.drew = W := ⟨_, rfl⟩
      have Adq10 := hWdq10 ▸ Am7.drew
      have Bdq10 := hWdq10 ▸ Bm7.drew
      have Cdq10 := hWdq10 ▸ Cm7.drew
      have bdq10 := hWdq10 ▸ bm7.drew
      refine wp_region_noPanic ?_
      refine wp_region_held_drew (S := fun w' => Blk w' w.heap.size 33 f.v ∧ Blk w' Wm1.heap.size 36 s.v ∧ Blk w' Wm2.heap.size 33 #[.int .i64 0, .int .i64 0, .int .i64 0, .int .u64 0, .int .u64 0, .int .i64 0, .int .u64 0, .int .u64 0, .int .i64 0, .int .i64 0, .int .i64 0, .int .u32 0, .int .u32 0, .int .u32 0, .int .u32 0, .bool false, .bool false, .bool false, .bool false, .int .i64 0, .int .i64 0, .bool false]) (by kernel_rfl) (by rw [hWdq10]; exact ⟨Adq10, Bdq10, Cdq10⟩) (fun hHeld => ?_)
      rw [hWdq10] at hHeld ⊢
      refine wpAnyH_take (i := 0) (oi := { dst := some 29, op := Op.fieldAddr 36 (.tmp 6) 0, type := 0, pos := "flow.go:67", after := #[], guard := none }) (v := (.pointer (some ⟨Wm1.heap.size, 0, none⟩))) rfl (by kernel_rfl) (by kernel_rfl) (by kernel_rfl) (fun _ _ _ h => h) (Or.inl ⟨by rfl, ?_⟩) hHeld ?_
      · intro w9 hSw
        try dsimp only at hSw
        go_simp
      try simp only [Act.put, List.setIfInBounds_toArray, List.set_cons_zero, List.set_cons_succ]
      refine wpAnyH_take (i := 1) (oi := { dst := some 30, op := Op.load 26 (.tmp 29), type := 26, pos := "flow.go:67", after := #[{ on := 0, ground := Ground.data }], guard := none }) (v := (.agg s.w.v)) rfl (by kernel_rfl) (by kernel_rfl) (by kernel_rfl) (fun _ _ _ h => h) (yieldsIf_sub_w (by kernel_rfl) _ _ rfl Wm1.heap.size 0 _ (by rfl) _ s.w.v (fun _ hSw => hSw.2.1) (by rfl) Try.underlying26 (by kernel_rfl)) hHeld ?_
      try simp only [Act.put, List.setIfInBounds_toArray, List.set_cons_zero, List.set_cons_succ]
      refine wpAnyH_take (i := 2) (oi := { dst := some 31, op := Op.load 33 (.tmp 4), type := 33, pos := "flow.go:67", after := #[], guard := none }) (v := (.agg f.v)) rfl (by kernel_rfl) (by kernel_rfl) (by kernel_rfl) (fun _ _ _ h => h) (yieldsIf_blk_w (by kernel_rfl) _ _ rfl w.heap.size (by rfl) _ (fun _ hSw => hSw.1) Try.underlying33 (by kernel_rfl)) hHeld ?_
      try simp only [Act.put, List.setIfInBounds_toArray, List.set_cons_zero, List.set_cons_succ]
      refine wpAnyH_take (i := 3) (oi := { dst := some 32, op := Op.move (.tmp 1), type := 3, pos := "flow.go:67", after := #[], guard := none }) (v := (.int .i64 1)) rfl (by kernel_rfl) (by kernel_rfl) (by kernel_rfl) (fun _ _ _ h => h) (Or.inl ⟨by rfl, ?_⟩) hHeld ?_
      · intro w9 hSw
        try dsimp only at hSw
        go_simp
      try simp only [Act.put, List.setIfInBounds_toArray, List.set_cons_zero, List.set_cons_succ]
      refine wpAnyH_ready (rs := [4]) (by kernel_rfl) (by simp) ?_
      refine AllReadyH.cons (o := { dst := some 33, op := Op.call { callee := Callee.value (.func 43), args := #[.tmp 31, .tmp 32], argTypes := #[33, 3] }, type := 26, pos := "flow.go:67", after := #[{ on := 2, ground := Ground.data }, { on := 3, ground := Ground.data }], guard := none }) rfl (fun K hK => ?_) AllReadyH.nil
      go_simp
      refine Calls.mono (way1_fw f _) ?_
      rintro e Wx11 ⟨rfl, bb⟩
      have Ax11 := Adq10.kept bb
      have Bx11 := Bdq10.kept bb
      have Cx11 := Cdq10.kept bb
      have bx11 := bel_tr bdq10 bb
      clear bb
      refine hK.out _ _ (by exact ⟨Ax11, Bx11, Cx11⟩) (fun hHeld => ?_)
      clear hK K
      try simp only [Act.put, List.setIfInBounds_toArray, List.set_cons_zero, List.set_cons_succ]
      refine wpAnyH_take (i := 5) (oi := { dst := some 34, op := Op.binOp BinOp.neq 26 (.tmp 30) (.tmp 33) 26, type := 4, pos := "flow.go:67", after := #[{ on := 1, ground := Ground.data }, { on := 4, ground := Ground.data }], guard := none }) (v := (.bool (!(Wy.eqB s.w (Fl.way f true))))) rfl (by kernel_rfl) (by kernel_rfl) (by kernel_rfl) (fun _ _ _ h => h) (Or.inl ⟨by rfl, ?_⟩) hHeld ?_
      · intro w9 hSw
        try dsimp only at hSw
        have hcc := neq_way s.w (Fl.way f true)
        go_simp
      try simp only [Act.put, List.setIfInBounds_toArray, List.set_cons_zero, List.set_cons_succ]
      refine wpAnyH_done (by kernel_rfl) ?_ _
      refine NoPanic.normal ?_
      cases hq12 : (Wy.eqB s.w (Fl.way f true)) with
      | false =>
        obtain ⟨Wm13, hWm13⟩ : ∃ W, Wx11.setRow Wm2.heap.size fl0.v = W := ⟨_, rfl⟩
        have Cm13 : Blk Wm13 Wm2.heap.size 33 fl0.v := hWm13 ▸ Cx11.set fl0.v
        have Am13 := hWm13 ▸ Ax11.other nAC fl0.v
        have Bm13 := hWm13 ▸ Bx11.other nBC fl0.v
        have bm13 := hWm13 ▸ below_setRow bx11 gC fl0.v
        go_wp2_with (refine wpList_store_row rfl _ _ _ rfl Wm2.heap.size fl0.v (by rfl) (by rfl) _ _ Cx11 (by kernel_rfl) (by rfl) (by kernel_rfl) ?_; rw [hWm13])
        have hR2 : R = ((fl0 : Fl), (23 : Int)) := by rw [← HR.out]; first | rfl | (simp [Fl.goS, hq5, hq8, hq12]; done) | (simp [Fl.goS, hq5, hq8, hq12]; rfl)
        subst hR2
        exact ret_cell_tmp (k := 8) (j := 9) Try.f15 (by kernel_rfl) Cm13 Try.underlying33 (by kernel_rfl) (by rfl) (by rfl) rfl ⟨rfl, bm13⟩

      | true =>
        go_wp2_with (first | (refine wpList_load_sub_w (by rfl) _ _ rfl w.heap.size 10 _ (by rfl) _ f.c.v Ax11 (by rfl) Try.underlying31 (by kernel_rfl) ?_) | (refine wpList_load_blk_w (by rfl) _ _ rfl Wm1.heap.size (by rfl) _ Bx11 Try.underlying36 (by kernel_rfl) ?_))
        refine Calls.mono (step1_fw f.c s _) ?_
        rintro e Wm14 ⟨rfl, bb⟩
        have Am14 := Ax11.kept bb
        have Bm14 := Bx11.kept bb
        have Cm14 := Cx11.kept bb
        have bm14 := bel_tr bx11 bb
        clear bb
        clear Ax11 Bx11 Cx11 bx11
        cases hq17 : ((Sm.stp s f.c true).2 != 0) with
        | false =>
          cases hq22 : f.both with
          | false =>
            obtain ⟨Wm23, hWm23⟩ : ∃ W, Wm14.alloc (.cells #[.int .i64 0, .int .u32 0, .int .u32 0, .int .u32 0, .int .u32 0, .bool false, .bool false, .bool false, .bool false] 31) = W := ⟨_, rfl⟩
            have bm23 := bel_al bm14 hWm23
            have Am23 := Am14.al hWm23
            have Bm23 := Bm14.al hWm23
            have Cm23 := Cm14.al hWm23
            have Dm23 := blk_nw hWm23
            have gD : w.heap.size ≤ Wm14.heap.size := bm14.size
            have nAD : w.heap.size ≠ Wm14.heap.size := by have := Am14.lt; omega
            have nDA : Wm14.heap.size ≠ w.heap.size := fun e => nAD e.symm
            have nBD : Wm1.heap.size ≠ Wm14.heap.size := by have := Bm14.lt; omega
            have nDB : Wm14.heap.size ≠ Wm1.heap.size := fun e => nBD e.symm
            have nCD : Wm2.heap.size ≠ Wm14.heap.size := by have := Cm14.lt; omega
            have nDC : Wm14.heap.size ≠ Wm2.heap.size := fun e => nCD e.symm
            obtain ⟨Wm24, hWm24⟩ : ∃ W, Wm23.setRow Wm14.heap.size (Sm.stp s f.c true).1.v = W := ⟨_, rfl⟩
            have Dm24 : Blk Wm24 Wm14.heap.size 31 (Sm.stp s f.c true).1.v := hWm24 ▸ Dm23.set (Sm.stp s f.c true).1.v
            have Am24 := hWm24 ▸ Am23.other nAD (Sm.stp s f.c true).1.v
            have Bm24 := hWm24 ▸ Bm23.other nBD (Sm.stp s f.c true).1.v
            have Cm24 := hWm24 ▸ Cm23.other nCD (Sm.stp s f.c true).1.v
            have bm24 := hWm24 ▸ below_setRow bm23 gD (Sm.stp s f.c true).1.v
            obtain ⟨Wm25, hWm25⟩ : ∃ W, Wm24.setRow w.heap.size (Fl.v ⟨f.w, (Sm.stp s f.c true).1, f.ends, f.help, f.both⟩) = W := ⟨_, rfl⟩
            have Am25 : Blk Wm25 w.heap.size 33 (Fl.v ⟨f.w, (Sm.stp s f.c true).1, f.ends, f.help, f.both⟩) := hWm25 ▸ Am24.set (Fl.v ⟨f.w, (Sm.stp s f.c true).1, f.ends, f.help, f.both⟩)
            have Bm25 := hWm25 ▸ Bm24.other nBA (Fl.v ⟨f.w, (Sm.stp s f.c true).1, f.ends, f.help, f.both⟩)
            have Cm25 := hWm25 ▸ Cm24.other nCA (Fl.v ⟨f.w, (Sm.stp s f.c true).1, f.ends, f.help, f.both⟩)
            have Dm25 := hWm25 ▸ Dm24.other nDA (Fl.v ⟨f.w, (Sm.stp s f.c true).1, f.ends, f.help, f.both⟩)
            have bm25 := hWm25 ▸ below_setRow bm24 gA (Fl.v ⟨f.w, (Sm.stp s f.c true).1, f.ends, f.help, f.both⟩)
            have c26 := Am25.cell 21 (.bool f.both) rfl
            have y28 := Am25.cell 21 (.bool f.both) rfl
            have z29 := Am25.frozen 21
            obtain ⟨Wm27, hWm27⟩ : ∃ W, Wm25.setCell ⟨w.heap.size, 21, none⟩ (.bool true) = W := ⟨_, rfl⟩
            have Am27 : Blk Wm27 w.heap.size 33 (Fl.v ⟨f.w, (Sm.stp s f.c true).1, f.ends, f.help, true⟩) := hWm27 ▸ Am25.put 21 (.bool true)
            have Bm27 := hWm27 ▸ Bm25.put_other Am25 nBA 21 (.bool true)
            have Cm27 := hWm27 ▸ Cm25.put_other Am25 nCA 21 (.bool true)
            have Dm27 := hWm27 ▸ Dm25.put_other Am25 nDA 21 (.bool true)
            have bm27 := hWm27 ▸ bm25.setCell (p := ⟨w.heap.size, 21, none⟩) gA (.bool true)
            go_wp2_with (first | (refine wpList_store_row rfl _ _ _ rfl Wm14.heap.size (Sm.stp s f.c true).1.v (by rfl) (by rfl) _ _ Dm23 (by kernel_rfl) (by rfl) (by kernel_rfl) ?_; rw [hWm24]) | (refine wpList_load_blk_w (by rfl) _ _ rfl Wm14.heap.size (by rfl) _ Dm24 Try.underlying31 (by kernel_rfl) ?_) | (refine wpList_store_off rfl _ _ _ rfl w.heap.size 10 _ (Sm.stp s f.c true).1.v _ (Fl.v ⟨f.w, (Sm.stp s f.c true).1, f.ends, f.help, f.both⟩) (by rfl) (by rfl) Am24 (by kernel_rfl) (Nat.le_of_ble_eq_true (by kernel_rfl)) (by kernel_rfl) (setConn_fw f (Sm.stp s f.c true).1) ?_; rw [hWm25]) | (refine wpList_load_blk_w (by rfl) _ _ rfl w.heap.size (by rfl) _ Am27 Try.underlying33 (by kernel_rfl) ?_))
            clear c26 y28 z29
            refine Calls.mono (keep_fw (⟨f.w, (Sm.stp s f.c true).1, f.ends, f.help, true⟩) now _ (by assumption) (stepC (by assumption) (by assumption) (by assumption))) ?_
            rintro e Wm30 ⟨rfl, bb⟩
            have Am30 := Am27.kept bb
            have Bm30 := Bm27.kept bb
            have Cm30 := Cm27.kept bb
            have Dm30 := Dm27.kept bb
            have bm30 := bel_tr bm27 bb
            clear bb
            clear Am27 Bm27 Cm27 Dm27 bm27
            obtain ⟨Wm31, hWm31⟩ : ∃ W, Wm30.setRow Wm2.heap.size (Fl.keep (⟨f.w, (Sm.stp s f.c true).1, f.ends, f.help, true⟩) now).v = W := ⟨_, rfl⟩
            have Cm31 : Blk Wm31 Wm2.heap.size 33 (Fl.keep (⟨f.w, (Sm.stp s f.c true).1, f.ends, f.help, true⟩) now).v := hWm31 ▸ Cm30.set (Fl.keep (⟨f.w, (Sm.stp s f.c true).1, f.ends, f.help, true⟩) now).v
            have Am31 := hWm31 ▸ Am30.other nAC (Fl.keep (⟨f.w, (Sm.stp s f.c true).1, f.ends, f.help, true⟩) now).v
            have Bm31 := hWm31 ▸ Bm30.other nBC (Fl.keep (⟨f.w, (Sm.stp s f.c true).1, f.ends, f.help, true⟩) now).v
            have Dm31 := hWm31 ▸ Dm30.other nDC (Fl.keep (⟨f.w, (Sm.stp s f.c true).1, f.ends, f.help, true⟩) now).v
            have bm31 := hWm31 ▸ below_setRow bm30 gC (Fl.keep (⟨f.w, (Sm.stp s f.c true).1, f.ends, f.help, true⟩) now).v
            go_wp2_with (refine wpList_store_row rfl _ _ _ rfl Wm2.heap.size (Fl.keep (⟨f.w, (Sm.stp s f.c true).1, f.ends, f.help, true⟩) now).v (by rfl) (by rfl) _ _ Cm30 (by kernel_rfl) (by rfl) (by kernel_rfl) ?_; rw [hWm31])
            have hR2 : R = (((Fl.keep (⟨f.w, (Sm.stp s f.c true).1, f.ends, f.help, true⟩) now) : Fl), (0 : Int)) := by rw [← HR.out]; first | rfl | (simp [Fl.goS, hq5, hq8, hq12, bne_f_fw hq17, hq22]; done) | (simp [Fl.goS, hq5, hq8, hq12, bne_f_fw hq17, hq22]; rfl)
            subst hR2
            exact ret_cell_tmp (k := 8) (j := 9) Try.f15 (by kernel_rfl) Cm31 Try.underlying33 (by kernel_rfl) (by rfl) (by rfl) rfl ⟨rfl, bm31⟩

          | true =>
            obtain ⟨Wm32, hWm32⟩ : ∃ W, Wm14.alloc (.cells #[.int .i64 0, .int .u32 0, .int .u32 0, .int .u32 0, .int .u32 0, .bool false, .bool false, .bool false, .bool false] 31) = W := ⟨_, rfl⟩
            have bm32 := bel_al bm14 hWm32
            have Am32 := Am14.al hWm32
            have Bm32 := Bm14.al hWm32
            have Cm32 := Cm14.al hWm32
            have Dm32 := blk_nw hWm32
            have gD : w.heap.size ≤ Wm14.heap.size := bm14.size
            have nAD : w.heap.size ≠ Wm14.heap.size := by have := Am14.lt; omega
            have nDA : Wm14.heap.size ≠ w.heap.size := fun e => nAD e.symm
            have nBD : Wm1.heap.size ≠ Wm14.heap.size := by have := Bm14.lt; omega
            have nDB : Wm14.heap.size ≠ Wm1.heap.size := fun e => nBD e.symm
            have nCD : Wm2.heap.size ≠ Wm14.heap.size := by have := Cm14.lt; omega
            have nDC : Wm14.heap.size ≠ Wm2.heap.size := fun e => nCD e.symm
            obtain ⟨Wm33, hWm33⟩ : ∃ W, Wm32.setRow Wm14.heap.size (Sm.stp s f.c true).1.v = W := ⟨_, rfl⟩
            have Dm33 : Blk Wm33 Wm14.heap.size 31 (Sm.stp s f.c true).1.v := hWm33 ▸ Dm32.set (Sm.stp s f.c true).1.v
            have Am33 := hWm33 ▸ Am32.other nAD (Sm.stp s f.c true).1.v
            have Bm33 := hWm33 ▸ Bm32.other nBD (Sm.stp s f.c true).1.v
            have Cm33 := hWm33 ▸ Cm32.other nCD (Sm.stp s f.c true).1.v
            have bm33 := hWm33 ▸ below_setRow bm32 gD (Sm.stp s f.c true).1.v
            obtain ⟨Wm34, hWm34⟩ : ∃ W, Wm33.setRow w.heap.size (Fl.v ⟨f.w, (Sm.stp s f.c true).1, f.ends, f.help, f.both⟩) = W := ⟨_, rfl⟩
            have Am34 : Blk Wm34 w.heap.size 33 (Fl.v ⟨f.w, (Sm.stp s f.c true).1, f.ends, f.help, f.both⟩) := hWm34 ▸ Am33.set (Fl.v ⟨f.w, (Sm.stp s f.c true).1, f.ends, f.help, f.both⟩)
            have Bm34 := hWm34 ▸ Bm33.other nBA (Fl.v ⟨f.w, (Sm.stp s f.c true).1, f.ends, f.help, f.both⟩)
            have Cm34 := hWm34 ▸ Cm33.other nCA (Fl.v ⟨f.w, (Sm.stp s f.c true).1, f.ends, f.help, f.both⟩)
            have Dm34 := hWm34 ▸ Dm33.other nDA (Fl.v ⟨f.w, (Sm.stp s f.c true).1, f.ends, f.help, f.both⟩)
            have bm34 := hWm34 ▸ below_setRow bm33 gA (Fl.v ⟨f.w, (Sm.stp s f.c true).1, f.ends, f.help, f.both⟩)
            have c35 := Am34.cell 21 (.bool f.both) rfl
            have y37 := Am34.cell 21 (.bool f.both) rfl
            have z38 := Am34.frozen 21
            obtain ⟨Wm36, hWm36⟩ : ∃ W, Wm34.setCell ⟨w.heap.size, 21, none⟩ (.bool true) = W := ⟨_, rfl⟩
            have Am36 : Blk Wm36 w.heap.size 33 (Fl.v ⟨f.w, (Sm.stp s f.c true).1, f.ends, f.help, true⟩) := hWm36 ▸ Am34.put 21 (.bool true)
            have Bm36 := hWm36 ▸ Bm34.put_other Am34 nBA 21 (.bool true)
            have Cm36 := hWm36 ▸ Cm34.put_other Am34 nCA 21 (.bool true)
            have Dm36 := hWm36 ▸ Dm34.put_other Am34 nDA 21 (.bool true)
            have bm36 := hWm36 ▸ bm34.setCell (p := ⟨w.heap.size, 21, none⟩) gA (.bool true)
            go_wp2_with (first | (refine wpList_store_row rfl _ _ _ rfl Wm14.heap.size (Sm.stp s f.c true).1.v (by rfl) (by rfl) _ _ Dm32 (by kernel_rfl) (by rfl) (by kernel_rfl) ?_; rw [hWm33]) | (refine wpList_load_blk_w (by rfl) _ _ rfl Wm14.heap.size (by rfl) _ Dm33 Try.underlying31 (by kernel_rfl) ?_) | (refine wpList_store_off rfl _ _ _ rfl w.heap.size 10 _ (Sm.stp s f.c true).1.v _ (Fl.v ⟨f.w, (Sm.stp s f.c true).1, f.ends, f.help, f.both⟩) (by rfl) (by rfl) Am33 (by kernel_rfl) (Nat.le_of_ble_eq_true (by kernel_rfl)) (by kernel_rfl) (setConn_fw f (Sm.stp s f.c true).1) ?_; rw [hWm34]) | (refine wpList_load_blk_w (by rfl) _ _ rfl w.heap.size (by rfl) _ Am36 Try.underlying33 (by kernel_rfl) ?_))
            clear c35 y37 z38
            refine Calls.mono (keep_fw (⟨f.w, (Sm.stp s f.c true).1, f.ends, f.help, true⟩) now _ (by assumption) (stepC (by assumption) (by assumption) (by assumption))) ?_
            rintro e Wm39 ⟨rfl, bb⟩
            have Am39 := Am36.kept bb
            have Bm39 := Bm36.kept bb
            have Cm39 := Cm36.kept bb
            have Dm39 := Dm36.kept bb
            have bm39 := bel_tr bm36 bb
            clear bb
            clear Am36 Bm36 Cm36 Dm36 bm36
            obtain ⟨Wm40, hWm40⟩ : ∃ W, Wm39.setRow Wm2.heap.size (Fl.keep (⟨f.w, (Sm.stp s f.c true).1, f.ends, f.help, true⟩) now).v = W := ⟨_, rfl⟩
            have Cm40 : Blk Wm40 Wm2.heap.size 33 (Fl.keep (⟨f.w, (Sm.stp s f.c true).1, f.ends, f.help, true⟩) now).v := hWm40 ▸ Cm39.set (Fl.keep (⟨f.w, (Sm.stp s f.c true).1, f.ends, f.help, true⟩) now).v
            have Am40 := hWm40 ▸ Am39.other nAC (Fl.keep (⟨f.w, (Sm.stp s f.c true).1, f.ends, f.help, true⟩) now).v
            have Bm40 := hWm40 ▸ Bm39.other nBC (Fl.keep (⟨f.w, (Sm.stp s f.c true).1, f.ends, f.help, true⟩) now).v
            have Dm40 := hWm40 ▸ Dm39.other nDC (Fl.keep (⟨f.w, (Sm.stp s f.c true).1, f.ends, f.help, true⟩) now).v
            have bm40 := hWm40 ▸ below_setRow bm39 gC (Fl.keep (⟨f.w, (Sm.stp s f.c true).1, f.ends, f.help, true⟩) now).v
            go_wp2_with (refine wpList_store_row rfl _ _ _ rfl Wm2.heap.size (Fl.keep (⟨f.w, (Sm.stp s f.c true).1, f.ends, f.help, true⟩) now).v (by rfl) (by rfl) _ _ Cm39 (by kernel_rfl) (by rfl) (by kernel_rfl) ?_; rw [hWm40])
            have hR2 : R = (((Fl.keep (⟨f.w, (Sm.stp s f.c true).1, f.ends, f.help, true⟩) now) : Fl), (0 : Int)) := by rw [← HR.out]; first | rfl | (simp [Fl.goS, hq5, hq8, hq12, bne_f_fw hq17, hq22]; done) | (simp [Fl.goS, hq5, hq8, hq12, bne_f_fw hq17, hq22]; rfl)
            subst hR2
            exact ret_cell_tmp (k := 8) (j := 9) Try.f15 (by kernel_rfl) Cm40 Try.underlying33 (by kernel_rfl) (by rfl) (by rfl) rfl ⟨rfl, bm40⟩


        | true =>
          obtain ⟨Wm41, hWm41⟩ : ∃ W, Wm14.alloc (.cells #[.int .i64 0, .int .u32 0, .int .u32 0, .int .u32 0, .int .u32 0, .bool false, .bool false, .bool false, .bool false] 31) = W := ⟨_, rfl⟩
          have bm41 := bel_al bm14 hWm41
          have Am41 := Am14.al hWm41
          have Bm41 := Bm14.al hWm41
          have Cm41 := Cm14.al hWm41
          have Dm41 := blk_nw hWm41
          have gD : w.heap.size ≤ Wm14.heap.size := bm14.size
          have nAD : w.heap.size ≠ Wm14.heap.size := by have := Am14.lt; omega
          have nDA : Wm14.heap.size ≠ w.heap.size := fun e => nAD e.symm
          have nBD : Wm1.heap.size ≠ Wm14.heap.size := by have := Bm14.lt; omega
          have nDB : Wm14.heap.size ≠ Wm1.heap.size := fun e => nBD e.symm
          have nCD : Wm2.heap.size ≠ Wm14.heap.size := by have := Cm14.lt; omega
          have nDC : Wm14.heap.size ≠ Wm2.heap.size := fun e => nCD e.symm
          obtain ⟨Wm42, hWm42⟩ : ∃ W, Wm41.setRow Wm14.heap.size (Sm.stp s f.c true).1.v = W := ⟨_, rfl⟩
          have Dm42 : Blk Wm42 Wm14.heap.size 31 (Sm.stp s f.c true).1.v := hWm42 ▸ Dm41.set (Sm.stp s f.c true).1.v
          have Am42 := hWm42 ▸ Am41.other nAD (Sm.stp s f.c true).1.v
          have Bm42 := hWm42 ▸ Bm41.other nBD (Sm.stp s f.c true).1.v
          have Cm42 := hWm42 ▸ Cm41.other nCD (Sm.stp s f.c true).1.v
          have bm42 := hWm42 ▸ below_setRow bm41 gD (Sm.stp s f.c true).1.v
          obtain ⟨Wm43, hWm43⟩ : ∃ W, Wm42.setRow Wm2.heap.size fl0.v = W := ⟨_, rfl⟩
          have Cm43 : Blk Wm43 Wm2.heap.size 33 fl0.v := hWm43 ▸ Cm42.set fl0.v
          have Am43 := hWm43 ▸ Am42.other nAC fl0.v
          have Bm43 := hWm43 ▸ Bm42.other nBC fl0.v
          have Dm43 := hWm43 ▸ Dm42.other nDC fl0.v
          have bm43 := hWm43 ▸ below_setRow bm42 gC fl0.v
          go_wp2_with (first | (refine wpList_store_row rfl _ _ _ rfl Wm14.heap.size (Sm.stp s f.c true).1.v (by rfl) (by rfl) _ _ Dm41 (by kernel_rfl) (by rfl) (by kernel_rfl) ?_; rw [hWm42]) | (refine wpList_store_row rfl _ _ _ rfl Wm2.heap.size fl0.v (by rfl) (by rfl) _ _ Cm42 (by kernel_rfl) (by rfl) (by kernel_rfl) ?_; rw [hWm43]))
          have hR2 : R = ((fl0 : Fl), ((Sm.stp s f.c true).2 : Int)) := by rw [← HR.out]; first | rfl | (simp [Fl.goS, hq5, hq8, hq12, bne_t_fw hq17]; done) | (simp [Fl.goS, hq5, hq8, hq12, bne_t_fw hq17]; rfl)
          subst hR2
          exact ret_cell_tmp (k := 8) (j := 9) Try.f15 (by kernel_rfl) Cm43 Try.underlying33 (by kernel_rfl) (by rfl) (by rfl) rfl ⟨rfl, bm43⟩
def sm0 : Sm := ⟨⟨4, 17, ⟨4, 0, 1⟩, ⟨4, 0, 2⟩, 53, 54⟩, 0, 0, 0, 0, 0, 0, false, wy0, none, 0, 0⟩
def sm1 : Sm := ⟨⟨4, 17, ⟨4, 0, 2⟩, ⟨4, 0, 1⟩, 54, 53⟩, 0, 0, 0, 0, 0, 0, false, wy0, none, 0, 0⟩
def flA : Fl := ⟨⟨4, 17, ⟨4, 0, 1⟩, ⟨4, 0, 2⟩, 53, 54⟩, cn0, 130, 0, false⟩
def flZ : Fl := ⟨⟨4, 17, ⟨4, 0, 1⟩, ⟨4, 0, 2⟩, 53, 54⟩, cn0, 290, 0, true⟩
theorem al_s : startF sm0 100 0 = (flA, 0) := by kernel_rfl
theorem al_g : flA.goS true sm1 110 = (flZ, 0) := by kernel_rfl
theorem al_r : flZ.right = true := by kernel_rfl
theorem alS_fw (w : World) : Calls Try.prog 10 #[.agg sm0.v, .int .i64 100, .int .i64 0] w fun e w' => e = .returned (.tuple #[.agg flA.v, .int .i64 0]) ∧ Below w.heap.size w w' := by
  have h := start_fw sm0 100 0 w
  rw [al_s] at h
  exact h
theorem alG_fw (w : World) : Calls Try.prog 15 #[.agg flA.v, .int .i64 1, .agg sm1.v, .int .i64 110] w fun e w' => e = .returned (.tuple #[.agg flZ.v, .int .i64 0]) ∧ Below w.heap.size w w' := by
  have h := go1_fw flA sm1 110 w
  rw [al_g] at h
  exact h
theorem alR_fw (w : World) : Calls Try.prog 12 #[.agg flZ.v] w fun e w' => e = .returned (.bool true) ∧ Below w.heap.size w w' := by
  have h := right_fw flZ w
  rw [al_r] at h
  exact h
theorem alV_fw (w : World) : Calls Try.prog 27 #[.agg (Wy.v ⟨4, 17, ⟨4, 0, 1⟩, ⟨4, 0, 2⟩, 53, 54⟩)] w fun e w' => e = .returned (.agg (Wy.v ⟨4, 17, ⟨4, 0, 2⟩, ⟨4, 0, 1⟩, 54, 53⟩)) ∧ Below w.heap.size w w' := rrev_t _ w
theorem setWay_fw (s : Sm) (x : Wy) : setMany s.v 0 x.v.toList = Sm.v ⟨x, s.fl, s.sq, s.ak, s.win, s.ty, s.co, s.er, s.inn, s.da, s.dn, s.dc⟩ := by kernel_rfl
set_option maxRecDepth 100000 in
set_option maxHeartbeats 4000000 in
theorem small_fw (w : World) :
    Calls Try.prog 42 #[] w fun e w' => e = .returned (.agg sm0.v) ∧ Below w.heap.size w w' := by
  obtain ⟨R, hR⟩ : ∃ R, sm0 = R := ⟨_, rfl⟩
  have HR : Hid (sm0 = R) := hR
  rw [hR]
  clear hR
  have b := Below.refl w.heap.size w
  go_enter Try.func42, Try.ntmps42
  obtain ⟨Wm1, hWm1⟩ : ∃ W, w.alloc (.cells #[.int .i64 0, .int .i64 0, .int .i64 0, .int .u64 0, .int .u64 0, .int .i64 0, .int .u64 0, .int .u64 0, .int .i64 0, .int .i64 0, .int .i64 0, .int .u32 0, .int .u32 0, .int .i64 0, .int .i64 0, .int .i64 0, .bool false, .int .i64 0, .int .i64 0, .int .i64 0, .int .u64 0, .int .u64 0, .int .i64 0, .int .u64 0, .int .u64 0, .int .i64 0, .int .i64 0, .slice none 0 0] 36) = W := ⟨_, rfl⟩
  have bm1 := bel_nw hWm1
  have Am1 := blk_nw hWm1
  have gA : w.heap.size ≤ w.heap.size := Nat.le_refl _
  obtain ⟨Wm2, hWm2⟩ : ∃ W, Wm1.setRow w.heap.size (Sm.v ⟨⟨4, 17, ⟨4, 0, 1⟩, ⟨4, 0, 2⟩, 53, 54⟩, 0, 0, 0, 0, 0, 0, false, ⟨0, 0, ⟨0, 0, 0⟩, ⟨0, 0, 0⟩, 0, 0⟩, none, 0, 0⟩) = W := ⟨_, rfl⟩
  have Am2 : Blk Wm2 w.heap.size 36 (Sm.v ⟨⟨4, 17, ⟨4, 0, 1⟩, ⟨4, 0, 2⟩, 53, 54⟩, 0, 0, 0, 0, 0, 0, false, ⟨0, 0, ⟨0, 0, 0⟩, ⟨0, 0, 0⟩, 0, 0⟩, none, 0, 0⟩) := hWm2 ▸ Am1.set (Sm.v ⟨⟨4, 17, ⟨4, 0, 1⟩, ⟨4, 0, 2⟩, 53, 54⟩, 0, 0, 0, 0, 0, 0, false, ⟨0, 0, ⟨0, 0, 0⟩, ⟨0, 0, 0⟩, 0, 0⟩, none, 0, 0⟩)
  have bm2 := hWm2 ▸ below_setRow bm1 gA (Sm.v ⟨⟨4, 17, ⟨4, 0, 1⟩, ⟨4, 0, 2⟩, 53, 54⟩, 0, 0, 0, 0, 0, 0, false, ⟨0, 0, ⟨0, 0, 0⟩, ⟨0, 0, 0⟩, 0, 0⟩, none, 0, 0⟩)
  go_wp2_with (refine wpList_store_row rfl _ _ _ rfl w.heap.size (Sm.v ⟨⟨4, 17, ⟨4, 0, 1⟩, ⟨4, 0, 2⟩, 53, 54⟩, 0, 0, 0, 0, 0, 0, false, ⟨0, 0, ⟨0, 0, 0⟩, ⟨0, 0, 0⟩, 0, 0⟩, none, 0, 0⟩) (by rfl) (by rfl) _ _ Am1 (by kernel_rfl) (by rfl) (by kernel_rfl) ?_; rw [hWm2])
  have hR2 : R = (⟨⟨4, 17, ⟨4, 0, 1⟩, ⟨4, 0, 2⟩, 53, 54⟩, 0, 0, 0, 0, 0, 0, false, ⟨0, 0, ⟨0, 0, 0⟩, ⟨0, 0, 0⟩, 0, 0⟩, none, 0, 0⟩ : Sm) := by (try rw [← HR.out]) <;> first | rfl | (simp [sm0]; done) | (simp [sm0]; rfl)
  subst hR2
  exact ret_cell (k := 0) Try.f42 (by kernel_rfl) Am2 Try.underlying36 (by kernel_rfl) (by rfl) rfl ⟨rfl, bm2⟩
set_option maxRecDepth 100000 in
set_option maxHeartbeats 4000000 in
theorem alive_fw (w : World) :
    Calls Try.prog 14 #[] w fun e w' => e = .returned (.bool true) ∧ Below w.heap.size w w' := by
  obtain ⟨R, hR⟩ : ∃ R, true = R := ⟨_, rfl⟩
  have HR : Hid (true = R) := hR
  rw [hR]
  clear hR
  have b := Below.refl w.heap.size w
  go_enter Try.func14, Try.ntmps14
  go_wp2_with fail
  refine Calls.mono (small_fw _) ?_
  rintro e Wm1 ⟨rfl, bb⟩
  have bm1 := bb
  go_wp2_with fail
  refine Calls.mono (alS_fw _) ?_
  rintro e Wm2 ⟨rfl, bb⟩
  have bm2 := bel_tr bm1 bb
  clear bb
  clear  bm1
  obtain ⟨Wm3, hWm3⟩ : ∃ W, Wm2.alloc (.cells #[.int .i64 0, .int .i64 0, .int .i64 0, .int .u64 0, .int .u64 0, .int .i64 0, .int .u64 0, .int .u64 0, .int .i64 0, .int .i64 0, .int .i64 0, .int .u32 0, .int .u32 0, .int .u32 0, .int .u32 0, .bool false, .bool false, .bool false, .bool false, .int .i64 0, .int .i64 0, .bool false] 33) = W := ⟨_, rfl⟩
  have bm3 := bel_al bm2 hWm3
  have Am3 := blk_nw hWm3
  have gA : w.heap.size ≤ Wm2.heap.size := bm2.size
  obtain ⟨Wm4, hWm4⟩ : ∃ W, Wm3.setRow Wm2.heap.size flA.v = W := ⟨_, rfl⟩
  have Am4 : Blk Wm4 Wm2.heap.size 33 flA.v := hWm4 ▸ Am3.set flA.v
  have bm4 := hWm4 ▸ below_setRow bm3 gA flA.v
  go_wp2_with (refine wpList_store_row rfl _ _ _ rfl Wm2.heap.size flA.v (by rfl) (by rfl) _ _ Am3 (by kernel_rfl) (by rfl) (by kernel_rfl) ?_; rw [hWm4])
  refine Calls.mono (small_fw _) ?_
  rintro e Wm5 ⟨rfl, bb⟩
  have Am5 := Am4.kept bb
  have bm5 := bel_tr bm4 bb
  clear bb
  clear Am4 bm4
  obtain ⟨Wm6, hWm6⟩ : ∃ W, Wm5.alloc (.cells #[.int .i64 0, .int .i64 0, .int .i64 0, .int .u64 0, .int .u64 0, .int .i64 0, .int .u64 0, .int .u64 0, .int .i64 0, .int .i64 0, .int .i64 0, .int .u32 0, .int .u32 0, .int .i64 0, .int .i64 0, .int .i64 0, .bool false, .int .i64 0, .int .i64 0, .int .i64 0, .int .u64 0, .int .u64 0, .int .i64 0, .int .u64 0, .int .u64 0, .int .i64 0, .int .i64 0, .slice none 0 0] 36) = W := ⟨_, rfl⟩
  have bm6 := bel_al bm5 hWm6
  have Am6 := Am5.al hWm6
  have Bm6 := blk_nw hWm6
  have gB : w.heap.size ≤ Wm5.heap.size := bm5.size
  have nAB : Wm2.heap.size ≠ Wm5.heap.size := by have := Am5.lt; omega
  have nBA : Wm5.heap.size ≠ Wm2.heap.size := fun e => nAB e.symm
  obtain ⟨Wm7, hWm7⟩ : ∃ W, Wm6.setRow Wm5.heap.size sm0.v = W := ⟨_, rfl⟩
  have Bm7 : Blk Wm7 Wm5.heap.size 36 sm0.v := hWm7 ▸ Bm6.set sm0.v
  have Am7 := hWm7 ▸ Am6.other nAB sm0.v
  have bm7 := hWm7 ▸ below_setRow bm6 gB sm0.v
  go_wp2_with (first | (refine wpList_store_row rfl _ _ _ rfl Wm5.heap.size sm0.v (by rfl) (by rfl) _ _ Bm6 (by kernel_rfl) (by rfl) (by kernel_rfl) ?_; rw [hWm7]) | (refine wpList_load_sub_w (by rfl) _ _ rfl Wm5.heap.size 0 _ (by rfl) _ (Wy.v ⟨4, 17, ⟨4, 0, 1⟩, ⟨4, 0, 2⟩, 53, 54⟩) Bm7 (by rfl) Try.underlying26 (by kernel_rfl) ?_))
  refine Calls.mono (alV_fw _) ?_
  rintro e Wm8 ⟨rfl, bb⟩
  have Am8 := Am7.kept bb
  have Bm8 := Bm7.kept bb
  have bm8 := bel_tr bm7 bb
  clear bb
  clear Am7 Bm7 bm7
  obtain ⟨Wm9, hWm9⟩ : ∃ W, Wm8.setRow Wm5.heap.size (Sm.v ⟨⟨4, 17, ⟨4, 0, 2⟩, ⟨4, 0, 1⟩, 54, 53⟩, 0, 0, 0, 0, 0, 0, false, ⟨0, 0, ⟨0, 0, 0⟩, ⟨0, 0, 0⟩, 0, 0⟩, none, 0, 0⟩) = W := ⟨_, rfl⟩
  have Bm9 : Blk Wm9 Wm5.heap.size 36 (Sm.v ⟨⟨4, 17, ⟨4, 0, 2⟩, ⟨4, 0, 1⟩, 54, 53⟩, 0, 0, 0, 0, 0, 0, false, ⟨0, 0, ⟨0, 0, 0⟩, ⟨0, 0, 0⟩, 0, 0⟩, none, 0, 0⟩) := hWm9 ▸ Bm8.set (Sm.v ⟨⟨4, 17, ⟨4, 0, 2⟩, ⟨4, 0, 1⟩, 54, 53⟩, 0, 0, 0, 0, 0, 0, false, ⟨0, 0, ⟨0, 0, 0⟩, ⟨0, 0, 0⟩, 0, 0⟩, none, 0, 0⟩)
  have Am9 := hWm9 ▸ Am8.other nAB (Sm.v ⟨⟨4, 17, ⟨4, 0, 2⟩, ⟨4, 0, 1⟩, 54, 53⟩, 0, 0, 0, 0, 0, 0, false, ⟨0, 0, ⟨0, 0, 0⟩, ⟨0, 0, 0⟩, 0, 0⟩, none, 0, 0⟩)
  have bm9 := hWm9 ▸ below_setRow bm8 gB (Sm.v ⟨⟨4, 17, ⟨4, 0, 2⟩, ⟨4, 0, 1⟩, 54, 53⟩, 0, 0, 0, 0, 0, 0, false, ⟨0, 0, ⟨0, 0, 0⟩, ⟨0, 0, 0⟩, 0, 0⟩, none, 0, 0⟩)
  go_wp2_with (first | (refine wpList_store_off rfl _ _ _ rfl Wm5.heap.size 0 _ (Wy.v ⟨4, 17, ⟨4, 0, 2⟩, ⟨4, 0, 1⟩, 54, 53⟩) _ (Sm.v ⟨⟨4, 17, ⟨4, 0, 2⟩, ⟨4, 0, 1⟩, 54, 53⟩, 0, 0, 0, 0, 0, 0, false, ⟨0, 0, ⟨0, 0, 0⟩, ⟨0, 0, 0⟩, 0, 0⟩, none, 0, 0⟩) (by rfl) (by rfl) Bm8 (by kernel_rfl) (Nat.le_of_ble_eq_true (by kernel_rfl)) (by kernel_rfl) (setWay_fw (⟨⟨4, 17, ⟨4, 0, 1⟩, ⟨4, 0, 2⟩, 53, 54⟩, 0, 0, 0, 0, 0, 0, false, ⟨0, 0, ⟨0, 0, 0⟩, ⟨0, 0, 0⟩, 0, 0⟩, none, 0, 0⟩) (⟨4, 17, ⟨4, 0, 2⟩, ⟨4, 0, 1⟩, 54, 53⟩)) ?_; rw [hWm9]) | (refine wpList_load_blk_w (by rfl) _ _ rfl Wm2.heap.size (by rfl) _ Am9 Try.underlying33 (by kernel_rfl) ?_) | (refine wpList_load_blk_w (by rfl) _ _ rfl Wm5.heap.size (by rfl) _ Bm9 Try.underlying36 (by kernel_rfl) ?_))
  refine Calls.mono (alG_fw _) ?_
  rintro e Wm10 ⟨rfl, bb⟩
  have Am10 := Am9.kept bb
  have Bm10 := Bm9.kept bb
  have bm10 := bel_tr bm9 bb
  clear bb
  clear Am9 Bm9 bm9
  obtain ⟨Wm11, hWm11⟩ : ∃ W, Wm10.alloc (.cells #[.int .i64 0, .int .i64 0, .int .i64 0, .int .u64 0, .int .u64 0, .int .i64 0, .int .u64 0, .int .u64 0, .int .i64 0, .int .i64 0, .int .i64 0, .int .u32 0, .int .u32 0, .int .u32 0, .int .u32 0, .bool false, .bool false, .bool false, .bool false, .int .i64 0, .int .i64 0, .bool false] 33) = W := ⟨_, rfl⟩
  have bm11 := bel_al bm10 hWm11
  have Am11 := Am10.al hWm11
  have Bm11 := Bm10.al hWm11
  have Cm11 := blk_nw hWm11
  have gC : w.heap.size ≤ Wm10.heap.size := bm10.size
  have nAC : Wm2.heap.size ≠ Wm10.heap.size := by have := Am10.lt; omega
  have nCA : Wm10.heap.size ≠ Wm2.heap.size := fun e => nAC e.symm
  have nBC : Wm5.heap.size ≠ Wm10.heap.size := by have := Bm10.lt; omega
  have nCB : Wm10.heap.size ≠ Wm5.heap.size := fun e => nBC e.symm
  obtain ⟨Wm12, hWm12⟩ : ∃ W, Wm11.setRow Wm10.heap.size flZ.v = W := ⟨_, rfl⟩
  have Cm12 : Blk Wm12 Wm10.heap.size 33 flZ.v := hWm12 ▸ Cm11.set flZ.v
  have Am12 := hWm12 ▸ Am11.other nAC flZ.v
  have Bm12 := hWm12 ▸ Bm11.other nBC flZ.v
  have bm12 := hWm12 ▸ below_setRow bm11 gC flZ.v
  have c13 := Am12.cell 19 (.int .i64 130) rfl
  have c14 := Cm12.cell 19 (.int .i64 290) rfl
  have c15 := Cm12.cell 21 (.bool true) rfl
  go_wp2_with (first | (refine wpList_store_row rfl _ _ _ rfl Wm10.heap.size flZ.v (by rfl) (by rfl) _ _ Cm11 (by kernel_rfl) (by rfl) (by kernel_rfl) ?_; rw [hWm12]) | (refine wpList_load_blk_w (by rfl) _ _ rfl Wm10.heap.size (by rfl) _ Cm12 Try.underlying33 (by kernel_rfl) ?_))
  clear c13 c14 c15
  refine Calls.mono (alR_fw _) ?_
  rintro e Wm16 ⟨rfl, bb⟩
  have Am16 := Am12.kept bb
  have Bm16 := Bm12.kept bb
  have Cm16 := Cm12.kept bb
  have bm16 := bel_tr bm12 bb
  clear bb
  clear Am12 Bm12 Cm12 bm12
  go_wp2_with fail
  go_ret
  exact ⟨retB_fw (by (try rw [← HR.out]) <;> first | rfl | (simp []; done) | (simp []; rfl)), bm16⟩
end Go.Proofs.Ytfiembbmgdmagaa
