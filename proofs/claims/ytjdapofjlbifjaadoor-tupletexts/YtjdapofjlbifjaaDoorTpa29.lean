/- Texts joined: TuF -/
import Derived.Test.YtjdapofjlbifjaaDoorTpa28
namespace Go.Proofs.YtjdapofjlbifjaaDoor
open Go.RowKit
set_option linter.unusedVariables false
set_option linter.unusedSimpArgs false
theorem name_len (f p : Int) : (nameB f p).length ≤ 5 := by unfold nameB; (repeat' split) <;> simp
set_option maxRecDepth 100000 in
set_option maxHeartbeats 4000000 in
theorem text_t (t : Wy) (w : World) (ho : t.ok) (ht : w.cell? ⟨3, 15, none⟩ = some (.int .u8 4)) (htab : Lib.TabIs Tryd.prog w "internal/strconv.uint64pow10" .u64 Lib.pow10Tab) :
    Calls Tryd.prog 16 #[.agg t.v] w fun e w' => e = .returned (.string (ByteArray.mk t.text.toArray)) ∧ Below w.heap.size w w' := by
  obtain ⟨f, pr, ⟨sf, sh, sl⟩, ⟨df, dh, dl⟩, sp, dp⟩ := t
  have gp : Tryd.prog.globalNamed "internal/strconv.uint64pow10" = some 0 := by kernel_rfl
  have KR : Hid (∀ W, Calls Tryd.prog 9 #[.agg #[.int .i64 f, .int .i64 pr, .int .i64 sf, .int .u64 sh, .int .u64 sl, .int .i64 df, .int .u64 dh, .int .u64 dl, .int .i64 sp, .int .i64 dp]] W _) := fun W => right_t ⟨f, pr, ⟨sf, sh, sl⟩, ⟨df, dh, dl⟩, sp, dp⟩ W
  obtain ⟨R, hR⟩ : ∃ R, Wy.right ⟨f, pr, ⟨sf, sh, sl⟩, ⟨df, dh, dl⟩, sp, dp⟩ = R := ⟨_, rfl⟩
  rw [hR] at KR
  obtain ⟨T, hT⟩ : ∃ T, Wy.text ⟨f, pr, ⟨sf, sh, sl⟩, ⟨df, dh, dl⟩, sp, dp⟩ = T := ⟨_, rfl⟩
  rw [hT]
  cases R with
  | false =>
    rw [rright_iff_no hR] at hT
    subst hT
    clear hR ho
    have b1 : Below w.heap.size w (w.alloc (.cells (Wy.v ⟨f, pr, ⟨sf, sh, sl⟩, ⟨df, dh, dl⟩, sp, dp⟩) 26)) := bel_nw rfl
    go_enter Tryd.func16, Tryd.ntmps16
    go_wp2_with (go_at_call 9; refine (KR.out _).mono ?_; rintro e w2 ⟨rfl, bb⟩)
    go_ret
    exact ⟨rfl, bel_tr b1 bb⟩
  | true =>
  obtain ⟨q1, q2, q3⟩ := Wy.right_iff.1 hR
  have Q1 := sideB_iff.1 q1
  have Q2 := sideB_iff.1 q2
  simp only at Q1 Q2
  have hT' : nameB f pr ++ [32] ++ sideT ⟨sf, sh, sl⟩ sp ++ [32, 62, 32] ++ sideT ⟨df, dh, dl⟩ dp = T := by
    rw [← hT]; unfold Wy.text; rw [if_pos hR]
  have KN : Hid (∀ W, Calls Tryd.prog 25 #[.agg #[.int .i64 f, .int .i64 pr, .int .i64 sf, .int .u64 sh, .int .u64 sl, .int .i64 df, .int .u64 dh, .int .u64 dl, .int .i64 sp, .int .i64 dp]] W _) := fun W => protoName_t ⟨f, pr, ⟨sf, sh, sl⟩, ⟨df, dh, dl⟩, sp, dp⟩ W
  have K1 : Hid (∀ W, Below w.heap.size w W → Calls Tryd.prog 33 #[.agg #[.int .i64 sf, .int .u64 sh, .int .u64 sl], .int .i64 sp] W _) := fun W hb => sideText_t sf sh sl sp W ho.s Q1.2.2.1 Q1.2.2.2 (kept hb ht) (Go.Joins.tab_stays gp htab hb (Nat.le_refl _))
  have K2 : Hid (∀ W, Below w.heap.size w W → Calls Tryd.prog 33 #[.agg #[.int .i64 df, .int .u64 dh, .int .u64 dl], .int .i64 dp] W _) := fun W hb => sideText_t df dh dl dp W ho.d Q2.2.2.1 Q2.2.2.2 (kept hb ht) (Go.Joins.tab_stays gp htab hb (Nat.le_refl _))
  have l0 := name_len f pr
  have l1 := side_len ho.s Q1.2.2.1 Q1.2.2.2
  have l2 := side_len ho.d Q2.2.2.1 Q2.2.2.2
  simp only at KN l1 l2
  clear ho ht htab gp hT hR q1 q2 q3 Q1 Q2
  generalize nameB f pr = NM at *
  generalize sideT ⟨sf, sh, sl⟩ sp = S1 at *
  generalize sideT ⟨df, dh, dl⟩ dp = S2 at *
  have a1 : ∀ W, (Op.stringOp .add (ByteArray.mk NM.toArray) (ByteArray.mk #[32])).run Tryd.prog W = .ok (.string (ByteArray.mk (NM ++ [32]).toArray)) W := add_lists2 NM [32] (by omega) (by simp)
  have m1 : (NM ++ [32]).length ≤ 6 := by simp; omega
  generalize NM ++ [32] = X1 at *
  have a2 := add_lists2 X1 S1 (by omega) (by omega)
  have m2 : (X1 ++ S1).length ≤ 1106 := by simp; omega
  generalize X1 ++ S1 = X2 at *
  have a3 : ∀ W, (Op.stringOp .add (ByteArray.mk X2.toArray) (ByteArray.mk #[32, 62, 32])).run Tryd.prog W = .ok (.string (ByteArray.mk (X2 ++ [32, 62, 32]).toArray)) W := add_lists2 X2 [32, 62, 32] (by omega) (by simp)
  have m3 : (X2 ++ [32, 62, 32]).length ≤ 1109 := by simp; omega
  generalize X2 ++ [32, 62, 32] = X3 at *
  have a4 := add_lists2 X3 S2 (by omega) (by omega)
  rw [hT'] at a4
  clear hT' l0 l1 l2 m1 m2 m3
  obtain ⟨W1, hW1⟩ : ∃ W1, w.alloc (.cells #[.int .i64 f, .int .i64 pr, .int .i64 sf, .int .u64 sh, .int .u64 sl, .int .i64 df, .int .u64 dh, .int .u64 dl, .int .i64 sp, .int .i64 dp] 26) = W1 := ⟨_, rfl⟩
  have b1 := bel_nw hW1
  have A1 := blk_nw hW1
  obtain ⟨k0, k1, k2, k3, k4, k5, k6, k7, k8, k9⟩ := Blk.wy (r := ⟨f, pr, ⟨sf, sh, sl⟩, ⟨df, dh, dl⟩, sp, dp⟩) A1
  go_enter Tryd.func16, Tryd.ntmps16
  go_wp2_with fail
  refine (KR.out _).mono ?_
  rintro e W2 ⟨rfl, bb⟩
  have A2 := A1.kept bb
  have b2 := bel_tr b1 bb
  clear k0 k1 k2 k3 k4 k5 k6 k7 k8 k9 bb KR A1 b1 hW1
  go_wp2_with fail
  have Ad_ := A2.drew
  have bd := b2.drew
  refine wp_region_noPanic ?_
  refine wp_region_held_drew (S := fun w' => Blk w' w.heap.size 26 #[.int .i64 f, .int .i64 pr, .int .i64 sf, .int .u64 sh, .int .u64 sl, .int .i64 df, .int .u64 dh, .int .u64 dl, .int .i64 sp, .int .i64 dp]) (by kernel_rfl) (by exact Ad_) (fun hHeld => ?_)
  refine wpAnyH_take (i := 0) (oi := { dst := some 6, op := Op.load 26 (.tmp 1), type := 26, pos := "tuple.go:68", after := #[], guard := none }) (v := (.agg #[.int .i64 f, .int .i64 pr, .int .i64 sf, .int .u64 sh, .int .u64 sl, .int .i64 df, .int .u64 dh, .int .u64 dl, .int .i64 sp, .int .i64 dp])) rfl (by kernel_rfl) (by kernel_rfl) (by kernel_rfl) (fun _ _ _ h => h) (Or.inl ⟨by rfl, ?_⟩) hHeld ?_
  · intro w9 hSw
    try dsimp only at hSw
    have hcc := Blk.wy (r := ⟨f, pr, ⟨sf, sh, sl⟩, ⟨df, dh, dl⟩, sp, dp⟩) hSw
    go_simp
  try simp only [Act.put, List.setIfInBounds_toArray, List.set_cons_zero, List.set_cons_succ]
  refine wpAnyH_take (i := 3) (oi := { dst := some 9, op := Op.fieldAddr 26 (.tmp 1) 2, type := 0, pos := "tuple.go:68", after := #[], guard := none }) (v := (.pointer (some ⟨w.heap.size, 2, none⟩))) rfl (by kernel_rfl) (by kernel_rfl) (by kernel_rfl) (fun _ _ _ h => h) (Or.inl ⟨by rfl, ?_⟩) hHeld ?_
  · intro w9 hSw
    try dsimp only at hSw
    go_simp
  try simp only [Act.put, List.setIfInBounds_toArray, List.set_cons_zero, List.set_cons_succ]
  refine wpAnyH_take (i := 4) (oi := { dst := some 10, op := Op.load 24 (.tmp 9), type := 24, pos := "tuple.go:68", after := #[{ on := 3, ground := Ground.data }], guard := none }) (v := (.agg #[.int .i64 sf, .int .u64 sh, .int .u64 sl])) rfl (by kernel_rfl) (by kernel_rfl) (by kernel_rfl) (fun _ _ _ h => h) (Or.inl ⟨by rfl, ?_⟩) hHeld ?_
  · intro w9 hSw
    try dsimp only at hSw
    have hcc := Blk.wy (r := ⟨f, pr, ⟨sf, sh, sl⟩, ⟨df, dh, dl⟩, sp, dp⟩) hSw
    go_simp
  try simp only [Act.put, List.setIfInBounds_toArray, List.set_cons_zero, List.set_cons_succ]
  refine wpAnyH_take (i := 5) (oi := { dst := some 11, op := Op.fieldAddr 26 (.tmp 1) 4, type := 0, pos := "tuple.go:68", after := #[], guard := none }) (v := (.pointer (some ⟨w.heap.size, 8, none⟩))) rfl (by kernel_rfl) (by kernel_rfl) (by kernel_rfl) (fun _ _ _ h => h) (Or.inl ⟨by rfl, ?_⟩) hHeld ?_
  · intro w9 hSw
    try dsimp only at hSw
    go_simp
  try simp only [Act.put, List.setIfInBounds_toArray, List.set_cons_zero, List.set_cons_succ]
  refine wpAnyH_take (i := 6) (oi := { dst := some 12, op := Op.load 3 (.tmp 11), type := 3, pos := "tuple.go:68", after := #[{ on := 5, ground := Ground.data }], guard := none }) (v := (.int .i64 sp)) rfl (by kernel_rfl) (by kernel_rfl) (by kernel_rfl) (fun _ _ _ h => h) (Or.inl ⟨by rfl, ?_⟩) hHeld ?_
  · intro w9 hSw
    try dsimp only at hSw
    have hcc := Blk.wy (r := ⟨f, pr, ⟨sf, sh, sl⟩, ⟨df, dh, dl⟩, sp, dp⟩) hSw
    go_simp
  try simp only [Act.put, List.setIfInBounds_toArray, List.set_cons_zero, List.set_cons_succ]
  refine wpAnyH_take (i := 10) (oi := { dst := some 16, op := Op.fieldAddr 26 (.tmp 1) 3, type := 0, pos := "tuple.go:68", after := #[], guard := none }) (v := (.pointer (some ⟨w.heap.size, 5, none⟩))) rfl (by kernel_rfl) (by kernel_rfl) (by kernel_rfl) (fun _ _ _ h => h) (Or.inl ⟨by rfl, ?_⟩) hHeld ?_
  · intro w9 hSw
    try dsimp only at hSw
    go_simp
  try simp only [Act.put, List.setIfInBounds_toArray, List.set_cons_zero, List.set_cons_succ]
  refine wpAnyH_take (i := 11) (oi := { dst := some 17, op := Op.load 24 (.tmp 16), type := 24, pos := "tuple.go:68", after := #[{ on := 10, ground := Ground.data }], guard := none }) (v := (.agg #[.int .i64 df, .int .u64 dh, .int .u64 dl])) rfl (by kernel_rfl) (by kernel_rfl) (by kernel_rfl) (fun _ _ _ h => h) (Or.inl ⟨by rfl, ?_⟩) hHeld ?_
  · intro w9 hSw
    try dsimp only at hSw
    have hcc := Blk.wy (r := ⟨f, pr, ⟨sf, sh, sl⟩, ⟨df, dh, dl⟩, sp, dp⟩) hSw
    go_simp
  try simp only [Act.put, List.setIfInBounds_toArray, List.set_cons_zero, List.set_cons_succ]
  refine wpAnyH_take (i := 12) (oi := { dst := some 18, op := Op.fieldAddr 26 (.tmp 1) 5, type := 0, pos := "tuple.go:68", after := #[], guard := none }) (v := (.pointer (some ⟨w.heap.size, 9, none⟩))) rfl (by kernel_rfl) (by kernel_rfl) (by kernel_rfl) (fun _ _ _ h => h) (Or.inl ⟨by rfl, ?_⟩) hHeld ?_
  · intro w9 hSw
    try dsimp only at hSw
    go_simp
  try simp only [Act.put, List.setIfInBounds_toArray, List.set_cons_zero, List.set_cons_succ]
  refine wpAnyH_take (i := 13) (oi := { dst := some 19, op := Op.load 3 (.tmp 18), type := 3, pos := "tuple.go:68", after := #[{ on := 12, ground := Ground.data }], guard := none }) (v := (.int .i64 dp)) rfl (by kernel_rfl) (by kernel_rfl) (by kernel_rfl) (fun _ _ _ h => h) (Or.inl ⟨by rfl, ?_⟩) hHeld ?_
  · intro w9 hSw
    try dsimp only at hSw
    have hcc := Blk.wy (r := ⟨f, pr, ⟨sf, sh, sl⟩, ⟨df, dh, dl⟩, sp, dp⟩) hSw
    go_simp
  try simp only [Act.put, List.setIfInBounds_toArray, List.set_cons_zero, List.set_cons_succ]
  refine wpAnyH_ready (rs := [1]) (by kernel_rfl) (by simp) ?_
  refine AllReadyH.cons (o := { dst := some 7, op := Op.call { callee := Callee.value (.func 25), args := #[.tmp 6], argTypes := #[26] }, type := 9, pos := "tuple.go:68", after := #[{ on := 0, ground := Ground.data }], guard := none }) rfl (fun K hK => ?_) AllReadyH.nil
  go_simp
  refine Calls.mono (KN.out _) ?_
  rintro e W5 ⟨rfl, bb⟩
  have AW5 := Ad_.kept bb
  have bW5 := bel_tr bd bb
  clear bb
  refine hK.out _ _ (by exact AW5) (fun hHeld => ?_)
  clear hK K
  try simp only [Act.put, List.setIfInBounds_toArray, List.set_cons_zero, List.set_cons_succ]
  refine wpAnyH_take (i := 2) (oi := { dst := some 8, op := Op.binOp BinOp.add 9 (.tmp 7) (.const (Value.string { data := #[32] })) 9, type := 9, pos := "tuple.go:68", after := #[{ on := 1, ground := Ground.data }], guard := none }) (v := (.string (ByteArray.mk X1.toArray))) rfl (by kernel_rfl) (by kernel_rfl) (by kernel_rfl) (fun _ _ _ h => h) (Or.inl ⟨by rfl, ?_⟩) hHeld ?_
  · intro w9 hSw
    try dsimp only at hSw
    go_simp
  try simp only [Act.put, List.setIfInBounds_toArray, List.set_cons_zero, List.set_cons_succ]
  refine wpAnyH_ready (rs := [7]) (by kernel_rfl) (by simp) ?_
  refine AllReadyH.cons (o := { dst := some 13, op := Op.call { callee := Callee.value (.func 33), args := #[.tmp 10, .tmp 12], argTypes := #[24, 3] }, type := 9, pos := "tuple.go:68", after := #[{ on := 4, ground := Ground.data }, { on := 6, ground := Ground.data }, { on := 1, ground := Ground.chain }], guard := none }) rfl (fun K hK => ?_) AllReadyH.nil
  go_simp
  refine Calls.mono (K1.out _ bW5) ?_
  rintro e W6 ⟨rfl, bb⟩
  have AW6 := AW5.kept bb
  have bW6 := bel_tr bW5 bb
  clear bb
  refine hK.out _ _ (by exact AW6) (fun hHeld => ?_)
  clear hK K
  try simp only [Act.put, List.setIfInBounds_toArray, List.set_cons_zero, List.set_cons_succ]
  refine wpAnyH_take (i := 8) (oi := { dst := some 14, op := Op.binOp BinOp.add 9 (.tmp 8) (.tmp 13) 9, type := 9, pos := "tuple.go:68", after := #[{ on := 2, ground := Ground.data }, { on := 7, ground := Ground.data }], guard := none }) (v := (.string (ByteArray.mk X2.toArray))) rfl (by kernel_rfl) (by kernel_rfl) (by kernel_rfl) (fun _ _ _ h => h) (Or.inl ⟨by rfl, ?_⟩) hHeld ?_
  · intro w9 hSw
    try dsimp only at hSw
    go_simp
  try simp only [Act.put, List.setIfInBounds_toArray, List.set_cons_zero, List.set_cons_succ]
  refine wpAnyH_take (i := 9) (oi := { dst := some 15, op := Op.binOp BinOp.add 9 (.tmp 14) (.const (Value.string { data := #[32, 62, 32] })) 9, type := 9, pos := "tuple.go:68", after := #[{ on := 8, ground := Ground.data }], guard := none }) (v := (.string (ByteArray.mk X3.toArray))) rfl (by kernel_rfl) (by kernel_rfl) (by kernel_rfl) (fun _ _ _ h => h) (Or.inl ⟨by rfl, ?_⟩) hHeld ?_
  · intro w9 hSw
    try dsimp only at hSw
    go_simp
  try simp only [Act.put, List.setIfInBounds_toArray, List.set_cons_zero, List.set_cons_succ]
  refine wpAnyH_ready (rs := [14]) (by kernel_rfl) (by simp) ?_
  refine AllReadyH.cons (o := { dst := some 20, op := Op.call { callee := Callee.value (.func 33), args := #[.tmp 17, .tmp 19], argTypes := #[24, 3] }, type := 9, pos := "tuple.go:68", after := #[{ on := 11, ground := Ground.data }, { on := 13, ground := Ground.data }, { on := 7, ground := Ground.chain }], guard := none }) rfl (fun K hK => ?_) AllReadyH.nil
  go_simp
  refine Calls.mono (K2.out _ bW6) ?_
  rintro e W7 ⟨rfl, bb⟩
  have AW7 := AW6.kept bb
  have bW7 := bel_tr bW6 bb
  clear bb
  refine hK.out _ _ (by exact AW7) (fun hHeld => ?_)
  clear hK K
  try simp only [Act.put, List.setIfInBounds_toArray, List.set_cons_zero, List.set_cons_succ]
  refine wpAnyH_take (i := 15) (oi := { dst := some 21, op := Op.binOp BinOp.add 9 (.tmp 15) (.tmp 20) 9, type := 9, pos := "tuple.go:68", after := #[{ on := 9, ground := Ground.data }, { on := 14, ground := Ground.data }], guard := none }) (v := (.string (ByteArray.mk T.toArray))) rfl (by kernel_rfl) (by kernel_rfl) (by kernel_rfl) (fun _ _ _ h => h) (Or.inl ⟨by rfl, ?_⟩) hHeld ?_
  · intro w9 hSw
    try dsimp only at hSw
    go_simp
  try simp only [Act.put, List.setIfInBounds_toArray, List.set_cons_zero, List.set_cons_succ]
  refine wpAnyH_take (i := 16) (oi := { dst := some 2, op := Op.assign (.tmp 21), type := 9, pos := "tuple.go:68", after := #[{ on := 15, ground := Ground.data }, { on := 14, ground := Ground.chain }, { on := 0, ground := Ground.phase }, { on := 1, ground := Ground.phase }, { on := 2, ground := Ground.phase }, { on := 3, ground := Ground.phase }, { on := 4, ground := Ground.phase }, { on := 5, ground := Ground.phase }, { on := 6, ground := Ground.phase }, { on := 7, ground := Ground.phase }, { on := 8, ground := Ground.phase }, { on := 9, ground := Ground.phase }, { on := 10, ground := Ground.phase }, { on := 11, ground := Ground.phase }, { on := 12, ground := Ground.phase }, { on := 13, ground := Ground.phase }, { on := 14, ground := Ground.phase }, { on := 15, ground := Ground.phase }], guard := none }) (v := (.string (ByteArray.mk T.toArray))) rfl (by kernel_rfl) (by kernel_rfl) (by kernel_rfl) (fun _ _ _ h => h) (Or.inl ⟨by rfl, ?_⟩) hHeld ?_
  · intro w9 hSw
    try dsimp only at hSw
    go_simp
  try simp only [Act.put, List.setIfInBounds_toArray, List.set_cons_zero, List.set_cons_succ]
  refine wpAnyH_done (by kernel_rfl) ?_ _
  refine NoPanic.normal ?_
  go_wp2
  go_ret
  exact ⟨rfl, bW7⟩
end Go.Proofs.YtjdapofjlbifjaaDoor
