/- Texts joined: FiF -/
import Derived.Test.YtebdpiedgjdjeaaFgg25
import Derived.Maps.RangeWalk
namespace Go.Proofs.Ytebdpiedgjdjeaa
open Go.RowKit
set_option linter.unusedVariables false
set_option linter.unusedSimpArgs false
theorem step_delete_rng {ops : Array Oper} {o : Oper} {ac : Act} {K : Act → World → Prop} {Q : Exit → Act → World → Prop} {Z : Prop} {w : World} (hgd : o.guard = none) (m x : Operand) (ho : o.op = Op.call { callee := Callee.builtin Builtin.delete, args := #[m, x], argTypes := #[62, 72] })
    (b r n : Nat) (D : DataW Value) (left : Lit → Bool) (cnt : Nat) (key : Value) (kl : Lit) (hm : ac.eval m = .map (some b)) (hx : ac.eval x = key) (hS : w.ranges Try.prog 72 heldElem b r n D left cnt) (hk : keyOf Try.prog 72 key = some kl)
    (h : ∀ w' cnt', w'.ranges Try.prog 72 heldElem b r n (D.del kl) (fun z => left z && !z.sameKey kl) cnt' → cnt' ≤ cnt → w.mapTurned w' b → K (ac.put o.dst (.tuple #[])) w') :
    if Region.wanted o (yielded ops ac.tmps) = true then Oper.wp Try.prog o ac w K Q else Z := by
  have hw : Region.wanted o (yielded ops ac.tmps) = true := by simp [Region.wanted, hgd]
  rw [if_pos hw]
  obtain ⟨w', cnt', h1, h2, h3, h4⟩ := hS.drop keyGram Try.underlying62 hk o.type
  unfold Oper.wp execOp
  simp only [ho, resolve, invoke, builtin, Sem.run_bind, Sem.run_pure, Result.andThen_ok, List.map_toArray, List.map_cons, List.map_nil, hm, hx, h1]
  exact h w' cnt' h2 h3 h4
theorem lsK3 {cs : List Value} (h : cs.length = 3) : ∃ x y z, cs = [x, y, z] := by
  match cs, h with
  | [x, y, z], _ => exact ⟨x, y, z, rfl⟩
theorem lsK8 {cs : List Value} (h : cs.length = 8) : ∃ v0 v1 v2 v3 v4 v5 v6 v7, cs = [v0, v1, v2, v3, v4, v5, v6, v7] := by
  match cs, h with
  | [v0, v1, v2, v3, v4, v5, v6, v7], _ => exact ⟨v0, v1, v2, v3, v4, v5, v6, v7, rfl⟩
theorem leaf_int {d : Nat} {t : TypeId} {q : IntKind} (hu : Try.prog.underlying t = some (.int q)) {cs : List Value} {ls : List Lit} (h : Try.prog.keyLits (d + 1) t cs = some ls) : ∃ x, cs = [.int q x] := by
  unfold Program.keyLits at h
  rw [hu] at h
  split at h
  · rename_i h1; cases h1
  · rename_i h1
    cases h1
    split at h
    · rename_i h2; obtain ⟨rfl, _⟩ := h2; exact ⟨_, rfl⟩
    · cases h
  · rename_i h1; cases h1
  · rename_i h1; cases h1
  · rename_i h1; cases h1
  · cases h
set_option maxRecDepth 100000 in
theorem addr_ints {d : Nat} {cs : List Value} {ls : List Lit} (h : Try.prog.keyLits (d + 2) 37 cs = some ls) : ∃ a b c, cs = [.int .i64 a, .int .u64 b, .int .u64 c] := by
  unfold Program.keyLits at h
  rw [Try.underlying37] at h
  simp only at h
  split at h
  · rename_i h0
    rw [cellsAddr] at h0
    obtain ⟨x, y, z, rfl⟩ := lsK3 h0.1
    simp only [List.mapM_cons, List.mapM_nil, cellsInt, cellsU64, List.drop_zero, List.drop_succ_cons, List.take_succ_cons, List.take_zero] at h
    cases h1 : Try.prog.keyLits (d + 1) 3 [x] with
    | none => simp [h1] at h
    | some l1 =>
      cases h2 : Try.prog.keyLits (d + 1) 35 [y] with
      | none => simp [h1, h2] at h
      | some l2 =>
        cases h3 : Try.prog.keyLits (d + 1) 35 [z] with
        | none => simp [h1, h2, h3] at h
        | some l3 =>
          obtain ⟨a, ea⟩ := leaf_int Try.underlying3 h1
          obtain ⟨b, eb⟩ := leaf_int Try.underlying35 h2
          obtain ⟨c, ec⟩ := leaf_int Try.underlying35 h3
          cases ea; cases eb; cases ec
          exact ⟨a, b, c, rfl⟩
  · cases h
set_option maxRecDepth 100000 in
theorem key_shape {key : Value} {kl : Lit} (h : keyOf Try.prog 72 key = some kl) : ∃ NV, key = .agg NV ∧ NV.size = 8 ∧ NV.all (·.oneCell') = true := by
  have hsz : ∃ m, Try.prog.types.size + 1 = m + 3 := ⟨Try.prog.types.size - 2, by have : 3 ≤ Try.prog.types.size := of_decide_eq_true (by kernel_rfl); omega⟩
  obtain ⟨m, hm⟩ := hsz
  unfold keyOf at h
  rw [Try.underlying72] at h
  simp only at h
  split at h
  · rename_i hf
    have hf2 := (Bool.and_eq_true _ _ ▸ hf).2
    clear hf
    have hf := hf2
    clear hf2
    cases key <;> simp only [Value.formed, Try.underlying72, Bool.false_eq_true] at hf
    rename_i NV
    rw [hm] at h
    cases hl : Try.prog.keyLits (m + 3) 72 (Value.agg NV).cells.toList with
    | none => rw [hl] at h; cases h
    | some ls =>
      have hl : Try.prog.keyLits (m + 3) 72 NV.toList = some ls := hl
      have h8 : NV.size = 8 := by simpa [cellsGram] using hf
      obtain ⟨L⟩ := NV
      obtain ⟨v0, v1, v2, v3, v4, v5, v6, v7, rfl⟩ := lsK8 (by simpa using h8)
      unfold Program.keyLits at hl
      rw [Try.underlying72] at hl
      simp only at hl
      split at hl
      · simp only [List.mapM_cons, List.mapM_nil, cellsInt, cellsU32, cellsAddr, List.drop_zero, List.drop_succ_cons, List.take_succ_cons, List.take_zero] at hl
        cases h1 : Try.prog.keyLits (m + 2) 37 [v0, v1, v2] with
        | none => simp [h1] at hl
        | some l1 =>
          cases h2 : Try.prog.keyLits (m + 2) 37 [v3, v4, v5] with
          | none => simp [h1, h2] at hl
          | some l2 =>
            cases h3 : Try.prog.keyLits (m + 2) 3 [v6] with
            | none => simp [h1, h2, h3] at hl
            | some l3 =>
              cases h4 : Try.prog.keyLits (m + 2) 38 [v7] with
              | none => simp [h1, h2, h3, h4] at hl
              | some l4 =>
                obtain ⟨a, b, c, ea⟩ := addr_ints h1
                obtain ⟨a', b', c', eb⟩ := addr_ints h2
                obtain ⟨x, ec⟩ := leaf_int Try.underlying3 h3
                obtain ⟨y, ed⟩ := leaf_int Try.underlying38 h4
                cases ea; cases eb; cases ec; cases ed
                exact ⟨_, rfl, rfl, by kernel_rfl⟩
      · cases hl
  · cases h
set_option maxRecDepth 100000 in
set_option maxHeartbeats 4000000 in
theorem drop_rng (tb mb r n cnt : Nat) (left : Lit → Bool) (most room life now by_ : Int) (D : DataW Value) (g : Gm) (kl : Lit) (NV : Array Value) (hNs : NV.size = 8) (w : World) (hb : Blk w tb 64 #[.bool true, .int .i64 most, .int .i64 room, .int .i64 life, .int .i64 now, .int .i64 by_, .map (some mb)]) (hq : w.ranges Try.prog 72 heldElem mb r n D left cnt) (hk : keyOf Try.prog 72 (.agg NV) = some kl) (hv : D.atKey kl (.held (.agg zeroG.v)) = .held (.agg g.v))
    (h0 : 0 ≤ g.size) (h1 : g.size ≤ by_) (h2 : by_ ≤ 1048576) (hne : tb ≠ mb) (hrt : tb ≠ r) :
    Calls Try.prog 30 #[.pointer (some ⟨tb, 0, none⟩), .agg NV] w fun e w' => e = .returned (.tuple #[]) ∧ Blk w' tb 64 #[.bool true, .int .i64 most, .int .i64 room, .int .i64 life, .int .i64 now, .int .i64 (by_ - g.size), .map (some mb)] ∧ (∃ cnt', w'.ranges Try.prog 72 heldElem mb r n (D.del kl) (fun z => left z && !z.sameKey kl) cnt' ∧ cnt' ≤ cnt) ∧ But (fun k => k = tb ∨ k = mb) w w' := by
  have hm : OwnsG w mb n D := hq.owns
  obtain ⟨W1, hW1⟩ : ∃ W, w.alloc (.cells NV 72) = W := ⟨_, rfl⟩
  have k1 := bel_nw hW1
  have N1 := blk_nw hW1
  have T1 := hb.al hW1
  have Q1 : W1.ranges Try.prog 72 heldElem mb r n D left cnt := by rw [← hW1]; exact hq.alloc _
  have M1 : OwnsG W1 mb n D := Q1.owns
  have hlt : tb < w.heap.size := hb.lt
  have hml : mb < w.heap.size := hm.lt
  have bW : But (fun k => k = tb ∨ k = mb) w W1 := But.of_below k1 _
  obtain ⟨SZ, hSZ⟩ : ∃ s, by_ - g.size = s := ⟨_, rfl⟩
  have wS : IntKind.i64.wrap SZ = SZ := wraps_i64 _ (by omega) (by omega)
  have HV : Hid (D.atKey kl (.held (.agg zeroG.v)) = .held (.agg g.v)) := hv
  have HK : Hid (keyOf Try.prog 72 (.agg NV) = some kl) := hk
  have tne : w.heap.size ≠ tb := by omega
  have mne : w.heap.size ≠ mb := by omega
  clear hb hm hv hk hq
  go_enter Try.func30, Try.ntmps30
  go_wp2_with fail
  have Nd := N1.drew
  have Td := T1.drew
  have Md : OwnsG W1.drew mb n D := M1.drew
  have Qd : W1.drew.ranges Try.prog 72 heldElem mb r n D left cnt := Q1.kept (grownBy_drew W1 none) (by simp) (by simp)
  have bd : But (fun k => k = tb ∨ k = mb) w W1.drew := bW.below (Below.refl _ _).drew
  have c6 := Td.cell 6 (.map (some mb)) rfl
  refine wp_region_noPanic ?_
  refine wp_region_held_drew (S := fun w' => Blk w' w.heap.size 72 NV ∧ w'.cell? ⟨tb, 6, none⟩ = some (.map (some mb)) ∧ OwnsG w' mb n D) (by kernel_rfl) (by exact ⟨Nd, c6, Md⟩) (fun hHeld => ?_)
  generalize W1.drew = V1 at Nd Td Md Qd bd c6 hHeld ⊢
  clear Q1
  have e5 := Td.cell 5 (.int .i64 by_) rfl
  have z5 := Td.frozen 5
  refine wpAnyH_take (i := 0) (oi := { dst := some 4, op := Op.move (.tmp 0), type := 25, pos := "frag.go:137", after := #[], guard := none }) (v := (.pointer (some ⟨tb, 0, none⟩))) rfl (by kernel_rfl) (by kernel_rfl) (by kernel_rfl) (fun _ _ _ h => h) (Or.inl ⟨by rfl, ?_⟩) hHeld ?_
  · intro w9 hSw
    try dsimp only at hSw
    go_simp
  try simp only [Act.put, List.setIfInBounds_toArray, List.set_cons_zero, List.set_cons_succ]
  refine wpAnyH_take (i := 1) (oi := { dst := some 5, op := Op.nilCheck (.tmp 4), type := 0, pos := "frag.go:137", after := #[{ on := 0, ground := Ground.data }], guard := none }) (v := (.pointer (some ⟨tb, 0, none⟩))) rfl (by kernel_rfl) (by kernel_rfl) (by kernel_rfl) (fun _ _ _ h => h) (Or.inl ⟨by rfl, ?_⟩) hHeld ?_
  · intro w9 hSw
    try dsimp only at hSw
    go_simp
  try simp only [Act.put, List.setIfInBounds_toArray, List.set_cons_zero, List.set_cons_succ]
  refine wpAnyH_take (i := 2) (oi := { dst := some 6, op := Op.fieldAddr 64 (.tmp 5) 5, type := 0, pos := "frag.go:137", after := #[{ on := 1, ground := Ground.data }], guard := none }) (v := (.pointer (some ⟨tb, 5, none⟩))) rfl (by kernel_rfl) (by kernel_rfl) (by kernel_rfl) (fun _ _ _ h => h) (Or.inl ⟨by rfl, ?_⟩) hHeld ?_
  · intro w9 hSw
    try dsimp only at hSw
    go_simp
  try simp only [Act.put, List.setIfInBounds_toArray, List.set_cons_zero, List.set_cons_succ]
  refine wpAnyH_take (i := 4) (oi := { dst := some 8, op := Op.move (.tmp 0), type := 25, pos := "frag.go:137", after := #[], guard := none }) (v := (.pointer (some ⟨tb, 0, none⟩))) rfl (by kernel_rfl) (by kernel_rfl) (by kernel_rfl) (fun _ _ _ h => h) (Or.inl ⟨by rfl, ?_⟩) hHeld ?_
  · intro w9 hSw
    try dsimp only at hSw
    go_simp
  try simp only [Act.put, List.setIfInBounds_toArray, List.set_cons_zero, List.set_cons_succ]
  refine wpAnyH_take (i := 5) (oi := { dst := some 9, op := Op.nilCheck (.tmp 8), type := 0, pos := "frag.go:137", after := #[{ on := 4, ground := Ground.data }], guard := none }) (v := (.pointer (some ⟨tb, 0, none⟩))) rfl (by kernel_rfl) (by kernel_rfl) (by kernel_rfl) (fun _ _ _ h => h) (Or.inl ⟨by rfl, ?_⟩) hHeld ?_
  · intro w9 hSw
    try dsimp only at hSw
    go_simp
  try simp only [Act.put, List.setIfInBounds_toArray, List.set_cons_zero, List.set_cons_succ]
  refine wpAnyH_take (i := 6) (oi := { dst := some 10, op := Op.fieldAddr 64 (.tmp 9) 6, type := 0, pos := "frag.go:137", after := #[{ on := 5, ground := Ground.data }], guard := none }) (v := (.pointer (some ⟨tb, 6, none⟩))) rfl (by kernel_rfl) (by kernel_rfl) (by kernel_rfl) (fun _ _ _ h => h) (Or.inl ⟨by rfl, ?_⟩) hHeld ?_
  · intro w9 hSw
    try dsimp only at hSw
    go_simp
  try simp only [Act.put, List.setIfInBounds_toArray, List.set_cons_zero, List.set_cons_succ]
  refine wpAnyH_take (i := 7) (oi := { dst := some 11, op := Op.load 62 (.tmp 10), type := 62, pos := "frag.go:137", after := #[{ on := 6, ground := Ground.data }], guard := none }) (v := (.map (some mb))) rfl (by kernel_rfl) (by kernel_rfl) (by kernel_rfl) (fun _ _ _ h => h) (Or.inl ⟨by rfl, ?_⟩) hHeld ?_
  · intro w9 hSw
    try dsimp only at hSw
    have q9 := hSw.2.1
    go_simp
  try simp only [Act.put, List.setIfInBounds_toArray, List.set_cons_zero, List.set_cons_succ]
  refine wpAnyH_take (i := 8) (oi := { dst := some 12, op := Op.load 72 (.tmp 3), type := 72, pos := "frag.go:137", after := #[], guard := none }) (v := (.agg NV)) rfl (by kernel_rfl) (by kernel_rfl) (by kernel_rfl) (fun _ _ _ h => h) (yieldsIf_blk rfl _ _ rfl w.heap.size (by rfl) _ (fun _ hSw => hSw.1) Try.underlying72 (by rw [hNs]; kernel_rfl)) hHeld ?_
  try simp only [Act.put, List.setIfInBounds_toArray, List.set_cons_zero, List.set_cons_succ]
  refine wpAnyH_take (i := 9) (oi := { dst := some 13, op := Op.lookup 62 (.tmp 11) (.tmp 12) false, type := 75, pos := "frag.go:137", after := #[{ on := 7, ground := Ground.data }, { on := 8, ground := Ground.data }], guard := none }) (v := (.agg g.v)) rfl (by kernel_rfl) (by kernel_rfl) (by kernel_rfl) (fun _ _ _ h => h) (yieldsIf_look rfl _ _ rfl mb n D _ kl (by rfl) (by rfl) (fun _ hSw => hSw.2.2) HK.out _ HV.out) hHeld ?_
  try simp only [Act.put, List.setIfInBounds_toArray, List.set_cons_zero, List.set_cons_succ]
  refine wpAnyH_take (i := 10) (oi := { dst := some 14, op := Op.field 75 (.tmp 13) 4, type := 3, pos := "frag.go:137", after := #[{ on := 9, ground := Ground.data }], guard := none }) (v := (.int .i64 g.size)) rfl (by kernel_rfl) (by kernel_rfl) (by kernel_rfl) (fun _ _ _ h => h) (Or.inl ⟨by rfl, ?_⟩) hHeld ?_
  · intro w9 hSw
    try dsimp only at hSw
    go_simp
    kernel_rfl
  try simp only [Act.put, List.setIfInBounds_toArray, List.set_cons_zero, List.set_cons_succ]
  refine wpAnyH_ready (rs := [3]) (by kernel_rfl) (by simp) ?_
  refine AllReadyH.cons (o := { dst := some 7, op := Op.load 3 (.tmp 6), type := 3, pos := "frag.go:137", after := #[{ on := 2, ground := Ground.data }], guard := none }) rfl (fun K hK => ?_) AllReadyH.nil
  go_simp
  refine hK.out _ _ (by exact ⟨Nd, c6, Md⟩) (fun hHeld => ?_)
  clear hK K
  try simp only [Act.put, List.setIfInBounds_toArray, List.set_cons_zero, List.set_cons_succ]
  refine wpAnyH_take (i := 11) (oi := { dst := some 15, op := Op.binOp BinOp.sub 3 (.tmp 7) (.tmp 14) 3, type := 3, pos := "frag.go:137", after := #[{ on := 3, ground := Ground.data }, { on := 10, ground := Ground.data }], guard := none }) (v := (.int .i64 SZ)) rfl (by kernel_rfl) (by kernel_rfl) (by kernel_rfl) (fun _ _ _ h => h) (Or.inl ⟨by rfl, ?_⟩) hHeld ?_
  · intro w9 hSw
    try dsimp only at hSw
    go_simp
  try simp only [Act.put, List.setIfInBounds_toArray, List.set_cons_zero, List.set_cons_succ]
  refine wpAnyH_take (i := 12) (oi := { dst := some 16, op := Op.nilCheck (.tmp 4), type := 0, pos := "frag.go:137", after := #[{ on := 0, ground := Ground.data }, { on := 0, ground := Ground.phase }, { on := 1, ground := Ground.phase }, { on := 2, ground := Ground.phase }, { on := 3, ground := Ground.phase }, { on := 4, ground := Ground.phase }, { on := 5, ground := Ground.phase }, { on := 6, ground := Ground.phase }, { on := 7, ground := Ground.phase }, { on := 8, ground := Ground.phase }, { on := 9, ground := Ground.phase }, { on := 10, ground := Ground.phase }, { on := 11, ground := Ground.phase }], guard := none }) (v := (.pointer (some ⟨tb, 0, none⟩))) rfl (by kernel_rfl) (by kernel_rfl) (by kernel_rfl) (fun _ _ _ h => h) (Or.inl ⟨by rfl, ?_⟩) hHeld ?_
  · intro w9 hSw
    try dsimp only at hSw
    go_simp
  try simp only [Act.put, List.setIfInBounds_toArray, List.set_cons_zero, List.set_cons_succ]
  refine wpAnyH_take (i := 13) (oi := { dst := some 17, op := Op.fieldAddr 64 (.tmp 16) 5, type := 0, pos := "frag.go:137", after := #[{ on := 12, ground := Ground.data }, { on := 0, ground := Ground.phase }, { on := 1, ground := Ground.phase }, { on := 2, ground := Ground.phase }, { on := 3, ground := Ground.phase }, { on := 4, ground := Ground.phase }, { on := 5, ground := Ground.phase }, { on := 6, ground := Ground.phase }, { on := 7, ground := Ground.phase }, { on := 8, ground := Ground.phase }, { on := 9, ground := Ground.phase }, { on := 10, ground := Ground.phase }, { on := 11, ground := Ground.phase }], guard := none }) (v := (.pointer (some ⟨tb, 5, none⟩))) rfl (by kernel_rfl) (by kernel_rfl) (by kernel_rfl) (fun _ _ _ h => h) (Or.inl ⟨by rfl, ?_⟩) hHeld ?_
  · intro w9 hSw
    try dsimp only at hSw
    go_simp
  try simp only [Act.put, List.setIfInBounds_toArray, List.set_cons_zero, List.set_cons_succ]
  have T2 := Td.put 5 (.int .i64 SZ)
  have N2 := Nd.put_other Td tne 5 (.int .i64 SZ)
  have M2 : OwnsG (V1.setCell ⟨tb, 5, none⟩ (.int .i64 SZ)) mb n D := Md.setCell (a := ⟨tb, 5, none⟩) (fun h => hne h.symm) _
  have Q2 : (V1.setCell ⟨tb, 5, none⟩ (.int .i64 SZ)).ranges Try.prog 72 heldElem mb r n D left cnt := Qd.kept (grownBy_setCell V1 tb 5 (.int .i64 SZ)) (fun h => hne (by injection h with h; exact h.symm)) (fun h => hrt (by injection h with h; exact h.symm))
  have b2 := bd.setCell tb 5 (.inl (.inl rfl)) (.int .i64 SZ)
  have c62 := T2.cell 6 (.map (some mb)) rfl
  refine wpAnyH_ready (rs := [14]) (by kernel_rfl) (by simp) ?_
  refine AllReadyH.cons (o := { dst := none, op := Op.store 3 (.tmp 17) (.tmp 15), type := 0, pos := "frag.go:137", after := #[{ on := 13, ground := Ground.data }, { on := 11, ground := Ground.data }, { on := 0, ground := Ground.phase }, { on := 1, ground := Ground.phase }, { on := 2, ground := Ground.phase }, { on := 3, ground := Ground.phase }, { on := 4, ground := Ground.phase }, { on := 5, ground := Ground.phase }, { on := 6, ground := Ground.phase }, { on := 7, ground := Ground.phase }, { on := 8, ground := Ground.phase }, { on := 9, ground := Ground.phase }, { on := 10, ground := Ground.phase }, { on := 11, ground := Ground.phase }], guard := none }) rfl (fun K hK => ?_) AllReadyH.nil
  go_simp
  refine hK.out _ _ (by exact ⟨N2, c62, M2⟩) (fun hHeld => ?_)
  clear hK K hHeld
  try simp only [Act.put, List.setIfInBounds_toArray, List.set_cons_zero, List.set_cons_succ]
  refine wpAnyH_done (by kernel_rfl) ?_ _
  refine NoPanic.normal ?_
  generalize World.setCell _ _ _ = V2 at T2 N2 M2 Q2 b2 c62 ⊢
  clear Nd Td Md Qd bd c6 e5 z5
  go_wp2_with fail
  have Nd := N2.drew
  have Td := T2.drew
  have Md : OwnsG V2.drew mb n D := M2.drew
  have Qd : V2.drew.ranges Try.prog 72 heldElem mb r n D left cnt := Q2.kept (grownBy_drew V2 none) (by simp) (by simp)
  have bd : But (fun k => k = tb ∨ k = mb) w V2.drew := b2.below (Below.refl _ _).drew
  have c6 := Td.cell 6 (.map (some mb)) rfl
  refine wp_region_noPanic ?_
  refine wp_region_held_drew (S := fun w' => Blk w' w.heap.size 72 NV ∧ w'.cell? ⟨tb, 6, none⟩ = some (.map (some mb))) (by kernel_rfl) (by exact ⟨Nd, c6⟩) (fun hHeld => ?_)
  generalize V2.drew = V3 at Nd Td Md Qd bd c6 hHeld ⊢
  clear N2 T2 M2 Q2 b2 c62
  refine wpAnyH_take (i := 0) (oi := { dst := some 18, op := Op.move (.tmp 0), type := 25, pos := "frag.go:138", after := #[], guard := none }) (v := (.pointer (some ⟨tb, 0, none⟩))) rfl (by kernel_rfl) (by kernel_rfl) (by kernel_rfl) (fun _ _ _ h => h) (Or.inl ⟨by rfl, ?_⟩) hHeld ?_
  · intro w9 hSw
    try dsimp only at hSw
    go_simp
  try simp only [Act.put, List.setIfInBounds_toArray, List.set_cons_zero, List.set_cons_succ]
  refine wpAnyH_take (i := 1) (oi := { dst := some 19, op := Op.nilCheck (.tmp 18), type := 0, pos := "frag.go:138", after := #[{ on := 0, ground := Ground.data }], guard := none }) (v := (.pointer (some ⟨tb, 0, none⟩))) rfl (by kernel_rfl) (by kernel_rfl) (by kernel_rfl) (fun _ _ _ h => h) (Or.inl ⟨by rfl, ?_⟩) hHeld ?_
  · intro w9 hSw
    try dsimp only at hSw
    go_simp
  try simp only [Act.put, List.setIfInBounds_toArray, List.set_cons_zero, List.set_cons_succ]
  refine wpAnyH_take (i := 2) (oi := { dst := some 20, op := Op.fieldAddr 64 (.tmp 19) 6, type := 0, pos := "frag.go:138", after := #[{ on := 1, ground := Ground.data }], guard := none }) (v := (.pointer (some ⟨tb, 6, none⟩))) rfl (by kernel_rfl) (by kernel_rfl) (by kernel_rfl) (fun _ _ _ h => h) (Or.inl ⟨by rfl, ?_⟩) hHeld ?_
  · intro w9 hSw
    try dsimp only at hSw
    go_simp
  try simp only [Act.put, List.setIfInBounds_toArray, List.set_cons_zero, List.set_cons_succ]
  refine wpAnyH_take (i := 3) (oi := { dst := some 21, op := Op.load 62 (.tmp 20), type := 62, pos := "frag.go:138", after := #[{ on := 2, ground := Ground.data }], guard := none }) (v := (.map (some mb))) rfl (by kernel_rfl) (by kernel_rfl) (by kernel_rfl) (fun _ _ _ h => h) (Or.inl ⟨by rfl, ?_⟩) hHeld ?_
  · intro w9 hSw
    try dsimp only at hSw
    have q9 := hSw.2
    go_simp
  try simp only [Act.put, List.setIfInBounds_toArray, List.set_cons_zero, List.set_cons_succ]
  refine wpAnyH_take (i := 4) (oi := { dst := some 22, op := Op.load 72 (.tmp 3), type := 72, pos := "frag.go:138", after := #[], guard := none }) (v := (.agg NV)) rfl (by kernel_rfl) (by kernel_rfl) (by kernel_rfl) (fun _ _ _ h => h) (yieldsIf_blk rfl _ _ rfl w.heap.size (by rfl) _ (fun _ hSw => hSw.1) Try.underlying72 (by rw [hNs]; kernel_rfl)) hHeld ?_
  try simp only [Act.put, List.setIfInBounds_toArray, List.set_cons_zero, List.set_cons_succ]
  refine wpAnyH_ready (rs := [5]) (by kernel_rfl) (by simp) ?_
  refine AllReadyH.cons (o := { dst := none, op := Op.call { callee := Callee.builtin Builtin.delete, args := #[.tmp 21, .tmp 22], argTypes := #[62, 72] }, type := 0, pos := "frag.go:138", after := #[{ on := 3, ground := Ground.data }, { on := 4, ground := Ground.data }], guard := none }) rfl (fun K hK => ?_) AllReadyH.nil
  refine step_delete_rng rfl _ _ rfl mb r n D left cnt _ kl (by rfl) (by rfl) Qd HK.out ?_
  intro W5 cnt5 M5 l5 t5
  have T5 := Td.turned t5 hne
  have N5 := Nd.turned t5 mne
  refine hK.out _ _ (by exact ⟨N5, T5.cell 6 (.map (some mb)) rfl⟩) (fun hHeld => ?_)
  have b5 := bd.turned t5 (.inl (.inr rfl))
  clear hK K hHeld
  try simp only [Act.put, List.setIfInBounds_toArray, List.set_cons_zero, List.set_cons_succ]
  refine wpAnyH_done (by kernel_rfl) ?_ _
  refine NoPanic.normal ?_
  go_wp2
  go_end0
  exact ⟨rfl, by first | exact T5 | (rw [hSZ]; exact T5), ⟨cnt5, M5, l5⟩, b5⟩
end Go.Proofs.Ytebdpiedgjdjeaa
