/- Texts joined: FiF FiG -/
import Derived.Test.YtkeeidfpgfdldaaFpz17
import Derived.Maps.RangeWalk
namespace Go.Proofs.Ytkeeidfpgfdldaa
open Go.RowKit
set_option linter.unusedVariables false
set_option linter.unusedSimpArgs false
theorem step_delete_rng {ops : Array Oper} {o : Oper} {ac : Act} {K : Act → World → Prop} {Q : Exit → Act → World → Prop} {Z : Prop} {w : World} (hgd : o.guard = none) (m x : Operand) (ho : o.op = Op.call { callee := Callee.builtin Builtin.delete, args := #[m, x], argTypes := #[62, 72] })
  (b r n : Nat) (D : DataW Value) (left : Lit → Bool) (cnt : Nat) (key : Value) (kl : Lit) (hm : ac.eval m = .map (some b)) (hx : ac.eval x = key) (hS : w.ranges Try.prog 72 heldElem b r n D left cnt) (hk : keyOf Try.prog 72 key = some kl)
  (h : ∀ w' cnt', w'.ranges Try.prog 72 heldElem b r n (D.del kl) (fun z => left z && !z.sameKey kl) cnt' → cnt' ≤ cnt → w.mapTurned w' b → K (ac.put o.dst (.tuple #[])) w') :
  if Region.wanted o (yielded ops ac.tmps) = true then Oper.wp Try.prog o ac w K Q else Z := by
 have hw : Region.wanted o (yielded ops ac.tmps) = true := by simp [Region.wanted, hgd]
 rw [if_pos hw]
 obtain ⟨w', cnt', h1, h2, h3, h4⟩ := hS.drop keyGram Try.underlying62 hk o.type
 unfold Oper.wp execOp
 simp only [ho, resolve, invoke, builtin, Sem.run_bind, Sem.run_pure, Result.andThen_ok, List.map_toArray, List.map_cons, List.map_nil, hm, hx, h1]
 exact h w' cnt' h2 h3 h4
theorem lsK3 {cs : List Value} (h : cs.length = 3) : ∃ x y z, cs = [x, y, z] := by
 match cs, h with
 | [x, y, z], _ => exact ⟨x, y, z, rfl⟩
theorem lsK8 {cs : List Value} (h : cs.length = 8) : ∃ v0 v1 v2 v3 v4 v5 v6 v7, cs = [v0, v1, v2, v3, v4, v5, v6, v7] := by
 match cs, h with
 | [v0, v1, v2, v3, v4, v5, v6, v7], _ => exact ⟨v0, v1, v2, v3, v4, v5, v6, v7, rfl⟩
theorem leaf_int {d : Nat} {t : TypeId} {q : IntKind} (hu : Try.prog.underlying t = some (.int q)) {cs : List Value} {ls : List Lit} (h : Try.prog.keyLits (d + 1) t cs = some ls) : ∃ x, cs = [.int q x] := by
 unfold Program.keyLits at h
 rw [hu] at h
 split at h
 ·rename_i h1; cases h1
 ·rename_i h1
  cases h1
  split at h
  ·rename_i h2; obtain ⟨rfl, _⟩ := h2; exact ⟨_, rfl⟩
  ·cases h
 ·rename_i h1; cases h1
 ·rename_i h1; cases h1
 ·rename_i h1; cases h1
 ·cases h
set_option maxRecDepth 100000 in
theorem addr_ints {d : Nat} {cs : List Value} {ls : List Lit} (h : Try.prog.keyLits (d + 2) 37 cs = some ls) : ∃ a b c, cs = [.int .i64 a, .int .u64 b, .int .u64 c] := by
 unfold Program.keyLits at h
 rw [Try.underlying37] at h
 simp only at h
 split at h
 ·rename_i h0
  rw [cellsAddr] at h0
  obtain ⟨x, y, z, rfl⟩ := lsK3 h0.1
  simp only [List.mapM_cons, List.mapM_nil, cellsInt, cellsU64, List.drop_zero, List.drop_succ_cons, List.take_succ_cons, List.take_zero] at h
  cases h1 : Try.prog.keyLits (d + 1) 3 [x] with
  | none => simp [h1] at h
  | some l1 =>
   cases h2 : Try.prog.keyLits (d + 1) 35 [y] with
   | none => simp [h1, h2] at h
   | some l2 =>
    cases h3 : Try.prog.keyLits (d + 1) 35 [z] with
    | none => simp [h1, h2, h3] at h
    | some l3 =>
     obtain ⟨a, ea⟩ := leaf_int Try.underlying3 h1
     obtain ⟨b, eb⟩ := leaf_int Try.underlying35 h2
     obtain ⟨c, ec⟩ := leaf_int Try.underlying35 h3
     cases ea; cases eb; cases ec
     exact ⟨a, b, c, rfl⟩
 ·cases h
set_option maxRecDepth 100000 in
theorem key_shape {key : Value} {kl : Lit} (h : keyOf Try.prog 72 key = some kl) : ∃ NV, key = .agg NV ∧ NV.size = 8 ∧ NV.all (·.oneCell') = true := by
 have hsz : ∃ m, Try.prog.types.size + 1 = m + 3 := ⟨Try.prog.types.size - 2, by have : 3 ≤ Try.prog.types.size := of_decide_eq_true (by kernel_rfl); omega⟩
 obtain ⟨m, hm⟩ := hsz
 unfold keyOf at h
 rw [Try.underlying72] at h
 simp only at h
 split at h
 ·rename_i hf
  have hf2 := (Bool.and_eq_true _ _ ▸ hf).2
  clear hf
  have hf := hf2
  clear hf2
  cases key <;> simp only [Value.formed, Try.underlying72, Bool.false_eq_true] at hf
  rename_i NV
  rw [hm] at h
  cases hl : Try.prog.keyLits (m + 3) 72 (Value.agg NV).cells.toList with
  | none => rw [hl] at h; cases h
  | some ls =>
   have hl : Try.prog.keyLits (m + 3) 72 NV.toList = some ls := hl
   have h8 : NV.size = 8 := by simpa [cellsGram] using hf
   obtain ⟨L⟩ := NV
   obtain ⟨v0, v1, v2, v3, v4, v5, v6, v7, rfl⟩ := lsK8 (by simpa using h8)
   unfold Program.keyLits at hl
   rw [Try.underlying72] at hl
   simp only at hl
   split at hl
   ·simp only [List.mapM_cons, List.mapM_nil, cellsInt, cellsU32, cellsAddr, List.drop_zero, List.drop_succ_cons, List.take_succ_cons, List.take_zero] at hl
    cases h1 : Try.prog.keyLits (m + 2) 37 [v0, v1, v2] with
    | none => simp [h1] at hl
    | some l1 =>
     cases h2 : Try.prog.keyLits (m + 2) 37 [v3, v4, v5] with
     | none => simp [h1, h2] at hl
     | some l2 =>
      cases h3 : Try.prog.keyLits (m + 2) 3 [v6] with
      | none => simp [h1, h2, h3] at hl
      | some l3 =>
       cases h4 : Try.prog.keyLits (m + 2) 38 [v7] with
       | none => simp [h1, h2, h3, h4] at hl
       | some l4 =>
        obtain ⟨a, b, c, ea⟩ := addr_ints h1
        obtain ⟨a', b', c', eb⟩ := addr_ints h2
        obtain ⟨x, ec⟩ := leaf_int Try.underlying3 h3
        obtain ⟨y, ed⟩ := leaf_int Try.underlying38 h4
        cases ea; cases eb; cases ec; cases ed
        exact ⟨_, rfl, rfl, by kernel_rfl⟩
   ·cases hl
 ·cases h
set_option maxRecDepth 100000 in
set_option maxHeartbeats 4000000 in
theorem drop_rng (tb mb r n cnt : Nat) (left : Lit → Bool) (most room life now by_ : Int) (D : DataW Value) (g : Gm) (kl : Lit) (NV : Array Value) (hNs : NV.size = 8) (w : World) (hb : Blk w tb 64 #[.bool true, .int .i64 most, .int .i64 room, .int .i64 life, .int .i64 now, .int .i64 by_, .map (some mb)]) (hq : w.ranges Try.prog 72 heldElem mb r n D left cnt) (hk : keyOf Try.prog 72 (.agg NV) = some kl) (hv : D.atKey kl (.held (.agg zeroG.v)) = .held (.agg g.v))
  (h0 : 0 ≤ g.size) (h1 : g.size ≤ by_) (h2 : by_ ≤ 1048576) (hne : tb ≠ mb) (hrt : tb ≠ r) :
  Calls Try.prog 30 #[.pointer (some ⟨tb, 0, none⟩), .agg NV] w fun e w' => e = .returned (.tuple #[]) ∧ Blk w' tb 64 #[.bool true, .int .i64 most, .int .i64 room, .int .i64 life, .int .i64 now, .int .i64 (by_ - g.size), .map (some mb)] ∧ (∃ cnt', w'.ranges Try.prog 72 heldElem mb r n (D.del kl) (fun z => left z && !z.sameKey kl) cnt' ∧ cnt' ≤ cnt) ∧ But (fun k => k = tb ∨ k = mb) w w' := by
 have hm : OwnsG w mb n D := hq.owns
 obtain ⟨W1, hW1⟩ : ∃ W, w.alloc (.cells NV 72) = W := ⟨_, rfl⟩
 have k1 := bel_nw hW1
 have N1 := blk_nw hW1
 have T1 := hb.al hW1
 have Q1 : W1.ranges Try.prog 72 heldElem mb r n D left cnt := by rw [← hW1]; exact hq.alloc _
 have M1 : OwnsG W1 mb n D := Q1.owns
 have hlt : tb < w.heap.size := hb.lt
 have hml : mb < w.heap.size := hm.lt
 have bW : But (fun k => k = tb ∨ k = mb) w W1 := But.of_below k1 _
 obtain ⟨SZ, hSZ⟩ : ∃ s, by_ - g.size = s := ⟨_, rfl⟩
 have wS : IntKind.i64.wrap SZ = SZ := wraps_i64 _ (by omega) (by omega)
 have HV : Hid (D.atKey kl (.held (.agg zeroG.v)) = .held (.agg g.v)) := hv
 have HK : Hid (keyOf Try.prog 72 (.agg NV) = some kl) := hk
 have tne : w.heap.size ≠ tb := by omega
 have mne : w.heap.size ≠ mb := by omega
 clear hb hm hv hk hq
 go_enter Try.func30, Try.ntmps30
 go_wp2_with fail
 have Nd := N1.drew
 have Td := T1.drew
 have Md : OwnsG W1.drew mb n D := M1.drew
 have Qd : W1.drew.ranges Try.prog 72 heldElem mb r n D left cnt := Q1.kept (grownBy_drew W1 none) (by simp) (by simp)
 have bd : But (fun k => k = tb ∨ k = mb) w W1.drew := bW.below (Below.refl _ _).drew
 have c6 := Td.cell 6 (.map (some mb)) rfl
 refine wp_region_noPanic ?_
 refine wp_region_held_drew (S := fun w' => Blk w' w.heap.size 72 NV ∧ w'.cell? ⟨tb, 6, none⟩ = some (.map (some mb)) ∧ OwnsG w' mb n D) (by kernel_rfl) (by exact ⟨Nd, c6, Md⟩) (fun hHeld => ?_)
 generalize W1.drew = V1 at Nd Td Md Qd bd c6 hHeld ⊢
 clear Q1
 have e5 := Td.cell 5 (.int .i64 by_) rfl
 have z5 := Td.frozen 5
 refine qtk (i := 0) (oi := { dst := some 4, op := Op.move (.tmp 0), type := 25, pos := "frag.go:137", after := #[], guard := none }) (v := (.pointer (some ⟨tb, 0, none⟩))) hHeld ?_ ?_
 ·intro w9 hSw
  try dsimp only at hSw
  go_simp
 try simp only [qpu]
 refine qtk (i := 1) (oi := { dst := some 5, op := Op.nilCheck (.tmp 4), type := 0, pos := "frag.go:137", after := #[{ on := 0, ground := Ground.data }], guard := none }) (v := (.pointer (some ⟨tb, 0, none⟩))) hHeld ?_ ?_
 ·intro w9 hSw
  try dsimp only at hSw
  go_simp
 try simp only [qpu]
 refine qtk (i := 2) (oi := { dst := some 6, op := Op.fieldAddr 64 (.tmp 5) 5, type := 0, pos := "frag.go:137", after := #[{ on := 1, ground := Ground.data }], guard := none }) (v := (.pointer (some ⟨tb, 5, none⟩))) hHeld ?_ ?_
 ·intro w9 hSw
  try dsimp only at hSw
  go_simp
 try simp only [qpu]
 refine qtk (i := 4) (oi := { dst := some 8, op := Op.move (.tmp 0), type := 25, pos := "frag.go:137", after := #[], guard := none }) (v := (.pointer (some ⟨tb, 0, none⟩))) hHeld ?_ ?_
 ·intro w9 hSw
  try dsimp only at hSw
  go_simp
 try simp only [qpu]
 refine qtk (i := 5) (oi := { dst := some 9, op := Op.nilCheck (.tmp 8), type := 0, pos := "frag.go:137", after := #[{ on := 4, ground := Ground.data }], guard := none }) (v := (.pointer (some ⟨tb, 0, none⟩))) hHeld ?_ ?_
 ·intro w9 hSw
  try dsimp only at hSw
  go_simp
 try simp only [qpu]
 refine qtk (i := 6) (oi := { dst := some 10, op := Op.fieldAddr 64 (.tmp 9) 6, type := 0, pos := "frag.go:137", after := #[{ on := 5, ground := Ground.data }], guard := none }) (v := (.pointer (some ⟨tb, 6, none⟩))) hHeld ?_ ?_
 ·intro w9 hSw
  try dsimp only at hSw
  go_simp
 try simp only [qpu]
 refine qtk (i := 7) (oi := { dst := some 11, op := Op.load 62 (.tmp 10), type := 62, pos := "frag.go:137", after := #[{ on := 6, ground := Ground.data }], guard := none }) (v := (.map (some mb))) hHeld ?_ ?_
 ·intro w9 hSw
  try dsimp only at hSw
  have q9 := hSw.2.1
  go_simp
 try simp only [qpu]
 refine qty (i := 8) (oi := { dst := some 12, op := Op.load 72 (.tmp 3), type := 72, pos := "frag.go:137", after := #[], guard := none }) (v := (.agg NV)) (yieldsIf_blk rfl _ _ rfl w.heap.size (by rfl) _ (fun _ hSw => hSw.1) Try.underlying72 (by rw [hNs]; kernel_rfl)) hHeld ?_
 try simp only [qpu]
 refine qty (i := 9) (oi := { dst := some 13, op := Op.lookup 62 (.tmp 11) (.tmp 12) false, type := 75, pos := "frag.go:137", after := #[{ on := 7, ground := Ground.data }, { on := 8, ground := Ground.data }], guard := none }) (v := (.agg g.v)) (yieldsIf_look rfl _ _ rfl mb n D _ kl (by rfl) (by rfl) (fun _ hSw => hSw.2.2) HK.out _ HV.out) hHeld ?_
 try simp only [qpu]
 refine qtk (i := 10) (oi := { dst := some 14, op := Op.field 75 (.tmp 13) 4, type := 3, pos := "frag.go:137", after := #[{ on := 9, ground := Ground.data }], guard := none }) (v := (.int .i64 g.size)) hHeld ?_ ?_
 ·intro w9 hSw
  try dsimp only at hSw
  go_simp
  kernel_rfl
 try simp only [qpu]
 refine wpAnyH_ready (rs := [3]) (by kernel_rfl) (by simp) ?_
 refine AllReadyH.cons (o := { dst := some 7, op := Op.load 3 (.tmp 6), type := 3, pos := "frag.go:137", after := #[{ on := 2, ground := Ground.data }], guard := none }) rfl (fun K hK => ?_) AllReadyH.nil
 go_simp
 refine hK.out _ _ (by exact ⟨Nd, c6, Md⟩) (fun hHeld => ?_)
 clear hK K
 try simp only [qpu]
 refine qtk (i := 11) (oi := { dst := some 15, op := Op.binOp BinOp.sub 3 (.tmp 7) (.tmp 14) 3, type := 3, pos := "frag.go:137", after := #[{ on := 3, ground := Ground.data }, { on := 10, ground := Ground.data }], guard := none }) (v := (.int .i64 SZ)) hHeld ?_ ?_
 ·intro w9 hSw
  try dsimp only at hSw
  go_simp
 try simp only [qpu]
 refine qtk (i := 12) (oi := { dst := some 16, op := Op.nilCheck (.tmp 4), type := 0, pos := "frag.go:137", after := #[{ on := 0, ground := Ground.data }, { on := 0, ground := Ground.phase }, { on := 1, ground := Ground.phase }, { on := 2, ground := Ground.phase }, { on := 3, ground := Ground.phase }, { on := 4, ground := Ground.phase }, { on := 5, ground := Ground.phase }, { on := 6, ground := Ground.phase }, { on := 7, ground := Ground.phase }, { on := 8, ground := Ground.phase }, { on := 9, ground := Ground.phase }, { on := 10, ground := Ground.phase }, { on := 11, ground := Ground.phase }], guard := none }) (v := (.pointer (some ⟨tb, 0, none⟩))) hHeld ?_ ?_
 ·intro w9 hSw
  try dsimp only at hSw
  go_simp
 try simp only [qpu]
 refine qtk (i := 13) (oi := { dst := some 17, op := Op.fieldAddr 64 (.tmp 16) 5, type := 0, pos := "frag.go:137", after := #[{ on := 12, ground := Ground.data }, { on := 0, ground := Ground.phase }, { on := 1, ground := Ground.phase }, { on := 2, ground := Ground.phase }, { on := 3, ground := Ground.phase }, { on := 4, ground := Ground.phase }, { on := 5, ground := Ground.phase }, { on := 6, ground := Ground.phase }, { on := 7, ground := Ground.phase }, { on := 8, ground := Ground.phase }, { on := 9, ground := Ground.phase }, { on := 10, ground := Ground.phase }, { on := 11, ground := Ground.phase }], guard := none }) (v := (.pointer (some ⟨tb, 5, none⟩))) hHeld ?_ ?_
 ·intro w9 hSw
  try dsimp only at hSw
  go_simp
 try simp only [qpu]
 have T2 := Td.put 5 (.int .i64 SZ)
 have N2 := Nd.put_other Td tne 5 (.int .i64 SZ)
 have M2 : OwnsG (V1.setCell ⟨tb, 5, none⟩ (.int .i64 SZ)) mb n D := Md.setCell (a := ⟨tb, 5, none⟩) (fun h => hne h.symm) _
 have Q2 : (V1.setCell ⟨tb, 5, none⟩ (.int .i64 SZ)).ranges Try.prog 72 heldElem mb r n D left cnt := Qd.kept (grownBy_setCell V1 tb 5 (.int .i64 SZ)) (fun h => hne (by injection h with h; exact h.symm)) (fun h => hrt (by injection h with h; exact h.symm))
 have b2 := bd.setCell tb 5 (.inl (.inl rfl)) (.int .i64 SZ)
 have c62 := T2.cell 6 (.map (some mb)) rfl
 refine wpAnyH_ready (rs := [14]) (by kernel_rfl) (by simp) ?_
 refine AllReadyH.cons (o := { dst := none, op := Op.store 3 (.tmp 17) (.tmp 15), type := 0, pos := "frag.go:137", after := #[{ on := 13, ground := Ground.data }, { on := 11, ground := Ground.data }, { on := 0, ground := Ground.phase }, { on := 1, ground := Ground.phase }, { on := 2, ground := Ground.phase }, { on := 3, ground := Ground.phase }, { on := 4, ground := Ground.phase }, { on := 5, ground := Ground.phase }, { on := 6, ground := Ground.phase }, { on := 7, ground := Ground.phase }, { on := 8, ground := Ground.phase }, { on := 9, ground := Ground.phase }, { on := 10, ground := Ground.phase }, { on := 11, ground := Ground.phase }], guard := none }) rfl (fun K hK => ?_) AllReadyH.nil
 go_simp
 refine hK.out _ _ (by exact ⟨N2, c62, M2⟩) (fun hHeld => ?_)
 clear hK K hHeld
 try simp only [qpu]
 refine wpAnyH_done (by kernel_rfl) ?_ _
 refine NoPanic.normal ?_
 generalize World.setCell _ _ _ = V2 at T2 N2 M2 Q2 b2 c62 ⊢
 clear Nd Td Md Qd bd c6 e5 z5
 go_wp2_with fail
 have Nd := N2.drew
 have Td := T2.drew
 have Md : OwnsG V2.drew mb n D := M2.drew
 have Qd : V2.drew.ranges Try.prog 72 heldElem mb r n D left cnt := Q2.kept (grownBy_drew V2 none) (by simp) (by simp)
 have bd : But (fun k => k = tb ∨ k = mb) w V2.drew := b2.below (Below.refl _ _).drew
 have c6 := Td.cell 6 (.map (some mb)) rfl
 refine wp_region_noPanic ?_
 refine wp_region_held_drew (S := fun w' => Blk w' w.heap.size 72 NV ∧ w'.cell? ⟨tb, 6, none⟩ = some (.map (some mb))) (by kernel_rfl) (by exact ⟨Nd, c6⟩) (fun hHeld => ?_)
 generalize V2.drew = V3 at Nd Td Md Qd bd c6 hHeld ⊢
 clear N2 T2 M2 Q2 b2 c62
 refine qtk (i := 0) (oi := { dst := some 18, op := Op.move (.tmp 0), type := 25, pos := "frag.go:138", after := #[], guard := none }) (v := (.pointer (some ⟨tb, 0, none⟩))) hHeld ?_ ?_
 ·intro w9 hSw
  try dsimp only at hSw
  go_simp
 try simp only [qpu]
 refine qtk (i := 1) (oi := { dst := some 19, op := Op.nilCheck (.tmp 18), type := 0, pos := "frag.go:138", after := #[{ on := 0, ground := Ground.data }], guard := none }) (v := (.pointer (some ⟨tb, 0, none⟩))) hHeld ?_ ?_
 ·intro w9 hSw
  try dsimp only at hSw
  go_simp
 try simp only [qpu]
 refine qtk (i := 2) (oi := { dst := some 20, op := Op.fieldAddr 64 (.tmp 19) 6, type := 0, pos := "frag.go:138", after := #[{ on := 1, ground := Ground.data }], guard := none }) (v := (.pointer (some ⟨tb, 6, none⟩))) hHeld ?_ ?_
 ·intro w9 hSw
  try dsimp only at hSw
  go_simp
 try simp only [qpu]
 refine qtk (i := 3) (oi := { dst := some 21, op := Op.load 62 (.tmp 20), type := 62, pos := "frag.go:138", after := #[{ on := 2, ground := Ground.data }], guard := none }) (v := (.map (some mb))) hHeld ?_ ?_
 ·intro w9 hSw
  try dsimp only at hSw
  have q9 := hSw.2
  go_simp
 try simp only [qpu]
 refine qty (i := 4) (oi := { dst := some 22, op := Op.load 72 (.tmp 3), type := 72, pos := "frag.go:138", after := #[], guard := none }) (v := (.agg NV)) (yieldsIf_blk rfl _ _ rfl w.heap.size (by rfl) _ (fun _ hSw => hSw.1) Try.underlying72 (by rw [hNs]; kernel_rfl)) hHeld ?_
 try simp only [qpu]
 refine wpAnyH_ready (rs := [5]) (by kernel_rfl) (by simp) ?_
 refine AllReadyH.cons (o := { dst := none, op := Op.call { callee := Callee.builtin Builtin.delete, args := #[.tmp 21, .tmp 22], argTypes := #[62, 72] }, type := 0, pos := "frag.go:138", after := #[{ on := 3, ground := Ground.data }, { on := 4, ground := Ground.data }], guard := none }) rfl (fun K hK => ?_) AllReadyH.nil
 refine step_delete_rng rfl _ _ rfl mb r n D left cnt _ kl (by rfl) (by rfl) Qd HK.out ?_
 intro W5 cnt5 M5 l5 t5
 have T5 := Td.turned t5 hne
 have N5 := Nd.turned t5 mne
 refine hK.out _ _ (by exact ⟨N5, T5.cell 6 (.map (some mb)) rfl⟩) (fun hHeld => ?_)
 have b5 := bd.turned t5 (.inl (.inr rfl))
 clear hK K hHeld
 try simp only [qpu]
 refine wpAnyH_done (by kernel_rfl) ?_ _
 refine NoPanic.normal ?_
 go_wp2
 go_end0
 exact ⟨rfl, by first | exact T5 | (rw [hSZ]; exact T5), ⟨cnt5, M5, l5⟩, b5⟩
/-- What is still to come, or stays. -/
def flG (G : List (Lit × Gm)) (now : Int) (left : Lit → Bool) : List (Lit × Gm) := G.filter fun p => left p.1 || decide (now < p.2.ends)
theorem flG_start {G : List (Lit × Gm)} (now : Int) (hk : ∀ p ∈ G, WideAt.IsKeyLit p.1) : flG G now (Maps.has (toD G)) = G := by
 unfold flG
 refine List.filter_eq_self.2 (fun p hp => ?_)
 have : Maps.has (toD G) p.1 = true := by
  rw [Maps.has_eq]
  exact List.any_eq_true.2 ⟨(p.1, .held (.agg p.2.v)), List.mem_map.2 ⟨p, hp, rfl⟩, WideAt.sameKey_self (hk p hp)⟩
 simp [this]
theorem flG_end {G : List (Lit × Gm)} {now : Int} {left : Lit → Bool} (h : ∀ k, left k = false) : flG G now left = G.filter fun p => decide (now < p.2.ends) := by
 unfold flG
 congr 1
 funext p
 simp [h]
theorem flG_stay {G : List (Lit × Gm)} {now : Int} {left : Lit → Bool} {k : Lit} {g : Gm} (hK : Keys G) (hl : look k (flG G now left) = some g) (ht : now < g.ends) : flG G now (fun z => left z && !z.sameKey k) = flG G now left := by
 have hm := look_mem hl
 unfold flG at hm ⊢
 have hg := (List.mem_filter.1 hm).1
 refine List.filter_congr (fun p hp => ?_)
 cases hs : p.1.sameKey k
 ·simp [hs]
 ·have e : p.1 = k := WideAt.sameKey_eq hs
  have : p = (k, g) := by
   refine Classical.byContradiction fun hne => ?_
   exact pair_of (R := fun p q : Lit × Gm => p.1 ≠ q.1) (fun a b h => h.symm) hK hp hg hne e
  subst this
  simp [ht]
theorem flG_drop {G : List (Lit × Gm)} {now : Int} {left : Lit → Bool} {k : Lit} {g : Gm} (hK : Keys G) (hl : look k (flG G now left) = some g) (ht : ¬ now < g.ends) : flG G now (fun z => left z && !z.sameKey k) = strike k (flG G now left) := by
 have hm := look_mem hl
 unfold flG at hm
 have hg := (List.mem_filter.1 hm).1
 unfold strike flG
 rw [List.filter_filter]
 refine List.filter_congr (fun p hp => ?_)
 cases hs : p.1.sameKey k
 ·simp [hs]
 ·have e : p.1 = k := WideAt.sameKey_eq hs
  have : p = (k, g) := by
   refine Classical.byContradiction fun hne => ?_
   exact pair_of (R := fun p q : Lit × Gm => p.1 ≠ q.1) (fun a b h => h.symm) hK hp hg hne e
  subst this
  have hs' : k.sameKey k = true := hs
  simp [ht, hs']
abbrev absG (G : List (Lit × Gm)) : List (Lit × Ag) := G.map fun p => (p.1, p.2.ab)
theorem abs_filter (G : List (Lit × Gm)) (now : Int) : absG (G.filter fun p => decide (now < p.2.ends)) = (absG G).filter fun p => decide (now < p.2.ends) := by
 unfold absG
 rw [List.filter_map]
 rfl
set_option maxRecDepth 100000 in
set_option maxHeartbeats 4000000 in
theorem tick_yes (tb mb : Nat) (s : Fs) (G : List (Lit × Gm)) (now : Int) (w : World) (T : TabG w tb mb s G) (h1 : ¬ now < s.now) (h2 : ¬ now > 4611684918915760128) :
  Calls Try.prog 15 #[.pointer (some ⟨tb, 0, none⟩), .int .i64 now] w fun e w' => e = .returned (.int .i64 0) ∧ TabG w' tb mb (tickF s now).1 (G.filter fun p => decide (now < p.2.ends)) ∧ But (fun k => k = tb ∨ k = mb) w w' := by
 have e0 : (tickF s now).1 = { s with now := now, by_ := sizes (s.E.filter fun p => decide (now < p.2.ends)), E := s.E.filter fun p => decide (now < p.2.ends) } := by unfold tickF; rw [if_neg (by omega)]
 have sok := tickF_ok T.ok now
 have tl := T.tab.lt
 have ml := T.map.lt
 have K : Hid _ := isMade_at tb true w (T.tab.cell 0 (.bool true) rfl)
 have c4 := T.tab.cell 4 (.int .i64 s.now) rfl
 have z4 := T.tab.frozen 4
 obtain ⟨W1, hW1⟩ : ∃ W, w.setCell ⟨tb, 4, none⟩ (.int .i64 now) = W := ⟨_, rfl⟩
 have T1 : Blk W1 tb 64 #[.bool true, .int .i64 s.most, .int .i64 s.room, .int .i64 s.life, .int .i64 now, .int .i64 s.by_, .map (some mb)] := by rw [← hW1]; exact T.tab.put 4 _
 have M1 : OwnsG W1 mb G.length (toD G) := by rw [← hW1]; exact T.map.setCell (a := ⟨tb, 4, none⟩) (fun h => T.ne h.symm) _
 have b1 : But (fun k => k = tb ∨ k = mb) w W1 := by rw [← hW1]; exact (But.refl _ w).setCell tb 4 (.inl (.inl rfl)) _
 have c6 := T1.cell 6 (.map (some mb)) rfl
 have s1 : W1.heap.size = w.heap.size := by rw [← hW1]; simp [World.setCell]
 have HT : Hid (TabG w tb mb s G) := T
 have SOK : Hid (FsOk (tickF s now).1) := sok
 have HE : Hid _ := e0
 have hKs : Hid (Keys G) := by
  have := T.ok.keys
  rw [T.abs] at this
  exact (List.pairwise_map (f := fun p : Lit × Gm => (p.1, p.2.ab))).1 this
 have hlit : Hid (∀ p ∈ G, WideAt.IsKeyLit p.1) := fun p hp => T.ok.lits (p.1, p.2.ab) (by rw [T.abs]; exact List.mem_map.2 ⟨p, hp, rfl⟩)
 have hne : tb ≠ mb := T.ne
 have hby : Hid (s.by_ = sizes (absG G)) := by have := T.ok.by_; rw [T.abs] at this; exact this
 have hrm : Hid (s.by_ ≤ 1048576) := by have := T.ok.bytes; have := T.ok.room; exact (by omega : s.by_ ≤ 1048576)
 have hok : Hid (∀ p ∈ G, AgOk p.2.ab) := fun p hp => (T.ok.each (p.1, p.2.ab) (by rw [T.abs]; exact List.mem_map.2 ⟨p, hp, rfl⟩)).1
 clear e0 sok T
 go_enter Try.func15, Try.ntmps15
 go_wp2_with fail
 refine Calls.mono K.out ?_
 rintro e w' ⟨rfl, hW'⟩
 rw [hW']
 clear hW' w' K
 go_wp2_with (first
  | (at_range; refine wpList_range_own _ rfl _ 62 rfl 72 75 keyGram Try.underlying62 heldElem mb G.length (toD G) (by rfl) M1 ?_; intro w0 hrg0 hg0 hs0)
  | go_in)
 go_frame
 rw [s1] at hrg0 hs0 ⊢
 clear s1
 go_loopw [] (fun wr => ∃ left cnt, Hid (wr.ranges Try.prog 72 heldElem mb w.heap.size G.length (toD (flG G now left)) left cnt) ∧ Hid (Blk wr tb 64 #[.bool true, .int .i64 s.most, .int .i64 s.room, .int .i64 s.life, .int .i64 now, .int .i64 (sizes (absG (flG G now left))), .map (some mb)]) ∧ Hid (But (fun k => k = tb ∨ k = mb) w wr)) (fun wr => wr.rangeLeft mb w.heap.size)
 case atStart =>
  refine ⟨Maps.has (toD G), Maps.size (toD G), ?_, ?_, ?_⟩
  ·rw [flG_start now hlit.out]; exact hrg0
  ·rw [flG_start now hlit.out, ← hby.out]; exact (hg0.block tb T1.lt (by simp)).trans T1
  ·exact b1.grown hg0 (fun n hn => by cases hn)
 case round =>
  obtain ⟨left, cnt, hrg, hT, hB⟩ := hrel
  clear hrg0 hg0 hs0 M1 T1 b1 c4 z4 c6
  go_wp2_with (first
   | (at_next; refine wpList_next_ranges _ rfl _ rfl 72 keyGram heldElem Value.agg (fun v : Value => v) (fun key kl hk => by obtain ⟨NV, e, _⟩ := key_shape hk; exact ⟨NV, e⟩) (fun v y _ => ⟨v, rfl⟩) mb w.heap.size G.length _ _ _ (by rfl) hrg.out ?_ ?_)
   | go_in)
  ·intro hc0 hl0
   go_wp2
   go_ret
   refine ⟨rfl, ?_, hB.out⟩
   have hf : flG G now left = G.filter fun p => decide (now < p.2.ends) := flG_end hl0
   have e1 := HE.out
   have s2 := SOK.out
   have m2 := hrg.out.owns
   have t2 := hT.out
   rw [hf] at m2 t2
   have ea : s.E.filter (fun p => decide (now < p.2.ends)) = absG (G.filter fun p => decide (now < p.2.ends)) := by rw [abs_filter, HT.out.abs]
   rw [e1] at s2 ⊢
   refine ⟨ea, ?_, own_tight m2, hne, s2, fun p hp => ?_, HT.out.apart.filter _⟩
   ·rw [← ea] at t2; exact t2
   ·obtain ⟨g1, g2, g3⟩ := HT.out.gr p (List.mem_filter.1 hp).1
    have g4 : ∀ k, gfoot p.2 k → ¬ (k = tb ∨ k = mb) := fun k hk h => by have := g3 k hk; omega
    exact ⟨g1.but hB.out (gmo_foot g4) (fun x hx => g4 _ (.inl ⟨x, hx, rfl⟩)), g2, fun k hk => ⟨Nat.lt_of_lt_of_le (g3 k hk).1 hB.out.size, (g3 k hk).2⟩⟩
  ·intro x c kl y y2 w1 cnt1 hkey hlk hv hat hrg1 hlt hg1 hs1 hen
   obtain ⟨NV, eNV, n8, n1⟩ := key_shape hkey
   cases eNV
   have hy : y = .held c := by
    simp only [heldElem, Option.some.injEq, Prod.mk.injEq] at hv
    exact hv.1.symm
   have hhas : Maps.has (toD (flG G now left)) kl = true := Maps.has_true_of_atKey hat
   rw [toD_has] at hhas
   obtain ⟨g, hl⟩ := Option.isSome_iff_exists.1 hhas
   have hv2 : (toD (flG G now left)).atKey kl (.held (.agg zeroG.v)) = .held (.agg g.v) := by rw [toD_at, hl]; rfl
   have hc : c = .agg g.v := by
    have h3 := (hat (.held (.agg zeroG.v))).symm.trans hv2
    rw [hy] at h3
    injection h3
   subst hc
   have hgG : (kl, g) ∈ G := (List.mem_filter.1 (look_mem hl)).1
   have gok := hok.out (kl, g) hgG
   have gs0 : 0 ≤ g.size := gok.nonneg
   have hkeys : Keys (absG (flG G now left)) := by
    have h3 : Keys (flG G now left) := hKs.out.filter _
    exact (List.pairwise_map (f := fun p : Lit × Gm => (p.1, p.2.ab))).2 h3
   have hla : look kl (absG (flG G now left)) = some g.ab := by rw [look_map Gm.ab, hl]; rfl
   have hsz : sizes (absG (strike kl (flG G now left))) + g.size = sizes (absG (flG G now left)) := by
    have h3 := strike_size hkeys hla
    rw [← strike_map Gm.ab] at h3
    exact h3
   have hall : ∀ e ∈ absG (flG G now left), AgOk e.2 := fun e he => by
    obtain ⟨q, hq, rfl⟩ := List.mem_map.1 he
    exact hok.out q (List.mem_filter.1 hq).1
   have hle : sizes (absG (flG G now left)) ≤ 1048576 := by
    have h3 := filter_sizes (fun p => left p.1 || decide (now < p.2.ends)) (E := absG G) (fun e he => by
     obtain ⟨q, hq, rfl⟩ := List.mem_map.1 he
     exact hok.out q hq)
    have h4 : (absG G).filter (fun p => left p.1 || decide (now < p.2.ends)) = absG (flG G now left) := by
     unfold absG flG
     rw [List.filter_map]
     rfl
    rw [h4, ← hby.out] at h3
    exact Int.le_trans h3 hrm.out
   have hge : g.size ≤ sizes (absG (flG G now left)) := by
    have h3 := sizes_nonneg (E := absG (strike kl (flG G now left))) (fun e he => by
     obtain ⟨q, hq, rfl⟩ := List.mem_map.1 he
     exact hok.out q (List.mem_filter.1 (mem_strike hq)).1)
    omega
   have rt : w.heap.size ≠ tb := by omega
   have T2 : Blk w1 tb 64 _ := (hg1.block tb hT.out.lt (fun e => rt (by injection e with e; exact e.symm))).trans hT.out
   have B2 : But (fun k => k = tb ∨ k = mb) w w1 := hB.out.grown hg1 (fun n hn => by cases hn; exact .inr (Nat.le_refl _))
   have wl : w.heap.size < w1.heap.size := hrg1.lt
   obtain ⟨w2, hw2⟩ : ∃ W, w1.alloc (.cells #[.int .i64 0, .int .u64 0, .int .u64 0, .int .i64 0, .int .u64 0, .int .u64 0, .int .i64 0, .int .u32 0] 72) = W := ⟨_, rfl⟩
   obtain ⟨w3, hw3⟩ : ∃ W, w2.alloc (.cells #[.int .i64 0, .bool false, .int .i64 0, .int .i64 0, .int .u64 0, .int .u64 0, .int .i64 0, .int .u64 0, .int .u64 0, .int .i64 0, .int .i64 0, .bool false, .int .u32 0, .int .i64 0, .bool false, .slice none 0 0, .slice none 0 0, .slice none 0 0, .int .i64 0, .int .i64 0, .bool false] 75) = W := ⟨_, rfl⟩
   have N3 := (blk_nw hw2).al hw3
   have G3 := blk_nw hw3
   have l2 : w1.heap.size < w2.heap.size := (blk_nw hw2).lt
   obtain ⟨w4, hw4⟩ : ∃ W, w3.setRow w1.heap.size x = W := ⟨_, rfl⟩
   have N4 : Blk w4 w1.heap.size 72 x := by rw [← hw4]; exact N3.set x
   have G4 : Blk w4 w2.heap.size 75 #[.int .i64 0, .bool false, .int .i64 0, .int .i64 0, .int .u64 0, .int .u64 0, .int .i64 0, .int .u64 0, .int .u64 0, .int .i64 0, .int .i64 0, .bool false, .int .u32 0, .int .i64 0, .bool false, .slice none 0 0, .slice none 0 0, .slice none 0 0, .int .i64 0, .int .i64 0, .bool false] := by rw [← hw4]; exact G3.other (by omega) x
   obtain ⟨w5, hw5⟩ : ∃ W, w4.setRow w2.heap.size g.v = W := ⟨_, rfl⟩
   have N5 : Blk w5 w1.heap.size 72 x := by rw [← hw5]; exact N4.other (by omega) g.v
   have G5 : Blk w5 w2.heap.size 75 g.v := by rw [← hw5]; exact G4.set g.v
   have k5 : Below w1.heap.size w1 w5 := by
    rw [← hw5, ← hw4]
    exact below_setRow (below_setRow (bel_al (bel_nw hw2) hw3) (Nat.le_refl _) x) (Nat.le_of_lt l2) g.v
   have T5 := T2.kept k5
   have g5 : w1.grownBy w5 none := ⟨k5.os, k5.tape, k5.output, k5.size, fun i hi _ => k5.block i hi⟩
   have hrg5 := hrg1.kept g5 (by simp) (by simp)
   have B5 := B2.below k5
   have c0 := G5.cell 0 (.int .i64 g.ends) rfl
   have HW4 : Hid _ := hw4
   have HW5 : Hid _ := hw5
   clear hs1 hw4 hw5 k5 g5 T2 B2 hrg1 hg1 hv hat hB hT hy hhas hkeys hla hall
   by_cases hd : now < g.ends
   ·have hd' : ¬ g.ends ≤ now := by omega
    have hfl := flG_stay hKs.out hl hd
    have HD : Hid (now < g.ends) := hd
    clear hd
    go_wp2_with (first
     | (refine wpList_store_row rfl _ _ _ rfl w1.heap.size x (by rfl) (by rfl) _ _ N3 (by rw [n8]; kernel_rfl) (by rw [n8]; rfl) n1 ?_; rw [HW4.out])
     | (refine wpList_store_row rfl _ _ _ rfl w2.heap.size g.v (by rfl) (by rfl) _ _ G4 (by kernel_rfl) (by rfl) (by kernel_rfl) ?_; rw [HW5.out]))
    refine ⟨⟨fun z => left z && !z.sameKey kl, cnt1, ?_, ?_, B5⟩, ?_⟩
    ·rw [hfl]; exact hrg5
    ·rw [hfl]; exact T5
    ·rw [hrg5.left_eq, hrg.out.left_eq]; exact hlt
   ·have hd' : g.ends ≤ now := by omega
    have hfl := flG_drop hKs.out hl hd
    have rt' : tb ≠ w.heap.size := fun e => rt e.symm
    have KD : Hid _ := drop_rng tb mb w.heap.size G.length cnt1 _ s.most s.room s.life now _ _ g kl x n8 w5 T5 hrg5 hkey hv2 gs0 hge hle hne rt'
    clear hd
    go_wp2_with (first
     | (refine wpList_store_row rfl _ _ _ rfl w1.heap.size x (by rfl) (by rfl) _ _ N3 (by rw [n8]; kernel_rfl) (by rw [n8]; rfl) n1 ?_; rw [HW4.out])
     | (refine wpList_store_row rfl _ _ _ rfl w2.heap.size g.v (by rfl) (by rfl) _ _ G4 (by kernel_rfl) (by rfl) (by kernel_rfl) ?_; rw [HW5.out])
     | (refine wpList_load_row rfl _ _ rfl w1.heap.size (by rfl) _ _ _ _ N5 Try.underlying72 rfl (by rw [n8]; kernel_rfl) ?_))
    refine Calls.mono KD.out ?_
    rintro e w6 ⟨rfl, T6, ⟨cnt6, hrg6, l6⟩, B6⟩
    rw [Maps.strike_twice] at hrg6
    rw [toD_del] at hrg6
    go_wp2
    refine ⟨⟨fun z => left z && !z.sameKey kl, cnt6, ?_, ?_, ?_⟩, ?_⟩
    ·rw [hfl]; exact hrg6
    ·rw [hfl]
     have e2 : sizes (absG (flG G now left)) - g.size = sizes (absG (strike kl (flG G now left))) := by omega
     rw [e2] at T6
     exact T6
    ·exact B5.trans B6 (fun _ _ h => h)
    ·rw [hrg6.left_eq, hrg.out.left_eq]; exact Nat.lt_of_le_of_lt l6 hlt
end Go.Proofs.Ytkeeidfpgfdldaa
