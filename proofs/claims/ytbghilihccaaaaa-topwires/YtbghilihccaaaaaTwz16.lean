/- Texts joined: FgP -/
import Derived.Test.YtbghilihccaaaaaTwz15
namespace Go.Proofs.Ytbghilihccaaaaa
open Go.RowKit
set_option linter.unusedVariables false
set_option linter.unusedSimpArgs false
theorem look1_G {w : World} {b n : Nat} {D : DataW Value} (h : OwnsG w b n D) {key : Value} {kl : Lit} (hk : keyOf Try.prog 72 key = some kl) {v : Value} (hv : D.atKey kl (.held (.agg zeroG.v)) = .held v) :
    (Instr.lookup 62 (.map (some b)) key false).run Try.prog w = .ok v w := by
  obtain ⟨v', ps, h1, h2⟩ := World.ownsMap.lookup h keyGram Try.underlying62 (zero_gram w) (zd := .held (.agg zeroG.v)) (zp := []) rfl hk
  simp only [heldElem, Option.some.injEq, Prod.mk.injEq] at h2
  have e : v' = v := by
    have := h2.1.trans hv
    injection this
  rw [← e]; exact h1
theorem yieldsIf_look {ops : Array Oper} {S : World → Prop} {o : Oper} {ac : Act} (hgd : o.guard = none) (m x : Operand) (ho : o.op = Op.lookup 62 m x false) (b n : Nat) (D : DataW Value) (key : Value) (kl : Lit) (hm : ac.eval m = .map (some b)) (hx : ac.eval x = key)
    (hS : ∀ w, S w → OwnsG w b n D) (hk : keyOf Try.prog 72 key = some kl) (v : Value) (hv : D.atKey kl (.held (.agg zeroG.v)) = .held v) : YieldsIf Try.prog ops S o v ac := by
  refine .inl ⟨by simp [Region.wanted, hgd], fun w hw => ?_⟩
  have hl := look1_G (hS w hw) hk hv
  simp [execOp, ho, hm, hx, hl, Result.andThen]
theorem But.turned {F : Nat → Prop} {a b c : World} {m : Nat} (h : But F a b) (k : b.mapTurned c m) (hm : F m ∨ a.heap.size ≤ m) : But F a c := h.grown k.grown (fun n hn => by cases hn; exact hm)
theorem Blk.turned {W W' : World} {g m : Nat} {t : TypeId} {cs : Array Value} (h : Blk W g t cs) (k : W.mapTurned W' m) (hn : g ≠ m) : Blk W' g t cs :=
  (k.grown.block g h.lt (fun e => hn (by injection e))).trans h
theorem step_delete {ops : Array Oper} {o : Oper} {ac : Act} {K : Act → World → Prop} {Q : Exit → Act → World → Prop} {Z : Prop} {w : World} (hgd : o.guard = none) (m x : Operand) (ho : o.op = Op.call { callee := Callee.builtin Builtin.delete, args := #[m, x], argTypes := #[62, 72] })
    (b n : Nat) (D : DataW Value) (key : Value) (kl : Lit) (hm : ac.eval m = .map (some b)) (hx : ac.eval x = key) (hS : OwnsG w b n D) (hk : keyOf Try.prog 72 key = some kl)
    (h : ∀ w', OwnsG w' b n (D.del kl) → w.mapTurned w' b → K (ac.put o.dst (.tuple #[])) w') :
    if Region.wanted o (yielded ops ac.tmps) = true then Oper.wp Try.prog o ac w K Q else Z := by
  have hw : Region.wanted o (yielded ops ac.tmps) = true := by simp [Region.wanted, hgd]
  rw [if_pos hw]
  obtain ⟨w', h1, h2, h3⟩ := drop_G hS hk o.type
  unfold Oper.wp execOp
  simp only [ho, resolve, invoke, builtin, Sem.run_bind, Sem.run_pure, Result.andThen_ok, List.map_toArray, List.map_cons, List.map_nil, hm, hx, h1]
  exact h w' h2 h3
set_option maxRecDepth 100000 in
set_option maxHeartbeats 4000000 in
theorem drop_any (tb mb n : Nat) (most room life now by_ : Int) (D : DataW Value) (g : Gm) (kl : Lit) (NV : Array Value) (hNs : NV.size = 8) (w : World) (hb : Blk w tb 64 #[.bool true, .int .i64 most, .int .i64 room, .int .i64 life, .int .i64 now, .int .i64 by_, .map (some mb)]) (hm : OwnsG w mb n D) (hk : keyOf Try.prog 72 (.agg NV) = some kl) (hv : D.atKey kl (.held (.agg zeroG.v)) = .held (.agg g.v))
    (h0 : 0 ≤ g.size) (h1 : g.size ≤ by_) (h2 : by_ ≤ 1048576) (hne : tb ≠ mb) :
    Calls Try.prog 30 #[.pointer (some ⟨tb, 0, none⟩), .agg NV] w fun e w' => e = .returned (.tuple #[]) ∧ Blk w' tb 64 #[.bool true, .int .i64 most, .int .i64 room, .int .i64 life, .int .i64 now, .int .i64 (by_ - g.size), .map (some mb)] ∧ OwnsG w' mb n (D.del kl) ∧ But (fun k => k = tb ∨ k = mb) w w' := by
  obtain ⟨W1, hW1⟩ : ∃ W, w.alloc (.cells NV 72) = W := ⟨_, rfl⟩
  have k1 := bel_nw hW1
  have N1 := blk_nw hW1
  have T1 := hb.al hW1
  have M1 : OwnsG W1 mb n D := by rw [← hW1]; exact hm.alloc _
  have hlt : tb < w.heap.size := hb.lt
  have hml : mb < w.heap.size := hm.lt
  have bW : But (fun k => k = tb ∨ k = mb) w W1 := But.of_below k1 _
  obtain ⟨SZ, hSZ⟩ : ∃ s, by_ - g.size = s := ⟨_, rfl⟩
  have wS : IntKind.i64.wrap SZ = SZ := wraps_i64 _ (by omega) (by omega)
  have HV : Hid (D.atKey kl (.held (.agg zeroG.v)) = .held (.agg g.v)) := hv
  have HK : Hid (keyOf Try.prog 72 (.agg NV) = some kl) := hk
  have tne : w.heap.size ≠ tb := by omega
  have mne : w.heap.size ≠ mb := by omega
  clear hb hm hv hk
  go_enter Try.func30, Try.ntmps30
  go_wp2_with fail
  have Nd := N1.drew
  have Td := T1.drew
  have Md : OwnsG W1.drew mb n D := M1.drew
  have bd : But (fun k => k = tb ∨ k = mb) w W1.drew := bW.below (Below.refl _ _).drew
  have c6 := Td.cell 6 (.map (some mb)) rfl
  refine wp_region_noPanic ?_
  refine wp_region_held_drew (S := fun w' => Blk w' w.heap.size 72 NV ∧ w'.cell? ⟨tb, 6, none⟩ = some (.map (some mb)) ∧ OwnsG w' mb n D) (by kernel_rfl) (by exact ⟨Nd, c6, Md⟩) (fun hHeld => ?_)
  generalize W1.drew = V1 at Nd Td Md bd c6 hHeld ⊢
  have e5 := Td.cell 5 (.int .i64 by_) rfl
  have z5 := Td.frozen 5
  refine wpAnyH_take (i := 0) (oi := { dst := some 4, op := Op.move (.tmp 0), type := 25, pos := "frag.go:137", after := #[], guard := none }) (v := (.pointer (some ⟨tb, 0, none⟩))) rfl (by kernel_rfl) (by kernel_rfl) (by kernel_rfl) (fun _ _ _ h => h) (Or.inl ⟨by rfl, ?_⟩) hHeld ?_
  · intro w9 hSw
    try dsimp only at hSw
    go_simp
  try simp only [Act.put, List.setIfInBounds_toArray, List.set_cons_zero, List.set_cons_succ]
  refine wpAnyH_take (i := 1) (oi := { dst := some 5, op := Op.nilCheck (.tmp 4), type := 0, pos := "frag.go:137", after := #[{ on := 0, ground := Ground.data }], guard := none }) (v := (.pointer (some ⟨tb, 0, none⟩))) rfl (by kernel_rfl) (by kernel_rfl) (by kernel_rfl) (fun _ _ _ h => h) (Or.inl ⟨by rfl, ?_⟩) hHeld ?_
  · intro w9 hSw
    try dsimp only at hSw
    go_simp
  try simp only [Act.put, List.setIfInBounds_toArray, List.set_cons_zero, List.set_cons_succ]
  refine wpAnyH_take (i := 2) (oi := { dst := some 6, op := Op.fieldAddr 64 (.tmp 5) 5, type := 0, pos := "frag.go:137", after := #[{ on := 1, ground := Ground.data }], guard := none }) (v := (.pointer (some ⟨tb, 5, none⟩))) rfl (by kernel_rfl) (by kernel_rfl) (by kernel_rfl) (fun _ _ _ h => h) (Or.inl ⟨by rfl, ?_⟩) hHeld ?_
  · intro w9 hSw
    try dsimp only at hSw
    go_simp
  try simp only [Act.put, List.setIfInBounds_toArray, List.set_cons_zero, List.set_cons_succ]
  refine wpAnyH_take (i := 4) (oi := { dst := some 8, op := Op.move (.tmp 0), type := 25, pos := "frag.go:137", after := #[], guard := none }) (v := (.pointer (some ⟨tb, 0, none⟩))) rfl (by kernel_rfl) (by kernel_rfl) (by kernel_rfl) (fun _ _ _ h => h) (Or.inl ⟨by rfl, ?_⟩) hHeld ?_
  · intro w9 hSw
    try dsimp only at hSw
    go_simp
  try simp only [Act.put, List.setIfInBounds_toArray, List.set_cons_zero, List.set_cons_succ]
  refine wpAnyH_take (i := 5) (oi := { dst := some 9, op := Op.nilCheck (.tmp 8), type := 0, pos := "frag.go:137", after := #[{ on := 4, ground := Ground.data }], guard := none }) (v := (.pointer (some ⟨tb, 0, none⟩))) rfl (by kernel_rfl) (by kernel_rfl) (by kernel_rfl) (fun _ _ _ h => h) (Or.inl ⟨by rfl, ?_⟩) hHeld ?_
  · intro w9 hSw
    try dsimp only at hSw
    go_simp
  try simp only [Act.put, List.setIfInBounds_toArray, List.set_cons_zero, List.set_cons_succ]
  refine wpAnyH_take (i := 6) (oi := { dst := some 10, op := Op.fieldAddr 64 (.tmp 9) 6, type := 0, pos := "frag.go:137", after := #[{ on := 5, ground := Ground.data }], guard := none }) (v := (.pointer (some ⟨tb, 6, none⟩))) rfl (by kernel_rfl) (by kernel_rfl) (by kernel_rfl) (fun _ _ _ h => h) (Or.inl ⟨by rfl, ?_⟩) hHeld ?_
  · intro w9 hSw
    try dsimp only at hSw
    go_simp
  try simp only [Act.put, List.setIfInBounds_toArray, List.set_cons_zero, List.set_cons_succ]
  refine wpAnyH_take (i := 7) (oi := { dst := some 11, op := Op.load 62 (.tmp 10), type := 62, pos := "frag.go:137", after := #[{ on := 6, ground := Ground.data }], guard := none }) (v := (.map (some mb))) rfl (by kernel_rfl) (by kernel_rfl) (by kernel_rfl) (fun _ _ _ h => h) (Or.inl ⟨by rfl, ?_⟩) hHeld ?_
  · intro w9 hSw
    try dsimp only at hSw
    have q9 := hSw.2.1
    go_simp
  try simp only [Act.put, List.setIfInBounds_toArray, List.set_cons_zero, List.set_cons_succ]
  refine wpAnyH_take (i := 8) (oi := { dst := some 12, op := Op.load 72 (.tmp 3), type := 72, pos := "frag.go:137", after := #[], guard := none }) (v := (.agg NV)) rfl (by kernel_rfl) (by kernel_rfl) (by kernel_rfl) (fun _ _ _ h => h) (yieldsIf_blk rfl _ _ rfl w.heap.size (by rfl) _ (fun _ hSw => hSw.1) Try.underlying72 (by rw [hNs]; kernel_rfl)) hHeld ?_
  try simp only [Act.put, List.setIfInBounds_toArray, List.set_cons_zero, List.set_cons_succ]
  refine wpAnyH_take (i := 9) (oi := { dst := some 13, op := Op.lookup 62 (.tmp 11) (.tmp 12) false, type := 75, pos := "frag.go:137", after := #[{ on := 7, ground := Ground.data }, { on := 8, ground := Ground.data }], guard := none }) (v := (.agg g.v)) rfl (by kernel_rfl) (by kernel_rfl) (by kernel_rfl) (fun _ _ _ h => h) (yieldsIf_look rfl _ _ rfl mb n D _ kl (by rfl) (by rfl) (fun _ hSw => hSw.2.2) HK.out _ HV.out) hHeld ?_
  try simp only [Act.put, List.setIfInBounds_toArray, List.set_cons_zero, List.set_cons_succ]
  refine wpAnyH_take (i := 10) (oi := { dst := some 14, op := Op.field 75 (.tmp 13) 4, type := 3, pos := "frag.go:137", after := #[{ on := 9, ground := Ground.data }], guard := none }) (v := (.int .i64 g.size)) rfl (by kernel_rfl) (by kernel_rfl) (by kernel_rfl) (fun _ _ _ h => h) (Or.inl ⟨by rfl, ?_⟩) hHeld ?_
  · intro w9 hSw
    try dsimp only at hSw
    go_simp
    kernel_rfl
  try simp only [Act.put, List.setIfInBounds_toArray, List.set_cons_zero, List.set_cons_succ]
  refine wpAnyH_ready (rs := [3]) (by kernel_rfl) (by simp) ?_
  refine AllReadyH.cons (o := { dst := some 7, op := Op.load 3 (.tmp 6), type := 3, pos := "frag.go:137", after := #[{ on := 2, ground := Ground.data }], guard := none }) rfl (fun K hK => ?_) AllReadyH.nil
  go_simp
  refine hK.out _ _ (by exact ⟨Nd, c6, Md⟩) (fun hHeld => ?_)
  clear hK K
  try simp only [Act.put, List.setIfInBounds_toArray, List.set_cons_zero, List.set_cons_succ]
  refine wpAnyH_take (i := 11) (oi := { dst := some 15, op := Op.binOp BinOp.sub 3 (.tmp 7) (.tmp 14) 3, type := 3, pos := "frag.go:137", after := #[{ on := 3, ground := Ground.data }, { on := 10, ground := Ground.data }], guard := none }) (v := (.int .i64 SZ)) rfl (by kernel_rfl) (by kernel_rfl) (by kernel_rfl) (fun _ _ _ h => h) (Or.inl ⟨by rfl, ?_⟩) hHeld ?_
  · intro w9 hSw
    try dsimp only at hSw
    go_simp
  try simp only [Act.put, List.setIfInBounds_toArray, List.set_cons_zero, List.set_cons_succ]
  refine wpAnyH_take (i := 12) (oi := { dst := some 16, op := Op.nilCheck (.tmp 4), type := 0, pos := "frag.go:137", after := #[{ on := 0, ground := Ground.data }, { on := 0, ground := Ground.phase }, { on := 1, ground := Ground.phase }, { on := 2, ground := Ground.phase }, { on := 3, ground := Ground.phase }, { on := 4, ground := Ground.phase }, { on := 5, ground := Ground.phase }, { on := 6, ground := Ground.phase }, { on := 7, ground := Ground.phase }, { on := 8, ground := Ground.phase }, { on := 9, ground := Ground.phase }, { on := 10, ground := Ground.phase }, { on := 11, ground := Ground.phase }], guard := none }) (v := (.pointer (some ⟨tb, 0, none⟩))) rfl (by kernel_rfl) (by kernel_rfl) (by kernel_rfl) (fun _ _ _ h => h) (Or.inl ⟨by rfl, ?_⟩) hHeld ?_
  · intro w9 hSw
    try dsimp only at hSw
    go_simp
  try simp only [Act.put, List.setIfInBounds_toArray, List.set_cons_zero, List.set_cons_succ]
  refine wpAnyH_take (i := 13) (oi := { dst := some 17, op := Op.fieldAddr 64 (.tmp 16) 5, type := 0, pos := "frag.go:137", after := #[{ on := 12, ground := Ground.data }, { on := 0, ground := Ground.phase }, { on := 1, ground := Ground.phase }, { on := 2, ground := Ground.phase }, { on := 3, ground := Ground.phase }, { on := 4, ground := Ground.phase }, { on := 5, ground := Ground.phase }, { on := 6, ground := Ground.phase }, { on := 7, ground := Ground.phase }, { on := 8, ground := Ground.phase }, { on := 9, ground := Ground.phase }, { on := 10, ground := Ground.phase }, { on := 11, ground := Ground.phase }], guard := none }) (v := (.pointer (some ⟨tb, 5, none⟩))) rfl (by kernel_rfl) (by kernel_rfl) (by kernel_rfl) (fun _ _ _ h => h) (Or.inl ⟨by rfl, ?_⟩) hHeld ?_
  · intro w9 hSw
    try dsimp only at hSw
    go_simp
  try simp only [Act.put, List.setIfInBounds_toArray, List.set_cons_zero, List.set_cons_succ]
  have T2 := Td.put 5 (.int .i64 SZ)
  have N2 := Nd.put_other Td tne 5 (.int .i64 SZ)
  have M2 : OwnsG (V1.setCell ⟨tb, 5, none⟩ (.int .i64 SZ)) mb n D := Md.setCell (a := ⟨tb, 5, none⟩) (fun h => hne h.symm) _
  have b2 := bd.setCell tb 5 (.inl (.inl rfl)) (.int .i64 SZ)
  have c62 := T2.cell 6 (.map (some mb)) rfl
  refine wpAnyH_ready (rs := [14]) (by kernel_rfl) (by simp) ?_
  refine AllReadyH.cons (o := { dst := none, op := Op.store 3 (.tmp 17) (.tmp 15), type := 0, pos := "frag.go:137", after := #[{ on := 13, ground := Ground.data }, { on := 11, ground := Ground.data }, { on := 0, ground := Ground.phase }, { on := 1, ground := Ground.phase }, { on := 2, ground := Ground.phase }, { on := 3, ground := Ground.phase }, { on := 4, ground := Ground.phase }, { on := 5, ground := Ground.phase }, { on := 6, ground := Ground.phase }, { on := 7, ground := Ground.phase }, { on := 8, ground := Ground.phase }, { on := 9, ground := Ground.phase }, { on := 10, ground := Ground.phase }, { on := 11, ground := Ground.phase }], guard := none }) rfl (fun K hK => ?_) AllReadyH.nil
  go_simp
  refine hK.out _ _ (by exact ⟨N2, c62, M2⟩) (fun hHeld => ?_)
  clear hK K hHeld
  try simp only [Act.put, List.setIfInBounds_toArray, List.set_cons_zero, List.set_cons_succ]
  refine wpAnyH_done (by kernel_rfl) ?_ _
  refine NoPanic.normal ?_
  generalize World.setCell _ _ _ = V2 at T2 N2 M2 b2 c62 ⊢
  clear Nd Td Md bd c6 e5 z5
  go_wp2_with fail
  have Nd := N2.drew
  have Td := T2.drew
  have Md : OwnsG V2.drew mb n D := M2.drew
  have bd : But (fun k => k = tb ∨ k = mb) w V2.drew := b2.below (Below.refl _ _).drew
  have c6 := Td.cell 6 (.map (some mb)) rfl
  refine wp_region_noPanic ?_
  refine wp_region_held_drew (S := fun w' => Blk w' w.heap.size 72 NV ∧ w'.cell? ⟨tb, 6, none⟩ = some (.map (some mb))) (by kernel_rfl) (by exact ⟨Nd, c6⟩) (fun hHeld => ?_)
  generalize V2.drew = V3 at Nd Td Md bd c6 hHeld ⊢
  clear N2 T2 M2 b2 c62
  refine wpAnyH_take (i := 0) (oi := { dst := some 18, op := Op.move (.tmp 0), type := 25, pos := "frag.go:138", after := #[], guard := none }) (v := (.pointer (some ⟨tb, 0, none⟩))) rfl (by kernel_rfl) (by kernel_rfl) (by kernel_rfl) (fun _ _ _ h => h) (Or.inl ⟨by rfl, ?_⟩) hHeld ?_
  · intro w9 hSw
    try dsimp only at hSw
    go_simp
  try simp only [Act.put, List.setIfInBounds_toArray, List.set_cons_zero, List.set_cons_succ]
  refine wpAnyH_take (i := 1) (oi := { dst := some 19, op := Op.nilCheck (.tmp 18), type := 0, pos := "frag.go:138", after := #[{ on := 0, ground := Ground.data }], guard := none }) (v := (.pointer (some ⟨tb, 0, none⟩))) rfl (by kernel_rfl) (by kernel_rfl) (by kernel_rfl) (fun _ _ _ h => h) (Or.inl ⟨by rfl, ?_⟩) hHeld ?_
  · intro w9 hSw
    try dsimp only at hSw
    go_simp
  try simp only [Act.put, List.setIfInBounds_toArray, List.set_cons_zero, List.set_cons_succ]
  refine wpAnyH_take (i := 2) (oi := { dst := some 20, op := Op.fieldAddr 64 (.tmp 19) 6, type := 0, pos := "frag.go:138", after := #[{ on := 1, ground := Ground.data }], guard := none }) (v := (.pointer (some ⟨tb, 6, none⟩))) rfl (by kernel_rfl) (by kernel_rfl) (by kernel_rfl) (fun _ _ _ h => h) (Or.inl ⟨by rfl, ?_⟩) hHeld ?_
  · intro w9 hSw
    try dsimp only at hSw
    go_simp
  try simp only [Act.put, List.setIfInBounds_toArray, List.set_cons_zero, List.set_cons_succ]
  refine wpAnyH_take (i := 3) (oi := { dst := some 21, op := Op.load 62 (.tmp 20), type := 62, pos := "frag.go:138", after := #[{ on := 2, ground := Ground.data }], guard := none }) (v := (.map (some mb))) rfl (by kernel_rfl) (by kernel_rfl) (by kernel_rfl) (fun _ _ _ h => h) (Or.inl ⟨by rfl, ?_⟩) hHeld ?_
  · intro w9 hSw
    try dsimp only at hSw
    have q9 := hSw.2
    go_simp
  try simp only [Act.put, List.setIfInBounds_toArray, List.set_cons_zero, List.set_cons_succ]
  refine wpAnyH_take (i := 4) (oi := { dst := some 22, op := Op.load 72 (.tmp 3), type := 72, pos := "frag.go:138", after := #[], guard := none }) (v := (.agg NV)) rfl (by kernel_rfl) (by kernel_rfl) (by kernel_rfl) (fun _ _ _ h => h) (yieldsIf_blk rfl _ _ rfl w.heap.size (by rfl) _ (fun _ hSw => hSw.1) Try.underlying72 (by rw [hNs]; kernel_rfl)) hHeld ?_
  try simp only [Act.put, List.setIfInBounds_toArray, List.set_cons_zero, List.set_cons_succ]
  refine wpAnyH_ready (rs := [5]) (by kernel_rfl) (by simp) ?_
  refine AllReadyH.cons (o := { dst := none, op := Op.call { callee := Callee.builtin Builtin.delete, args := #[.tmp 21, .tmp 22], argTypes := #[62, 72] }, type := 0, pos := "frag.go:138", after := #[{ on := 3, ground := Ground.data }, { on := 4, ground := Ground.data }], guard := none }) rfl (fun K hK => ?_) AllReadyH.nil
  refine step_delete rfl _ _ rfl mb n D _ kl (by rfl) (by rfl) Md HK.out ?_
  intro W5 M5 t5
  have T5 := Td.turned t5 hne
  have N5 := Nd.turned t5 mne
  refine hK.out _ _ (by exact ⟨N5, T5.cell 6 (.map (some mb)) rfl⟩) (fun hHeld => ?_)
  have b5 := bd.turned t5 (.inl (.inr rfl))
  clear hK K hHeld
  try simp only [Act.put, List.setIfInBounds_toArray, List.set_cons_zero, List.set_cons_succ]
  refine wpAnyH_done (by kernel_rfl) ?_ _
  refine NoPanic.normal ?_
  go_wp2
  go_end0
  exact ⟨rfl, by first | exact T5 | (rw [hSZ]; exact T5), M5, b5⟩
end Go.Proofs.Ytbghilihccaaaaa
