/- Segments: the packet that an error is about; ICMP. -/
import Derived.Test.YtgdpcomcndidcaaSgqB
namespace Go.Proofs.Ytgdpcomcndidcaa
open Go.RowKit
set_option linter.unusedVariables false
set_option linter.unusedSimpArgs false

set_option maxRecDepth 100000 in
set_option maxHeartbeats 4000000 in
theorem inner6_n1 (bk off dc : Nat) (b : List Int) (w : World) (h : Row w (some ⟨bk, off, none⟩) b) (hll : b.length ≤ 140737488351232) (hc : b.length ≤ dc) (hcm : dc ≤ 9223372036854775807) (hne : ¬ b.length = 0) (h4 : b.length < 40) :
    Calls Try.prog 85 #[.slice (some ⟨bk, off, none⟩) b.length dc] w fun e w' => e = .returned (.tuple #[.agg (tpv ((inner6 b).getD zTp)), .bool (inner6 b).isSome]) ∧ Below w.heap.size w w' := by
  obtain ⟨W1, hW1⟩ : ∃ W1, w.alloc (.cells #[.int .i64 0, .int .i64 0, .int .i64 0, .int .u64 0, .int .u64 0, .int .i64 0, .int .u64 0, .int .u64 0, .int .i64 0, .int .i64 0] 26) = W1 := ⟨_, rfl⟩
  have b1 : Below w.heap.size w W1 := by rw [← hW1]; exact (Below.refl _ _).alloc (Nat.le_refl _) _
  have B1 : Blk W1 w.heap.size 26 #[.int .i64 0, .int .i64 0, .int .i64 0, .int .u64 0, .int .u64 0, .int .i64 0, .int .u64 0, .int .u64 0, .int .i64 0, .int .i64 0] := by rw [← hW1]; exact blk_new _ _ _
  have eN : inner6 b = none := by
    unfold inner6
    rw [if_pos h4]
  rw [eN]
  have h4' : (b.length : Int) < 40 := by omega
  clear eN h4
  have hbz : (Instr.build 26 #[]).run Try.prog W1 = .ok (.agg #[.int .i64 0, .int .i64 0, .int .i64 0, .int .u64 0, .int .u64 0, .int .i64 0, .int .u64 0, .int .u64 0, .int .i64 0, .int .i64 0]) W1 := by kernel_rfl
  go_enter Try.func85, Try.ntmps85
  have Bf := B1.set #[.int .i64 0, .int .i64 0, .int .i64 0, .int .u64 0, .int .u64 0, .int .i64 0, .int .u64 0, .int .u64 0, .int .i64 0, .int .i64 0]
  have bf := below_setRow b1 (Nat.le_refl _) #[.int .i64 0, .int .i64 0, .int .i64 0, .int .u64 0, .int .u64 0, .int .i64 0, .int .u64 0, .int .u64 0, .int .i64 0, .int .i64 0]
  go_wp2_with (first
    | (refine wpList_build _ rfl _ _ rfl _ (by rfl) _ hbz ?_)
    | (refine wpList_store_row rfl _ _ _ rfl w.heap.size #[.int .i64 0, .int .i64 0, .int .i64 0, .int .u64 0, .int .u64 0, .int .i64 0, .int .u64 0, .int .u64 0, .int .i64 0, .int .i64 0] (by rfl) (by rfl) _ _ B1 (by kernel_rfl) (by rfl) (by kernel_rfl) ?_))
  exact ret_cell_tmp (k := 2) (j := 3) Try.f85 (by kernel_rfl) Bf Try.underlying26 (by kernel_rfl) (by rfl) (by rfl) rfl ⟨rfl, bf⟩

set_option maxRecDepth 100000 in
set_option maxHeartbeats 4000000 in
theorem inner6_n2 (bk off dc : Nat) (b : List Int) (w : World) (h : Row w (some ⟨bk, off, none⟩) b) (hll : b.length ≤ 140737488351232) (hc : b.length ≤ dc) (hcm : dc ≤ 9223372036854775807) (hne : ¬ b.length = 0) (h4 : ¬ b.length < 40) (h5 : wE (b.getD 6 0) (b.drop 40) ≠ 0) :
    Calls Try.prog 85 #[.slice (some ⟨bk, off, none⟩) b.length dc] w fun e w' => e = .returned (.tuple #[.agg (tpv ((inner6 b).getD zTp)), .bool (inner6 b).isSome]) ∧ Below w.heap.size w w' := by
  obtain ⟨W1, hW1⟩ : ∃ W1, w.alloc (.cells #[.int .i64 0, .int .i64 0, .int .i64 0, .int .u64 0, .int .u64 0, .int .i64 0, .int .u64 0, .int .u64 0, .int .i64 0, .int .i64 0] 26) = W1 := ⟨_, rfl⟩
  have b1 : Below w.heap.size w W1 := by rw [← hW1]; exact (Below.refl _ _).alloc (Nat.le_refl _) _
  have B1 : Blk W1 w.heap.size 26 #[.int .i64 0, .int .i64 0, .int .i64 0, .int .u64 0, .int .u64 0, .int .i64 0, .int .u64 0, .int .u64 0, .int .i64 0, .int .i64 0] := by rw [← hW1]; exact blk_new _ _ _
  have eN : inner6 b = none := by
    unfold inner6
    rw [if_neg h4, if_pos (Or.inl h5)]
  rw [eN]
  clear eN
  have h40' : ¬ (b.length : Int) < 40 := by omega
  obtain ⟨x6, e6⟩ : ∃ x, b.getD 6 0 = x := ⟨_, rfl⟩
  have q6 := h.bytes.get 6
  obtain ⟨bk', off', ee, hcl⟩ := h.cells (by omega)
  cases ee
  have y6 := kept (b := bk) (o := off + 6) b1 (hcl 6 (by omega))
  rw [e6] at y6 q6
  have i6 : (6 : Int) < (b.length : Int) := by omega
  have wx6 : IntKind.i64.wrap x6 = x6 := wraps_i64 _ (by omega) (by omega)
  have n40 : 40 ≤ b.length := by omega
  have jh2 : (40 : Int) ≤ (b.length : Int) := by omega
  obtain ⟨a3, ha3⟩ : ∃ a3 : Option Addr, (if dc = 40 then (some ⟨bk, off, none⟩) else Option.map (fun x : Addr => x.add 40) (some ⟨bk, off, none⟩)) = a3 := ⟨_, rfl⟩
  have H3 : Hid ((if dc = 40 then some (⟨bk, off, none⟩ : Addr) else some ⟨bk, off + 40, none⟩) = a3) := by
    have : (if dc = 40 then some (⟨bk, off, none⟩ : Addr) else some ⟨bk, off + 40, none⟩) = a3 := by
      rw [← ha3]
      simp [Go.WideShapes.add_plain]
    exact this
  obtain ⟨D, hD⟩ : ∃ D, b.drop 40 = D := ⟨_, rfl⟩
  have lD : D.length = b.length - 40 := by rw [← hD, List.length_drop]
  obtain ⟨S, hS⟩ : ∃ S, wS x6 D = S := ⟨_, rfl⟩
  obtain ⟨EE, hEE⟩ : ∃ S, wE x6 D = S := ⟨_, rfl⟩
  obtain ⟨NX, hNX⟩ : ∃ x, S.next = x := ⟨_, rfl⟩
  obtain ⟨RS, hRS⟩ : ∃ x, S.l = x := ⟨_, rfl⟩
  obtain ⟨EX, hEX⟩ : ∃ x, S.ex.length = x := ⟨_, rfl⟩
  have KW : Hid (∀ W, Row W (some ⟨bk, off, none⟩) b → Calls Try.prog 89 #[.int .i64 x6, .slice a3 (b.length - 40) (dc - 40)] W fun e w' => ∃ xa xc a' c', e = .returned (.tuple #[.int .i64 NX, .slice xa EX xc, .slice a' RS.length c', .int .i64 EE]) ∧ Fresh W w' a' c' RS) := fun W hW => by
    have hr := hW.drop dc 40 hc
    rw [ha3, hD] at hr
    have := walk6_any x6 a3 (dc - 40) D W hr (by omega) (by omega) (fun e => by
      rw [e] at ha3
      split at ha3
      · cases ha3
      · cases ha3)
    rw [lD, hS, hEE, hNX, hRS, hEX] at this
    refine Calls.mono this ?_
    rintro e w' ⟨xa, xc, a', c', h1, h2, _⟩
    exact ⟨xa, xc, a', c', h1, h2⟩
  rw [e6, hD, hEE] at h5
  have h5' : (EE != 0) = true := by simpa using h5
  clear h5
  clear hS hEE hNX hRS hEX hD lD ha3 hcl e6
  go_enter Try.func85, Try.ntmps85
  go_wp2_with fail
  refine wp_region_noPanic ?_
  refine wp_region_held_drew (S := fun w' => w'.cell? ⟨bk, off + 6, none⟩ = some (.int .u8 x6)) (by kernel_rfl) (by exact y6) (fun hHeld => ?_)
  refine wpAnyH_take (i := 0) (oi := { dst := some 14, op := Op.move (.tmp 0), type := 28, pos := "parse.go:169", after := #[], guard := none }) (v := (.slice (some ⟨bk, off, none⟩) b.length dc)) rfl (by kernel_rfl) (by kernel_rfl) (by kernel_rfl) (fun _ _ _ h => h) (Or.inl ⟨by rfl, ?_⟩) hHeld ?_
  · intro w9 hSw
    try dsimp only at hSw
    go_simp
  try simp only [Act.put, List.setIfInBounds_toArray, List.set_cons_zero, List.set_cons_succ]
  refine wpAnyH_take (i := 1) (oi := { dst := some 15, op := Op.indexAddr 28 (.tmp 14) (.const (.int .i64 6)), type := 0, pos := "parse.go:169", after := #[{ on := 0, ground := Ground.data }], guard := none }) (v := (.pointer (some ⟨bk, off + 6, none⟩))) rfl (by kernel_rfl) (by kernel_rfl) (by kernel_rfl) (fun _ _ _ h => h) (Or.inl ⟨by rfl, ?_⟩) hHeld ?_
  · intro w9 hSw
    try dsimp only at hSw
    go_simp
  try simp only [Act.put, List.setIfInBounds_toArray, List.set_cons_zero, List.set_cons_succ]
  refine wpAnyH_take (i := 2) (oi := { dst := some 16, op := Op.load 5 (.tmp 15), type := 5, pos := "parse.go:169", after := #[{ on := 1, ground := Ground.data }], guard := none }) (v := (.int .u8 x6)) rfl (by kernel_rfl) (by kernel_rfl) (by kernel_rfl) (fun _ _ _ h => h) (Or.inl ⟨by rfl, ?_⟩) hHeld ?_
  · intro w9 hSw
    try dsimp only at hSw
    go_simp
  try simp only [Act.put, List.setIfInBounds_toArray, List.set_cons_zero, List.set_cons_succ]
  refine wpAnyH_take (i := 3) (oi := { dst := some 17, op := Op.convert 5 3 (.tmp 16), type := 3, pos := "parse.go:169", after := #[{ on := 2, ground := Ground.data }], guard := none }) (v := (.int .i64 x6)) rfl (by kernel_rfl) (by kernel_rfl) (by kernel_rfl) (fun _ _ _ h => h) (Or.inl ⟨by rfl, ?_⟩) hHeld ?_
  · intro w9 hSw
    try dsimp only at hSw
    go_simp
  try simp only [Act.put, List.setIfInBounds_toArray, List.set_cons_zero, List.set_cons_succ]
  refine wpAnyH_take (i := 4) (oi := { dst := some 18, op := Op.move (.tmp 0), type := 28, pos := "parse.go:169", after := #[], guard := none }) (v := (.slice (some ⟨bk, off, none⟩) b.length dc)) rfl (by kernel_rfl) (by kernel_rfl) (by kernel_rfl) (fun _ _ _ h => h) (Or.inl ⟨by rfl, ?_⟩) hHeld ?_
  · intro w9 hSw
    try dsimp only at hSw
    go_simp
  try simp only [Act.put, List.setIfInBounds_toArray, List.set_cons_zero, List.set_cons_succ]
  refine wpAnyH_take (i := 5) (oi := { dst := some 19, op := Op.slice 28 (.tmp 18) (some (.const (.int .i64 40))) none none, type := 28, pos := "parse.go:169", after := #[{ on := 4, ground := Ground.data }], guard := none }) (v := (.slice a3 (b.length - 40) (dc - 40))) rfl (by kernel_rfl) (by kernel_rfl) (by kernel_rfl) (fun _ _ _ h => h) (Or.inl ⟨by rfl, ?_⟩) hHeld ?_
  · intro w9 hSw
    try dsimp only at hSw
    go_simp
    exact H3.out
  try simp only [Act.put, List.setIfInBounds_toArray, List.set_cons_zero, List.set_cons_succ]
  refine wpAnyH_ready (rs := [6]) (by kernel_rfl) (by simp) ?_
  refine AllReadyH.cons (o := { dst := some 20, op := Op.call { callee := Callee.value (.func 89), args := #[.tmp 17, .tmp 19], argTypes := #[3, 28] }, type := 107, pos := "parse.go:169", after := #[{ on := 3, ground := Ground.data }, { on := 5, ground := Ground.data }], guard := none }) rfl (fun K hK => ?_) AllReadyH.nil
  go_simp
  refine Calls.mono (KW.out _ (h.below b1.drew)) ?_
  rintro e W4 ⟨xa, xc, a4, c4, rfl, f4⟩
  have b4 : Below w.heap.size w W4 := b1.drew.trans (f4.below.mono b1.drew.size)
  have B4 := B1.drew.kept f4.below
  refine hK.out _ _ ?_ (fun hHeld => ?_)
  · exact kept (b := bk) (o := off + 6) f4.below y6
  clear hK K
  try simp only [Act.put, List.setIfInBounds_toArray, List.set_cons_zero, List.set_cons_succ]
  refine wpAnyH_take (i := 7) (oi := { dst := some 13, op := Op.move (.tmp 20), type := 107, pos := "parse.go:169", after := #[{ on := 6, ground := Ground.data }], guard := none }) (v := (.tuple #[.int .i64 NX, .slice xa EX xc, .slice a4 RS.length c4, .int .i64 EE])) rfl (by kernel_rfl) (by kernel_rfl) (by kernel_rfl) (fun _ _ _ h => h) (Or.inl ⟨by rfl, ?_⟩) hHeld ?_
  · intro w9 hSw
    try dsimp only at hSw
    go_simp
  try simp only [Act.put, List.setIfInBounds_toArray, List.set_cons_zero, List.set_cons_succ]
  refine wpAnyH_take (i := 8) (oi := { dst := some 21, op := Op.extract (.tmp 13) 0, type := 3, pos := "parse.go:169", after := #[{ on := 7, ground := Ground.data }], guard := none }) (v := (.int .i64 NX)) rfl (by kernel_rfl) (by kernel_rfl) (by kernel_rfl) (fun _ _ _ h => h) (Or.inl ⟨by rfl, ?_⟩) hHeld ?_
  · intro w9 hSw
    try dsimp only at hSw
    go_simp
  try simp only [Act.put, List.setIfInBounds_toArray, List.set_cons_zero, List.set_cons_succ]
  refine wpAnyH_take (i := 9) (oi := { dst := some 22, op := Op.extract (.tmp 13) 1, type := 34, pos := "parse.go:169", after := #[{ on := 7, ground := Ground.data }, { on := 12, ground := Ground.gcOnly Departure.lateStores }], guard := none }) (v := (.slice xa EX xc)) rfl (by kernel_rfl) (by kernel_rfl) (by kernel_rfl) (fun _ _ _ h => h) (Or.inl ⟨by rfl, ?_⟩) hHeld ?_
  · intro w9 hSw
    try dsimp only at hSw
    go_simp
  try simp only [Act.put, List.setIfInBounds_toArray, List.set_cons_zero, List.set_cons_succ]
  refine wpAnyH_take (i := 10) (oi := { dst := some 23, op := Op.extract (.tmp 13) 2, type := 28, pos := "parse.go:169", after := #[{ on := 7, ground := Ground.data }, { on := 13, ground := Ground.gcOnly Departure.lateStores }], guard := none }) (v := (.slice a4 RS.length c4)) rfl (by kernel_rfl) (by kernel_rfl) (by kernel_rfl) (fun _ _ _ h => h) (Or.inl ⟨by rfl, ?_⟩) hHeld ?_
  · intro w9 hSw
    try dsimp only at hSw
    go_simp
  try simp only [Act.put, List.setIfInBounds_toArray, List.set_cons_zero, List.set_cons_succ]
  refine wpAnyH_take (i := 11) (oi := { dst := some 24, op := Op.extract (.tmp 13) 3, type := 39, pos := "parse.go:169", after := #[{ on := 7, ground := Ground.data }, { on := 14, ground := Ground.gcOnly Departure.lateStores }], guard := none }) (v := (.int .i64 EE)) rfl (by kernel_rfl) (by kernel_rfl) (by kernel_rfl) (fun _ _ _ h => h) (Or.inl ⟨by rfl, ?_⟩) hHeld ?_
  · intro w9 hSw
    try dsimp only at hSw
    go_simp
  try simp only [Act.put, List.setIfInBounds_toArray, List.set_cons_zero, List.set_cons_succ]
  refine wpAnyH_take (i := 12) (oi := { dst := some 4, op := Op.assign (.tmp 21), type := 3, pos := "parse.go:169", after := #[{ on := 8, ground := Ground.data }, { on := 6, ground := Ground.chain }, { on := 0, ground := Ground.phase }, { on := 1, ground := Ground.phase }, { on := 2, ground := Ground.phase }, { on := 3, ground := Ground.phase }, { on := 4, ground := Ground.phase }, { on := 5, ground := Ground.phase }, { on := 6, ground := Ground.phase }, { on := 7, ground := Ground.phase }, { on := 8, ground := Ground.phase }, { on := 9, ground := Ground.textOnly Departure.lateStores }, { on := 10, ground := Ground.textOnly Departure.lateStores }, { on := 11, ground := Ground.textOnly Departure.lateStores }], guard := none }) (v := (.int .i64 NX)) rfl (by kernel_rfl) (by kernel_rfl) (by kernel_rfl) (fun _ _ _ h => h) (Or.inl ⟨by rfl, ?_⟩) hHeld ?_
  · intro w9 hSw
    try dsimp only at hSw
    go_simp
  try simp only [Act.put, List.setIfInBounds_toArray, List.set_cons_zero, List.set_cons_succ]
  refine wpAnyH_take (i := 13) (oi := { dst := some 5, op := Op.assign (.tmp 22), type := 34, pos := "parse.go:169", after := #[{ on := 9, ground := Ground.data }, { on := 12, ground := Ground.chain }, { on := 0, ground := Ground.phase }, { on := 1, ground := Ground.phase }, { on := 2, ground := Ground.phase }, { on := 3, ground := Ground.phase }, { on := 4, ground := Ground.phase }, { on := 5, ground := Ground.phase }, { on := 6, ground := Ground.phase }, { on := 7, ground := Ground.phase }, { on := 8, ground := Ground.phase }, { on := 9, ground := Ground.phase }, { on := 10, ground := Ground.textOnly Departure.lateStores }, { on := 11, ground := Ground.textOnly Departure.lateStores }, { on := 12, ground := Ground.phase }], guard := none }) (v := (.slice xa EX xc)) rfl (by kernel_rfl) (by kernel_rfl) (by kernel_rfl) (fun _ _ _ h => h) (Or.inl ⟨by rfl, ?_⟩) hHeld ?_
  · intro w9 hSw
    try dsimp only at hSw
    go_simp
  try simp only [Act.put, List.setIfInBounds_toArray, List.set_cons_zero, List.set_cons_succ]
  refine wpAnyH_take (i := 14) (oi := { dst := some 6, op := Op.assign (.tmp 23), type := 28, pos := "parse.go:169", after := #[{ on := 10, ground := Ground.data }, { on := 13, ground := Ground.chain }, { on := 0, ground := Ground.phase }, { on := 1, ground := Ground.phase }, { on := 2, ground := Ground.phase }, { on := 3, ground := Ground.phase }, { on := 4, ground := Ground.phase }, { on := 5, ground := Ground.phase }, { on := 6, ground := Ground.phase }, { on := 7, ground := Ground.phase }, { on := 8, ground := Ground.phase }, { on := 9, ground := Ground.phase }, { on := 10, ground := Ground.phase }, { on := 11, ground := Ground.textOnly Departure.lateStores }, { on := 12, ground := Ground.phase }, { on := 13, ground := Ground.phase }], guard := none }) (v := (.slice a4 RS.length c4)) rfl (by kernel_rfl) (by kernel_rfl) (by kernel_rfl) (fun _ _ _ h => h) (Or.inl ⟨by rfl, ?_⟩) hHeld ?_
  · intro w9 hSw
    try dsimp only at hSw
    go_simp
  try simp only [Act.put, List.setIfInBounds_toArray, List.set_cons_zero, List.set_cons_succ]
  refine wpAnyH_take (i := 15) (oi := { dst := some 7, op := Op.assign (.tmp 24), type := 39, pos := "parse.go:169", after := #[{ on := 11, ground := Ground.data }, { on := 14, ground := Ground.chain }, { on := 0, ground := Ground.phase }, { on := 1, ground := Ground.phase }, { on := 2, ground := Ground.phase }, { on := 3, ground := Ground.phase }, { on := 4, ground := Ground.phase }, { on := 5, ground := Ground.phase }, { on := 6, ground := Ground.phase }, { on := 7, ground := Ground.phase }, { on := 8, ground := Ground.phase }, { on := 9, ground := Ground.phase }, { on := 10, ground := Ground.phase }, { on := 11, ground := Ground.phase }, { on := 12, ground := Ground.phase }, { on := 13, ground := Ground.phase }, { on := 14, ground := Ground.phase }], guard := none }) (v := (.int .i64 EE)) rfl (by kernel_rfl) (by kernel_rfl) (by kernel_rfl) (fun _ _ _ h => h) (Or.inl ⟨by rfl, ?_⟩) hHeld ?_
  · intro w9 hSw
    try dsimp only at hSw
    go_simp
  try simp only [Act.put, List.setIfInBounds_toArray, List.set_cons_zero, List.set_cons_succ]
  refine wpAnyH_done (by kernel_rfl) ?_ _
  refine NoPanic.normal ?_
  have hbz : (Instr.build 26 #[]).run Try.prog W4 = .ok (.agg #[.int .i64 0, .int .i64 0, .int .i64 0, .int .u64 0, .int .u64 0, .int .i64 0, .int .u64 0, .int .u64 0, .int .i64 0, .int .i64 0]) W4 := by kernel_rfl
  have Bf := B4.set #[.int .i64 0, .int .i64 0, .int .i64 0, .int .u64 0, .int .u64 0, .int .i64 0, .int .u64 0, .int .u64 0, .int .i64 0, .int .i64 0]
  have bf := below_setRow b4 (Nat.le_refl _) #[.int .i64 0, .int .i64 0, .int .i64 0, .int .u64 0, .int .u64 0, .int .i64 0, .int .u64 0, .int .u64 0, .int .i64 0, .int .i64 0]
  go_wp2_with (first
    | (refine wpList_build _ rfl _ _ rfl _ (by rfl) _ hbz ?_)
    | (refine wpList_store_row rfl _ _ _ rfl w.heap.size #[.int .i64 0, .int .i64 0, .int .i64 0, .int .u64 0, .int .u64 0, .int .i64 0, .int .u64 0, .int .u64 0, .int .i64 0, .int .i64 0] (by rfl) (by rfl) _ _ B4 (by kernel_rfl) (by rfl) (by kernel_rfl) ?_))
  exact ret_cell_tmp (k := 2) (j := 3) Try.f85 (by kernel_rfl) Bf Try.underlying26 (by kernel_rfl) (by rfl) (by rfl) rfl ⟨rfl, bf⟩

set_option maxRecDepth 100000 in
set_option maxHeartbeats 4000000 in
theorem inner6_n3 (bk off dc : Nat) (b : List Int) (w : World) (h : Row w (some ⟨bk, off, none⟩) b) (hll : b.length ≤ 140737488351232) (hc : b.length ≤ dc) (hcm : dc ≤ 9223372036854775807) (hne : ¬ b.length = 0) (h4 : ¬ b.length < 40) (h5 : wE (b.getD 6 0) (b.drop 40) = 0) (h7 : (wS (b.getD 6 0) (b.drop 40)).l.length < 8) :
    Calls Try.prog 85 #[.slice (some ⟨bk, off, none⟩) b.length dc] w fun e w' => e = .returned (.tuple #[.agg (tpv ((inner6 b).getD zTp)), .bool (inner6 b).isSome]) ∧ Below w.heap.size w w' := by
  obtain ⟨W1, hW1⟩ : ∃ W1, w.alloc (.cells #[.int .i64 0, .int .i64 0, .int .i64 0, .int .u64 0, .int .u64 0, .int .i64 0, .int .u64 0, .int .u64 0, .int .i64 0, .int .i64 0] 26) = W1 := ⟨_, rfl⟩
  have b1 : Below w.heap.size w W1 := by rw [← hW1]; exact (Below.refl _ _).alloc (Nat.le_refl _) _
  have B1 : Blk W1 w.heap.size 26 #[.int .i64 0, .int .i64 0, .int .i64 0, .int .u64 0, .int .u64 0, .int .i64 0, .int .u64 0, .int .u64 0, .int .i64 0, .int .i64 0] := by rw [← hW1]; exact blk_new _ _ _
  have eN : inner6 b = none := by
    unfold inner6
    rw [if_neg h4, if_pos (Or.inr h7)]
  rw [eN]
  clear eN
  have h40' : ¬ (b.length : Int) < 40 := by omega
  obtain ⟨x6, e6⟩ : ∃ x, b.getD 6 0 = x := ⟨_, rfl⟩
  have q6 := h.bytes.get 6
  obtain ⟨bk', off', ee, hcl⟩ := h.cells (by omega)
  cases ee
  have y6 := kept (b := bk) (o := off + 6) b1 (hcl 6 (by omega))
  rw [e6] at y6 q6
  have i6 : (6 : Int) < (b.length : Int) := by omega
  have wx6 : IntKind.i64.wrap x6 = x6 := wraps_i64 _ (by omega) (by omega)
  have n40 : 40 ≤ b.length := by omega
  have jh2 : (40 : Int) ≤ (b.length : Int) := by omega
  obtain ⟨a3, ha3⟩ : ∃ a3 : Option Addr, (if dc = 40 then (some ⟨bk, off, none⟩) else Option.map (fun x : Addr => x.add 40) (some ⟨bk, off, none⟩)) = a3 := ⟨_, rfl⟩
  have H3 : Hid ((if dc = 40 then some (⟨bk, off, none⟩ : Addr) else some ⟨bk, off + 40, none⟩) = a3) := by
    have : (if dc = 40 then some (⟨bk, off, none⟩ : Addr) else some ⟨bk, off + 40, none⟩) = a3 := by
      rw [← ha3]
      simp [Go.WideShapes.add_plain]
    exact this
  obtain ⟨D, hD⟩ : ∃ D, b.drop 40 = D := ⟨_, rfl⟩
  have lD : D.length = b.length - 40 := by rw [← hD, List.length_drop]
  obtain ⟨S, hS⟩ : ∃ S, wS x6 D = S := ⟨_, rfl⟩
  obtain ⟨EE, hEE⟩ : ∃ S, wE x6 D = S := ⟨_, rfl⟩
  obtain ⟨NX, hNX⟩ : ∃ x, S.next = x := ⟨_, rfl⟩
  obtain ⟨RS, hRS⟩ : ∃ x, S.l = x := ⟨_, rfl⟩
  obtain ⟨EX, hEX⟩ : ∃ x, S.ex.length = x := ⟨_, rfl⟩
  have KW : Hid (∀ W, Row W (some ⟨bk, off, none⟩) b → Calls Try.prog 89 #[.int .i64 x6, .slice a3 (b.length - 40) (dc - 40)] W fun e w' => ∃ xa xc a' c', e = .returned (.tuple #[.int .i64 NX, .slice xa EX xc, .slice a' RS.length c', .int .i64 EE]) ∧ Fresh W w' a' c' RS) := fun W hW => by
    have hr := hW.drop dc 40 hc
    rw [ha3, hD] at hr
    have := walk6_any x6 a3 (dc - 40) D W hr (by omega) (by omega) (fun e => by
      rw [e] at ha3
      split at ha3
      · cases ha3
      · cases ha3)
    rw [lD, hS, hEE, hNX, hRS, hEX] at this
    refine Calls.mono this ?_
    rintro e w' ⟨xa, xc, a', c', h1, h2, _⟩
    exact ⟨xa, xc, a', c', h1, h2⟩
  rw [e6, hD, hEE] at h5
  rw [e6, hD, hS, hRS] at h7
  have h5' : (EE != 0) = false := by simpa using h5
  have h7' : (RS.length : Int) < 8 := by omega
  clear h5
  clear hS hEE hNX hRS hEX hD lD ha3 hcl e6
  go_enter Try.func85, Try.ntmps85
  go_wp2_with fail
  refine wp_region_noPanic ?_
  refine wp_region_held_drew (S := fun w' => w'.cell? ⟨bk, off + 6, none⟩ = some (.int .u8 x6)) (by kernel_rfl) (by exact y6) (fun hHeld => ?_)
  refine wpAnyH_take (i := 0) (oi := { dst := some 14, op := Op.move (.tmp 0), type := 28, pos := "parse.go:169", after := #[], guard := none }) (v := (.slice (some ⟨bk, off, none⟩) b.length dc)) rfl (by kernel_rfl) (by kernel_rfl) (by kernel_rfl) (fun _ _ _ h => h) (Or.inl ⟨by rfl, ?_⟩) hHeld ?_
  · intro w9 hSw
    try dsimp only at hSw
    go_simp
  try simp only [Act.put, List.setIfInBounds_toArray, List.set_cons_zero, List.set_cons_succ]
  refine wpAnyH_take (i := 1) (oi := { dst := some 15, op := Op.indexAddr 28 (.tmp 14) (.const (.int .i64 6)), type := 0, pos := "parse.go:169", after := #[{ on := 0, ground := Ground.data }], guard := none }) (v := (.pointer (some ⟨bk, off + 6, none⟩))) rfl (by kernel_rfl) (by kernel_rfl) (by kernel_rfl) (fun _ _ _ h => h) (Or.inl ⟨by rfl, ?_⟩) hHeld ?_
  · intro w9 hSw
    try dsimp only at hSw
    go_simp
  try simp only [Act.put, List.setIfInBounds_toArray, List.set_cons_zero, List.set_cons_succ]
  refine wpAnyH_take (i := 2) (oi := { dst := some 16, op := Op.load 5 (.tmp 15), type := 5, pos := "parse.go:169", after := #[{ on := 1, ground := Ground.data }], guard := none }) (v := (.int .u8 x6)) rfl (by kernel_rfl) (by kernel_rfl) (by kernel_rfl) (fun _ _ _ h => h) (Or.inl ⟨by rfl, ?_⟩) hHeld ?_
  · intro w9 hSw
    try dsimp only at hSw
    go_simp
  try simp only [Act.put, List.setIfInBounds_toArray, List.set_cons_zero, List.set_cons_succ]
  refine wpAnyH_take (i := 3) (oi := { dst := some 17, op := Op.convert 5 3 (.tmp 16), type := 3, pos := "parse.go:169", after := #[{ on := 2, ground := Ground.data }], guard := none }) (v := (.int .i64 x6)) rfl (by kernel_rfl) (by kernel_rfl) (by kernel_rfl) (fun _ _ _ h => h) (Or.inl ⟨by rfl, ?_⟩) hHeld ?_
  · intro w9 hSw
    try dsimp only at hSw
    go_simp
  try simp only [Act.put, List.setIfInBounds_toArray, List.set_cons_zero, List.set_cons_succ]
  refine wpAnyH_take (i := 4) (oi := { dst := some 18, op := Op.move (.tmp 0), type := 28, pos := "parse.go:169", after := #[], guard := none }) (v := (.slice (some ⟨bk, off, none⟩) b.length dc)) rfl (by kernel_rfl) (by kernel_rfl) (by kernel_rfl) (fun _ _ _ h => h) (Or.inl ⟨by rfl, ?_⟩) hHeld ?_
  · intro w9 hSw
    try dsimp only at hSw
    go_simp
  try simp only [Act.put, List.setIfInBounds_toArray, List.set_cons_zero, List.set_cons_succ]
  refine wpAnyH_take (i := 5) (oi := { dst := some 19, op := Op.slice 28 (.tmp 18) (some (.const (.int .i64 40))) none none, type := 28, pos := "parse.go:169", after := #[{ on := 4, ground := Ground.data }], guard := none }) (v := (.slice a3 (b.length - 40) (dc - 40))) rfl (by kernel_rfl) (by kernel_rfl) (by kernel_rfl) (fun _ _ _ h => h) (Or.inl ⟨by rfl, ?_⟩) hHeld ?_
  · intro w9 hSw
    try dsimp only at hSw
    go_simp
    exact H3.out
  try simp only [Act.put, List.setIfInBounds_toArray, List.set_cons_zero, List.set_cons_succ]
  refine wpAnyH_ready (rs := [6]) (by kernel_rfl) (by simp) ?_
  refine AllReadyH.cons (o := { dst := some 20, op := Op.call { callee := Callee.value (.func 89), args := #[.tmp 17, .tmp 19], argTypes := #[3, 28] }, type := 107, pos := "parse.go:169", after := #[{ on := 3, ground := Ground.data }, { on := 5, ground := Ground.data }], guard := none }) rfl (fun K hK => ?_) AllReadyH.nil
  go_simp
  refine Calls.mono (KW.out _ (h.below b1.drew)) ?_
  rintro e W4 ⟨xa, xc, a4, c4, rfl, f4⟩
  have b4 : Below w.heap.size w W4 := b1.drew.trans (f4.below.mono b1.drew.size)
  have B4 := B1.drew.kept f4.below
  refine hK.out _ _ ?_ (fun hHeld => ?_)
  · exact kept (b := bk) (o := off + 6) f4.below y6
  clear hK K
  try simp only [Act.put, List.setIfInBounds_toArray, List.set_cons_zero, List.set_cons_succ]
  refine wpAnyH_take (i := 7) (oi := { dst := some 13, op := Op.move (.tmp 20), type := 107, pos := "parse.go:169", after := #[{ on := 6, ground := Ground.data }], guard := none }) (v := (.tuple #[.int .i64 NX, .slice xa EX xc, .slice a4 RS.length c4, .int .i64 EE])) rfl (by kernel_rfl) (by kernel_rfl) (by kernel_rfl) (fun _ _ _ h => h) (Or.inl ⟨by rfl, ?_⟩) hHeld ?_
  · intro w9 hSw
    try dsimp only at hSw
    go_simp
  try simp only [Act.put, List.setIfInBounds_toArray, List.set_cons_zero, List.set_cons_succ]
  refine wpAnyH_take (i := 8) (oi := { dst := some 21, op := Op.extract (.tmp 13) 0, type := 3, pos := "parse.go:169", after := #[{ on := 7, ground := Ground.data }], guard := none }) (v := (.int .i64 NX)) rfl (by kernel_rfl) (by kernel_rfl) (by kernel_rfl) (fun _ _ _ h => h) (Or.inl ⟨by rfl, ?_⟩) hHeld ?_
  · intro w9 hSw
    try dsimp only at hSw
    go_simp
  try simp only [Act.put, List.setIfInBounds_toArray, List.set_cons_zero, List.set_cons_succ]
  refine wpAnyH_take (i := 9) (oi := { dst := some 22, op := Op.extract (.tmp 13) 1, type := 34, pos := "parse.go:169", after := #[{ on := 7, ground := Ground.data }, { on := 12, ground := Ground.gcOnly Departure.lateStores }], guard := none }) (v := (.slice xa EX xc)) rfl (by kernel_rfl) (by kernel_rfl) (by kernel_rfl) (fun _ _ _ h => h) (Or.inl ⟨by rfl, ?_⟩) hHeld ?_
  · intro w9 hSw
    try dsimp only at hSw
    go_simp
  try simp only [Act.put, List.setIfInBounds_toArray, List.set_cons_zero, List.set_cons_succ]
  refine wpAnyH_take (i := 10) (oi := { dst := some 23, op := Op.extract (.tmp 13) 2, type := 28, pos := "parse.go:169", after := #[{ on := 7, ground := Ground.data }, { on := 13, ground := Ground.gcOnly Departure.lateStores }], guard := none }) (v := (.slice a4 RS.length c4)) rfl (by kernel_rfl) (by kernel_rfl) (by kernel_rfl) (fun _ _ _ h => h) (Or.inl ⟨by rfl, ?_⟩) hHeld ?_
  · intro w9 hSw
    try dsimp only at hSw
    go_simp
  try simp only [Act.put, List.setIfInBounds_toArray, List.set_cons_zero, List.set_cons_succ]
  refine wpAnyH_take (i := 11) (oi := { dst := some 24, op := Op.extract (.tmp 13) 3, type := 39, pos := "parse.go:169", after := #[{ on := 7, ground := Ground.data }, { on := 14, ground := Ground.gcOnly Departure.lateStores }], guard := none }) (v := (.int .i64 EE)) rfl (by kernel_rfl) (by kernel_rfl) (by kernel_rfl) (fun _ _ _ h => h) (Or.inl ⟨by rfl, ?_⟩) hHeld ?_
  · intro w9 hSw
    try dsimp only at hSw
    go_simp
  try simp only [Act.put, List.setIfInBounds_toArray, List.set_cons_zero, List.set_cons_succ]
  refine wpAnyH_take (i := 12) (oi := { dst := some 4, op := Op.assign (.tmp 21), type := 3, pos := "parse.go:169", after := #[{ on := 8, ground := Ground.data }, { on := 6, ground := Ground.chain }, { on := 0, ground := Ground.phase }, { on := 1, ground := Ground.phase }, { on := 2, ground := Ground.phase }, { on := 3, ground := Ground.phase }, { on := 4, ground := Ground.phase }, { on := 5, ground := Ground.phase }, { on := 6, ground := Ground.phase }, { on := 7, ground := Ground.phase }, { on := 8, ground := Ground.phase }, { on := 9, ground := Ground.textOnly Departure.lateStores }, { on := 10, ground := Ground.textOnly Departure.lateStores }, { on := 11, ground := Ground.textOnly Departure.lateStores }], guard := none }) (v := (.int .i64 NX)) rfl (by kernel_rfl) (by kernel_rfl) (by kernel_rfl) (fun _ _ _ h => h) (Or.inl ⟨by rfl, ?_⟩) hHeld ?_
  · intro w9 hSw
    try dsimp only at hSw
    go_simp
  try simp only [Act.put, List.setIfInBounds_toArray, List.set_cons_zero, List.set_cons_succ]
  refine wpAnyH_take (i := 13) (oi := { dst := some 5, op := Op.assign (.tmp 22), type := 34, pos := "parse.go:169", after := #[{ on := 9, ground := Ground.data }, { on := 12, ground := Ground.chain }, { on := 0, ground := Ground.phase }, { on := 1, ground := Ground.phase }, { on := 2, ground := Ground.phase }, { on := 3, ground := Ground.phase }, { on := 4, ground := Ground.phase }, { on := 5, ground := Ground.phase }, { on := 6, ground := Ground.phase }, { on := 7, ground := Ground.phase }, { on := 8, ground := Ground.phase }, { on := 9, ground := Ground.phase }, { on := 10, ground := Ground.textOnly Departure.lateStores }, { on := 11, ground := Ground.textOnly Departure.lateStores }, { on := 12, ground := Ground.phase }], guard := none }) (v := (.slice xa EX xc)) rfl (by kernel_rfl) (by kernel_rfl) (by kernel_rfl) (fun _ _ _ h => h) (Or.inl ⟨by rfl, ?_⟩) hHeld ?_
  · intro w9 hSw
    try dsimp only at hSw
    go_simp
  try simp only [Act.put, List.setIfInBounds_toArray, List.set_cons_zero, List.set_cons_succ]
  refine wpAnyH_take (i := 14) (oi := { dst := some 6, op := Op.assign (.tmp 23), type := 28, pos := "parse.go:169", after := #[{ on := 10, ground := Ground.data }, { on := 13, ground := Ground.chain }, { on := 0, ground := Ground.phase }, { on := 1, ground := Ground.phase }, { on := 2, ground := Ground.phase }, { on := 3, ground := Ground.phase }, { on := 4, ground := Ground.phase }, { on := 5, ground := Ground.phase }, { on := 6, ground := Ground.phase }, { on := 7, ground := Ground.phase }, { on := 8, ground := Ground.phase }, { on := 9, ground := Ground.phase }, { on := 10, ground := Ground.phase }, { on := 11, ground := Ground.textOnly Departure.lateStores }, { on := 12, ground := Ground.phase }, { on := 13, ground := Ground.phase }], guard := none }) (v := (.slice a4 RS.length c4)) rfl (by kernel_rfl) (by kernel_rfl) (by kernel_rfl) (fun _ _ _ h => h) (Or.inl ⟨by rfl, ?_⟩) hHeld ?_
  · intro w9 hSw
    try dsimp only at hSw
    go_simp
  try simp only [Act.put, List.setIfInBounds_toArray, List.set_cons_zero, List.set_cons_succ]
  refine wpAnyH_take (i := 15) (oi := { dst := some 7, op := Op.assign (.tmp 24), type := 39, pos := "parse.go:169", after := #[{ on := 11, ground := Ground.data }, { on := 14, ground := Ground.chain }, { on := 0, ground := Ground.phase }, { on := 1, ground := Ground.phase }, { on := 2, ground := Ground.phase }, { on := 3, ground := Ground.phase }, { on := 4, ground := Ground.phase }, { on := 5, ground := Ground.phase }, { on := 6, ground := Ground.phase }, { on := 7, ground := Ground.phase }, { on := 8, ground := Ground.phase }, { on := 9, ground := Ground.phase }, { on := 10, ground := Ground.phase }, { on := 11, ground := Ground.phase }, { on := 12, ground := Ground.phase }, { on := 13, ground := Ground.phase }, { on := 14, ground := Ground.phase }], guard := none }) (v := (.int .i64 EE)) rfl (by kernel_rfl) (by kernel_rfl) (by kernel_rfl) (fun _ _ _ h => h) (Or.inl ⟨by rfl, ?_⟩) hHeld ?_
  · intro w9 hSw
    try dsimp only at hSw
    go_simp
  try simp only [Act.put, List.setIfInBounds_toArray, List.set_cons_zero, List.set_cons_succ]
  refine wpAnyH_done (by kernel_rfl) ?_ _
  refine NoPanic.normal ?_
  have hbz : (Instr.build 26 #[]).run Try.prog W4 = .ok (.agg #[.int .i64 0, .int .i64 0, .int .i64 0, .int .u64 0, .int .u64 0, .int .i64 0, .int .u64 0, .int .u64 0, .int .i64 0, .int .i64 0]) W4 := by kernel_rfl
  have Bf := B4.set #[.int .i64 0, .int .i64 0, .int .i64 0, .int .u64 0, .int .u64 0, .int .i64 0, .int .u64 0, .int .u64 0, .int .i64 0, .int .i64 0]
  have bf := below_setRow b4 (Nat.le_refl _) #[.int .i64 0, .int .i64 0, .int .i64 0, .int .u64 0, .int .u64 0, .int .i64 0, .int .u64 0, .int .u64 0, .int .i64 0, .int .i64 0]
  go_wp2_with (first
    | (refine wpList_build _ rfl _ _ rfl _ (by rfl) _ hbz ?_)
    | (refine wpList_store_row rfl _ _ _ rfl w.heap.size #[.int .i64 0, .int .i64 0, .int .i64 0, .int .u64 0, .int .u64 0, .int .i64 0, .int .u64 0, .int .u64 0, .int .i64 0, .int .i64 0] (by rfl) (by rfl) _ _ B4 (by kernel_rfl) (by rfl) (by kernel_rfl) ?_))
  exact ret_cell_tmp (k := 2) (j := 3) Try.f85 (by kernel_rfl) Bf Try.underlying26 (by kernel_rfl) (by rfl) (by rfl) rfl ⟨rfl, bf⟩

set_option maxRecDepth 100000 in
set_option maxHeartbeats 4000000 in
theorem inner6_y (bk off dc : Nat) (b : List Int) (w : World) (h : Row w (some ⟨bk, off, none⟩) b) (hll : b.length ≤ 140737488351232) (hc : b.length ≤ dc) (hcm : dc ≤ 9223372036854775807) (hne : ¬ b.length = 0) (h4 : ¬ b.length < 40) (h5 : wE (b.getD 6 0) (b.drop 40) = 0) (h7 : ¬ (wS (b.getD 6 0) (b.drop 40)).l.length < 8) :
    Calls Try.prog 85 #[.slice (some ⟨bk, off, none⟩) b.length dc] w fun e w' => e = .returned (.tuple #[.agg (tpv ((inner6 b).getD zTp)), .bool (inner6 b).isSome]) ∧ Below w.heap.size w w' := by
  obtain ⟨W1, hW1⟩ : ∃ W1, w.alloc (.cells #[.int .i64 0, .int .i64 0, .int .i64 0, .int .u64 0, .int .u64 0, .int .i64 0, .int .u64 0, .int .u64 0, .int .i64 0, .int .i64 0] 26) = W1 := ⟨_, rfl⟩
  have b1 : Below w.heap.size w W1 := by rw [← hW1]; exact (Below.refl _ _).alloc (Nat.le_refl _) _
  have B1 : Blk W1 w.heap.size 26 #[.int .i64 0, .int .i64 0, .int .i64 0, .int .u64 0, .int .u64 0, .int .i64 0, .int .u64 0, .int .u64 0, .int .i64 0, .int .i64 0] := by rw [← hW1]; exact blk_new _ _ _
  have h40' : ¬ (b.length : Int) < 40 := by omega
  obtain ⟨x6, e6⟩ : ∃ x, b.getD 6 0 = x := ⟨_, rfl⟩
  have q6 := h.bytes.get 6
  obtain ⟨bk', off', ee, hcl⟩ := h.cells (by omega)
  cases ee
  have y6 := kept (b := bk) (o := off + 6) b1 (hcl 6 (by omega))
  rw [e6] at y6 q6
  have i6 : (6 : Int) < (b.length : Int) := by omega
  have wx6 : IntKind.i64.wrap x6 = x6 := wraps_i64 _ (by omega) (by omega)
  have n40 : 40 ≤ b.length := by omega
  have jh2 : (40 : Int) ≤ (b.length : Int) := by omega
  obtain ⟨a3, ha3⟩ : ∃ a3 : Option Addr, (if dc = 40 then (some ⟨bk, off, none⟩) else Option.map (fun x : Addr => x.add 40) (some ⟨bk, off, none⟩)) = a3 := ⟨_, rfl⟩
  have H3 : Hid ((if dc = 40 then some (⟨bk, off, none⟩ : Addr) else some ⟨bk, off + 40, none⟩) = a3) := by
    have : (if dc = 40 then some (⟨bk, off, none⟩ : Addr) else some ⟨bk, off + 40, none⟩) = a3 := by
      rw [← ha3]
      simp [Go.WideShapes.add_plain]
    exact this
  obtain ⟨D, hD⟩ : ∃ D, b.drop 40 = D := ⟨_, rfl⟩
  have lD : D.length = b.length - 40 := by rw [← hD, List.length_drop]
  obtain ⟨S, hS⟩ : ∃ S, wS x6 D = S := ⟨_, rfl⟩
  obtain ⟨EE, hEE⟩ : ∃ S, wE x6 D = S := ⟨_, rfl⟩
  obtain ⟨NX, hNX⟩ : ∃ x, S.next = x := ⟨_, rfl⟩
  obtain ⟨RS, hRS⟩ : ∃ x, S.l = x := ⟨_, rfl⟩
  obtain ⟨EX, hEX⟩ : ∃ x, S.ex.length = x := ⟨_, rfl⟩
  have KW : Hid (∀ W, Row W (some ⟨bk, off, none⟩) b → Calls Try.prog 89 #[.int .i64 x6, .slice a3 (b.length - 40) (dc - 40)] W fun e w' => ∃ xa xc a' c', e = .returned (.tuple #[.int .i64 NX, .slice xa EX xc, .slice a' RS.length c', .int .i64 EE]) ∧ Fresh W w' a' c' RS) := fun W hW => by
    have hr := hW.drop dc 40 hc
    rw [ha3, hD] at hr
    have := walk6_any x6 a3 (dc - 40) D W hr (by omega) (by omega) (fun e => by
      rw [e] at ha3
      split at ha3
      · cases ha3
      · cases ha3)
    rw [lD, hS, hEE, hNX, hRS, hEX] at this
    refine Calls.mono this ?_
    rintro e w' ⟨xa, xc, a', c', h1, h2, _⟩
    exact ⟨xa, xc, a', c', h1, h2⟩
  obtain ⟨V, hV⟩ : ∃ V, portsOf 6 NX RS = V := ⟨_, rfl⟩
  obtain ⟨A1, hA1⟩ : ∃ A, (fromB (partv b 8 16)).1 = A := ⟨_, rfl⟩
  obtain ⟨A2, hA2⟩ : ∃ A, (fromB (partv b 24 16)).1 = A := ⟨_, rfl⟩
  have e : inner6 b = some ⟨6, NX, A1, A2, V.1, V.2⟩ := by
    unfold inner6
    rw [if_neg h4, if_neg (by intro hh; rcases hh with hh | hh <;> omega), e6, hD, hS, hNX, hRS, hA1, hA2, hV]
  rw [e]
  rw [e6, hD, hEE] at h5
  rw [e6, hD, hS, hRS] at h7
  have h5' : (EE != 0) = false := by simpa using h5
  have h7' : ¬ (RS.length : Int) < 8 := by omega
  obtain ⟨sf, sh, sl⟩ := A1
  obtain ⟨df, dh, dl⟩ := A2
  have KA : Hid (∀ W, Row W (some ⟨bk, off, none⟩) b → Calls Try.prog 88 #[.slice (some ⟨bk, off, none⟩) b.length dc, .int .i64 8, .int .i64 16] W fun e w' => e = .returned (.agg #[.int .i64 sf, .int .u64 sh, .int .u64 sl]) ∧ Below W.heap.size W w') := fun W hW => by
    have := segAddrAt_any (some ⟨bk, off, none⟩) dc b 8 16 W hW (fun e => by cases e) hll hc hcm (by decide)
    rw [hA1] at this
    exact this
  have KB : Hid (∀ W, Row W (some ⟨bk, off, none⟩) b → Calls Try.prog 88 #[.slice (some ⟨bk, off, none⟩) b.length dc, .int .i64 24, .int .i64 16] W fun e w' => e = .returned (.agg #[.int .i64 df, .int .u64 dh, .int .u64 dl]) ∧ Below W.heap.size W w') := fun W hW => by
    have := segAddrAt_any (some ⟨bk, off, none⟩) dc b 24 16 W hW (fun e => by cases e) hll hc hcm (by decide)
    rw [hA2] at this
    exact this
  have KP : Hid (∀ W a' c', Row W a' RS → Calls Try.prog 82 #[.agg #[.int .i64 6, .int .i64 NX, .int .i64 sf, .int .u64 sh, .int .u64 sl, .int .i64 df, .int .u64 dh, .int .u64 dl, .int .i64 0, .int .i64 0], .slice a' RS.length c'] W fun e w' => e = .returned (.agg #[.int .i64 6, .int .i64 NX, .int .i64 sf, .int .u64 sh, .int .u64 sl, .int .i64 df, .int .u64 dh, .int .u64 dl, .int .i64 V.1, .int .i64 V.2]) ∧ Below W.heap.size W w') := fun W a' c' hW => by
    have := withPorts_any 6 NX sf sh sl df dh dl a' c' RS W hW (by omega)
    rw [hV] at this
    exact this
  clear e hV hA1 hA2 h5
  clear hS hEE hNX hRS hEX hD lD ha3 hcl e6
  go_enter Try.func85, Try.ntmps85
  go_wp2_with fail
  refine wp_region_noPanic ?_
  refine wp_region_held_drew (S := fun w' => w'.cell? ⟨bk, off + 6, none⟩ = some (.int .u8 x6)) (by kernel_rfl) (by exact y6) (fun hHeld => ?_)
  refine wpAnyH_take (i := 0) (oi := { dst := some 14, op := Op.move (.tmp 0), type := 28, pos := "parse.go:169", after := #[], guard := none }) (v := (.slice (some ⟨bk, off, none⟩) b.length dc)) rfl (by kernel_rfl) (by kernel_rfl) (by kernel_rfl) (fun _ _ _ h => h) (Or.inl ⟨by rfl, ?_⟩) hHeld ?_
  · intro w9 hSw
    try dsimp only at hSw
    go_simp
  try simp only [Act.put, List.setIfInBounds_toArray, List.set_cons_zero, List.set_cons_succ]
  refine wpAnyH_take (i := 1) (oi := { dst := some 15, op := Op.indexAddr 28 (.tmp 14) (.const (.int .i64 6)), type := 0, pos := "parse.go:169", after := #[{ on := 0, ground := Ground.data }], guard := none }) (v := (.pointer (some ⟨bk, off + 6, none⟩))) rfl (by kernel_rfl) (by kernel_rfl) (by kernel_rfl) (fun _ _ _ h => h) (Or.inl ⟨by rfl, ?_⟩) hHeld ?_
  · intro w9 hSw
    try dsimp only at hSw
    go_simp
  try simp only [Act.put, List.setIfInBounds_toArray, List.set_cons_zero, List.set_cons_succ]
  refine wpAnyH_take (i := 2) (oi := { dst := some 16, op := Op.load 5 (.tmp 15), type := 5, pos := "parse.go:169", after := #[{ on := 1, ground := Ground.data }], guard := none }) (v := (.int .u8 x6)) rfl (by kernel_rfl) (by kernel_rfl) (by kernel_rfl) (fun _ _ _ h => h) (Or.inl ⟨by rfl, ?_⟩) hHeld ?_
  · intro w9 hSw
    try dsimp only at hSw
    go_simp
  try simp only [Act.put, List.setIfInBounds_toArray, List.set_cons_zero, List.set_cons_succ]
  refine wpAnyH_take (i := 3) (oi := { dst := some 17, op := Op.convert 5 3 (.tmp 16), type := 3, pos := "parse.go:169", after := #[{ on := 2, ground := Ground.data }], guard := none }) (v := (.int .i64 x6)) rfl (by kernel_rfl) (by kernel_rfl) (by kernel_rfl) (fun _ _ _ h => h) (Or.inl ⟨by rfl, ?_⟩) hHeld ?_
  · intro w9 hSw
    try dsimp only at hSw
    go_simp
  try simp only [Act.put, List.setIfInBounds_toArray, List.set_cons_zero, List.set_cons_succ]
  refine wpAnyH_take (i := 4) (oi := { dst := some 18, op := Op.move (.tmp 0), type := 28, pos := "parse.go:169", after := #[], guard := none }) (v := (.slice (some ⟨bk, off, none⟩) b.length dc)) rfl (by kernel_rfl) (by kernel_rfl) (by kernel_rfl) (fun _ _ _ h => h) (Or.inl ⟨by rfl, ?_⟩) hHeld ?_
  · intro w9 hSw
    try dsimp only at hSw
    go_simp
  try simp only [Act.put, List.setIfInBounds_toArray, List.set_cons_zero, List.set_cons_succ]
  refine wpAnyH_take (i := 5) (oi := { dst := some 19, op := Op.slice 28 (.tmp 18) (some (.const (.int .i64 40))) none none, type := 28, pos := "parse.go:169", after := #[{ on := 4, ground := Ground.data }], guard := none }) (v := (.slice a3 (b.length - 40) (dc - 40))) rfl (by kernel_rfl) (by kernel_rfl) (by kernel_rfl) (fun _ _ _ h => h) (Or.inl ⟨by rfl, ?_⟩) hHeld ?_
  · intro w9 hSw
    try dsimp only at hSw
    go_simp
    exact H3.out
  try simp only [Act.put, List.setIfInBounds_toArray, List.set_cons_zero, List.set_cons_succ]
  refine wpAnyH_ready (rs := [6]) (by kernel_rfl) (by simp) ?_
  refine AllReadyH.cons (o := { dst := some 20, op := Op.call { callee := Callee.value (.func 89), args := #[.tmp 17, .tmp 19], argTypes := #[3, 28] }, type := 107, pos := "parse.go:169", after := #[{ on := 3, ground := Ground.data }, { on := 5, ground := Ground.data }], guard := none }) rfl (fun K hK => ?_) AllReadyH.nil
  go_simp
  refine Calls.mono (KW.out _ (h.below b1.drew)) ?_
  rintro e W4 ⟨xa, xc, a4, c4, rfl, f4⟩
  have b4 : Below w.heap.size w W4 := b1.drew.trans (f4.below.mono b1.drew.size)
  have B4 := B1.drew.kept f4.below
  refine hK.out _ _ ?_ (fun hHeld => ?_)
  · exact kept (b := bk) (o := off + 6) f4.below y6
  clear hK K
  try simp only [Act.put, List.setIfInBounds_toArray, List.set_cons_zero, List.set_cons_succ]
  refine wpAnyH_take (i := 7) (oi := { dst := some 13, op := Op.move (.tmp 20), type := 107, pos := "parse.go:169", after := #[{ on := 6, ground := Ground.data }], guard := none }) (v := (.tuple #[.int .i64 NX, .slice xa EX xc, .slice a4 RS.length c4, .int .i64 EE])) rfl (by kernel_rfl) (by kernel_rfl) (by kernel_rfl) (fun _ _ _ h => h) (Or.inl ⟨by rfl, ?_⟩) hHeld ?_
  · intro w9 hSw
    try dsimp only at hSw
    go_simp
  try simp only [Act.put, List.setIfInBounds_toArray, List.set_cons_zero, List.set_cons_succ]
  refine wpAnyH_take (i := 8) (oi := { dst := some 21, op := Op.extract (.tmp 13) 0, type := 3, pos := "parse.go:169", after := #[{ on := 7, ground := Ground.data }], guard := none }) (v := (.int .i64 NX)) rfl (by kernel_rfl) (by kernel_rfl) (by kernel_rfl) (fun _ _ _ h => h) (Or.inl ⟨by rfl, ?_⟩) hHeld ?_
  · intro w9 hSw
    try dsimp only at hSw
    go_simp
  try simp only [Act.put, List.setIfInBounds_toArray, List.set_cons_zero, List.set_cons_succ]
  refine wpAnyH_take (i := 9) (oi := { dst := some 22, op := Op.extract (.tmp 13) 1, type := 34, pos := "parse.go:169", after := #[{ on := 7, ground := Ground.data }, { on := 12, ground := Ground.gcOnly Departure.lateStores }], guard := none }) (v := (.slice xa EX xc)) rfl (by kernel_rfl) (by kernel_rfl) (by kernel_rfl) (fun _ _ _ h => h) (Or.inl ⟨by rfl, ?_⟩) hHeld ?_
  · intro w9 hSw
    try dsimp only at hSw
    go_simp
  try simp only [Act.put, List.setIfInBounds_toArray, List.set_cons_zero, List.set_cons_succ]
  refine wpAnyH_take (i := 10) (oi := { dst := some 23, op := Op.extract (.tmp 13) 2, type := 28, pos := "parse.go:169", after := #[{ on := 7, ground := Ground.data }, { on := 13, ground := Ground.gcOnly Departure.lateStores }], guard := none }) (v := (.slice a4 RS.length c4)) rfl (by kernel_rfl) (by kernel_rfl) (by kernel_rfl) (fun _ _ _ h => h) (Or.inl ⟨by rfl, ?_⟩) hHeld ?_
  · intro w9 hSw
    try dsimp only at hSw
    go_simp
  try simp only [Act.put, List.setIfInBounds_toArray, List.set_cons_zero, List.set_cons_succ]
  refine wpAnyH_take (i := 11) (oi := { dst := some 24, op := Op.extract (.tmp 13) 3, type := 39, pos := "parse.go:169", after := #[{ on := 7, ground := Ground.data }, { on := 14, ground := Ground.gcOnly Departure.lateStores }], guard := none }) (v := (.int .i64 EE)) rfl (by kernel_rfl) (by kernel_rfl) (by kernel_rfl) (fun _ _ _ h => h) (Or.inl ⟨by rfl, ?_⟩) hHeld ?_
  · intro w9 hSw
    try dsimp only at hSw
    go_simp
  try simp only [Act.put, List.setIfInBounds_toArray, List.set_cons_zero, List.set_cons_succ]
  refine wpAnyH_take (i := 12) (oi := { dst := some 4, op := Op.assign (.tmp 21), type := 3, pos := "parse.go:169", after := #[{ on := 8, ground := Ground.data }, { on := 6, ground := Ground.chain }, { on := 0, ground := Ground.phase }, { on := 1, ground := Ground.phase }, { on := 2, ground := Ground.phase }, { on := 3, ground := Ground.phase }, { on := 4, ground := Ground.phase }, { on := 5, ground := Ground.phase }, { on := 6, ground := Ground.phase }, { on := 7, ground := Ground.phase }, { on := 8, ground := Ground.phase }, { on := 9, ground := Ground.textOnly Departure.lateStores }, { on := 10, ground := Ground.textOnly Departure.lateStores }, { on := 11, ground := Ground.textOnly Departure.lateStores }], guard := none }) (v := (.int .i64 NX)) rfl (by kernel_rfl) (by kernel_rfl) (by kernel_rfl) (fun _ _ _ h => h) (Or.inl ⟨by rfl, ?_⟩) hHeld ?_
  · intro w9 hSw
    try dsimp only at hSw
    go_simp
  try simp only [Act.put, List.setIfInBounds_toArray, List.set_cons_zero, List.set_cons_succ]
  refine wpAnyH_take (i := 13) (oi := { dst := some 5, op := Op.assign (.tmp 22), type := 34, pos := "parse.go:169", after := #[{ on := 9, ground := Ground.data }, { on := 12, ground := Ground.chain }, { on := 0, ground := Ground.phase }, { on := 1, ground := Ground.phase }, { on := 2, ground := Ground.phase }, { on := 3, ground := Ground.phase }, { on := 4, ground := Ground.phase }, { on := 5, ground := Ground.phase }, { on := 6, ground := Ground.phase }, { on := 7, ground := Ground.phase }, { on := 8, ground := Ground.phase }, { on := 9, ground := Ground.phase }, { on := 10, ground := Ground.textOnly Departure.lateStores }, { on := 11, ground := Ground.textOnly Departure.lateStores }, { on := 12, ground := Ground.phase }], guard := none }) (v := (.slice xa EX xc)) rfl (by kernel_rfl) (by kernel_rfl) (by kernel_rfl) (fun _ _ _ h => h) (Or.inl ⟨by rfl, ?_⟩) hHeld ?_
  · intro w9 hSw
    try dsimp only at hSw
    go_simp
  try simp only [Act.put, List.setIfInBounds_toArray, List.set_cons_zero, List.set_cons_succ]
  refine wpAnyH_take (i := 14) (oi := { dst := some 6, op := Op.assign (.tmp 23), type := 28, pos := "parse.go:169", after := #[{ on := 10, ground := Ground.data }, { on := 13, ground := Ground.chain }, { on := 0, ground := Ground.phase }, { on := 1, ground := Ground.phase }, { on := 2, ground := Ground.phase }, { on := 3, ground := Ground.phase }, { on := 4, ground := Ground.phase }, { on := 5, ground := Ground.phase }, { on := 6, ground := Ground.phase }, { on := 7, ground := Ground.phase }, { on := 8, ground := Ground.phase }, { on := 9, ground := Ground.phase }, { on := 10, ground := Ground.phase }, { on := 11, ground := Ground.textOnly Departure.lateStores }, { on := 12, ground := Ground.phase }, { on := 13, ground := Ground.phase }], guard := none }) (v := (.slice a4 RS.length c4)) rfl (by kernel_rfl) (by kernel_rfl) (by kernel_rfl) (fun _ _ _ h => h) (Or.inl ⟨by rfl, ?_⟩) hHeld ?_
  · intro w9 hSw
    try dsimp only at hSw
    go_simp
  try simp only [Act.put, List.setIfInBounds_toArray, List.set_cons_zero, List.set_cons_succ]
  refine wpAnyH_take (i := 15) (oi := { dst := some 7, op := Op.assign (.tmp 24), type := 39, pos := "parse.go:169", after := #[{ on := 11, ground := Ground.data }, { on := 14, ground := Ground.chain }, { on := 0, ground := Ground.phase }, { on := 1, ground := Ground.phase }, { on := 2, ground := Ground.phase }, { on := 3, ground := Ground.phase }, { on := 4, ground := Ground.phase }, { on := 5, ground := Ground.phase }, { on := 6, ground := Ground.phase }, { on := 7, ground := Ground.phase }, { on := 8, ground := Ground.phase }, { on := 9, ground := Ground.phase }, { on := 10, ground := Ground.phase }, { on := 11, ground := Ground.phase }, { on := 12, ground := Ground.phase }, { on := 13, ground := Ground.phase }, { on := 14, ground := Ground.phase }], guard := none }) (v := (.int .i64 EE)) rfl (by kernel_rfl) (by kernel_rfl) (by kernel_rfl) (fun _ _ _ h => h) (Or.inl ⟨by rfl, ?_⟩) hHeld ?_
  · intro w9 hSw
    try dsimp only at hSw
    go_simp
  try simp only [Act.put, List.setIfInBounds_toArray, List.set_cons_zero, List.set_cons_succ]
  refine wpAnyH_done (by kernel_rfl) ?_ _
  refine NoPanic.normal ?_
  have r4 := f4.row
  clear KW f4 y6 hW1 b1 B1 hHeld
  go_wp2_with fail
  refine Calls.mono (KA.out _ (h.below b4)) ?_
  rintro e W5 ⟨rfl, bb⟩
  have b5 : Below w.heap.size w W5 := b4.trans (bb.mono b4.size)
  have B5 := B4.kept bb
  have r5 := r4.below bb
  clear KA bb B4 b4 r4
  go_wp2_with fail
  refine Calls.mono (KB.out _ (h.below b5)) ?_
  rintro e W6 ⟨rfl, bb⟩
  have b6 : Below w.heap.size w W6 := b5.trans (bb.mono b5.size)
  have B6 := B5.kept bb
  have r6 := r5.below bb
  clear KB bb B5 b5 r5
  obtain ⟨W7, hW7⟩ : ∃ W, W6.alloc (.cells #[.int .i64 0, .int .i64 0, .int .i64 0, .int .u64 0, .int .u64 0, .int .i64 0, .int .u64 0, .int .u64 0, .int .i64 0, .int .i64 0] 26) = W := ⟨_, rfl⟩
  have b7 : Below w.heap.size w W7 := by rw [← hW7]; exact b6.alloc b6.size _
  have B7 : Blk W7 w.heap.size 26 #[.int .i64 0, .int .i64 0, .int .i64 0, .int .u64 0, .int .u64 0, .int .i64 0, .int .u64 0, .int .u64 0, .int .i64 0, .int .i64 0] := by rw [← hW7]; exact B6.alloc _
  have N7 : Blk W7 W6.heap.size 26 #[.int .i64 0, .int .i64 0, .int .i64 0, .int .u64 0, .int .u64 0, .int .i64 0, .int .u64 0, .int .u64 0, .int .i64 0, .int .i64 0] := by rw [← hW7]; exact blk_new _ _ _
  have r7 : Row W7 a4 RS := by rw [← hW7]; exact r6.alloc _
  have g6 : w.heap.size < W6.heap.size := B6.lt
  have hbd : (Instr.build 26 #[(0, .int .i64 6), (1, .int .i64 NX), (2, .agg #[.int .i64 sf, .int .u64 sh, .int .u64 sl]), (3, .agg #[.int .i64 df, .int .u64 dh, .int .u64 dl])]).run Try.prog W6 = .ok (.agg #[.int .i64 6, .int .i64 NX, .int .i64 sf, .int .u64 sh, .int .u64 sl, .int .i64 df, .int .u64 dh, .int .u64 dl, .int .i64 0, .int .i64 0]) W6 := by kernel_rfl
  obtain ⟨W8, hW8⟩ : ∃ W, W7.setRow W6.heap.size #[.int .i64 6, .int .i64 NX, .int .i64 sf, .int .u64 sh, .int .u64 sl, .int .i64 df, .int .u64 dh, .int .u64 dl, .int .i64 0, .int .i64 0] = W := ⟨_, rfl⟩
  have b68 : Below W6.heap.size W6 W8 := by
    rw [← hW8, ← hW7]
    exact below_setRow ((Below.refl _ _).alloc (Nat.le_refl _) _) (Nat.le_refl _) _
  have r8 := r6.below b68
  have B8 : Blk W8 w.heap.size 26 #[.int .i64 0, .int .i64 0, .int .i64 0, .int .u64 0, .int .u64 0, .int .i64 0, .int .u64 0, .int .u64 0, .int .i64 0, .int .i64 0] := by rw [← hW8]; exact B7.other (by omega) _
  have N8 : Blk W8 W6.heap.size 26 #[.int .i64 6, .int .i64 NX, .int .i64 sf, .int .u64 sh, .int .u64 sl, .int .i64 df, .int .u64 dh, .int .u64 dl, .int .i64 0, .int .i64 0] := by rw [← hW8]; exact N7.set _
  have b8 : Below w.heap.size w W8 := by rw [← hW8]; exact below_setRow b7 (Nat.le_of_lt g6) _
  have HW8 : Hid _ := hW8
  clear hW8 b68 r6 B6 b6 B7 b7 r7
  go_wp2_with (first
    | (refine wpList_build _ rfl _ _ rfl _ (by rfl) _ hbd ?_)
    | (refine wpList_store_row rfl _ _ _ rfl W6.heap.size #[.int .i64 6, .int .i64 NX, .int .i64 sf, .int .u64 sh, .int .u64 sl, .int .i64 df, .int .u64 dh, .int .u64 dl, .int .i64 0, .int .i64 0] (by rfl) (by rfl) _ _ N7 (by kernel_rfl) (by rfl) (by kernel_rfl) ?_; rw [HW8.out])
    | (refine wpList_load_row rfl _ _ rfl W6.heap.size (by rfl) _ _ _ _ N8 Try.underlying26 rfl (by kernel_rfl) ?_))
  refine Calls.mono (KP.out _ _ _ r8) ?_
  rintro e W9 ⟨rfl, bb⟩
  have b9 : Below w.heap.size w W9 := b8.trans (bb.mono b8.size)
  have B9 := B8.kept bb
  have Bf := B9.set #[.int .i64 6, .int .i64 NX, .int .i64 sf, .int .u64 sh, .int .u64 sl, .int .i64 df, .int .u64 dh, .int .u64 dl, .int .i64 V.1, .int .i64 V.2]
  have bf := below_setRow b9 (Nat.le_refl _) #[.int .i64 6, .int .i64 NX, .int .i64 sf, .int .u64 sh, .int .u64 sl, .int .i64 df, .int .u64 dh, .int .u64 dl, .int .i64 V.1, .int .i64 V.2]
  clear KP bb hbd HW8 hW7
  go_wp2_with (refine wpList_store_row rfl _ _ _ rfl w.heap.size #[.int .i64 6, .int .i64 NX, .int .i64 sf, .int .u64 sh, .int .u64 sl, .int .i64 df, .int .u64 dh, .int .u64 dl, .int .i64 V.1, .int .i64 V.2] (by rfl) (by rfl) _ _ B9 (by kernel_rfl) (by rfl) (by kernel_rfl) ?_)
  exact ret_cell_tmp (k := 2) (j := 3) Try.f85 (by kernel_rfl) Bf Try.underlying26 (by kernel_rfl) (by rfl) (by rfl) rfl ⟨rfl, bf⟩

end Go.Proofs.Ytgdpcomcndidcaa

namespace Go.Proofs.Ytgdpcomcndidcaa
open Go.RowKit
set_option linter.unusedVariables false
set_option linter.unusedSimpArgs false

theorem inner4_any (bk off dc : Nat) (b : List Int) (w : World) (h : Row w (some ⟨bk, off, none⟩) b) (hll : b.length ≤ 140737488351232) (hc : b.length ≤ dc) (hcm : dc ≤ 9223372036854775807) (hne : ¬ b.length = 0) :
    Calls Try.prog 84 #[.slice (some ⟨bk, off, none⟩) b.length dc] w fun e w' => e = .returned (.tuple #[.agg (tpv ((inner4 b).getD zTp)), .bool (inner4 b).isSome]) ∧ Below w.heap.size w w' := by
  by_cases h4 : b.getD 0 0 % 16 * 4 < 20
  · exact inner4_n1 bk off dc b w h hll hc hcm hne h4
  by_cases h5 : (b.length : Int) - b.getD 0 0 % 16 * 4 < 8
  · exact inner4_n2 bk off dc b w h hll hc hcm hne h4 h5
  · exact inner4_y bk off dc b w h hll hc hcm hne h4 h5
theorem inner6_any (bk off dc : Nat) (b : List Int) (w : World) (h : Row w (some ⟨bk, off, none⟩) b) (hll : b.length ≤ 140737488351232) (hc : b.length ≤ dc) (hcm : dc ≤ 9223372036854775807) (hne : ¬ b.length = 0) :
    Calls Try.prog 85 #[.slice (some ⟨bk, off, none⟩) b.length dc] w fun e w' => e = .returned (.tuple #[.agg (tpv ((inner6 b).getD zTp)), .bool (inner6 b).isSome]) ∧ Below w.heap.size w w' := by
  by_cases h4 : b.length < 40
  · exact inner6_n1 bk off dc b w h hll hc hcm hne h4
  by_cases h5 : wE (b.getD 6 0) (b.drop 40) = 0
  · by_cases h7 : (wS (b.getD 6 0) (b.drop 40)).l.length < 8
    · exact inner6_n3 bk off dc b w h hll hc hcm hne h4 h5 h7
    · exact inner6_y bk off dc b w h hll hc hcm hne h4 h5 h7
  · exact inner6_n2 bk off dc b w h hll hc hcm hne h4 h5

set_option maxRecDepth 100000 in
set_option maxHeartbeats 4000000 in
theorem innerWay_n1 (f : Int) (a : Option Addr) (c : Nat) (b : List Int) (w : World) (h : Row w a b) (hll : b.length ≤ 140737488351232) (hc : b.length ≤ c) (hcm : c ≤ 9223372036854775807) (h0 : b.length = 0) :
    Calls Try.prog 73 #[.int .i64 f, .slice a b.length c] w fun e w' => e = .returned (.tuple #[.agg (tpv ((inner f b).getD zTp)), .bool (inner f b).isSome]) ∧ Below w.heap.size w w' := by
  obtain ⟨W1, hW1⟩ : ∃ W1, w.alloc (.cells #[.int .i64 0, .int .i64 0, .int .i64 0, .int .u64 0, .int .u64 0, .int .i64 0, .int .u64 0, .int .u64 0, .int .i64 0, .int .i64 0] 26) = W1 := ⟨_, rfl⟩
  have b1 : Below w.heap.size w W1 := by rw [← hW1]; exact (Below.refl _ _).alloc (Nat.le_refl _) _
  have B1 : Blk W1 w.heap.size 26 #[.int .i64 0, .int .i64 0, .int .i64 0, .int .u64 0, .int .u64 0, .int .i64 0, .int .u64 0, .int .u64 0, .int .i64 0, .int .i64 0] := by rw [← hW1]; exact blk_new _ _ _
  have eN : inner f b = none := by
    unfold inner
    rw [if_pos h0]
  rw [eN]
  clear eN
  have h0' : ((b.length : Int) == 0) = true := by simpa using h0
  have h0'' : b = [] := by simpa using h0
  subst h0''
  have hbz : (Instr.build 26 #[]).run Try.prog W1 = .ok (.agg #[.int .i64 0, .int .i64 0, .int .i64 0, .int .u64 0, .int .u64 0, .int .i64 0, .int .u64 0, .int .u64 0, .int .i64 0, .int .i64 0]) W1 := by kernel_rfl
  go_enter Try.func73, Try.ntmps73
  have Bf := B1.set #[.int .i64 0, .int .i64 0, .int .i64 0, .int .u64 0, .int .u64 0, .int .i64 0, .int .u64 0, .int .u64 0, .int .i64 0, .int .i64 0]
  have bf := below_setRow b1 (Nat.le_refl _) #[.int .i64 0, .int .i64 0, .int .i64 0, .int .u64 0, .int .u64 0, .int .i64 0, .int .u64 0, .int .u64 0, .int .i64 0, .int .i64 0]
  go_wp2_with (first
    | (refine wpList_build _ rfl _ _ rfl _ (by rfl) _ hbz ?_)
    | (refine wpList_store_row rfl _ _ _ rfl w.heap.size #[.int .i64 0, .int .i64 0, .int .i64 0, .int .u64 0, .int .u64 0, .int .i64 0, .int .u64 0, .int .u64 0, .int .i64 0, .int .i64 0] (by rfl) (by rfl) _ _ B1 (by kernel_rfl) (by rfl) (by kernel_rfl) ?_))
  exact ret_cell_tmp (k := 4) (j := 5) Try.f73 (by kernel_rfl) Bf Try.underlying26 (by kernel_rfl) (by rfl) (by rfl) rfl ⟨rfl, bf⟩

set_option maxRecDepth 100000 in
set_option maxHeartbeats 4000000 in
theorem innerWay_n2 (f : Int) (a : Option Addr) (c : Nat) (b : List Int) (w : World) (h : Row w a b) (hll : b.length ≤ 140737488351232) (hc : b.length ≤ c) (hcm : c ≤ 9223372036854775807) (h0 : ¬ b.length = 0) (h4 : ¬ b.getD 0 0 / 16 = f) :
    Calls Try.prog 73 #[.int .i64 f, .slice a b.length c] w fun e w' => e = .returned (.tuple #[.agg (tpv ((inner f b).getD zTp)), .bool (inner f b).isSome]) ∧ Below w.heap.size w w' := by
  obtain ⟨W1, hW1⟩ : ∃ W1, w.alloc (.cells #[.int .i64 0, .int .i64 0, .int .i64 0, .int .u64 0, .int .u64 0, .int .i64 0, .int .u64 0, .int .u64 0, .int .i64 0, .int .i64 0] 26) = W1 := ⟨_, rfl⟩
  have b1 : Below w.heap.size w W1 := by rw [← hW1]; exact (Below.refl _ _).alloc (Nat.le_refl _) _
  have B1 : Blk W1 w.heap.size 26 #[.int .i64 0, .int .i64 0, .int .i64 0, .int .u64 0, .int .u64 0, .int .i64 0, .int .u64 0, .int .u64 0, .int .i64 0, .int .i64 0] := by rw [← hW1]; exact blk_new _ _ _
  have eN : inner f b = none := by
    unfold inner
    rw [if_neg h0, if_pos h4]
  rw [eN]
  clear eN
  obtain ⟨x0, e0⟩ : ∃ x, b.getD 0 0 = x := ⟨_, rfl⟩
  have q0 := h.bytes.get 0
  obtain ⟨bk, off, rfl, hcl⟩ := h.cells (by omega)
  have y0 := kept (b := bk) (o := off + 0) b1 (hcl 0 (by omega))
  rw [e0, Nat.add_zero] at y0
  rw [e0] at q0 h4
  have i0 : (0 : Int) < (b.length : Int) := by omega
  have hne' : ¬ b = [] := by intro e; rw [e] at h0; simp at h0
  have hnz : ((b.length : Int) == 0) = false := by simpa using h0
  have wx0 : IntKind.i64.wrap (x0 / 16) = x0 / 16 := wraps_i64 _ (by omega) (by omega)
  have h4' : (x0 / 16 != f) = true := by simpa using h4
  clear h4 hcl e0
  have hbz : (Instr.build 26 #[]).run Try.prog W1 = .ok (.agg #[.int .i64 0, .int .i64 0, .int .i64 0, .int .u64 0, .int .u64 0, .int .i64 0, .int .u64 0, .int .u64 0, .int .i64 0, .int .i64 0]) W1 := by kernel_rfl
  go_enter Try.func73, Try.ntmps73
  have Bf := B1.set #[.int .i64 0, .int .i64 0, .int .i64 0, .int .u64 0, .int .u64 0, .int .i64 0, .int .u64 0, .int .u64 0, .int .i64 0, .int .i64 0]
  have bf := below_setRow b1 (Nat.le_refl _) #[.int .i64 0, .int .i64 0, .int .i64 0, .int .u64 0, .int .u64 0, .int .i64 0, .int .u64 0, .int .u64 0, .int .i64 0, .int .i64 0]
  go_wp2_with (first
    | (refine wpList_build _ rfl _ _ rfl _ (by rfl) _ hbz ?_)
    | (refine wpList_store_row rfl _ _ _ rfl w.heap.size #[.int .i64 0, .int .i64 0, .int .i64 0, .int .u64 0, .int .u64 0, .int .i64 0, .int .u64 0, .int .u64 0, .int .i64 0, .int .i64 0] (by rfl) (by rfl) _ _ B1 (by kernel_rfl) (by rfl) (by kernel_rfl) ?_))
  exact ret_cell_tmp (k := 4) (j := 5) Try.f73 (by kernel_rfl) Bf Try.underlying26 (by kernel_rfl) (by rfl) (by rfl) rfl ⟨rfl, bf⟩

set_option maxRecDepth 100000 in
set_option maxHeartbeats 4000000 in
theorem innerWay_y4 (f : Int) (a : Option Addr) (c : Nat) (b : List Int) (w : World) (h : Row w a b) (hll : b.length ≤ 140737488351232) (hc : b.length ≤ c) (hcm : c ≤ 9223372036854775807) (h0 : ¬ b.length = 0) (h4 : b.getD 0 0 / 16 = f) (hf : f = 4) :
    Calls Try.prog 73 #[.int .i64 f, .slice a b.length c] w fun e w' => e = .returned (.tuple #[.agg (tpv ((inner f b).getD zTp)), .bool (inner f b).isSome]) ∧ Below w.heap.size w w' := by
  obtain ⟨W1, hW1⟩ : ∃ W1, w.alloc (.cells #[.int .i64 0, .int .i64 0, .int .i64 0, .int .u64 0, .int .u64 0, .int .i64 0, .int .u64 0, .int .u64 0, .int .i64 0, .int .i64 0] 26) = W1 := ⟨_, rfl⟩
  have b1 : Below w.heap.size w W1 := by rw [← hW1]; exact (Below.refl _ _).alloc (Nat.le_refl _) _
  have B1 : Blk W1 w.heap.size 26 #[.int .i64 0, .int .i64 0, .int .i64 0, .int .u64 0, .int .u64 0, .int .i64 0, .int .u64 0, .int .u64 0, .int .i64 0, .int .i64 0] := by rw [← hW1]; exact blk_new _ _ _
  obtain ⟨x0, e0⟩ : ∃ x, b.getD 0 0 = x := ⟨_, rfl⟩
  have q0 := h.bytes.get 0
  obtain ⟨bk, off, rfl, hcl⟩ := h.cells (by omega)
  have y0 := kept (b := bk) (o := off + 0) b1 (hcl 0 (by omega))
  rw [e0, Nat.add_zero] at y0
  rw [e0] at q0 h4
  have i0 : (0 : Int) < (b.length : Int) := by omega
  have hne' : ¬ b = [] := by intro e; rw [e] at h0; simp at h0
  have hnz : ((b.length : Int) == 0) = false := by simpa using h0
  have wx0 : IntKind.i64.wrap (x0 / 16) = x0 / 16 := wraps_i64 _ (by omega) (by omega)
  have h4' : (x0 / 16 != f) = false := by simpa using h4
  obtain ⟨TT, hTT⟩ : ∃ T, inner f b = T := ⟨_, rfl⟩
  have eT : inner4 b = TT := by rw [← hTT]; unfold inner; rw [if_neg h0, if_neg (by rw [e0]; simpa using h4), if_pos hf]
  have KK : Hid (∀ W, Row W (some ⟨bk, off, none⟩) b → Calls Try.prog 84 #[.slice (some ⟨bk, off, none⟩) b.length c] W fun e w' => e = .returned (.tuple #[.agg (tpv (TT.getD zTp)), .bool TT.isSome]) ∧ Below W.heap.size W w') := fun W hW => by
    have := inner4_any bk off c b W hW hll hc hcm h0
    rw [eT] at this
    exact this
  rw [hTT]
  obtain ⟨T, hT⟩ : ∃ T, TT.getD zTp = T := ⟨_, rfl⟩
  obtain ⟨S, hS⟩ : ∃ T, TT.isSome = T := ⟨_, rfl⟩
  rw [hT, hS] at KK ⊢
  clear hTT eT hT hS hcl h4 e0
  have f4 : (f == 4) = true := by simpa using hf
  clear hf
  go_enter Try.func73, Try.ntmps73
  go_wp2_with fail
  refine Calls.mono (KK.out _ (h.below b1)) ?_
  rintro e W2 ⟨rfl, bb⟩
  have b2 : Below w.heap.size w W2 := b1.trans (bb.mono b1.size)
  have B2 := B1.kept bb
  have Bf := B2.set (tpv T)
  have bf := below_setRow b2 (Nat.le_refl _) (tpv T)
  clear KK bb
  go_wp2_with (refine wpList_store_row rfl _ _ _ rfl w.heap.size (tpv T) (by rfl) (by rfl) _ _ B2 (by kernel_rfl) (by rfl) (by kernel_rfl) ?_)
  exact ret_cell_tmp (k := 4) (j := 5) Try.f73 (by kernel_rfl) Bf Try.underlying26 (by kernel_rfl) (by rfl) (by rfl) rfl ⟨rfl, bf⟩

set_option maxRecDepth 100000 in
set_option maxHeartbeats 4000000 in
theorem innerWay_y6 (f : Int) (a : Option Addr) (c : Nat) (b : List Int) (w : World) (h : Row w a b) (hll : b.length ≤ 140737488351232) (hc : b.length ≤ c) (hcm : c ≤ 9223372036854775807) (h0 : ¬ b.length = 0) (h4 : b.getD 0 0 / 16 = f) (hf : ¬ f = 4) :
    Calls Try.prog 73 #[.int .i64 f, .slice a b.length c] w fun e w' => e = .returned (.tuple #[.agg (tpv ((inner f b).getD zTp)), .bool (inner f b).isSome]) ∧ Below w.heap.size w w' := by
  obtain ⟨W1, hW1⟩ : ∃ W1, w.alloc (.cells #[.int .i64 0, .int .i64 0, .int .i64 0, .int .u64 0, .int .u64 0, .int .i64 0, .int .u64 0, .int .u64 0, .int .i64 0, .int .i64 0] 26) = W1 := ⟨_, rfl⟩
  have b1 : Below w.heap.size w W1 := by rw [← hW1]; exact (Below.refl _ _).alloc (Nat.le_refl _) _
  have B1 : Blk W1 w.heap.size 26 #[.int .i64 0, .int .i64 0, .int .i64 0, .int .u64 0, .int .u64 0, .int .i64 0, .int .u64 0, .int .u64 0, .int .i64 0, .int .i64 0] := by rw [← hW1]; exact blk_new _ _ _
  obtain ⟨x0, e0⟩ : ∃ x, b.getD 0 0 = x := ⟨_, rfl⟩
  have q0 := h.bytes.get 0
  obtain ⟨bk, off, rfl, hcl⟩ := h.cells (by omega)
  have y0 := kept (b := bk) (o := off + 0) b1 (hcl 0 (by omega))
  rw [e0, Nat.add_zero] at y0
  rw [e0] at q0 h4
  have i0 : (0 : Int) < (b.length : Int) := by omega
  have hne' : ¬ b = [] := by intro e; rw [e] at h0; simp at h0
  have hnz : ((b.length : Int) == 0) = false := by simpa using h0
  have wx0 : IntKind.i64.wrap (x0 / 16) = x0 / 16 := wraps_i64 _ (by omega) (by omega)
  have h4' : (x0 / 16 != f) = false := by simpa using h4
  obtain ⟨TT, hTT⟩ : ∃ T, inner f b = T := ⟨_, rfl⟩
  have eT : inner6 b = TT := by rw [← hTT]; unfold inner; rw [if_neg h0, if_neg (by rw [e0]; simpa using h4), if_neg hf]
  have KK : Hid (∀ W, Row W (some ⟨bk, off, none⟩) b → Calls Try.prog 85 #[.slice (some ⟨bk, off, none⟩) b.length c] W fun e w' => e = .returned (.tuple #[.agg (tpv (TT.getD zTp)), .bool TT.isSome]) ∧ Below W.heap.size W w') := fun W hW => by
    have := inner6_any bk off c b W hW hll hc hcm h0
    rw [eT] at this
    exact this
  rw [hTT]
  obtain ⟨T, hT⟩ : ∃ T, TT.getD zTp = T := ⟨_, rfl⟩
  obtain ⟨S, hS⟩ : ∃ T, TT.isSome = T := ⟨_, rfl⟩
  rw [hT, hS] at KK ⊢
  clear hTT eT hT hS hcl h4 e0
  have f4 : (f == 4) = false := by simpa using hf
  clear hf
  go_enter Try.func73, Try.ntmps73
  go_wp2_with fail
  refine Calls.mono (KK.out _ (h.below b1)) ?_
  rintro e W2 ⟨rfl, bb⟩
  have b2 : Below w.heap.size w W2 := b1.trans (bb.mono b1.size)
  have B2 := B1.kept bb
  have Bf := B2.set (tpv T)
  have bf := below_setRow b2 (Nat.le_refl _) (tpv T)
  clear KK bb
  go_wp2_with (refine wpList_store_row rfl _ _ _ rfl w.heap.size (tpv T) (by rfl) (by rfl) _ _ B2 (by kernel_rfl) (by rfl) (by kernel_rfl) ?_)
  exact ret_cell_tmp (k := 4) (j := 5) Try.f73 (by kernel_rfl) Bf Try.underlying26 (by kernel_rfl) (by rfl) (by rfl) rfl ⟨rfl, bf⟩

theorem innerWay_any (f : Int) (a : Option Addr) (c : Nat) (b : List Int) (w : World) (h : Row w a b) (hll : b.length ≤ 140737488351232) (hc : b.length ≤ c) (hcm : c ≤ 9223372036854775807) :
    Calls Try.prog 73 #[.int .i64 f, .slice a b.length c] w fun e w' => e = .returned (.tuple #[.agg (tpv ((inner f b).getD zTp)), .bool (inner f b).isSome]) ∧ Below w.heap.size w w' := by
  by_cases h0 : b.length = 0
  · exact innerWay_n1 f a c b w h hll hc hcm h0
  by_cases h4 : b.getD 0 0 / 16 = f
  · by_cases hf : f = 4
    · exact innerWay_y4 f a c b w h hll hc hcm h0 h4 hf
    · exact innerWay_y6 f a c b w h hll hc hcm h0 h4 hf
  · exact innerWay_n2 f a c b w h hll hc hcm h0 h4

end Go.Proofs.Ytgdpcomcndidcaa

namespace Go.Proofs.Ytgdpcomcndidcaa
open Go.RowKit
set_option linter.unusedVariables false
set_option linter.unusedSimpArgs false

/-- Cells put one behind the other. -/
def setMany (cur : Array Value) (j : Nat) : List Value → Array Value
  | [] => cur
  | v :: vs => setMany (cur.setIfInBounds j v) (j + 1) vs
theorem setRow_self {W : World} {g : Nat} {t : TypeId} {cs : Array Value} (h : Blk W g t cs) : W.setRow g cs = W := by
  have hlt : g < W.heap.size := h.lt
  have hv : W.heap[g] = .cells cs t (0, 0) := (Array.getElem?_eq_some_iff.1 h).2
  unfold World.setRow
  cases W with
  | mk heap tape drawn os output =>
    congr 1
    apply Array.ext
    · simp
    · intro k h1 h2
      simp only [Array.getElem_modify]
      split
      · rename_i hk; subst hk; simp at hv; simp [hv]
      · rfl
theorem run_storeCells_off (g k : Nat) (t : TypeId) : ∀ (vs : List Value) (i : Nat) (cur : Array Value) (w : World), Blk w g t cur → k + i + vs.length ≤ cur.size → (∀ v ∈ vs, v.oneCell' = true) →
    (storeCells ⟨g, k, none⟩ vs i).run Try.prog w = .ok () (w.setRow g (setMany cur (k + i) vs))
  | [], i, cur, w, hg, hl, _ => by
    simp only [storeCells, setMany]
    rw [setRow_self hg]
    rfl
  | v :: rest, i, cur, w, hg, hl, h1 => by
    have hi : k + i < cur.size := by simp at hl; omega
    have hadd : (⟨g, k, none⟩ : Addr).add i = ⟨g, k + i, none⟩ := Go.WideShapes.add_plain ..
    have hcell : w.cell? ⟨g, k + i, none⟩ = some cur[k + i] := hg.cell (k + i) _ (by simp [hi])
    have hfro : w.frozen? ⟨g, k + i, none⟩ = false := hg.frozen _
    have hst : (store ((⟨g, k, none⟩ : Addr).add i) v).run Try.prog w = .ok () (w.setRow g (cur.setIfInBounds (k + i) v)) := by
      rw [hadd, run_store Try.prog w _ v _ (h1 v (by simp)), hcell]
      simp [hfro, setCell_eq_setRow w g (k + i) cur t (0, 0) v hg]
    have ih := run_storeCells_off g k t rest (i + 1) (cur.setIfInBounds (k + i) v) (w.setRow g (cur.setIfInBounds (k + i) v)) (hg.set _) (by simp at hl ⊢; omega) (fun x hx => h1 x (by simp [hx]))
    simp only [storeCells, Sem.run_bind, hst, Result.andThen_ok, ih, setRow_setRow, setMany]
    rfl
theorem run_storeVar_off {W : World} {g k : Nat} {t ty : TypeId} {cur cells : Array Value} (h : Blk W g t cur) (hi : (Try.prog.info? ty).map (·.size) = some cells.size) (hl : k + cells.size ≤ cur.size) (h1 : cells.all (·.oneCell') = true) :
    (storeVar ty ⟨g, k, none⟩ (.agg cells)).run Try.prog W = .ok () (W.setRow g (setMany cur k cells.toList)) := by
  have := run_storeCells_off g k t cells.toList 0 cur W h (by simp; omega) (fun v hv => (Array.all_eq_true_iff_forall_mem.1 h1) v (by simpa using hv))
  cases hq : Try.prog.info? ty with
  | none => simp [hq] at hi
  | some i =>
    have hs : cells.size = i.size := by simp [hq] at hi; omega
    simp [storeVar, sizeOf, typeInfo, hq, Value.cells, hs, this]
theorem step_store_off {ops : Array Oper} {o : Oper} {ac : Act} {K : Act → World → Prop} {Q : Exit → Act → World → Prop} {Z : Prop} {w : World} (hgd : o.guard = none) (ty : TypeId) (p x : Operand) (ho : o.op = Op.store ty p x) (g k : Nat) (t : TypeId) (cs cur new : Array Value)
    (hp : ac.eval p = .pointer (some ⟨g, k, none⟩)) (hx : ac.eval x = .agg cs) (hb : Blk w g t cur) (hi : (Try.prog.info? ty).map (·.size) = some cs.size) (hl : k + cs.size ≤ cur.size) (h1 : cs.all (·.oneCell') = true) (hn : setMany cur k cs.toList = new) (h : K (ac.put o.dst undef) (w.setRow g new)) :
    if Region.wanted o (yielded ops ac.tmps) = true then Oper.wp Try.prog o ac w K Q else Z := by
  have hw : Region.wanted o (yielded ops ac.tmps) = true := by simp [Region.wanted, hgd]
  rw [if_pos hw]
  subst hn
  unfold Oper.wp execOp
  simp only [ho, hp, hx, Instr.storeAt, Instr.sureAddr, Sem.run_bind, Sem.run_pure, Result.andThen_ok, run_storeVar_off hb hi hl h1]
  exact h
theorem Owns.cap_le {w : World} {B c n : Nat} {a : Option Addr} {l : List Int} (h : Owns w B (.slice a n c) l) : c ≤ 9223372036854775807 := by
  obtain ⟨_, h⟩ := h
  rcases h with ⟨h3, _⟩ | ⟨g, cap, cur, h3, h4, h5, h6, h7, _⟩
  · simp only [Value.slice.injEq] at h3
    omega
  · simp only [Value.slice.injEq] at h3
    obtain ⟨_, _, rfl⟩ := h3
    unfold maxLen at h7
    omega

set_option maxRecDepth 100000 in
set_option maxHeartbeats 4000000 in
theorem icmp_e2 (f sf sh sl df dh dl pr ho : Int) (fg : Bool) (id of : Int) (mo : Bool) (xa : Option Addr) (xn xc : Nat) (da : Option Addr) (dc : Nat) (l : List Int) (w : World) (h : Row w da l) (hnil : da = none → dc = 0) (hc : l.length ≤ dc) (hcm : dc ≤ 9223372036854775807) (hs : Ad.ok ⟨sf, sh, sl⟩) (hd : Ad.ok ⟨df, dh, dl⟩) (h8 : l.length < 8) :
    Calls Try.prog 58 #[.agg #[.int .i64 f, .int .i64 sf, .int .u64 sh, .int .u64 sl, .int .i64 df, .int .u64 dh, .int .u64 dl, .int .i64 pr, .int .i64 ho, .bool fg, .int .u32 id, .int .i64 of, .bool mo, .slice xa xn xc, .slice da l.length dc]] w (GotS w 2 zSg) := by
  obtain ⟨W1, hW1⟩ : ∃ W1, w.alloc (.cells #[.int .i64 f, .int .i64 sf, .int .u64 sh, .int .u64 sl, .int .i64 df, .int .u64 dh, .int .u64 dl, .int .i64 pr, .int .i64 ho, .bool fg, .int .u32 id, .int .i64 of, .bool mo, .slice xa xn xc, .slice da l.length dc] 64) = W1 := ⟨_, rfl⟩
  obtain ⟨W2, hW2⟩ : ∃ W2, W1.alloc (.cells #[.int .i64 0, .int .i64 0, .int .i64 0, .int .u64 0, .int .u64 0, .int .i64 0, .int .u64 0, .int .u64 0, .int .i64 0, .int .i64 0, .int .i64 0, .int .u32 0, .int .u32 0, .int .i64 0, .int .i64 0, .int .i64 0, .bool false, .int .i64 0, .int .i64 0, .int .i64 0, .int .u64 0, .int .u64 0, .int .i64 0, .int .u64 0, .int .u64 0, .int .i64 0, .int .i64 0, .slice none 0 0] 38) = W2 := ⟨_, rfl⟩
  have b1 : Below w.heap.size w W1 := by rw [← hW1]; exact (Below.refl _ _).alloc (Nat.le_refl _) _
  have b2 : Below w.heap.size w W2 := by rw [← hW2]; exact b1.alloc b1.size _
  have B1' : Blk W1 w.heap.size 64 #[.int .i64 f, .int .i64 sf, .int .u64 sh, .int .u64 sl, .int .i64 df, .int .u64 dh, .int .u64 dl, .int .i64 pr, .int .i64 ho, .bool fg, .int .u32 id, .int .i64 of, .bool mo, .slice xa xn xc, .slice da l.length dc] := by rw [← hW1]; exact blk_new _ _ _
  have B1 : Blk W2 w.heap.size 64 #[.int .i64 f, .int .i64 sf, .int .u64 sh, .int .u64 sl, .int .i64 df, .int .u64 dh, .int .u64 dl, .int .i64 pr, .int .i64 ho, .bool fg, .int .u32 id, .int .i64 of, .bool mo, .slice xa xn xc, .slice da l.length dc] := by rw [← hW2]; exact B1'.alloc _
  have B2 : Blk W2 W1.heap.size 38 #[.int .i64 0, .int .i64 0, .int .i64 0, .int .u64 0, .int .u64 0, .int .i64 0, .int .u64 0, .int .u64 0, .int .i64 0, .int .i64 0, .int .i64 0, .int .u32 0, .int .u32 0, .int .i64 0, .int .i64 0, .int .i64 0, .bool false, .int .i64 0, .int .i64 0, .int .i64 0, .int .u64 0, .int .u64 0, .int .i64 0, .int .u64 0, .int .u64 0, .int .i64 0, .int .i64 0, .slice none 0 0] := by rw [← hW2]; exact blk_new _ _ _
  have g1 : w.heap.size < W1.heap.size := B1'.lt
  clear B1'
  have d0 := B1.cell 0 (.int .i64 f) rfl
  have d14 := B1.cell 14 (.slice da l.length dc) rfl
  have h8' : (l.length : Int) < 8 := by omega
  have hbz : (Instr.build 38 #[]).run Try.prog W2 = .ok (.agg #[.int .i64 0, .int .i64 0, .int .i64 0, .int .u64 0, .int .u64 0, .int .i64 0, .int .u64 0, .int .u64 0, .int .i64 0, .int .i64 0, .int .i64 0, .int .u32 0, .int .u32 0, .int .i64 0, .int .i64 0, .int .i64 0, .bool false, .int .i64 0, .int .i64 0, .int .i64 0, .int .u64 0, .int .u64 0, .int .i64 0, .int .u64 0, .int .u64 0, .int .i64 0, .int .i64 0, .slice none 0 0]) W2 := by kernel_rfl
  go_enter Try.func58, Try.ntmps58
  have Bf := B2.set #[.int .i64 0, .int .i64 0, .int .i64 0, .int .u64 0, .int .u64 0, .int .i64 0, .int .u64 0, .int .u64 0, .int .i64 0, .int .i64 0, .int .i64 0, .int .u32 0, .int .u32 0, .int .i64 0, .int .i64 0, .int .i64 0, .bool false, .int .i64 0, .int .i64 0, .int .i64 0, .int .u64 0, .int .u64 0, .int .i64 0, .int .u64 0, .int .u64 0, .int .i64 0, .int .i64 0, .slice none 0 0]
  have bf := below_setRow b2 (Nat.le_of_lt g1) #[.int .i64 0, .int .i64 0, .int .i64 0, .int .u64 0, .int .u64 0, .int .i64 0, .int .u64 0, .int .u64 0, .int .i64 0, .int .i64 0, .int .i64 0, .int .u32 0, .int .u32 0, .int .i64 0, .int .i64 0, .int .i64 0, .bool false, .int .i64 0, .int .i64 0, .int .i64 0, .int .u64 0, .int .u64 0, .int .i64 0, .int .u64 0, .int .u64 0, .int .i64 0, .int .i64 0, .slice none 0 0]
  go_wp2_with (first
    | (refine wpList_build _ rfl _ _ rfl _ (by rfl) _ hbz ?_)
    | (refine wpList_store_row rfl _ _ _ rfl W1.heap.size #[.int .i64 0, .int .i64 0, .int .i64 0, .int .u64 0, .int .u64 0, .int .i64 0, .int .u64 0, .int .u64 0, .int .i64 0, .int .i64 0, .int .i64 0, .int .u32 0, .int .u32 0, .int .i64 0, .int .i64 0, .int .i64 0, .bool false, .int .i64 0, .int .i64 0, .int .i64 0, .int .u64 0, .int .u64 0, .int .i64 0, .int .u64 0, .int .u64 0, .int .i64 0, .int .i64 0, .slice none 0 0] (by rfl) (by rfl) _ _ B2 (by kernel_rfl) (by rfl) (by kernel_rfl) ?_))
  exact ret_cell_tmp (k := 2) (j := 3) Try.f58 (by kernel_rfl) Bf Try.underlying38 (by kernel_rfl) (by rfl) (by rfl) rfl ⟨none, 0, rfl, fresh_nil bf⟩

set_option maxRecDepth 100000 in
set_option maxHeartbeats 4000000 in
theorem icmp_e6 (f sf sh sl df dh dl pr ho : Int) (fg : Bool) (id of : Int) (mo : Bool) (xa : Option Addr) (xn xc : Nat) (bk off dc : Nat) (l : List Int) (w : World) (h : Row w (some ⟨bk, off, none⟩) l) (hc : l.length ≤ dc) (hcm : dc ≤ 9223372036854775807) (hs : Ad.ok ⟨sf, sh, sl⟩) (hd : Ad.ok ⟨df, dh, dl⟩) (h8 : ¬ l.length < 8) (hsum : sumsB ⟨sf, sh, sl⟩ ⟨df, dh, dl⟩ pr l = false) :
    Calls Try.prog 58 #[.agg #[.int .i64 f, .int .i64 sf, .int .u64 sh, .int .u64 sl, .int .i64 df, .int .u64 dh, .int .u64 dl, .int .i64 pr, .int .i64 ho, .bool fg, .int .u32 id, .int .i64 of, .bool mo, .slice xa xn xc, .slice (some ⟨bk, off, none⟩) l.length dc]] w (GotS w 6 zSg) := by
  obtain ⟨W1, hW1⟩ : ∃ W1, w.alloc (.cells #[.int .i64 f, .int .i64 sf, .int .u64 sh, .int .u64 sl, .int .i64 df, .int .u64 dh, .int .u64 dl, .int .i64 pr, .int .i64 ho, .bool fg, .int .u32 id, .int .i64 of, .bool mo, .slice xa xn xc, .slice (some ⟨bk, off, none⟩) l.length dc] 64) = W1 := ⟨_, rfl⟩
  obtain ⟨W2, hW2⟩ : ∃ W2, W1.alloc (.cells #[.int .i64 0, .int .i64 0, .int .i64 0, .int .u64 0, .int .u64 0, .int .i64 0, .int .u64 0, .int .u64 0, .int .i64 0, .int .i64 0, .int .i64 0, .int .u32 0, .int .u32 0, .int .i64 0, .int .i64 0, .int .i64 0, .bool false, .int .i64 0, .int .i64 0, .int .i64 0, .int .u64 0, .int .u64 0, .int .i64 0, .int .u64 0, .int .u64 0, .int .i64 0, .int .i64 0, .slice none 0 0] 38) = W2 := ⟨_, rfl⟩
  have b1 : Below w.heap.size w W1 := by rw [← hW1]; exact (Below.refl _ _).alloc (Nat.le_refl _) _
  have b2 : Below w.heap.size w W2 := by rw [← hW2]; exact b1.alloc b1.size _
  have B1' : Blk W1 w.heap.size 64 #[.int .i64 f, .int .i64 sf, .int .u64 sh, .int .u64 sl, .int .i64 df, .int .u64 dh, .int .u64 dl, .int .i64 pr, .int .i64 ho, .bool fg, .int .u32 id, .int .i64 of, .bool mo, .slice xa xn xc, .slice (some ⟨bk, off, none⟩) l.length dc] := by rw [← hW1]; exact blk_new _ _ _
  have B1 : Blk W2 w.heap.size 64 #[.int .i64 f, .int .i64 sf, .int .u64 sh, .int .u64 sl, .int .i64 df, .int .u64 dh, .int .u64 dl, .int .i64 pr, .int .i64 ho, .bool fg, .int .u32 id, .int .i64 of, .bool mo, .slice xa xn xc, .slice (some ⟨bk, off, none⟩) l.length dc] := by rw [← hW2]; exact B1'.alloc _
  have B2 : Blk W2 W1.heap.size 38 #[.int .i64 0, .int .i64 0, .int .i64 0, .int .u64 0, .int .u64 0, .int .i64 0, .int .u64 0, .int .u64 0, .int .i64 0, .int .i64 0, .int .i64 0, .int .u32 0, .int .u32 0, .int .i64 0, .int .i64 0, .int .i64 0, .bool false, .int .i64 0, .int .i64 0, .int .i64 0, .int .u64 0, .int .u64 0, .int .i64 0, .int .u64 0, .int .u64 0, .int .i64 0, .int .i64 0, .slice none 0 0] := by rw [← hW2]; exact blk_new _ _ _
  have g1 : w.heap.size < W1.heap.size := B1'.lt
  clear B1'
  have d0 := B1.cell 0 (.int .i64 f) rfl
  have d14 := B1.cell 14 (.slice (some ⟨bk, off, none⟩) l.length dc) rfl
  have h8' : ¬ (l.length : Int) < 8 := by omega
  have KS : Hid (∀ W, Row W (some ⟨bk, off, none⟩) l → Calls Try.prog 67 #[.agg #[.int .i64 f, .int .i64 sf, .int .u64 sh, .int .u64 sl, .int .i64 df, .int .u64 dh, .int .u64 dl, .int .i64 pr, .int .i64 ho, .bool fg, .int .u32 id, .int .i64 of, .bool mo, .slice xa xn xc, .slice (some ⟨bk, off, none⟩) l.length dc], .slice (some ⟨bk, off, none⟩) l.length dc] W fun e w' => e = .returned (.bool false) ∧ Below W.heap.size W w') := fun W hW => by
    have := sumsUp_any f sf sh sl df dh dl pr ho fg id of mo xa xn xc (some ⟨bk, off, none⟩) dc l (some ⟨bk, off, none⟩) dc l W hW hs hd
    rw [hsum] at this
    exact this
  clear hsum
  go_enter Try.func58, Try.ntmps58
  have r2 := h.below b2
  go_wp2_with (refine wpList_load_row rfl _ _ rfl w.heap.size (by rfl) _ _ _ _ B1 Try.underlying64 rfl (by kernel_rfl) ?_)
  refine Calls.mono (KS.out _ r2) ?_
  rintro e W4 ⟨rfl, bb⟩
  have b4 : Below w.heap.size w W4 := b2.trans (bb.mono b2.size)
  have B4 := B1.kept bb
  have B4' := B2.kept bb
  clear KS bb B1 B2 b2 r2 hW1 hW2 d0 d14
  have hbz : (Instr.build 38 #[]).run Try.prog W4 = .ok (.agg #[.int .i64 0, .int .i64 0, .int .i64 0, .int .u64 0, .int .u64 0, .int .i64 0, .int .u64 0, .int .u64 0, .int .i64 0, .int .i64 0, .int .i64 0, .int .u32 0, .int .u32 0, .int .i64 0, .int .i64 0, .int .i64 0, .bool false, .int .i64 0, .int .i64 0, .int .i64 0, .int .u64 0, .int .u64 0, .int .i64 0, .int .u64 0, .int .u64 0, .int .i64 0, .int .i64 0, .slice none 0 0]) W4 := by kernel_rfl
  have Bf := B4'.set #[.int .i64 0, .int .i64 0, .int .i64 0, .int .u64 0, .int .u64 0, .int .i64 0, .int .u64 0, .int .u64 0, .int .i64 0, .int .i64 0, .int .i64 0, .int .u32 0, .int .u32 0, .int .i64 0, .int .i64 0, .int .i64 0, .bool false, .int .i64 0, .int .i64 0, .int .i64 0, .int .u64 0, .int .u64 0, .int .i64 0, .int .u64 0, .int .u64 0, .int .i64 0, .int .i64 0, .slice none 0 0]
  have bf := below_setRow b4 (Nat.le_of_lt g1) #[.int .i64 0, .int .i64 0, .int .i64 0, .int .u64 0, .int .u64 0, .int .i64 0, .int .u64 0, .int .u64 0, .int .i64 0, .int .i64 0, .int .i64 0, .int .u32 0, .int .u32 0, .int .i64 0, .int .i64 0, .int .i64 0, .bool false, .int .i64 0, .int .i64 0, .int .i64 0, .int .u64 0, .int .u64 0, .int .i64 0, .int .u64 0, .int .u64 0, .int .i64 0, .int .i64 0, .slice none 0 0]
  go_wp2_with (first
    | (refine wpList_build _ rfl _ _ rfl _ (by rfl) _ hbz ?_)
    | (refine wpList_store_row rfl _ _ _ rfl W1.heap.size #[.int .i64 0, .int .i64 0, .int .i64 0, .int .u64 0, .int .u64 0, .int .i64 0, .int .u64 0, .int .u64 0, .int .i64 0, .int .i64 0, .int .i64 0, .int .u32 0, .int .u32 0, .int .i64 0, .int .i64 0, .int .i64 0, .bool false, .int .i64 0, .int .i64 0, .int .i64 0, .int .u64 0, .int .u64 0, .int .i64 0, .int .u64 0, .int .u64 0, .int .i64 0, .int .i64 0, .slice none 0 0] (by rfl) (by rfl) _ _ B4' (by kernel_rfl) (by rfl) (by kernel_rfl) ?_))
  exact ret_cell_tmp (k := 2) (j := 3) Try.f58 (by kernel_rfl) Bf Try.underlying38 (by kernel_rfl) (by rfl) (by rfl) rfl ⟨none, 0, rfl, fresh_nil bf⟩

end Go.Proofs.Ytgdpcomcndidcaa

namespace Go.Proofs.Ytgdpcomcndidcaa
open Go.RowKit
set_option linter.unusedVariables false
set_option linter.unusedSimpArgs false

theorem Owns.blk_other {W : World} {B g : Nat} {v : Value} {l : List Int} {t : TypeId} {cs : Array Value} (h : Owns W B v l) (hb : Blk W g t cs) (ht : t ≠ 5) (cs' : Array Value) : Owns (W.setRow g cs') B v l := by
  obtain ⟨h1, h2⟩ := h
  refine ⟨h1, ?_⟩
  rcases h2 with h2 | ⟨g', cap, cur, h3, h4, h5, h6⟩
  · exact .inl h2
  · have hne : g' ≠ g := by
      intro e
      subst e
      have hb' : W.heap[g']? = some (.cells cs t (0, 0)) := hb
      rw [hb'] at h5
      simp at h5
      exact ht h5.2
    exact .inr ⟨g', cap, cur, h3, h4, (setRow_heap_ne W g g' cs' hne).trans h5, h6⟩
theorem Owns.blk_put {W : World} {B g : Nat} {v : Value} {l : List Int} {t : TypeId} {cs : Array Value} (h : Owns W B v l) (hb : Blk W g t cs) (ht : t ≠ 5) (i : Nat) (x : Value) : Owns (W.setCell ⟨g, i, none⟩ x) B v l := by
  rw [setCell_eq_setRow W g i cs t (0, 0) x hb]
  exact h.blk_other hb ht _

set_option maxRecDepth 100000 in
set_option maxHeartbeats 4000000 in
theorem icmp_ok0 (f sf sh sl df dh dl pr ho : Int) (fg : Bool) (id of : Int) (mo : Bool) (xa : Option Addr) (xn xc : Nat) (bk off dc : Nat) (l : List Int) (w : World) (h : Row w (some ⟨bk, off, none⟩) l) (hc : l.length ≤ dc) (hcm : dc ≤ 9223372036854775807) (hs : Ad.ok ⟨sf, sh, sl⟩) (hd : Ad.ok ⟨df, dh, dl⟩) (hll : l.length ≤ 140737488351232) (h8 : ¬ l.length < 8) (hsum : sumsB ⟨sf, sh, sl⟩ ⟨df, dh, dl⟩ pr l = true) (her : isErr f (l.getD 0 0) = false) :
    Calls Try.prog 58 #[.agg #[.int .i64 f, .int .i64 sf, .int .u64 sh, .int .u64 sl, .int .i64 df, .int .u64 dh, .int .u64 dl, .int .i64 pr, .int .i64 ho, .bool fg, .int .u32 id, .int .i64 of, .bool mo, .slice xa xn xc, .slice (some ⟨bk, off, none⟩) l.length dc]] w (GotS w 0 (icmpX f pr ⟨sf, sh, sl⟩ ⟨df, dh, dl⟩ l)) := by
  obtain ⟨W1, hW1⟩ : ∃ W1, w.alloc (.cells #[.int .i64 f, .int .i64 sf, .int .u64 sh, .int .u64 sl, .int .i64 df, .int .u64 dh, .int .u64 dl, .int .i64 pr, .int .i64 ho, .bool fg, .int .u32 id, .int .i64 of, .bool mo, .slice xa xn xc, .slice (some ⟨bk, off, none⟩) l.length dc] 64) = W1 := ⟨_, rfl⟩
  obtain ⟨W2, hW2⟩ : ∃ W2, W1.alloc (.cells #[.int .i64 0, .int .i64 0, .int .i64 0, .int .u64 0, .int .u64 0, .int .i64 0, .int .u64 0, .int .u64 0, .int .i64 0, .int .i64 0, .int .i64 0, .int .u32 0, .int .u32 0, .int .i64 0, .int .i64 0, .int .i64 0, .bool false, .int .i64 0, .int .i64 0, .int .i64 0, .int .u64 0, .int .u64 0, .int .i64 0, .int .u64 0, .int .u64 0, .int .i64 0, .int .i64 0, .slice none 0 0] 38) = W2 := ⟨_, rfl⟩
  have b1 : Below w.heap.size w W1 := by rw [← hW1]; exact (Below.refl _ _).alloc (Nat.le_refl _) _
  have b2 : Below w.heap.size w W2 := by rw [← hW2]; exact b1.alloc b1.size _
  have B1' : Blk W1 w.heap.size 64 #[.int .i64 f, .int .i64 sf, .int .u64 sh, .int .u64 sl, .int .i64 df, .int .u64 dh, .int .u64 dl, .int .i64 pr, .int .i64 ho, .bool fg, .int .u32 id, .int .i64 of, .bool mo, .slice xa xn xc, .slice (some ⟨bk, off, none⟩) l.length dc] := by rw [← hW1]; exact blk_new _ _ _
  have B1 : Blk W2 w.heap.size 64 #[.int .i64 f, .int .i64 sf, .int .u64 sh, .int .u64 sl, .int .i64 df, .int .u64 dh, .int .u64 dl, .int .i64 pr, .int .i64 ho, .bool fg, .int .u32 id, .int .i64 of, .bool mo, .slice xa xn xc, .slice (some ⟨bk, off, none⟩) l.length dc] := by rw [← hW2]; exact B1'.alloc _
  have B2 : Blk W2 W1.heap.size 38 #[.int .i64 0, .int .i64 0, .int .i64 0, .int .u64 0, .int .u64 0, .int .i64 0, .int .u64 0, .int .u64 0, .int .i64 0, .int .i64 0, .int .i64 0, .int .u32 0, .int .u32 0, .int .i64 0, .int .i64 0, .int .i64 0, .bool false, .int .i64 0, .int .i64 0, .int .i64 0, .int .u64 0, .int .u64 0, .int .i64 0, .int .u64 0, .int .u64 0, .int .i64 0, .int .i64 0, .slice none 0 0] := by rw [← hW2]; exact blk_new _ _ _
  have g1 : w.heap.size < W1.heap.size := B1'.lt
  clear B1'
  have d0 := B1.cell 0 (.int .i64 f) rfl
  have d14 := B1.cell 14 (.slice (some ⟨bk, off, none⟩) l.length dc) rfl
  have h8' : ¬ (l.length : Int) < 8 := by omega
  obtain ⟨x0, e0⟩ : ∃ x, l.getD 0 0 = x := ⟨_, rfl⟩
  obtain ⟨x1, e1⟩ : ∃ x, l.getD 1 0 = x := ⟨_, rfl⟩
  have q0 := h.bytes.get 0
  have q1 := h.bytes.get 1
  obtain ⟨bk', off', ee, hcl⟩ := h.cells (by omega)
  cases ee
  have u0 := hcl 0 (by omega)
  have u1 := hcl 1 (by omega)
  rw [e0] at u0 q0 her
  rw [e1] at u1 q1
  rw [Nat.add_zero] at u0
  have i0 : (0 : Int) < (l.length : Int) := by omega
  have i1 : (1 : Int) < (l.length : Int) := by omega
  have hne' : ¬ l = [] := by intro e; rw [e] at h8; simp at h8
  have wx0 : IntKind.i64.wrap x0 = x0 := wraps_i64 _ (by omega) (by omega)
  have wx1 : IntKind.i64.wrap x1 = x1 := wraps_i64 _ (by omega) (by omega)
  have jh2 : (8 : Int) ≤ (l.length : Int) := by omega
  have n8 : 8 ≤ l.length := by omega
  obtain ⟨a3, ha3⟩ : ∃ a3 : Option Addr, (if dc = 8 then (some ⟨bk, off, none⟩) else Option.map (fun x : Addr => x.add 8) (some ⟨bk, off, none⟩)) = a3 := ⟨_, rfl⟩
  have H3 : Hid ((if dc = 8 then some (⟨bk, off, none⟩ : Addr) else some ⟨bk, off + 8, none⟩) = a3) := by
    have : (if dc = 8 then some (⟨bk, off, none⟩ : Addr) else some ⟨bk, off + 8, none⟩) = a3 := by
      rw [← ha3]
      simp [Go.WideShapes.add_plain]
    exact this
  obtain ⟨D, hD⟩ : ∃ D, l.drop 8 = D := ⟨_, rfl⟩
  have lD : D.length = l.length - 8 := by rw [← hD, List.length_drop]
  have KC : Hid (∀ W, Row W (some ⟨bk, off, none⟩) l → Calls Try.prog 72 #[.slice a3 (l.length - 8) (dc - 8)] W fun e w' => ∃ a' c', e = .returned (.slice a' D.length c') ∧ Fresh W w' a' c' D) := fun W hW => by
    have hr := hW.drop dc 8 hc
    rw [ha3, hD] at hr
    have := clone_any a3 (dc - 8) D W hr (fun e => by
      rw [e] at ha3
      split at ha3
      · cases ha3
      · cases ha3)
    rw [lD] at this ⊢
    exact this
  obtain ⟨V, hV⟩ : ∃ V, portsOf f pr l = V := ⟨_, rfl⟩
  have KW : Hid (∀ W, Row W (some ⟨bk, off, none⟩) l → Calls Try.prog 70 #[.agg #[.int .i64 f, .int .i64 sf, .int .u64 sh, .int .u64 sl, .int .i64 df, .int .u64 dh, .int .u64 dl, .int .i64 pr, .int .i64 ho, .bool fg, .int .u32 id, .int .i64 of, .bool mo, .slice xa xn xc, .slice (some ⟨bk, off, none⟩) l.length dc]] W fun e w' => e = .returned (.agg #[.int .i64 f, .int .i64 pr, .int .i64 sf, .int .u64 sh, .int .u64 sl, .int .i64 df, .int .u64 dh, .int .u64 dl, .int .i64 V.1, .int .i64 V.2]) ∧ Below W.heap.size W w') := fun W hW => by
    have := way_any f sf sh sl df dh dl pr ho fg id of mo xa xn xc (some ⟨bk, off, none⟩) dc l W hW (by omega)
    rw [hV] at this
    exact this
  have KI : Hid (∀ W, Calls Try.prog 13 #[.int .i64 f, .int .i64 x0] W fun e w' => e = .returned (.bool false) ∧ w' = W) := fun W => by
    have := isError_any f x0 W
    rw [her] at this
    exact this
  have e : icmpX f pr ⟨sf, sh, sl⟩ ⟨df, dh, dl⟩ l = ⟨⟨f, pr, ⟨sf, sh, sl⟩, ⟨df, dh, dl⟩, V.1, V.2⟩, 0, 0, 0, 0, x0, x1, false, zTp, D⟩ := by
    unfold icmpX endT
    rw [hV, e0, e1, hD, her]
    rfl
  rw [e]
  clear e
  have KS : Hid (∀ W, Row W (some ⟨bk, off, none⟩) l → Calls Try.prog 67 #[.agg #[.int .i64 f, .int .i64 sf, .int .u64 sh, .int .u64 sl, .int .i64 df, .int .u64 dh, .int .u64 dl, .int .i64 pr, .int .i64 ho, .bool fg, .int .u32 id, .int .i64 of, .bool mo, .slice xa xn xc, .slice (some ⟨bk, off, none⟩) l.length dc], .slice (some ⟨bk, off, none⟩) l.length dc] W fun e w' => e = .returned (.bool true) ∧ Below W.heap.size W w') := fun W hW => by
    have := sumsUp_any f sf sh sl df dh dl pr ho fg id of mo xa xn xc (some ⟨bk, off, none⟩) dc l (some ⟨bk, off, none⟩) dc l W hW hs hd
    rw [hsum] at this
    exact this
  clear hsum
  have hDs : D.length ≤ 140737488355328 := by have := h.small; omega
  have hDb : M.Bytes D := by rw [← hD]; exact h.bytes.drop 8
  clear e0 e1 hcl ha3 lD hV her hD
  go_enter Try.func58, Try.ntmps58
  have r2 := h.below b2
  go_wp2_with (refine wpList_load_row rfl _ _ rfl w.heap.size (by rfl) _ _ _ _ B1 Try.underlying64 rfl (by kernel_rfl) ?_)
  refine Calls.mono (KS.out _ r2) ?_
  rintro e W4 ⟨rfl, bb⟩
  have b4 : Below w.heap.size w W4 := b2.trans (bb.mono b2.size)
  have B4 := B1.kept bb
  have B4' := B2.kept bb
  clear KS bb B1 B2 b2 r2 hW1 hW2 d0 d14
  go_wp2_with fail
  refine wp_region_noPanic ?_
  refine wp_region_held_drew (S := fun w' => Blk w' w.heap.size 64 #[.int .i64 f, .int .i64 sf, .int .u64 sh, .int .u64 sl, .int .i64 df, .int .u64 dh, .int .u64 dl, .int .i64 pr, .int .i64 ho, .bool fg, .int .u32 id, .int .i64 of, .bool mo, .slice xa xn xc, .slice (some ⟨bk, off, none⟩) l.length dc] ∧ w'.cell? ⟨bk, off, none⟩ = some (.int .u8 x0) ∧ w'.cell? ⟨bk, off + 1, none⟩ = some (.int .u8 x1)) (by kernel_rfl) (by exact ⟨B4.drew, kept (b := bk) (o := off) b4.drew u0, kept (b := bk) (o := off + 1) b4.drew u1⟩) (fun hHeld => ?_)
  refine wpAnyH_take (i := 0) (oi := { dst := some 21, op := Op.load 64 (.tmp 1), type := 64, pos := "parse.go:82", after := #[], guard := none }) (v := (.agg #[.int .i64 f, .int .i64 sf, .int .u64 sh, .int .u64 sl, .int .i64 df, .int .u64 dh, .int .u64 dl, .int .i64 pr, .int .i64 ho, .bool fg, .int .u32 id, .int .i64 of, .bool mo, .slice xa xn xc, .slice (some ⟨bk, off, none⟩) l.length dc])) rfl (by kernel_rfl) (by kernel_rfl) (by kernel_rfl) (fun _ _ _ h => h) (yieldsIf_blk rfl _ _ rfl w.heap.size (by rfl) _ (fun _ hSw => hSw.1) Try.underlying64 (by kernel_rfl)) hHeld ?_
  try simp only [Act.put, List.setIfInBounds_toArray, List.set_cons_zero, List.set_cons_succ]
  refine wpAnyH_take (i := 2) (oi := { dst := some 23, op := Op.move (.tmp 4), type := 28, pos := "parse.go:82", after := #[], guard := none }) (v := (.slice (some ⟨bk, off, none⟩) l.length dc)) rfl (by kernel_rfl) (by kernel_rfl) (by kernel_rfl) (fun _ _ _ h => h) (Or.inl ⟨by rfl, ?_⟩) hHeld ?_
  · intro w9 hSw
    try dsimp only at hSw
    go_simp
  try simp only [Act.put, List.setIfInBounds_toArray, List.set_cons_zero, List.set_cons_succ]
  refine wpAnyH_take (i := 3) (oi := { dst := some 24, op := Op.indexAddr 28 (.tmp 23) (.const (.int .i64 0)), type := 0, pos := "parse.go:82", after := #[{ on := 2, ground := Ground.data }], guard := none }) (v := (.pointer (some ⟨bk, off, none⟩))) rfl (by kernel_rfl) (by kernel_rfl) (by kernel_rfl) (fun _ _ _ h => h) (Or.inl ⟨by rfl, ?_⟩) hHeld ?_
  · intro w9 hSw
    try dsimp only at hSw
    go_simp
  try simp only [Act.put, List.setIfInBounds_toArray, List.set_cons_zero, List.set_cons_succ]
  refine wpAnyH_take (i := 4) (oi := { dst := some 25, op := Op.load 5 (.tmp 24), type := 5, pos := "parse.go:82", after := #[{ on := 3, ground := Ground.data }], guard := none }) (v := (.int .u8 x0)) rfl (by kernel_rfl) (by kernel_rfl) (by kernel_rfl) (fun _ _ _ h => h) (Or.inl ⟨by rfl, ?_⟩) hHeld ?_
  · intro w9 hSw
    try dsimp only at hSw
    go_simp
  try simp only [Act.put, List.setIfInBounds_toArray, List.set_cons_zero, List.set_cons_succ]
  refine wpAnyH_take (i := 5) (oi := { dst := some 26, op := Op.convert 5 3 (.tmp 25), type := 3, pos := "parse.go:82", after := #[{ on := 4, ground := Ground.data }], guard := none }) (v := (.int .i64 x0)) rfl (by kernel_rfl) (by kernel_rfl) (by kernel_rfl) (fun _ _ _ h => h) (Or.inl ⟨by rfl, ?_⟩) hHeld ?_
  · intro w9 hSw
    try dsimp only at hSw
    go_simp
  try simp only [Act.put, List.setIfInBounds_toArray, List.set_cons_zero, List.set_cons_succ]
  refine wpAnyH_take (i := 6) (oi := { dst := some 27, op := Op.move (.tmp 4), type := 28, pos := "parse.go:82", after := #[], guard := none }) (v := (.slice (some ⟨bk, off, none⟩) l.length dc)) rfl (by kernel_rfl) (by kernel_rfl) (by kernel_rfl) (fun _ _ _ h => h) (Or.inl ⟨by rfl, ?_⟩) hHeld ?_
  · intro w9 hSw
    try dsimp only at hSw
    go_simp
  try simp only [Act.put, List.setIfInBounds_toArray, List.set_cons_zero, List.set_cons_succ]
  refine wpAnyH_take (i := 7) (oi := { dst := some 28, op := Op.indexAddr 28 (.tmp 27) (.const (.int .i64 1)), type := 0, pos := "parse.go:82", after := #[{ on := 6, ground := Ground.data }], guard := none }) (v := (.pointer (some ⟨bk, off + 1, none⟩))) rfl (by kernel_rfl) (by kernel_rfl) (by kernel_rfl) (fun _ _ _ h => h) (Or.inl ⟨by rfl, ?_⟩) hHeld ?_
  · intro w9 hSw
    try dsimp only at hSw
    go_simp
  try simp only [Act.put, List.setIfInBounds_toArray, List.set_cons_zero, List.set_cons_succ]
  refine wpAnyH_take (i := 8) (oi := { dst := some 29, op := Op.load 5 (.tmp 28), type := 5, pos := "parse.go:82", after := #[{ on := 7, ground := Ground.data }], guard := none }) (v := (.int .u8 x1)) rfl (by kernel_rfl) (by kernel_rfl) (by kernel_rfl) (fun _ _ _ h => h) (Or.inl ⟨by rfl, ?_⟩) hHeld ?_
  · intro w9 hSw
    try dsimp only at hSw
    go_simp
  try simp only [Act.put, List.setIfInBounds_toArray, List.set_cons_zero, List.set_cons_succ]
  refine wpAnyH_take (i := 9) (oi := { dst := some 30, op := Op.convert 5 3 (.tmp 29), type := 3, pos := "parse.go:82", after := #[{ on := 8, ground := Ground.data }], guard := none }) (v := (.int .i64 x1)) rfl (by kernel_rfl) (by kernel_rfl) (by kernel_rfl) (fun _ _ _ h => h) (Or.inl ⟨by rfl, ?_⟩) hHeld ?_
  · intro w9 hSw
    try dsimp only at hSw
    go_simp
  try simp only [Act.put, List.setIfInBounds_toArray, List.set_cons_zero, List.set_cons_succ]
  refine wpAnyH_take (i := 10) (oi := { dst := some 31, op := Op.move (.tmp 4), type := 28, pos := "parse.go:82", after := #[], guard := none }) (v := (.slice (some ⟨bk, off, none⟩) l.length dc)) rfl (by kernel_rfl) (by kernel_rfl) (by kernel_rfl) (fun _ _ _ h => h) (Or.inl ⟨by rfl, ?_⟩) hHeld ?_
  · intro w9 hSw
    try dsimp only at hSw
    go_simp
  try simp only [Act.put, List.setIfInBounds_toArray, List.set_cons_zero, List.set_cons_succ]
  refine wpAnyH_take (i := 11) (oi := { dst := some 32, op := Op.slice 28 (.tmp 31) (some (.const (.int .i64 8))) none none, type := 28, pos := "parse.go:82", after := #[{ on := 10, ground := Ground.data }], guard := none }) (v := (.slice a3 (l.length - 8) (dc - 8))) rfl (by kernel_rfl) (by kernel_rfl) (by kernel_rfl) (fun _ _ _ h => h) (Or.inl ⟨by rfl, ?_⟩) hHeld ?_
  · intro w9 hSw
    try dsimp only at hSw
    go_simp
    exact H3.out
  try simp only [Act.put, List.setIfInBounds_toArray, List.set_cons_zero, List.set_cons_succ]
  have c5 := b4.drew
  have P5 := B4.drew
  have R5 := B4'.drew
  obtain ⟨W5, hW5⟩ : ∃ W, W4.drew = W := ⟨_, rfl⟩
  rw [hW5] at c5 P5 R5 ⊢
  clear hW5 B4 B4' b4
  refine wpAnyH_ready (rs := [1, 14]) (by kernel_rfl) (by simp) ?_
  refine (AllReadyH.cons (o := { dst := some 22, op := Op.call { callee := Callee.value (.func 70), args := #[.tmp 21], argTypes := #[64] }, type := 26, pos := "parse.go:82", after := #[{ on := 0, ground := Ground.data }], guard := none }) rfl (fun K hK => ?_) (AllReadyH.cons (o := { dst := some 5, op := Op.alloc 38, type := 0, pos := "parse.go:82", after := #[], guard := none }) rfl (fun K hK => ?_) AllReadyH.nil))
  · go_simp
    refine Calls.mono (KW.out _ (h.below c5)) ?_
    rintro e W6 ⟨rfl, bb⟩
    have c6 : Below w.heap.size w W6 := c5.trans (bb.mono c5.size)
    have P6 := P5.kept bb
    have R6 := R5.kept bb
    clear bb
    refine hK.out _ _ (by exact ⟨P6, kept (b := bk) (o := off) c6 u0, kept (b := bk) (o := off + 1) c6 u1⟩) (fun hHeld => ?_)
    clear hK K
    try simp only [Act.put, List.setIfInBounds_toArray, List.set_cons_zero, List.set_cons_succ]
    refine wpAnyH_ready (rs := [12, 14]) (by kernel_rfl) (by simp) ?_
    refine (AllReadyH.cons (o := { dst := some 33, op := Op.call { callee := Callee.value (.func 72), args := #[.tmp 32], argTypes := #[28] }, type := 28, pos := "parse.go:82", after := #[{ on := 11, ground := Ground.data }, { on := 1, ground := Ground.chain }], guard := none }) rfl (fun K hK => ?_) (AllReadyH.cons (o := { dst := some 5, op := Op.alloc 38, type := 0, pos := "parse.go:82", after := #[], guard := none }) rfl (fun K hK => ?_) AllReadyH.nil))
    · go_simp
      refine Calls.mono (KC.out _ (h.below c6)) ?_
      rintro e W7 ⟨a9, c9, rfl, f9⟩
      have c7 : Below w.heap.size w W7 := c6.trans (f9.below.mono c6.size)
      have P7 := P6.kept f9.below
      have R7 := R6.kept f9.below
      have O7 := owns_le (B' := W1.heap.size + 1) (by have := R6.lt; omega) f9.owns
      have rm9 := f9.room
      have nl9 := f9.nil
      clear f9
      refine hK.out _ _ (by exact ⟨P7, kept (b := bk) (o := off) c7 u0, kept (b := bk) (o := off + 1) c7 u1⟩) (fun hHeld => ?_)
      clear hK K
      try simp only [Act.put, List.setIfInBounds_toArray, List.set_cons_zero, List.set_cons_succ]
      refine wpAnyH_take (i := 13) (oi := { dst := some 34, op := Op.build 38 #[(0, .tmp 22), (5, .tmp 26), (6, .tmp 30), (9, .tmp 33)], type := 38, pos := "parse.go:82", after := #[{ on := 1, ground := Ground.data }, { on := 5, ground := Ground.data }, { on := 9, ground := Ground.data }, { on := 12, ground := Ground.data }], guard := none }) (v := (.agg #[.int .i64 f, .int .i64 pr, .int .i64 sf, .int .u64 sh, .int .u64 sl, .int .i64 df, .int .u64 dh, .int .u64 dl, .int .i64 V.1, .int .i64 V.2, .int .i64 0, .int .u32 0, .int .u32 0, .int .i64 0, .int .i64 x0, .int .i64 x1, .bool false, .int .i64 0, .int .i64 0, .int .i64 0, .int .u64 0, .int .u64 0, .int .i64 0, .int .u64 0, .int .u64 0, .int .i64 0, .int .i64 0, .slice a9 D.length c9])) rfl (by kernel_rfl) (by kernel_rfl) (by kernel_rfl) (fun _ _ _ h => h) (yieldsIf_build rfl _ _ rfl #[(0, .agg #[.int .i64 f, .int .i64 pr, .int .i64 sf, .int .u64 sh, .int .u64 sl, .int .i64 df, .int .u64 dh, .int .u64 dl, .int .i64 V.1, .int .i64 V.2]), (5, .int .i64 x0), (6, .int .i64 x1), (9, .slice a9 D.length c9)] (by kernel_rfl) _ (fun w9 => by kernel_rfl)) hHeld ?_
      try simp only [Act.put, List.setIfInBounds_toArray, List.set_cons_zero, List.set_cons_succ]
      refine wpAnyH_ready (rs := [14]) (by kernel_rfl) (by simp) ?_
      refine AllReadyH.cons (o := { dst := some 5, op := Op.alloc 38, type := 0, pos := "parse.go:82", after := #[], guard := none }) rfl (fun K hK => ?_) AllReadyH.nil
      obtain ⟨W8, hA⟩ : ∃ W, W7.alloc (.cells #[.int .i64 0, .int .i64 0, .int .i64 0, .int .u64 0, .int .u64 0, .int .i64 0, .int .u64 0, .int .u64 0, .int .i64 0, .int .i64 0, .int .i64 0, .int .u32 0, .int .u32 0, .int .i64 0, .int .i64 0, .int .i64 0, .bool false, .int .i64 0, .int .i64 0, .int .i64 0, .int .u64 0, .int .u64 0, .int .i64 0, .int .u64 0, .int .u64 0, .int .i64 0, .int .i64 0, .slice none 0 0] 38) = W := ⟨_, rfl⟩
      have c8 : Below w.heap.size w W8 := by rw [← hA]; exact c7.alloc c7.size _
      have P8 := P7.alloc (.cells #[.int .i64 0, .int .i64 0, .int .i64 0, .int .u64 0, .int .u64 0, .int .i64 0, .int .u64 0, .int .u64 0, .int .i64 0, .int .i64 0, .int .i64 0, .int .u32 0, .int .u32 0, .int .i64 0, .int .i64 0, .int .i64 0, .bool false, .int .i64 0, .int .i64 0, .int .i64 0, .int .u64 0, .int .u64 0, .int .i64 0, .int .u64 0, .int .u64 0, .int .i64 0, .int .i64 0, .slice none 0 0] 38)
      rw [hA] at P8
      have R8 := R7.alloc (.cells #[.int .i64 0, .int .i64 0, .int .i64 0, .int .u64 0, .int .u64 0, .int .i64 0, .int .u64 0, .int .u64 0, .int .i64 0, .int .i64 0, .int .i64 0, .int .u32 0, .int .u32 0, .int .i64 0, .int .i64 0, .int .i64 0, .bool false, .int .i64 0, .int .i64 0, .int .i64 0, .int .u64 0, .int .u64 0, .int .i64 0, .int .u64 0, .int .u64 0, .int .i64 0, .int .i64 0, .slice none 0 0] 38)
      rw [hA] at R8
      have O8 := O7.alloc (.cells #[.int .i64 0, .int .i64 0, .int .i64 0, .int .u64 0, .int .u64 0, .int .i64 0, .int .u64 0, .int .u64 0, .int .i64 0, .int .i64 0, .int .i64 0, .int .u32 0, .int .u32 0, .int .i64 0, .int .i64 0, .int .i64 0, .bool false, .int .i64 0, .int .i64 0, .int .i64 0, .int .u64 0, .int .u64 0, .int .i64 0, .int .u64 0, .int .u64 0, .int .i64 0, .int .i64 0, .slice none 0 0] 38)
      rw [hA] at O8
      have N8 : Blk W8 W7.heap.size 38 #[.int .i64 0, .int .i64 0, .int .i64 0, .int .u64 0, .int .u64 0, .int .i64 0, .int .u64 0, .int .u64 0, .int .i64 0, .int .i64 0, .int .i64 0, .int .u32 0, .int .u32 0, .int .i64 0, .int .i64 0, .int .i64 0, .bool false, .int .i64 0, .int .i64 0, .int .i64 0, .int .u64 0, .int .u64 0, .int .i64 0, .int .u64 0, .int .u64 0, .int .i64 0, .int .i64 0, .slice none 0 0] := by rw [← hA]; exact blk_new _ _ _
      obtain ⟨G, hG⟩ : ∃ G, W7.heap.size = G := ⟨_, rfl⟩
      have gG : W1.heap.size < G := by rw [← hG]; exact R7.lt
      go_simp
      rw [hG] at N8
      refine hK.out _ _ (by exact ⟨P8, kept (b := bk) (o := off) c8 u0, kept (b := bk) (o := off + 1) c8 u1⟩) (fun hHeld => ?_)
      clear hK K hA hG
      try simp only [Act.put, List.setIfInBounds_toArray, List.set_cons_zero, List.set_cons_succ]
      refine wpAnyH_ready (rs := [15]) (by kernel_rfl) (by simp) ?_
      refine AllReadyH.cons (o := { dst := none, op := Op.store 38 (.tmp 5) (.tmp 34), type := 0, pos := "parse.go:82", after := #[{ on := 14, ground := Ground.data }, { on := 13, ground := Ground.data }, { on := 12, ground := Ground.chain }, { on := 0, ground := Ground.phase }, { on := 1, ground := Ground.phase }, { on := 2, ground := Ground.phase }, { on := 3, ground := Ground.phase }, { on := 4, ground := Ground.phase }, { on := 5, ground := Ground.phase }, { on := 6, ground := Ground.phase }, { on := 7, ground := Ground.phase }, { on := 8, ground := Ground.phase }, { on := 9, ground := Ground.phase }, { on := 10, ground := Ground.phase }, { on := 11, ground := Ground.phase }, { on := 12, ground := Ground.phase }, { on := 13, ground := Ground.phase }, { on := 14, ground := Ground.phase }], guard := none }) rfl (fun K hK => ?_) AllReadyH.nil
      refine step_store_blk rfl _ _ _ rfl G #[.int .i64 f, .int .i64 pr, .int .i64 sf, .int .u64 sh, .int .u64 sl, .int .i64 df, .int .u64 dh, .int .u64 dl, .int .i64 V.1, .int .i64 V.2, .int .i64 0, .int .u32 0, .int .u32 0, .int .i64 0, .int .i64 x0, .int .i64 x1, .bool false, .int .i64 0, .int .i64 0, .int .i64 0, .int .u64 0, .int .u64 0, .int .i64 0, .int .u64 0, .int .u64 0, .int .i64 0, .int .i64 0, .slice a9 D.length c9] _ (by kernel_rfl) (by kernel_rfl) N8 (by kernel_rfl) (by rfl) (by kernel_rfl) ?_
      have P9 := P8.other (show w.heap.size ≠ G by omega) #[.int .i64 f, .int .i64 pr, .int .i64 sf, .int .u64 sh, .int .u64 sl, .int .i64 df, .int .u64 dh, .int .u64 dl, .int .i64 V.1, .int .i64 V.2, .int .i64 0, .int .u32 0, .int .u32 0, .int .i64 0, .int .i64 x0, .int .i64 x1, .bool false, .int .i64 0, .int .i64 0, .int .i64 0, .int .u64 0, .int .u64 0, .int .i64 0, .int .u64 0, .int .u64 0, .int .i64 0, .int .i64 0, .slice a9 D.length c9]
      have R9 := R8.other (show W1.heap.size ≠ G by omega) #[.int .i64 f, .int .i64 pr, .int .i64 sf, .int .u64 sh, .int .u64 sl, .int .i64 df, .int .u64 dh, .int .u64 dl, .int .i64 V.1, .int .i64 V.2, .int .i64 0, .int .u32 0, .int .u32 0, .int .i64 0, .int .i64 x0, .int .i64 x1, .bool false, .int .i64 0, .int .i64 0, .int .i64 0, .int .u64 0, .int .u64 0, .int .i64 0, .int .u64 0, .int .u64 0, .int .i64 0, .int .i64 0, .slice a9 D.length c9]
      have N9 := N8.set #[.int .i64 f, .int .i64 pr, .int .i64 sf, .int .u64 sh, .int .u64 sl, .int .i64 df, .int .u64 dh, .int .u64 dl, .int .i64 V.1, .int .i64 V.2, .int .i64 0, .int .u32 0, .int .u32 0, .int .i64 0, .int .i64 x0, .int .i64 x1, .bool false, .int .i64 0, .int .i64 0, .int .i64 0, .int .u64 0, .int .u64 0, .int .i64 0, .int .u64 0, .int .u64 0, .int .i64 0, .int .i64 0, .slice a9 D.length c9]
      have O9 := O8.blk_other N8 (by decide) #[.int .i64 f, .int .i64 pr, .int .i64 sf, .int .u64 sh, .int .u64 sl, .int .i64 df, .int .u64 dh, .int .u64 dl, .int .i64 V.1, .int .i64 V.2, .int .i64 0, .int .u32 0, .int .u32 0, .int .i64 0, .int .i64 x0, .int .i64 x1, .bool false, .int .i64 0, .int .i64 0, .int .i64 0, .int .u64 0, .int .u64 0, .int .i64 0, .int .u64 0, .int .u64 0, .int .i64 0, .int .i64 0, .slice a9 D.length c9]
      have c9' := below_setRow c8 (show w.heap.size ≤ G by omega) #[.int .i64 f, .int .i64 pr, .int .i64 sf, .int .u64 sh, .int .u64 sl, .int .i64 df, .int .u64 dh, .int .u64 dl, .int .i64 V.1, .int .i64 V.2, .int .i64 0, .int .u32 0, .int .u32 0, .int .i64 0, .int .i64 x0, .int .i64 x1, .bool false, .int .i64 0, .int .i64 0, .int .i64 0, .int .u64 0, .int .u64 0, .int .i64 0, .int .u64 0, .int .u64 0, .int .i64 0, .int .i64 0, .slice a9 D.length c9]
      refine hK.out _ _ (by exact ⟨P9, kept (b := bk) (o := off) c9' u0, kept (b := bk) (o := off + 1) c9' u1⟩) (fun hHeld => ?_)
      clear hK K hHeld N8 P8 R8 O8 c8
      generalize W8.setRow G #[.int .i64 f, .int .i64 pr, .int .i64 sf, .int .u64 sh, .int .u64 sl, .int .i64 df, .int .u64 dh, .int .u64 dl, .int .i64 V.1, .int .i64 V.2, .int .i64 0, .int .u32 0, .int .u32 0, .int .i64 0, .int .i64 x0, .int .i64 x1, .bool false, .int .i64 0, .int .i64 0, .int .i64 0, .int .u64 0, .int .u64 0, .int .i64 0, .int .u64 0, .int .u64 0, .int .i64 0, .int .i64 0, .slice a9 D.length c9] = W9 at *
      try simp only [Act.put, List.setIfInBounds_toArray, List.set_cons_zero, List.set_cons_succ]
      refine wpAnyH_done (by kernel_rfl) ?_ _
      refine NoPanic.normal ?_
      have d0 := P9.cell 0 (.int .i64 f) rfl
      have s14 := N9.cell 14 (.int .i64 x0) rfl
      have s27 := N9.cell 27 (.slice a9 D.length c9) rfl
      have rD := O9.row hDs hDb
      go_wp2_with fail
      refine Calls.mono (KI.out _) ?_
      rintro e W10 ⟨rfl, hW10⟩
      subst hW10
      clear KI
      have Bf := R9.set #[.int .i64 f, .int .i64 pr, .int .i64 sf, .int .u64 sh, .int .u64 sl, .int .i64 df, .int .u64 dh, .int .u64 dl, .int .i64 V.1, .int .i64 V.2, .int .i64 0, .int .u32 0, .int .u32 0, .int .i64 0, .int .i64 x0, .int .i64 x1, .bool false, .int .i64 0, .int .i64 0, .int .i64 0, .int .u64 0, .int .u64 0, .int .i64 0, .int .u64 0, .int .u64 0, .int .i64 0, .int .i64 0, .slice a9 D.length c9]
      have bf := below_setRow c9' (Nat.le_of_lt g1) #[.int .i64 f, .int .i64 pr, .int .i64 sf, .int .u64 sh, .int .u64 sl, .int .i64 df, .int .u64 dh, .int .u64 dl, .int .i64 V.1, .int .i64 V.2, .int .i64 0, .int .u32 0, .int .u32 0, .int .i64 0, .int .i64 x0, .int .i64 x1, .bool false, .int .i64 0, .int .i64 0, .int .i64 0, .int .u64 0, .int .u64 0, .int .i64 0, .int .u64 0, .int .u64 0, .int .i64 0, .int .i64 0, .slice a9 D.length c9]
      have Of := O9.blk_other R9 (by decide) #[.int .i64 f, .int .i64 pr, .int .i64 sf, .int .u64 sh, .int .u64 sl, .int .i64 df, .int .u64 dh, .int .u64 dl, .int .i64 V.1, .int .i64 V.2, .int .i64 0, .int .u32 0, .int .u32 0, .int .i64 0, .int .i64 x0, .int .i64 x1, .bool false, .int .i64 0, .int .i64 0, .int .i64 0, .int .u64 0, .int .u64 0, .int .i64 0, .int .u64 0, .int .u64 0, .int .i64 0, .int .i64 0, .slice a9 D.length c9]
      go_wp2_with (first
        | (refine wpList_load_row rfl _ _ rfl G (by rfl) _ _ _ _ N9 Try.underlying38 rfl (by kernel_rfl) ?_)
        | (refine wpList_store_row rfl _ _ _ rfl W1.heap.size #[.int .i64 f, .int .i64 pr, .int .i64 sf, .int .u64 sh, .int .u64 sl, .int .i64 df, .int .u64 dh, .int .u64 dl, .int .i64 V.1, .int .i64 V.2, .int .i64 0, .int .u32 0, .int .u32 0, .int .i64 0, .int .i64 x0, .int .i64 x1, .bool false, .int .i64 0, .int .i64 0, .int .i64 0, .int .u64 0, .int .u64 0, .int .i64 0, .int .u64 0, .int .u64 0, .int .i64 0, .int .i64 0, .slice a9 D.length c9] (by rfl) (by rfl) _ _ R9 (by kernel_rfl) (by rfl) (by kernel_rfl) ?_))
      refine ret_cell_tmp (k := 2) (j := 3) Try.f58 (by kernel_rfl) Bf Try.underlying38 (by kernel_rfl) (by rfl) (by rfl) rfl ?_
      exact ⟨a9, c9, rfl, owns_le (by omega) Of, rm9, nl9, Of.row hDs hDb, bf⟩
    · obtain ⟨W7, hA⟩ : ∃ W, W6.alloc (.cells #[.int .i64 0, .int .i64 0, .int .i64 0, .int .u64 0, .int .u64 0, .int .i64 0, .int .u64 0, .int .u64 0, .int .i64 0, .int .i64 0, .int .i64 0, .int .u32 0, .int .u32 0, .int .i64 0, .int .i64 0, .int .i64 0, .bool false, .int .i64 0, .int .i64 0, .int .i64 0, .int .u64 0, .int .u64 0, .int .i64 0, .int .u64 0, .int .u64 0, .int .i64 0, .int .i64 0, .slice none 0 0] 38) = W := ⟨_, rfl⟩
      have c7 : Below w.heap.size w W7 := by rw [← hA]; exact c6.alloc c6.size _
      have P7 := P6.alloc (.cells #[.int .i64 0, .int .i64 0, .int .i64 0, .int .u64 0, .int .u64 0, .int .i64 0, .int .u64 0, .int .u64 0, .int .i64 0, .int .i64 0, .int .i64 0, .int .u32 0, .int .u32 0, .int .i64 0, .int .i64 0, .int .i64 0, .bool false, .int .i64 0, .int .i64 0, .int .i64 0, .int .u64 0, .int .u64 0, .int .i64 0, .int .u64 0, .int .u64 0, .int .i64 0, .int .i64 0, .slice none 0 0] 38)
      rw [hA] at P7
      have R7 := R6.alloc (.cells #[.int .i64 0, .int .i64 0, .int .i64 0, .int .u64 0, .int .u64 0, .int .i64 0, .int .u64 0, .int .u64 0, .int .i64 0, .int .i64 0, .int .i64 0, .int .u32 0, .int .u32 0, .int .i64 0, .int .i64 0, .int .i64 0, .bool false, .int .i64 0, .int .i64 0, .int .i64 0, .int .u64 0, .int .u64 0, .int .i64 0, .int .u64 0, .int .u64 0, .int .i64 0, .int .i64 0, .slice none 0 0] 38)
      rw [hA] at R7
      have N7 : Blk W7 W6.heap.size 38 #[.int .i64 0, .int .i64 0, .int .i64 0, .int .u64 0, .int .u64 0, .int .i64 0, .int .u64 0, .int .u64 0, .int .i64 0, .int .i64 0, .int .i64 0, .int .u32 0, .int .u32 0, .int .i64 0, .int .i64 0, .int .i64 0, .bool false, .int .i64 0, .int .i64 0, .int .i64 0, .int .u64 0, .int .u64 0, .int .i64 0, .int .u64 0, .int .u64 0, .int .i64 0, .int .i64 0, .slice none 0 0] := by rw [← hA]; exact blk_new _ _ _
      obtain ⟨G, hG⟩ : ∃ G, W6.heap.size = G := ⟨_, rfl⟩
      have gG : W1.heap.size < G := by rw [← hG]; exact R6.lt
      go_simp
      rw [hG] at N7
      refine hK.out _ _ (by exact ⟨P7, kept (b := bk) (o := off) c7 u0, kept (b := bk) (o := off + 1) c7 u1⟩) (fun hHeld => ?_)
      clear hK K hA hG
      try simp only [Act.put, List.setIfInBounds_toArray, List.set_cons_zero, List.set_cons_succ]
      refine wpAnyH_ready (rs := [12]) (by kernel_rfl) (by simp) ?_
      refine AllReadyH.cons (o := { dst := some 33, op := Op.call { callee := Callee.value (.func 72), args := #[.tmp 32], argTypes := #[28] }, type := 28, pos := "parse.go:82", after := #[{ on := 11, ground := Ground.data }, { on := 1, ground := Ground.chain }], guard := none }) rfl (fun K hK => ?_) AllReadyH.nil
      go_simp
      refine Calls.mono (KC.out _ (h.below c7)) ?_
      rintro e W8 ⟨a9, c9, rfl, f9⟩
      have c8 : Below w.heap.size w W8 := c7.trans (f9.below.mono c7.size)
      have P8 := P7.kept f9.below
      have R8 := R7.kept f9.below
      have N8 := N7.kept f9.below
      have O8 := owns_le (B' := W1.heap.size + 1) (by have := R7.lt; omega) f9.owns
      have rm9 := f9.room
      have nl9 := f9.nil
      clear f9
      refine hK.out _ _ (by exact ⟨P8, kept (b := bk) (o := off) c8 u0, kept (b := bk) (o := off + 1) c8 u1⟩) (fun hHeld => ?_)
      clear hK K
      try simp only [Act.put, List.setIfInBounds_toArray, List.set_cons_zero, List.set_cons_succ]
      refine wpAnyH_take (i := 13) (oi := { dst := some 34, op := Op.build 38 #[(0, .tmp 22), (5, .tmp 26), (6, .tmp 30), (9, .tmp 33)], type := 38, pos := "parse.go:82", after := #[{ on := 1, ground := Ground.data }, { on := 5, ground := Ground.data }, { on := 9, ground := Ground.data }, { on := 12, ground := Ground.data }], guard := none }) (v := (.agg #[.int .i64 f, .int .i64 pr, .int .i64 sf, .int .u64 sh, .int .u64 sl, .int .i64 df, .int .u64 dh, .int .u64 dl, .int .i64 V.1, .int .i64 V.2, .int .i64 0, .int .u32 0, .int .u32 0, .int .i64 0, .int .i64 x0, .int .i64 x1, .bool false, .int .i64 0, .int .i64 0, .int .i64 0, .int .u64 0, .int .u64 0, .int .i64 0, .int .u64 0, .int .u64 0, .int .i64 0, .int .i64 0, .slice a9 D.length c9])) rfl (by kernel_rfl) (by kernel_rfl) (by kernel_rfl) (fun _ _ _ h => h) (yieldsIf_build rfl _ _ rfl #[(0, .agg #[.int .i64 f, .int .i64 pr, .int .i64 sf, .int .u64 sh, .int .u64 sl, .int .i64 df, .int .u64 dh, .int .u64 dl, .int .i64 V.1, .int .i64 V.2]), (5, .int .i64 x0), (6, .int .i64 x1), (9, .slice a9 D.length c9)] (by kernel_rfl) _ (fun w9 => by kernel_rfl)) hHeld ?_
      try simp only [Act.put, List.setIfInBounds_toArray, List.set_cons_zero, List.set_cons_succ]
      refine wpAnyH_ready (rs := [15]) (by kernel_rfl) (by simp) ?_
      refine AllReadyH.cons (o := { dst := none, op := Op.store 38 (.tmp 5) (.tmp 34), type := 0, pos := "parse.go:82", after := #[{ on := 14, ground := Ground.data }, { on := 13, ground := Ground.data }, { on := 12, ground := Ground.chain }, { on := 0, ground := Ground.phase }, { on := 1, ground := Ground.phase }, { on := 2, ground := Ground.phase }, { on := 3, ground := Ground.phase }, { on := 4, ground := Ground.phase }, { on := 5, ground := Ground.phase }, { on := 6, ground := Ground.phase }, { on := 7, ground := Ground.phase }, { on := 8, ground := Ground.phase }, { on := 9, ground := Ground.phase }, { on := 10, ground := Ground.phase }, { on := 11, ground := Ground.phase }, { on := 12, ground := Ground.phase }, { on := 13, ground := Ground.phase }, { on := 14, ground := Ground.phase }], guard := none }) rfl (fun K hK => ?_) AllReadyH.nil
      refine step_store_blk rfl _ _ _ rfl G #[.int .i64 f, .int .i64 pr, .int .i64 sf, .int .u64 sh, .int .u64 sl, .int .i64 df, .int .u64 dh, .int .u64 dl, .int .i64 V.1, .int .i64 V.2, .int .i64 0, .int .u32 0, .int .u32 0, .int .i64 0, .int .i64 x0, .int .i64 x1, .bool false, .int .i64 0, .int .i64 0, .int .i64 0, .int .u64 0, .int .u64 0, .int .i64 0, .int .u64 0, .int .u64 0, .int .i64 0, .int .i64 0, .slice a9 D.length c9] _ (by kernel_rfl) (by kernel_rfl) N8 (by kernel_rfl) (by rfl) (by kernel_rfl) ?_
      have P9 := P8.other (show w.heap.size ≠ G by omega) #[.int .i64 f, .int .i64 pr, .int .i64 sf, .int .u64 sh, .int .u64 sl, .int .i64 df, .int .u64 dh, .int .u64 dl, .int .i64 V.1, .int .i64 V.2, .int .i64 0, .int .u32 0, .int .u32 0, .int .i64 0, .int .i64 x0, .int .i64 x1, .bool false, .int .i64 0, .int .i64 0, .int .i64 0, .int .u64 0, .int .u64 0, .int .i64 0, .int .u64 0, .int .u64 0, .int .i64 0, .int .i64 0, .slice a9 D.length c9]
      have R9 := R8.other (show W1.heap.size ≠ G by omega) #[.int .i64 f, .int .i64 pr, .int .i64 sf, .int .u64 sh, .int .u64 sl, .int .i64 df, .int .u64 dh, .int .u64 dl, .int .i64 V.1, .int .i64 V.2, .int .i64 0, .int .u32 0, .int .u32 0, .int .i64 0, .int .i64 x0, .int .i64 x1, .bool false, .int .i64 0, .int .i64 0, .int .i64 0, .int .u64 0, .int .u64 0, .int .i64 0, .int .u64 0, .int .u64 0, .int .i64 0, .int .i64 0, .slice a9 D.length c9]
      have N9 := N8.set #[.int .i64 f, .int .i64 pr, .int .i64 sf, .int .u64 sh, .int .u64 sl, .int .i64 df, .int .u64 dh, .int .u64 dl, .int .i64 V.1, .int .i64 V.2, .int .i64 0, .int .u32 0, .int .u32 0, .int .i64 0, .int .i64 x0, .int .i64 x1, .bool false, .int .i64 0, .int .i64 0, .int .i64 0, .int .u64 0, .int .u64 0, .int .i64 0, .int .u64 0, .int .u64 0, .int .i64 0, .int .i64 0, .slice a9 D.length c9]
      have O9 := O8.blk_other N8 (by decide) #[.int .i64 f, .int .i64 pr, .int .i64 sf, .int .u64 sh, .int .u64 sl, .int .i64 df, .int .u64 dh, .int .u64 dl, .int .i64 V.1, .int .i64 V.2, .int .i64 0, .int .u32 0, .int .u32 0, .int .i64 0, .int .i64 x0, .int .i64 x1, .bool false, .int .i64 0, .int .i64 0, .int .i64 0, .int .u64 0, .int .u64 0, .int .i64 0, .int .u64 0, .int .u64 0, .int .i64 0, .int .i64 0, .slice a9 D.length c9]
      have c9' := below_setRow c8 (show w.heap.size ≤ G by omega) #[.int .i64 f, .int .i64 pr, .int .i64 sf, .int .u64 sh, .int .u64 sl, .int .i64 df, .int .u64 dh, .int .u64 dl, .int .i64 V.1, .int .i64 V.2, .int .i64 0, .int .u32 0, .int .u32 0, .int .i64 0, .int .i64 x0, .int .i64 x1, .bool false, .int .i64 0, .int .i64 0, .int .i64 0, .int .u64 0, .int .u64 0, .int .i64 0, .int .u64 0, .int .u64 0, .int .i64 0, .int .i64 0, .slice a9 D.length c9]
      refine hK.out _ _ (by exact ⟨P9, kept (b := bk) (o := off) c9' u0, kept (b := bk) (o := off + 1) c9' u1⟩) (fun hHeld => ?_)
      clear hK K hHeld N8 P8 R8 O8 c8
      generalize W8.setRow G #[.int .i64 f, .int .i64 pr, .int .i64 sf, .int .u64 sh, .int .u64 sl, .int .i64 df, .int .u64 dh, .int .u64 dl, .int .i64 V.1, .int .i64 V.2, .int .i64 0, .int .u32 0, .int .u32 0, .int .i64 0, .int .i64 x0, .int .i64 x1, .bool false, .int .i64 0, .int .i64 0, .int .i64 0, .int .u64 0, .int .u64 0, .int .i64 0, .int .u64 0, .int .u64 0, .int .i64 0, .int .i64 0, .slice a9 D.length c9] = W9 at *
      try simp only [Act.put, List.setIfInBounds_toArray, List.set_cons_zero, List.set_cons_succ]
      refine wpAnyH_done (by kernel_rfl) ?_ _
      refine NoPanic.normal ?_
      have d0 := P9.cell 0 (.int .i64 f) rfl
      have s14 := N9.cell 14 (.int .i64 x0) rfl
      have s27 := N9.cell 27 (.slice a9 D.length c9) rfl
      have rD := O9.row hDs hDb
      go_wp2_with fail
      refine Calls.mono (KI.out _) ?_
      rintro e W10 ⟨rfl, hW10⟩
      subst hW10
      clear KI
      have Bf := R9.set #[.int .i64 f, .int .i64 pr, .int .i64 sf, .int .u64 sh, .int .u64 sl, .int .i64 df, .int .u64 dh, .int .u64 dl, .int .i64 V.1, .int .i64 V.2, .int .i64 0, .int .u32 0, .int .u32 0, .int .i64 0, .int .i64 x0, .int .i64 x1, .bool false, .int .i64 0, .int .i64 0, .int .i64 0, .int .u64 0, .int .u64 0, .int .i64 0, .int .u64 0, .int .u64 0, .int .i64 0, .int .i64 0, .slice a9 D.length c9]
      have bf := below_setRow c9' (Nat.le_of_lt g1) #[.int .i64 f, .int .i64 pr, .int .i64 sf, .int .u64 sh, .int .u64 sl, .int .i64 df, .int .u64 dh, .int .u64 dl, .int .i64 V.1, .int .i64 V.2, .int .i64 0, .int .u32 0, .int .u32 0, .int .i64 0, .int .i64 x0, .int .i64 x1, .bool false, .int .i64 0, .int .i64 0, .int .i64 0, .int .u64 0, .int .u64 0, .int .i64 0, .int .u64 0, .int .u64 0, .int .i64 0, .int .i64 0, .slice a9 D.length c9]
      have Of := O9.blk_other R9 (by decide) #[.int .i64 f, .int .i64 pr, .int .i64 sf, .int .u64 sh, .int .u64 sl, .int .i64 df, .int .u64 dh, .int .u64 dl, .int .i64 V.1, .int .i64 V.2, .int .i64 0, .int .u32 0, .int .u32 0, .int .i64 0, .int .i64 x0, .int .i64 x1, .bool false, .int .i64 0, .int .i64 0, .int .i64 0, .int .u64 0, .int .u64 0, .int .i64 0, .int .u64 0, .int .u64 0, .int .i64 0, .int .i64 0, .slice a9 D.length c9]
      go_wp2_with (first
        | (refine wpList_load_row rfl _ _ rfl G (by rfl) _ _ _ _ N9 Try.underlying38 rfl (by kernel_rfl) ?_)
        | (refine wpList_store_row rfl _ _ _ rfl W1.heap.size #[.int .i64 f, .int .i64 pr, .int .i64 sf, .int .u64 sh, .int .u64 sl, .int .i64 df, .int .u64 dh, .int .u64 dl, .int .i64 V.1, .int .i64 V.2, .int .i64 0, .int .u32 0, .int .u32 0, .int .i64 0, .int .i64 x0, .int .i64 x1, .bool false, .int .i64 0, .int .i64 0, .int .i64 0, .int .u64 0, .int .u64 0, .int .i64 0, .int .u64 0, .int .u64 0, .int .i64 0, .int .i64 0, .slice a9 D.length c9] (by rfl) (by rfl) _ _ R9 (by kernel_rfl) (by rfl) (by kernel_rfl) ?_))
      refine ret_cell_tmp (k := 2) (j := 3) Try.f58 (by kernel_rfl) Bf Try.underlying38 (by kernel_rfl) (by rfl) (by rfl) rfl ?_
      exact ⟨a9, c9, rfl, owns_le (by omega) Of, rm9, nl9, Of.row hDs hDb, bf⟩
  · obtain ⟨W6, hA⟩ : ∃ W, W5.alloc (.cells #[.int .i64 0, .int .i64 0, .int .i64 0, .int .u64 0, .int .u64 0, .int .i64 0, .int .u64 0, .int .u64 0, .int .i64 0, .int .i64 0, .int .i64 0, .int .u32 0, .int .u32 0, .int .i64 0, .int .i64 0, .int .i64 0, .bool false, .int .i64 0, .int .i64 0, .int .i64 0, .int .u64 0, .int .u64 0, .int .i64 0, .int .u64 0, .int .u64 0, .int .i64 0, .int .i64 0, .slice none 0 0] 38) = W := ⟨_, rfl⟩
    have c6 : Below w.heap.size w W6 := by rw [← hA]; exact c5.alloc c5.size _
    have P6 := P5.alloc (.cells #[.int .i64 0, .int .i64 0, .int .i64 0, .int .u64 0, .int .u64 0, .int .i64 0, .int .u64 0, .int .u64 0, .int .i64 0, .int .i64 0, .int .i64 0, .int .u32 0, .int .u32 0, .int .i64 0, .int .i64 0, .int .i64 0, .bool false, .int .i64 0, .int .i64 0, .int .i64 0, .int .u64 0, .int .u64 0, .int .i64 0, .int .u64 0, .int .u64 0, .int .i64 0, .int .i64 0, .slice none 0 0] 38)
    rw [hA] at P6
    have R6 := R5.alloc (.cells #[.int .i64 0, .int .i64 0, .int .i64 0, .int .u64 0, .int .u64 0, .int .i64 0, .int .u64 0, .int .u64 0, .int .i64 0, .int .i64 0, .int .i64 0, .int .u32 0, .int .u32 0, .int .i64 0, .int .i64 0, .int .i64 0, .bool false, .int .i64 0, .int .i64 0, .int .i64 0, .int .u64 0, .int .u64 0, .int .i64 0, .int .u64 0, .int .u64 0, .int .i64 0, .int .i64 0, .slice none 0 0] 38)
    rw [hA] at R6
    have N6 : Blk W6 W5.heap.size 38 #[.int .i64 0, .int .i64 0, .int .i64 0, .int .u64 0, .int .u64 0, .int .i64 0, .int .u64 0, .int .u64 0, .int .i64 0, .int .i64 0, .int .i64 0, .int .u32 0, .int .u32 0, .int .i64 0, .int .i64 0, .int .i64 0, .bool false, .int .i64 0, .int .i64 0, .int .i64 0, .int .u64 0, .int .u64 0, .int .i64 0, .int .u64 0, .int .u64 0, .int .i64 0, .int .i64 0, .slice none 0 0] := by rw [← hA]; exact blk_new _ _ _
    obtain ⟨G, hG⟩ : ∃ G, W5.heap.size = G := ⟨_, rfl⟩
    have gG : W1.heap.size < G := by rw [← hG]; exact R5.lt
    go_simp
    rw [hG] at N6
    refine hK.out _ _ (by exact ⟨P6, kept (b := bk) (o := off) c6 u0, kept (b := bk) (o := off + 1) c6 u1⟩) (fun hHeld => ?_)
    clear hK K hA hG
    try simp only [Act.put, List.setIfInBounds_toArray, List.set_cons_zero, List.set_cons_succ]
    refine wpAnyH_ready (rs := [1]) (by kernel_rfl) (by simp) ?_
    refine AllReadyH.cons (o := { dst := some 22, op := Op.call { callee := Callee.value (.func 70), args := #[.tmp 21], argTypes := #[64] }, type := 26, pos := "parse.go:82", after := #[{ on := 0, ground := Ground.data }], guard := none }) rfl (fun K hK => ?_) AllReadyH.nil
    go_simp
    refine Calls.mono (KW.out _ (h.below c6)) ?_
    rintro e W7 ⟨rfl, bb⟩
    have c7 : Below w.heap.size w W7 := c6.trans (bb.mono c6.size)
    have P7 := P6.kept bb
    have R7 := R6.kept bb
    have N7 := N6.kept bb
    clear bb
    refine hK.out _ _ (by exact ⟨P7, kept (b := bk) (o := off) c7 u0, kept (b := bk) (o := off + 1) c7 u1⟩) (fun hHeld => ?_)
    clear hK K
    try simp only [Act.put, List.setIfInBounds_toArray, List.set_cons_zero, List.set_cons_succ]
    refine wpAnyH_ready (rs := [12]) (by kernel_rfl) (by simp) ?_
    refine AllReadyH.cons (o := { dst := some 33, op := Op.call { callee := Callee.value (.func 72), args := #[.tmp 32], argTypes := #[28] }, type := 28, pos := "parse.go:82", after := #[{ on := 11, ground := Ground.data }, { on := 1, ground := Ground.chain }], guard := none }) rfl (fun K hK => ?_) AllReadyH.nil
    go_simp
    refine Calls.mono (KC.out _ (h.below c7)) ?_
    rintro e W8 ⟨a9, c9, rfl, f9⟩
    have c8 : Below w.heap.size w W8 := c7.trans (f9.below.mono c7.size)
    have P8 := P7.kept f9.below
    have R8 := R7.kept f9.below
    have N8 := N7.kept f9.below
    have O8 := owns_le (B' := W1.heap.size + 1) (by have := R7.lt; omega) f9.owns
    have rm9 := f9.room
    have nl9 := f9.nil
    clear f9
    refine hK.out _ _ (by exact ⟨P8, kept (b := bk) (o := off) c8 u0, kept (b := bk) (o := off + 1) c8 u1⟩) (fun hHeld => ?_)
    clear hK K
    try simp only [Act.put, List.setIfInBounds_toArray, List.set_cons_zero, List.set_cons_succ]
    refine wpAnyH_take (i := 13) (oi := { dst := some 34, op := Op.build 38 #[(0, .tmp 22), (5, .tmp 26), (6, .tmp 30), (9, .tmp 33)], type := 38, pos := "parse.go:82", after := #[{ on := 1, ground := Ground.data }, { on := 5, ground := Ground.data }, { on := 9, ground := Ground.data }, { on := 12, ground := Ground.data }], guard := none }) (v := (.agg #[.int .i64 f, .int .i64 pr, .int .i64 sf, .int .u64 sh, .int .u64 sl, .int .i64 df, .int .u64 dh, .int .u64 dl, .int .i64 V.1, .int .i64 V.2, .int .i64 0, .int .u32 0, .int .u32 0, .int .i64 0, .int .i64 x0, .int .i64 x1, .bool false, .int .i64 0, .int .i64 0, .int .i64 0, .int .u64 0, .int .u64 0, .int .i64 0, .int .u64 0, .int .u64 0, .int .i64 0, .int .i64 0, .slice a9 D.length c9])) rfl (by kernel_rfl) (by kernel_rfl) (by kernel_rfl) (fun _ _ _ h => h) (yieldsIf_build rfl _ _ rfl #[(0, .agg #[.int .i64 f, .int .i64 pr, .int .i64 sf, .int .u64 sh, .int .u64 sl, .int .i64 df, .int .u64 dh, .int .u64 dl, .int .i64 V.1, .int .i64 V.2]), (5, .int .i64 x0), (6, .int .i64 x1), (9, .slice a9 D.length c9)] (by kernel_rfl) _ (fun w9 => by kernel_rfl)) hHeld ?_
    try simp only [Act.put, List.setIfInBounds_toArray, List.set_cons_zero, List.set_cons_succ]
    refine wpAnyH_ready (rs := [15]) (by kernel_rfl) (by simp) ?_
    refine AllReadyH.cons (o := { dst := none, op := Op.store 38 (.tmp 5) (.tmp 34), type := 0, pos := "parse.go:82", after := #[{ on := 14, ground := Ground.data }, { on := 13, ground := Ground.data }, { on := 12, ground := Ground.chain }, { on := 0, ground := Ground.phase }, { on := 1, ground := Ground.phase }, { on := 2, ground := Ground.phase }, { on := 3, ground := Ground.phase }, { on := 4, ground := Ground.phase }, { on := 5, ground := Ground.phase }, { on := 6, ground := Ground.phase }, { on := 7, ground := Ground.phase }, { on := 8, ground := Ground.phase }, { on := 9, ground := Ground.phase }, { on := 10, ground := Ground.phase }, { on := 11, ground := Ground.phase }, { on := 12, ground := Ground.phase }, { on := 13, ground := Ground.phase }, { on := 14, ground := Ground.phase }], guard := none }) rfl (fun K hK => ?_) AllReadyH.nil
    refine step_store_blk rfl _ _ _ rfl G #[.int .i64 f, .int .i64 pr, .int .i64 sf, .int .u64 sh, .int .u64 sl, .int .i64 df, .int .u64 dh, .int .u64 dl, .int .i64 V.1, .int .i64 V.2, .int .i64 0, .int .u32 0, .int .u32 0, .int .i64 0, .int .i64 x0, .int .i64 x1, .bool false, .int .i64 0, .int .i64 0, .int .i64 0, .int .u64 0, .int .u64 0, .int .i64 0, .int .u64 0, .int .u64 0, .int .i64 0, .int .i64 0, .slice a9 D.length c9] _ (by kernel_rfl) (by kernel_rfl) N8 (by kernel_rfl) (by rfl) (by kernel_rfl) ?_
    have P9 := P8.other (show w.heap.size ≠ G by omega) #[.int .i64 f, .int .i64 pr, .int .i64 sf, .int .u64 sh, .int .u64 sl, .int .i64 df, .int .u64 dh, .int .u64 dl, .int .i64 V.1, .int .i64 V.2, .int .i64 0, .int .u32 0, .int .u32 0, .int .i64 0, .int .i64 x0, .int .i64 x1, .bool false, .int .i64 0, .int .i64 0, .int .i64 0, .int .u64 0, .int .u64 0, .int .i64 0, .int .u64 0, .int .u64 0, .int .i64 0, .int .i64 0, .slice a9 D.length c9]
    have R9 := R8.other (show W1.heap.size ≠ G by omega) #[.int .i64 f, .int .i64 pr, .int .i64 sf, .int .u64 sh, .int .u64 sl, .int .i64 df, .int .u64 dh, .int .u64 dl, .int .i64 V.1, .int .i64 V.2, .int .i64 0, .int .u32 0, .int .u32 0, .int .i64 0, .int .i64 x0, .int .i64 x1, .bool false, .int .i64 0, .int .i64 0, .int .i64 0, .int .u64 0, .int .u64 0, .int .i64 0, .int .u64 0, .int .u64 0, .int .i64 0, .int .i64 0, .slice a9 D.length c9]
    have N9 := N8.set #[.int .i64 f, .int .i64 pr, .int .i64 sf, .int .u64 sh, .int .u64 sl, .int .i64 df, .int .u64 dh, .int .u64 dl, .int .i64 V.1, .int .i64 V.2, .int .i64 0, .int .u32 0, .int .u32 0, .int .i64 0, .int .i64 x0, .int .i64 x1, .bool false, .int .i64 0, .int .i64 0, .int .i64 0, .int .u64 0, .int .u64 0, .int .i64 0, .int .u64 0, .int .u64 0, .int .i64 0, .int .i64 0, .slice a9 D.length c9]
    have O9 := O8.blk_other N8 (by decide) #[.int .i64 f, .int .i64 pr, .int .i64 sf, .int .u64 sh, .int .u64 sl, .int .i64 df, .int .u64 dh, .int .u64 dl, .int .i64 V.1, .int .i64 V.2, .int .i64 0, .int .u32 0, .int .u32 0, .int .i64 0, .int .i64 x0, .int .i64 x1, .bool false, .int .i64 0, .int .i64 0, .int .i64 0, .int .u64 0, .int .u64 0, .int .i64 0, .int .u64 0, .int .u64 0, .int .i64 0, .int .i64 0, .slice a9 D.length c9]
    have c9' := below_setRow c8 (show w.heap.size ≤ G by omega) #[.int .i64 f, .int .i64 pr, .int .i64 sf, .int .u64 sh, .int .u64 sl, .int .i64 df, .int .u64 dh, .int .u64 dl, .int .i64 V.1, .int .i64 V.2, .int .i64 0, .int .u32 0, .int .u32 0, .int .i64 0, .int .i64 x0, .int .i64 x1, .bool false, .int .i64 0, .int .i64 0, .int .i64 0, .int .u64 0, .int .u64 0, .int .i64 0, .int .u64 0, .int .u64 0, .int .i64 0, .int .i64 0, .slice a9 D.length c9]
    refine hK.out _ _ (by exact ⟨P9, kept (b := bk) (o := off) c9' u0, kept (b := bk) (o := off + 1) c9' u1⟩) (fun hHeld => ?_)
    clear hK K hHeld N8 P8 R8 O8 c8
    generalize W8.setRow G #[.int .i64 f, .int .i64 pr, .int .i64 sf, .int .u64 sh, .int .u64 sl, .int .i64 df, .int .u64 dh, .int .u64 dl, .int .i64 V.1, .int .i64 V.2, .int .i64 0, .int .u32 0, .int .u32 0, .int .i64 0, .int .i64 x0, .int .i64 x1, .bool false, .int .i64 0, .int .i64 0, .int .i64 0, .int .u64 0, .int .u64 0, .int .i64 0, .int .u64 0, .int .u64 0, .int .i64 0, .int .i64 0, .slice a9 D.length c9] = W9 at *
    try simp only [Act.put, List.setIfInBounds_toArray, List.set_cons_zero, List.set_cons_succ]
    refine wpAnyH_done (by kernel_rfl) ?_ _
    refine NoPanic.normal ?_
    have d0 := P9.cell 0 (.int .i64 f) rfl
    have s14 := N9.cell 14 (.int .i64 x0) rfl
    have s27 := N9.cell 27 (.slice a9 D.length c9) rfl
    have rD := O9.row hDs hDb
    go_wp2_with fail
    refine Calls.mono (KI.out _) ?_
    rintro e W10 ⟨rfl, hW10⟩
    subst hW10
    clear KI
    have Bf := R9.set #[.int .i64 f, .int .i64 pr, .int .i64 sf, .int .u64 sh, .int .u64 sl, .int .i64 df, .int .u64 dh, .int .u64 dl, .int .i64 V.1, .int .i64 V.2, .int .i64 0, .int .u32 0, .int .u32 0, .int .i64 0, .int .i64 x0, .int .i64 x1, .bool false, .int .i64 0, .int .i64 0, .int .i64 0, .int .u64 0, .int .u64 0, .int .i64 0, .int .u64 0, .int .u64 0, .int .i64 0, .int .i64 0, .slice a9 D.length c9]
    have bf := below_setRow c9' (Nat.le_of_lt g1) #[.int .i64 f, .int .i64 pr, .int .i64 sf, .int .u64 sh, .int .u64 sl, .int .i64 df, .int .u64 dh, .int .u64 dl, .int .i64 V.1, .int .i64 V.2, .int .i64 0, .int .u32 0, .int .u32 0, .int .i64 0, .int .i64 x0, .int .i64 x1, .bool false, .int .i64 0, .int .i64 0, .int .i64 0, .int .u64 0, .int .u64 0, .int .i64 0, .int .u64 0, .int .u64 0, .int .i64 0, .int .i64 0, .slice a9 D.length c9]
    have Of := O9.blk_other R9 (by decide) #[.int .i64 f, .int .i64 pr, .int .i64 sf, .int .u64 sh, .int .u64 sl, .int .i64 df, .int .u64 dh, .int .u64 dl, .int .i64 V.1, .int .i64 V.2, .int .i64 0, .int .u32 0, .int .u32 0, .int .i64 0, .int .i64 x0, .int .i64 x1, .bool false, .int .i64 0, .int .i64 0, .int .i64 0, .int .u64 0, .int .u64 0, .int .i64 0, .int .u64 0, .int .u64 0, .int .i64 0, .int .i64 0, .slice a9 D.length c9]
    go_wp2_with (first
      | (refine wpList_load_row rfl _ _ rfl G (by rfl) _ _ _ _ N9 Try.underlying38 rfl (by kernel_rfl) ?_)
      | (refine wpList_store_row rfl _ _ _ rfl W1.heap.size #[.int .i64 f, .int .i64 pr, .int .i64 sf, .int .u64 sh, .int .u64 sl, .int .i64 df, .int .u64 dh, .int .u64 dl, .int .i64 V.1, .int .i64 V.2, .int .i64 0, .int .u32 0, .int .u32 0, .int .i64 0, .int .i64 x0, .int .i64 x1, .bool false, .int .i64 0, .int .i64 0, .int .i64 0, .int .u64 0, .int .u64 0, .int .i64 0, .int .u64 0, .int .u64 0, .int .i64 0, .int .i64 0, .slice a9 D.length c9] (by rfl) (by rfl) _ _ R9 (by kernel_rfl) (by rfl) (by kernel_rfl) ?_))
    refine ret_cell_tmp (k := 2) (j := 3) Try.f58 (by kernel_rfl) Bf Try.underlying38 (by kernel_rfl) (by rfl) (by rfl) rfl ?_
    exact ⟨a9, c9, rfl, owns_le (by omega) Of, rm9, nl9, Of.row hDs hDb, bf⟩

end Go.Proofs.Ytgdpcomcndidcaa

namespace Go.Proofs.Ytgdpcomcndidcaa
open Go.RowKit
set_option linter.unusedVariables false
set_option linter.unusedSimpArgs false

set_option maxRecDepth 100000 in
set_option maxHeartbeats 4000000 in
theorem icmp_e4 (f sf sh sl df dh dl pr ho : Int) (fg : Bool) (id of : Int) (mo : Bool) (xa : Option Addr) (xn xc : Nat) (bk off dc : Nat) (l : List Int) (w : World) (h : Row w (some ⟨bk, off, none⟩) l) (hc : l.length ≤ dc) (hcm : dc ≤ 9223372036854775807) (hs : Ad.ok ⟨sf, sh, sl⟩) (hd : Ad.ok ⟨df, dh, dl⟩) (hll : l.length ≤ 140737488351232) (h8 : ¬ l.length < 8) (hsum : sumsB ⟨sf, sh, sl⟩ ⟨df, dh, dl⟩ pr l = true) (her : isErr f (l.getD 0 0) = true) (hin : inner f (l.drop 8) = none) :
    Calls Try.prog 58 #[.agg #[.int .i64 f, .int .i64 sf, .int .u64 sh, .int .u64 sl, .int .i64 df, .int .u64 dh, .int .u64 dl, .int .i64 pr, .int .i64 ho, .bool fg, .int .u32 id, .int .i64 of, .bool mo, .slice xa xn xc, .slice (some ⟨bk, off, none⟩) l.length dc]] w (GotS w 4 zSg) := by
  obtain ⟨W1, hW1⟩ : ∃ W1, w.alloc (.cells #[.int .i64 f, .int .i64 sf, .int .u64 sh, .int .u64 sl, .int .i64 df, .int .u64 dh, .int .u64 dl, .int .i64 pr, .int .i64 ho, .bool fg, .int .u32 id, .int .i64 of, .bool mo, .slice xa xn xc, .slice (some ⟨bk, off, none⟩) l.length dc] 64) = W1 := ⟨_, rfl⟩
  obtain ⟨W2, hW2⟩ : ∃ W2, W1.alloc (.cells #[.int .i64 0, .int .i64 0, .int .i64 0, .int .u64 0, .int .u64 0, .int .i64 0, .int .u64 0, .int .u64 0, .int .i64 0, .int .i64 0, .int .i64 0, .int .u32 0, .int .u32 0, .int .i64 0, .int .i64 0, .int .i64 0, .bool false, .int .i64 0, .int .i64 0, .int .i64 0, .int .u64 0, .int .u64 0, .int .i64 0, .int .u64 0, .int .u64 0, .int .i64 0, .int .i64 0, .slice none 0 0] 38) = W2 := ⟨_, rfl⟩
  have b1 : Below w.heap.size w W1 := by rw [← hW1]; exact (Below.refl _ _).alloc (Nat.le_refl _) _
  have b2 : Below w.heap.size w W2 := by rw [← hW2]; exact b1.alloc b1.size _
  have B1' : Blk W1 w.heap.size 64 #[.int .i64 f, .int .i64 sf, .int .u64 sh, .int .u64 sl, .int .i64 df, .int .u64 dh, .int .u64 dl, .int .i64 pr, .int .i64 ho, .bool fg, .int .u32 id, .int .i64 of, .bool mo, .slice xa xn xc, .slice (some ⟨bk, off, none⟩) l.length dc] := by rw [← hW1]; exact blk_new _ _ _
  have B1 : Blk W2 w.heap.size 64 #[.int .i64 f, .int .i64 sf, .int .u64 sh, .int .u64 sl, .int .i64 df, .int .u64 dh, .int .u64 dl, .int .i64 pr, .int .i64 ho, .bool fg, .int .u32 id, .int .i64 of, .bool mo, .slice xa xn xc, .slice (some ⟨bk, off, none⟩) l.length dc] := by rw [← hW2]; exact B1'.alloc _
  have B2 : Blk W2 W1.heap.size 38 #[.int .i64 0, .int .i64 0, .int .i64 0, .int .u64 0, .int .u64 0, .int .i64 0, .int .u64 0, .int .u64 0, .int .i64 0, .int .i64 0, .int .i64 0, .int .u32 0, .int .u32 0, .int .i64 0, .int .i64 0, .int .i64 0, .bool false, .int .i64 0, .int .i64 0, .int .i64 0, .int .u64 0, .int .u64 0, .int .i64 0, .int .u64 0, .int .u64 0, .int .i64 0, .int .i64 0, .slice none 0 0] := by rw [← hW2]; exact blk_new _ _ _
  have g1 : w.heap.size < W1.heap.size := B1'.lt
  clear B1'
  have d0 := B1.cell 0 (.int .i64 f) rfl
  have d14 := B1.cell 14 (.slice (some ⟨bk, off, none⟩) l.length dc) rfl
  have h8' : ¬ (l.length : Int) < 8 := by omega
  obtain ⟨x0, e0⟩ : ∃ x, l.getD 0 0 = x := ⟨_, rfl⟩
  obtain ⟨x1, e1⟩ : ∃ x, l.getD 1 0 = x := ⟨_, rfl⟩
  have q0 := h.bytes.get 0
  have q1 := h.bytes.get 1
  obtain ⟨bk', off', ee, hcl⟩ := h.cells (by omega)
  cases ee
  have u0 := hcl 0 (by omega)
  have u1 := hcl 1 (by omega)
  rw [e0] at u0 q0 her
  rw [e1] at u1 q1
  rw [Nat.add_zero] at u0
  have i0 : (0 : Int) < (l.length : Int) := by omega
  have i1 : (1 : Int) < (l.length : Int) := by omega
  have hne' : ¬ l = [] := by intro e; rw [e] at h8; simp at h8
  have wx0 : IntKind.i64.wrap x0 = x0 := wraps_i64 _ (by omega) (by omega)
  have wx1 : IntKind.i64.wrap x1 = x1 := wraps_i64 _ (by omega) (by omega)
  have jh2 : (8 : Int) ≤ (l.length : Int) := by omega
  have n8 : 8 ≤ l.length := by omega
  obtain ⟨a3, ha3⟩ : ∃ a3 : Option Addr, (if dc = 8 then (some ⟨bk, off, none⟩) else Option.map (fun x : Addr => x.add 8) (some ⟨bk, off, none⟩)) = a3 := ⟨_, rfl⟩
  have H3 : Hid ((if dc = 8 then some (⟨bk, off, none⟩ : Addr) else some ⟨bk, off + 8, none⟩) = a3) := by
    have : (if dc = 8 then some (⟨bk, off, none⟩ : Addr) else some ⟨bk, off + 8, none⟩) = a3 := by
      rw [← ha3]
      simp [Go.WideShapes.add_plain]
    exact this
  obtain ⟨D, hD⟩ : ∃ D, l.drop 8 = D := ⟨_, rfl⟩
  have lD : D.length = l.length - 8 := by rw [← hD, List.length_drop]
  have KC : Hid (∀ W, Row W (some ⟨bk, off, none⟩) l → Calls Try.prog 72 #[.slice a3 (l.length - 8) (dc - 8)] W fun e w' => ∃ a' c', e = .returned (.slice a' D.length c') ∧ Fresh W w' a' c' D) := fun W hW => by
    have hr := hW.drop dc 8 hc
    rw [ha3, hD] at hr
    have := clone_any a3 (dc - 8) D W hr (fun e => by
      rw [e] at ha3
      split at ha3
      · cases ha3
      · cases ha3)
    rw [lD] at this ⊢
    exact this
  obtain ⟨V, hV⟩ : ∃ V, portsOf f pr l = V := ⟨_, rfl⟩
  have KW : Hid (∀ W, Row W (some ⟨bk, off, none⟩) l → Calls Try.prog 70 #[.agg #[.int .i64 f, .int .i64 sf, .int .u64 sh, .int .u64 sl, .int .i64 df, .int .u64 dh, .int .u64 dl, .int .i64 pr, .int .i64 ho, .bool fg, .int .u32 id, .int .i64 of, .bool mo, .slice xa xn xc, .slice (some ⟨bk, off, none⟩) l.length dc]] W fun e w' => e = .returned (.agg #[.int .i64 f, .int .i64 pr, .int .i64 sf, .int .u64 sh, .int .u64 sl, .int .i64 df, .int .u64 dh, .int .u64 dl, .int .i64 V.1, .int .i64 V.2]) ∧ Below W.heap.size W w') := fun W hW => by
    have := way_any f sf sh sl df dh dl pr ho fg id of mo xa xn xc (some ⟨bk, off, none⟩) dc l W hW (by omega)
    rw [hV] at this
    exact this
  have KI : Hid (∀ W, Calls Try.prog 13 #[.int .i64 f, .int .i64 x0] W fun e w' => e = .returned (.bool true) ∧ w' = W) := fun W => by
    have := isError_any f x0 W
    rw [her] at this
    exact this
  rw [hD] at hin
  obtain ⟨T, hT⟩ : ∃ T, zTp = T := ⟨_, rfl⟩
  have KN : Hid (∀ W a' c', Row W a' D → D.length ≤ c' → c' ≤ 9223372036854775807 → Calls Try.prog 73 #[.int .i64 f, .slice a' D.length c'] W fun e w' => e = .returned (.tuple #[.agg #[.int .i64 T.fam, .int .i64 T.pr, .int .i64 T.s.fam, .int .u64 T.s.hi, .int .u64 T.s.lo, .int .i64 T.d.fam, .int .u64 T.d.hi, .int .u64 T.d.lo, .int .i64 T.sp, .int .i64 T.dp], .bool false]) ∧ Below W.heap.size W w') := fun W a' c' hW h1 h2 => by
    have := innerWay_any f a' c' D W hW (by omega) h1 h2
    rw [hin] at this
    rw [← hT]
    exact this
  have KS : Hid (∀ W, Row W (some ⟨bk, off, none⟩) l → Calls Try.prog 67 #[.agg #[.int .i64 f, .int .i64 sf, .int .u64 sh, .int .u64 sl, .int .i64 df, .int .u64 dh, .int .u64 dl, .int .i64 pr, .int .i64 ho, .bool fg, .int .u32 id, .int .i64 of, .bool mo, .slice xa xn xc, .slice (some ⟨bk, off, none⟩) l.length dc], .slice (some ⟨bk, off, none⟩) l.length dc] W fun e w' => e = .returned (.bool true) ∧ Below W.heap.size W w') := fun W hW => by
    have := sumsUp_any f sf sh sl df dh dl pr ho fg id of mo xa xn xc (some ⟨bk, off, none⟩) dc l (some ⟨bk, off, none⟩) dc l W hW hs hd
    rw [hsum] at this
    exact this
  clear hsum
  have hDs : D.length ≤ 140737488355328 := by have := h.small; omega
  have hDb : M.Bytes D := by rw [← hD]; exact h.bytes.drop 8
  clear e0 e1 hcl ha3 lD hV her hD
  go_enter Try.func58, Try.ntmps58
  have r2 := h.below b2
  go_wp2_with (refine wpList_load_row rfl _ _ rfl w.heap.size (by rfl) _ _ _ _ B1 Try.underlying64 rfl (by kernel_rfl) ?_)
  refine Calls.mono (KS.out _ r2) ?_
  rintro e W4 ⟨rfl, bb⟩
  have b4 : Below w.heap.size w W4 := b2.trans (bb.mono b2.size)
  have B4 := B1.kept bb
  have B4' := B2.kept bb
  clear KS bb B1 B2 b2 r2 hW1 hW2 d0 d14
  go_wp2_with fail
  refine wp_region_noPanic ?_
  refine wp_region_held_drew (S := fun w' => Blk w' w.heap.size 64 #[.int .i64 f, .int .i64 sf, .int .u64 sh, .int .u64 sl, .int .i64 df, .int .u64 dh, .int .u64 dl, .int .i64 pr, .int .i64 ho, .bool fg, .int .u32 id, .int .i64 of, .bool mo, .slice xa xn xc, .slice (some ⟨bk, off, none⟩) l.length dc] ∧ w'.cell? ⟨bk, off, none⟩ = some (.int .u8 x0) ∧ w'.cell? ⟨bk, off + 1, none⟩ = some (.int .u8 x1)) (by kernel_rfl) (by exact ⟨B4.drew, kept (b := bk) (o := off) b4.drew u0, kept (b := bk) (o := off + 1) b4.drew u1⟩) (fun hHeld => ?_)
  refine wpAnyH_take (i := 0) (oi := { dst := some 21, op := Op.load 64 (.tmp 1), type := 64, pos := "parse.go:82", after := #[], guard := none }) (v := (.agg #[.int .i64 f, .int .i64 sf, .int .u64 sh, .int .u64 sl, .int .i64 df, .int .u64 dh, .int .u64 dl, .int .i64 pr, .int .i64 ho, .bool fg, .int .u32 id, .int .i64 of, .bool mo, .slice xa xn xc, .slice (some ⟨bk, off, none⟩) l.length dc])) rfl (by kernel_rfl) (by kernel_rfl) (by kernel_rfl) (fun _ _ _ h => h) (yieldsIf_blk rfl _ _ rfl w.heap.size (by rfl) _ (fun _ hSw => hSw.1) Try.underlying64 (by kernel_rfl)) hHeld ?_
  try simp only [Act.put, List.setIfInBounds_toArray, List.set_cons_zero, List.set_cons_succ]
  refine wpAnyH_take (i := 2) (oi := { dst := some 23, op := Op.move (.tmp 4), type := 28, pos := "parse.go:82", after := #[], guard := none }) (v := (.slice (some ⟨bk, off, none⟩) l.length dc)) rfl (by kernel_rfl) (by kernel_rfl) (by kernel_rfl) (fun _ _ _ h => h) (Or.inl ⟨by rfl, ?_⟩) hHeld ?_
  · intro w9 hSw
    try dsimp only at hSw
    go_simp
  try simp only [Act.put, List.setIfInBounds_toArray, List.set_cons_zero, List.set_cons_succ]
  refine wpAnyH_take (i := 3) (oi := { dst := some 24, op := Op.indexAddr 28 (.tmp 23) (.const (.int .i64 0)), type := 0, pos := "parse.go:82", after := #[{ on := 2, ground := Ground.data }], guard := none }) (v := (.pointer (some ⟨bk, off, none⟩))) rfl (by kernel_rfl) (by kernel_rfl) (by kernel_rfl) (fun _ _ _ h => h) (Or.inl ⟨by rfl, ?_⟩) hHeld ?_
  · intro w9 hSw
    try dsimp only at hSw
    go_simp
  try simp only [Act.put, List.setIfInBounds_toArray, List.set_cons_zero, List.set_cons_succ]
  refine wpAnyH_take (i := 4) (oi := { dst := some 25, op := Op.load 5 (.tmp 24), type := 5, pos := "parse.go:82", after := #[{ on := 3, ground := Ground.data }], guard := none }) (v := (.int .u8 x0)) rfl (by kernel_rfl) (by kernel_rfl) (by kernel_rfl) (fun _ _ _ h => h) (Or.inl ⟨by rfl, ?_⟩) hHeld ?_
  · intro w9 hSw
    try dsimp only at hSw
    go_simp
  try simp only [Act.put, List.setIfInBounds_toArray, List.set_cons_zero, List.set_cons_succ]
  refine wpAnyH_take (i := 5) (oi := { dst := some 26, op := Op.convert 5 3 (.tmp 25), type := 3, pos := "parse.go:82", after := #[{ on := 4, ground := Ground.data }], guard := none }) (v := (.int .i64 x0)) rfl (by kernel_rfl) (by kernel_rfl) (by kernel_rfl) (fun _ _ _ h => h) (Or.inl ⟨by rfl, ?_⟩) hHeld ?_
  · intro w9 hSw
    try dsimp only at hSw
    go_simp
  try simp only [Act.put, List.setIfInBounds_toArray, List.set_cons_zero, List.set_cons_succ]
  refine wpAnyH_take (i := 6) (oi := { dst := some 27, op := Op.move (.tmp 4), type := 28, pos := "parse.go:82", after := #[], guard := none }) (v := (.slice (some ⟨bk, off, none⟩) l.length dc)) rfl (by kernel_rfl) (by kernel_rfl) (by kernel_rfl) (fun _ _ _ h => h) (Or.inl ⟨by rfl, ?_⟩) hHeld ?_
  · intro w9 hSw
    try dsimp only at hSw
    go_simp
  try simp only [Act.put, List.setIfInBounds_toArray, List.set_cons_zero, List.set_cons_succ]
  refine wpAnyH_take (i := 7) (oi := { dst := some 28, op := Op.indexAddr 28 (.tmp 27) (.const (.int .i64 1)), type := 0, pos := "parse.go:82", after := #[{ on := 6, ground := Ground.data }], guard := none }) (v := (.pointer (some ⟨bk, off + 1, none⟩))) rfl (by kernel_rfl) (by kernel_rfl) (by kernel_rfl) (fun _ _ _ h => h) (Or.inl ⟨by rfl, ?_⟩) hHeld ?_
  · intro w9 hSw
    try dsimp only at hSw
    go_simp
  try simp only [Act.put, List.setIfInBounds_toArray, List.set_cons_zero, List.set_cons_succ]
  refine wpAnyH_take (i := 8) (oi := { dst := some 29, op := Op.load 5 (.tmp 28), type := 5, pos := "parse.go:82", after := #[{ on := 7, ground := Ground.data }], guard := none }) (v := (.int .u8 x1)) rfl (by kernel_rfl) (by kernel_rfl) (by kernel_rfl) (fun _ _ _ h => h) (Or.inl ⟨by rfl, ?_⟩) hHeld ?_
  · intro w9 hSw
    try dsimp only at hSw
    go_simp
  try simp only [Act.put, List.setIfInBounds_toArray, List.set_cons_zero, List.set_cons_succ]
  refine wpAnyH_take (i := 9) (oi := { dst := some 30, op := Op.convert 5 3 (.tmp 29), type := 3, pos := "parse.go:82", after := #[{ on := 8, ground := Ground.data }], guard := none }) (v := (.int .i64 x1)) rfl (by kernel_rfl) (by kernel_rfl) (by kernel_rfl) (fun _ _ _ h => h) (Or.inl ⟨by rfl, ?_⟩) hHeld ?_
  · intro w9 hSw
    try dsimp only at hSw
    go_simp
  try simp only [Act.put, List.setIfInBounds_toArray, List.set_cons_zero, List.set_cons_succ]
  refine wpAnyH_take (i := 10) (oi := { dst := some 31, op := Op.move (.tmp 4), type := 28, pos := "parse.go:82", after := #[], guard := none }) (v := (.slice (some ⟨bk, off, none⟩) l.length dc)) rfl (by kernel_rfl) (by kernel_rfl) (by kernel_rfl) (fun _ _ _ h => h) (Or.inl ⟨by rfl, ?_⟩) hHeld ?_
  · intro w9 hSw
    try dsimp only at hSw
    go_simp
  try simp only [Act.put, List.setIfInBounds_toArray, List.set_cons_zero, List.set_cons_succ]
  refine wpAnyH_take (i := 11) (oi := { dst := some 32, op := Op.slice 28 (.tmp 31) (some (.const (.int .i64 8))) none none, type := 28, pos := "parse.go:82", after := #[{ on := 10, ground := Ground.data }], guard := none }) (v := (.slice a3 (l.length - 8) (dc - 8))) rfl (by kernel_rfl) (by kernel_rfl) (by kernel_rfl) (fun _ _ _ h => h) (Or.inl ⟨by rfl, ?_⟩) hHeld ?_
  · intro w9 hSw
    try dsimp only at hSw
    go_simp
    exact H3.out
  try simp only [Act.put, List.setIfInBounds_toArray, List.set_cons_zero, List.set_cons_succ]
  have c5 := b4.drew
  have P5 := B4.drew
  have R5 := B4'.drew
  obtain ⟨W5, hW5⟩ : ∃ W, W4.drew = W := ⟨_, rfl⟩
  rw [hW5] at c5 P5 R5 ⊢
  clear hW5 B4 B4' b4
  refine wpAnyH_ready (rs := [1, 14]) (by kernel_rfl) (by simp) ?_
  refine (AllReadyH.cons (o := { dst := some 22, op := Op.call { callee := Callee.value (.func 70), args := #[.tmp 21], argTypes := #[64] }, type := 26, pos := "parse.go:82", after := #[{ on := 0, ground := Ground.data }], guard := none }) rfl (fun K hK => ?_) (AllReadyH.cons (o := { dst := some 5, op := Op.alloc 38, type := 0, pos := "parse.go:82", after := #[], guard := none }) rfl (fun K hK => ?_) AllReadyH.nil))
  · go_simp
    refine Calls.mono (KW.out _ (h.below c5)) ?_
    rintro e W6 ⟨rfl, bb⟩
    have c6 : Below w.heap.size w W6 := c5.trans (bb.mono c5.size)
    have P6 := P5.kept bb
    have R6 := R5.kept bb
    clear bb
    refine hK.out _ _ (by exact ⟨P6, kept (b := bk) (o := off) c6 u0, kept (b := bk) (o := off + 1) c6 u1⟩) (fun hHeld => ?_)
    clear hK K
    try simp only [Act.put, List.setIfInBounds_toArray, List.set_cons_zero, List.set_cons_succ]
    refine wpAnyH_ready (rs := [12, 14]) (by kernel_rfl) (by simp) ?_
    refine (AllReadyH.cons (o := { dst := some 33, op := Op.call { callee := Callee.value (.func 72), args := #[.tmp 32], argTypes := #[28] }, type := 28, pos := "parse.go:82", after := #[{ on := 11, ground := Ground.data }, { on := 1, ground := Ground.chain }], guard := none }) rfl (fun K hK => ?_) (AllReadyH.cons (o := { dst := some 5, op := Op.alloc 38, type := 0, pos := "parse.go:82", after := #[], guard := none }) rfl (fun K hK => ?_) AllReadyH.nil))
    · go_simp
      refine Calls.mono (KC.out _ (h.below c6)) ?_
      rintro e W7 ⟨a9, c9, rfl, f9⟩
      have c7 : Below w.heap.size w W7 := c6.trans (f9.below.mono c6.size)
      have P7 := P6.kept f9.below
      have R7 := R6.kept f9.below
      have O7 := owns_le (B' := W1.heap.size + 1) (by have := R6.lt; omega) f9.owns
      have rm9 := f9.room
      have nl9 := f9.nil
      clear f9
      refine hK.out _ _ (by exact ⟨P7, kept (b := bk) (o := off) c7 u0, kept (b := bk) (o := off + 1) c7 u1⟩) (fun hHeld => ?_)
      clear hK K
      try simp only [Act.put, List.setIfInBounds_toArray, List.set_cons_zero, List.set_cons_succ]
      refine wpAnyH_take (i := 13) (oi := { dst := some 34, op := Op.build 38 #[(0, .tmp 22), (5, .tmp 26), (6, .tmp 30), (9, .tmp 33)], type := 38, pos := "parse.go:82", after := #[{ on := 1, ground := Ground.data }, { on := 5, ground := Ground.data }, { on := 9, ground := Ground.data }, { on := 12, ground := Ground.data }], guard := none }) (v := (.agg #[.int .i64 f, .int .i64 pr, .int .i64 sf, .int .u64 sh, .int .u64 sl, .int .i64 df, .int .u64 dh, .int .u64 dl, .int .i64 V.1, .int .i64 V.2, .int .i64 0, .int .u32 0, .int .u32 0, .int .i64 0, .int .i64 x0, .int .i64 x1, .bool false, .int .i64 0, .int .i64 0, .int .i64 0, .int .u64 0, .int .u64 0, .int .i64 0, .int .u64 0, .int .u64 0, .int .i64 0, .int .i64 0, .slice a9 D.length c9])) rfl (by kernel_rfl) (by kernel_rfl) (by kernel_rfl) (fun _ _ _ h => h) (yieldsIf_build rfl _ _ rfl #[(0, .agg #[.int .i64 f, .int .i64 pr, .int .i64 sf, .int .u64 sh, .int .u64 sl, .int .i64 df, .int .u64 dh, .int .u64 dl, .int .i64 V.1, .int .i64 V.2]), (5, .int .i64 x0), (6, .int .i64 x1), (9, .slice a9 D.length c9)] (by kernel_rfl) _ (fun w9 => by kernel_rfl)) hHeld ?_
      try simp only [Act.put, List.setIfInBounds_toArray, List.set_cons_zero, List.set_cons_succ]
      refine wpAnyH_ready (rs := [14]) (by kernel_rfl) (by simp) ?_
      refine AllReadyH.cons (o := { dst := some 5, op := Op.alloc 38, type := 0, pos := "parse.go:82", after := #[], guard := none }) rfl (fun K hK => ?_) AllReadyH.nil
      obtain ⟨W8, hA⟩ : ∃ W, W7.alloc (.cells #[.int .i64 0, .int .i64 0, .int .i64 0, .int .u64 0, .int .u64 0, .int .i64 0, .int .u64 0, .int .u64 0, .int .i64 0, .int .i64 0, .int .i64 0, .int .u32 0, .int .u32 0, .int .i64 0, .int .i64 0, .int .i64 0, .bool false, .int .i64 0, .int .i64 0, .int .i64 0, .int .u64 0, .int .u64 0, .int .i64 0, .int .u64 0, .int .u64 0, .int .i64 0, .int .i64 0, .slice none 0 0] 38) = W := ⟨_, rfl⟩
      have c8 : Below w.heap.size w W8 := by rw [← hA]; exact c7.alloc c7.size _
      have P8 := P7.alloc (.cells #[.int .i64 0, .int .i64 0, .int .i64 0, .int .u64 0, .int .u64 0, .int .i64 0, .int .u64 0, .int .u64 0, .int .i64 0, .int .i64 0, .int .i64 0, .int .u32 0, .int .u32 0, .int .i64 0, .int .i64 0, .int .i64 0, .bool false, .int .i64 0, .int .i64 0, .int .i64 0, .int .u64 0, .int .u64 0, .int .i64 0, .int .u64 0, .int .u64 0, .int .i64 0, .int .i64 0, .slice none 0 0] 38)
      rw [hA] at P8
      have R8 := R7.alloc (.cells #[.int .i64 0, .int .i64 0, .int .i64 0, .int .u64 0, .int .u64 0, .int .i64 0, .int .u64 0, .int .u64 0, .int .i64 0, .int .i64 0, .int .i64 0, .int .u32 0, .int .u32 0, .int .i64 0, .int .i64 0, .int .i64 0, .bool false, .int .i64 0, .int .i64 0, .int .i64 0, .int .u64 0, .int .u64 0, .int .i64 0, .int .u64 0, .int .u64 0, .int .i64 0, .int .i64 0, .slice none 0 0] 38)
      rw [hA] at R8
      have O8 := O7.alloc (.cells #[.int .i64 0, .int .i64 0, .int .i64 0, .int .u64 0, .int .u64 0, .int .i64 0, .int .u64 0, .int .u64 0, .int .i64 0, .int .i64 0, .int .i64 0, .int .u32 0, .int .u32 0, .int .i64 0, .int .i64 0, .int .i64 0, .bool false, .int .i64 0, .int .i64 0, .int .i64 0, .int .u64 0, .int .u64 0, .int .i64 0, .int .u64 0, .int .u64 0, .int .i64 0, .int .i64 0, .slice none 0 0] 38)
      rw [hA] at O8
      have N8 : Blk W8 W7.heap.size 38 #[.int .i64 0, .int .i64 0, .int .i64 0, .int .u64 0, .int .u64 0, .int .i64 0, .int .u64 0, .int .u64 0, .int .i64 0, .int .i64 0, .int .i64 0, .int .u32 0, .int .u32 0, .int .i64 0, .int .i64 0, .int .i64 0, .bool false, .int .i64 0, .int .i64 0, .int .i64 0, .int .u64 0, .int .u64 0, .int .i64 0, .int .u64 0, .int .u64 0, .int .i64 0, .int .i64 0, .slice none 0 0] := by rw [← hA]; exact blk_new _ _ _
      obtain ⟨G, hG⟩ : ∃ G, W7.heap.size = G := ⟨_, rfl⟩
      have gG : W1.heap.size < G := by rw [← hG]; exact R7.lt
      go_simp
      rw [hG] at N8
      refine hK.out _ _ (by exact ⟨P8, kept (b := bk) (o := off) c8 u0, kept (b := bk) (o := off + 1) c8 u1⟩) (fun hHeld => ?_)
      clear hK K hA hG
      try simp only [Act.put, List.setIfInBounds_toArray, List.set_cons_zero, List.set_cons_succ]
      refine wpAnyH_ready (rs := [15]) (by kernel_rfl) (by simp) ?_
      refine AllReadyH.cons (o := { dst := none, op := Op.store 38 (.tmp 5) (.tmp 34), type := 0, pos := "parse.go:82", after := #[{ on := 14, ground := Ground.data }, { on := 13, ground := Ground.data }, { on := 12, ground := Ground.chain }, { on := 0, ground := Ground.phase }, { on := 1, ground := Ground.phase }, { on := 2, ground := Ground.phase }, { on := 3, ground := Ground.phase }, { on := 4, ground := Ground.phase }, { on := 5, ground := Ground.phase }, { on := 6, ground := Ground.phase }, { on := 7, ground := Ground.phase }, { on := 8, ground := Ground.phase }, { on := 9, ground := Ground.phase }, { on := 10, ground := Ground.phase }, { on := 11, ground := Ground.phase }, { on := 12, ground := Ground.phase }, { on := 13, ground := Ground.phase }, { on := 14, ground := Ground.phase }], guard := none }) rfl (fun K hK => ?_) AllReadyH.nil
      refine step_store_blk rfl _ _ _ rfl G #[.int .i64 f, .int .i64 pr, .int .i64 sf, .int .u64 sh, .int .u64 sl, .int .i64 df, .int .u64 dh, .int .u64 dl, .int .i64 V.1, .int .i64 V.2, .int .i64 0, .int .u32 0, .int .u32 0, .int .i64 0, .int .i64 x0, .int .i64 x1, .bool false, .int .i64 0, .int .i64 0, .int .i64 0, .int .u64 0, .int .u64 0, .int .i64 0, .int .u64 0, .int .u64 0, .int .i64 0, .int .i64 0, .slice a9 D.length c9] _ (by kernel_rfl) (by kernel_rfl) N8 (by kernel_rfl) (by rfl) (by kernel_rfl) ?_
      have P9 := P8.other (show w.heap.size ≠ G by omega) #[.int .i64 f, .int .i64 pr, .int .i64 sf, .int .u64 sh, .int .u64 sl, .int .i64 df, .int .u64 dh, .int .u64 dl, .int .i64 V.1, .int .i64 V.2, .int .i64 0, .int .u32 0, .int .u32 0, .int .i64 0, .int .i64 x0, .int .i64 x1, .bool false, .int .i64 0, .int .i64 0, .int .i64 0, .int .u64 0, .int .u64 0, .int .i64 0, .int .u64 0, .int .u64 0, .int .i64 0, .int .i64 0, .slice a9 D.length c9]
      have R9 := R8.other (show W1.heap.size ≠ G by omega) #[.int .i64 f, .int .i64 pr, .int .i64 sf, .int .u64 sh, .int .u64 sl, .int .i64 df, .int .u64 dh, .int .u64 dl, .int .i64 V.1, .int .i64 V.2, .int .i64 0, .int .u32 0, .int .u32 0, .int .i64 0, .int .i64 x0, .int .i64 x1, .bool false, .int .i64 0, .int .i64 0, .int .i64 0, .int .u64 0, .int .u64 0, .int .i64 0, .int .u64 0, .int .u64 0, .int .i64 0, .int .i64 0, .slice a9 D.length c9]
      have N9 := N8.set #[.int .i64 f, .int .i64 pr, .int .i64 sf, .int .u64 sh, .int .u64 sl, .int .i64 df, .int .u64 dh, .int .u64 dl, .int .i64 V.1, .int .i64 V.2, .int .i64 0, .int .u32 0, .int .u32 0, .int .i64 0, .int .i64 x0, .int .i64 x1, .bool false, .int .i64 0, .int .i64 0, .int .i64 0, .int .u64 0, .int .u64 0, .int .i64 0, .int .u64 0, .int .u64 0, .int .i64 0, .int .i64 0, .slice a9 D.length c9]
      have O9 := O8.blk_other N8 (by decide) #[.int .i64 f, .int .i64 pr, .int .i64 sf, .int .u64 sh, .int .u64 sl, .int .i64 df, .int .u64 dh, .int .u64 dl, .int .i64 V.1, .int .i64 V.2, .int .i64 0, .int .u32 0, .int .u32 0, .int .i64 0, .int .i64 x0, .int .i64 x1, .bool false, .int .i64 0, .int .i64 0, .int .i64 0, .int .u64 0, .int .u64 0, .int .i64 0, .int .u64 0, .int .u64 0, .int .i64 0, .int .i64 0, .slice a9 D.length c9]
      have c9' := below_setRow c8 (show w.heap.size ≤ G by omega) #[.int .i64 f, .int .i64 pr, .int .i64 sf, .int .u64 sh, .int .u64 sl, .int .i64 df, .int .u64 dh, .int .u64 dl, .int .i64 V.1, .int .i64 V.2, .int .i64 0, .int .u32 0, .int .u32 0, .int .i64 0, .int .i64 x0, .int .i64 x1, .bool false, .int .i64 0, .int .i64 0, .int .i64 0, .int .u64 0, .int .u64 0, .int .i64 0, .int .u64 0, .int .u64 0, .int .i64 0, .int .i64 0, .slice a9 D.length c9]
      refine hK.out _ _ (by exact ⟨P9, kept (b := bk) (o := off) c9' u0, kept (b := bk) (o := off + 1) c9' u1⟩) (fun hHeld => ?_)
      clear hK K hHeld N8 P8 R8 O8 c8
      generalize W8.setRow G #[.int .i64 f, .int .i64 pr, .int .i64 sf, .int .u64 sh, .int .u64 sl, .int .i64 df, .int .u64 dh, .int .u64 dl, .int .i64 V.1, .int .i64 V.2, .int .i64 0, .int .u32 0, .int .u32 0, .int .i64 0, .int .i64 x0, .int .i64 x1, .bool false, .int .i64 0, .int .i64 0, .int .i64 0, .int .u64 0, .int .u64 0, .int .i64 0, .int .u64 0, .int .u64 0, .int .i64 0, .int .i64 0, .slice a9 D.length c9] = W9 at *
      try simp only [Act.put, List.setIfInBounds_toArray, List.set_cons_zero, List.set_cons_succ]
      refine wpAnyH_done (by kernel_rfl) ?_ _
      refine NoPanic.normal ?_
      have d0 := P9.cell 0 (.int .i64 f) rfl
      have s14 := N9.cell 14 (.int .i64 x0) rfl
      have s27 := N9.cell 27 (.slice a9 D.length c9) rfl
      have rD := O9.row hDs hDb
      go_wp2_with fail
      refine Calls.mono (KI.out _) ?_
      rintro e W10 ⟨rfl, hW10⟩
      subst hW10
      clear KI
      go_wp2_with fail
      refine Calls.mono (KN.out _ _ _ rD rm9 O9.cap_le) ?_
      rintro e W11 ⟨rfl, bb⟩
      have P11 := P9.kept bb
      have R11 := R9.kept bb
      have N11 := N9.kept bb
      have O11 := O9.below bb
      have c11 : Below w.heap.size w W11 := c9'.trans (bb.mono c9'.size)
      clear KN bb P9 R9 N9 O9 c9' d0 s14 s27 rD
      obtain ⟨W12, hW12⟩ : ∃ W, W11.alloc (.cells #[.int .i64 0, .int .i64 0, .int .i64 0, .int .u64 0, .int .u64 0, .int .i64 0, .int .u64 0, .int .u64 0, .int .i64 0, .int .i64 0] 26) = W := ⟨_, rfl⟩
      have c12 : Below w.heap.size w W12 := by rw [← hW12]; exact c11.alloc c11.size _
      have P12 := P11.alloc (.cells #[.int .i64 0, .int .i64 0, .int .i64 0, .int .u64 0, .int .u64 0, .int .i64 0, .int .u64 0, .int .u64 0, .int .i64 0, .int .i64 0] 26)
      have R12 := R11.alloc (.cells #[.int .i64 0, .int .i64 0, .int .i64 0, .int .u64 0, .int .u64 0, .int .i64 0, .int .u64 0, .int .u64 0, .int .i64 0, .int .i64 0] 26)
      have N12 := N11.alloc (.cells #[.int .i64 0, .int .i64 0, .int .i64 0, .int .u64 0, .int .u64 0, .int .i64 0, .int .u64 0, .int .u64 0, .int .i64 0, .int .i64 0] 26)
      have O12 := O11.alloc (.cells #[.int .i64 0, .int .i64 0, .int .i64 0, .int .u64 0, .int .u64 0, .int .i64 0, .int .u64 0, .int .u64 0, .int .i64 0, .int .i64 0] 26)
      have Q12 := blk_new W11 #[.int .i64 0, .int .i64 0, .int .i64 0, .int .u64 0, .int .u64 0, .int .i64 0, .int .u64 0, .int .u64 0, .int .i64 0, .int .i64 0] 26
      rw [hW12] at P12 R12 N12 O12 Q12
      have gp : w.heap.size < W11.heap.size := P11.lt
      have gr : W1.heap.size < W11.heap.size := R11.lt
      have gn : G < W11.heap.size := N11.lt
      have P13 := P12.other (show w.heap.size ≠ W11.heap.size by omega) #[.int .i64 T.fam, .int .i64 T.pr, .int .i64 T.s.fam, .int .u64 T.s.hi, .int .u64 T.s.lo, .int .i64 T.d.fam, .int .u64 T.d.hi, .int .u64 T.d.lo, .int .i64 T.sp, .int .i64 T.dp]
      have R13 := R12.other (show W1.heap.size ≠ W11.heap.size by omega) #[.int .i64 T.fam, .int .i64 T.pr, .int .i64 T.s.fam, .int .u64 T.s.hi, .int .u64 T.s.lo, .int .i64 T.d.fam, .int .u64 T.d.hi, .int .u64 T.d.lo, .int .i64 T.sp, .int .i64 T.dp]
      have N13 := N12.other (show G ≠ W11.heap.size by omega) #[.int .i64 T.fam, .int .i64 T.pr, .int .i64 T.s.fam, .int .u64 T.s.hi, .int .u64 T.s.lo, .int .i64 T.d.fam, .int .u64 T.d.hi, .int .u64 T.d.lo, .int .i64 T.sp, .int .i64 T.dp]
      have O13 := O12.blk_other Q12 (by decide) #[.int .i64 T.fam, .int .i64 T.pr, .int .i64 T.s.fam, .int .u64 T.s.hi, .int .u64 T.s.lo, .int .i64 T.d.fam, .int .u64 T.d.hi, .int .u64 T.d.lo, .int .i64 T.sp, .int .i64 T.dp]
      have Q13 := Q12.set #[.int .i64 T.fam, .int .i64 T.pr, .int .i64 T.s.fam, .int .u64 T.s.hi, .int .u64 T.s.lo, .int .i64 T.d.fam, .int .u64 T.d.hi, .int .u64 T.d.lo, .int .i64 T.sp, .int .i64 T.dp]
      have c13 := below_setRow c12 (show w.heap.size ≤ W11.heap.size by omega) #[.int .i64 T.fam, .int .i64 T.pr, .int .i64 T.s.fam, .int .u64 T.s.hi, .int .u64 T.s.lo, .int .i64 T.d.fam, .int .u64 T.d.hi, .int .u64 T.d.lo, .int .i64 T.sp, .int .i64 T.dp]
      obtain ⟨W13, hW13⟩ : ∃ W, W12.setRow W11.heap.size #[.int .i64 T.fam, .int .i64 T.pr, .int .i64 T.s.fam, .int .u64 T.s.hi, .int .u64 T.s.lo, .int .i64 T.d.fam, .int .u64 T.d.hi, .int .u64 T.d.lo, .int .i64 T.sp, .int .i64 T.dp] = W := ⟨_, rfl⟩
      rw [hW13] at P13 R13 N13 O13 Q13 c13
      have HW13 : Hid _ := hW13
      clear hW13 P12 R12 N12 O12 c12 P11 R11 N11 O11 c11
      have hbz : (Instr.build 38 #[]).run Try.prog W13 = .ok (.agg #[.int .i64 0, .int .i64 0, .int .i64 0, .int .u64 0, .int .u64 0, .int .i64 0, .int .u64 0, .int .u64 0, .int .i64 0, .int .i64 0, .int .i64 0, .int .u32 0, .int .u32 0, .int .i64 0, .int .i64 0, .int .i64 0, .bool false, .int .i64 0, .int .i64 0, .int .i64 0, .int .u64 0, .int .u64 0, .int .i64 0, .int .u64 0, .int .u64 0, .int .i64 0, .int .i64 0, .slice none 0 0]) W13 := by kernel_rfl
      have Bf := R13.set #[.int .i64 0, .int .i64 0, .int .i64 0, .int .u64 0, .int .u64 0, .int .i64 0, .int .u64 0, .int .u64 0, .int .i64 0, .int .i64 0, .int .i64 0, .int .u32 0, .int .u32 0, .int .i64 0, .int .i64 0, .int .i64 0, .bool false, .int .i64 0, .int .i64 0, .int .i64 0, .int .u64 0, .int .u64 0, .int .i64 0, .int .u64 0, .int .u64 0, .int .i64 0, .int .i64 0, .slice none 0 0]
      have bf := below_setRow c13 (Nat.le_of_lt g1) #[.int .i64 0, .int .i64 0, .int .i64 0, .int .u64 0, .int .u64 0, .int .i64 0, .int .u64 0, .int .u64 0, .int .i64 0, .int .i64 0, .int .i64 0, .int .u32 0, .int .u32 0, .int .i64 0, .int .i64 0, .int .i64 0, .bool false, .int .i64 0, .int .i64 0, .int .i64 0, .int .u64 0, .int .u64 0, .int .i64 0, .int .u64 0, .int .u64 0, .int .i64 0, .int .i64 0, .slice none 0 0]
      go_wp2_with (first
        | (refine wpList_store_row rfl _ _ _ rfl W11.heap.size #[.int .i64 T.fam, .int .i64 T.pr, .int .i64 T.s.fam, .int .u64 T.s.hi, .int .u64 T.s.lo, .int .i64 T.d.fam, .int .u64 T.d.hi, .int .u64 T.d.lo, .int .i64 T.sp, .int .i64 T.dp] (by rfl) (by rfl) _ _ Q12 (by kernel_rfl) (by rfl) (by kernel_rfl) ?_; rw [HW13.out])
        | (refine wpList_build _ rfl _ _ rfl _ (by rfl) _ hbz ?_)
        | (refine wpList_store_row rfl _ _ _ rfl W1.heap.size #[.int .i64 0, .int .i64 0, .int .i64 0, .int .u64 0, .int .u64 0, .int .i64 0, .int .u64 0, .int .u64 0, .int .i64 0, .int .i64 0, .int .i64 0, .int .u32 0, .int .u32 0, .int .i64 0, .int .i64 0, .int .i64 0, .bool false, .int .i64 0, .int .i64 0, .int .i64 0, .int .u64 0, .int .u64 0, .int .i64 0, .int .u64 0, .int .u64 0, .int .i64 0, .int .i64 0, .slice none 0 0] (by rfl) (by rfl) _ _ R13 (by kernel_rfl) (by rfl) (by kernel_rfl) ?_))
      exact ret_cell_tmp (k := 2) (j := 3) Try.f58 (by kernel_rfl) Bf Try.underlying38 (by kernel_rfl) (by rfl) (by rfl) rfl ⟨none, 0, rfl, fresh_nil bf⟩
    · obtain ⟨W7, hA⟩ : ∃ W, W6.alloc (.cells #[.int .i64 0, .int .i64 0, .int .i64 0, .int .u64 0, .int .u64 0, .int .i64 0, .int .u64 0, .int .u64 0, .int .i64 0, .int .i64 0, .int .i64 0, .int .u32 0, .int .u32 0, .int .i64 0, .int .i64 0, .int .i64 0, .bool false, .int .i64 0, .int .i64 0, .int .i64 0, .int .u64 0, .int .u64 0, .int .i64 0, .int .u64 0, .int .u64 0, .int .i64 0, .int .i64 0, .slice none 0 0] 38) = W := ⟨_, rfl⟩
      have c7 : Below w.heap.size w W7 := by rw [← hA]; exact c6.alloc c6.size _
      have P7 := P6.alloc (.cells #[.int .i64 0, .int .i64 0, .int .i64 0, .int .u64 0, .int .u64 0, .int .i64 0, .int .u64 0, .int .u64 0, .int .i64 0, .int .i64 0, .int .i64 0, .int .u32 0, .int .u32 0, .int .i64 0, .int .i64 0, .int .i64 0, .bool false, .int .i64 0, .int .i64 0, .int .i64 0, .int .u64 0, .int .u64 0, .int .i64 0, .int .u64 0, .int .u64 0, .int .i64 0, .int .i64 0, .slice none 0 0] 38)
      rw [hA] at P7
      have R7 := R6.alloc (.cells #[.int .i64 0, .int .i64 0, .int .i64 0, .int .u64 0, .int .u64 0, .int .i64 0, .int .u64 0, .int .u64 0, .int .i64 0, .int .i64 0, .int .i64 0, .int .u32 0, .int .u32 0, .int .i64 0, .int .i64 0, .int .i64 0, .bool false, .int .i64 0, .int .i64 0, .int .i64 0, .int .u64 0, .int .u64 0, .int .i64 0, .int .u64 0, .int .u64 0, .int .i64 0, .int .i64 0, .slice none 0 0] 38)
      rw [hA] at R7
      have N7 : Blk W7 W6.heap.size 38 #[.int .i64 0, .int .i64 0, .int .i64 0, .int .u64 0, .int .u64 0, .int .i64 0, .int .u64 0, .int .u64 0, .int .i64 0, .int .i64 0, .int .i64 0, .int .u32 0, .int .u32 0, .int .i64 0, .int .i64 0, .int .i64 0, .bool false, .int .i64 0, .int .i64 0, .int .i64 0, .int .u64 0, .int .u64 0, .int .i64 0, .int .u64 0, .int .u64 0, .int .i64 0, .int .i64 0, .slice none 0 0] := by rw [← hA]; exact blk_new _ _ _
      obtain ⟨G, hG⟩ : ∃ G, W6.heap.size = G := ⟨_, rfl⟩
      have gG : W1.heap.size < G := by rw [← hG]; exact R6.lt
      go_simp
      rw [hG] at N7
      refine hK.out _ _ (by exact ⟨P7, kept (b := bk) (o := off) c7 u0, kept (b := bk) (o := off + 1) c7 u1⟩) (fun hHeld => ?_)
      clear hK K hA hG
      try simp only [Act.put, List.setIfInBounds_toArray, List.set_cons_zero, List.set_cons_succ]
      refine wpAnyH_ready (rs := [12]) (by kernel_rfl) (by simp) ?_
      refine AllReadyH.cons (o := { dst := some 33, op := Op.call { callee := Callee.value (.func 72), args := #[.tmp 32], argTypes := #[28] }, type := 28, pos := "parse.go:82", after := #[{ on := 11, ground := Ground.data }, { on := 1, ground := Ground.chain }], guard := none }) rfl (fun K hK => ?_) AllReadyH.nil
      go_simp
      refine Calls.mono (KC.out _ (h.below c7)) ?_
      rintro e W8 ⟨a9, c9, rfl, f9⟩
      have c8 : Below w.heap.size w W8 := c7.trans (f9.below.mono c7.size)
      have P8 := P7.kept f9.below
      have R8 := R7.kept f9.below
      have N8 := N7.kept f9.below
      have O8 := owns_le (B' := W1.heap.size + 1) (by have := R7.lt; omega) f9.owns
      have rm9 := f9.room
      have nl9 := f9.nil
      clear f9
      refine hK.out _ _ (by exact ⟨P8, kept (b := bk) (o := off) c8 u0, kept (b := bk) (o := off + 1) c8 u1⟩) (fun hHeld => ?_)
      clear hK K
      try simp only [Act.put, List.setIfInBounds_toArray, List.set_cons_zero, List.set_cons_succ]
      refine wpAnyH_take (i := 13) (oi := { dst := some 34, op := Op.build 38 #[(0, .tmp 22), (5, .tmp 26), (6, .tmp 30), (9, .tmp 33)], type := 38, pos := "parse.go:82", after := #[{ on := 1, ground := Ground.data }, { on := 5, ground := Ground.data }, { on := 9, ground := Ground.data }, { on := 12, ground := Ground.data }], guard := none }) (v := (.agg #[.int .i64 f, .int .i64 pr, .int .i64 sf, .int .u64 sh, .int .u64 sl, .int .i64 df, .int .u64 dh, .int .u64 dl, .int .i64 V.1, .int .i64 V.2, .int .i64 0, .int .u32 0, .int .u32 0, .int .i64 0, .int .i64 x0, .int .i64 x1, .bool false, .int .i64 0, .int .i64 0, .int .i64 0, .int .u64 0, .int .u64 0, .int .i64 0, .int .u64 0, .int .u64 0, .int .i64 0, .int .i64 0, .slice a9 D.length c9])) rfl (by kernel_rfl) (by kernel_rfl) (by kernel_rfl) (fun _ _ _ h => h) (yieldsIf_build rfl _ _ rfl #[(0, .agg #[.int .i64 f, .int .i64 pr, .int .i64 sf, .int .u64 sh, .int .u64 sl, .int .i64 df, .int .u64 dh, .int .u64 dl, .int .i64 V.1, .int .i64 V.2]), (5, .int .i64 x0), (6, .int .i64 x1), (9, .slice a9 D.length c9)] (by kernel_rfl) _ (fun w9 => by kernel_rfl)) hHeld ?_
      try simp only [Act.put, List.setIfInBounds_toArray, List.set_cons_zero, List.set_cons_succ]
      refine wpAnyH_ready (rs := [15]) (by kernel_rfl) (by simp) ?_
      refine AllReadyH.cons (o := { dst := none, op := Op.store 38 (.tmp 5) (.tmp 34), type := 0, pos := "parse.go:82", after := #[{ on := 14, ground := Ground.data }, { on := 13, ground := Ground.data }, { on := 12, ground := Ground.chain }, { on := 0, ground := Ground.phase }, { on := 1, ground := Ground.phase }, { on := 2, ground := Ground.phase }, { on := 3, ground := Ground.phase }, { on := 4, ground := Ground.phase }, { on := 5, ground := Ground.phase }, { on := 6, ground := Ground.phase }, { on := 7, ground := Ground.phase }, { on := 8, ground := Ground.phase }, { on := 9, ground := Ground.phase }, { on := 10, ground := Ground.phase }, { on := 11, ground := Ground.phase }, { on := 12, ground := Ground.phase }, { on := 13, ground := Ground.phase }, { on := 14, ground := Ground.phase }], guard := none }) rfl (fun K hK => ?_) AllReadyH.nil
      refine step_store_blk rfl _ _ _ rfl G #[.int .i64 f, .int .i64 pr, .int .i64 sf, .int .u64 sh, .int .u64 sl, .int .i64 df, .int .u64 dh, .int .u64 dl, .int .i64 V.1, .int .i64 V.2, .int .i64 0, .int .u32 0, .int .u32 0, .int .i64 0, .int .i64 x0, .int .i64 x1, .bool false, .int .i64 0, .int .i64 0, .int .i64 0, .int .u64 0, .int .u64 0, .int .i64 0, .int .u64 0, .int .u64 0, .int .i64 0, .int .i64 0, .slice a9 D.length c9] _ (by kernel_rfl) (by kernel_rfl) N8 (by kernel_rfl) (by rfl) (by kernel_rfl) ?_
      have P9 := P8.other (show w.heap.size ≠ G by omega) #[.int .i64 f, .int .i64 pr, .int .i64 sf, .int .u64 sh, .int .u64 sl, .int .i64 df, .int .u64 dh, .int .u64 dl, .int .i64 V.1, .int .i64 V.2, .int .i64 0, .int .u32 0, .int .u32 0, .int .i64 0, .int .i64 x0, .int .i64 x1, .bool false, .int .i64 0, .int .i64 0, .int .i64 0, .int .u64 0, .int .u64 0, .int .i64 0, .int .u64 0, .int .u64 0, .int .i64 0, .int .i64 0, .slice a9 D.length c9]
      have R9 := R8.other (show W1.heap.size ≠ G by omega) #[.int .i64 f, .int .i64 pr, .int .i64 sf, .int .u64 sh, .int .u64 sl, .int .i64 df, .int .u64 dh, .int .u64 dl, .int .i64 V.1, .int .i64 V.2, .int .i64 0, .int .u32 0, .int .u32 0, .int .i64 0, .int .i64 x0, .int .i64 x1, .bool false, .int .i64 0, .int .i64 0, .int .i64 0, .int .u64 0, .int .u64 0, .int .i64 0, .int .u64 0, .int .u64 0, .int .i64 0, .int .i64 0, .slice a9 D.length c9]
      have N9 := N8.set #[.int .i64 f, .int .i64 pr, .int .i64 sf, .int .u64 sh, .int .u64 sl, .int .i64 df, .int .u64 dh, .int .u64 dl, .int .i64 V.1, .int .i64 V.2, .int .i64 0, .int .u32 0, .int .u32 0, .int .i64 0, .int .i64 x0, .int .i64 x1, .bool false, .int .i64 0, .int .i64 0, .int .i64 0, .int .u64 0, .int .u64 0, .int .i64 0, .int .u64 0, .int .u64 0, .int .i64 0, .int .i64 0, .slice a9 D.length c9]
      have O9 := O8.blk_other N8 (by decide) #[.int .i64 f, .int .i64 pr, .int .i64 sf, .int .u64 sh, .int .u64 sl, .int .i64 df, .int .u64 dh, .int .u64 dl, .int .i64 V.1, .int .i64 V.2, .int .i64 0, .int .u32 0, .int .u32 0, .int .i64 0, .int .i64 x0, .int .i64 x1, .bool false, .int .i64 0, .int .i64 0, .int .i64 0, .int .u64 0, .int .u64 0, .int .i64 0, .int .u64 0, .int .u64 0, .int .i64 0, .int .i64 0, .slice a9 D.length c9]
      have c9' := below_setRow c8 (show w.heap.size ≤ G by omega) #[.int .i64 f, .int .i64 pr, .int .i64 sf, .int .u64 sh, .int .u64 sl, .int .i64 df, .int .u64 dh, .int .u64 dl, .int .i64 V.1, .int .i64 V.2, .int .i64 0, .int .u32 0, .int .u32 0, .int .i64 0, .int .i64 x0, .int .i64 x1, .bool false, .int .i64 0, .int .i64 0, .int .i64 0, .int .u64 0, .int .u64 0, .int .i64 0, .int .u64 0, .int .u64 0, .int .i64 0, .int .i64 0, .slice a9 D.length c9]
      refine hK.out _ _ (by exact ⟨P9, kept (b := bk) (o := off) c9' u0, kept (b := bk) (o := off + 1) c9' u1⟩) (fun hHeld => ?_)
      clear hK K hHeld N8 P8 R8 O8 c8
      generalize W8.setRow G #[.int .i64 f, .int .i64 pr, .int .i64 sf, .int .u64 sh, .int .u64 sl, .int .i64 df, .int .u64 dh, .int .u64 dl, .int .i64 V.1, .int .i64 V.2, .int .i64 0, .int .u32 0, .int .u32 0, .int .i64 0, .int .i64 x0, .int .i64 x1, .bool false, .int .i64 0, .int .i64 0, .int .i64 0, .int .u64 0, .int .u64 0, .int .i64 0, .int .u64 0, .int .u64 0, .int .i64 0, .int .i64 0, .slice a9 D.length c9] = W9 at *
      try simp only [Act.put, List.setIfInBounds_toArray, List.set_cons_zero, List.set_cons_succ]
      refine wpAnyH_done (by kernel_rfl) ?_ _
      refine NoPanic.normal ?_
      have d0 := P9.cell 0 (.int .i64 f) rfl
      have s14 := N9.cell 14 (.int .i64 x0) rfl
      have s27 := N9.cell 27 (.slice a9 D.length c9) rfl
      have rD := O9.row hDs hDb
      go_wp2_with fail
      refine Calls.mono (KI.out _) ?_
      rintro e W10 ⟨rfl, hW10⟩
      subst hW10
      clear KI
      go_wp2_with fail
      refine Calls.mono (KN.out _ _ _ rD rm9 O9.cap_le) ?_
      rintro e W11 ⟨rfl, bb⟩
      have P11 := P9.kept bb
      have R11 := R9.kept bb
      have N11 := N9.kept bb
      have O11 := O9.below bb
      have c11 : Below w.heap.size w W11 := c9'.trans (bb.mono c9'.size)
      clear KN bb P9 R9 N9 O9 c9' d0 s14 s27 rD
      obtain ⟨W12, hW12⟩ : ∃ W, W11.alloc (.cells #[.int .i64 0, .int .i64 0, .int .i64 0, .int .u64 0, .int .u64 0, .int .i64 0, .int .u64 0, .int .u64 0, .int .i64 0, .int .i64 0] 26) = W := ⟨_, rfl⟩
      have c12 : Below w.heap.size w W12 := by rw [← hW12]; exact c11.alloc c11.size _
      have P12 := P11.alloc (.cells #[.int .i64 0, .int .i64 0, .int .i64 0, .int .u64 0, .int .u64 0, .int .i64 0, .int .u64 0, .int .u64 0, .int .i64 0, .int .i64 0] 26)
      have R12 := R11.alloc (.cells #[.int .i64 0, .int .i64 0, .int .i64 0, .int .u64 0, .int .u64 0, .int .i64 0, .int .u64 0, .int .u64 0, .int .i64 0, .int .i64 0] 26)
      have N12 := N11.alloc (.cells #[.int .i64 0, .int .i64 0, .int .i64 0, .int .u64 0, .int .u64 0, .int .i64 0, .int .u64 0, .int .u64 0, .int .i64 0, .int .i64 0] 26)
      have O12 := O11.alloc (.cells #[.int .i64 0, .int .i64 0, .int .i64 0, .int .u64 0, .int .u64 0, .int .i64 0, .int .u64 0, .int .u64 0, .int .i64 0, .int .i64 0] 26)
      have Q12 := blk_new W11 #[.int .i64 0, .int .i64 0, .int .i64 0, .int .u64 0, .int .u64 0, .int .i64 0, .int .u64 0, .int .u64 0, .int .i64 0, .int .i64 0] 26
      rw [hW12] at P12 R12 N12 O12 Q12
      have gp : w.heap.size < W11.heap.size := P11.lt
      have gr : W1.heap.size < W11.heap.size := R11.lt
      have gn : G < W11.heap.size := N11.lt
      have P13 := P12.other (show w.heap.size ≠ W11.heap.size by omega) #[.int .i64 T.fam, .int .i64 T.pr, .int .i64 T.s.fam, .int .u64 T.s.hi, .int .u64 T.s.lo, .int .i64 T.d.fam, .int .u64 T.d.hi, .int .u64 T.d.lo, .int .i64 T.sp, .int .i64 T.dp]
      have R13 := R12.other (show W1.heap.size ≠ W11.heap.size by omega) #[.int .i64 T.fam, .int .i64 T.pr, .int .i64 T.s.fam, .int .u64 T.s.hi, .int .u64 T.s.lo, .int .i64 T.d.fam, .int .u64 T.d.hi, .int .u64 T.d.lo, .int .i64 T.sp, .int .i64 T.dp]
      have N13 := N12.other (show G ≠ W11.heap.size by omega) #[.int .i64 T.fam, .int .i64 T.pr, .int .i64 T.s.fam, .int .u64 T.s.hi, .int .u64 T.s.lo, .int .i64 T.d.fam, .int .u64 T.d.hi, .int .u64 T.d.lo, .int .i64 T.sp, .int .i64 T.dp]
      have O13 := O12.blk_other Q12 (by decide) #[.int .i64 T.fam, .int .i64 T.pr, .int .i64 T.s.fam, .int .u64 T.s.hi, .int .u64 T.s.lo, .int .i64 T.d.fam, .int .u64 T.d.hi, .int .u64 T.d.lo, .int .i64 T.sp, .int .i64 T.dp]
      have Q13 := Q12.set #[.int .i64 T.fam, .int .i64 T.pr, .int .i64 T.s.fam, .int .u64 T.s.hi, .int .u64 T.s.lo, .int .i64 T.d.fam, .int .u64 T.d.hi, .int .u64 T.d.lo, .int .i64 T.sp, .int .i64 T.dp]
      have c13 := below_setRow c12 (show w.heap.size ≤ W11.heap.size by omega) #[.int .i64 T.fam, .int .i64 T.pr, .int .i64 T.s.fam, .int .u64 T.s.hi, .int .u64 T.s.lo, .int .i64 T.d.fam, .int .u64 T.d.hi, .int .u64 T.d.lo, .int .i64 T.sp, .int .i64 T.dp]
      obtain ⟨W13, hW13⟩ : ∃ W, W12.setRow W11.heap.size #[.int .i64 T.fam, .int .i64 T.pr, .int .i64 T.s.fam, .int .u64 T.s.hi, .int .u64 T.s.lo, .int .i64 T.d.fam, .int .u64 T.d.hi, .int .u64 T.d.lo, .int .i64 T.sp, .int .i64 T.dp] = W := ⟨_, rfl⟩
      rw [hW13] at P13 R13 N13 O13 Q13 c13
      have HW13 : Hid _ := hW13
      clear hW13 P12 R12 N12 O12 c12 P11 R11 N11 O11 c11
      have hbz : (Instr.build 38 #[]).run Try.prog W13 = .ok (.agg #[.int .i64 0, .int .i64 0, .int .i64 0, .int .u64 0, .int .u64 0, .int .i64 0, .int .u64 0, .int .u64 0, .int .i64 0, .int .i64 0, .int .i64 0, .int .u32 0, .int .u32 0, .int .i64 0, .int .i64 0, .int .i64 0, .bool false, .int .i64 0, .int .i64 0, .int .i64 0, .int .u64 0, .int .u64 0, .int .i64 0, .int .u64 0, .int .u64 0, .int .i64 0, .int .i64 0, .slice none 0 0]) W13 := by kernel_rfl
      have Bf := R13.set #[.int .i64 0, .int .i64 0, .int .i64 0, .int .u64 0, .int .u64 0, .int .i64 0, .int .u64 0, .int .u64 0, .int .i64 0, .int .i64 0, .int .i64 0, .int .u32 0, .int .u32 0, .int .i64 0, .int .i64 0, .int .i64 0, .bool false, .int .i64 0, .int .i64 0, .int .i64 0, .int .u64 0, .int .u64 0, .int .i64 0, .int .u64 0, .int .u64 0, .int .i64 0, .int .i64 0, .slice none 0 0]
      have bf := below_setRow c13 (Nat.le_of_lt g1) #[.int .i64 0, .int .i64 0, .int .i64 0, .int .u64 0, .int .u64 0, .int .i64 0, .int .u64 0, .int .u64 0, .int .i64 0, .int .i64 0, .int .i64 0, .int .u32 0, .int .u32 0, .int .i64 0, .int .i64 0, .int .i64 0, .bool false, .int .i64 0, .int .i64 0, .int .i64 0, .int .u64 0, .int .u64 0, .int .i64 0, .int .u64 0, .int .u64 0, .int .i64 0, .int .i64 0, .slice none 0 0]
      go_wp2_with (first
        | (refine wpList_store_row rfl _ _ _ rfl W11.heap.size #[.int .i64 T.fam, .int .i64 T.pr, .int .i64 T.s.fam, .int .u64 T.s.hi, .int .u64 T.s.lo, .int .i64 T.d.fam, .int .u64 T.d.hi, .int .u64 T.d.lo, .int .i64 T.sp, .int .i64 T.dp] (by rfl) (by rfl) _ _ Q12 (by kernel_rfl) (by rfl) (by kernel_rfl) ?_; rw [HW13.out])
        | (refine wpList_build _ rfl _ _ rfl _ (by rfl) _ hbz ?_)
        | (refine wpList_store_row rfl _ _ _ rfl W1.heap.size #[.int .i64 0, .int .i64 0, .int .i64 0, .int .u64 0, .int .u64 0, .int .i64 0, .int .u64 0, .int .u64 0, .int .i64 0, .int .i64 0, .int .i64 0, .int .u32 0, .int .u32 0, .int .i64 0, .int .i64 0, .int .i64 0, .bool false, .int .i64 0, .int .i64 0, .int .i64 0, .int .u64 0, .int .u64 0, .int .i64 0, .int .u64 0, .int .u64 0, .int .i64 0, .int .i64 0, .slice none 0 0] (by rfl) (by rfl) _ _ R13 (by kernel_rfl) (by rfl) (by kernel_rfl) ?_))
      exact ret_cell_tmp (k := 2) (j := 3) Try.f58 (by kernel_rfl) Bf Try.underlying38 (by kernel_rfl) (by rfl) (by rfl) rfl ⟨none, 0, rfl, fresh_nil bf⟩
  · obtain ⟨W6, hA⟩ : ∃ W, W5.alloc (.cells #[.int .i64 0, .int .i64 0, .int .i64 0, .int .u64 0, .int .u64 0, .int .i64 0, .int .u64 0, .int .u64 0, .int .i64 0, .int .i64 0, .int .i64 0, .int .u32 0, .int .u32 0, .int .i64 0, .int .i64 0, .int .i64 0, .bool false, .int .i64 0, .int .i64 0, .int .i64 0, .int .u64 0, .int .u64 0, .int .i64 0, .int .u64 0, .int .u64 0, .int .i64 0, .int .i64 0, .slice none 0 0] 38) = W := ⟨_, rfl⟩
    have c6 : Below w.heap.size w W6 := by rw [← hA]; exact c5.alloc c5.size _
    have P6 := P5.alloc (.cells #[.int .i64 0, .int .i64 0, .int .i64 0, .int .u64 0, .int .u64 0, .int .i64 0, .int .u64 0, .int .u64 0, .int .i64 0, .int .i64 0, .int .i64 0, .int .u32 0, .int .u32 0, .int .i64 0, .int .i64 0, .int .i64 0, .bool false, .int .i64 0, .int .i64 0, .int .i64 0, .int .u64 0, .int .u64 0, .int .i64 0, .int .u64 0, .int .u64 0, .int .i64 0, .int .i64 0, .slice none 0 0] 38)
    rw [hA] at P6
    have R6 := R5.alloc (.cells #[.int .i64 0, .int .i64 0, .int .i64 0, .int .u64 0, .int .u64 0, .int .i64 0, .int .u64 0, .int .u64 0, .int .i64 0, .int .i64 0, .int .i64 0, .int .u32 0, .int .u32 0, .int .i64 0, .int .i64 0, .int .i64 0, .bool false, .int .i64 0, .int .i64 0, .int .i64 0, .int .u64 0, .int .u64 0, .int .i64 0, .int .u64 0, .int .u64 0, .int .i64 0, .int .i64 0, .slice none 0 0] 38)
    rw [hA] at R6
    have N6 : Blk W6 W5.heap.size 38 #[.int .i64 0, .int .i64 0, .int .i64 0, .int .u64 0, .int .u64 0, .int .i64 0, .int .u64 0, .int .u64 0, .int .i64 0, .int .i64 0, .int .i64 0, .int .u32 0, .int .u32 0, .int .i64 0, .int .i64 0, .int .i64 0, .bool false, .int .i64 0, .int .i64 0, .int .i64 0, .int .u64 0, .int .u64 0, .int .i64 0, .int .u64 0, .int .u64 0, .int .i64 0, .int .i64 0, .slice none 0 0] := by rw [← hA]; exact blk_new _ _ _
    obtain ⟨G, hG⟩ : ∃ G, W5.heap.size = G := ⟨_, rfl⟩
    have gG : W1.heap.size < G := by rw [← hG]; exact R5.lt
    go_simp
    rw [hG] at N6
    refine hK.out _ _ (by exact ⟨P6, kept (b := bk) (o := off) c6 u0, kept (b := bk) (o := off + 1) c6 u1⟩) (fun hHeld => ?_)
    clear hK K hA hG
    try simp only [Act.put, List.setIfInBounds_toArray, List.set_cons_zero, List.set_cons_succ]
    refine wpAnyH_ready (rs := [1]) (by kernel_rfl) (by simp) ?_
    refine AllReadyH.cons (o := { dst := some 22, op := Op.call { callee := Callee.value (.func 70), args := #[.tmp 21], argTypes := #[64] }, type := 26, pos := "parse.go:82", after := #[{ on := 0, ground := Ground.data }], guard := none }) rfl (fun K hK => ?_) AllReadyH.nil
    go_simp
    refine Calls.mono (KW.out _ (h.below c6)) ?_
    rintro e W7 ⟨rfl, bb⟩
    have c7 : Below w.heap.size w W7 := c6.trans (bb.mono c6.size)
    have P7 := P6.kept bb
    have R7 := R6.kept bb
    have N7 := N6.kept bb
    clear bb
    refine hK.out _ _ (by exact ⟨P7, kept (b := bk) (o := off) c7 u0, kept (b := bk) (o := off + 1) c7 u1⟩) (fun hHeld => ?_)
    clear hK K
    try simp only [Act.put, List.setIfInBounds_toArray, List.set_cons_zero, List.set_cons_succ]
    refine wpAnyH_ready (rs := [12]) (by kernel_rfl) (by simp) ?_
    refine AllReadyH.cons (o := { dst := some 33, op := Op.call { callee := Callee.value (.func 72), args := #[.tmp 32], argTypes := #[28] }, type := 28, pos := "parse.go:82", after := #[{ on := 11, ground := Ground.data }, { on := 1, ground := Ground.chain }], guard := none }) rfl (fun K hK => ?_) AllReadyH.nil
    go_simp
    refine Calls.mono (KC.out _ (h.below c7)) ?_
    rintro e W8 ⟨a9, c9, rfl, f9⟩
    have c8 : Below w.heap.size w W8 := c7.trans (f9.below.mono c7.size)
    have P8 := P7.kept f9.below
    have R8 := R7.kept f9.below
    have N8 := N7.kept f9.below
    have O8 := owns_le (B' := W1.heap.size + 1) (by have := R7.lt; omega) f9.owns
    have rm9 := f9.room
    have nl9 := f9.nil
    clear f9
    refine hK.out _ _ (by exact ⟨P8, kept (b := bk) (o := off) c8 u0, kept (b := bk) (o := off + 1) c8 u1⟩) (fun hHeld => ?_)
    clear hK K
    try simp only [Act.put, List.setIfInBounds_toArray, List.set_cons_zero, List.set_cons_succ]
    refine wpAnyH_take (i := 13) (oi := { dst := some 34, op := Op.build 38 #[(0, .tmp 22), (5, .tmp 26), (6, .tmp 30), (9, .tmp 33)], type := 38, pos := "parse.go:82", after := #[{ on := 1, ground := Ground.data }, { on := 5, ground := Ground.data }, { on := 9, ground := Ground.data }, { on := 12, ground := Ground.data }], guard := none }) (v := (.agg #[.int .i64 f, .int .i64 pr, .int .i64 sf, .int .u64 sh, .int .u64 sl, .int .i64 df, .int .u64 dh, .int .u64 dl, .int .i64 V.1, .int .i64 V.2, .int .i64 0, .int .u32 0, .int .u32 0, .int .i64 0, .int .i64 x0, .int .i64 x1, .bool false, .int .i64 0, .int .i64 0, .int .i64 0, .int .u64 0, .int .u64 0, .int .i64 0, .int .u64 0, .int .u64 0, .int .i64 0, .int .i64 0, .slice a9 D.length c9])) rfl (by kernel_rfl) (by kernel_rfl) (by kernel_rfl) (fun _ _ _ h => h) (yieldsIf_build rfl _ _ rfl #[(0, .agg #[.int .i64 f, .int .i64 pr, .int .i64 sf, .int .u64 sh, .int .u64 sl, .int .i64 df, .int .u64 dh, .int .u64 dl, .int .i64 V.1, .int .i64 V.2]), (5, .int .i64 x0), (6, .int .i64 x1), (9, .slice a9 D.length c9)] (by kernel_rfl) _ (fun w9 => by kernel_rfl)) hHeld ?_
    try simp only [Act.put, List.setIfInBounds_toArray, List.set_cons_zero, List.set_cons_succ]
    refine wpAnyH_ready (rs := [15]) (by kernel_rfl) (by simp) ?_
    refine AllReadyH.cons (o := { dst := none, op := Op.store 38 (.tmp 5) (.tmp 34), type := 0, pos := "parse.go:82", after := #[{ on := 14, ground := Ground.data }, { on := 13, ground := Ground.data }, { on := 12, ground := Ground.chain }, { on := 0, ground := Ground.phase }, { on := 1, ground := Ground.phase }, { on := 2, ground := Ground.phase }, { on := 3, ground := Ground.phase }, { on := 4, ground := Ground.phase }, { on := 5, ground := Ground.phase }, { on := 6, ground := Ground.phase }, { on := 7, ground := Ground.phase }, { on := 8, ground := Ground.phase }, { on := 9, ground := Ground.phase }, { on := 10, ground := Ground.phase }, { on := 11, ground := Ground.phase }, { on := 12, ground := Ground.phase }, { on := 13, ground := Ground.phase }, { on := 14, ground := Ground.phase }], guard := none }) rfl (fun K hK => ?_) AllReadyH.nil
    refine step_store_blk rfl _ _ _ rfl G #[.int .i64 f, .int .i64 pr, .int .i64 sf, .int .u64 sh, .int .u64 sl, .int .i64 df, .int .u64 dh, .int .u64 dl, .int .i64 V.1, .int .i64 V.2, .int .i64 0, .int .u32 0, .int .u32 0, .int .i64 0, .int .i64 x0, .int .i64 x1, .bool false, .int .i64 0, .int .i64 0, .int .i64 0, .int .u64 0, .int .u64 0, .int .i64 0, .int .u64 0, .int .u64 0, .int .i64 0, .int .i64 0, .slice a9 D.length c9] _ (by kernel_rfl) (by kernel_rfl) N8 (by kernel_rfl) (by rfl) (by kernel_rfl) ?_
    have P9 := P8.other (show w.heap.size ≠ G by omega) #[.int .i64 f, .int .i64 pr, .int .i64 sf, .int .u64 sh, .int .u64 sl, .int .i64 df, .int .u64 dh, .int .u64 dl, .int .i64 V.1, .int .i64 V.2, .int .i64 0, .int .u32 0, .int .u32 0, .int .i64 0, .int .i64 x0, .int .i64 x1, .bool false, .int .i64 0, .int .i64 0, .int .i64 0, .int .u64 0, .int .u64 0, .int .i64 0, .int .u64 0, .int .u64 0, .int .i64 0, .int .i64 0, .slice a9 D.length c9]
    have R9 := R8.other (show W1.heap.size ≠ G by omega) #[.int .i64 f, .int .i64 pr, .int .i64 sf, .int .u64 sh, .int .u64 sl, .int .i64 df, .int .u64 dh, .int .u64 dl, .int .i64 V.1, .int .i64 V.2, .int .i64 0, .int .u32 0, .int .u32 0, .int .i64 0, .int .i64 x0, .int .i64 x1, .bool false, .int .i64 0, .int .i64 0, .int .i64 0, .int .u64 0, .int .u64 0, .int .i64 0, .int .u64 0, .int .u64 0, .int .i64 0, .int .i64 0, .slice a9 D.length c9]
    have N9 := N8.set #[.int .i64 f, .int .i64 pr, .int .i64 sf, .int .u64 sh, .int .u64 sl, .int .i64 df, .int .u64 dh, .int .u64 dl, .int .i64 V.1, .int .i64 V.2, .int .i64 0, .int .u32 0, .int .u32 0, .int .i64 0, .int .i64 x0, .int .i64 x1, .bool false, .int .i64 0, .int .i64 0, .int .i64 0, .int .u64 0, .int .u64 0, .int .i64 0, .int .u64 0, .int .u64 0, .int .i64 0, .int .i64 0, .slice a9 D.length c9]
    have O9 := O8.blk_other N8 (by decide) #[.int .i64 f, .int .i64 pr, .int .i64 sf, .int .u64 sh, .int .u64 sl, .int .i64 df, .int .u64 dh, .int .u64 dl, .int .i64 V.1, .int .i64 V.2, .int .i64 0, .int .u32 0, .int .u32 0, .int .i64 0, .int .i64 x0, .int .i64 x1, .bool false, .int .i64 0, .int .i64 0, .int .i64 0, .int .u64 0, .int .u64 0, .int .i64 0, .int .u64 0, .int .u64 0, .int .i64 0, .int .i64 0, .slice a9 D.length c9]
    have c9' := below_setRow c8 (show w.heap.size ≤ G by omega) #[.int .i64 f, .int .i64 pr, .int .i64 sf, .int .u64 sh, .int .u64 sl, .int .i64 df, .int .u64 dh, .int .u64 dl, .int .i64 V.1, .int .i64 V.2, .int .i64 0, .int .u32 0, .int .u32 0, .int .i64 0, .int .i64 x0, .int .i64 x1, .bool false, .int .i64 0, .int .i64 0, .int .i64 0, .int .u64 0, .int .u64 0, .int .i64 0, .int .u64 0, .int .u64 0, .int .i64 0, .int .i64 0, .slice a9 D.length c9]
    refine hK.out _ _ (by exact ⟨P9, kept (b := bk) (o := off) c9' u0, kept (b := bk) (o := off + 1) c9' u1⟩) (fun hHeld => ?_)
    clear hK K hHeld N8 P8 R8 O8 c8
    generalize W8.setRow G #[.int .i64 f, .int .i64 pr, .int .i64 sf, .int .u64 sh, .int .u64 sl, .int .i64 df, .int .u64 dh, .int .u64 dl, .int .i64 V.1, .int .i64 V.2, .int .i64 0, .int .u32 0, .int .u32 0, .int .i64 0, .int .i64 x0, .int .i64 x1, .bool false, .int .i64 0, .int .i64 0, .int .i64 0, .int .u64 0, .int .u64 0, .int .i64 0, .int .u64 0, .int .u64 0, .int .i64 0, .int .i64 0, .slice a9 D.length c9] = W9 at *
    try simp only [Act.put, List.setIfInBounds_toArray, List.set_cons_zero, List.set_cons_succ]
    refine wpAnyH_done (by kernel_rfl) ?_ _
    refine NoPanic.normal ?_
    have d0 := P9.cell 0 (.int .i64 f) rfl
    have s14 := N9.cell 14 (.int .i64 x0) rfl
    have s27 := N9.cell 27 (.slice a9 D.length c9) rfl
    have rD := O9.row hDs hDb
    go_wp2_with fail
    refine Calls.mono (KI.out _) ?_
    rintro e W10 ⟨rfl, hW10⟩
    subst hW10
    clear KI
    go_wp2_with fail
    refine Calls.mono (KN.out _ _ _ rD rm9 O9.cap_le) ?_
    rintro e W11 ⟨rfl, bb⟩
    have P11 := P9.kept bb
    have R11 := R9.kept bb
    have N11 := N9.kept bb
    have O11 := O9.below bb
    have c11 : Below w.heap.size w W11 := c9'.trans (bb.mono c9'.size)
    clear KN bb P9 R9 N9 O9 c9' d0 s14 s27 rD
    obtain ⟨W12, hW12⟩ : ∃ W, W11.alloc (.cells #[.int .i64 0, .int .i64 0, .int .i64 0, .int .u64 0, .int .u64 0, .int .i64 0, .int .u64 0, .int .u64 0, .int .i64 0, .int .i64 0] 26) = W := ⟨_, rfl⟩
    have c12 : Below w.heap.size w W12 := by rw [← hW12]; exact c11.alloc c11.size _
    have P12 := P11.alloc (.cells #[.int .i64 0, .int .i64 0, .int .i64 0, .int .u64 0, .int .u64 0, .int .i64 0, .int .u64 0, .int .u64 0, .int .i64 0, .int .i64 0] 26)
    have R12 := R11.alloc (.cells #[.int .i64 0, .int .i64 0, .int .i64 0, .int .u64 0, .int .u64 0, .int .i64 0, .int .u64 0, .int .u64 0, .int .i64 0, .int .i64 0] 26)
    have N12 := N11.alloc (.cells #[.int .i64 0, .int .i64 0, .int .i64 0, .int .u64 0, .int .u64 0, .int .i64 0, .int .u64 0, .int .u64 0, .int .i64 0, .int .i64 0] 26)
    have O12 := O11.alloc (.cells #[.int .i64 0, .int .i64 0, .int .i64 0, .int .u64 0, .int .u64 0, .int .i64 0, .int .u64 0, .int .u64 0, .int .i64 0, .int .i64 0] 26)
    have Q12 := blk_new W11 #[.int .i64 0, .int .i64 0, .int .i64 0, .int .u64 0, .int .u64 0, .int .i64 0, .int .u64 0, .int .u64 0, .int .i64 0, .int .i64 0] 26
    rw [hW12] at P12 R12 N12 O12 Q12
    have gp : w.heap.size < W11.heap.size := P11.lt
    have gr : W1.heap.size < W11.heap.size := R11.lt
    have gn : G < W11.heap.size := N11.lt
    have P13 := P12.other (show w.heap.size ≠ W11.heap.size by omega) #[.int .i64 T.fam, .int .i64 T.pr, .int .i64 T.s.fam, .int .u64 T.s.hi, .int .u64 T.s.lo, .int .i64 T.d.fam, .int .u64 T.d.hi, .int .u64 T.d.lo, .int .i64 T.sp, .int .i64 T.dp]
    have R13 := R12.other (show W1.heap.size ≠ W11.heap.size by omega) #[.int .i64 T.fam, .int .i64 T.pr, .int .i64 T.s.fam, .int .u64 T.s.hi, .int .u64 T.s.lo, .int .i64 T.d.fam, .int .u64 T.d.hi, .int .u64 T.d.lo, .int .i64 T.sp, .int .i64 T.dp]
    have N13 := N12.other (show G ≠ W11.heap.size by omega) #[.int .i64 T.fam, .int .i64 T.pr, .int .i64 T.s.fam, .int .u64 T.s.hi, .int .u64 T.s.lo, .int .i64 T.d.fam, .int .u64 T.d.hi, .int .u64 T.d.lo, .int .i64 T.sp, .int .i64 T.dp]
    have O13 := O12.blk_other Q12 (by decide) #[.int .i64 T.fam, .int .i64 T.pr, .int .i64 T.s.fam, .int .u64 T.s.hi, .int .u64 T.s.lo, .int .i64 T.d.fam, .int .u64 T.d.hi, .int .u64 T.d.lo, .int .i64 T.sp, .int .i64 T.dp]
    have Q13 := Q12.set #[.int .i64 T.fam, .int .i64 T.pr, .int .i64 T.s.fam, .int .u64 T.s.hi, .int .u64 T.s.lo, .int .i64 T.d.fam, .int .u64 T.d.hi, .int .u64 T.d.lo, .int .i64 T.sp, .int .i64 T.dp]
    have c13 := below_setRow c12 (show w.heap.size ≤ W11.heap.size by omega) #[.int .i64 T.fam, .int .i64 T.pr, .int .i64 T.s.fam, .int .u64 T.s.hi, .int .u64 T.s.lo, .int .i64 T.d.fam, .int .u64 T.d.hi, .int .u64 T.d.lo, .int .i64 T.sp, .int .i64 T.dp]
    obtain ⟨W13, hW13⟩ : ∃ W, W12.setRow W11.heap.size #[.int .i64 T.fam, .int .i64 T.pr, .int .i64 T.s.fam, .int .u64 T.s.hi, .int .u64 T.s.lo, .int .i64 T.d.fam, .int .u64 T.d.hi, .int .u64 T.d.lo, .int .i64 T.sp, .int .i64 T.dp] = W := ⟨_, rfl⟩
    rw [hW13] at P13 R13 N13 O13 Q13 c13
    have HW13 : Hid _ := hW13
    clear hW13 P12 R12 N12 O12 c12 P11 R11 N11 O11 c11
    have hbz : (Instr.build 38 #[]).run Try.prog W13 = .ok (.agg #[.int .i64 0, .int .i64 0, .int .i64 0, .int .u64 0, .int .u64 0, .int .i64 0, .int .u64 0, .int .u64 0, .int .i64 0, .int .i64 0, .int .i64 0, .int .u32 0, .int .u32 0, .int .i64 0, .int .i64 0, .int .i64 0, .bool false, .int .i64 0, .int .i64 0, .int .i64 0, .int .u64 0, .int .u64 0, .int .i64 0, .int .u64 0, .int .u64 0, .int .i64 0, .int .i64 0, .slice none 0 0]) W13 := by kernel_rfl
    have Bf := R13.set #[.int .i64 0, .int .i64 0, .int .i64 0, .int .u64 0, .int .u64 0, .int .i64 0, .int .u64 0, .int .u64 0, .int .i64 0, .int .i64 0, .int .i64 0, .int .u32 0, .int .u32 0, .int .i64 0, .int .i64 0, .int .i64 0, .bool false, .int .i64 0, .int .i64 0, .int .i64 0, .int .u64 0, .int .u64 0, .int .i64 0, .int .u64 0, .int .u64 0, .int .i64 0, .int .i64 0, .slice none 0 0]
    have bf := below_setRow c13 (Nat.le_of_lt g1) #[.int .i64 0, .int .i64 0, .int .i64 0, .int .u64 0, .int .u64 0, .int .i64 0, .int .u64 0, .int .u64 0, .int .i64 0, .int .i64 0, .int .i64 0, .int .u32 0, .int .u32 0, .int .i64 0, .int .i64 0, .int .i64 0, .bool false, .int .i64 0, .int .i64 0, .int .i64 0, .int .u64 0, .int .u64 0, .int .i64 0, .int .u64 0, .int .u64 0, .int .i64 0, .int .i64 0, .slice none 0 0]
    go_wp2_with (first
      | (refine wpList_store_row rfl _ _ _ rfl W11.heap.size #[.int .i64 T.fam, .int .i64 T.pr, .int .i64 T.s.fam, .int .u64 T.s.hi, .int .u64 T.s.lo, .int .i64 T.d.fam, .int .u64 T.d.hi, .int .u64 T.d.lo, .int .i64 T.sp, .int .i64 T.dp] (by rfl) (by rfl) _ _ Q12 (by kernel_rfl) (by rfl) (by kernel_rfl) ?_; rw [HW13.out])
      | (refine wpList_build _ rfl _ _ rfl _ (by rfl) _ hbz ?_)
      | (refine wpList_store_row rfl _ _ _ rfl W1.heap.size #[.int .i64 0, .int .i64 0, .int .i64 0, .int .u64 0, .int .u64 0, .int .i64 0, .int .u64 0, .int .u64 0, .int .i64 0, .int .i64 0, .int .i64 0, .int .u32 0, .int .u32 0, .int .i64 0, .int .i64 0, .int .i64 0, .bool false, .int .i64 0, .int .i64 0, .int .i64 0, .int .u64 0, .int .u64 0, .int .i64 0, .int .u64 0, .int .u64 0, .int .i64 0, .int .i64 0, .slice none 0 0] (by rfl) (by rfl) _ _ R13 (by kernel_rfl) (by rfl) (by kernel_rfl) ?_))
    exact ret_cell_tmp (k := 2) (j := 3) Try.f58 (by kernel_rfl) Bf Try.underlying38 (by kernel_rfl) (by rfl) (by rfl) rfl ⟨none, 0, rfl, fresh_nil bf⟩

end Go.Proofs.Ytgdpcomcndidcaa
