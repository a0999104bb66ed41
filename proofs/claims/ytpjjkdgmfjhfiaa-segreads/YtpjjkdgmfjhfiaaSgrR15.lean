/- Texts joined: SgJ -/
import Derived.Test.YtpjjkdgmfjhfiaaSgrR14
namespace Go.Proofs.Ytpjjkdgmfjhfiaa
abbrev sgrR15o0 : Oper := { dst := some 7, op := Op.assign (.tmp 24), type := 39, pos := "parse.go:169", after := #[{ on := 11, ground := Ground.data }, { on := 14, ground := Ground.chain }, { on := 0, ground := Ground.phase }, { on := 1, ground := Ground.phase }, { on := 2, ground := Ground.phase }, { on := 3, ground := Ground.phase }, { on := 4, ground := Ground.phase }, { on := 5, ground := Ground.phase }, { on := 6, ground := Ground.phase }, { on := 7, ground := Ground.phase }, { on := 8, ground := Ground.phase }, { on := 9, ground := Ground.phase }, { on := 10, ground := Ground.phase }, { on := 11, ground := Ground.phase }, { on := 12, ground := Ground.phase }, { on := 13, ground := Ground.phase }, { on := 14, ground := Ground.phase }], guard := none }
abbrev sgrR15o1 : Oper := { dst := some 6, op := Op.assign (.tmp 23), type := 28, pos := "parse.go:169", after := #[{ on := 10, ground := Ground.data }, { on := 13, ground := Ground.chain }, { on := 0, ground := Ground.phase }, { on := 1, ground := Ground.phase }, { on := 2, ground := Ground.phase }, { on := 3, ground := Ground.phase }, { on := 4, ground := Ground.phase }, { on := 5, ground := Ground.phase }, { on := 6, ground := Ground.phase }, { on := 7, ground := Ground.phase }, { on := 8, ground := Ground.phase }, { on := 9, ground := Ground.phase }, { on := 10, ground := Ground.phase }, { on := 11, ground := Ground.textOnly Departure.lateStores }, { on := 12, ground := Ground.phase }, { on := 13, ground := Ground.phase }], guard := none }
abbrev sgrR15o2 : Oper := { dst := some 5, op := Op.assign (.tmp 22), type := 34, pos := "parse.go:169", after := #[{ on := 9, ground := Ground.data }, { on := 12, ground := Ground.chain }, { on := 0, ground := Ground.phase }, { on := 1, ground := Ground.phase }, { on := 2, ground := Ground.phase }, { on := 3, ground := Ground.phase }, { on := 4, ground := Ground.phase }, { on := 5, ground := Ground.phase }, { on := 6, ground := Ground.phase }, { on := 7, ground := Ground.phase }, { on := 8, ground := Ground.phase }, { on := 9, ground := Ground.phase }, { on := 10, ground := Ground.textOnly Departure.lateStores }, { on := 11, ground := Ground.textOnly Departure.lateStores }, { on := 12, ground := Ground.phase }], guard := none }
abbrev sgrR15o3 : Oper := { dst := some 4, op := Op.assign (.tmp 21), type := 3, pos := "parse.go:169", after := #[{ on := 8, ground := Ground.data }, { on := 6, ground := Ground.chain }, { on := 0, ground := Ground.phase }, { on := 1, ground := Ground.phase }, { on := 2, ground := Ground.phase }, { on := 3, ground := Ground.phase }, { on := 4, ground := Ground.phase }, { on := 5, ground := Ground.phase }, { on := 6, ground := Ground.phase }, { on := 7, ground := Ground.phase }, { on := 8, ground := Ground.phase }, { on := 9, ground := Ground.textOnly Departure.lateStores }, { on := 10, ground := Ground.textOnly Departure.lateStores }, { on := 11, ground := Ground.textOnly Departure.lateStores }], guard := none }
abbrev sgrR15o4 : Oper := { dst := some 20, op := Op.call { callee := Callee.value (.func 89), args := #[.tmp 17, .tmp 19], argTypes := #[3, 28] }, type := 107, pos := "parse.go:169", after := #[{ on := 3, ground := Ground.data }, { on := 5, ground := Ground.data }], guard := none }
abbrev sgrR15o5 : Oper := { dst := some 24, op := Op.extract (.tmp 13) 3, type := 39, pos := "parse.go:169", after := #[{ on := 7, ground := Ground.data }, { on := 14, ground := Ground.gcOnly Departure.lateStores }], guard := none }
abbrev sgrR15o6 : Oper := { dst := some 23, op := Op.extract (.tmp 13) 2, type := 28, pos := "parse.go:169", after := #[{ on := 7, ground := Ground.data }, { on := 13, ground := Ground.gcOnly Departure.lateStores }], guard := none }
abbrev sgrR15o7 : Oper := { dst := some 22, op := Op.extract (.tmp 13) 1, type := 34, pos := "parse.go:169", after := #[{ on := 7, ground := Ground.data }, { on := 12, ground := Ground.gcOnly Departure.lateStores }], guard := none }
abbrev sgrR15o8 : Oper := { dst := some 19, op := Op.slice 28 (.tmp 18) (some (.const (.int .i64 40))) none none, type := 28, pos := "parse.go:169", after := #[{ on := 4, ground := Ground.data }], guard := none }
abbrev sgrR15o9 : Oper := { dst := some 15, op := Op.indexAddr 28 (.tmp 14) (.const (.int .i64 6)), type := 0, pos := "parse.go:169", after := #[{ on := 0, ground := Ground.data }], guard := none }
abbrev sgrR15o10 : Oper := { dst := some 13, op := Op.move (.tmp 20), type := 107, pos := "parse.go:169", after := #[{ on := 6, ground := Ground.data }], guard := none }
abbrev sgrR15o11 : Oper := { dst := some 17, op := Op.convert 5 3 (.tmp 16), type := 3, pos := "parse.go:169", after := #[{ on := 2, ground := Ground.data }], guard := none }
abbrev sgrR15o12 : Oper := { dst := some 16, op := Op.load 5 (.tmp 15), type := 5, pos := "parse.go:169", after := #[{ on := 1, ground := Ground.data }], guard := none }
abbrev sgrR15o13 : Oper := { dst := some 21, op := Op.extract (.tmp 13) 0, type := 3, pos := "parse.go:169", after := #[{ on := 7, ground := Ground.data }], guard := none }
abbrev sgrR15o14 : Oper := { dst := some 14, op := Op.move (.tmp 0), type := 28, pos := "parse.go:169", after := #[], guard := none }
abbrev sgrR15o15 : Oper := { dst := some 18, op := Op.move (.tmp 0), type := 28, pos := "parse.go:169", after := #[], guard := none }
end Go.Proofs.Ytpjjkdgmfjhfiaa
namespace Go.Proofs.Ytpjjkdgmfjhfiaa
open Go.RowKit
set_option linter.unusedVariables false
set_option linter.unusedSimpArgs false
set_option maxRecDepth 100000 in
set_option maxHeartbeats 4000000 in
theorem inner6_n1 (bk off dc : Nat) (b : List Int) (w : World) (h : Row w (some ⟨bk, off, none⟩) b) (hll : b.length ≤ 140737488351232) (hc : b.length ≤ dc) (hcm : dc ≤ 9223372036854775807) (hne : ¬ b.length = 0) (h4 : b.length < 40) :
    Calls Try.prog 85 #[.slice (some ⟨bk, off, none⟩) b.length dc] w fun e w' => e = .returned (.tuple #[.agg (tpv ((inner6 b).getD zTp)), .bool (inner6 b).isSome]) ∧ Below w.heap.size w w' := by
  obtain ⟨W1, hW1⟩ : ∃ W1, w.alloc (.cells (sRb 0 0 0 0 0 0 0 0 0 0) 26) = W1 := ⟨_, rfl⟩
  have b1 := bel_nw hW1
  have B1 := blk_nw hW1
  have eN : inner6 b = none := by
    unfold inner6
    rw [if_pos h4]
  rw [eN]
  have h4' : (b.length : Int) < 40 := by omega
  clear eN h4
  have hbz : (Instr.build 26 #[]).run Try.prog W1 = .ok (.agg (sRb 0 0 0 0 0 0 0 0 0 0)) W1 := by kernel_rfl
  go_enter Try.func85, Try.ntmps85
  have Bf := B1.set (sRb 0 0 0 0 0 0 0 0 0 0)
  have bf := below_setRow b1 (Nat.le_refl _) (sRb 0 0 0 0 0 0 0 0 0 0)
  go_wp2_with (first
    | (refine wpList_build _ rfl _ _ rfl _ (by rfl) _ hbz ?_)
    | (refine wpList_store_row rfl _ _ _ rfl w.heap.size (sRb 0 0 0 0 0 0 0 0 0 0) (by rfl) (by rfl) _ _ B1 (by kernel_rfl) (by rfl) (by kernel_rfl) ?_))
  exact ret_cell_tmp (k := 2) (j := 3) Try.f85 (by kernel_rfl) Bf Try.underlying26 (by kernel_rfl) (by rfl) (by rfl) rfl ⟨rfl, bf⟩
set_option maxRecDepth 100000 in
set_option maxHeartbeats 4000000 in
theorem inner6_n2 (bk off dc : Nat) (b : List Int) (w : World) (h : Row w (some ⟨bk, off, none⟩) b) (hll : b.length ≤ 140737488351232) (hc : b.length ≤ dc) (hcm : dc ≤ 9223372036854775807) (hne : ¬ b.length = 0) (h4 : ¬ b.length < 40) (h5 : wE (b.getD 6 0) (b.drop 40) ≠ 0) :
    Calls Try.prog 85 #[.slice (some ⟨bk, off, none⟩) b.length dc] w fun e w' => e = .returned (.tuple #[.agg (tpv ((inner6 b).getD zTp)), .bool (inner6 b).isSome]) ∧ Below w.heap.size w w' := by
  obtain ⟨W1, hW1⟩ : ∃ W1, w.alloc (.cells (sRb 0 0 0 0 0 0 0 0 0 0) 26) = W1 := ⟨_, rfl⟩
  have b1 := bel_nw hW1
  have B1 := blk_nw hW1
  have eN : inner6 b = none := by
    unfold inner6
    rw [if_neg h4, if_pos (Or.inl h5)]
  rw [eN]
  clear eN
  have h40' : ¬ (b.length : Int) < 40 := by omega
  obtain ⟨x6, e6⟩ : ∃ x, b.getD 6 0 = x := ⟨_, rfl⟩
  have q6 := h.bytes.get 6
  obtain ⟨bk', off', ee, hcl⟩ := h.cells (by omega)
  cases ee
  have y6 := kept (b := bk) (o := off + 6) b1 (hcl 6 (by omega))
  rw [e6] at y6 q6
  have i6 : (6 : Int) < (b.length : Int) := by omega
  have wx6 : IntKind.i64.wrap x6 = x6 := wraps_i64 _ (by omega) (by omega)
  have n40 : 40 ≤ b.length := by omega
  have jh2 : (40 : Int) ≤ (b.length : Int) := by omega
  obtain ⟨a3, ha3⟩ : ∃ a3 : Option Addr, (if dc = 40 then (some ⟨bk, off, none⟩) else Option.map (fun x : Addr => x.add 40) (some ⟨bk, off, none⟩)) = a3 := ⟨_, rfl⟩
  have H3 : Hid ((if dc = 40 then some (⟨bk, off, none⟩ : Addr) else some ⟨bk, off + 40, none⟩) = a3) := by
    have : (if dc = 40 then some (⟨bk, off, none⟩ : Addr) else some ⟨bk, off + 40, none⟩) = a3 := by
      rw [← ha3]
      simp [Go.WideShapes.add_plain]
    exact this
  obtain ⟨D, hD⟩ : ∃ D, b.drop 40 = D := ⟨_, rfl⟩
  have lD : D.length = b.length - 40 := by rw [← hD, List.length_drop]
  obtain ⟨S, hS⟩ : ∃ S, wS x6 D = S := ⟨_, rfl⟩
  obtain ⟨EE, hEE⟩ : ∃ S, wE x6 D = S := ⟨_, rfl⟩
  obtain ⟨NX, hNX⟩ : ∃ x, S.next = x := ⟨_, rfl⟩
  obtain ⟨RS, hRS⟩ : ∃ x, S.l = x := ⟨_, rfl⟩
  obtain ⟨EX, hEX⟩ : ∃ x, S.ex.length = x := ⟨_, rfl⟩
  have KW : Hid (∀ W, Row W (some ⟨bk, off, none⟩) b → Calls Try.prog 89 #[.int .i64 x6, .slice a3 (b.length - 40) (dc - 40)] W fun e w' => ∃ xa xc a' c', e = .returned (.tuple #[.int .i64 NX, .slice xa EX xc, .slice a' RS.length c', .int .i64 EE]) ∧ Fresh W w' a' c' RS) := fun W hW => by
    have hr := hW.drop dc 40 hc
    rw [ha3, hD] at hr
    have := walk6_any x6 a3 (dc - 40) D W hr (by omega) (by omega) (fun e => by
      rw [e] at ha3
      split at ha3
      · cases ha3
      · cases ha3)
    rw [lD, hS, hEE, hNX, hRS, hEX] at this
    refine Calls.mono this ?_
    rintro e w' ⟨xa, xc, a', c', h1, h2, _⟩
    exact ⟨xa, xc, a', c', h1, h2⟩
  rw [e6, hD, hEE] at h5
  have h5' : (EE != 0) = true := by simpa using h5
  clear h5
  clear hS hEE hNX hRS hEX hD lD ha3 hcl e6
  go_enter Try.func85, Try.ntmps85
  go_wp2_with fail
  refine wp_region_noPanic ?_
  refine wp_region_held_drew (S := fun w' => w'.cell? ⟨bk, off + 6, none⟩ = some (.int .u8 x6)) (by kernel_rfl) (by exact y6) (fun hHeld => ?_)
  refine tk (i := 0) (oi := sgrR15o14) (v := (.slice (some ⟨bk, off, none⟩) b.length dc)) hHeld ?_ ?_
  · intro w9 hSw
    try dsimp only at hSw
    go_simp
  try simp only [pu]
  refine tk (i := 1) (oi := sgrR15o9) (v := (.pointer (some ⟨bk, off + 6, none⟩))) hHeld ?_ ?_
  · intro w9 hSw
    try dsimp only at hSw
    go_simp
  try simp only [pu]
  refine tk (i := 2) (oi := sgrR15o12) (v := (.int .u8 x6)) hHeld ?_ ?_
  · intro w9 hSw
    try dsimp only at hSw
    go_simp
  try simp only [pu]
  refine tk (i := 3) (oi := sgrR15o11) (v := (.int .i64 x6)) hHeld ?_ ?_
  · intro w9 hSw
    try dsimp only at hSw
    go_simp
  try simp only [pu]
  refine tk (i := 4) (oi := sgrR15o15) (v := (.slice (some ⟨bk, off, none⟩) b.length dc)) hHeld ?_ ?_
  · intro w9 hSw
    try dsimp only at hSw
    go_simp
  try simp only [pu]
  refine tk (i := 5) (oi := sgrR15o8) (v := (.slice a3 (b.length - 40) (dc - 40))) hHeld ?_ ?_
  · intro w9 hSw
    try dsimp only at hSw
    go_simp
    exact H3.out
  try simp only [pu]
  refine wpAnyH_ready (rs := [6]) (by kernel_rfl) (by simp) ?_
  refine AllReadyH.cons (o := sgrR15o4) rfl (fun K hK => ?_) AllReadyH.nil
  go_simp
  refine Calls.mono (KW.out _ (h.below b1.drew)) ?_
  rintro e W4 ⟨xa, xc, a4, c4, rfl, f4⟩
  have b4 : Below w.heap.size w W4 := b1.drew.trans (f4.below.mono b1.drew.size)
  have B4 := B1.drew.kept f4.below
  refine hK.out _ _ ?_ (fun hHeld => ?_)
  · exact kept (b := bk) (o := off + 6) f4.below y6
  clear hK K
  try simp only [pu]
  refine tk (i := 7) (oi := sgrR15o10) (v := (.tuple #[.int .i64 NX, .slice xa EX xc, .slice a4 RS.length c4, .int .i64 EE])) hHeld ?_ ?_
  · intro w9 hSw
    try dsimp only at hSw
    go_simp
  try simp only [pu]
  refine tk (i := 8) (oi := sgrR15o13) (v := (.int .i64 NX)) hHeld ?_ ?_
  · intro w9 hSw
    try dsimp only at hSw
    go_simp
  try simp only [pu]
  refine tk (i := 9) (oi := sgrR15o7) (v := (.slice xa EX xc)) hHeld ?_ ?_
  · intro w9 hSw
    try dsimp only at hSw
    go_simp
  try simp only [pu]
  refine tk (i := 10) (oi := sgrR15o6) (v := (.slice a4 RS.length c4)) hHeld ?_ ?_
  · intro w9 hSw
    try dsimp only at hSw
    go_simp
  try simp only [pu]
  refine tk (i := 11) (oi := sgrR15o5) (v := (.int .i64 EE)) hHeld ?_ ?_
  · intro w9 hSw
    try dsimp only at hSw
    go_simp
  try simp only [pu]
  refine tk (i := 12) (oi := sgrR15o3) (v := (.int .i64 NX)) hHeld ?_ ?_
  · intro w9 hSw
    try dsimp only at hSw
    go_simp
  try simp only [pu]
  refine tk (i := 13) (oi := sgrR15o2) (v := (.slice xa EX xc)) hHeld ?_ ?_
  · intro w9 hSw
    try dsimp only at hSw
    go_simp
  try simp only [pu]
  refine tk (i := 14) (oi := sgrR15o1) (v := (.slice a4 RS.length c4)) hHeld ?_ ?_
  · intro w9 hSw
    try dsimp only at hSw
    go_simp
  try simp only [pu]
  refine tk (i := 15) (oi := sgrR15o0) (v := (.int .i64 EE)) hHeld ?_ ?_
  · intro w9 hSw
    try dsimp only at hSw
    go_simp
  try simp only [pu]
  refine wpAnyH_done (by kernel_rfl) ?_ _
  refine NoPanic.normal ?_
  have hbz : (Instr.build 26 #[]).run Try.prog W4 = .ok (.agg (sRb 0 0 0 0 0 0 0 0 0 0)) W4 := by kernel_rfl
  have Bf := B4.set (sRb 0 0 0 0 0 0 0 0 0 0)
  have bf := below_setRow b4 (Nat.le_refl _) (sRb 0 0 0 0 0 0 0 0 0 0)
  go_wp2_with (first
    | (refine wpList_build _ rfl _ _ rfl _ (by rfl) _ hbz ?_)
    | (refine wpList_store_row rfl _ _ _ rfl w.heap.size (sRb 0 0 0 0 0 0 0 0 0 0) (by rfl) (by rfl) _ _ B4 (by kernel_rfl) (by rfl) (by kernel_rfl) ?_))
  exact ret_cell_tmp (k := 2) (j := 3) Try.f85 (by kernel_rfl) Bf Try.underlying26 (by kernel_rfl) (by rfl) (by rfl) rfl ⟨rfl, bf⟩
set_option maxRecDepth 100000 in
set_option maxHeartbeats 4000000 in
theorem inner6_n3 (bk off dc : Nat) (b : List Int) (w : World) (h : Row w (some ⟨bk, off, none⟩) b) (hll : b.length ≤ 140737488351232) (hc : b.length ≤ dc) (hcm : dc ≤ 9223372036854775807) (hne : ¬ b.length = 0) (h4 : ¬ b.length < 40) (h5 : wE (b.getD 6 0) (b.drop 40) = 0) (h7 : (wS (b.getD 6 0) (b.drop 40)).l.length < 8) :
    Calls Try.prog 85 #[.slice (some ⟨bk, off, none⟩) b.length dc] w fun e w' => e = .returned (.tuple #[.agg (tpv ((inner6 b).getD zTp)), .bool (inner6 b).isSome]) ∧ Below w.heap.size w w' := by
  obtain ⟨W1, hW1⟩ : ∃ W1, w.alloc (.cells (sRb 0 0 0 0 0 0 0 0 0 0) 26) = W1 := ⟨_, rfl⟩
  have b1 := bel_nw hW1
  have B1 := blk_nw hW1
  have eN : inner6 b = none := by
    unfold inner6
    rw [if_neg h4, if_pos (Or.inr h7)]
  rw [eN]
  clear eN
  have h40' : ¬ (b.length : Int) < 40 := by omega
  obtain ⟨x6, e6⟩ : ∃ x, b.getD 6 0 = x := ⟨_, rfl⟩
  have q6 := h.bytes.get 6
  obtain ⟨bk', off', ee, hcl⟩ := h.cells (by omega)
  cases ee
  have y6 := kept (b := bk) (o := off + 6) b1 (hcl 6 (by omega))
  rw [e6] at y6 q6
  have i6 : (6 : Int) < (b.length : Int) := by omega
  have wx6 : IntKind.i64.wrap x6 = x6 := wraps_i64 _ (by omega) (by omega)
  have n40 : 40 ≤ b.length := by omega
  have jh2 : (40 : Int) ≤ (b.length : Int) := by omega
  obtain ⟨a3, ha3⟩ : ∃ a3 : Option Addr, (if dc = 40 then (some ⟨bk, off, none⟩) else Option.map (fun x : Addr => x.add 40) (some ⟨bk, off, none⟩)) = a3 := ⟨_, rfl⟩
  have H3 : Hid ((if dc = 40 then some (⟨bk, off, none⟩ : Addr) else some ⟨bk, off + 40, none⟩) = a3) := by
    have : (if dc = 40 then some (⟨bk, off, none⟩ : Addr) else some ⟨bk, off + 40, none⟩) = a3 := by
      rw [← ha3]
      simp [Go.WideShapes.add_plain]
    exact this
  obtain ⟨D, hD⟩ : ∃ D, b.drop 40 = D := ⟨_, rfl⟩
  have lD : D.length = b.length - 40 := by rw [← hD, List.length_drop]
  obtain ⟨S, hS⟩ : ∃ S, wS x6 D = S := ⟨_, rfl⟩
  obtain ⟨EE, hEE⟩ : ∃ S, wE x6 D = S := ⟨_, rfl⟩
  obtain ⟨NX, hNX⟩ : ∃ x, S.next = x := ⟨_, rfl⟩
  obtain ⟨RS, hRS⟩ : ∃ x, S.l = x := ⟨_, rfl⟩
  obtain ⟨EX, hEX⟩ : ∃ x, S.ex.length = x := ⟨_, rfl⟩
  have KW : Hid (∀ W, Row W (some ⟨bk, off, none⟩) b → Calls Try.prog 89 #[.int .i64 x6, .slice a3 (b.length - 40) (dc - 40)] W fun e w' => ∃ xa xc a' c', e = .returned (.tuple #[.int .i64 NX, .slice xa EX xc, .slice a' RS.length c', .int .i64 EE]) ∧ Fresh W w' a' c' RS) := fun W hW => by
    have hr := hW.drop dc 40 hc
    rw [ha3, hD] at hr
    have := walk6_any x6 a3 (dc - 40) D W hr (by omega) (by omega) (fun e => by
      rw [e] at ha3
      split at ha3
      · cases ha3
      · cases ha3)
    rw [lD, hS, hEE, hNX, hRS, hEX] at this
    refine Calls.mono this ?_
    rintro e w' ⟨xa, xc, a', c', h1, h2, _⟩
    exact ⟨xa, xc, a', c', h1, h2⟩
  rw [e6, hD, hEE] at h5
  rw [e6, hD, hS, hRS] at h7
  have h5' : (EE != 0) = false := by simpa using h5
  have h7' : (RS.length : Int) < 8 := by omega
  clear h5
  clear hS hEE hNX hRS hEX hD lD ha3 hcl e6
  go_enter Try.func85, Try.ntmps85
  go_wp2_with fail
  refine wp_region_noPanic ?_
  refine wp_region_held_drew (S := fun w' => w'.cell? ⟨bk, off + 6, none⟩ = some (.int .u8 x6)) (by kernel_rfl) (by exact y6) (fun hHeld => ?_)
  refine tk (i := 0) (oi := sgrR15o14) (v := (.slice (some ⟨bk, off, none⟩) b.length dc)) hHeld ?_ ?_
  · intro w9 hSw
    try dsimp only at hSw
    go_simp
  try simp only [pu]
  refine tk (i := 1) (oi := sgrR15o9) (v := (.pointer (some ⟨bk, off + 6, none⟩))) hHeld ?_ ?_
  · intro w9 hSw
    try dsimp only at hSw
    go_simp
  try simp only [pu]
  refine tk (i := 2) (oi := sgrR15o12) (v := (.int .u8 x6)) hHeld ?_ ?_
  · intro w9 hSw
    try dsimp only at hSw
    go_simp
  try simp only [pu]
  refine tk (i := 3) (oi := sgrR15o11) (v := (.int .i64 x6)) hHeld ?_ ?_
  · intro w9 hSw
    try dsimp only at hSw
    go_simp
  try simp only [pu]
  refine tk (i := 4) (oi := sgrR15o15) (v := (.slice (some ⟨bk, off, none⟩) b.length dc)) hHeld ?_ ?_
  · intro w9 hSw
    try dsimp only at hSw
    go_simp
  try simp only [pu]
  refine tk (i := 5) (oi := sgrR15o8) (v := (.slice a3 (b.length - 40) (dc - 40))) hHeld ?_ ?_
  · intro w9 hSw
    try dsimp only at hSw
    go_simp
    exact H3.out
  try simp only [pu]
  refine wpAnyH_ready (rs := [6]) (by kernel_rfl) (by simp) ?_
  refine AllReadyH.cons (o := sgrR15o4) rfl (fun K hK => ?_) AllReadyH.nil
  go_simp
  refine Calls.mono (KW.out _ (h.below b1.drew)) ?_
  rintro e W4 ⟨xa, xc, a4, c4, rfl, f4⟩
  have b4 : Below w.heap.size w W4 := b1.drew.trans (f4.below.mono b1.drew.size)
  have B4 := B1.drew.kept f4.below
  refine hK.out _ _ ?_ (fun hHeld => ?_)
  · exact kept (b := bk) (o := off + 6) f4.below y6
  clear hK K
  try simp only [pu]
  refine tk (i := 7) (oi := sgrR15o10) (v := (.tuple #[.int .i64 NX, .slice xa EX xc, .slice a4 RS.length c4, .int .i64 EE])) hHeld ?_ ?_
  · intro w9 hSw
    try dsimp only at hSw
    go_simp
  try simp only [pu]
  refine tk (i := 8) (oi := sgrR15o13) (v := (.int .i64 NX)) hHeld ?_ ?_
  · intro w9 hSw
    try dsimp only at hSw
    go_simp
  try simp only [pu]
  refine tk (i := 9) (oi := sgrR15o7) (v := (.slice xa EX xc)) hHeld ?_ ?_
  · intro w9 hSw
    try dsimp only at hSw
    go_simp
  try simp only [pu]
  refine tk (i := 10) (oi := sgrR15o6) (v := (.slice a4 RS.length c4)) hHeld ?_ ?_
  · intro w9 hSw
    try dsimp only at hSw
    go_simp
  try simp only [pu]
  refine tk (i := 11) (oi := sgrR15o5) (v := (.int .i64 EE)) hHeld ?_ ?_
  · intro w9 hSw
    try dsimp only at hSw
    go_simp
  try simp only [pu]
  refine tk (i := 12) (oi := sgrR15o3) (v := (.int .i64 NX)) hHeld ?_ ?_
  · intro w9 hSw
    try dsimp only at hSw
    go_simp
  try simp only [pu]
  refine tk (i := 13) (oi := sgrR15o2) (v := (.slice xa EX xc)) hHeld ?_ ?_
  · intro w9 hSw
    try dsimp only at hSw
    go_simp
  try simp only [pu]
  refine tk (i := 14) (oi := sgrR15o1) (v := (.slice a4 RS.length c4)) hHeld ?_ ?_
  · intro w9 hSw
    try dsimp only at hSw
    go_simp
  try simp only [pu]
  refine tk (i := 15) (oi := sgrR15o0) (v := (.int .i64 EE)) hHeld ?_ ?_
  · intro w9 hSw
    try dsimp only at hSw
    go_simp
  try simp only [pu]
  refine wpAnyH_done (by kernel_rfl) ?_ _
  refine NoPanic.normal ?_
  have hbz : (Instr.build 26 #[]).run Try.prog W4 = .ok (.agg (sRb 0 0 0 0 0 0 0 0 0 0)) W4 := by kernel_rfl
  have Bf := B4.set (sRb 0 0 0 0 0 0 0 0 0 0)
  have bf := below_setRow b4 (Nat.le_refl _) (sRb 0 0 0 0 0 0 0 0 0 0)
  go_wp2_with (first
    | (refine wpList_build _ rfl _ _ rfl _ (by rfl) _ hbz ?_)
    | (refine wpList_store_row rfl _ _ _ rfl w.heap.size (sRb 0 0 0 0 0 0 0 0 0 0) (by rfl) (by rfl) _ _ B4 (by kernel_rfl) (by rfl) (by kernel_rfl) ?_))
  exact ret_cell_tmp (k := 2) (j := 3) Try.f85 (by kernel_rfl) Bf Try.underlying26 (by kernel_rfl) (by rfl) (by rfl) rfl ⟨rfl, bf⟩
set_option maxRecDepth 100000 in
set_option maxHeartbeats 4000000 in
theorem inner6_y (bk off dc : Nat) (b : List Int) (w : World) (h : Row w (some ⟨bk, off, none⟩) b) (hll : b.length ≤ 140737488351232) (hc : b.length ≤ dc) (hcm : dc ≤ 9223372036854775807) (hne : ¬ b.length = 0) (h4 : ¬ b.length < 40) (h5 : wE (b.getD 6 0) (b.drop 40) = 0) (h7 : ¬ (wS (b.getD 6 0) (b.drop 40)).l.length < 8) :
    Calls Try.prog 85 #[.slice (some ⟨bk, off, none⟩) b.length dc] w fun e w' => e = .returned (.tuple #[.agg (tpv ((inner6 b).getD zTp)), .bool (inner6 b).isSome]) ∧ Below w.heap.size w w' := by
  obtain ⟨W1, hW1⟩ : ∃ W1, w.alloc (.cells (sRb 0 0 0 0 0 0 0 0 0 0) 26) = W1 := ⟨_, rfl⟩
  have b1 := bel_nw hW1
  have B1 := blk_nw hW1
  have h40' : ¬ (b.length : Int) < 40 := by omega
  obtain ⟨x6, e6⟩ : ∃ x, b.getD 6 0 = x := ⟨_, rfl⟩
  have q6 := h.bytes.get 6
  obtain ⟨bk', off', ee, hcl⟩ := h.cells (by omega)
  cases ee
  have y6 := kept (b := bk) (o := off + 6) b1 (hcl 6 (by omega))
  rw [e6] at y6 q6
  have i6 : (6 : Int) < (b.length : Int) := by omega
  have wx6 : IntKind.i64.wrap x6 = x6 := wraps_i64 _ (by omega) (by omega)
  have n40 : 40 ≤ b.length := by omega
  have jh2 : (40 : Int) ≤ (b.length : Int) := by omega
  obtain ⟨a3, ha3⟩ : ∃ a3 : Option Addr, (if dc = 40 then (some ⟨bk, off, none⟩) else Option.map (fun x : Addr => x.add 40) (some ⟨bk, off, none⟩)) = a3 := ⟨_, rfl⟩
  have H3 : Hid ((if dc = 40 then some (⟨bk, off, none⟩ : Addr) else some ⟨bk, off + 40, none⟩) = a3) := by
    have : (if dc = 40 then some (⟨bk, off, none⟩ : Addr) else some ⟨bk, off + 40, none⟩) = a3 := by
      rw [← ha3]
      simp [Go.WideShapes.add_plain]
    exact this
  obtain ⟨D, hD⟩ : ∃ D, b.drop 40 = D := ⟨_, rfl⟩
  have lD : D.length = b.length - 40 := by rw [← hD, List.length_drop]
  obtain ⟨S, hS⟩ : ∃ S, wS x6 D = S := ⟨_, rfl⟩
  obtain ⟨EE, hEE⟩ : ∃ S, wE x6 D = S := ⟨_, rfl⟩
  obtain ⟨NX, hNX⟩ : ∃ x, S.next = x := ⟨_, rfl⟩
  obtain ⟨RS, hRS⟩ : ∃ x, S.l = x := ⟨_, rfl⟩
  obtain ⟨EX, hEX⟩ : ∃ x, S.ex.length = x := ⟨_, rfl⟩
  have KW : Hid (∀ W, Row W (some ⟨bk, off, none⟩) b → Calls Try.prog 89 #[.int .i64 x6, .slice a3 (b.length - 40) (dc - 40)] W fun e w' => ∃ xa xc a' c', e = .returned (.tuple #[.int .i64 NX, .slice xa EX xc, .slice a' RS.length c', .int .i64 EE]) ∧ Fresh W w' a' c' RS) := fun W hW => by
    have hr := hW.drop dc 40 hc
    rw [ha3, hD] at hr
    have := walk6_any x6 a3 (dc - 40) D W hr (by omega) (by omega) (fun e => by
      rw [e] at ha3
      split at ha3
      · cases ha3
      · cases ha3)
    rw [lD, hS, hEE, hNX, hRS, hEX] at this
    refine Calls.mono this ?_
    rintro e w' ⟨xa, xc, a', c', h1, h2, _⟩
    exact ⟨xa, xc, a', c', h1, h2⟩
  obtain ⟨V, hV⟩ : ∃ V, portsOf 6 NX RS = V := ⟨_, rfl⟩
  obtain ⟨A1, hA1⟩ : ∃ A, (fromB (partv b 8 16)).1 = A := ⟨_, rfl⟩
  obtain ⟨A2, hA2⟩ : ∃ A, (fromB (partv b 24 16)).1 = A := ⟨_, rfl⟩
  have e : inner6 b = some ⟨6, NX, A1, A2, V.1, V.2⟩ := by
    unfold inner6
    rw [if_neg h4, if_neg (by intro hh; rcases hh with hh | hh <;> omega), e6, hD, hS, hNX, hRS, hA1, hA2, hV]
  rw [e]
  rw [e6, hD, hEE] at h5
  rw [e6, hD, hS, hRS] at h7
  have h5' : (EE != 0) = false := by simpa using h5
  have h7' : ¬ (RS.length : Int) < 8 := by omega
  obtain ⟨sf, sh, sl⟩ := A1
  obtain ⟨df, dh, dl⟩ := A2
  have KA : Hid (∀ W, Row W (some ⟨bk, off, none⟩) b → Calls Try.prog 88 #[.slice (some ⟨bk, off, none⟩) b.length dc, .int .i64 8, .int .i64 16] W fun e w' => e = .returned (.agg #[.int .i64 sf, .int .u64 sh, .int .u64 sl]) ∧ Below W.heap.size W w') := fun W hW => by
    have := segAddrAt_any (some ⟨bk, off, none⟩) dc b 8 16 W hW (fun e => by cases e) hll hc hcm (by decide)
    rw [hA1] at this
    exact this
  have KB : Hid (∀ W, Row W (some ⟨bk, off, none⟩) b → Calls Try.prog 88 #[.slice (some ⟨bk, off, none⟩) b.length dc, .int .i64 24, .int .i64 16] W fun e w' => e = .returned (.agg #[.int .i64 df, .int .u64 dh, .int .u64 dl]) ∧ Below W.heap.size W w') := fun W hW => by
    have := segAddrAt_any (some ⟨bk, off, none⟩) dc b 24 16 W hW (fun e => by cases e) hll hc hcm (by decide)
    rw [hA2] at this
    exact this
  have KP : Hid (∀ W a' c', Row W a' RS → Calls Try.prog 82 #[.agg (sRb 6 NX sf sh sl df dh dl 0 0), .slice a' RS.length c'] W fun e w' => e = .returned (.agg (sRb 6 NX sf sh sl df dh dl V.1 V.2)) ∧ Below W.heap.size W w') := fun W a' c' hW => by
    have := withPorts_any 6 NX sf sh sl df dh dl a' c' RS W hW (by omega)
    rw [hV] at this
    exact this
  clear e hV hA1 hA2 h5
  clear hS hEE hNX hRS hEX hD lD ha3 hcl e6
  go_enter Try.func85, Try.ntmps85
  go_wp2_with fail
  refine wp_region_noPanic ?_
  refine wp_region_held_drew (S := fun w' => w'.cell? ⟨bk, off + 6, none⟩ = some (.int .u8 x6)) (by kernel_rfl) (by exact y6) (fun hHeld => ?_)
  refine tk (i := 0) (oi := sgrR15o14) (v := (.slice (some ⟨bk, off, none⟩) b.length dc)) hHeld ?_ ?_
  · intro w9 hSw
    try dsimp only at hSw
    go_simp
  try simp only [pu]
  refine tk (i := 1) (oi := sgrR15o9) (v := (.pointer (some ⟨bk, off + 6, none⟩))) hHeld ?_ ?_
  · intro w9 hSw
    try dsimp only at hSw
    go_simp
  try simp only [pu]
  refine tk (i := 2) (oi := sgrR15o12) (v := (.int .u8 x6)) hHeld ?_ ?_
  · intro w9 hSw
    try dsimp only at hSw
    go_simp
  try simp only [pu]
  refine tk (i := 3) (oi := sgrR15o11) (v := (.int .i64 x6)) hHeld ?_ ?_
  · intro w9 hSw
    try dsimp only at hSw
    go_simp
  try simp only [pu]
  refine tk (i := 4) (oi := sgrR15o15) (v := (.slice (some ⟨bk, off, none⟩) b.length dc)) hHeld ?_ ?_
  · intro w9 hSw
    try dsimp only at hSw
    go_simp
  try simp only [pu]
  refine tk (i := 5) (oi := sgrR15o8) (v := (.slice a3 (b.length - 40) (dc - 40))) hHeld ?_ ?_
  · intro w9 hSw
    try dsimp only at hSw
    go_simp
    exact H3.out
  try simp only [pu]
  refine wpAnyH_ready (rs := [6]) (by kernel_rfl) (by simp) ?_
  refine AllReadyH.cons (o := sgrR15o4) rfl (fun K hK => ?_) AllReadyH.nil
  go_simp
  refine Calls.mono (KW.out _ (h.below b1.drew)) ?_
  rintro e W4 ⟨xa, xc, a4, c4, rfl, f4⟩
  have b4 : Below w.heap.size w W4 := b1.drew.trans (f4.below.mono b1.drew.size)
  have B4 := B1.drew.kept f4.below
  refine hK.out _ _ ?_ (fun hHeld => ?_)
  · exact kept (b := bk) (o := off + 6) f4.below y6
  clear hK K
  try simp only [pu]
  refine tk (i := 7) (oi := sgrR15o10) (v := (.tuple #[.int .i64 NX, .slice xa EX xc, .slice a4 RS.length c4, .int .i64 EE])) hHeld ?_ ?_
  · intro w9 hSw
    try dsimp only at hSw
    go_simp
  try simp only [pu]
  refine tk (i := 8) (oi := sgrR15o13) (v := (.int .i64 NX)) hHeld ?_ ?_
  · intro w9 hSw
    try dsimp only at hSw
    go_simp
  try simp only [pu]
  refine tk (i := 9) (oi := sgrR15o7) (v := (.slice xa EX xc)) hHeld ?_ ?_
  · intro w9 hSw
    try dsimp only at hSw
    go_simp
  try simp only [pu]
  refine tk (i := 10) (oi := sgrR15o6) (v := (.slice a4 RS.length c4)) hHeld ?_ ?_
  · intro w9 hSw
    try dsimp only at hSw
    go_simp
  try simp only [pu]
  refine tk (i := 11) (oi := sgrR15o5) (v := (.int .i64 EE)) hHeld ?_ ?_
  · intro w9 hSw
    try dsimp only at hSw
    go_simp
  try simp only [pu]
  refine tk (i := 12) (oi := sgrR15o3) (v := (.int .i64 NX)) hHeld ?_ ?_
  · intro w9 hSw
    try dsimp only at hSw
    go_simp
  try simp only [pu]
  refine tk (i := 13) (oi := sgrR15o2) (v := (.slice xa EX xc)) hHeld ?_ ?_
  · intro w9 hSw
    try dsimp only at hSw
    go_simp
  try simp only [pu]
  refine tk (i := 14) (oi := sgrR15o1) (v := (.slice a4 RS.length c4)) hHeld ?_ ?_
  · intro w9 hSw
    try dsimp only at hSw
    go_simp
  try simp only [pu]
  refine tk (i := 15) (oi := sgrR15o0) (v := (.int .i64 EE)) hHeld ?_ ?_
  · intro w9 hSw
    try dsimp only at hSw
    go_simp
  try simp only [pu]
  refine wpAnyH_done (by kernel_rfl) ?_ _
  refine NoPanic.normal ?_
  have r4 := f4.row
  clear KW f4 y6 hW1 b1 B1 hHeld
  go_wp2_with fail
  refine Calls.mono (KA.out _ (h.below b4)) ?_
  rintro e W5 ⟨rfl, bb⟩
  have b5 := bel_tr b4 bb
  have B5 := B4.kept bb
  have r5 := r4.below bb
  clear KA bb B4 b4 r4
  go_wp2_with fail
  refine Calls.mono (KB.out _ (h.below b5)) ?_
  rintro e W6 ⟨rfl, bb⟩
  have b6 := bel_tr b5 bb
  have B6 := B5.kept bb
  have r6 := r5.below bb
  clear KB bb B5 b5 r5
  obtain ⟨W7, hW7⟩ : ∃ W, W6.alloc (.cells (sRb 0 0 0 0 0 0 0 0 0 0) 26) = W := ⟨_, rfl⟩
  have b7 := bel_al b6 hW7
  have B7 := B6.al hW7
  have N7 := blk_nw hW7
  have r7 : Row W7 a4 RS := by rw [← hW7]; exact r6.alloc _
  have g6 : w.heap.size < W6.heap.size := B6.lt
  have hbd : (Instr.build 26 #[(0, .int .i64 6), (1, .int .i64 NX), (2, .agg #[.int .i64 sf, .int .u64 sh, .int .u64 sl]), (3, .agg #[.int .i64 df, .int .u64 dh, .int .u64 dl])]).run Try.prog W6 = .ok (.agg (sRb 6 NX sf sh sl df dh dl 0 0)) W6 := by kernel_rfl
  obtain ⟨W8, hW8⟩ : ∃ W, W7.setRow W6.heap.size (sRb 6 NX sf sh sl df dh dl 0 0) = W := ⟨_, rfl⟩
  have b68 : Below W6.heap.size W6 W8 := by
    rw [← hW8, ← hW7]
    exact below_setRow ((Below.refl _ _).alloc (Nat.le_refl _) _) (Nat.le_refl _) _
  have r8 := r6.below b68
  have B8 : Blk W8 w.heap.size 26 (sRb 0 0 0 0 0 0 0 0 0 0) := by rw [← hW8]; exact B7.other (by omega) _
  have N8 : Blk W8 W6.heap.size 26 (sRb 6 NX sf sh sl df dh dl 0 0) := by rw [← hW8]; exact N7.set _
  have b8 : Below w.heap.size w W8 := by rw [← hW8]; exact below_setRow b7 (Nat.le_of_lt g6) _
  have HW8 : Hid _ := hW8
  clear hW8 b68 r6 B6 b6 B7 b7 r7
  go_wp2_with (first
    | (refine wpList_build _ rfl _ _ rfl _ (by rfl) _ hbd ?_)
    | (refine wpList_store_row rfl _ _ _ rfl W6.heap.size (sRb 6 NX sf sh sl df dh dl 0 0) (by rfl) (by rfl) _ _ N7 (by kernel_rfl) (by rfl) (by kernel_rfl) ?_; rw [HW8.out])
    | (refine wpList_load_row rfl _ _ rfl W6.heap.size (by rfl) _ _ _ _ N8 Try.underlying26 rfl (by kernel_rfl) ?_))
  refine Calls.mono (KP.out _ _ _ r8) ?_
  rintro e W9 ⟨rfl, bb⟩
  have b9 := bel_tr b8 bb
  have B9 := B8.kept bb
  have Bf := B9.set (sRb 6 NX sf sh sl df dh dl V.1 V.2)
  have bf := below_setRow b9 (Nat.le_refl _) (sRb 6 NX sf sh sl df dh dl V.1 V.2)
  clear KP bb hbd HW8 hW7
  go_wp2_with (refine wpList_store_row rfl _ _ _ rfl w.heap.size (sRb 6 NX sf sh sl df dh dl V.1 V.2) (by rfl) (by rfl) _ _ B9 (by kernel_rfl) (by rfl) (by kernel_rfl) ?_)
  exact ret_cell_tmp (k := 2) (j := 3) Try.f85 (by kernel_rfl) Bf Try.underlying26 (by kernel_rfl) (by rfl) (by rfl) rfl ⟨rfl, bf⟩
end Go.Proofs.Ytpjjkdgmfjhfiaa
