/- Texts joined: SgI -/
import Derived.Test.YtpjjkdgmfjhfiaaSgrR13
namespace Go.Proofs.Ytpjjkdgmfjhfiaa
abbrev sgrR14o0 : Oper := { dst := none, op := Op.store 26 (.tmp 5) (.tmp 30), type := 0, pos := "parse.go:160", after := #[{ on := 9, ground := Ground.data }, { on := 8, ground := Ground.data }, { on := 7, ground := Ground.chain }, { on := 0, ground := Ground.phase }, { on := 1, ground := Ground.phase }, { on := 2, ground := Ground.phase }, { on := 3, ground := Ground.phase }, { on := 4, ground := Ground.phase }, { on := 5, ground := Ground.phase }, { on := 6, ground := Ground.phase }, { on := 7, ground := Ground.phase }, { on := 8, ground := Ground.phase }, { on := 9, ground := Ground.phase }], guard := none }
abbrev sgrR14o1 : Oper := { dst := none, op := Op.store 26 (.tmp 2) (.tmp 35), type := 0, pos := "parse.go:161", after := #[{ on := 4, ground := Ground.data }, { on := 4, ground := Ground.chain }, { on := 0, ground := Ground.phase }, { on := 1, ground := Ground.phase }, { on := 2, ground := Ground.phase }, { on := 3, ground := Ground.phase }, { on := 4, ground := Ground.phase }], guard := none }
abbrev sgrR14o2 : Oper := { dst := some 3, op := Op.assign (.const (.bool true)), type := 4, pos := "parse.go:161", after := #[{ on := 5, ground := Ground.chain }, { on := 0, ground := Ground.phase }, { on := 1, ground := Ground.phase }, { on := 2, ground := Ground.phase }, { on := 3, ground := Ground.phase }, { on := 4, ground := Ground.phase }, { on := 5, ground := Ground.phase }], guard := none }
abbrev sgrR14o3 : Oper := { dst := some 29, op := Op.call { callee := Callee.value (.func 88), args := #[.tmp 28, .const (.int .i64 16), .const (.int .i64 4)], argTypes := #[28, 3, 3] }, type := 24, pos := "parse.go:160", after := #[{ on := 6, ground := Ground.data }, { on := 5, ground := Ground.chain }], guard := none }
abbrev sgrR14o4 : Oper := { dst := some 35, op := Op.call { callee := Callee.value (.func 82), args := #[.tmp 31, .tmp 34], argTypes := #[26, 28] }, type := 26, pos := "parse.go:161", after := #[{ on := 0, ground := Ground.data }, { on := 3, ground := Ground.data }], guard := none }
abbrev sgrR14o5 : Oper := { dst := some 30, op := Op.build 26 #[(0, .const (.int .i64 4)), (1, .tmp 25), (2, .tmp 27), (3, .tmp 29)], type := 26, pos := "parse.go:160", after := #[{ on := 3, ground := Ground.data }, { on := 5, ground := Ground.data }, { on := 7, ground := Ground.data }], guard := none }
abbrev sgrR14o6 : Oper := { dst := some 34, op := Op.slice 28 (.tmp 32) (some (.tmp 33)) none none, type := 28, pos := "parse.go:161", after := #[{ on := 1, ground := Ground.data }, { on := 2, ground := Ground.data }], guard := none }
abbrev sgrR14o7 : Oper := { dst := some 27, op := Op.call { callee := Callee.value (.func 88), args := #[.tmp 26, .const (.int .i64 12), .const (.int .i64 4)], argTypes := #[28, 3, 3] }, type := 24, pos := "parse.go:160", after := #[{ on := 4, ground := Ground.data }], guard := none }
abbrev sgrR14o8 : Oper := { dst := some 31, op := Op.load 26 (.tmp 5), type := 26, pos := "parse.go:161", after := #[], guard := none }
abbrev sgrR14o9 : Oper := { dst := some 32, op := Op.move (.tmp 0), type := 28, pos := "parse.go:161", after := #[], guard := none }
abbrev sgrR14o10 : Oper := { dst := some 33, op := Op.move (.tmp 4), type := 3, pos := "parse.go:161", after := #[], guard := none }
abbrev sgrR14o11 : Oper := { dst := some 5, op := Op.alloc 26, type := 0, pos := "parse.go:160", after := #[], guard := none }
end Go.Proofs.Ytpjjkdgmfjhfiaa
namespace Go.Proofs.Ytpjjkdgmfjhfiaa
open Go.RowKit
set_option linter.unusedVariables false
set_option linter.unusedSimpArgs false
set_option maxRecDepth 100000 in
theorem and15_u8 (x : Int) (h0 : 0 ≤ x) (h1 : x ≤ 255) : bits .and .u8 x 15 = x % 16 := by
  obtain ⟨n, rfl⟩ := Int.eq_ofNat_of_zero_le h0
  have h : ∀ n : Nat, n < 256 → bits .and .u8 (n : Int) 15 = (n : Int) % 16 := by decide
  exact h n (by omega)
set_option maxRecDepth 100000 in
set_option maxHeartbeats 4000000 in
theorem inner4_n1 (bk off dc : Nat) (b : List Int) (w : World) (h : Row w (some ⟨bk, off, none⟩) b) (hll : b.length ≤ 140737488351232) (hc : b.length ≤ dc) (hcm : dc ≤ 9223372036854775807) (hne : ¬ b.length = 0) (h4 : b.getD 0 0 % 16 * 4 < 20) :
    Calls Try.prog 84 #[.slice (some ⟨bk, off, none⟩) b.length dc] w fun e w' => e = .returned (.tuple #[.agg (tpv ((inner4 b).getD zTp)), .bool (inner4 b).isSome]) ∧ Below w.heap.size w w' := by
  obtain ⟨W1, hW1⟩ : ∃ W1, w.alloc (.cells (sRb 0 0 0 0 0 0 0 0 0 0) 26) = W1 := ⟨_, rfl⟩
  have b1 := bel_nw hW1
  have B1 := blk_nw hW1
  have eN : inner4 b = none := by
    unfold inner4
    rw [if_pos (Or.inl h4)]
  rw [eN]
  clear eN
  have hne' : ¬ b = [] := by intro e; rw [e] at hne; simp at hne
  obtain ⟨x0, e0⟩ : ∃ x, b.getD 0 0 = x := ⟨_, rfl⟩
  have q0 := h.bytes.get 0
  obtain ⟨bk', off', ee, hcl⟩ := h.cells (by omega)
  cases ee
  have y0 := kept (b := bk) (o := off + 0) b1 (hcl 0 (by omega))
  rw [e0, Nat.add_zero] at y0
  rw [e0] at q0
  have i0 : (0 : Int) < (b.length : Int) := by omega
  have a15 : bits .and .u8 x0 15 = x0 % 16 := and15_u8 x0 q0.1 q0.2
  have wx0 : IntKind.i64.wrap (x0 % 16) = x0 % 16 := wraps_i64 _ (by omega) (by omega)
  obtain ⟨H, hH⟩ : ∃ H, x0 % 16 * 4 = H := ⟨_, rfl⟩
  have wH : IntKind.i64.wrap H = H := by rw [← hH]; exact wraps_i64 _ (by omega) (by omega)
  have wH4 : IntKind.i64.wrap (x0 % 16 * 4) = H := by rw [hH]; exact wH
  have H0 : 0 ≤ H := by omega
  have H60 : H ≤ 60 := by omega
  have wS_ : IntKind.i64.wrap ((b.length : Int) - H) = (b.length : Int) - H := by rw [IntKind.wrap_i64]; omega
  rw [e0, hH] at h4
  clear hH e0 hcl
  have hbz : (Instr.build 26 #[]).run Try.prog W1 = .ok (.agg (sRb 0 0 0 0 0 0 0 0 0 0)) W1 := by kernel_rfl
  go_enter Try.func84, Try.ntmps84
  have Bf := B1.set (sRb 0 0 0 0 0 0 0 0 0 0)
  have bf := below_setRow b1 (Nat.le_refl _) (sRb 0 0 0 0 0 0 0 0 0 0)
  go_wp2_with (first
    | (refine wpList_build _ rfl _ _ rfl _ (by rfl) _ hbz ?_)
    | (refine wpList_store_row rfl _ _ _ rfl w.heap.size (sRb 0 0 0 0 0 0 0 0 0 0) (by rfl) (by rfl) _ _ B1 (by kernel_rfl) (by rfl) (by kernel_rfl) ?_))
  exact ret_cell_tmp (k := 2) (j := 3) Try.f84 (by kernel_rfl) Bf Try.underlying26 (by kernel_rfl) (by rfl) (by rfl) rfl ⟨rfl, bf⟩
set_option maxRecDepth 100000 in
set_option maxHeartbeats 4000000 in
theorem inner4_n2 (bk off dc : Nat) (b : List Int) (w : World) (h : Row w (some ⟨bk, off, none⟩) b) (hll : b.length ≤ 140737488351232) (hc : b.length ≤ dc) (hcm : dc ≤ 9223372036854775807) (hne : ¬ b.length = 0) (h4 : ¬ b.getD 0 0 % 16 * 4 < 20) (h5 : (b.length : Int) - b.getD 0 0 % 16 * 4 < 8) :
    Calls Try.prog 84 #[.slice (some ⟨bk, off, none⟩) b.length dc] w fun e w' => e = .returned (.tuple #[.agg (tpv ((inner4 b).getD zTp)), .bool (inner4 b).isSome]) ∧ Below w.heap.size w w' := by
  obtain ⟨W1, hW1⟩ : ∃ W1, w.alloc (.cells (sRb 0 0 0 0 0 0 0 0 0 0) 26) = W1 := ⟨_, rfl⟩
  have b1 := bel_nw hW1
  have B1 := blk_nw hW1
  have eN : inner4 b = none := by
    unfold inner4
    rw [if_pos (Or.inr h5)]
  rw [eN]
  clear eN
  have hne' : ¬ b = [] := by intro e; rw [e] at hne; simp at hne
  obtain ⟨x0, e0⟩ : ∃ x, b.getD 0 0 = x := ⟨_, rfl⟩
  have q0 := h.bytes.get 0
  obtain ⟨bk', off', ee, hcl⟩ := h.cells (by omega)
  cases ee
  have y0 := kept (b := bk) (o := off + 0) b1 (hcl 0 (by omega))
  rw [e0, Nat.add_zero] at y0
  rw [e0] at q0
  have i0 : (0 : Int) < (b.length : Int) := by omega
  have a15 : bits .and .u8 x0 15 = x0 % 16 := and15_u8 x0 q0.1 q0.2
  have wx0 : IntKind.i64.wrap (x0 % 16) = x0 % 16 := wraps_i64 _ (by omega) (by omega)
  obtain ⟨H, hH⟩ : ∃ H, x0 % 16 * 4 = H := ⟨_, rfl⟩
  have wH : IntKind.i64.wrap H = H := by rw [← hH]; exact wraps_i64 _ (by omega) (by omega)
  have wH4 : IntKind.i64.wrap (x0 % 16 * 4) = H := by rw [hH]; exact wH
  have H0 : 0 ≤ H := by omega
  have H60 : H ≤ 60 := by omega
  have wS_ : IntKind.i64.wrap ((b.length : Int) - H) = (b.length : Int) - H := by rw [IntKind.wrap_i64]; omega
  rw [e0, hH] at h4 h5
  clear hH e0 hcl
  have hbz : (Instr.build 26 #[]).run Try.prog W1 = .ok (.agg (sRb 0 0 0 0 0 0 0 0 0 0)) W1 := by kernel_rfl
  go_enter Try.func84, Try.ntmps84
  have Bf := B1.set (sRb 0 0 0 0 0 0 0 0 0 0)
  have bf := below_setRow b1 (Nat.le_refl _) (sRb 0 0 0 0 0 0 0 0 0 0)
  go_wp2_with (first
    | (refine wpList_build _ rfl _ _ rfl _ (by rfl) _ hbz ?_)
    | (refine wpList_store_row rfl _ _ _ rfl w.heap.size (sRb 0 0 0 0 0 0 0 0 0 0) (by rfl) (by rfl) _ _ B1 (by kernel_rfl) (by rfl) (by kernel_rfl) ?_))
  exact ret_cell_tmp (k := 2) (j := 3) Try.f84 (by kernel_rfl) Bf Try.underlying26 (by kernel_rfl) (by rfl) (by rfl) rfl ⟨rfl, bf⟩
set_option maxRecDepth 100000 in
set_option maxHeartbeats 4000000 in
theorem inner4_y (bk off dc : Nat) (b : List Int) (w : World) (h : Row w (some ⟨bk, off, none⟩) b) (hll : b.length ≤ 140737488351232) (hc : b.length ≤ dc) (hcm : dc ≤ 9223372036854775807) (hne : ¬ b.length = 0) (h4 : ¬ b.getD 0 0 % 16 * 4 < 20) (h5 : ¬ (b.length : Int) - b.getD 0 0 % 16 * 4 < 8) :
    Calls Try.prog 84 #[.slice (some ⟨bk, off, none⟩) b.length dc] w fun e w' => e = .returned (.tuple #[.agg (tpv ((inner4 b).getD zTp)), .bool (inner4 b).isSome]) ∧ Below w.heap.size w w' := by
  obtain ⟨W1, hW1⟩ : ∃ W1, w.alloc (.cells (sRb 0 0 0 0 0 0 0 0 0 0) 26) = W1 := ⟨_, rfl⟩
  have b1 := bel_nw hW1
  have B1 := blk_nw hW1
  have hne' : ¬ b = [] := by intro e; rw [e] at hne; simp at hne
  obtain ⟨x0, e0⟩ : ∃ x, b.getD 0 0 = x := ⟨_, rfl⟩
  have q0 := h.bytes.get 0
  obtain ⟨bk', off', ee, hcl⟩ := h.cells (by omega)
  cases ee
  have y0 := kept (b := bk) (o := off + 0) b1 (hcl 0 (by omega))
  rw [e0, Nat.add_zero] at y0
  rw [e0] at q0
  have i0 : (0 : Int) < (b.length : Int) := by omega
  have a15 : bits .and .u8 x0 15 = x0 % 16 := and15_u8 x0 q0.1 q0.2
  have wx0 : IntKind.i64.wrap (x0 % 16) = x0 % 16 := wraps_i64 _ (by omega) (by omega)
  obtain ⟨H, hH⟩ : ∃ H, x0 % 16 * 4 = H := ⟨_, rfl⟩
  have wH : IntKind.i64.wrap H = H := by rw [← hH]; exact wraps_i64 _ (by omega) (by omega)
  have wH4 : IntKind.i64.wrap (x0 % 16 * 4) = H := by rw [hH]; exact wH
  have H0 : 0 ≤ H := by omega
  have H60 : H ≤ 60 := by omega
  have wS_ : IntKind.i64.wrap ((b.length : Int) - H) = (b.length : Int) - H := by rw [IntKind.wrap_i64]; omega
  rw [e0, hH] at h4 h5
  obtain ⟨hh, hHn⟩ := Int.eq_ofNat_of_zero_le H0
  subst hHn
  have n20 : 20 ≤ hh := by omega
  have nhl : hh + 8 ≤ b.length := by omega
  have jh1 : (0 : Int) ≤ (hh : Int) := by omega
  have jh2 : (hh : Int) ≤ (b.length : Int) := by omega
  obtain ⟨x9, e9⟩ : ∃ x, b.getD 9 0 = x := ⟨_, rfl⟩
  have q9 := h.bytes.get 9
  have y9 := kept (b := bk) (o := off + 9) b1 (hcl 9 (by omega))
  rw [e9] at y9 q9
  have i9 : (9 : Int) < (b.length : Int) := by omega
  have wx9 : IntKind.i64.wrap x9 = x9 := wraps_i64 _ (by omega) (by omega)
  obtain ⟨a3, ha3⟩ : ∃ a3 : Option Addr, (if dc = hh then (some ⟨bk, off, none⟩) else Option.map (fun x : Addr => x.add hh) (some ⟨bk, off, none⟩)) = a3 := ⟨_, rfl⟩
  have H3 : Hid ((if dc = hh then some (⟨bk, off, none⟩ : Addr) else some ⟨bk, off + hh, none⟩) = a3) := by
    have : (if dc = hh then some (⟨bk, off, none⟩ : Addr) else some ⟨bk, off + hh, none⟩) = a3 := by
      rw [← ha3]
      simp [Go.WideShapes.add_plain]
    exact this
  obtain ⟨D, hD⟩ : ∃ D, b.drop hh = D := ⟨_, rfl⟩
  have lD : D.length = b.length - hh := by rw [← hD, List.length_drop]
  obtain ⟨V, hV⟩ : ∃ V, portsOf 4 x9 D = V := ⟨_, rfl⟩
  obtain ⟨A1, hA1⟩ : ∃ A, (fromB (partv b 12 4)).1 = A := ⟨_, rfl⟩
  obtain ⟨A2, hA2⟩ : ∃ A, (fromB (partv b 16 4)).1 = A := ⟨_, rfl⟩
  have e : inner4 b = some ⟨4, x9, A1, A2, V.1, V.2⟩ := by
    unfold inner4
    rw [if_neg (by rw [e0, hH]; omega), e0, hH, e9, hA1, hA2, Int.toNat_natCast, hD, hV]
  rw [e]
  obtain ⟨sf, sh, sl⟩ := A1
  obtain ⟨df, dh, dl⟩ := A2
  have KA : Hid (∀ W, Row W (some ⟨bk, off, none⟩) b → Calls Try.prog 88 #[.slice (some ⟨bk, off, none⟩) b.length dc, .int .i64 12, .int .i64 4] W fun e w' => e = .returned (.agg #[.int .i64 sf, .int .u64 sh, .int .u64 sl]) ∧ Below W.heap.size W w') := fun W hW => by
    have := segAddrAt_any (some ⟨bk, off, none⟩) dc b 12 4 W hW (fun e => by cases e) hll hc hcm (by decide)
    rw [hA1] at this
    exact this
  have KB : Hid (∀ W, Row W (some ⟨bk, off, none⟩) b → Calls Try.prog 88 #[.slice (some ⟨bk, off, none⟩) b.length dc, .int .i64 16, .int .i64 4] W fun e w' => e = .returned (.agg #[.int .i64 df, .int .u64 dh, .int .u64 dl]) ∧ Below W.heap.size W w') := fun W hW => by
    have := segAddrAt_any (some ⟨bk, off, none⟩) dc b 16 4 W hW (fun e => by cases e) hll hc hcm (by decide)
    rw [hA2] at this
    exact this
  have KP : Hid (∀ W, Row W (some ⟨bk, off, none⟩) b → Calls Try.prog 82 #[.agg (sRb 4 x9 sf sh sl df dh dl 0 0), .slice a3 (b.length - hh) (dc - hh)] W fun e w' => e = .returned (.agg (sRb 4 x9 sf sh sl df dh dl V.1 V.2)) ∧ Below W.heap.size W w') := fun W hW => by
    have hr := hW.drop dc hh hc
    rw [ha3, hD] at hr
    have := withPorts_any 4 x9 sf sh sl df dh dl a3 (dc - hh) D W hr (by omega)
    rw [lD, hV] at this
    exact this
  clear e hV hD lD ha3 hA1 hA2 hcl e0 e9 hH
  go_enter Try.func84, Try.ntmps84
  go_wp2_with fail
  refine wp_region_noPanic ?_
  refine wp_region_held_drew (S := fun w' => w'.cell? ⟨bk, off + 9, none⟩ = some (.int .u8 x9)) (by kernel_rfl) (by exact y9) (fun hHeld => ?_)
  refine tk (i := 0) (oi := { dst := some 22, op := Op.move (.tmp 0), type := 28, pos := "parse.go:160", after := #[], guard := none }) (v := (.slice (some ⟨bk, off, none⟩) b.length dc)) hHeld ?_ ?_
  · intro w9 hSw
    try dsimp only at hSw
    go_simp
  try simp only [pu]
  refine tk (i := 1) (oi := { dst := some 23, op := Op.indexAddr 28 (.tmp 22) (.const (.int .i64 9)), type := 0, pos := "parse.go:160", after := #[{ on := 0, ground := Ground.data }], guard := none }) (v := (.pointer (some ⟨bk, off + 9, none⟩))) hHeld ?_ ?_
  · intro w9 hSw
    try dsimp only at hSw
    go_simp
  try simp only [pu]
  refine tk (i := 2) (oi := { dst := some 24, op := Op.load 5 (.tmp 23), type := 5, pos := "parse.go:160", after := #[{ on := 1, ground := Ground.data }], guard := none }) (v := (.int .u8 x9)) hHeld ?_ ?_
  · intro w9 hSw
    try dsimp only at hSw
    go_simp
  try simp only [pu]
  refine tk (i := 3) (oi := { dst := some 25, op := Op.convert 5 3 (.tmp 24), type := 3, pos := "parse.go:160", after := #[{ on := 2, ground := Ground.data }], guard := none }) (v := (.int .i64 x9)) hHeld ?_ ?_
  · intro w9 hSw
    try dsimp only at hSw
    go_simp
  try simp only [pu]
  refine tk (i := 4) (oi := { dst := some 26, op := Op.move (.tmp 0), type := 28, pos := "parse.go:160", after := #[], guard := none }) (v := (.slice (some ⟨bk, off, none⟩) b.length dc)) hHeld ?_ ?_
  · intro w9 hSw
    try dsimp only at hSw
    go_simp
  try simp only [pu]
  refine tk (i := 6) (oi := { dst := some 28, op := Op.move (.tmp 0), type := 28, pos := "parse.go:160", after := #[], guard := none }) (v := (.slice (some ⟨bk, off, none⟩) b.length dc)) hHeld ?_ ?_
  · intro w9 hSw
    try dsimp only at hSw
    go_simp
  try simp only [pu]
  have c2 := b1.drew
  have z2 : W1.drew.cell? ⟨bk, off + 9, none⟩ = some (.int .u8 x9) := y9
  have R2 := B1.drew
  obtain ⟨W2, hW2⟩ : ∃ W2, W1.drew = W2 := ⟨_, rfl⟩
  rw [hW2] at c2 z2 R2 ⊢
  clear hW2
  refine wpAnyH_ready (rs := [5, 9]) (by kernel_rfl) (by simp) ?_
  refine (AllReadyH.cons (o := sgrR14o7) rfl (fun K hK => ?_) (AllReadyH.cons (o := sgrR14o11) rfl (fun K hK => ?_) AllReadyH.nil))
  · go_simp
    refine Calls.mono (KA.out _ (h.below c2)) ?_
    rintro e W3 ⟨rfl, bb⟩
    have c3 := bel_tr c2 bb
    have z3 := kept (b := bk) (o := off + 9) bb z2
    have R3 := R2.kept bb
    clear bb
    refine hK.out _ _ (by exact z3) (fun hHeld => ?_)
    clear hK K
    try simp only [pu]
    refine wpAnyH_ready (rs := [7, 9]) (by kernel_rfl) (by simp) ?_
    refine (AllReadyH.cons (o := sgrR14o3) rfl (fun K hK => ?_) (AllReadyH.cons (o := sgrR14o11) rfl (fun K hK => ?_) AllReadyH.nil))
    · go_simp
      refine Calls.mono (KB.out _ (h.below c3)) ?_
      rintro e W4 ⟨rfl, bb⟩
      have c4 := bel_tr c3 bb
      have z4 := kept (b := bk) (o := off + 9) bb z3
      have R4 := R3.kept bb
      clear bb
      refine hK.out _ _ (by exact z4) (fun hHeld => ?_)
      clear hK K
      try simp only [pu]
      refine wpAnyH_take (i := 8) (oi := sgrR14o5) (v := (.agg (sRb 4 x9 sf sh sl df dh dl 0 0))) rfl (by kernel_rfl) (by kernel_rfl) (by kernel_rfl) (fun _ _ _ h => h) (yieldsIf_build rfl _ _ rfl #[(0, .int .i64 4), (1, .int .i64 x9), (2, .agg #[.int .i64 sf, .int .u64 sh, .int .u64 sl]), (3, .agg #[.int .i64 df, .int .u64 dh, .int .u64 dl])] (by kernel_rfl) _ (fun w9 => by kernel_rfl)) hHeld ?_
      try simp only [pu]
      refine wpAnyH_ready (rs := [9]) (by kernel_rfl) (by simp) ?_
      refine AllReadyH.cons (o := sgrR14o11) rfl (fun K hK => ?_) AllReadyH.nil
      obtain ⟨W5, hA5⟩ : ∃ W, W4.alloc (.cells (sRb 0 0 0 0 0 0 0 0 0 0) 26) = W := ⟨_, rfl⟩
      have c5 : Below w.heap.size w W5 := by rw [← hA5]; exact c4.alloc c4.size _
      have z5 : W5.cell? ⟨bk, off + 9, none⟩ = some (.int .u8 x9) := by rw [← hA5]; exact kept_alloc (Below.refl _ _) _ z4
      have R5 := R4.alloc (.cells (sRb 0 0 0 0 0 0 0 0 0 0) 26)
      rw [hA5] at R5
      have N5 : Blk W5 W4.heap.size 26 (sRb 0 0 0 0 0 0 0 0 0 0) := by rw [← hA5]; exact blk_new _ _ _
      obtain ⟨G, hG⟩ : ∃ G, W4.heap.size = G := ⟨_, rfl⟩
      have gG : w.heap.size < G := by rw [← hG]; exact R4.lt
      have nbk : bk ≠ G := by rw [← hG]; exact Nat.ne_of_lt (World.block_lt_of_cell? W4 _ z4)
      go_simp
      rw [hG] at N5
      refine hK.out _ _ (by exact z5) (fun hHeld => ?_)
      clear hK K hA5
      try simp only [pu]
      refine wpAnyH_ready (rs := [10]) (by kernel_rfl) (by simp) ?_
      refine AllReadyH.cons (o := sgrR14o0) rfl (fun K hK => ?_) AllReadyH.nil
      refine step_store_blk rfl _ _ _ rfl G (sRb 4 x9 sf sh sl df dh dl 0 0) _ (by kernel_rfl) (by kernel_rfl) N5 (by kernel_rfl) (by rfl) (by kernel_rfl) ?_
      refine hK.out _ _ ?_ (fun hHeld => ?_)
      · exact (cell_setRow_other W5 G _ ⟨bk, off + 9, none⟩ nbk).trans z5
      clear hK K
      try simp only [pu]
      refine wpAnyH_done (by kernel_rfl) ?_ _
      refine NoPanic.normal ?_
      have M1 := N5.set (sRb 4 x9 sf sh sl df dh dl 0 0)
      have M2 := R5.other (show w.heap.size ≠ G by omega) (sRb 4 x9 sf sh sl df dh dl 0 0)
      have m1 := below_setRow c5 (Nat.le_of_lt gG) (sRb 4 x9 sf sh sl df dh dl 0 0)
      generalize W5.setRow G (sRb 4 x9 sf sh sl df dh dl 0 0) = W8 at *
      go_wp2_with fail
      refine wp_region_noPanic ?_
      refine wp_region_held_drew (S := fun w' => Blk w' G 26 (sRb 4 x9 sf sh sl df dh dl 0 0)) (by kernel_rfl) (by exact M1.drew) (fun hHeld => ?_)
      refine wpAnyH_take (i := 0) (oi := sgrR14o8) (v := (.agg (sRb 4 x9 sf sh sl df dh dl 0 0))) rfl (by kernel_rfl) (by kernel_rfl) (by kernel_rfl) (fun _ _ _ h => h) (yieldsIf_blk rfl _ _ rfl G (by rfl) _ (fun _ hSw => hSw) Try.underlying26 (by kernel_rfl)) hHeld ?_
      try simp only [pu]
      refine tk (i := 1) (oi := sgrR14o9) (v := (.slice (some ⟨bk, off, none⟩) b.length dc)) hHeld ?_ ?_
      · intro w9 hSw
        try dsimp only at hSw
        go_simp
      try simp only [pu]
      refine tk (i := 2) (oi := sgrR14o10) (v := (.int .i64 (hh : Int))) hHeld ?_ ?_
      · intro w9 hSw
        try dsimp only at hSw
        go_simp
      try simp only [pu]
      refine tk (i := 3) (oi := sgrR14o6) (v := (.slice a3 (b.length - hh) (dc - hh))) hHeld ?_ ?_
      · intro w9 hSw
        try dsimp only at hSw
        go_simp
        exact H3.out
      try simp only [pu]
      refine wpAnyH_ready (rs := [4]) (by kernel_rfl) (by simp) ?_
      refine AllReadyH.cons (o := sgrR14o4) rfl (fun K hK => ?_) AllReadyH.nil
      go_simp
      refine Calls.mono (KP.out _ (h.below m1.drew)) ?_
      rintro e W9 ⟨rfl, bb⟩
      have M9 := M1.drew.kept bb
      have M9' := M2.drew.kept bb
      have m9 : Below w.heap.size w W9 := m1.drew.trans (bb.mono m1.drew.size)
      refine hK.out _ _ ?_ (fun hHeld => ?_)
      · exact M9
      clear hK K
      try simp only [pu]
      refine wpAnyH_ready (rs := [5]) (by kernel_rfl) (by simp) ?_
      refine AllReadyH.cons (o := sgrR14o1) rfl (fun K hK => ?_) AllReadyH.nil
      refine step_store_blk rfl _ _ _ rfl w.heap.size (sRb 4 x9 sf sh sl df dh dl V.1 V.2) _ (by kernel_rfl) (by kernel_rfl) M9' (by kernel_rfl) (by rfl) (by kernel_rfl) ?_
      refine hK.out _ _ ?_ (fun hHeld => ?_)
      · exact M9.other (show G ≠ w.heap.size by omega) _
      clear hK K
      try simp only [pu]
      refine tk (i := 6) (oi := sgrR14o2) (v := (.bool true)) hHeld ?_ ?_
      · intro w9 hSw
        try dsimp only at hSw
        go_simp
      try simp only [pu]
      refine wpAnyH_done (by kernel_rfl) ?_ _
      refine NoPanic.normal ?_
      have Bf := M9'.set (sRb 4 x9 sf sh sl df dh dl V.1 V.2)
      have bf := below_setRow m9 (Nat.le_refl _) (sRb 4 x9 sf sh sl df dh dl V.1 V.2)
      go_wp2_with fail
      exact ret_cell_tmp (k := 2) (j := 3) Try.f84 (by kernel_rfl) Bf Try.underlying26 (by kernel_rfl) (by rfl) (by rfl) rfl ⟨rfl, bf⟩
    · obtain ⟨W4, hA4⟩ : ∃ W, W3.alloc (.cells (sRb 0 0 0 0 0 0 0 0 0 0) 26) = W := ⟨_, rfl⟩
      have c4 : Below w.heap.size w W4 := by rw [← hA4]; exact c3.alloc c3.size _
      have z4 : W4.cell? ⟨bk, off + 9, none⟩ = some (.int .u8 x9) := by rw [← hA4]; exact kept_alloc (Below.refl _ _) _ z3
      have R4 := R3.alloc (.cells (sRb 0 0 0 0 0 0 0 0 0 0) 26)
      rw [hA4] at R4
      have N4 : Blk W4 W3.heap.size 26 (sRb 0 0 0 0 0 0 0 0 0 0) := by rw [← hA4]; exact blk_new _ _ _
      obtain ⟨G, hG⟩ : ∃ G, W3.heap.size = G := ⟨_, rfl⟩
      have gG : w.heap.size < G := by rw [← hG]; exact R3.lt
      have nbk : bk ≠ G := by rw [← hG]; exact Nat.ne_of_lt (World.block_lt_of_cell? W3 _ z3)
      go_simp
      rw [hG] at N4
      refine hK.out _ _ (by exact z4) (fun hHeld => ?_)
      clear hK K hA4
      try simp only [pu]
      refine wpAnyH_ready (rs := [7]) (by kernel_rfl) (by simp) ?_
      refine AllReadyH.cons (o := sgrR14o3) rfl (fun K hK => ?_) AllReadyH.nil
      go_simp
      refine Calls.mono (KB.out _ (h.below c4)) ?_
      rintro e W5 ⟨rfl, bb⟩
      have c5 := bel_tr c4 bb
      have z5 := kept (b := bk) (o := off + 9) bb z4
      have R5 := R4.kept bb
      have N5 := N4.kept bb
      clear bb
      refine hK.out _ _ (by exact z5) (fun hHeld => ?_)
      clear hK K
      try simp only [pu]
      refine wpAnyH_take (i := 8) (oi := sgrR14o5) (v := (.agg (sRb 4 x9 sf sh sl df dh dl 0 0))) rfl (by kernel_rfl) (by kernel_rfl) (by kernel_rfl) (fun _ _ _ h => h) (yieldsIf_build rfl _ _ rfl #[(0, .int .i64 4), (1, .int .i64 x9), (2, .agg #[.int .i64 sf, .int .u64 sh, .int .u64 sl]), (3, .agg #[.int .i64 df, .int .u64 dh, .int .u64 dl])] (by kernel_rfl) _ (fun w9 => by kernel_rfl)) hHeld ?_
      try simp only [pu]
      refine wpAnyH_ready (rs := [10]) (by kernel_rfl) (by simp) ?_
      refine AllReadyH.cons (o := sgrR14o0) rfl (fun K hK => ?_) AllReadyH.nil
      refine step_store_blk rfl _ _ _ rfl G (sRb 4 x9 sf sh sl df dh dl 0 0) _ (by kernel_rfl) (by kernel_rfl) N5 (by kernel_rfl) (by rfl) (by kernel_rfl) ?_
      refine hK.out _ _ ?_ (fun hHeld => ?_)
      · exact (cell_setRow_other W5 G _ ⟨bk, off + 9, none⟩ nbk).trans z5
      clear hK K
      try simp only [pu]
      refine wpAnyH_done (by kernel_rfl) ?_ _
      refine NoPanic.normal ?_
      have M1 := N5.set (sRb 4 x9 sf sh sl df dh dl 0 0)
      have M2 := R5.other (show w.heap.size ≠ G by omega) (sRb 4 x9 sf sh sl df dh dl 0 0)
      have m1 := below_setRow c5 (Nat.le_of_lt gG) (sRb 4 x9 sf sh sl df dh dl 0 0)
      generalize W5.setRow G (sRb 4 x9 sf sh sl df dh dl 0 0) = W8 at *
      go_wp2_with fail
      refine wp_region_noPanic ?_
      refine wp_region_held_drew (S := fun w' => Blk w' G 26 (sRb 4 x9 sf sh sl df dh dl 0 0)) (by kernel_rfl) (by exact M1.drew) (fun hHeld => ?_)
      refine wpAnyH_take (i := 0) (oi := sgrR14o8) (v := (.agg (sRb 4 x9 sf sh sl df dh dl 0 0))) rfl (by kernel_rfl) (by kernel_rfl) (by kernel_rfl) (fun _ _ _ h => h) (yieldsIf_blk rfl _ _ rfl G (by rfl) _ (fun _ hSw => hSw) Try.underlying26 (by kernel_rfl)) hHeld ?_
      try simp only [pu]
      refine tk (i := 1) (oi := sgrR14o9) (v := (.slice (some ⟨bk, off, none⟩) b.length dc)) hHeld ?_ ?_
      · intro w9 hSw
        try dsimp only at hSw
        go_simp
      try simp only [pu]
      refine tk (i := 2) (oi := sgrR14o10) (v := (.int .i64 (hh : Int))) hHeld ?_ ?_
      · intro w9 hSw
        try dsimp only at hSw
        go_simp
      try simp only [pu]
      refine tk (i := 3) (oi := sgrR14o6) (v := (.slice a3 (b.length - hh) (dc - hh))) hHeld ?_ ?_
      · intro w9 hSw
        try dsimp only at hSw
        go_simp
        exact H3.out
      try simp only [pu]
      refine wpAnyH_ready (rs := [4]) (by kernel_rfl) (by simp) ?_
      refine AllReadyH.cons (o := sgrR14o4) rfl (fun K hK => ?_) AllReadyH.nil
      go_simp
      refine Calls.mono (KP.out _ (h.below m1.drew)) ?_
      rintro e W9 ⟨rfl, bb⟩
      have M9 := M1.drew.kept bb
      have M9' := M2.drew.kept bb
      have m9 : Below w.heap.size w W9 := m1.drew.trans (bb.mono m1.drew.size)
      refine hK.out _ _ ?_ (fun hHeld => ?_)
      · exact M9
      clear hK K
      try simp only [pu]
      refine wpAnyH_ready (rs := [5]) (by kernel_rfl) (by simp) ?_
      refine AllReadyH.cons (o := sgrR14o1) rfl (fun K hK => ?_) AllReadyH.nil
      refine step_store_blk rfl _ _ _ rfl w.heap.size (sRb 4 x9 sf sh sl df dh dl V.1 V.2) _ (by kernel_rfl) (by kernel_rfl) M9' (by kernel_rfl) (by rfl) (by kernel_rfl) ?_
      refine hK.out _ _ ?_ (fun hHeld => ?_)
      · exact M9.other (show G ≠ w.heap.size by omega) _
      clear hK K
      try simp only [pu]
      refine tk (i := 6) (oi := sgrR14o2) (v := (.bool true)) hHeld ?_ ?_
      · intro w9 hSw
        try dsimp only at hSw
        go_simp
      try simp only [pu]
      refine wpAnyH_done (by kernel_rfl) ?_ _
      refine NoPanic.normal ?_
      have Bf := M9'.set (sRb 4 x9 sf sh sl df dh dl V.1 V.2)
      have bf := below_setRow m9 (Nat.le_refl _) (sRb 4 x9 sf sh sl df dh dl V.1 V.2)
      go_wp2_with fail
      exact ret_cell_tmp (k := 2) (j := 3) Try.f84 (by kernel_rfl) Bf Try.underlying26 (by kernel_rfl) (by rfl) (by rfl) rfl ⟨rfl, bf⟩
  · obtain ⟨W3, hA3⟩ : ∃ W, W2.alloc (.cells (sRb 0 0 0 0 0 0 0 0 0 0) 26) = W := ⟨_, rfl⟩
    have c3 : Below w.heap.size w W3 := by rw [← hA3]; exact c2.alloc c2.size _
    have z3 : W3.cell? ⟨bk, off + 9, none⟩ = some (.int .u8 x9) := by rw [← hA3]; exact kept_alloc (Below.refl _ _) _ z2
    have R3 := R2.alloc (.cells (sRb 0 0 0 0 0 0 0 0 0 0) 26)
    rw [hA3] at R3
    have N3 : Blk W3 W2.heap.size 26 (sRb 0 0 0 0 0 0 0 0 0 0) := by rw [← hA3]; exact blk_new _ _ _
    obtain ⟨G, hG⟩ : ∃ G, W2.heap.size = G := ⟨_, rfl⟩
    have gG : w.heap.size < G := by rw [← hG]; exact R2.lt
    have nbk : bk ≠ G := by rw [← hG]; exact Nat.ne_of_lt (World.block_lt_of_cell? W2 _ z2)
    go_simp
    rw [hG] at N3
    refine hK.out _ _ (by exact z3) (fun hHeld => ?_)
    clear hK K hA3
    try simp only [pu]
    refine wpAnyH_ready (rs := [5]) (by kernel_rfl) (by simp) ?_
    refine AllReadyH.cons (o := sgrR14o7) rfl (fun K hK => ?_) AllReadyH.nil
    go_simp
    refine Calls.mono (KA.out _ (h.below c3)) ?_
    rintro e W4 ⟨rfl, bb⟩
    have c4 := bel_tr c3 bb
    have z4 := kept (b := bk) (o := off + 9) bb z3
    have R4 := R3.kept bb
    have N4 := N3.kept bb
    clear bb
    refine hK.out _ _ (by exact z4) (fun hHeld => ?_)
    clear hK K
    try simp only [pu]
    refine wpAnyH_ready (rs := [7]) (by kernel_rfl) (by simp) ?_
    refine AllReadyH.cons (o := sgrR14o3) rfl (fun K hK => ?_) AllReadyH.nil
    go_simp
    refine Calls.mono (KB.out _ (h.below c4)) ?_
    rintro e W5 ⟨rfl, bb⟩
    have c5 := bel_tr c4 bb
    have z5 := kept (b := bk) (o := off + 9) bb z4
    have R5 := R4.kept bb
    have N5 := N4.kept bb
    clear bb
    refine hK.out _ _ (by exact z5) (fun hHeld => ?_)
    clear hK K
    try simp only [pu]
    refine wpAnyH_take (i := 8) (oi := sgrR14o5) (v := (.agg (sRb 4 x9 sf sh sl df dh dl 0 0))) rfl (by kernel_rfl) (by kernel_rfl) (by kernel_rfl) (fun _ _ _ h => h) (yieldsIf_build rfl _ _ rfl #[(0, .int .i64 4), (1, .int .i64 x9), (2, .agg #[.int .i64 sf, .int .u64 sh, .int .u64 sl]), (3, .agg #[.int .i64 df, .int .u64 dh, .int .u64 dl])] (by kernel_rfl) _ (fun w9 => by kernel_rfl)) hHeld ?_
    try simp only [pu]
    refine wpAnyH_ready (rs := [10]) (by kernel_rfl) (by simp) ?_
    refine AllReadyH.cons (o := sgrR14o0) rfl (fun K hK => ?_) AllReadyH.nil
    refine step_store_blk rfl _ _ _ rfl G (sRb 4 x9 sf sh sl df dh dl 0 0) _ (by kernel_rfl) (by kernel_rfl) N5 (by kernel_rfl) (by rfl) (by kernel_rfl) ?_
    refine hK.out _ _ ?_ (fun hHeld => ?_)
    · exact (cell_setRow_other W5 G _ ⟨bk, off + 9, none⟩ nbk).trans z5
    clear hK K
    try simp only [pu]
    refine wpAnyH_done (by kernel_rfl) ?_ _
    refine NoPanic.normal ?_
    have M1 := N5.set (sRb 4 x9 sf sh sl df dh dl 0 0)
    have M2 := R5.other (show w.heap.size ≠ G by omega) (sRb 4 x9 sf sh sl df dh dl 0 0)
    have m1 := below_setRow c5 (Nat.le_of_lt gG) (sRb 4 x9 sf sh sl df dh dl 0 0)
    generalize W5.setRow G (sRb 4 x9 sf sh sl df dh dl 0 0) = W8 at *
    go_wp2_with fail
    refine wp_region_noPanic ?_
    refine wp_region_held_drew (S := fun w' => Blk w' G 26 (sRb 4 x9 sf sh sl df dh dl 0 0)) (by kernel_rfl) (by exact M1.drew) (fun hHeld => ?_)
    refine wpAnyH_take (i := 0) (oi := sgrR14o8) (v := (.agg (sRb 4 x9 sf sh sl df dh dl 0 0))) rfl (by kernel_rfl) (by kernel_rfl) (by kernel_rfl) (fun _ _ _ h => h) (yieldsIf_blk rfl _ _ rfl G (by rfl) _ (fun _ hSw => hSw) Try.underlying26 (by kernel_rfl)) hHeld ?_
    try simp only [pu]
    refine tk (i := 1) (oi := sgrR14o9) (v := (.slice (some ⟨bk, off, none⟩) b.length dc)) hHeld ?_ ?_
    · intro w9 hSw
      try dsimp only at hSw
      go_simp
    try simp only [pu]
    refine tk (i := 2) (oi := sgrR14o10) (v := (.int .i64 (hh : Int))) hHeld ?_ ?_
    · intro w9 hSw
      try dsimp only at hSw
      go_simp
    try simp only [pu]
    refine tk (i := 3) (oi := sgrR14o6) (v := (.slice a3 (b.length - hh) (dc - hh))) hHeld ?_ ?_
    · intro w9 hSw
      try dsimp only at hSw
      go_simp
      exact H3.out
    try simp only [pu]
    refine wpAnyH_ready (rs := [4]) (by kernel_rfl) (by simp) ?_
    refine AllReadyH.cons (o := sgrR14o4) rfl (fun K hK => ?_) AllReadyH.nil
    go_simp
    refine Calls.mono (KP.out _ (h.below m1.drew)) ?_
    rintro e W9 ⟨rfl, bb⟩
    have M9 := M1.drew.kept bb
    have M9' := M2.drew.kept bb
    have m9 : Below w.heap.size w W9 := m1.drew.trans (bb.mono m1.drew.size)
    refine hK.out _ _ ?_ (fun hHeld => ?_)
    · exact M9
    clear hK K
    try simp only [pu]
    refine wpAnyH_ready (rs := [5]) (by kernel_rfl) (by simp) ?_
    refine AllReadyH.cons (o := sgrR14o1) rfl (fun K hK => ?_) AllReadyH.nil
    refine step_store_blk rfl _ _ _ rfl w.heap.size (sRb 4 x9 sf sh sl df dh dl V.1 V.2) _ (by kernel_rfl) (by kernel_rfl) M9' (by kernel_rfl) (by rfl) (by kernel_rfl) ?_
    refine hK.out _ _ ?_ (fun hHeld => ?_)
    · exact M9.other (show G ≠ w.heap.size by omega) _
    clear hK K
    try simp only [pu]
    refine tk (i := 6) (oi := sgrR14o2) (v := (.bool true)) hHeld ?_ ?_
    · intro w9 hSw
      try dsimp only at hSw
      go_simp
    try simp only [pu]
    refine wpAnyH_done (by kernel_rfl) ?_ _
    refine NoPanic.normal ?_
    have Bf := M9'.set (sRb 4 x9 sf sh sl df dh dl V.1 V.2)
    have bf := below_setRow m9 (Nat.le_refl _) (sRb 4 x9 sf sh sl df dh dl V.1 V.2)
    go_wp2_with fail
    exact ret_cell_tmp (k := 2) (j := 3) Try.f84 (by kernel_rfl) Bf Try.underlying26 (by kernel_rfl) (by rfl) (by rfl) rfl ⟨rfl, bf⟩
end Go.Proofs.Ytpjjkdgmfjhfiaa
