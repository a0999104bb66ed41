/- Texts joined: SgX -/
import Derived.Test.YtpjjkdgmfjhfiaaSgrR12
namespace Go.Proofs.Ytpjjkdgmfjhfiaa
abbrev sgrR13o0 : Oper := { dst := some 5, op := Op.assign (.tmp 22), type := 3, pos := "parse.go:42", after := #[{ on := 5, ground := Ground.data }, { on := 0, ground := Ground.phase }, { on := 1, ground := Ground.phase }, { on := 2, ground := Ground.phase }, { on := 3, ground := Ground.phase }, { on := 4, ground := Ground.phase }, { on := 5, ground := Ground.phase }, { on := 6, ground := Ground.textOnly Departure.lateStores }, { on := 7, ground := Ground.textOnly Departure.lateStores }, { on := 8, ground := Ground.textOnly Departure.lateStores }, { on := 9, ground := Ground.textOnly Departure.lateStores }, { on := 10, ground := Ground.textOnly Departure.lateStores }], guard := none }
abbrev sgrR13o1 : Oper := { dst := some 6, op := Op.assign (.tmp 27), type := 3, pos := "parse.go:42", after := #[{ on := 10, ground := Ground.data }, { on := 11, ground := Ground.chain }, { on := 0, ground := Ground.phase }, { on := 1, ground := Ground.phase }, { on := 2, ground := Ground.phase }, { on := 3, ground := Ground.phase }, { on := 4, ground := Ground.phase }, { on := 5, ground := Ground.phase }, { on := 6, ground := Ground.phase }, { on := 7, ground := Ground.phase }, { on := 8, ground := Ground.phase }, { on := 9, ground := Ground.phase }, { on := 10, ground := Ground.phase }, { on := 11, ground := Ground.phase }], guard := none }
abbrev sgrR13o2 : Oper := { dst := some 27, op := Op.binOp BinOp.and 3 (.tmp 26) (.const (.int .i64 63)) 3, type := 3, pos := "parse.go:42", after := #[{ on := 9, ground := Ground.data }, { on := 11, ground := Ground.gcOnly Departure.lateStores }], guard := none }
abbrev sgrR13o3 : Oper := { dst := some 24, op := Op.indexAddr 28 (.tmp 23) (.const (.int .i64 13)), type := 0, pos := "parse.go:42", after := #[{ on := 6, ground := Ground.data }, { on := 11, ground := Ground.gcOnly Departure.lateStores }], guard := none }
abbrev sgrR13o4 : Oper := { dst := some 26, op := Op.convert 5 3 (.tmp 25), type := 3, pos := "parse.go:42", after := #[{ on := 8, ground := Ground.data }, { on := 11, ground := Ground.gcOnly Departure.lateStores }], guard := none }
abbrev sgrR13o5 : Oper := { dst := some 25, op := Op.load 5 (.tmp 24), type := 5, pos := "parse.go:42", after := #[{ on := 7, ground := Ground.data }, { on := 11, ground := Ground.gcOnly Departure.lateStores }], guard := none }
abbrev sgrR13o8 : Oper := { dst := some 20, op := Op.binOp BinOp.shr 5 (.tmp 19) (.const (.int .u64 4)) 72, type := 5, pos := "parse.go:42", after := #[{ on := 2, ground := Ground.data }], guard := none }
abbrev sgrR13o9 : Oper := { dst := some 22, op := Op.binOp BinOp.mul 3 (.tmp 21) (.const (.int .i64 4)) 3, type := 3, pos := "parse.go:42", after := #[{ on := 4, ground := Ground.data }], guard := none }
abbrev sgrR13o10 : Oper := { dst := some 18, op := Op.indexAddr 28 (.tmp 17) (.const (.int .i64 12)), type := 0, pos := "parse.go:42", after := #[{ on := 0, ground := Ground.data }], guard := none }
abbrev sgrR13o11 : Oper := { dst := some 23, op := Op.move (.tmp 4), type := 28, pos := "parse.go:42", after := #[{ on := 11, ground := Ground.gcOnly Departure.lateStores }], guard := none }
abbrev sgrR13o12 : Oper := { dst := some 21, op := Op.convert 5 3 (.tmp 20), type := 3, pos := "parse.go:42", after := #[{ on := 3, ground := Ground.data }], guard := none }
abbrev sgrR13o13 : Oper := { dst := some 19, op := Op.load 5 (.tmp 18), type := 5, pos := "parse.go:42", after := #[{ on := 1, ground := Ground.data }], guard := none }
abbrev sgrR13o15 : Oper := { dst := some 17, op := Op.move (.tmp 4), type := 28, pos := "parse.go:42", after := #[], guard := none }
end Go.Proofs.Ytpjjkdgmfjhfiaa
namespace Go.Proofs.Ytpjjkdgmfjhfiaa
open Go.RowKit
set_option linter.unusedVariables false
set_option linter.unusedSimpArgs false
set_option maxRecDepth 100000 in
set_option maxHeartbeats 4000000 in
theorem tcp_e6 (f sf sh sl df dh dl pr ho : Int) (fg : Bool) (id of : Int) (mo : Bool) (xa : Option Addr) (xn xc : Nat) (bk off dc : Nat) (l : List Int) (w : World) (h : Row w (some ⟨bk, off, none⟩) l) (hc : l.length ≤ dc) (hcm : dc ≤ 9223372036854775807) (hs : Ad.ok ⟨sf, sh, sl⟩) (hd : Ad.ok ⟨df, dh, dl⟩) (h20 : ¬ l.length < 20) (h4 : ¬ tcpH l < 20) (h5 : ¬ tcpH l > (l.length : Int)) (hsum : sumsB ⟨sf, sh, sl⟩ ⟨df, dh, dl⟩ pr l = false) :
    Calls Try.prog 55 #[.agg (sRa f sf sh sl df dh dl pr ho fg id of mo xa xn xc (some ⟨bk, off, none⟩) l.length dc)] w (GotS w 6 zSg) := by
  obtain ⟨W1, hW1⟩ : ∃ W1, w.alloc (.cells (sRa f sf sh sl df dh dl pr ho fg id of mo xa xn xc (some ⟨bk, off, none⟩) l.length dc) 64) = W1 := ⟨_, rfl⟩
  obtain ⟨W2, hW2⟩ : ∃ W2, W1.alloc (.cells (sRc 0 0 0 0 0 0 0 0 0 0 0 0 0 0 0 0 false 0 0 0 0 0 0 0 0 0 0 none 0 0) 38) = W2 := ⟨_, rfl⟩
  have b1 := bel_nw hW1
  have b2 := bel_al b1 hW2
  have B1' := blk_nw hW1
  have B1 := B1'.al hW2
  have B2 := blk_nw hW2
  have g1 : w.heap.size < W1.heap.size := B1'.lt
  clear B1'
  have d0 := B1.cell 0 (.int .i64 f) rfl
  have d14 := B1.cell 14 (.slice (some ⟨bk, off, none⟩) l.length dc) rfl
  have h20' : ¬ (l.length : Int) < 20 := by omega
  obtain ⟨x12, e12⟩ : ∃ x, l.getD 12 0 = x := ⟨_, rfl⟩
  obtain ⟨x13, e13⟩ : ∃ x, l.getD 13 0 = x := ⟨_, rfl⟩
  have q12 := h.bytes.get 12
  have q13 := h.bytes.get 13
  obtain ⟨bk', off', ee, hcl⟩ := h.cells (by omega)
  cases ee
  have y12 := kept (b := bk) (o := off + 12) b2 (hcl 12 (by omega))
  have y13 := kept (b := bk) (o := off + 13) b2 (hcl 13 (by omega))
  rw [e12] at y12 q12
  rw [e13] at y13 q13
  clear hcl
  have i12 : (12 : Int) < (l.length : Int) := by omega
  have i13 : (13 : Int) < (l.length : Int) := by omega
  have wx12 : IntKind.i64.wrap (x12 / 16) = x12 / 16 := wraps_i64 _ (by omega) (by omega)
  have wm12 : IntKind.i64.wrap (x12 / 16 * 4) = x12 / 16 * 4 := wraps_i64 _ (by omega) (by omega)
  have wx13 : IntKind.i64.wrap x13 = x13 := wraps_i64 _ (by omega) (by omega)
  obtain ⟨H, hH⟩ : ∃ H, x12 / 16 * 4 = H := ⟨_, rfl⟩
  obtain ⟨FL, hF⟩ : ∃ F, bits .and .i64 x13 63 = F := ⟨_, rfl⟩
  have wH : IntKind.i64.wrap H = H := by rw [← hH]; exact wm12
  have eH : tcpH l = H := by unfold tcpH; rw [e12, hH]
  have eF : tcpF l = FL := by unfold tcpF; rw [e13, hF]
  rw [eH] at h4 h5
  clear eH eF e12 e13
  have KS : Hid (∀ W, Row W (some ⟨bk, off, none⟩) l → Calls Try.prog 67 #[.agg (sRa f sf sh sl df dh dl pr ho fg id of mo xa xn xc (some ⟨bk, off, none⟩) l.length dc), .slice (some ⟨bk, off, none⟩) l.length dc] W fun e w' => e = .returned (.bool false) ∧ Below W.heap.size W w') := fun W hW => by
    have := sumsUp_any f sf sh sl df dh dl pr ho fg id of mo xa xn xc (some ⟨bk, off, none⟩) dc l (some ⟨bk, off, none⟩) dc l W hW hs hd
    rw [hsum] at this
    exact this
  clear hsum
  go_enter Try.func55, Try.ntmps55
  go_wp2_with fail
  refine wp_region_noPanic ?_
  refine wp_region_held_drew (S := fun w' => w'.cell? ⟨bk, off + 12, none⟩ = some (.int .u8 x12) ∧ w'.cell? ⟨bk, off + 13, none⟩ = some (.int .u8 x13)) (by kernel_rfl) (by exact ⟨y12, y13⟩) (fun hHeld => ?_)
  refine tk (i := 0) (oi := sgrR13o15) (v := (.slice (some ⟨bk, off, none⟩) l.length dc)) hHeld ?_ ?_
  · intro w9 hSw
    try dsimp only at hSw
    go_simp
  try simp only [pu]
  refine tk (i := 1) (oi := sgrR13o10) (v := (.pointer (some ⟨bk, off + 12, none⟩))) hHeld ?_ ?_
  · intro w9 hSw
    try dsimp only at hSw
    go_simp
  try simp only [pu]
  refine tk (i := 2) (oi := sgrR13o13) (v := (.int .u8 x12)) hHeld ?_ ?_
  · intro w9 hSw
    try dsimp only at hSw
    go_simp
  try simp only [pu]
  refine tk (i := 3) (oi := sgrR13o8) (v := (.int .u8 (x12 / 16))) hHeld ?_ ?_
  · intro w9 hSw
    try dsimp only at hSw
    go_simp
  try simp only [pu]
  refine tk (i := 4) (oi := sgrR13o12) (v := (.int .i64 (x12 / 16))) hHeld ?_ ?_
  · intro w9 hSw
    try dsimp only at hSw
    go_simp
  try simp only [pu]
  refine tk (i := 5) (oi := sgrR13o9) (v := (.int .i64 H)) hHeld ?_ ?_
  · intro w9 hSw
    try dsimp only at hSw
    go_simp
    try exact hH
  try simp only [pu]
  refine tk (i := 6) (oi := sgrR13o11) (v := (.slice (some ⟨bk, off, none⟩) l.length dc)) hHeld ?_ ?_
  · intro w9 hSw
    try dsimp only at hSw
    go_simp
  try simp only [pu]
  refine tk (i := 7) (oi := sgrR13o3) (v := (.pointer (some ⟨bk, off + 13, none⟩))) hHeld ?_ ?_
  · intro w9 hSw
    try dsimp only at hSw
    go_simp
  try simp only [pu]
  refine tk (i := 8) (oi := sgrR13o5) (v := (.int .u8 x13)) hHeld ?_ ?_
  · intro w9 hSw
    try dsimp only at hSw
    go_simp
  try simp only [pu]
  refine tk (i := 9) (oi := sgrR13o4) (v := (.int .i64 x13)) hHeld ?_ ?_
  · intro w9 hSw
    try dsimp only at hSw
    go_simp
  try simp only [pu]
  refine tk (i := 10) (oi := sgrR13o2) (v := (.int .i64 FL)) hHeld ?_ ?_
  · intro w9 hSw
    try dsimp only at hSw
    go_simp
    try exact hF
  try simp only [pu]
  refine tk (i := 11) (oi := sgrR13o0) (v := (.int .i64 H)) hHeld ?_ ?_
  · intro w9 hSw
    try dsimp only at hSw
    go_simp
  try simp only [pu]
  refine tk (i := 12) (oi := sgrR13o1) (v := (.int .i64 FL)) hHeld ?_ ?_
  · intro w9 hSw
    try dsimp only at hSw
    go_simp
  try simp only [pu]
  refine wpAnyH_done (by kernel_rfl) ?_ _
  refine NoPanic.normal ?_
  replace B1 := B1.drew
  replace B2 := B2.drew
  replace b2 := b2.drew
  clear hW1 hW2 y12 y13 d0 d14 hHeld hH hF wx12 wm12 wx13 wH i12 i13
  generalize W2.drew = W3 at *
  have r3 := h.below b2
  go_wp2_with (refine wpList_load_row rfl _ _ rfl w.heap.size (by rfl) _ _ _ _ B1 Try.underlying64 rfl (by kernel_rfl) ?_)
  refine Calls.mono (KS.out _ r3) ?_
  rintro e W4 ⟨rfl, bb⟩
  have b4 := bel_tr b2 bb
  have B4 := B1.kept bb
  have B4' := B2.kept bb
  clear KS bb B1 B2 b2 r3
  have hbz : (Instr.build 38 #[]).run Try.prog W4 = .ok (.agg (sRc 0 0 0 0 0 0 0 0 0 0 0 0 0 0 0 0 false 0 0 0 0 0 0 0 0 0 0 none 0 0)) W4 := by kernel_rfl
  have Bf := B4'.set (sRc 0 0 0 0 0 0 0 0 0 0 0 0 0 0 0 0 false 0 0 0 0 0 0 0 0 0 0 none 0 0)
  have bf := below_setRow b4 (Nat.le_of_lt g1) (sRc 0 0 0 0 0 0 0 0 0 0 0 0 0 0 0 0 false 0 0 0 0 0 0 0 0 0 0 none 0 0)
  go_wp2_with (first
    | (refine wpList_build _ rfl _ _ rfl _ (by rfl) _ hbz ?_)
    | (refine wpList_store_row rfl _ _ _ rfl W1.heap.size (sRc 0 0 0 0 0 0 0 0 0 0 0 0 0 0 0 0 false 0 0 0 0 0 0 0 0 0 0 none 0 0) (by rfl) (by rfl) _ _ B4' (by kernel_rfl) (by rfl) (by kernel_rfl) ?_))
  exact ret_cell_tmp (k := 2) (j := 3) Try.f55 (by kernel_rfl) Bf Try.underlying38 (by kernel_rfl) (by rfl) (by rfl) rfl ⟨none, 0, rfl, fresh_nil bf⟩
set_option maxRecDepth 100000 in
set_option maxHeartbeats 4000000 in
theorem tcp_e10 (f sf sh sl df dh dl pr ho : Int) (fg : Bool) (id of : Int) (mo : Bool) (xa : Option Addr) (xn xc : Nat) (bk off dc : Nat) (l : List Int) (w : World) (h : Row w (some ⟨bk, off, none⟩) l) (hc : l.length ≤ dc) (hcm : dc ≤ 9223372036854775807) (hs : Ad.ok ⟨sf, sh, sl⟩) (hd : Ad.ok ⟨df, dh, dl⟩) (h20 : ¬ l.length < 20) (h4 : ¬ tcpH l < 20) (h5 : ¬ tcpH l > (l.length : Int)) (hsum : sumsB ⟨sf, sh, sl⟩ ⟨df, dh, dl⟩ pr l = true) (hfl : flagsB (tcpF l) = false) :
    Calls Try.prog 55 #[.agg (sRa f sf sh sl df dh dl pr ho fg id of mo xa xn xc (some ⟨bk, off, none⟩) l.length dc)] w (GotS w 10 zSg) := by
  obtain ⟨W1, hW1⟩ : ∃ W1, w.alloc (.cells (sRa f sf sh sl df dh dl pr ho fg id of mo xa xn xc (some ⟨bk, off, none⟩) l.length dc) 64) = W1 := ⟨_, rfl⟩
  obtain ⟨W2, hW2⟩ : ∃ W2, W1.alloc (.cells (sRc 0 0 0 0 0 0 0 0 0 0 0 0 0 0 0 0 false 0 0 0 0 0 0 0 0 0 0 none 0 0) 38) = W2 := ⟨_, rfl⟩
  have b1 := bel_nw hW1
  have b2 := bel_al b1 hW2
  have B1' := blk_nw hW1
  have B1 := B1'.al hW2
  have B2 := blk_nw hW2
  have g1 : w.heap.size < W1.heap.size := B1'.lt
  clear B1'
  have d0 := B1.cell 0 (.int .i64 f) rfl
  have d14 := B1.cell 14 (.slice (some ⟨bk, off, none⟩) l.length dc) rfl
  have h20' : ¬ (l.length : Int) < 20 := by omega
  obtain ⟨x12, e12⟩ : ∃ x, l.getD 12 0 = x := ⟨_, rfl⟩
  obtain ⟨x13, e13⟩ : ∃ x, l.getD 13 0 = x := ⟨_, rfl⟩
  have q12 := h.bytes.get 12
  have q13 := h.bytes.get 13
  obtain ⟨bk', off', ee, hcl⟩ := h.cells (by omega)
  cases ee
  have y12 := kept (b := bk) (o := off + 12) b2 (hcl 12 (by omega))
  have y13 := kept (b := bk) (o := off + 13) b2 (hcl 13 (by omega))
  rw [e12] at y12 q12
  rw [e13] at y13 q13
  clear hcl
  have i12 : (12 : Int) < (l.length : Int) := by omega
  have i13 : (13 : Int) < (l.length : Int) := by omega
  have wx12 : IntKind.i64.wrap (x12 / 16) = x12 / 16 := wraps_i64 _ (by omega) (by omega)
  have wm12 : IntKind.i64.wrap (x12 / 16 * 4) = x12 / 16 * 4 := wraps_i64 _ (by omega) (by omega)
  have wx13 : IntKind.i64.wrap x13 = x13 := wraps_i64 _ (by omega) (by omega)
  obtain ⟨H, hH⟩ : ∃ H, x12 / 16 * 4 = H := ⟨_, rfl⟩
  obtain ⟨FL, hF⟩ : ∃ F, bits .and .i64 x13 63 = F := ⟨_, rfl⟩
  have wH : IntKind.i64.wrap H = H := by rw [← hH]; exact wm12
  have eH : tcpH l = H := by unfold tcpH; rw [e12, hH]
  have eF : tcpF l = FL := by unfold tcpF; rw [e13, hF]
  rw [eH] at h4 h5
  rw [eF] at hfl
  clear eH eF e12 e13
  have KS : Hid (∀ W, Row W (some ⟨bk, off, none⟩) l → Calls Try.prog 67 #[.agg (sRa f sf sh sl df dh dl pr ho fg id of mo xa xn xc (some ⟨bk, off, none⟩) l.length dc), .slice (some ⟨bk, off, none⟩) l.length dc] W fun e w' => e = .returned (.bool true) ∧ Below W.heap.size W w') := fun W hW => by
    have := sumsUp_any f sf sh sl df dh dl pr ho fg id of mo xa xn xc (some ⟨bk, off, none⟩) dc l (some ⟨bk, off, none⟩) dc l W hW hs hd
    rw [hsum] at this
    exact this
  have KF : Hid (∀ W, Calls Try.prog 68 #[.int .i64 FL] W fun e w' => e = .returned (.bool false) ∧ w' = W) := fun W => by
    have := rightFlags_any FL W
    rw [hfl] at this
    exact this
  clear hsum hfl
  go_enter Try.func55, Try.ntmps55
  go_wp2_with fail
  refine wp_region_noPanic ?_
  refine wp_region_held_drew (S := fun w' => w'.cell? ⟨bk, off + 12, none⟩ = some (.int .u8 x12) ∧ w'.cell? ⟨bk, off + 13, none⟩ = some (.int .u8 x13)) (by kernel_rfl) (by exact ⟨y12, y13⟩) (fun hHeld => ?_)
  refine tk (i := 0) (oi := sgrR13o15) (v := (.slice (some ⟨bk, off, none⟩) l.length dc)) hHeld ?_ ?_
  · intro w9 hSw
    try dsimp only at hSw
    go_simp
  try simp only [pu]
  refine tk (i := 1) (oi := sgrR13o10) (v := (.pointer (some ⟨bk, off + 12, none⟩))) hHeld ?_ ?_
  · intro w9 hSw
    try dsimp only at hSw
    go_simp
  try simp only [pu]
  refine tk (i := 2) (oi := sgrR13o13) (v := (.int .u8 x12)) hHeld ?_ ?_
  · intro w9 hSw
    try dsimp only at hSw
    go_simp
  try simp only [pu]
  refine tk (i := 3) (oi := sgrR13o8) (v := (.int .u8 (x12 / 16))) hHeld ?_ ?_
  · intro w9 hSw
    try dsimp only at hSw
    go_simp
  try simp only [pu]
  refine tk (i := 4) (oi := sgrR13o12) (v := (.int .i64 (x12 / 16))) hHeld ?_ ?_
  · intro w9 hSw
    try dsimp only at hSw
    go_simp
  try simp only [pu]
  refine tk (i := 5) (oi := sgrR13o9) (v := (.int .i64 H)) hHeld ?_ ?_
  · intro w9 hSw
    try dsimp only at hSw
    go_simp
    try exact hH
  try simp only [pu]
  refine tk (i := 6) (oi := sgrR13o11) (v := (.slice (some ⟨bk, off, none⟩) l.length dc)) hHeld ?_ ?_
  · intro w9 hSw
    try dsimp only at hSw
    go_simp
  try simp only [pu]
  refine tk (i := 7) (oi := sgrR13o3) (v := (.pointer (some ⟨bk, off + 13, none⟩))) hHeld ?_ ?_
  · intro w9 hSw
    try dsimp only at hSw
    go_simp
  try simp only [pu]
  refine tk (i := 8) (oi := sgrR13o5) (v := (.int .u8 x13)) hHeld ?_ ?_
  · intro w9 hSw
    try dsimp only at hSw
    go_simp
  try simp only [pu]
  refine tk (i := 9) (oi := sgrR13o4) (v := (.int .i64 x13)) hHeld ?_ ?_
  · intro w9 hSw
    try dsimp only at hSw
    go_simp
  try simp only [pu]
  refine tk (i := 10) (oi := sgrR13o2) (v := (.int .i64 FL)) hHeld ?_ ?_
  · intro w9 hSw
    try dsimp only at hSw
    go_simp
    try exact hF
  try simp only [pu]
  refine tk (i := 11) (oi := sgrR13o0) (v := (.int .i64 H)) hHeld ?_ ?_
  · intro w9 hSw
    try dsimp only at hSw
    go_simp
  try simp only [pu]
  refine tk (i := 12) (oi := sgrR13o1) (v := (.int .i64 FL)) hHeld ?_ ?_
  · intro w9 hSw
    try dsimp only at hSw
    go_simp
  try simp only [pu]
  refine wpAnyH_done (by kernel_rfl) ?_ _
  refine NoPanic.normal ?_
  replace B1 := B1.drew
  replace B2 := B2.drew
  replace b2 := b2.drew
  clear hW1 hW2 y12 y13 d0 d14 hHeld hH hF wx12 wm12 wx13 wH i12 i13
  generalize W2.drew = W3 at *
  have r3 := h.below b2
  go_wp2_with (refine wpList_load_row rfl _ _ rfl w.heap.size (by rfl) _ _ _ _ B1 Try.underlying64 rfl (by kernel_rfl) ?_)
  refine Calls.mono (KS.out _ r3) ?_
  rintro e W4 ⟨rfl, bb⟩
  have b4 := bel_tr b2 bb
  have B4 := B1.kept bb
  have B4' := B2.kept bb
  clear KS bb B1 B2 b2 r3
  go_wp2_with fail
  refine Calls.mono (KF.out _) ?_
  rintro e W4x ⟨rfl, hW4x⟩
  subst hW4x
  clear KF
  have hbz : (Instr.build 38 #[]).run Try.prog W4x = .ok (.agg (sRc 0 0 0 0 0 0 0 0 0 0 0 0 0 0 0 0 false 0 0 0 0 0 0 0 0 0 0 none 0 0)) W4x := by kernel_rfl
  have Bf := B4'.set (sRc 0 0 0 0 0 0 0 0 0 0 0 0 0 0 0 0 false 0 0 0 0 0 0 0 0 0 0 none 0 0)
  have bf := below_setRow b4 (Nat.le_of_lt g1) (sRc 0 0 0 0 0 0 0 0 0 0 0 0 0 0 0 0 false 0 0 0 0 0 0 0 0 0 0 none 0 0)
  go_wp2_with (first
    | (refine wpList_build _ rfl _ _ rfl _ (by rfl) _ hbz ?_)
    | (refine wpList_store_row rfl _ _ _ rfl W1.heap.size (sRc 0 0 0 0 0 0 0 0 0 0 0 0 0 0 0 0 false 0 0 0 0 0 0 0 0 0 0 none 0 0) (by rfl) (by rfl) _ _ B4' (by kernel_rfl) (by rfl) (by kernel_rfl) ?_))
  exact ret_cell_tmp (k := 2) (j := 3) Try.f55 (by kernel_rfl) Bf Try.underlying38 (by kernel_rfl) (by rfl) (by rfl) rfl ⟨none, 0, rfl, fresh_nil bf⟩
set_option maxRecDepth 100000 in
set_option maxHeartbeats 4000000 in
theorem tcp_ok (f sf sh sl df dh dl pr ho : Int) (fg : Bool) (id of : Int) (mo : Bool) (xa : Option Addr) (xn xc : Nat) (bk off dc : Nat) (l : List Int) (w : World) (h : Row w (some ⟨bk, off, none⟩) l) (hc : l.length ≤ dc) (hcm : dc ≤ 9223372036854775807) (hs : Ad.ok ⟨sf, sh, sl⟩) (hd : Ad.ok ⟨df, dh, dl⟩) (h20 : ¬ l.length < 20) (h4 : ¬ tcpH l < 20) (h5 : ¬ tcpH l > (l.length : Int)) (hsum : sumsB ⟨sf, sh, sl⟩ ⟨df, dh, dl⟩ pr l = true) (hfl : flagsB (tcpF l) = true) :
    Calls Try.prog 55 #[.agg (sRa f sf sh sl df dh dl pr ho fg id of mo xa xn xc (some ⟨bk, off, none⟩) l.length dc)] w (GotS w 0 (tcpX f pr ⟨sf, sh, sl⟩ ⟨df, dh, dl⟩ l)) := by
  obtain ⟨W1, hW1⟩ : ∃ W1, w.alloc (.cells (sRa f sf sh sl df dh dl pr ho fg id of mo xa xn xc (some ⟨bk, off, none⟩) l.length dc) 64) = W1 := ⟨_, rfl⟩
  obtain ⟨W2, hW2⟩ : ∃ W2, W1.alloc (.cells (sRc 0 0 0 0 0 0 0 0 0 0 0 0 0 0 0 0 false 0 0 0 0 0 0 0 0 0 0 none 0 0) 38) = W2 := ⟨_, rfl⟩
  have b1 := bel_nw hW1
  have b2 := bel_al b1 hW2
  have B1' := blk_nw hW1
  have B1 := B1'.al hW2
  have B2 := blk_nw hW2
  have g1 : w.heap.size < W1.heap.size := B1'.lt
  clear B1'
  have d0 := B1.cell 0 (.int .i64 f) rfl
  have d14 := B1.cell 14 (.slice (some ⟨bk, off, none⟩) l.length dc) rfl
  have h20' : ¬ (l.length : Int) < 20 := by omega
  obtain ⟨x12, e12⟩ : ∃ x, l.getD 12 0 = x := ⟨_, rfl⟩
  obtain ⟨x13, e13⟩ : ∃ x, l.getD 13 0 = x := ⟨_, rfl⟩
  have q12 := h.bytes.get 12
  have q13 := h.bytes.get 13
  obtain ⟨bk', off', ee, hcl⟩ := h.cells (by omega)
  cases ee
  have y12 := kept (b := bk) (o := off + 12) b2 (hcl 12 (by omega))
  have y13 := kept (b := bk) (o := off + 13) b2 (hcl 13 (by omega))
  rw [e12] at y12 q12
  rw [e13] at y13 q13
  clear hcl
  have i12 : (12 : Int) < (l.length : Int) := by omega
  have i13 : (13 : Int) < (l.length : Int) := by omega
  have wx12 : IntKind.i64.wrap (x12 / 16) = x12 / 16 := wraps_i64 _ (by omega) (by omega)
  have wm12 : IntKind.i64.wrap (x12 / 16 * 4) = x12 / 16 * 4 := wraps_i64 _ (by omega) (by omega)
  have wx13 : IntKind.i64.wrap x13 = x13 := wraps_i64 _ (by omega) (by omega)
  obtain ⟨H, hH⟩ : ∃ H, x12 / 16 * 4 = H := ⟨_, rfl⟩
  obtain ⟨FL, hF⟩ : ∃ F, bits .and .i64 x13 63 = F := ⟨_, rfl⟩
  have wH : IntKind.i64.wrap H = H := by rw [← hH]; exact wm12
  have eH : tcpH l = H := by unfold tcpH; rw [e12, hH]
  have eF : tcpF l = FL := by unfold tcpF; rw [e13, hF]
  rw [eH] at h4 h5
  rw [eF] at hfl
  have KS : Hid (∀ W, Row W (some ⟨bk, off, none⟩) l → Calls Try.prog 67 #[.agg (sRa f sf sh sl df dh dl pr ho fg id of mo xa xn xc (some ⟨bk, off, none⟩) l.length dc), .slice (some ⟨bk, off, none⟩) l.length dc] W fun e w' => e = .returned (.bool true) ∧ Below W.heap.size W w') := fun W hW => by
    have := sumsUp_any f sf sh sl df dh dl pr ho fg id of mo xa xn xc (some ⟨bk, off, none⟩) dc l (some ⟨bk, off, none⟩) dc l W hW hs hd
    rw [hsum] at this
    exact this
  have KF : Hid (∀ W, Calls Try.prog 68 #[.int .i64 FL] W fun e w' => e = .returned (.bool true) ∧ w' = W) := fun W => by
    have := rightFlags_any FL W
    rw [hfl] at this
    exact this
  clear hsum hfl
  obtain ⟨hh, hHn⟩ := Int.eq_ofNat_of_zero_le (show 0 ≤ H by omega)
  subst hHn
  have n20 : 20 ≤ hh := by omega
  have nhl : hh ≤ l.length := by omega
  have jh1 : (0 : Int) ≤ (hh : Int) := by omega
  have jh2 : (hh : Int) ≤ (l.length : Int) := by omega
  obtain ⟨a3, ha3⟩ : ∃ a3 : Option Addr, (if dc = hh then (some ⟨bk, off, none⟩) else Option.map (fun x : Addr => x.add hh) (some ⟨bk, off, none⟩)) = a3 := ⟨_, rfl⟩
  have H3 : Hid ((if dc = hh then some (⟨bk, off, none⟩ : Addr) else some ⟨bk, off + hh, none⟩) = a3) := by
    have : (if dc = hh then some (⟨bk, off, none⟩ : Addr) else some ⟨bk, off + hh, none⟩) = a3 := by
      rw [← ha3]
      simp [Go.WideShapes.add_plain]
    exact this
  obtain ⟨D, hD⟩ : ∃ D, l.drop hh = D := ⟨_, rfl⟩
  have lD : D.length = l.length - hh := by rw [← hD, List.length_drop]
  have KC : Hid (∀ W, Row W (some ⟨bk, off, none⟩) l → Calls Try.prog 72 #[.slice a3 (l.length - hh) (dc - hh)] W fun e w' => ∃ a' c', e = .returned (.slice a' D.length c') ∧ Fresh W w' a' c' D) := fun W hW => by
    have hr := hW.drop dc hh hc
    rw [ha3, hD] at hr
    have := clone_any a3 (dc - hh) D W hr (fun e => by
      rw [e] at ha3
      split at ha3
      · cases ha3
      · cases ha3)
    rw [lD] at this ⊢
    exact this
  obtain ⟨V, hV⟩ : ∃ V, portsOf f pr l = V := ⟨_, rfl⟩
  have KW : Hid (∀ W, Row W (some ⟨bk, off, none⟩) l → Calls Try.prog 70 #[.agg (sRa f sf sh sl df dh dl pr ho fg id of mo xa xn xc (some ⟨bk, off, none⟩) l.length dc)] W fun e w' => e = .returned (.agg (sRb f pr sf sh sl df dh dl V.1 V.2)) ∧ Below W.heap.size W w') := fun W hW => by
    have := way_any f sf sh sl df dh dl pr ho fg id of mo xa xn xc (some ⟨bk, off, none⟩) dc l W hW (by omega)
    rw [hV] at this
    exact this
  obtain ⟨sq, hsq⟩ : ∃ x, u32v l 4 = x := ⟨_, rfl⟩
  obtain ⟨ak, hak⟩ : ∃ x, u32v l 8 = x := ⟨_, rfl⟩
  obtain ⟨wn, hwn⟩ : ∃ x, u16v l 14 = x := ⟨_, rfl⟩
  obtain ⟨y1, hy1⟩ : ∃ x, liesB l.length 4 4 = x := ⟨_, rfl⟩
  obtain ⟨y2, hy2⟩ : ∃ x, liesB l.length 8 4 = x := ⟨_, rfl⟩
  have K4 : Hid (∀ W, Row W (some ⟨bk, off, none⟩) l → Calls Try.prog 69 #[.slice (some ⟨bk, off, none⟩) l.length dc, .int .i64 4] W fun e w' => e = .returned (.tuple #[.int .u32 sq, .bool y1]) ∧ Below W.heap.size W w') := fun W hW => by
    have := u32_any (some ⟨bk, off, none⟩) dc l 4 W hW (by decide)
    rw [hsq, hy1] at this
    exact this
  have K8 : Hid (∀ W, Row W (some ⟨bk, off, none⟩) l → Calls Try.prog 69 #[.slice (some ⟨bk, off, none⟩) l.length dc, .int .i64 8] W fun e w' => e = .returned (.tuple #[.int .u32 ak, .bool y2]) ∧ Below W.heap.size W w') := fun W hW => by
    have := u32_any (some ⟨bk, off, none⟩) dc l 8 W hW (by decide)
    rw [hak, hy2] at this
    exact this
  have K14 : Hid (∀ W, Row W (some ⟨bk, off, none⟩) l → Calls Try.prog 71 #[.slice (some ⟨bk, off, none⟩) l.length dc, .int .i64 14] W fun e w' => e = .returned (.int .i64 wn) ∧ Below W.heap.size W w') := fun W hW => by
    have := segU16_any (some ⟨bk, off, none⟩) dc l 14 W hW (by decide)
    rw [hwn] at this
    exact this
  have e : tcpX f pr ⟨sf, sh, sl⟩ ⟨df, dh, dl⟩ l = ⟨⟨f, pr, ⟨sf, sh, sl⟩, ⟨df, dh, dl⟩, V.1, V.2⟩, FL, sq, ak, wn, 0, 0, false, zTp, D⟩ := by
    unfold tcpX endT
    rw [hV, eH, eF, hsq, hak, hwn]
    simp only [Int.toNat_natCast]
    rw [hD]
  rw [e]
  have HD : Hid (D.length = l.length - hh) := lD
  clear e hV hD lD hsq hak hwn ha3 eH eF e12 e13 hy1 hy2
  go_enter Try.func55, Try.ntmps55
  go_wp2_with fail
  refine wp_region_noPanic ?_
  refine wp_region_held_drew (S := fun w' => w'.cell? ⟨bk, off + 12, none⟩ = some (.int .u8 x12) ∧ w'.cell? ⟨bk, off + 13, none⟩ = some (.int .u8 x13)) (by kernel_rfl) (by exact ⟨y12, y13⟩) (fun hHeld => ?_)
  refine tk (i := 0) (oi := sgrR13o15) (v := (.slice (some ⟨bk, off, none⟩) l.length dc)) hHeld ?_ ?_
  · intro w9 hSw
    try dsimp only at hSw
    go_simp
  try simp only [pu]
  refine tk (i := 1) (oi := sgrR13o10) (v := (.pointer (some ⟨bk, off + 12, none⟩))) hHeld ?_ ?_
  · intro w9 hSw
    try dsimp only at hSw
    go_simp
  try simp only [pu]
  refine tk (i := 2) (oi := sgrR13o13) (v := (.int .u8 x12)) hHeld ?_ ?_
  · intro w9 hSw
    try dsimp only at hSw
    go_simp
  try simp only [pu]
  refine tk (i := 3) (oi := sgrR13o8) (v := (.int .u8 (x12 / 16))) hHeld ?_ ?_
  · intro w9 hSw
    try dsimp only at hSw
    go_simp
  try simp only [pu]
  refine tk (i := 4) (oi := sgrR13o12) (v := (.int .i64 (x12 / 16))) hHeld ?_ ?_
  · intro w9 hSw
    try dsimp only at hSw
    go_simp
  try simp only [pu]
  refine tk (i := 5) (oi := sgrR13o9) (v := (.int .i64 (hh : Int))) hHeld ?_ ?_
  · intro w9 hSw
    try dsimp only at hSw
    go_simp
    try exact hH
  try simp only [pu]
  refine tk (i := 6) (oi := sgrR13o11) (v := (.slice (some ⟨bk, off, none⟩) l.length dc)) hHeld ?_ ?_
  · intro w9 hSw
    try dsimp only at hSw
    go_simp
  try simp only [pu]
  refine tk (i := 7) (oi := sgrR13o3) (v := (.pointer (some ⟨bk, off + 13, none⟩))) hHeld ?_ ?_
  · intro w9 hSw
    try dsimp only at hSw
    go_simp
  try simp only [pu]
  refine tk (i := 8) (oi := sgrR13o5) (v := (.int .u8 x13)) hHeld ?_ ?_
  · intro w9 hSw
    try dsimp only at hSw
    go_simp
  try simp only [pu]
  refine tk (i := 9) (oi := sgrR13o4) (v := (.int .i64 x13)) hHeld ?_ ?_
  · intro w9 hSw
    try dsimp only at hSw
    go_simp
  try simp only [pu]
  refine tk (i := 10) (oi := sgrR13o2) (v := (.int .i64 FL)) hHeld ?_ ?_
  · intro w9 hSw
    try dsimp only at hSw
    go_simp
    try exact hF
  try simp only [pu]
  refine tk (i := 11) (oi := sgrR13o0) (v := (.int .i64 (hh : Int))) hHeld ?_ ?_
  · intro w9 hSw
    try dsimp only at hSw
    go_simp
  try simp only [pu]
  refine tk (i := 12) (oi := sgrR13o1) (v := (.int .i64 FL)) hHeld ?_ ?_
  · intro w9 hSw
    try dsimp only at hSw
    go_simp
  try simp only [pu]
  refine wpAnyH_done (by kernel_rfl) ?_ _
  refine NoPanic.normal ?_
  replace B1 := B1.drew
  replace B2 := B2.drew
  replace b2 := b2.drew
  clear hW1 hW2 y12 y13 d0 d14 hHeld hH hF wx12 wm12 wx13 wH i12 i13
  generalize W2.drew = W3 at *
  have r3 := h.below b2
  go_wp2_with (refine wpList_load_row rfl _ _ rfl w.heap.size (by rfl) _ _ _ _ B1 Try.underlying64 rfl (by kernel_rfl) ?_)
  refine Calls.mono (KS.out _ r3) ?_
  rintro e W4 ⟨rfl, bb⟩
  have b4 := bel_tr b2 bb
  have B4 := B1.kept bb
  have B4' := B2.kept bb
  clear KS bb B1 B2 b2 r3
  go_wp2_with fail
  refine Calls.mono (KF.out _) ?_
  rintro e W4x ⟨rfl, hW4x⟩
  subst hW4x
  clear KF
  go_wp2_with fail
  refine Calls.mono (K4.out _ (h.below b4)) ?_
  rintro e W5 ⟨rfl, bb⟩
  have b5 := bel_tr b4 bb
  have B5 := B4.kept bb
  have B5' := B4'.kept bb
  clear K4 bb B4 B4' b4
  go_wp2_with fail
  refine Calls.mono (K8.out _ (h.below b5)) ?_
  rintro e W6 ⟨rfl, bb⟩
  have b6 := bel_tr b5 bb
  have B6 := B5.kept bb
  have B6' := B5'.kept bb
  clear K8 bb B5 B5' b5
  go_wp2_with fail
  refine wp_region_noPanic ?_
  refine wp_region_held_drew (S := fun w' => Blk w' w.heap.size 64 (sRa f sf sh sl df dh dl pr ho fg id of mo xa xn xc (some ⟨bk, off, none⟩) l.length dc)) (by kernel_rfl) (by exact B6.drew) (fun hHeld => ?_)
  refine wpAnyH_take (i := 0) (oi := { dst := some 59, op := Op.load 64 (.tmp 1), type := 64, pos := "parse.go:53", after := #[], guard := none }) (v := (.agg (sRa f sf sh sl df dh dl pr ho fg id of mo xa xn xc (some ⟨bk, off, none⟩) l.length dc))) rfl (by kernel_rfl) (by kernel_rfl) (by kernel_rfl) (fun _ _ _ h => h) (yieldsIf_blk rfl _ _ rfl w.heap.size (by rfl) _ (fun _ hSw => hSw) Try.underlying64 (by kernel_rfl)) hHeld ?_
  try simp only [pu]
  refine tk (i := 2) (oi := { dst := some 61, op := Op.move (.tmp 6), type := 3, pos := "parse.go:53", after := #[], guard := none }) (v := (.int .i64 FL)) hHeld ?_ ?_
  · intro w9 hSw
    try dsimp only at hSw
    go_simp
  try simp only [pu]
  refine tk (i := 3) (oi := { dst := some 62, op := Op.move (.tmp 7), type := 33, pos := "parse.go:53", after := #[], guard := none }) (v := (.int .u32 sq)) hHeld ?_ ?_
  · intro w9 hSw
    try dsimp only at hSw
    go_simp
  try simp only [pu]
  refine tk (i := 4) (oi := { dst := some 63, op := Op.move (.tmp 9), type := 33, pos := "parse.go:53", after := #[], guard := none }) (v := (.int .u32 ak)) hHeld ?_ ?_
  · intro w9 hSw
    try dsimp only at hSw
    go_simp
  try simp only [pu]
  refine tk (i := 5) (oi := { dst := some 64, op := Op.move (.tmp 4), type := 28, pos := "parse.go:53", after := #[], guard := none }) (v := (.slice (some ⟨bk, off, none⟩) l.length dc)) hHeld ?_ ?_
  · intro w9 hSw
    try dsimp only at hSw
    go_simp
  try simp only [pu]
  refine tk (i := 7) (oi := { dst := some 66, op := Op.move (.tmp 4), type := 28, pos := "parse.go:53", after := #[], guard := none }) (v := (.slice (some ⟨bk, off, none⟩) l.length dc)) hHeld ?_ ?_
  · intro w9 hSw
    try dsimp only at hSw
    go_simp
  try simp only [pu]
  refine tk (i := 8) (oi := { dst := some 67, op := Op.move (.tmp 5), type := 3, pos := "parse.go:53", after := #[], guard := none }) (v := (.int .i64 (hh : Int))) hHeld ?_ ?_
  · intro w9 hSw
    try dsimp only at hSw
    go_simp
  try simp only [pu]
  refine tk (i := 9) (oi := { dst := some 68, op := Op.slice 28 (.tmp 66) (some (.tmp 67)) none none, type := 28, pos := "parse.go:53", after := #[{ on := 7, ground := Ground.data }, { on := 8, ground := Ground.data }], guard := none }) (v := (.slice a3 (l.length - hh) (dc - hh))) hHeld ?_ ?_
  · intro w9 hSw
    try dsimp only at hSw
    go_simp
    exact H3.out
  try simp only [pu]
  refine wpAnyH_ready (rs := [1]) (by kernel_rfl) (by simp) ?_
  refine AllReadyH.cons (o := { dst := some 60, op := Op.call { callee := Callee.value (.func 70), args := #[.tmp 59], argTypes := #[64] }, type := 26, pos := "parse.go:53", after := #[{ on := 0, ground := Ground.data }], guard := none }) rfl (fun K hK => ?_) AllReadyH.nil
  go_simp
  refine Calls.mono (KW.out _ (h.below b6.drew)) ?_
  rintro e W7 ⟨rfl, bb⟩
  have B7 := B6.drew.kept bb
  have B7' := B6'.drew.kept bb
  have b7 : Below w.heap.size w W7 := b6.drew.trans (bb.mono b6.drew.size)
  refine hK.out _ _ ?_ (fun hHeld => ?_)
  · exact B7
  clear hK K
  try simp only [pu]
  refine wpAnyH_ready (rs := [6]) (by kernel_rfl) (by simp) ?_
  refine AllReadyH.cons (o := { dst := some 65, op := Op.call { callee := Callee.value (.func 71), args := #[.tmp 64, .const (.int .i64 14)], argTypes := #[28, 3] }, type := 3, pos := "parse.go:53", after := #[{ on := 5, ground := Ground.data }, { on := 1, ground := Ground.chain }], guard := none }) rfl (fun K hK => ?_) AllReadyH.nil
  go_simp
  refine Calls.mono (K14.out _ (h.below b7)) ?_
  rintro e W8 ⟨rfl, bb⟩
  have B8 := B7.kept bb
  have B8' := B7'.kept bb
  have b8 := bel_tr b7 bb
  refine hK.out _ _ ?_ (fun hHeld => ?_)
  · exact B8
  clear hK K
  try simp only [pu]
  refine wpAnyH_ready (rs := [10]) (by kernel_rfl) (by simp) ?_
  refine AllReadyH.cons (o := { dst := some 69, op := Op.call { callee := Callee.value (.func 72), args := #[.tmp 68], argTypes := #[28] }, type := 28, pos := "parse.go:53", after := #[{ on := 9, ground := Ground.data }, { on := 6, ground := Ground.chain }], guard := none }) rfl (fun K hK => ?_) AllReadyH.nil
  go_simp
  refine Calls.mono (KC.out _ (h.below b8)) ?_
  rintro e W9 ⟨a9, c9, rfl, f9⟩
  have B9 := B8.kept f9.below
  have B9' := B8'.kept f9.below
  have b9 := bel_tr b8 f9.below
  refine hK.out _ _ ?_ (fun hHeld => ?_)
  · exact B9
  clear hK K
  try simp only [pu]
  refine wpAnyH_take (i := 11) (oi := { dst := some 70, op := Op.build 38 #[(0, .tmp 60), (1, .tmp 61), (2, .tmp 62), (3, .tmp 63), (4, .tmp 65), (9, .tmp 69)], type := 38, pos := "parse.go:53", after := #[{ on := 1, ground := Ground.data }, { on := 2, ground := Ground.data }, { on := 3, ground := Ground.data }, { on := 4, ground := Ground.data }, { on := 6, ground := Ground.data }, { on := 10, ground := Ground.data }], guard := none }) (v := (.agg (sRc f pr sf sh sl df dh dl V.1 V.2 FL sq ak wn 0 0 false 0 0 0 0 0 0 0 0 0 0 a9 D.length c9))) rfl (by kernel_rfl) (by kernel_rfl) (by kernel_rfl) (fun _ _ _ h => h) (yieldsIf_build rfl _ _ rfl #[(0, .agg (sRb f pr sf sh sl df dh dl V.1 V.2)), (1, .int .i64 FL), (2, .int .u32 sq), (3, .int .u32 ak), (4, .int .i64 wn), (9, .slice a9 D.length c9)] (by kernel_rfl) _ (fun w9 => by kernel_rfl)) hHeld ?_
  try simp only [pu]
  refine wpAnyH_ready (rs := [12]) (by kernel_rfl) (by simp) ?_
  refine AllReadyH.cons (o := { dst := none, op := Op.store 38 (.tmp 2) (.tmp 70), type := 0, pos := "parse.go:53", after := #[{ on := 11, ground := Ground.data }, { on := 10, ground := Ground.chain }, { on := 0, ground := Ground.phase }, { on := 1, ground := Ground.phase }, { on := 2, ground := Ground.phase }, { on := 3, ground := Ground.phase }, { on := 4, ground := Ground.phase }, { on := 5, ground := Ground.phase }, { on := 6, ground := Ground.phase }, { on := 7, ground := Ground.phase }, { on := 8, ground := Ground.phase }, { on := 9, ground := Ground.phase }, { on := 10, ground := Ground.phase }, { on := 11, ground := Ground.phase }], guard := none }) rfl (fun K hK => ?_) AllReadyH.nil
  refine step_store_blk rfl _ _ _ rfl W1.heap.size (sRc f pr sf sh sl df dh dl V.1 V.2 FL sq ak wn 0 0 false 0 0 0 0 0 0 0 0 0 0 a9 D.length c9) _ (by kernel_rfl) (by kernel_rfl) B9' (by kernel_rfl) (by rfl) (by kernel_rfl) ?_
  refine hK.out _ _ ?_ (fun hHeld => ?_)
  · exact B9.other (by omega) _
  clear hK K
  try simp only [pu]
  refine tk (i := 13) (oi := { dst := some 3, op := Op.assign (.const (.int .i64 0)), type := 39, pos := "parse.go:53", after := #[{ on := 12, ground := Ground.chain }, { on := 0, ground := Ground.phase }, { on := 1, ground := Ground.phase }, { on := 2, ground := Ground.phase }, { on := 3, ground := Ground.phase }, { on := 4, ground := Ground.phase }, { on := 5, ground := Ground.phase }, { on := 6, ground := Ground.phase }, { on := 7, ground := Ground.phase }, { on := 8, ground := Ground.phase }, { on := 9, ground := Ground.phase }, { on := 10, ground := Ground.phase }, { on := 11, ground := Ground.phase }, { on := 12, ground := Ground.phase }], guard := none }) (v := (.int .i64 0)) hHeld ?_ ?_
  · intro w9 hSw
    try dsimp only at hSw
    go_simp
  try simp only [pu]
  refine wpAnyH_done (by kernel_rfl) ?_ _
  refine NoPanic.normal ?_
  have Bf := B9'.set (sRc f pr sf sh sl df dh dl V.1 V.2 FL sq ak wn 0 0 false 0 0 0 0 0 0 0 0 0 0 a9 D.length c9)
  have bf := below_setRow b9 (Nat.le_of_lt g1) (sRc f pr sf sh sl df dh dl V.1 V.2 FL sq ak wn 0 0 false 0 0 0 0 0 0 0 0 0 0 a9 D.length c9)
  have oo := (owns_le (B' := W1.heap.size + 1) (by have := B8'.lt; omega) f9.owns).row_other (Nat.lt_succ_self _) (sRc f pr sf sh sl df dh dl V.1 V.2 FL sq ak wn 0 0 false 0 0 0 0 0 0 0 0 0 0 a9 D.length c9)
  go_wp2_with fail
  refine ret_cell_tmp (k := 2) (j := 3) Try.f55 (by kernel_rfl) Bf Try.underlying38 (by kernel_rfl) (by rfl) (by rfl) rfl ?_
  exact ⟨a9, c9, rfl, owns_le (by omega) oo, f9.room, f9.nil, oo.row f9.row.small f9.row.bytes, bf⟩
theorem tcp_any (f sf sh sl df dh dl pr ho : Int) (fg : Bool) (id of : Int) (mo : Bool) (xa : Option Addr) (xn xc : Nat) (da : Option Addr) (dc : Nat) (l : List Int) (w : World) (h : Row w da l) (hnil : da = none → dc = 0) (hc : l.length ≤ dc) (hcm : dc ≤ 9223372036854775807) (hs : Ad.ok ⟨sf, sh, sl⟩) (hd : Ad.ok ⟨df, dh, dl⟩) :
    Calls Try.prog 55 #[.agg (sRa f sf sh sl df dh dl pr ho fg id of mo xa xn xc da l.length dc)] w (GotS w (tcpE f pr ⟨sf, sh, sl⟩ ⟨df, dh, dl⟩ l) (if tcpE f pr ⟨sf, sh, sl⟩ ⟨df, dh, dl⟩ l = 0 then tcpX f pr ⟨sf, sh, sl⟩ ⟨df, dh, dl⟩ l else zSg)) := by
  obtain ⟨E, hE⟩ : ∃ E, tcpE f pr ⟨sf, sh, sl⟩ ⟨df, dh, dl⟩ l = E := ⟨_, rfl⟩
  rw [hE]
  unfold tcpE at hE
  split at hE
  · rename_i h8
    subst hE
    exact tcp_e2 f sf sh sl df dh dl pr ho fg id of mo xa xn xc da dc l w h hnil hc hcm hs hd h8
  rename_i h20
  obtain ⟨bk, off, rfl, _⟩ := h.cells (by omega)
  split at hE
  · rename_i h5
    subst hE
    by_cases h4 : tcpH l < 20
    · exact tcp_e4a f sf sh sl df dh dl pr ho fg id of mo xa xn xc bk off dc l w h hc hcm hs hd h20 h4
    · exact tcp_e4b f sf sh sl df dh dl pr ho fg id of mo xa xn xc bk off dc l w h hc hcm hs hd h20 h4 (by omega)
  rename_i h5
  have h4 : ¬ tcpH l < 20 := by omega
  have h6 : ¬ tcpH l > (l.length : Int) := by omega
  split at hE
  · rename_i hsum
    subst hE
    exact tcp_e6 f sf sh sl df dh dl pr ho fg id of mo xa xn xc bk off dc l w h hc hcm hs hd h20 h4 h6 hsum
  rename_i hsum
  have hsum : sumsB ⟨sf, sh, sl⟩ ⟨df, dh, dl⟩ pr l = true := by simpa using hsum
  split at hE
  · rename_i hfl
    subst hE
    exact tcp_e10 f sf sh sl df dh dl pr ho fg id of mo xa xn xc bk off dc l w h hc hcm hs hd h20 h4 h6 hsum hfl
  · rename_i hfl
    subst hE
    exact tcp_ok f sf sh sl df dh dl pr ho fg id of mo xa xn xc bk off dc l w h hc hcm hs hd h20 h4 h6 hsum (by simpa using hfl)
end Go.Proofs.Ytpjjkdgmfjhfiaa
