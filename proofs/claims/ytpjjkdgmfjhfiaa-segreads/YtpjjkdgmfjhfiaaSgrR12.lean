/- Texts joined: SgT -/
import Derived.Test.YtpjjkdgmfjhfiaaSgrR11
namespace Go.Proofs.Ytpjjkdgmfjhfiaa
abbrev sgrR12o0 : Oper := { dst := some 5, op := Op.assign (.tmp 22), type := 3, pos := "parse.go:42", after := #[{ on := 5, ground := Ground.data }, { on := 0, ground := Ground.phase }, { on := 1, ground := Ground.phase }, { on := 2, ground := Ground.phase }, { on := 3, ground := Ground.phase }, { on := 4, ground := Ground.phase }, { on := 5, ground := Ground.phase }, { on := 6, ground := Ground.textOnly Departure.lateStores }, { on := 7, ground := Ground.textOnly Departure.lateStores }, { on := 8, ground := Ground.textOnly Departure.lateStores }, { on := 9, ground := Ground.textOnly Departure.lateStores }, { on := 10, ground := Ground.textOnly Departure.lateStores }], guard := none }
abbrev sgrR12o1 : Oper := { dst := some 6, op := Op.assign (.tmp 27), type := 3, pos := "parse.go:42", after := #[{ on := 10, ground := Ground.data }, { on := 11, ground := Ground.chain }, { on := 0, ground := Ground.phase }, { on := 1, ground := Ground.phase }, { on := 2, ground := Ground.phase }, { on := 3, ground := Ground.phase }, { on := 4, ground := Ground.phase }, { on := 5, ground := Ground.phase }, { on := 6, ground := Ground.phase }, { on := 7, ground := Ground.phase }, { on := 8, ground := Ground.phase }, { on := 9, ground := Ground.phase }, { on := 10, ground := Ground.phase }, { on := 11, ground := Ground.phase }], guard := none }
abbrev sgrR12o2 : Oper := { dst := some 27, op := Op.binOp BinOp.and 3 (.tmp 26) (.const (.int .i64 63)) 3, type := 3, pos := "parse.go:42", after := #[{ on := 9, ground := Ground.data }, { on := 11, ground := Ground.gcOnly Departure.lateStores }], guard := none }
abbrev sgrR12o3 : Oper := { dst := some 24, op := Op.indexAddr 28 (.tmp 23) (.const (.int .i64 13)), type := 0, pos := "parse.go:42", after := #[{ on := 6, ground := Ground.data }, { on := 11, ground := Ground.gcOnly Departure.lateStores }], guard := none }
abbrev sgrR12o4 : Oper := { dst := some 26, op := Op.convert 5 3 (.tmp 25), type := 3, pos := "parse.go:42", after := #[{ on := 8, ground := Ground.data }, { on := 11, ground := Ground.gcOnly Departure.lateStores }], guard := none }
abbrev sgrR12o5 : Oper := { dst := some 25, op := Op.load 5 (.tmp 24), type := 5, pos := "parse.go:42", after := #[{ on := 7, ground := Ground.data }, { on := 11, ground := Ground.gcOnly Departure.lateStores }], guard := none }
abbrev sgrR12o6 : Oper := { dst := some 20, op := Op.binOp BinOp.shr 5 (.tmp 19) (.const (.int .u64 4)) 72, type := 5, pos := "parse.go:42", after := #[{ on := 2, ground := Ground.data }], guard := none }
abbrev sgrR12o7 : Oper := { dst := some 22, op := Op.binOp BinOp.mul 3 (.tmp 21) (.const (.int .i64 4)) 3, type := 3, pos := "parse.go:42", after := #[{ on := 4, ground := Ground.data }], guard := none }
abbrev sgrR12o8 : Oper := { dst := some 18, op := Op.indexAddr 28 (.tmp 17) (.const (.int .i64 12)), type := 0, pos := "parse.go:42", after := #[{ on := 0, ground := Ground.data }], guard := none }
abbrev sgrR12o9 : Oper := { dst := some 23, op := Op.move (.tmp 4), type := 28, pos := "parse.go:42", after := #[{ on := 11, ground := Ground.gcOnly Departure.lateStores }], guard := none }
abbrev sgrR12o10 : Oper := { dst := some 21, op := Op.convert 5 3 (.tmp 20), type := 3, pos := "parse.go:42", after := #[{ on := 3, ground := Ground.data }], guard := none }
abbrev sgrR12o11 : Oper := { dst := some 19, op := Op.load 5 (.tmp 18), type := 5, pos := "parse.go:42", after := #[{ on := 1, ground := Ground.data }], guard := none }
abbrev sgrR12o12 : Oper := { dst := some 17, op := Op.move (.tmp 4), type := 28, pos := "parse.go:42", after := #[], guard := none }
end Go.Proofs.Ytpjjkdgmfjhfiaa
namespace Go.Proofs.Ytpjjkdgmfjhfiaa
open Go.RowKit
set_option linter.unusedVariables false
set_option linter.unusedSimpArgs false
set_option maxRecDepth 100000 in
set_option maxHeartbeats 4000000 in
theorem rightFlags_any (x : Int) (w : World) : Calls Try.prog 68 #[.int .i64 x] w fun e w' => e = .returned (.bool (flagsB x)) ∧ w' = w := by
  go_enter Try.func68, Try.ntmps68
  go_wp2_with fail
  all_goals (go_ret; exact ⟨retB (by unfold flagsB; simp_all), rfl⟩)
set_option maxRecDepth 100000 in
set_option maxHeartbeats 4000000 in
theorem tcp_e2 (f sf sh sl df dh dl pr ho : Int) (fg : Bool) (id of : Int) (mo : Bool) (xa : Option Addr) (xn xc : Nat) (da : Option Addr) (dc : Nat) (l : List Int) (w : World) (h : Row w da l) (hnil : da = none → dc = 0) (hc : l.length ≤ dc) (hcm : dc ≤ 9223372036854775807) (hs : Ad.ok ⟨sf, sh, sl⟩) (hd : Ad.ok ⟨df, dh, dl⟩) (h8 : l.length < 20) :
    Calls Try.prog 55 #[.agg (sRa f sf sh sl df dh dl pr ho fg id of mo xa xn xc da l.length dc)] w (GotS w 2 zSg) := by
  obtain ⟨W1, hW1⟩ : ∃ W1, w.alloc (.cells (sRa f sf sh sl df dh dl pr ho fg id of mo xa xn xc da l.length dc) 64) = W1 := ⟨_, rfl⟩
  obtain ⟨W2, hW2⟩ : ∃ W2, W1.alloc (.cells (sRc 0 0 0 0 0 0 0 0 0 0 0 0 0 0 0 0 false 0 0 0 0 0 0 0 0 0 0 none 0 0) 38) = W2 := ⟨_, rfl⟩
  have b1 := bel_nw hW1
  have b2 := bel_al b1 hW2
  have B1' := blk_nw hW1
  have B1 := B1'.al hW2
  have B2 := blk_nw hW2
  have g1 : w.heap.size < W1.heap.size := B1'.lt
  clear B1'
  have d0 := B1.cell 0 (.int .i64 f) rfl
  have d14 := B1.cell 14 (.slice da l.length dc) rfl
  have h8' : (l.length : Int) < 20 := by omega
  have hbz : (Instr.build 38 #[]).run Try.prog W2 = .ok (.agg (sRc 0 0 0 0 0 0 0 0 0 0 0 0 0 0 0 0 false 0 0 0 0 0 0 0 0 0 0 none 0 0)) W2 := by kernel_rfl
  go_enter Try.func55, Try.ntmps55
  have Bf := B2.set (sRc 0 0 0 0 0 0 0 0 0 0 0 0 0 0 0 0 false 0 0 0 0 0 0 0 0 0 0 none 0 0)
  have bf := below_setRow b2 (Nat.le_of_lt g1) (sRc 0 0 0 0 0 0 0 0 0 0 0 0 0 0 0 0 false 0 0 0 0 0 0 0 0 0 0 none 0 0)
  go_wp2_with (first
    | (refine wpList_build _ rfl _ _ rfl _ (by rfl) _ hbz ?_)
    | (refine wpList_store_row rfl _ _ _ rfl W1.heap.size (sRc 0 0 0 0 0 0 0 0 0 0 0 0 0 0 0 0 false 0 0 0 0 0 0 0 0 0 0 none 0 0) (by rfl) (by rfl) _ _ B2 (by kernel_rfl) (by rfl) (by kernel_rfl) ?_))
  exact ret_cell_tmp (k := 2) (j := 3) Try.f55 (by kernel_rfl) Bf Try.underlying38 (by kernel_rfl) (by rfl) (by rfl) rfl ⟨none, 0, rfl, fresh_nil bf⟩
set_option maxRecDepth 100000 in
set_option maxHeartbeats 4000000 in
theorem tcp_e4a (f sf sh sl df dh dl pr ho : Int) (fg : Bool) (id of : Int) (mo : Bool) (xa : Option Addr) (xn xc : Nat) (bk off dc : Nat) (l : List Int) (w : World) (h : Row w (some ⟨bk, off, none⟩) l) (hc : l.length ≤ dc) (hcm : dc ≤ 9223372036854775807) (hs : Ad.ok ⟨sf, sh, sl⟩) (hd : Ad.ok ⟨df, dh, dl⟩) (h20 : ¬ l.length < 20) (h4 : tcpH l < 20) :
    Calls Try.prog 55 #[.agg (sRa f sf sh sl df dh dl pr ho fg id of mo xa xn xc (some ⟨bk, off, none⟩) l.length dc)] w (GotS w 4 zSg) := by
  obtain ⟨W1, hW1⟩ : ∃ W1, w.alloc (.cells (sRa f sf sh sl df dh dl pr ho fg id of mo xa xn xc (some ⟨bk, off, none⟩) l.length dc) 64) = W1 := ⟨_, rfl⟩
  obtain ⟨W2, hW2⟩ : ∃ W2, W1.alloc (.cells (sRc 0 0 0 0 0 0 0 0 0 0 0 0 0 0 0 0 false 0 0 0 0 0 0 0 0 0 0 none 0 0) 38) = W2 := ⟨_, rfl⟩
  have b1 := bel_nw hW1
  have b2 := bel_al b1 hW2
  have B1' := blk_nw hW1
  have B1 := B1'.al hW2
  have B2 := blk_nw hW2
  have g1 : w.heap.size < W1.heap.size := B1'.lt
  clear B1'
  have d0 := B1.cell 0 (.int .i64 f) rfl
  have d14 := B1.cell 14 (.slice (some ⟨bk, off, none⟩) l.length dc) rfl
  have h20' : ¬ (l.length : Int) < 20 := by omega
  obtain ⟨x12, e12⟩ : ∃ x, l.getD 12 0 = x := ⟨_, rfl⟩
  obtain ⟨x13, e13⟩ : ∃ x, l.getD 13 0 = x := ⟨_, rfl⟩
  have q12 := h.bytes.get 12
  have q13 := h.bytes.get 13
  obtain ⟨bk', off', ee, hcl⟩ := h.cells (by omega)
  cases ee
  have y12 := kept (b := bk) (o := off + 12) b2 (hcl 12 (by omega))
  have y13 := kept (b := bk) (o := off + 13) b2 (hcl 13 (by omega))
  rw [e12] at y12 q12
  rw [e13] at y13 q13
  clear hcl
  have i12 : (12 : Int) < (l.length : Int) := by omega
  have i13 : (13 : Int) < (l.length : Int) := by omega
  have wx12 : IntKind.i64.wrap (x12 / 16) = x12 / 16 := wraps_i64 _ (by omega) (by omega)
  have wm12 : IntKind.i64.wrap (x12 / 16 * 4) = x12 / 16 * 4 := wraps_i64 _ (by omega) (by omega)
  have wx13 : IntKind.i64.wrap x13 = x13 := wraps_i64 _ (by omega) (by omega)
  obtain ⟨H, hH⟩ : ∃ H, x12 / 16 * 4 = H := ⟨_, rfl⟩
  obtain ⟨FL, hF⟩ : ∃ F, bits .and .i64 x13 63 = F := ⟨_, rfl⟩
  have wH : IntKind.i64.wrap H = H := by rw [← hH]; exact wm12
  have eH : tcpH l = H := by unfold tcpH; rw [e12, hH]
  have eF : tcpF l = FL := by unfold tcpF; rw [e13, hF]
  rw [eH] at h4
  clear eH eF e12 e13
  go_enter Try.func55, Try.ntmps55
  go_wp2_with fail
  refine wp_region_noPanic ?_
  refine wp_region_held_drew (S := fun w' => w'.cell? ⟨bk, off + 12, none⟩ = some (.int .u8 x12) ∧ w'.cell? ⟨bk, off + 13, none⟩ = some (.int .u8 x13)) (by kernel_rfl) (by exact ⟨y12, y13⟩) (fun hHeld => ?_)
  refine tk (i := 0) (oi := sgrR12o12) (v := (.slice (some ⟨bk, off, none⟩) l.length dc)) hHeld ?_ ?_
  · intro w9 hSw
    try dsimp only at hSw
    go_simp
  try simp only [pu]
  refine tk (i := 1) (oi := sgrR12o8) (v := (.pointer (some ⟨bk, off + 12, none⟩))) hHeld ?_ ?_
  · intro w9 hSw
    try dsimp only at hSw
    go_simp
  try simp only [pu]
  refine tk (i := 2) (oi := sgrR12o11) (v := (.int .u8 x12)) hHeld ?_ ?_
  · intro w9 hSw
    try dsimp only at hSw
    go_simp
  try simp only [pu]
  refine tk (i := 3) (oi := sgrR12o6) (v := (.int .u8 (x12 / 16))) hHeld ?_ ?_
  · intro w9 hSw
    try dsimp only at hSw
    go_simp
  try simp only [pu]
  refine tk (i := 4) (oi := sgrR12o10) (v := (.int .i64 (x12 / 16))) hHeld ?_ ?_
  · intro w9 hSw
    try dsimp only at hSw
    go_simp
  try simp only [pu]
  refine tk (i := 5) (oi := sgrR12o7) (v := (.int .i64 H)) hHeld ?_ ?_
  · intro w9 hSw
    try dsimp only at hSw
    go_simp
    try exact hH
  try simp only [pu]
  refine tk (i := 6) (oi := sgrR12o9) (v := (.slice (some ⟨bk, off, none⟩) l.length dc)) hHeld ?_ ?_
  · intro w9 hSw
    try dsimp only at hSw
    go_simp
  try simp only [pu]
  refine tk (i := 7) (oi := sgrR12o3) (v := (.pointer (some ⟨bk, off + 13, none⟩))) hHeld ?_ ?_
  · intro w9 hSw
    try dsimp only at hSw
    go_simp
  try simp only [pu]
  refine tk (i := 8) (oi := sgrR12o5) (v := (.int .u8 x13)) hHeld ?_ ?_
  · intro w9 hSw
    try dsimp only at hSw
    go_simp
  try simp only [pu]
  refine tk (i := 9) (oi := sgrR12o4) (v := (.int .i64 x13)) hHeld ?_ ?_
  · intro w9 hSw
    try dsimp only at hSw
    go_simp
  try simp only [pu]
  refine tk (i := 10) (oi := sgrR12o2) (v := (.int .i64 FL)) hHeld ?_ ?_
  · intro w9 hSw
    try dsimp only at hSw
    go_simp
    try exact hF
  try simp only [pu]
  refine tk (i := 11) (oi := sgrR12o0) (v := (.int .i64 H)) hHeld ?_ ?_
  · intro w9 hSw
    try dsimp only at hSw
    go_simp
  try simp only [pu]
  refine tk (i := 12) (oi := sgrR12o1) (v := (.int .i64 FL)) hHeld ?_ ?_
  · intro w9 hSw
    try dsimp only at hSw
    go_simp
  try simp only [pu]
  refine wpAnyH_done (by kernel_rfl) ?_ _
  refine NoPanic.normal ?_
  replace B1 := B1.drew
  replace B2 := B2.drew
  replace b2 := b2.drew
  clear hW1 hW2 y12 y13 d0 d14 hHeld hH hF wx12 wm12 wx13 wH i12 i13
  generalize W2.drew = W3 at *
  have hbz : (Instr.build 38 #[]).run Try.prog W3 = .ok (.agg (sRc 0 0 0 0 0 0 0 0 0 0 0 0 0 0 0 0 false 0 0 0 0 0 0 0 0 0 0 none 0 0)) W3 := by kernel_rfl
  have Bf := B2.set (sRc 0 0 0 0 0 0 0 0 0 0 0 0 0 0 0 0 false 0 0 0 0 0 0 0 0 0 0 none 0 0)
  have bf := below_setRow b2 (Nat.le_of_lt g1) (sRc 0 0 0 0 0 0 0 0 0 0 0 0 0 0 0 0 false 0 0 0 0 0 0 0 0 0 0 none 0 0)
  go_wp2_with (first
    | (refine wpList_build _ rfl _ _ rfl _ (by rfl) _ hbz ?_)
    | (refine wpList_store_row rfl _ _ _ rfl W1.heap.size (sRc 0 0 0 0 0 0 0 0 0 0 0 0 0 0 0 0 false 0 0 0 0 0 0 0 0 0 0 none 0 0) (by rfl) (by rfl) _ _ B2 (by kernel_rfl) (by rfl) (by kernel_rfl) ?_))
  exact ret_cell_tmp (k := 2) (j := 3) Try.f55 (by kernel_rfl) Bf Try.underlying38 (by kernel_rfl) (by rfl) (by rfl) rfl ⟨none, 0, rfl, fresh_nil bf⟩
set_option maxRecDepth 100000 in
set_option maxHeartbeats 4000000 in
theorem tcp_e4b (f sf sh sl df dh dl pr ho : Int) (fg : Bool) (id of : Int) (mo : Bool) (xa : Option Addr) (xn xc : Nat) (bk off dc : Nat) (l : List Int) (w : World) (h : Row w (some ⟨bk, off, none⟩) l) (hc : l.length ≤ dc) (hcm : dc ≤ 9223372036854775807) (hs : Ad.ok ⟨sf, sh, sl⟩) (hd : Ad.ok ⟨df, dh, dl⟩) (h20 : ¬ l.length < 20) (h4 : ¬ tcpH l < 20) (h5 : tcpH l > (l.length : Int)) :
    Calls Try.prog 55 #[.agg (sRa f sf sh sl df dh dl pr ho fg id of mo xa xn xc (some ⟨bk, off, none⟩) l.length dc)] w (GotS w 4 zSg) := by
  obtain ⟨W1, hW1⟩ : ∃ W1, w.alloc (.cells (sRa f sf sh sl df dh dl pr ho fg id of mo xa xn xc (some ⟨bk, off, none⟩) l.length dc) 64) = W1 := ⟨_, rfl⟩
  obtain ⟨W2, hW2⟩ : ∃ W2, W1.alloc (.cells (sRc 0 0 0 0 0 0 0 0 0 0 0 0 0 0 0 0 false 0 0 0 0 0 0 0 0 0 0 none 0 0) 38) = W2 := ⟨_, rfl⟩
  have b1 := bel_nw hW1
  have b2 := bel_al b1 hW2
  have B1' := blk_nw hW1
  have B1 := B1'.al hW2
  have B2 := blk_nw hW2
  have g1 : w.heap.size < W1.heap.size := B1'.lt
  clear B1'
  have d0 := B1.cell 0 (.int .i64 f) rfl
  have d14 := B1.cell 14 (.slice (some ⟨bk, off, none⟩) l.length dc) rfl
  have h20' : ¬ (l.length : Int) < 20 := by omega
  obtain ⟨x12, e12⟩ : ∃ x, l.getD 12 0 = x := ⟨_, rfl⟩
  obtain ⟨x13, e13⟩ : ∃ x, l.getD 13 0 = x := ⟨_, rfl⟩
  have q12 := h.bytes.get 12
  have q13 := h.bytes.get 13
  obtain ⟨bk', off', ee, hcl⟩ := h.cells (by omega)
  cases ee
  have y12 := kept (b := bk) (o := off + 12) b2 (hcl 12 (by omega))
  have y13 := kept (b := bk) (o := off + 13) b2 (hcl 13 (by omega))
  rw [e12] at y12 q12
  rw [e13] at y13 q13
  clear hcl
  have i12 : (12 : Int) < (l.length : Int) := by omega
  have i13 : (13 : Int) < (l.length : Int) := by omega
  have wx12 : IntKind.i64.wrap (x12 / 16) = x12 / 16 := wraps_i64 _ (by omega) (by omega)
  have wm12 : IntKind.i64.wrap (x12 / 16 * 4) = x12 / 16 * 4 := wraps_i64 _ (by omega) (by omega)
  have wx13 : IntKind.i64.wrap x13 = x13 := wraps_i64 _ (by omega) (by omega)
  obtain ⟨H, hH⟩ : ∃ H, x12 / 16 * 4 = H := ⟨_, rfl⟩
  obtain ⟨FL, hF⟩ : ∃ F, bits .and .i64 x13 63 = F := ⟨_, rfl⟩
  have wH : IntKind.i64.wrap H = H := by rw [← hH]; exact wm12
  have eH : tcpH l = H := by unfold tcpH; rw [e12, hH]
  have eF : tcpF l = FL := by unfold tcpF; rw [e13, hF]
  rw [eH] at h4 h5
  clear eH eF e12 e13
  go_enter Try.func55, Try.ntmps55
  go_wp2_with fail
  refine wp_region_noPanic ?_
  refine wp_region_held_drew (S := fun w' => w'.cell? ⟨bk, off + 12, none⟩ = some (.int .u8 x12) ∧ w'.cell? ⟨bk, off + 13, none⟩ = some (.int .u8 x13)) (by kernel_rfl) (by exact ⟨y12, y13⟩) (fun hHeld => ?_)
  refine tk (i := 0) (oi := sgrR12o12) (v := (.slice (some ⟨bk, off, none⟩) l.length dc)) hHeld ?_ ?_
  · intro w9 hSw
    try dsimp only at hSw
    go_simp
  try simp only [pu]
  refine tk (i := 1) (oi := sgrR12o8) (v := (.pointer (some ⟨bk, off + 12, none⟩))) hHeld ?_ ?_
  · intro w9 hSw
    try dsimp only at hSw
    go_simp
  try simp only [pu]
  refine tk (i := 2) (oi := sgrR12o11) (v := (.int .u8 x12)) hHeld ?_ ?_
  · intro w9 hSw
    try dsimp only at hSw
    go_simp
  try simp only [pu]
  refine tk (i := 3) (oi := sgrR12o6) (v := (.int .u8 (x12 / 16))) hHeld ?_ ?_
  · intro w9 hSw
    try dsimp only at hSw
    go_simp
  try simp only [pu]
  refine tk (i := 4) (oi := sgrR12o10) (v := (.int .i64 (x12 / 16))) hHeld ?_ ?_
  · intro w9 hSw
    try dsimp only at hSw
    go_simp
  try simp only [pu]
  refine tk (i := 5) (oi := sgrR12o7) (v := (.int .i64 H)) hHeld ?_ ?_
  · intro w9 hSw
    try dsimp only at hSw
    go_simp
    try exact hH
  try simp only [pu]
  refine tk (i := 6) (oi := sgrR12o9) (v := (.slice (some ⟨bk, off, none⟩) l.length dc)) hHeld ?_ ?_
  · intro w9 hSw
    try dsimp only at hSw
    go_simp
  try simp only [pu]
  refine tk (i := 7) (oi := sgrR12o3) (v := (.pointer (some ⟨bk, off + 13, none⟩))) hHeld ?_ ?_
  · intro w9 hSw
    try dsimp only at hSw
    go_simp
  try simp only [pu]
  refine tk (i := 8) (oi := sgrR12o5) (v := (.int .u8 x13)) hHeld ?_ ?_
  · intro w9 hSw
    try dsimp only at hSw
    go_simp
  try simp only [pu]
  refine tk (i := 9) (oi := sgrR12o4) (v := (.int .i64 x13)) hHeld ?_ ?_
  · intro w9 hSw
    try dsimp only at hSw
    go_simp
  try simp only [pu]
  refine tk (i := 10) (oi := sgrR12o2) (v := (.int .i64 FL)) hHeld ?_ ?_
  · intro w9 hSw
    try dsimp only at hSw
    go_simp
    try exact hF
  try simp only [pu]
  refine tk (i := 11) (oi := sgrR12o0) (v := (.int .i64 H)) hHeld ?_ ?_
  · intro w9 hSw
    try dsimp only at hSw
    go_simp
  try simp only [pu]
  refine tk (i := 12) (oi := sgrR12o1) (v := (.int .i64 FL)) hHeld ?_ ?_
  · intro w9 hSw
    try dsimp only at hSw
    go_simp
  try simp only [pu]
  refine wpAnyH_done (by kernel_rfl) ?_ _
  refine NoPanic.normal ?_
  replace B1 := B1.drew
  replace B2 := B2.drew
  replace b2 := b2.drew
  clear hW1 hW2 y12 y13 d0 d14 hHeld hH hF wx12 wm12 wx13 wH i12 i13
  generalize W2.drew = W3 at *
  have hbz : (Instr.build 38 #[]).run Try.prog W3 = .ok (.agg (sRc 0 0 0 0 0 0 0 0 0 0 0 0 0 0 0 0 false 0 0 0 0 0 0 0 0 0 0 none 0 0)) W3 := by kernel_rfl
  have Bf := B2.set (sRc 0 0 0 0 0 0 0 0 0 0 0 0 0 0 0 0 false 0 0 0 0 0 0 0 0 0 0 none 0 0)
  have bf := below_setRow b2 (Nat.le_of_lt g1) (sRc 0 0 0 0 0 0 0 0 0 0 0 0 0 0 0 0 false 0 0 0 0 0 0 0 0 0 0 none 0 0)
  go_wp2_with (first
    | (refine wpList_build _ rfl _ _ rfl _ (by rfl) _ hbz ?_)
    | (refine wpList_store_row rfl _ _ _ rfl W1.heap.size (sRc 0 0 0 0 0 0 0 0 0 0 0 0 0 0 0 0 false 0 0 0 0 0 0 0 0 0 0 none 0 0) (by rfl) (by rfl) _ _ B2 (by kernel_rfl) (by rfl) (by kernel_rfl) ?_))
  exact ret_cell_tmp (k := 2) (j := 3) Try.f55 (by kernel_rfl) Bf Try.underlying38 (by kernel_rfl) (by rfl) (by rfl) rfl ⟨none, 0, rfl, fresh_nil bf⟩
end Go.Proofs.Ytpjjkdgmfjhfiaa
