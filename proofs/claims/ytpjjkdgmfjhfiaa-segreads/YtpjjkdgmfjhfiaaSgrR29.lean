/- Texts joined: SgRq -/
import Derived.Test.YtpjjkdgmfjhfiaaSgrR28
namespace Go.Proofs.Ytpjjkdgmfjhfiaa
open Go.RowKit
set_option linter.unusedVariables false
set_option linter.unusedSimpArgs false
set_option maxRecDepth 100000 in
theorem and63u (x : Int) (h0 : 0 ≤ x) (h1 : x ≤ 255) : bits .and .u8 x 63 = bits .and .i64 x 63 ∧ 0 ≤ bits .and .i64 x 63 ∧ bits .and .i64 x 63 ≤ 63 := by
  obtain ⟨n, rfl⟩ := Int.eq_ofNat_of_zero_le h0
  have h : ∀ n : Nat, n < 256 → bits .and .u8 (n : Int) 63 = bits .and .i64 (n : Int) 63 ∧ 0 ≤ bits .and .i64 (n : Int) 63 ∧ bits .and .i64 (n : Int) 63 ≤ 63 := by decide
  exact h n (by omega)
set_option maxRecDepth 100000 in
set_option maxHeartbeats 4000000 in
theorem rtcp_e2 (f sf sh sl df dh dl ho : Int) (fg : Bool) (id of : Int) (mo : Bool) (xa : Option Addr) (xn xc : Nat) (da : Option Addr) (dc : Nat) (l : List Int) (w : World) (h : Row w da l) (hll : l.length ≤ 140737488351232) (hc : l.length ≤ dc) (hcm : dc ≤ 9223372036854775807) (hs : Ad.ok ⟨sf, sh, sl⟩) (hd : Ad.ok ⟨df, dh, dl⟩) (h8 : l.length < 20) :
    Calls Try.prog 34 #[.agg (sRa f sf sh sl df dh dl 6 ho fg id of mo xa xn xc da l.length dc), .agg (sRc f 6 sf sh sl df dh dl 0 0 0 0 0 0 0 0 false 0 0 0 0 0 0 0 0 0 0 none 0 0)] w (GotS w 2 ⟨⟨f, 6, ⟨sf, sh, sl⟩, ⟨df, dh, dl⟩, 0, 0⟩, 0, 0, 0, 0, 0, 0, false, zTp, []⟩) := by
  obtain ⟨W1, hW1⟩ : ∃ W1, w.alloc (.cells (sRa f sf sh sl df dh dl 6 ho fg id of mo xa xn xc da l.length dc) 36) = W1 := ⟨_, rfl⟩
  obtain ⟨W2, hW2⟩ : ∃ W2, W1.alloc (.cells (sRc f 6 sf sh sl df dh dl 0 0 0 0 0 0 0 0 false 0 0 0 0 0 0 0 0 0 0 none 0 0) 38) = W2 := ⟨_, rfl⟩
  obtain ⟨W3, hW3⟩ : ∃ W3, W2.alloc (.cells (sRc 0 0 0 0 0 0 0 0 0 0 0 0 0 0 0 0 false 0 0 0 0 0 0 0 0 0 0 none 0 0) 38) = W3 := ⟨_, rfl⟩
  have b1 := bel_nw hW1
  have b2 := bel_al b1 hW2
  have b3 := bel_al b2 hW3
  have P1 := blk_nw hW1
  have P2 := P1.al hW2
  have P3 := P2.al hW3
  have S2 := blk_nw hW2
  have S3 := S2.al hW3
  have R3 := blk_nw hW3
  have g1 : w.heap.size < W1.heap.size := P1.lt
  have g2 : W1.heap.size < W2.heap.size := S2.lt
  have d14 := P3.cell 14 (.slice da l.length dc) rfl
  clear P1 P2 S2 b1 b2
  have h8' : (l.length : Int) < 20 := by omega
  go_enter Try.func34, Try.ntmps34
  have Rf := R3.set (sRc f 6 sf sh sl df dh dl 0 0 0 0 0 0 0 0 false 0 0 0 0 0 0 0 0 0 0 none 0 0)
  have bf := below_setRow b3 (show w.heap.size ≤ W2.heap.size by omega) (sRc f 6 sf sh sl df dh dl 0 0 0 0 0 0 0 0 false 0 0 0 0 0 0 0 0 0 0 none 0 0)
  go_wp2_with (first
    | (refine wpList_load_row rfl _ _ rfl W1.heap.size (by rfl) _ _ _ _ S3 Try.underlying38 rfl (by kernel_rfl) ?_)
    | (refine wpList_store_row rfl _ _ _ rfl W2.heap.size (sRc f 6 sf sh sl df dh dl 0 0 0 0 0 0 0 0 false 0 0 0 0 0 0 0 0 0 0 none 0 0) (by rfl) (by rfl) _ _ R3 (by kernel_rfl) (by rfl) (by kernel_rfl) ?_))
  exact ret_cell_tmp (k := 4) (j := 5) Try.f34 (by kernel_rfl) Rf Try.underlying38 (by kernel_rfl) (by rfl) (by rfl) rfl ⟨none, 0, rfl, fresh_nil bf⟩
set_option maxRecDepth 100000 in
set_option maxHeartbeats 4000000 in
theorem rtcp_e4a (f sf sh sl df dh dl ho : Int) (fg : Bool) (id of : Int) (mo : Bool) (xa : Option Addr) (xn xc : Nat) (bk off dc : Nat) (l : List Int) (w : World) (h : Row w (some ⟨bk, off, none⟩) l) (hll : l.length ≤ 140737488351232) (hc : l.length ≤ dc) (hcm : dc ≤ 9223372036854775807) (hs : Ad.ok ⟨sf, sh, sl⟩) (hd : Ad.ok ⟨df, dh, dl⟩) (h20 : ¬ l.length < 20) (h4 : tcpH l < 20) :
    Calls Try.prog 34 #[.agg (sRa f sf sh sl df dh dl 6 ho fg id of mo xa xn xc (some ⟨bk, off, none⟩) l.length dc), .agg (sRc f 6 sf sh sl df dh dl 0 0 0 0 0 0 0 0 false 0 0 0 0 0 0 0 0 0 0 none 0 0)] w (GotS w 4 ⟨⟨f, 6, ⟨sf, sh, sl⟩, ⟨df, dh, dl⟩, 0, 0⟩, 0, 0, 0, 0, 0, 0, false, zTp, []⟩) := by
  obtain ⟨W1, hW1⟩ : ∃ W1, w.alloc (.cells (sRa f sf sh sl df dh dl 6 ho fg id of mo xa xn xc (some ⟨bk, off, none⟩) l.length dc) 36) = W1 := ⟨_, rfl⟩
  obtain ⟨W2, hW2⟩ : ∃ W2, W1.alloc (.cells (sRc f 6 sf sh sl df dh dl 0 0 0 0 0 0 0 0 false 0 0 0 0 0 0 0 0 0 0 none 0 0) 38) = W2 := ⟨_, rfl⟩
  obtain ⟨W3, hW3⟩ : ∃ W3, W2.alloc (.cells (sRc 0 0 0 0 0 0 0 0 0 0 0 0 0 0 0 0 false 0 0 0 0 0 0 0 0 0 0 none 0 0) 38) = W3 := ⟨_, rfl⟩
  have b1 := bel_nw hW1
  have b2 := bel_al b1 hW2
  have b3 := bel_al b2 hW3
  have P1 := blk_nw hW1
  have P2 := P1.al hW2
  have P3 := P2.al hW3
  have S2 := blk_nw hW2
  have S3 := S2.al hW3
  have R3 := blk_nw hW3
  have g1 : w.heap.size < W1.heap.size := P1.lt
  have g2 : W1.heap.size < W2.heap.size := S2.lt
  have d14 := P3.cell 14 (.slice (some ⟨bk, off, none⟩) l.length dc) rfl
  clear P1 P2 S2 b1 b2
  have h20' : ¬ (l.length : Int) < 20 := by omega
  obtain ⟨x12, e12⟩ : ∃ x, l.getD 12 0 = x := ⟨_, rfl⟩
  obtain ⟨x13, e13⟩ : ∃ x, l.getD 13 0 = x := ⟨_, rfl⟩
  have q12 := h.bytes.get 12
  have q13 := h.bytes.get 13
  obtain ⟨bk', off', ee, hcl⟩ := h.cells (by omega)
  cases ee
  have u12 := hcl 12 (by omega)
  have u13 := hcl 13 (by omega)
  rw [e12] at u12 q12
  rw [e13] at u13 q13
  have y12 := kept (b := bk) (o := off + 12) b3 u12
  have i12 : (12 : Int) < (l.length : Int) := by omega
  have i13 : (13 : Int) < (l.length : Int) := by omega
  have wx12 : IntKind.i64.wrap (x12 / 16) = x12 / 16 := wraps_i64 _ (by omega) (by omega)
  have wm12 : IntKind.i64.wrap (x12 / 16 * 4) = x12 / 16 * 4 := wraps_i64 _ (by omega) (by omega)
  obtain ⟨H, hH⟩ : ∃ H, x12 / 16 * 4 = H := ⟨_, rfl⟩
  have wH4 : IntKind.i64.wrap (x12 / 16 * 4) = H := by rw [hH] at wm12 ⊢; exact wm12
  have wH : IntKind.i64.wrap H = H := by rw [← hH]; exact wm12
  have eH : tcpH l = H := by unfold tcpH; rw [e12, hH]
  rw [eH] at h4
  clear eH e12 e13 hcl u12 u13
  go_enter Try.func34, Try.ntmps34
  have Rf := R3.set (sRc f 6 sf sh sl df dh dl 0 0 0 0 0 0 0 0 false 0 0 0 0 0 0 0 0 0 0 none 0 0)
  have bf := below_setRow b3 (show w.heap.size ≤ W2.heap.size by omega) (sRc f 6 sf sh sl df dh dl 0 0 0 0 0 0 0 0 false 0 0 0 0 0 0 0 0 0 0 none 0 0)
  go_wp2_with (first
    | (refine wpList_load_row rfl _ _ rfl W1.heap.size (by rfl) _ _ _ _ S3 Try.underlying38 rfl (by kernel_rfl) ?_)
    | (refine wpList_store_row rfl _ _ _ rfl W2.heap.size (sRc f 6 sf sh sl df dh dl 0 0 0 0 0 0 0 0 false 0 0 0 0 0 0 0 0 0 0 none 0 0) (by rfl) (by rfl) _ _ R3 (by kernel_rfl) (by rfl) (by kernel_rfl) ?_))
  exact ret_cell_tmp (k := 4) (j := 5) Try.f34 (by kernel_rfl) Rf Try.underlying38 (by kernel_rfl) (by rfl) (by rfl) rfl ⟨none, 0, rfl, fresh_nil bf⟩
set_option maxRecDepth 100000 in
set_option maxHeartbeats 4000000 in
theorem rtcp_e4b (f sf sh sl df dh dl ho : Int) (fg : Bool) (id of : Int) (mo : Bool) (xa : Option Addr) (xn xc : Nat) (bk off dc : Nat) (l : List Int) (w : World) (h : Row w (some ⟨bk, off, none⟩) l) (hll : l.length ≤ 140737488351232) (hc : l.length ≤ dc) (hcm : dc ≤ 9223372036854775807) (hs : Ad.ok ⟨sf, sh, sl⟩) (hd : Ad.ok ⟨df, dh, dl⟩) (h20 : ¬ l.length < 20) (h4 : ¬ tcpH l < 20) (h5 : tcpH l > (l.length : Int)) :
    Calls Try.prog 34 #[.agg (sRa f sf sh sl df dh dl 6 ho fg id of mo xa xn xc (some ⟨bk, off, none⟩) l.length dc), .agg (sRc f 6 sf sh sl df dh dl 0 0 0 0 0 0 0 0 false 0 0 0 0 0 0 0 0 0 0 none 0 0)] w (GotS w 4 ⟨⟨f, 6, ⟨sf, sh, sl⟩, ⟨df, dh, dl⟩, 0, 0⟩, 0, 0, 0, 0, 0, 0, false, zTp, []⟩) := by
  obtain ⟨W1, hW1⟩ : ∃ W1, w.alloc (.cells (sRa f sf sh sl df dh dl 6 ho fg id of mo xa xn xc (some ⟨bk, off, none⟩) l.length dc) 36) = W1 := ⟨_, rfl⟩
  obtain ⟨W2, hW2⟩ : ∃ W2, W1.alloc (.cells (sRc f 6 sf sh sl df dh dl 0 0 0 0 0 0 0 0 false 0 0 0 0 0 0 0 0 0 0 none 0 0) 38) = W2 := ⟨_, rfl⟩
  obtain ⟨W3, hW3⟩ : ∃ W3, W2.alloc (.cells (sRc 0 0 0 0 0 0 0 0 0 0 0 0 0 0 0 0 false 0 0 0 0 0 0 0 0 0 0 none 0 0) 38) = W3 := ⟨_, rfl⟩
  have b1 := bel_nw hW1
  have b2 := bel_al b1 hW2
  have b3 := bel_al b2 hW3
  have P1 := blk_nw hW1
  have P2 := P1.al hW2
  have P3 := P2.al hW3
  have S2 := blk_nw hW2
  have S3 := S2.al hW3
  have R3 := blk_nw hW3
  have g1 : w.heap.size < W1.heap.size := P1.lt
  have g2 : W1.heap.size < W2.heap.size := S2.lt
  have d14 := P3.cell 14 (.slice (some ⟨bk, off, none⟩) l.length dc) rfl
  clear P1 P2 S2 b1 b2
  have h20' : ¬ (l.length : Int) < 20 := by omega
  obtain ⟨x12, e12⟩ : ∃ x, l.getD 12 0 = x := ⟨_, rfl⟩
  obtain ⟨x13, e13⟩ : ∃ x, l.getD 13 0 = x := ⟨_, rfl⟩
  have q12 := h.bytes.get 12
  have q13 := h.bytes.get 13
  obtain ⟨bk', off', ee, hcl⟩ := h.cells (by omega)
  cases ee
  have u12 := hcl 12 (by omega)
  have u13 := hcl 13 (by omega)
  rw [e12] at u12 q12
  rw [e13] at u13 q13
  have y12 := kept (b := bk) (o := off + 12) b3 u12
  have i12 : (12 : Int) < (l.length : Int) := by omega
  have i13 : (13 : Int) < (l.length : Int) := by omega
  have wx12 : IntKind.i64.wrap (x12 / 16) = x12 / 16 := wraps_i64 _ (by omega) (by omega)
  have wm12 : IntKind.i64.wrap (x12 / 16 * 4) = x12 / 16 * 4 := wraps_i64 _ (by omega) (by omega)
  obtain ⟨H, hH⟩ : ∃ H, x12 / 16 * 4 = H := ⟨_, rfl⟩
  have wH4 : IntKind.i64.wrap (x12 / 16 * 4) = H := by rw [hH] at wm12 ⊢; exact wm12
  have wH : IntKind.i64.wrap H = H := by rw [← hH]; exact wm12
  have eH : tcpH l = H := by unfold tcpH; rw [e12, hH]
  rw [eH] at h4 h5
  clear eH e12 e13 hcl u12 u13
  go_enter Try.func34, Try.ntmps34
  have Rf := R3.set (sRc f 6 sf sh sl df dh dl 0 0 0 0 0 0 0 0 false 0 0 0 0 0 0 0 0 0 0 none 0 0)
  have bf := below_setRow b3 (show w.heap.size ≤ W2.heap.size by omega) (sRc f 6 sf sh sl df dh dl 0 0 0 0 0 0 0 0 false 0 0 0 0 0 0 0 0 0 0 none 0 0)
  go_wp2_with (first
    | (refine wpList_load_row rfl _ _ rfl W1.heap.size (by rfl) _ _ _ _ S3 Try.underlying38 rfl (by kernel_rfl) ?_)
    | (refine wpList_store_row rfl _ _ _ rfl W2.heap.size (sRc f 6 sf sh sl df dh dl 0 0 0 0 0 0 0 0 false 0 0 0 0 0 0 0 0 0 0 none 0 0) (by rfl) (by rfl) _ _ R3 (by kernel_rfl) (by rfl) (by kernel_rfl) ?_))
  exact ret_cell_tmp (k := 4) (j := 5) Try.f34 (by kernel_rfl) Rf Try.underlying38 (by kernel_rfl) (by rfl) (by rfl) rfl ⟨none, 0, rfl, fresh_nil bf⟩
set_option maxRecDepth 100000 in
set_option maxHeartbeats 4000000 in
theorem rtcp_e6 (f sf sh sl df dh dl ho : Int) (fg : Bool) (id of : Int) (mo : Bool) (xa : Option Addr) (xn xc : Nat) (bk off dc : Nat) (l : List Int) (w : World) (h : Row w (some ⟨bk, off, none⟩) l) (hll : l.length ≤ 140737488351232) (hc : l.length ≤ dc) (hcm : dc ≤ 9223372036854775807) (hs : Ad.ok ⟨sf, sh, sl⟩) (hd : Ad.ok ⟨df, dh, dl⟩) (h20 : ¬ l.length < 20) (h4 : ¬ tcpH l < 20) (h5 : ¬ tcpH l > (l.length : Int)) (hsum : sumsB ⟨sf, sh, sl⟩ ⟨df, dh, dl⟩ 6 l = false) :
    Calls Try.prog 34 #[.agg (sRa f sf sh sl df dh dl 6 ho fg id of mo xa xn xc (some ⟨bk, off, none⟩) l.length dc), .agg (sRc f 6 sf sh sl df dh dl 0 0 0 0 0 0 0 0 false 0 0 0 0 0 0 0 0 0 0 none 0 0)] w (GotS w 6 ⟨⟨f, 6, ⟨sf, sh, sl⟩, ⟨df, dh, dl⟩, 0, 0⟩, 0, 0, 0, 0, 0, 0, false, zTp, []⟩) := by
  obtain ⟨W1, hW1⟩ : ∃ W1, w.alloc (.cells (sRa f sf sh sl df dh dl 6 ho fg id of mo xa xn xc (some ⟨bk, off, none⟩) l.length dc) 36) = W1 := ⟨_, rfl⟩
  obtain ⟨W2, hW2⟩ : ∃ W2, W1.alloc (.cells (sRc f 6 sf sh sl df dh dl 0 0 0 0 0 0 0 0 false 0 0 0 0 0 0 0 0 0 0 none 0 0) 38) = W2 := ⟨_, rfl⟩
  obtain ⟨W3, hW3⟩ : ∃ W3, W2.alloc (.cells (sRc 0 0 0 0 0 0 0 0 0 0 0 0 0 0 0 0 false 0 0 0 0 0 0 0 0 0 0 none 0 0) 38) = W3 := ⟨_, rfl⟩
  have b1 := bel_nw hW1
  have b2 := bel_al b1 hW2
  have b3 := bel_al b2 hW3
  have P1 := blk_nw hW1
  have P2 := P1.al hW2
  have P3 := P2.al hW3
  have S2 := blk_nw hW2
  have S3 := S2.al hW3
  have R3 := blk_nw hW3
  have g1 : w.heap.size < W1.heap.size := P1.lt
  have g2 : W1.heap.size < W2.heap.size := S2.lt
  have d14 := P3.cell 14 (.slice (some ⟨bk, off, none⟩) l.length dc) rfl
  clear P1 P2 S2 b1 b2
  have h20' : ¬ (l.length : Int) < 20 := by omega
  obtain ⟨x12, e12⟩ : ∃ x, l.getD 12 0 = x := ⟨_, rfl⟩
  obtain ⟨x13, e13⟩ : ∃ x, l.getD 13 0 = x := ⟨_, rfl⟩
  have q12 := h.bytes.get 12
  have q13 := h.bytes.get 13
  obtain ⟨bk', off', ee, hcl⟩ := h.cells (by omega)
  cases ee
  have u12 := hcl 12 (by omega)
  have u13 := hcl 13 (by omega)
  rw [e12] at u12 q12
  rw [e13] at u13 q13
  have y12 := kept (b := bk) (o := off + 12) b3 u12
  have i12 : (12 : Int) < (l.length : Int) := by omega
  have i13 : (13 : Int) < (l.length : Int) := by omega
  have wx12 : IntKind.i64.wrap (x12 / 16) = x12 / 16 := wraps_i64 _ (by omega) (by omega)
  have wm12 : IntKind.i64.wrap (x12 / 16 * 4) = x12 / 16 * 4 := wraps_i64 _ (by omega) (by omega)
  obtain ⟨H, hH⟩ : ∃ H, x12 / 16 * 4 = H := ⟨_, rfl⟩
  have wH4 : IntKind.i64.wrap (x12 / 16 * 4) = H := by rw [hH] at wm12 ⊢; exact wm12
  have wH : IntKind.i64.wrap H = H := by rw [← hH]; exact wm12
  have eH : tcpH l = H := by unfold tcpH; rw [e12, hH]
  rw [eH] at h4 h5
  clear eH e12 e13 hcl u12 u13
  obtain ⟨L0, hL0⟩ : ∃ L, ahead ⟨sf, sh, sl⟩ ⟨df, dh, dl⟩ 6 l.length = L := ⟨_, rfl⟩
  obtain ⟨SM, hSM⟩ : ∃ s, M.sumOf [L0, l] = s := ⟨_, rfl⟩
  have KP : Hid (∀ W, Calls Try.prog 12 #[.agg #[.int .i64 sf, .int .u64 sh, .int .u64 sl], .agg #[.int .i64 df, .int .u64 dh, .int .u64 dl], .int .i64 6, .int .i64 (l.length : Int)] W fun e w' => ∃ a c, e = .returned (.slice a L0.length c) ∧ Fresh W w' a c L0) := fun W => by
    have := rpseudo_any sf sh sl df dh dl 6 (l.length : Int) W hs hd
    have e : pseudo ⟨sf, sh, sl⟩ ⟨df, dh, dl⟩ 6 (l.length : Int) = L0 := by
      rw [← hL0]
      unfold ahead
      rw [if_neg (by decide)]
    rw [e] at this
    exact this
  have hs65 : (SM != 65535) = true := by
    unfold sumsB at hsum
    rw [hL0, hSM] at hsum
    simp at hsum
    simpa using hsum
  have KC : Hid (∀ W a' c', Row W a' L0 → Row W (some ⟨bk, off, none⟩) l → Calls Try.prog 46 #[.slice (some ⟨W.heap.size, 0, none⟩) 2 2] (W.alloc (.cells #[.slice a' L0.length c', .slice (some ⟨bk, off, none⟩) l.length dc] 28)) fun e w' => e = .returned (.int .i64 SM) ∧ w' = W.alloc (.cells #[.slice a' L0.length c', .slice (some ⟨bk, off, none⟩) l.length dc] 28)) := fun W a' c' h1 h2 => by
    have := refsum_any (some ⟨W.heap.size, 0, none⟩) 2 [L0, l] _ (rowss_two W 28 W.heap.size rfl a' (some ⟨bk, off, none⟩) c' dc L0 l h1 h2)
    rw [hSM] at this
    exact this
  clear hL0 hSM hsum
  have d1 := P3.cell 1 (.int .i64 sf) rfl
  have d2 := P3.cell 2 (.int .u64 sh) rfl
  have d3 := P3.cell 3 (.int .u64 sl) rfl
  have d4 := P3.cell 4 (.int .i64 df) rfl
  have d5 := P3.cell 5 (.int .u64 dh) rfl
  have d6 := P3.cell 6 (.int .u64 dl) rfl
  go_enter Try.func34, Try.ntmps34
  go_wp2_with fail
  refine Calls.mono (KP.out _) ?_
  rintro e W4 ⟨a4, c4, rfl, f4⟩
  have b4 := bel_tr b3 f4.below
  have q4 := f4.row
  have S4 := S3.kept f4.below
  have R4 := R3.kept f4.below
  clear KP f4 S3 R3 P3 b3 d14 d1 d2 d3 d4 d5 d6 hW1 hW2 hW3
  go_wp2_with fail
  refine Calls.mono (KC.out _ _ _ q4 (h.below b4)) ?_
  rintro e W5 ⟨rfl, hW5⟩
  have b5 : Below w.heap.size w W5 := by rw [hW5]; exact b4.alloc b4.size _
  have S5 : Blk W5 W1.heap.size 38 (sRc f 6 sf sh sl df dh dl 0 0 0 0 0 0 0 0 false 0 0 0 0 0 0 0 0 0 0 none 0 0) := by rw [hW5]; exact S4.alloc _
  have R5 : Blk W5 W2.heap.size 38 (sRc 0 0 0 0 0 0 0 0 0 0 0 0 0 0 0 0 false 0 0 0 0 0 0 0 0 0 0 none 0 0) := by rw [hW5]; exact R4.alloc _
  clear KC hW5 S4 R4 q4 b4
  have Rf := R5.set (sRc f 6 sf sh sl df dh dl 0 0 0 0 0 0 0 0 false 0 0 0 0 0 0 0 0 0 0 none 0 0)
  have bf := below_setRow b5 (show w.heap.size ≤ W2.heap.size by omega) (sRc f 6 sf sh sl df dh dl 0 0 0 0 0 0 0 0 false 0 0 0 0 0 0 0 0 0 0 none 0 0)
  go_wp2_with (first
    | (refine wpList_load_row rfl _ _ rfl W1.heap.size (by rfl) _ _ _ _ S5 Try.underlying38 rfl (by kernel_rfl) ?_)
    | (refine wpList_store_row rfl _ _ _ rfl W2.heap.size (sRc f 6 sf sh sl df dh dl 0 0 0 0 0 0 0 0 false 0 0 0 0 0 0 0 0 0 0 none 0 0) (by rfl) (by rfl) _ _ R5 (by kernel_rfl) (by rfl) (by kernel_rfl) ?_))
  exact ret_cell_tmp (k := 4) (j := 5) Try.f34 (by kernel_rfl) Rf Try.underlying38 (by kernel_rfl) (by rfl) (by rfl) rfl ⟨none, 0, rfl, fresh_nil bf⟩
set_option maxRecDepth 100000 in
set_option maxHeartbeats 4000000 in
theorem rtcp_e10 (f sf sh sl df dh dl ho : Int) (fg : Bool) (id of : Int) (mo : Bool) (xa : Option Addr) (xn xc : Nat) (bk off dc : Nat) (l : List Int) (w : World) (h : Row w (some ⟨bk, off, none⟩) l) (hll : l.length ≤ 140737488351232) (hc : l.length ≤ dc) (hcm : dc ≤ 9223372036854775807) (hs : Ad.ok ⟨sf, sh, sl⟩) (hd : Ad.ok ⟨df, dh, dl⟩) (h20 : ¬ l.length < 20) (h4 : ¬ tcpH l < 20) (h5 : ¬ tcpH l > (l.length : Int)) (hsum : sumsB ⟨sf, sh, sl⟩ ⟨df, dh, dl⟩ 6 l = true) (hfl : flagsB (tcpF l) = false) :
    Calls Try.prog 34 #[.agg (sRa f sf sh sl df dh dl 6 ho fg id of mo xa xn xc (some ⟨bk, off, none⟩) l.length dc), .agg (sRc f 6 sf sh sl df dh dl 0 0 0 0 0 0 0 0 false 0 0 0 0 0 0 0 0 0 0 none 0 0)] w (GotS w 10 ⟨⟨f, 6, ⟨sf, sh, sl⟩, ⟨df, dh, dl⟩, 0, 0⟩, (tcpF l), 0, 0, 0, 0, 0, false, zTp, []⟩) := by
  obtain ⟨W1, hW1⟩ : ∃ W1, w.alloc (.cells (sRa f sf sh sl df dh dl 6 ho fg id of mo xa xn xc (some ⟨bk, off, none⟩) l.length dc) 36) = W1 := ⟨_, rfl⟩
  obtain ⟨W2, hW2⟩ : ∃ W2, W1.alloc (.cells (sRc f 6 sf sh sl df dh dl 0 0 0 0 0 0 0 0 false 0 0 0 0 0 0 0 0 0 0 none 0 0) 38) = W2 := ⟨_, rfl⟩
  obtain ⟨W3, hW3⟩ : ∃ W3, W2.alloc (.cells (sRc 0 0 0 0 0 0 0 0 0 0 0 0 0 0 0 0 false 0 0 0 0 0 0 0 0 0 0 none 0 0) 38) = W3 := ⟨_, rfl⟩
  have b1 := bel_nw hW1
  have b2 := bel_al b1 hW2
  have b3 := bel_al b2 hW3
  have P1 := blk_nw hW1
  have P2 := P1.al hW2
  have P3 := P2.al hW3
  have S2 := blk_nw hW2
  have S3 := S2.al hW3
  have R3 := blk_nw hW3
  have g1 : w.heap.size < W1.heap.size := P1.lt
  have g2 : W1.heap.size < W2.heap.size := S2.lt
  have d14 := P3.cell 14 (.slice (some ⟨bk, off, none⟩) l.length dc) rfl
  clear P1 P2 S2 b1 b2
  have h20' : ¬ (l.length : Int) < 20 := by omega
  obtain ⟨x12, e12⟩ : ∃ x, l.getD 12 0 = x := ⟨_, rfl⟩
  obtain ⟨x13, e13⟩ : ∃ x, l.getD 13 0 = x := ⟨_, rfl⟩
  have q12 := h.bytes.get 12
  have q13 := h.bytes.get 13
  obtain ⟨bk', off', ee, hcl⟩ := h.cells (by omega)
  cases ee
  have u12 := hcl 12 (by omega)
  have u13 := hcl 13 (by omega)
  rw [e12] at u12 q12
  rw [e13] at u13 q13
  have y12 := kept (b := bk) (o := off + 12) b3 u12
  have i12 : (12 : Int) < (l.length : Int) := by omega
  have i13 : (13 : Int) < (l.length : Int) := by omega
  have wx12 : IntKind.i64.wrap (x12 / 16) = x12 / 16 := wraps_i64 _ (by omega) (by omega)
  have wm12 : IntKind.i64.wrap (x12 / 16 * 4) = x12 / 16 * 4 := wraps_i64 _ (by omega) (by omega)
  obtain ⟨H, hH⟩ : ∃ H, x12 / 16 * 4 = H := ⟨_, rfl⟩
  have wH4 : IntKind.i64.wrap (x12 / 16 * 4) = H := by rw [hH] at wm12 ⊢; exact wm12
  have wH : IntKind.i64.wrap H = H := by rw [← hH]; exact wm12
  have eH : tcpH l = H := by unfold tcpH; rw [e12, hH]
  rw [eH] at h4 h5
  obtain ⟨FL, hF⟩ : ∃ F, bits .and .i64 x13 63 = F := ⟨_, rfl⟩
  have eF : tcpF l = FL := by unfold tcpF; rw [e13, hF]
  have a63 := and63u x13 q13.1 q13.2
  rw [hF] at a63
  have a63' : bits .and .u8 x13 63 = FL := a63.1
  have wFL : IntKind.i64.wrap FL = FL := wraps_i64 _ (by omega) (by omega)
  rw [eF] at hfl
  have KF : Hid (∀ W, Calls Try.prog 47 #[.int .i64 FL] W fun e w' => e = .returned (.bool false) ∧ w' = W) := fun W => by
    have := rFlags_any FL W
    rw [hfl] at this
    exact this
  rw [eF]
  clear eH eF hF e12 e13 hcl u12 a63 hfl
  obtain ⟨L0, hL0⟩ : ∃ L, ahead ⟨sf, sh, sl⟩ ⟨df, dh, dl⟩ 6 l.length = L := ⟨_, rfl⟩
  obtain ⟨SM, hSM⟩ : ∃ s, M.sumOf [L0, l] = s := ⟨_, rfl⟩
  have KP : Hid (∀ W, Calls Try.prog 12 #[.agg #[.int .i64 sf, .int .u64 sh, .int .u64 sl], .agg #[.int .i64 df, .int .u64 dh, .int .u64 dl], .int .i64 6, .int .i64 (l.length : Int)] W fun e w' => ∃ a c, e = .returned (.slice a L0.length c) ∧ Fresh W w' a c L0) := fun W => by
    have := rpseudo_any sf sh sl df dh dl 6 (l.length : Int) W hs hd
    have e : pseudo ⟨sf, sh, sl⟩ ⟨df, dh, dl⟩ 6 (l.length : Int) = L0 := by
      rw [← hL0]
      unfold ahead
      rw [if_neg (by decide)]
    rw [e] at this
    exact this
  have hs65 : (SM != 65535) = false := by
    unfold sumsB at hsum
    rw [hL0, hSM] at hsum
    simp at hsum
    simpa using hsum
  have KC : Hid (∀ W a' c', Row W a' L0 → Row W (some ⟨bk, off, none⟩) l → Calls Try.prog 46 #[.slice (some ⟨W.heap.size, 0, none⟩) 2 2] (W.alloc (.cells #[.slice a' L0.length c', .slice (some ⟨bk, off, none⟩) l.length dc] 28)) fun e w' => e = .returned (.int .i64 SM) ∧ w' = W.alloc (.cells #[.slice a' L0.length c', .slice (some ⟨bk, off, none⟩) l.length dc] 28)) := fun W a' c' h1 h2 => by
    have := refsum_any (some ⟨W.heap.size, 0, none⟩) 2 [L0, l] _ (rowss_two W 28 W.heap.size rfl a' (some ⟨bk, off, none⟩) c' dc L0 l h1 h2)
    rw [hSM] at this
    exact this
  clear hL0 hSM hsum
  have d1 := P3.cell 1 (.int .i64 sf) rfl
  have d2 := P3.cell 2 (.int .u64 sh) rfl
  have d3 := P3.cell 3 (.int .u64 sl) rfl
  have d4 := P3.cell 4 (.int .i64 df) rfl
  have d5 := P3.cell 5 (.int .u64 dh) rfl
  have d6 := P3.cell 6 (.int .u64 dl) rfl
  go_enter Try.func34, Try.ntmps34
  go_wp2_with fail
  refine Calls.mono (KP.out _) ?_
  rintro e W4 ⟨a4, c4, rfl, f4⟩
  have b4 := bel_tr b3 f4.below
  have q4 := f4.row
  have S4 := S3.kept f4.below
  have R4 := R3.kept f4.below
  clear KP f4 S3 R3 P3 b3 d14 d1 d2 d3 d4 d5 d6 hW1 hW2 hW3
  go_wp2_with fail
  refine Calls.mono (KC.out _ _ _ q4 (h.below b4)) ?_
  rintro e W5 ⟨rfl, hW5⟩
  have b5 : Below w.heap.size w W5 := by rw [hW5]; exact b4.alloc b4.size _
  have S5 : Blk W5 W1.heap.size 38 (sRc f 6 sf sh sl df dh dl 0 0 0 0 0 0 0 0 false 0 0 0 0 0 0 0 0 0 0 none 0 0) := by rw [hW5]; exact S4.alloc _
  have R5 : Blk W5 W2.heap.size 38 (sRc 0 0 0 0 0 0 0 0 0 0 0 0 0 0 0 0 false 0 0 0 0 0 0 0 0 0 0 none 0 0) := by rw [hW5]; exact R4.alloc _
  clear KC hW5 S4 R4 q4 b4
  have y13 := kept (b := bk) (o := off + 13) b5 u13
  have s10 := S5.cell 10 (.int .i64 0) rfl
  have z10 := S5.frozen 10
  have S6 : Blk (W5.setCell ⟨W1.heap.size, 10, none⟩ (.int .i64 FL)) W1.heap.size 38 (sRc f 6 sf sh sl df dh dl 0 0 FL 0 0 0 0 0 false 0 0 0 0 0 0 0 0 0 0 none 0 0) := S5.put 10 (.int .i64 FL)
  have R6 := R5.put_other S5 (show W2.heap.size ≠ W1.heap.size by omega) 10 (.int .i64 FL)
  have b6 := b5.setCell (p := ⟨W1.heap.size, 10, none⟩) (show w.heap.size ≤ W1.heap.size by omega) (.int .i64 FL)
  obtain ⟨W6, hW6⟩ : ∃ W, W5.setCell ⟨W1.heap.size, 10, none⟩ (.int .i64 FL) = W := ⟨_, rfl⟩
  rw [hW6] at S6 R6 b6
  have t10 := S6.cell 10 (.int .i64 FL) rfl
  go_wp2_with fail
  refine Calls.mono (KF.out _) ?_
  rintro e W7 ⟨rfl, hW7⟩
  rw [hW7]
  clear hW7 W7 KF hW6 S5 R5 b5 s10 z10 t10 y13
  have Rf := R6.set (sRc f 6 sf sh sl df dh dl 0 0 FL 0 0 0 0 0 false 0 0 0 0 0 0 0 0 0 0 none 0 0)
  have bf := below_setRow b6 (show w.heap.size ≤ W2.heap.size by omega) (sRc f 6 sf sh sl df dh dl 0 0 FL 0 0 0 0 0 false 0 0 0 0 0 0 0 0 0 0 none 0 0)
  go_wp2_with (first
    | (refine wpList_load_row rfl _ _ rfl W1.heap.size (by rfl) _ _ _ _ S6 Try.underlying38 rfl (by kernel_rfl) ?_)
    | (refine wpList_store_row rfl _ _ _ rfl W2.heap.size (sRc f 6 sf sh sl df dh dl 0 0 FL 0 0 0 0 0 false 0 0 0 0 0 0 0 0 0 0 none 0 0) (by rfl) (by rfl) _ _ R6 (by kernel_rfl) (by rfl) (by kernel_rfl) ?_))
  exact ret_cell_tmp (k := 4) (j := 5) Try.f34 (by kernel_rfl) Rf Try.underlying38 (by kernel_rfl) (by rfl) (by rfl) rfl ⟨none, 0, rfl, fresh_nil bf⟩
set_option maxRecDepth 100000 in
set_option maxHeartbeats 4000000 in
theorem rtcp_ok (f sf sh sl df dh dl ho : Int) (fg : Bool) (id of : Int) (mo : Bool) (xa : Option Addr) (xn xc : Nat) (bk off dc : Nat) (l : List Int) (w : World) (h : Row w (some ⟨bk, off, none⟩) l) (hll : l.length ≤ 140737488351232) (hc : l.length ≤ dc) (hcm : dc ≤ 9223372036854775807) (hs : Ad.ok ⟨sf, sh, sl⟩) (hd : Ad.ok ⟨df, dh, dl⟩) (h20 : ¬ l.length < 20) (h4 : ¬ tcpH l < 20) (h5 : ¬ tcpH l > (l.length : Int)) (hsum : sumsB ⟨sf, sh, sl⟩ ⟨df, dh, dl⟩ 6 l = true) (hfl : flagsB (tcpF l) = true) :
    Calls Try.prog 34 #[.agg (sRa f sf sh sl df dh dl 6 ho fg id of mo xa xn xc (some ⟨bk, off, none⟩) l.length dc), .agg (sRc f 6 sf sh sl df dh dl 0 0 0 0 0 0 0 0 false 0 0 0 0 0 0 0 0 0 0 none 0 0)] w (GotS w 0 ⟨⟨f, 6, ⟨sf, sh, sl⟩, ⟨df, dh, dl⟩, 0, 0⟩, (tcpF l), (u32v l 4), (u32v l 8), (u16v l 14), 0, 0, false, zTp, (l.drop (tcpH l).toNat)⟩) := by
  obtain ⟨W1, hW1⟩ : ∃ W1, w.alloc (.cells (sRa f sf sh sl df dh dl 6 ho fg id of mo xa xn xc (some ⟨bk, off, none⟩) l.length dc) 36) = W1 := ⟨_, rfl⟩
  obtain ⟨W2, hW2⟩ : ∃ W2, W1.alloc (.cells (sRc f 6 sf sh sl df dh dl 0 0 0 0 0 0 0 0 false 0 0 0 0 0 0 0 0 0 0 none 0 0) 38) = W2 := ⟨_, rfl⟩
  obtain ⟨W3, hW3⟩ : ∃ W3, W2.alloc (.cells (sRc 0 0 0 0 0 0 0 0 0 0 0 0 0 0 0 0 false 0 0 0 0 0 0 0 0 0 0 none 0 0) 38) = W3 := ⟨_, rfl⟩
  have b1 := bel_nw hW1
  have b2 := bel_al b1 hW2
  have b3 := bel_al b2 hW3
  have P1 := blk_nw hW1
  have P2 := P1.al hW2
  have P3 := P2.al hW3
  have S2 := blk_nw hW2
  have S3 := S2.al hW3
  have R3 := blk_nw hW3
  have g1 : w.heap.size < W1.heap.size := P1.lt
  have g2 : W1.heap.size < W2.heap.size := S2.lt
  have d14 := P3.cell 14 (.slice (some ⟨bk, off, none⟩) l.length dc) rfl
  clear P1 P2 S2 b1 b2
  have h20' : ¬ (l.length : Int) < 20 := by omega
  obtain ⟨x12, e12⟩ : ∃ x, l.getD 12 0 = x := ⟨_, rfl⟩
  obtain ⟨x13, e13⟩ : ∃ x, l.getD 13 0 = x := ⟨_, rfl⟩
  have q12 := h.bytes.get 12
  have q13 := h.bytes.get 13
  obtain ⟨bk', off', ee, hcl⟩ := h.cells (by omega)
  cases ee
  have u12 := hcl 12 (by omega)
  have u13 := hcl 13 (by omega)
  rw [e12] at u12 q12
  rw [e13] at u13 q13
  have y12 := kept (b := bk) (o := off + 12) b3 u12
  have i12 : (12 : Int) < (l.length : Int) := by omega
  have i13 : (13 : Int) < (l.length : Int) := by omega
  have wx12 : IntKind.i64.wrap (x12 / 16) = x12 / 16 := wraps_i64 _ (by omega) (by omega)
  have wm12 : IntKind.i64.wrap (x12 / 16 * 4) = x12 / 16 * 4 := wraps_i64 _ (by omega) (by omega)
  obtain ⟨H, hH⟩ : ∃ H, x12 / 16 * 4 = H := ⟨_, rfl⟩
  have wH4 : IntKind.i64.wrap (x12 / 16 * 4) = H := by rw [hH] at wm12 ⊢; exact wm12
  have wH : IntKind.i64.wrap H = H := by rw [← hH]; exact wm12
  have eH : tcpH l = H := by unfold tcpH; rw [e12, hH]
  rw [eH] at h4 h5
  obtain ⟨FL, hF⟩ : ∃ F, bits .and .i64 x13 63 = F := ⟨_, rfl⟩
  have eF : tcpF l = FL := by unfold tcpF; rw [e13, hF]
  have a63 := and63u x13 q13.1 q13.2
  rw [hF] at a63
  have a63' : bits .and .u8 x13 63 = FL := a63.1
  have wFL : IntKind.i64.wrap FL = FL := wraps_i64 _ (by omega) (by omega)
  rw [eF] at hfl
  have KF : Hid (∀ W, Calls Try.prog 47 #[.int .i64 FL] W fun e w' => e = .returned (.bool true) ∧ w' = W) := fun W => by
    have := rFlags_any FL W
    rw [hfl] at this
    exact this
  obtain ⟨sq, h_sq⟩ : ∃ x, u32v l 4 = x := ⟨_, rfl⟩
  obtain ⟨y4, h_y4⟩ : ∃ x, liesB l.length 4 4 = x := ⟨_, rfl⟩
  have K4 : Hid (∀ W, Row W (some ⟨bk, off, none⟩) l → Calls Try.prog 59 #[.slice (some ⟨bk, off, none⟩) l.length dc, .int .i64 4] W fun e w' => e = .returned (.tuple #[.int .u32 sq, .bool y4]) ∧ Below W.heap.size W w') := fun W hW => by
    have := ru32_any (some ⟨bk, off, none⟩) dc l 4 W hW (fun e => by cases e) hll hc hcm (by decide)
    rw [h_sq, h_y4] at this
    exact this
  obtain ⟨ak, h_ak⟩ : ∃ x, u32v l 8 = x := ⟨_, rfl⟩
  obtain ⟨y8, h_y8⟩ : ∃ x, liesB l.length 8 4 = x := ⟨_, rfl⟩
  have K8 : Hid (∀ W, Row W (some ⟨bk, off, none⟩) l → Calls Try.prog 59 #[.slice (some ⟨bk, off, none⟩) l.length dc, .int .i64 8] W fun e w' => e = .returned (.tuple #[.int .u32 ak, .bool y8]) ∧ Below W.heap.size W w') := fun W hW => by
    have := ru32_any (some ⟨bk, off, none⟩) dc l 8 W hW (fun e => by cases e) hll hc hcm (by decide)
    rw [h_ak, h_y8] at this
    exact this
  obtain ⟨wn, h_wn⟩ : ∃ x, u16v l 14 = x := ⟨_, rfl⟩
  obtain ⟨y14, h_y14⟩ : ∃ x, liesB l.length 14 2 = x := ⟨_, rfl⟩
  have K14 : Hid (∀ W, Row W (some ⟨bk, off, none⟩) l → Calls Try.prog 60 #[.slice (some ⟨bk, off, none⟩) l.length dc, .int .i64 14] W fun e w' => e = .returned (.tuple #[.int .i64 wn, .bool y14]) ∧ Below W.heap.size W w') := fun W hW => by
    have := ru16_any (some ⟨bk, off, none⟩) dc l 14 W hW (fun e => by cases e) hll hc hcm (by decide)
    rw [h_wn, h_y14] at this
    exact this
  rw [eF, eH, h_sq, h_ak, h_wn]
  obtain ⟨hh, hHn⟩ := Int.eq_ofNat_of_zero_le (show 0 ≤ H by omega)
  subst hHn
  have n20 : 20 ≤ hh := by omega
  have nhl : hh ≤ l.length := by omega
  have jh1 : (0 : Int) ≤ (hh : Int) := by omega
  have jh2 : (hh : Int) ≤ (l.length : Int) := by omega
  obtain ⟨a3, ha3⟩ : ∃ a3 : Option Addr, (if dc = hh then (some ⟨bk, off, none⟩) else Option.map (fun x : Addr => x.add hh) (some ⟨bk, off, none⟩)) = a3 := ⟨_, rfl⟩
  have H3 : Hid ((if dc = hh then some (⟨bk, off, none⟩ : Addr) else some ⟨bk, off + hh, none⟩) = a3) := by
    have : (if dc = hh then some (⟨bk, off, none⟩ : Addr) else some ⟨bk, off + hh, none⟩) = a3 := by
      rw [← ha3]
      simp [Go.WideShapes.add_plain]
    exact this
  have h3' : (if dc = hh then some (⟨bk, off, none⟩ : Addr) else some ⟨bk, off + hh, none⟩) = a3 := H3.out
  obtain ⟨c3, hc3⟩ : ∃ c3, dc - hh = c3 := ⟨_, rfl⟩
  have hn3 : a3 = none → c3 = 0 := fun e => by
    rw [e] at ha3
    split at ha3
    · cases ha3
    · cases ha3
  obtain ⟨D, hD⟩ : ∃ D, l.drop hh = D := ⟨_, rfl⟩
  have lD : D.length = l.length - hh := by rw [← hD, List.length_drop]
  have HRD : Hid (∀ W, Row W (some ⟨bk, off, none⟩) l → Row W a3 D) := fun W hW => by
    have hr := hW.drop dc hh hc
    rw [ha3, hD] at hr
    exact hr
  have HlD : Hid (D.length = l.length - hh ∧ dc - hh = c3) := ⟨lD, hc3⟩
  rw [Int.toNat_natCast, hD]
  clear eH eF hF e12 e13 hcl u12 a63 hfl h_sq h_ak h_wn h_y4 h_y8 h_y14 ha3 hD lD hc3
  obtain ⟨L0, hL0⟩ : ∃ L, ahead ⟨sf, sh, sl⟩ ⟨df, dh, dl⟩ 6 l.length = L := ⟨_, rfl⟩
  obtain ⟨SM, hSM⟩ : ∃ s, M.sumOf [L0, l] = s := ⟨_, rfl⟩
  have KP : Hid (∀ W, Calls Try.prog 12 #[.agg #[.int .i64 sf, .int .u64 sh, .int .u64 sl], .agg #[.int .i64 df, .int .u64 dh, .int .u64 dl], .int .i64 6, .int .i64 (l.length : Int)] W fun e w' => ∃ a c, e = .returned (.slice a L0.length c) ∧ Fresh W w' a c L0) := fun W => by
    have := rpseudo_any sf sh sl df dh dl 6 (l.length : Int) W hs hd
    have e : pseudo ⟨sf, sh, sl⟩ ⟨df, dh, dl⟩ 6 (l.length : Int) = L0 := by
      rw [← hL0]
      unfold ahead
      rw [if_neg (by decide)]
    rw [e] at this
    exact this
  have hs65 : (SM != 65535) = false := by
    unfold sumsB at hsum
    rw [hL0, hSM] at hsum
    simp at hsum
    simpa using hsum
  have KC : Hid (∀ W a' c', Row W a' L0 → Row W (some ⟨bk, off, none⟩) l → Calls Try.prog 46 #[.slice (some ⟨W.heap.size, 0, none⟩) 2 2] (W.alloc (.cells #[.slice a' L0.length c', .slice (some ⟨bk, off, none⟩) l.length dc] 28)) fun e w' => e = .returned (.int .i64 SM) ∧ w' = W.alloc (.cells #[.slice a' L0.length c', .slice (some ⟨bk, off, none⟩) l.length dc] 28)) := fun W a' c' h1 h2 => by
    have := refsum_any (some ⟨W.heap.size, 0, none⟩) 2 [L0, l] _ (rowss_two W 28 W.heap.size rfl a' (some ⟨bk, off, none⟩) c' dc L0 l h1 h2)
    rw [hSM] at this
    exact this
  clear hL0 hSM hsum
  have d1 := P3.cell 1 (.int .i64 sf) rfl
  have d2 := P3.cell 2 (.int .u64 sh) rfl
  have d3 := P3.cell 3 (.int .u64 sl) rfl
  have d4 := P3.cell 4 (.int .i64 df) rfl
  have d5 := P3.cell 5 (.int .u64 dh) rfl
  have d6 := P3.cell 6 (.int .u64 dl) rfl
  go_enter Try.func34, Try.ntmps34
  go_wp2_with fail
  refine Calls.mono (KP.out _) ?_
  rintro e W4 ⟨a4, c4, rfl, f4⟩
  have b4 := bel_tr b3 f4.below
  have q4 := f4.row
  have S4 := S3.kept f4.below
  have R4 := R3.kept f4.below
  clear KP f4 S3 R3 P3 b3 d14 d1 d2 d3 d4 d5 d6 hW1 hW2 hW3
  go_wp2_with fail
  refine Calls.mono (KC.out _ _ _ q4 (h.below b4)) ?_
  rintro e W5 ⟨rfl, hW5⟩
  have b5 : Below w.heap.size w W5 := by rw [hW5]; exact b4.alloc b4.size _
  have S5 : Blk W5 W1.heap.size 38 (sRc f 6 sf sh sl df dh dl 0 0 0 0 0 0 0 0 false 0 0 0 0 0 0 0 0 0 0 none 0 0) := by rw [hW5]; exact S4.alloc _
  have R5 : Blk W5 W2.heap.size 38 (sRc 0 0 0 0 0 0 0 0 0 0 0 0 0 0 0 0 false 0 0 0 0 0 0 0 0 0 0 none 0 0) := by rw [hW5]; exact R4.alloc _
  clear KC hW5 S4 R4 q4 b4
  have y13 := kept (b := bk) (o := off + 13) b5 u13
  have s10 := S5.cell 10 (.int .i64 0) rfl
  have z10 := S5.frozen 10
  have S6 : Blk (W5.setCell ⟨W1.heap.size, 10, none⟩ (.int .i64 FL)) W1.heap.size 38 (sRc f 6 sf sh sl df dh dl 0 0 FL 0 0 0 0 0 false 0 0 0 0 0 0 0 0 0 0 none 0 0) := S5.put 10 (.int .i64 FL)
  have R6 := R5.put_other S5 (show W2.heap.size ≠ W1.heap.size by omega) 10 (.int .i64 FL)
  have b6 := b5.setCell (p := ⟨W1.heap.size, 10, none⟩) (show w.heap.size ≤ W1.heap.size by omega) (.int .i64 FL)
  obtain ⟨W6, hW6⟩ : ∃ W, W5.setCell ⟨W1.heap.size, 10, none⟩ (.int .i64 FL) = W := ⟨_, rfl⟩
  rw [hW6] at S6 R6 b6
  have t10 := S6.cell 10 (.int .i64 FL) rfl
  go_wp2_with fail
  refine Calls.mono (KF.out _) ?_
  rintro e W7 ⟨rfl, hW7⟩
  rw [hW7]
  clear hW7 W7 KF hW6 S5 R5 b5 s10 z10 t10 y13
  go_wp2_with fail
  refine Calls.mono (K4.out _ (h.below b6)) ?_
  rintro e W8a ⟨rfl, bb⟩
  have S8a := S6.kept bb
  have R8a := R6.kept bb
  have b8a := bel_tr b6 bb
  clear K4 bb S6 R6 b6
  have s_8 := S8a.cell 11 (.int .u32 0) rfl
  have z_8 := S8a.frozen 11
  have S8 : Blk (W8a.setCell ⟨W1.heap.size, 11, none⟩ (.int .u32 sq)) W1.heap.size 38 (sRc f 6 sf sh sl df dh dl 0 0 FL sq 0 0 0 0 false 0 0 0 0 0 0 0 0 0 0 none 0 0) := S8a.put 11 (.int .u32 sq)
  have R8 := R8a.put_other S8a (show W2.heap.size ≠ W1.heap.size by omega) 11 (.int .u32 sq)
  have b8 := b8a.setCell (p := ⟨W1.heap.size, 11, none⟩) (show w.heap.size ≤ W1.heap.size by omega) (.int .u32 sq)
  obtain ⟨W8, hW8⟩ : ∃ W, W8a.setCell ⟨W1.heap.size, 11, none⟩ (.int .u32 sq) = W := ⟨_, rfl⟩
  rw [hW8] at S8 R8 b8
  clear S8a R8a b8a
  go_wp2_with fail
  refine Calls.mono (K8.out _ (h.below b8)) ?_
  rintro e W9a ⟨rfl, bb⟩
  have S9a := S8.kept bb
  have R9a := R8.kept bb
  have b9a := bel_tr b8 bb
  clear K8 bb S8 R8 b8
  have s_9 := S9a.cell 12 (.int .u32 0) rfl
  have z_9 := S9a.frozen 12
  have S9 : Blk (W9a.setCell ⟨W1.heap.size, 12, none⟩ (.int .u32 ak)) W1.heap.size 38 (sRc f 6 sf sh sl df dh dl 0 0 FL sq ak 0 0 0 false 0 0 0 0 0 0 0 0 0 0 none 0 0) := S9a.put 12 (.int .u32 ak)
  have R9 := R9a.put_other S9a (show W2.heap.size ≠ W1.heap.size by omega) 12 (.int .u32 ak)
  have b9 := b9a.setCell (p := ⟨W1.heap.size, 12, none⟩) (show w.heap.size ≤ W1.heap.size by omega) (.int .u32 ak)
  obtain ⟨W9, hW9⟩ : ∃ W, W9a.setCell ⟨W1.heap.size, 12, none⟩ (.int .u32 ak) = W := ⟨_, rfl⟩
  rw [hW9] at S9 R9 b9
  clear S9a R9a b9a
  go_wp2_with fail
  refine Calls.mono (K14.out _ (h.below b9)) ?_
  rintro e W10a ⟨rfl, bb⟩
  have S10a := S9.kept bb
  have R10a := R9.kept bb
  have b10a := bel_tr b9 bb
  clear K14 bb S9 R9 b9
  have s_10 := S10a.cell 13 (.int .i64 0) rfl
  have z_10 := S10a.frozen 13
  have S10 : Blk (W10a.setCell ⟨W1.heap.size, 13, none⟩ (.int .i64 wn)) W1.heap.size 38 (sRc f 6 sf sh sl df dh dl 0 0 FL sq ak wn 0 0 false 0 0 0 0 0 0 0 0 0 0 none 0 0) := S10a.put 13 (.int .i64 wn)
  have R10 := R10a.put_other S10a (show W2.heap.size ≠ W1.heap.size by omega) 13 (.int .i64 wn)
  have b10 := b10a.setCell (p := ⟨W1.heap.size, 13, none⟩) (show w.heap.size ≤ W1.heap.size by omega) (.int .i64 wn)
  obtain ⟨W10, hW10⟩ : ∃ W, W10a.setCell ⟨W1.heap.size, 13, none⟩ (.int .i64 wn) = W := ⟨_, rfl⟩
  rw [hW10] at S10 R10 b10
  clear S10a R10a b10a
  have rD := HRD.out _ (h.below b10)
  go_wp2_with (at_builtin; refine wpList_app2 _ rfl _ _ rfl W10.heap.size _ [] rfl (Owns.nil _ _) M.Bytes.nil a3 c3 D ?appV rD hn3 D rfl ?appC (Nat.le_refl _) ?_)
  case appV => (obtain ⟨q1, q2⟩ := HlD.out; rw [q1, ← q2, ← H3.out]; try rfl)
  case appC => exact rD.small
  intro aD cD W11a OD rmD nlD rwD bb _
  have S11a := S10.kept bb
  have R11a := R10.kept bb
  have b11a := bel_tr b10 bb
  have lt11 : W2.heap.size < W10.heap.size := R10.lt
  have OD' := owns_le (B' := W2.heap.size + 1) lt11 OD
  clear bb S10 R10 b10 OD
  have s_11 := S11a.cell 27 (.slice none 0 0) rfl
  have z_11 := S11a.frozen 27
  have S11 : Blk (W11a.setCell ⟨W1.heap.size, 27, none⟩ (.slice aD D.length cD)) W1.heap.size 38 (sRc f 6 sf sh sl df dh dl 0 0 FL sq ak wn 0 0 false 0 0 0 0 0 0 0 0 0 0 aD D.length cD) := S11a.put 27 (.slice aD D.length cD)
  have R11 := R11a.put_other S11a (show W2.heap.size ≠ W1.heap.size by omega) 27 (.slice aD D.length cD)
  have O11 := OD'.blk_put S11a (by decide) 27 (.slice aD D.length cD)
  have b11 := b11a.setCell (p := ⟨W1.heap.size, 27, none⟩) (show w.heap.size ≤ W1.heap.size by omega) (.slice aD D.length cD)
  obtain ⟨W11, hW11⟩ : ∃ W, W11a.setCell ⟨W1.heap.size, 27, none⟩ (.slice aD D.length cD) = W := ⟨_, rfl⟩
  rw [hW11] at S11 R11 b11 O11
  clear S11a R11a b11a OD'
  have Rf := R11.set (sRc f 6 sf sh sl df dh dl 0 0 FL sq ak wn 0 0 false 0 0 0 0 0 0 0 0 0 0 aD D.length cD)
  have bf := below_setRow b11 (show w.heap.size ≤ W2.heap.size by omega) (sRc f 6 sf sh sl df dh dl 0 0 FL sq ak wn 0 0 false 0 0 0 0 0 0 0 0 0 0 aD D.length cD)
  have Of := O11.blk_other R11 (by decide) (sRc f 6 sf sh sl df dh dl 0 0 FL sq ak wn 0 0 false 0 0 0 0 0 0 0 0 0 0 aD D.length cD)
  go_wp2_with (first
    | (refine wpList_load_row rfl _ _ rfl W1.heap.size (by rfl) _ _ _ _ S11 Try.underlying38 rfl (by kernel_rfl) ?_)
    | (refine wpList_store_row rfl _ _ _ rfl W2.heap.size (sRc f 6 sf sh sl df dh dl 0 0 FL sq ak wn 0 0 false 0 0 0 0 0 0 0 0 0 0 aD D.length cD) (by rfl) (by rfl) _ _ R11 (by kernel_rfl) (by rfl) (by kernel_rfl) ?_))
  refine ret_cell_tmp (k := 4) (j := 5) Try.f34 (by kernel_rfl) Rf Try.underlying38 (by kernel_rfl) (by rfl) (by rfl) rfl ?_
  exact ⟨aD, cD, rfl, owns_le (by omega) Of, rmD, nlD, Of.row rwD.small rwD.bytes, bf⟩
theorem rtcp_any (f sf sh sl df dh dl ho : Int) (fg : Bool) (id of : Int) (mo : Bool) (xa : Option Addr) (xn xc : Nat) (bk off dc : Nat) (l : List Int) (w : World) (h : Row w (some ⟨bk, off, none⟩) l) (hll : l.length ≤ 140737488351232) (hc : l.length ≤ dc) (hcm : dc ≤ 9223372036854775807) (hs : Ad.ok ⟨sf, sh, sl⟩) (hd : Ad.ok ⟨df, dh, dl⟩) (h20 : ¬ l.length < 20) :
    ∃ Y : Sg, Calls Try.prog 34 #[.agg (sRa f sf sh sl df dh dl 6 ho fg id of mo xa xn xc (some ⟨bk, off, none⟩) l.length dc), .agg (sRc f 6 sf sh sl df dh dl 0 0 0 0 0 0 0 0 false 0 0 0 0 0 0 0 0 0 0 none 0 0)] w (GotS w (tcpE f 6 ⟨sf, sh, sl⟩ ⟨df, dh, dl⟩ l) Y) ∧ (tcpE f 6 ⟨sf, sh, sl⟩ ⟨df, dh, dl⟩ l = 0 → Y = ⟨⟨f, 6, ⟨sf, sh, sl⟩, ⟨df, dh, dl⟩, 0, 0⟩, (tcpF l), (u32v l 4), (u32v l 8), (u16v l 14), 0, 0, false, zTp, (l.drop (tcpH l).toNat)⟩) := by
  obtain ⟨E, hE⟩ : ∃ E, tcpE f 6 ⟨sf, sh, sl⟩ ⟨df, dh, dl⟩ l = E := ⟨_, rfl⟩
  rw [hE]
  unfold tcpE at hE
  rw [if_neg h20] at hE
  split at hE
  · rename_i h5
    subst hE
    by_cases h4 : tcpH l < 20
    · exact ⟨_, rtcp_e4a f sf sh sl df dh dl ho fg id of mo xa xn xc bk off dc l w h hll hc hcm hs hd h20 h4, fun e => by cases e⟩
    · exact ⟨_, rtcp_e4b f sf sh sl df dh dl ho fg id of mo xa xn xc bk off dc l w h hll hc hcm hs hd h20 h4 (by omega), fun e => by cases e⟩
  rename_i h5
  have h4 : ¬ tcpH l < 20 := by omega
  have h6 : ¬ tcpH l > (l.length : Int) := by omega
  split at hE
  · rename_i hsum
    subst hE
    exact ⟨_, rtcp_e6 f sf sh sl df dh dl ho fg id of mo xa xn xc bk off dc l w h hll hc hcm hs hd h20 h4 h6 hsum, fun e => by cases e⟩
  rename_i hsum
  have hsum : sumsB ⟨sf, sh, sl⟩ ⟨df, dh, dl⟩ 6 l = true := by simpa using hsum
  split at hE
  · rename_i hfl
    subst hE
    exact ⟨_, rtcp_e10 f sf sh sl df dh dl ho fg id of mo xa xn xc bk off dc l w h hll hc hcm hs hd h20 h4 h6 hsum hfl, fun e => by cases e⟩
  · rename_i hfl
    subst hE
    exact ⟨_, rtcp_ok f sf sh sl df dh dl ho fg id of mo xa xn xc bk off dc l w h hll hc hcm hs hd h20 h4 h6 hsum (by simpa using hfl), fun _ => rfl⟩
end Go.Proofs.Ytpjjkdgmfjhfiaa
