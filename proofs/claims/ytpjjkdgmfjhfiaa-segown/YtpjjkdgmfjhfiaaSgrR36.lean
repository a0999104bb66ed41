/- Texts joined: SgRne SgRnf Ip6R -/
import Derived.Test.YtpjjkdgmfjhfiaaSgrR35
namespace Go.Proofs.Ytpjjkdgmfjhfiaa
open Go.RowKit
set_option linter.unusedVariables false
set_option linter.unusedSimpArgs false
set_option maxRecDepth 100000 in
set_option maxHeartbeats 4000000 in
theorem rinner_4f (f : Int) (bk off dc : Nat) (b : List Int) (w : World) (h : Row w (some ⟨bk, off, none⟩) b) (hll : b.length ≤ 140737488351232) (hc : b.length ≤ dc) (hcm : dc ≤ 9223372036854775807) (hf : f = 4) (hge : ¬ b.length < 20) (hv : b.getD 0 0 / 16 = f) (h4 : ¬ b.getD 0 0 % 16 * 4 < 20) (h5 : ¬ b.getD 0 0 % 16 * 4 > (b.length : Int)) (h6 : ¬ (b.length : Int) - b.getD 0 0 % 16 * 4 < 8) :
    Calls Try.prog 61 #[.int .i64 f, .slice (some ⟨bk, off, none⟩) b.length dc] w fun e w' => e = .returned (.tuple #[.agg (tpv ((inner f b).getD zTp)), .bool (inner f b).isSome]) ∧ Below w.heap.size w w' := by
  obtain ⟨W1, hW1⟩ : ∃ W1, w.alloc (.cells (sRb 0 0 0 0 0 0 0 0 0 0) 26) = W1 := ⟨_, rfl⟩
  have b1 := bel_nw hW1
  have A1 := blk_nw hW1
  have g1 : w.heap.size < W1.heap.size := A1.lt
  obtain ⟨W2, hW2⟩ : ∃ W2, W1.alloc (.cells (sRb 0 0 0 0 0 0 0 0 0 0) 26) = W2 := ⟨_, rfl⟩
  have b2 := bel_al b1 hW2
  have A2 := A1.al hW2
  have V2 := blk_nw hW2
  have b3 := below_setRow b2 (Nat.le_of_lt g1) (sRb f 0 0 0 0 0 0 0 0 0)
  have A3 := A2.other (show w.heap.size ≠ W1.heap.size by omega) (sRb f 0 0 0 0 0 0 0 0 0)
  have V3 := V2.set (sRb f 0 0 0 0 0 0 0 0 0)
  obtain ⟨W3, hW3⟩ : ∃ W, W2.setRow W1.heap.size (sRb f 0 0 0 0 0 0 0 0 0) = W := ⟨_, rfl⟩
  rw [hW3] at b3 A3 V3
  have HW3 : Hid _ := hW3
  have hb0 : (Instr.build 26 #[(0, .int .i64 f)]).run Try.prog W1 = .ok (.agg (sRb f 0 0 0 0 0 0 0 0 0)) W1 := by kernel_rfl
  have hbz : (Instr.build 26 #[]).run Try.prog W3 = .ok (.agg (sRb 0 0 0 0 0 0 0 0 0 0)) W3 := by kernel_rfl
  clear hW3
  have f4 : (f == 4) = true := by simpa using hf
  have f6 : (f == 6) = false := by rw [hf]; rfl
  have hge' : ¬ (b.length : Int) < 20 := by omega
  obtain ⟨x0, e0⟩ : ∃ x, b.getD 0 0 = x := ⟨_, rfl⟩
  have q0 := h.bytes.get 0
  obtain ⟨bk', off', ee, hcl⟩ := h.cells (by omega)
  cases ee
  have u0 := hcl 0 (by omega)
  rw [e0, Nat.add_zero] at u0
  rw [e0] at q0
  have y0 := kept (b := bk) (o := off) b3 u0
  have i0 : (0 : Int) < (b.length : Int) := by omega
  have hne' : ¬ b = [] := by intro e; rw [e] at hge; simp at hge
  have wx0 : IntKind.i64.wrap (x0 / 16) = x0 / 16 := wraps_i64 _ (by omega) (by omega)
  rw [e0] at hv
  have hv' : (x0 / 16 != f) = false := by simpa using hv
  have a15 : bits .and .u8 x0 15 = x0 % 16 := and15_u8 x0 q0.1 q0.2
  have wy0 : IntKind.i64.wrap (x0 % 16) = x0 % 16 := wraps_i64 _ (by omega) (by omega)
  obtain ⟨H, hH⟩ : ∃ H, x0 % 16 * 4 = H := ⟨_, rfl⟩
  have wH : IntKind.i64.wrap H = H := by rw [← hH]; exact wraps_i64 _ (by omega) (by omega)
  have wH4 : IntKind.i64.wrap (x0 % 16 * 4) = H := by rw [hH]; exact wH
  have H0 : 0 ≤ H := by omega
  have H60 : H ≤ 60 := by omega
  rw [e0, hH] at h4 h5 h6
  obtain ⟨hh, hHn⟩ := Int.eq_ofNat_of_zero_le H0
  subst hHn
  have n20 : 20 ≤ hh := by omega
  have nhl : hh ≤ b.length := by omega
  have jh1 : (0 : Int) ≤ (hh : Int) := by omega
  have jh2 : (hh : Int) ≤ (b.length : Int) := by omega
  obtain ⟨x9, e9⟩ : ∃ x, b.getD 9 0 = x := ⟨_, rfl⟩
  have q9 := h.bytes.get 9
  have y9 := kept (b := bk) (o := off + 9) b3 (hcl 9 (by omega))
  rw [e9] at y9 q9
  have i9 : (9 : Int) < (b.length : Int) := by omega
  have wx9 : IntKind.i64.wrap x9 = x9 := wraps_i64 _ (by omega) (by omega)
  obtain ⟨a3, ha3⟩ : ∃ a3 : Option Addr, (if dc = hh then (some ⟨bk, off, none⟩) else Option.map (fun x : Addr => x.add hh) (some ⟨bk, off, none⟩)) = a3 := ⟨_, rfl⟩
  have H3 : Hid ((if dc = hh then some (⟨bk, off, none⟩ : Addr) else some ⟨bk, off + hh, none⟩) = a3) := by
    have : (if dc = hh then some (⟨bk, off, none⟩ : Addr) else some ⟨bk, off + hh, none⟩) = a3 := by
      rw [← ha3]
      simp [Go.WideShapes.add_plain]
    exact this
  have h3' : (if dc = hh then some (⟨bk, off, none⟩ : Addr) else some ⟨bk, off + hh, none⟩) = a3 := H3.out
  obtain ⟨c3, hc3⟩ : ∃ c3, dc - hh = c3 := ⟨_, rfl⟩
  have hn3 : a3 = none → c3 = 0 := fun e => by
    rw [e] at ha3
    split at ha3
    · cases ha3
    · cases ha3
  have hr8 : ¬ ((b.length - hh : Nat) : Int) < 8 := by omega
  obtain ⟨D, hD⟩ : ∃ D, b.drop hh = D := ⟨_, rfl⟩
  have lD : D.length = b.length - hh := by rw [← hD, List.length_drop]
  obtain ⟨⟨p1, p2⟩, hV⟩ : ∃ V, portsOf f x9 D = V := ⟨_, rfl⟩
  have ea : a3 = some ⟨bk, off + hh, none⟩ := by rw [← ha3, if_neg (show ¬ dc = hh by omega)]; simp [Go.WideShapes.add_plain]
  have KP : Hid (∀ W, Row W (some ⟨bk, off, none⟩) b → Calls Try.prog 38 #[.int .i64 f, .int .i64 x9, .slice (some ⟨bk, off + hh, none⟩) (b.length - hh) c3] W fun e w' => e = .returned (.tuple #[.int .i64 p1, .int .i64 p2]) ∧ Below W.heap.size W w') := fun W hW => by
    have hr := hW.drop dc hh hc
    rw [ha3, hD, ea] at hr
    have := rports_any f x9 _ c3 D W hr (fun e => by cases e) (by omega) (by omega) (by omega) (by omega) (Or.inl hf)
    rw [lD, hV] at this
    exact this
  obtain ⟨⟨sf, sh, sl⟩, hAs⟩ : ∃ x : Ad, (fromB (partv b 12 4)).1 = x := ⟨_, rfl⟩
  obtain ⟨eS, hEs⟩ : ∃ x, (fromB (partv b 12 4)).2 = x := ⟨_, rfl⟩
  have KA : Hid (∀ W, Row W (some ⟨bk, off, none⟩) b → Calls Try.prog 75 #[.slice (some ⟨bk, off + 12, none⟩) 4 (dc - 12)] W fun e w' => e = .returned (.tuple #[.agg #[.int .i64 sf, .int .u64 sh, .int .u64 sl], .int .i64 eS]) ∧ Below W.heap.size W w') := fun W hW => by
    have := rfromPart bk off dc b 12 4 W hc (by omega) (by decide) (by decide) hW
    rw [show ((12 : Nat) : Int) = 12 from rfl, show ((4 : Nat) : Int) = 4 from rfl, hAs, hEs] at this
    exact this
  obtain ⟨⟨df, dh, dl⟩, hAd⟩ : ∃ x : Ad, (fromB (partv b 16 4)).1 = x := ⟨_, rfl⟩
  obtain ⟨eD, hEd⟩ : ∃ x, (fromB (partv b 16 4)).2 = x := ⟨_, rfl⟩
  have KB : Hid (∀ W, Row W (some ⟨bk, off, none⟩) b → Calls Try.prog 75 #[.slice (some ⟨bk, off + 16, none⟩) 4 (dc - 16)] W fun e w' => e = .returned (.tuple #[.agg #[.int .i64 df, .int .u64 dh, .int .u64 dl], .int .i64 eD]) ∧ Below W.heap.size W w') := fun W hW => by
    have := rfromPart bk off dc b 16 4 W hc (by omega) (by decide) (by decide) hW
    rw [show ((16 : Nat) : Int) = 16 from rfl, show ((4 : Nat) : Int) = 4 from rfl, hAd, hEd] at this
    exact this
  have eN : inner f b = some ⟨f, x9, ⟨sf, sh, sl⟩, ⟨df, dh, dl⟩, p1, p2⟩ := by
    unfold inner
    rw [if_neg (by omega), if_neg (by rw [e0]; simpa using hv), if_pos hf]
    unfold inner4
    rw [if_neg (by rw [e0, hH]; omega), e0, hH, e9, hAs, hAd, Int.toNat_natCast, hD, show portsOf 4 x9 D = portsOf f x9 D by rw [hf], hV]
    rw [hf]
  rw [eN]
  clear eN hV hD lD hAs hAd ea
  have v_4 := V3.cell 1 (.int .i64 0) rfl
  have z_4 := V3.frozen 1
  have V4 : Blk (W3.setCell ⟨W1.heap.size, 1, none⟩ (.int .i64 x9)) W1.heap.size 26 (sRb f x9 0 0 0 0 0 0 0 0) := V3.put 1 (.int .i64 x9)
  have A4 := A3.put_other V3 (show w.heap.size ≠ W1.heap.size by omega) 1 (.int .i64 x9)
  have b4 := b3.setCell (p := ⟨W1.heap.size, 1, none⟩) (show w.heap.size ≤ W1.heap.size by omega) (.int .i64 x9)
  obtain ⟨W4, hW4⟩ : ∃ W, W3.setCell ⟨W1.heap.size, 1, none⟩ (.int .i64 x9) = W := ⟨_, rfl⟩
  rw [hW4] at V4 A4 b4
  clear hf hv hH hcl e0 u0 e9
  go_enter Try.func61, Try.ntmps61
  go_wp2_with (first
    | (refine wpList_build _ rfl _ _ rfl _ (by rfl) _ hb0 ?_)
    | (refine wpList_store_row rfl _ _ _ rfl W1.heap.size (sRb f 0 0 0 0 0 0 0 0 0) (by rfl) (by rfl) _ _ V2 (by kernel_rfl) (by rfl) (by kernel_rfl) ?_; rw [HW3.out]))
  refine Calls.mono (KA.out _ (h.below b4)) ?_
  rintro e W5 ⟨rfl, bb⟩
  have V5 := V4.kept bb
  have A5 := A4.kept bb
  have b5 := bel_tr b4 bb
  clear KA bb V4 A4 b4 V3 A3 b3 v_4 z_4 hW4 y0 y9 V2 A2 b2 A1 b1 hW1 hW2
  have V6 := V5.set (sRb f x9 sf sh sl 0 0 0 0 0)
  have A6 := A5.other (show w.heap.size ≠ W1.heap.size by omega) (sRb f x9 sf sh sl 0 0 0 0 0)
  have b6 := below_setRow b5 (Nat.le_of_lt g1) (sRb f x9 sf sh sl 0 0 0 0 0)
  obtain ⟨W6, hW6⟩ : ∃ W, W5.setRow W1.heap.size (sRb f x9 sf sh sl 0 0 0 0 0) = W := ⟨_, rfl⟩
  rw [hW6] at V6 A6 b6
  have HW6 : Hid _ := hW6
  clear hW6
  go_wp2_with (first
    | (refine wpList_store_off rfl _ _ _ rfl W1.heap.size 2 26 #[.int .i64 sf, .int .u64 sh, .int .u64 sl] (sRb f x9 0 0 0 0 0 0 0 0) (sRb f x9 sf sh sl 0 0 0 0 0) (by rfl) (by rfl) V5 (by kernel_rfl) (show 2 + 3 ≤ 10 by decide) (by kernel_rfl) (by kernel_rfl) ?_; rw [HW6.out]))
  refine Calls.mono (KB.out _ (h.below b6)) ?_
  rintro e W7 ⟨rfl, bb⟩
  have V7 := V6.kept bb
  have A7 := A6.kept bb
  have b7 := bel_tr b6 bb
  clear KB bb V6 A6 b6 V5 A5 b5 HW6
  have V8 := V7.set (sRb f x9 sf sh sl df dh dl 0 0)
  have A8 := A7.other (show w.heap.size ≠ W1.heap.size by omega) (sRb f x9 sf sh sl df dh dl 0 0)
  have b8 := below_setRow b7 (Nat.le_of_lt g1) (sRb f x9 sf sh sl df dh dl 0 0)
  obtain ⟨W8, hW8⟩ : ∃ W, W7.setRow W1.heap.size (sRb f x9 sf sh sl df dh dl 0 0) = W := ⟨_, rfl⟩
  rw [hW8] at V8 A8 b8
  have HW8 : Hid _ := hW8
  clear hW8
  have d8 := V8.cell 1 (.int .i64 x9) rfl
  go_wp2_with (first
    | (refine wpList_store_off rfl _ _ _ rfl W1.heap.size 5 26 #[.int .i64 df, .int .u64 dh, .int .u64 dl] (sRb f x9 sf sh sl 0 0 0 0 0) (sRb f x9 sf sh sl df dh dl 0 0) (by rfl) (by rfl) V7 (by kernel_rfl) (show 5 + 3 ≤ 10 by decide) (by kernel_rfl) (by kernel_rfl) ?_; rw [HW8.out]))
  refine Calls.mono (KP.out _ (h.below b8)) ?_
  rintro e W9 ⟨rfl, bb⟩
  have V9 := V8.kept bb
  have A9 := A8.kept bb
  have b9 := bel_tr b8 bb
  clear KP bb V8 A8 b8 d8 V7 A7 b7 HW8
  have v_10 := V9.cell 8 (.int .i64 0) rfl
  have z_10 := V9.frozen 8
  have V10 : Blk (W9.setCell ⟨W1.heap.size, 8, none⟩ (.int .i64 p1)) W1.heap.size 26 (sRb f x9 sf sh sl df dh dl p1 0) := V9.put 8 (.int .i64 p1)
  have A10 := A9.put_other V9 (show w.heap.size ≠ W1.heap.size by omega) 8 (.int .i64 p1)
  have b10 := b9.setCell (p := ⟨W1.heap.size, 8, none⟩) (show w.heap.size ≤ W1.heap.size by omega) (.int .i64 p1)
  obtain ⟨W10, hW10⟩ : ∃ W, W9.setCell ⟨W1.heap.size, 8, none⟩ (.int .i64 p1) = W := ⟨_, rfl⟩
  rw [hW10] at V10 A10 b10
  have v_11 := V10.cell 9 (.int .i64 0) rfl
  have z_11 := V10.frozen 9
  have V11 : Blk (W10.setCell ⟨W1.heap.size, 9, none⟩ (.int .i64 p2)) W1.heap.size 26 (sRb f x9 sf sh sl df dh dl p1 p2) := V10.put 9 (.int .i64 p2)
  have A11 := A10.put_other V10 (show w.heap.size ≠ W1.heap.size by omega) 9 (.int .i64 p2)
  have b11 := b10.setCell (p := ⟨W1.heap.size, 9, none⟩) (show w.heap.size ≤ W1.heap.size by omega) (.int .i64 p2)
  obtain ⟨W11, hW11⟩ : ∃ W, W10.setCell ⟨W1.heap.size, 9, none⟩ (.int .i64 p2) = W := ⟨_, rfl⟩
  rw [hW11] at V11 A11 b11
  have Bf := A11.set (sRb f x9 sf sh sl df dh dl p1 p2)
  have bf := below_setRow b11 (Nat.le_refl _) (sRb f x9 sf sh sl df dh dl p1 p2)
  go_wp2_with (first
    | (refine wpList_load_row rfl _ _ rfl W1.heap.size (by rfl) _ _ _ _ V11 Try.underlying26 rfl (by kernel_rfl) ?_)
    | (refine wpList_store_row rfl _ _ _ rfl w.heap.size (sRb f x9 sf sh sl df dh dl p1 p2) (by rfl) (by rfl) _ _ A11 (by kernel_rfl) (by rfl) (by kernel_rfl) ?_))
  exact ret_cell_tmp (k := 4) (j := 5) Try.f61 (by kernel_rfl) Bf Try.underlying26 (by kernel_rfl) (by rfl) (by rfl) rfl ⟨rfl, bf⟩
set_option maxRecDepth 100000 in
set_option maxHeartbeats 4000000 in
theorem rinner_6b (f : Int) (bk off dc : Nat) (b : List Int) (w : World) (h : Row w (some ⟨bk, off, none⟩) b) (hll : b.length ≤ 140737488351232) (hc : b.length ≤ dc) (hcm : dc ≤ 9223372036854775807) (hf : f = 6) (hge : ¬ b.length < 40) (hv : ¬ b.getD 0 0 / 16 = f) :
    Calls Try.prog 61 #[.int .i64 f, .slice (some ⟨bk, off, none⟩) b.length dc] w fun e w' => e = .returned (.tuple #[.agg (tpv ((inner f b).getD zTp)), .bool (inner f b).isSome]) ∧ Below w.heap.size w w' := by
  have eN : inner f b = none := by
    unfold inner
    rw [if_neg (by omega), if_pos hv]
  rw [eN]
  clear eN
  obtain ⟨W1, hW1⟩ : ∃ W1, w.alloc (.cells (sRb 0 0 0 0 0 0 0 0 0 0) 26) = W1 := ⟨_, rfl⟩
  have b1 := bel_nw hW1
  have A1 := blk_nw hW1
  have g1 : w.heap.size < W1.heap.size := A1.lt
  obtain ⟨W2, hW2⟩ : ∃ W2, W1.alloc (.cells (sRb 0 0 0 0 0 0 0 0 0 0) 26) = W2 := ⟨_, rfl⟩
  have b2 := bel_al b1 hW2
  have A2 := A1.al hW2
  have V2 := blk_nw hW2
  have b3 := below_setRow b2 (Nat.le_of_lt g1) (sRb f 0 0 0 0 0 0 0 0 0)
  have A3 := A2.other (show w.heap.size ≠ W1.heap.size by omega) (sRb f 0 0 0 0 0 0 0 0 0)
  have V3 := V2.set (sRb f 0 0 0 0 0 0 0 0 0)
  obtain ⟨W3, hW3⟩ : ∃ W, W2.setRow W1.heap.size (sRb f 0 0 0 0 0 0 0 0 0) = W := ⟨_, rfl⟩
  rw [hW3] at b3 A3 V3
  have HW3 : Hid _ := hW3
  have hb0 : (Instr.build 26 #[(0, .int .i64 f)]).run Try.prog W1 = .ok (.agg (sRb f 0 0 0 0 0 0 0 0 0)) W1 := by kernel_rfl
  have hbz : (Instr.build 26 #[]).run Try.prog W3 = .ok (.agg (sRb 0 0 0 0 0 0 0 0 0 0)) W3 := by kernel_rfl
  clear hW3
  have f4 : (f == 4) = false := by rw [hf]; rfl
  have f6 : (f == 6) = true := by simpa using hf
  have hge' : ¬ (b.length : Int) < 40 := by omega
  obtain ⟨x0, e0⟩ : ∃ x, b.getD 0 0 = x := ⟨_, rfl⟩
  have q0 := h.bytes.get 0
  obtain ⟨bk', off', ee, hcl⟩ := h.cells (by omega)
  cases ee
  have u0 := hcl 0 (by omega)
  rw [e0, Nat.add_zero] at u0
  rw [e0] at q0
  have y0 := kept (b := bk) (o := off) b3 u0
  have i0 : (0 : Int) < (b.length : Int) := by omega
  have hne' : ¬ b = [] := by intro e; rw [e] at hge; simp at hge
  have wx0 : IntKind.i64.wrap (x0 / 16) = x0 / 16 := wraps_i64 _ (by omega) (by omega)
  rw [e0] at hv
  have hv' : (x0 / 16 != f) = true := by simpa using hv
  clear hf hv hcl e0 u0
  have Bf := A3.set (sRb 0 0 0 0 0 0 0 0 0 0)
  have bf := below_setRow b3 (Nat.le_refl _) (sRb 0 0 0 0 0 0 0 0 0 0)
  go_enter Try.func61, Try.ntmps61
  go_wp2_with (first
    | (refine wpList_build _ rfl _ _ rfl _ (by rfl) _ hb0 ?_)
    | (refine wpList_store_row rfl _ _ _ rfl W1.heap.size (sRb f 0 0 0 0 0 0 0 0 0) (by rfl) (by rfl) _ _ V2 (by kernel_rfl) (by rfl) (by kernel_rfl) ?_; rw [HW3.out])
    | (refine wpList_build _ rfl _ _ rfl _ (by rfl) _ hbz ?_)
    | (refine wpList_store_row rfl _ _ _ rfl w.heap.size (sRb 0 0 0 0 0 0 0 0 0 0) (by rfl) (by rfl) _ _ A3 (by kernel_rfl) (by rfl) (by kernel_rfl) ?_))
  exact ret_cell_tmp (k := 4) (j := 5) Try.f61 (by kernel_rfl) Bf Try.underlying26 (by kernel_rfl) (by rfl) (by rfl) rfl ⟨rfl, bf⟩
theorem getD_drop6 (l : List Int) (k i : Nat) : (l.drop k).getD i 0 = l.getD (k + i) 0 := by
  simp only [List.getD_eq_getElem?_getD, List.getElem?_drop]
set_option maxRecDepth 100000 in
set_option maxHeartbeats 2000000 in
theorem roptions6_any (a : Option Addr) (c : Nat) (l : List Int) (w : World) (h : Row w a l) :
    Calls Try.prog 96 #[.slice a l.length c] w fun e w' => e = .returned (.int .i64 (opt6 l)) ∧ w' = w := by
  have hs := h.small
  go_enter Try.func96, Try.ntmps96
  go_wp2
  go_loop [3] (fun v => ∃ k : Nat, k ≤ l.length ∧ v = .int .i64 k ∧ Hid (opt6 (l.drop k) = opt6 l)) (fun v => l.length - (intOf v).toNat)
  case atStart => exact ⟨0, Nat.zero_le _, rfl, by show opt6 (l.drop 0) = opt6 l; rw [List.drop_zero]⟩
  case round =>
    obtain ⟨k, hk, rfl, ho⟩ := hrel
    by_cases hlt : k < l.length
    · obtain ⟨bk, off, rfl, hcl⟩ := h.cells (by omega)
      have c0 := hcl k hlt
      have hx := h.bytes.get k
      have hd : l.drop k = l.getD k 0 :: l.drop (k + 1) := by
        rw [List.drop_eq_getElem_cons hlt]
        simp [hlt]
      have hlk : (k : Int) < (l.length : Int) := by omega
      obtain ⟨x, hxx⟩ : ∃ x, l.getD k 0 = x := ⟨_, rfl⟩
      rw [hxx] at c0 hx hd
      have ho' : Hid (opt6 (x :: l.drop (k + 1)) = opt6 l) := by show _ = _; rw [← hd]; exact ho.out
      have hrl : (l.drop (k + 1)).length = l.length - (k + 1) := by rw [List.length_drop]
      clear ho hd hxx
      by_cases x0 : x = 0
      · subst x0
        have E : Hid (opt6 (l.drop (k + 1)) = opt6 l) := by show _ = _; rw [← ho'.out, opt6_zero]
        clear ho' hcl h hrl
        go_wp2
        exact ⟨⟨k + 1, by omega, int_eq (by omega), E⟩, by simp [intOf]; omega⟩
      · have x0' : (x == 0) = false := by simpa using x0
        by_cases hl1 : k + 1 < l.length
        · have c1 := hcl (k + 1) hl1
          have hy := h.bytes.get (k + 1)
          have hr0 : (l.drop (k + 1)).getD 0 0 = l.getD (k + 1) 0 := by rw [getD_drop6, Nat.add_zero]
          obtain ⟨y, hyy⟩ : ∃ y, l.getD (k + 1) 0 = y := ⟨_, rfl⟩
          rw [hyy] at c1 hy hr0
          have hl1' : ¬ ((l.length : Int) ≤ (k : Int) + 1) := by omega
          have hl2' : (k : Int) + 1 < (l.length : Int) := by omega
          have hwk : wrap64 ((k : Int) + 1) = (k : Int) + 1 := wrap64_in _ (by omega) (by omega)
          by_cases hy2 : y > (l.length : Int) - (k : Int) - 2
          · have e : Hid (7 = opt6 l) := by show 7 = opt6 l; rw [← ho'.out, opt6_bad x _ x0 (.inr (.inr (by rw [hr0, hrl]; omega)))]
            clear ho' hcl h hrl hr0 hyy
            go_wp2
            go_ret
            exact ⟨ret_int e.out, rfl⟩
          · have y3 : ¬ y > (l.length : Int) - (k : Int) - 2 := hy2
            by_cases x6 : x / 64 = 0
            · have x6' : (x / 64 != 0) = false := by simpa using x6
              have hn := opt6_next x (l.drop (k + 1)) x0 (by rw [hr0, hrl]; omega)
              rw [hr0] at hn
              obtain ⟨m, rfl⟩ := Int.eq_ofNat_of_zero_le hy.1
              rw [Int.toNat_natCast, List.drop_drop] at hn
              have E : Hid (opt6 (l.drop (k + (2 + m))) = opt6 l) := by show _ = _; rw [← ho'.out, hn]; congr 2; omega
              clear ho' hcl h hrl hr0 hyy hn
              go_wp2
              exact ⟨⟨k + (2 + m), by omega, int_eq (by omega), E⟩, by simp [intOf]; omega⟩
            · have x6' : (x / 64 != 0) = true := by simpa using x6
              have e : Hid (7 = opt6 l) := by show 7 = opt6 l; rw [← ho'.out, opt6_bad x _ x0 (.inl x6)]
              clear ho' hcl h hrl hr0 hyy
              go_wp2
              go_ret
              exact ⟨ret_int e.out, rfl⟩
        · have e : Hid (7 = opt6 l) := by show 7 = opt6 l; rw [← ho'.out, opt6_bad x _ x0 (.inr (.inl (by rw [hrl]; omega)))]
          have hl1' : (l.length : Int) ≤ (k : Int) + 1 := by omega
          clear ho' hcl h hrl
          go_wp2
          go_ret
          exact ⟨ret_int e.out, rfl⟩
    · have hlt' : ¬ (k : Int) < (l.length : Int) := by omega
      have e : Hid (0 = opt6 l) := by show 0 = opt6 l; rw [← ho.out, List.drop_of_length_le (by omega), opt6_nil]
      clear ho
      go_wp2
      go_ret
      exact ⟨ret_int e.out, rfl⟩
set_option maxHeartbeats 400000 in
theorem isExt_any (n : Int) (w : World) : Calls Try.prog 90 #[.int .i64 n] w fun e w' => e = .returned (.bool (isExt n)) ∧ w' = w := by
  by_cases h0 : n = 0
  · subst h0
    go_enter Try.func90, Try.ntmps90
    go_wp2
    go_ret
    exact ⟨rfl, rfl⟩
  have h0' : (n == 0) = false := by simpa using h0
  by_cases h1 : n = 43
  · subst h1
    go_enter Try.func90, Try.ntmps90
    go_wp2
    go_ret
    exact ⟨rfl, rfl⟩
  have h1' : (n == 43) = false := by simpa using h1
  by_cases h2 : n = 60
  · subst h2
    go_enter Try.func90, Try.ntmps90
    go_wp2
    go_ret
    exact ⟨rfl, rfl⟩
  have h2' : (n == 60) = false := by simpa using h2
  by_cases h3 : n = 44
  · subst h3
    go_enter Try.func90, Try.ntmps90
    go_wp2
    go_ret
    exact ⟨rfl, rfl⟩
  have h3' : (n == 44) = false := by simpa using h3
  have e : isExt n = false := by simp [isExt, h0, h1, h2, h3]
  rw [e]
  clear e
  go_enter Try.func90, Try.ntmps90
  go_wp2
  go_ret
  exact ⟨rfl, rfl⟩
/-- The cells of the document's walk. -/
structure TW (W : World) (g : Nat) (s : St) (at_ : Nat) (bv xv : Value) (hop E : Bool) : Prop where
  c0 : W.cell? ⟨g, 0, none⟩ = some (.int .i64 s.next)
  c1 : W.cell? ⟨g, 1, none⟩ = some (.int .i64 at_)
  c2 : W.cell? ⟨g, 2, none⟩ = some bv
  c3 : W.cell? ⟨g, 3, none⟩ = some xv
  c4 : W.cell? ⟨g, 4, none⟩ = some (.bool hop)
  c5 : W.cell? ⟨g, 5, none⟩ = some (.bool s.met)
  c6 : W.cell? ⟨g, 6, none⟩ = some (.bool E)
  c16 : W.cell? ⟨g, 16, none⟩ = some (.bool s.cut)
  c17 : W.cell? ⟨g, 17, none⟩ = some (.int .u32 (if s.cut = true then s.id else 0))
  c18 : W.cell? ⟨g, 18, none⟩ = some (.int .i64 s.off)
  c19 : W.cell? ⟨g, 19, none⟩ = some (.bool s.more)
  z : ∀ o, 7 ≤ o → o < 22 → (o < 16 ∨ 20 ≤ o) → W.cell? ⟨g, o, none⟩ = some (zIp.getD (o - 7) undef)
  fz : ∀ o, W.frozen? ⟨g, o, none⟩ = false
theorem TW.lt {W : World} {g : Nat} {s : St} {at_ : Nat} {bv xv : Value} {hop E : Bool} (h : TW W g s at_ bv xv hop E) : g < W.heap.size := World.block_lt_of_cell? W _ h.c0
theorem TW.same {W W' : World} {g : Nat} {s : St} {at_ : Nat} {bv xv : Value} {hop E : Bool} (h : TW W g s at_ bv xv hop E) (k : ∀ o, W'.cell? ⟨g, o, none⟩ = W.cell? ⟨g, o, none⟩) (f : ∀ o, W'.frozen? ⟨g, o, none⟩ = W.frozen? ⟨g, o, none⟩) : TW W' g s at_ bv xv hop E :=
  ⟨(k _).trans h.c0, (k _).trans h.c1, (k _).trans h.c2, (k _).trans h.c3, (k _).trans h.c4, (k _).trans h.c5, (k _).trans h.c6, (k _).trans h.c16, (k _).trans h.c17, (k _).trans h.c18, (k _).trans h.c19, fun o h1 h2 h3 => (k _).trans (h.z o h1 h2 h3), fun o => (f _).trans (h.fz o)⟩
theorem TW.grown {W W' : World} {g : Nat} {s : St} {at_ : Nat} {bv xv : Value} {hop E : Bool} {row : Option Nat} (h : TW W g s at_ bv xv hop E) (hg : W.grownBy W' row) (hne : some g ≠ row) : TW W' g s at_ bv xv hop E :=
  h.same (fun o => hg.cell_far ⟨g, o, none⟩ h.lt hne) (fun o => hg.frozen_far ⟨g, o, none⟩ h.lt hne)
theorem TW.below {W W' : World} {g B : Nat} {s : St} {at_ : Nat} {bv xv : Value} {hop E : Bool} (h : TW W g s at_ bv xv hop E) (hg : g < B) (hb : Below B W W') : TW W' g s at_ bv xv hop E :=
  h.same (fun o => hb.cell (p := ⟨g, o, none⟩) hg) (fun o => hb.frozen (p := ⟨g, o, none⟩) hg)
/-- Cells of the walk written over: all others stay. -/
theorem TW.put {W : World} {g : Nat} {s t : St} {at_ at' : Nat} {bv xv xv' : Value} {hop hop' E : Bool} (h : TW W g s at_ bv xv hop E) (k : Nat) (v : Value) (hk : k < 7 ∨ (16 ≤ k ∧ k < 20))
    (q0 : if k = 0 then v = .int .i64 t.next else t.next = s.next) (q1 : if k = 1 then v = .int .i64 at' else at' = at_) (q2 : k ≠ 2) (q3 : if k = 3 then v = xv' else xv' = xv) (q4 : if k = 4 then v = .bool hop' else hop' = hop)
    (q5 : if k = 5 then v = .bool t.met else t.met = s.met) (q6 : k ≠ 6) (q16 : if k = 16 then v = .bool t.cut else t.cut = s.cut) (q17 : if k = 17 then v = .int .u32 (if t.cut = true then t.id else 0) else (if t.cut = true then t.id else 0) = (if s.cut = true then s.id else 0))
    (q18 : if k = 18 then v = .int .i64 t.off else t.off = s.off) (q19 : if k = 19 then v = .bool t.more else t.more = s.more) : TW (W.setCell ⟨g, k, none⟩ v) g t at' bv xv' hop' E := by
  have same : ∀ {u : Value}, W.cell? ⟨g, k, none⟩ = some u → (W.setCell ⟨g, k, none⟩ v).cell? ⟨g, k, none⟩ = some v := fun h => put_same h
  have oth : ∀ o, k ≠ o → (W.setCell ⟨g, k, none⟩ v).cell? ⟨g, o, none⟩ = W.cell? ⟨g, o, none⟩ := fun o ho => put_oth ho
  obtain ⟨c0, c1, c2, c3, c4, c5, c6, c16, c17, c18, c19, z, fz⟩ := h
  refine ⟨?_, ?_, ?_, ?_, ?_, ?_, ?_, ?_, ?_, ?_, ?_, ?_, fun o => by rw [World.frozen?_setCell]; exact fz o⟩
  · by_cases e : k = 0
    · subst e; rw [if_pos rfl] at q0; rw [same c0, q0]
    · rw [if_neg e] at q0; rw [oth 0 e, c0, q0]
  · by_cases e : k = 1
    · subst e; rw [if_pos rfl] at q1; rw [same c1, q1]
    · rw [if_neg e] at q1; rw [oth 1 e, c1, q1]
  · rw [oth 2 q2, c2]
  · by_cases e : k = 3
    · subst e; rw [if_pos rfl] at q3; rw [same c3, q3]
    · rw [if_neg e] at q3; rw [oth 3 e, c3, q3]
  · by_cases e : k = 4
    · subst e; rw [if_pos rfl] at q4; rw [same c4, q4]
    · rw [if_neg e] at q4; rw [oth 4 e, c4, q4]
  · by_cases e : k = 5
    · subst e; rw [if_pos rfl] at q5; rw [same c5, q5]
    · rw [if_neg e] at q5; rw [oth 5 e, c5, q5]
  · rw [oth 6 q6, c6]
  · by_cases e : k = 16
    · subst e; rw [if_pos rfl] at q16; rw [same c16, q16]
    · rw [if_neg e] at q16; rw [oth 16 e, c16, q16]
  · by_cases e : k = 17
    · subst e; rw [if_pos rfl] at q17; rw [same c17, q17]
    · rw [if_neg e] at q17; rw [oth 17 e, c17, q17]
  · by_cases e : k = 18
    · subst e; rw [if_pos rfl] at q18; rw [same c18, q18]
    · rw [if_neg e] at q18; rw [oth 18 e, c18, q18]
  · by_cases e : k = 19
    · subst e; rw [if_pos rfl] at q19; rw [same c19, q19]
    · rw [if_neg e] at q19; rw [oth 19 e, c19, q19]
  · intro o h1 h2 h3
    rw [oth o (by omega)]
    exact z o h1 h2 h3
set_option maxHeartbeats 1000000 in
theorem rsize6_any (g : Nat) (s : St) (at_ : Nat) (a : Option Addr) (c : Nat) (L : List Int) (xv : Value) (hop E : Bool) (w : World) (hT : TW w g s at_ (.slice a L.length c) xv hop E) (hr : Row w a L) (hs : s.l = L.drop at_) (hat : at_ ≤ L.length) :
    Calls Try.prog 95 #[.pointer (some ⟨g, 0, none⟩)] w fun e w' => e = .returned (.int .i64 (if s.l.length < hsz s.next s.l then -1 else (hsz s.next s.l : Int))) ∧ ∃ n, w' = w.drewN n := by
  have sm := hr.small
  have hll : s.l.length = L.length - at_ := by rw [hs, List.length_drop]
  have c0 := hT.c0
  have c1 := hT.c1
  have c2 := hT.c2
  obtain ⟨R, hR⟩ : ∃ R : Int, (if s.l.length < hsz s.next s.l then -1 else (hsz s.next s.l : Int)) = R := ⟨_, rfl⟩
  rw [hR]
  have HR : Hid ((if s.l.length < hsz s.next s.l then -1 else (hsz s.next s.l : Int)) = R) := hR
  clear hR
  by_cases hk : s.next = 44
  · have e8 : hsz s.next s.l = 8 := by unfold hsz; rw [if_pos (.inl hk)]
    have hk' : (s.next != 44) = false := by simp [hk]
    by_cases hl : L.length - at_ < 8
    · have eR : Hid (-1 = R) := by show -1 = R; rw [← HR.out, e8, if_pos (by omega)]
      have hl' : (L.length : Int) - (at_ : Int) < 8 := by omega
      clear hT e8 HR hr
      go_enter Try.func95, Try.ntmps95
      go_wp2
      go_quiet (fail)
      go_wp2
      go_ret
      exact ⟨ret_int eR.out, nq, rfl⟩
    · have eR : Hid (8 = R) := by show 8 = R; rw [← HR.out, e8, if_neg (by omega)]; rfl
      have hl' : ¬ (L.length : Int) - (at_ : Int) < 8 := by omega
      clear hT e8 HR hr
      go_enter Try.func95, Try.ntmps95
      go_wp2
      go_quiet (fail)
      go_wp2
      go_ret
      exact ⟨ret_int eR.out, nq, rfl⟩
  · have hk' : (s.next != 44) = true := by simpa using hk
    by_cases h2 : L.length - at_ < 2
    · have e8 : hsz s.next s.l = 8 := by unfold hsz; rw [if_pos (.inr (by omega))]
      have eR : Hid (-1 = R) := by show -1 = R; rw [← HR.out, e8, if_pos (by omega)]
      have hl' : (L.length : Int) - (at_ : Int) < 2 := by omega
      clear hT e8 HR hr
      go_enter Try.func95, Try.ntmps95
      go_wp2
      go_quiet (fail)
      go_wp2
      go_ret
      exact ⟨ret_int eR.out, nq, rfl⟩
    · have e8 : hsz s.next s.l = ((L.getD (at_ + 1) 0).toNat + 1) * 8 := by unfold hsz; rw [if_neg (by omega), hs, getD_drop6]
      have h2' : ¬ (L.length : Int) - (at_ : Int) < 2 := by omega
      obtain ⟨bk, off, rfl, hcl⟩ := hr.cells (by omega)
      have d1 := hcl (at_ + 1) (by omega)
      have b1 := hr.bytes.get (at_ + 1)
      rw [e8] at HR
      clear hcl hr hT e8
      generalize L.getD (at_ + 1) 0 = x at *
      obtain ⟨m, rfl⟩ := Int.eq_ofNat_of_zero_le b1.1
      rw [Int.toNat_natCast] at HR
      have i1 : (at_ : Int) + 1 < (L.length : Int) := by omega
      by_cases hl : L.length - at_ < (m + 1) * 8
      · have eR : Hid (-1 = R) := by show -1 = R; rw [← HR.out, if_pos (by omega)]
        have hl' : (L.length : Int) - (at_ : Int) < ((m : Int) + 1) * 8 := by omega
        clear HR
        go_enter Try.func95, Try.ntmps95
        go_wp2
        go_quiet (fail)
        go_wp2
        go_quiet (fail)
        go_wp2
        go_quiet (fail)
        go_wp2
        go_ret
        exact ⟨ret_int eR.out, _, by rw [drewN_add, drewN_add]⟩
      · have eR : Hid (((m : Int) + 1) * 8 = R) := by show _ = R; rw [← HR.out, if_neg (by omega)]; omega
        have hl' : ¬ (L.length : Int) - (at_ : Int) < ((m : Int) + 1) * 8 := by omega
        clear HR
        go_enter Try.func95, Try.ntmps95
        go_wp2
        go_quiet (fail)
        go_wp2
        go_quiet (fail)
        go_wp2
        go_quiet (fail)
        go_wp2
        go_ret
        exact ⟨ret_int eR.out, _, by rw [drewN_add, drewN_add]⟩
end Go.Proofs.Ytpjjkdgmfjhfiaa
