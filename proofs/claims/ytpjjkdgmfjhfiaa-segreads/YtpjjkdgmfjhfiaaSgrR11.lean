/- Texts joined: SgV -/
import Derived.Test.YtpjjkdgmfjhfiaaSgrR10
namespace Go.Proofs.Ytpjjkdgmfjhfiaa
abbrev sgrR11o0 : Oper := { dst := some 3, op := Op.assign (.const (.int .i64 0)), type := 39, pos := "parse.go:70", after := #[{ on := 6, ground := Ground.chain }, { on := 0, ground := Ground.phase }, { on := 1, ground := Ground.phase }, { on := 2, ground := Ground.phase }, { on := 3, ground := Ground.phase }, { on := 4, ground := Ground.phase }, { on := 5, ground := Ground.phase }, { on := 6, ground := Ground.phase }], guard := none }
abbrev sgrR11o1 : Oper := { dst := none, op := Op.store 38 (.tmp 2) (.tmp 54), type := 0, pos := "parse.go:70", after := #[{ on := 5, ground := Ground.data }, { on := 4, ground := Ground.chain }, { on := 0, ground := Ground.phase }, { on := 1, ground := Ground.phase }, { on := 2, ground := Ground.phase }, { on := 3, ground := Ground.phase }, { on := 4, ground := Ground.phase }, { on := 5, ground := Ground.phase }], guard := none }
abbrev sgrR11o2 : Oper := { dst := some 53, op := Op.call { callee := Callee.value (.func 72), args := #[.tmp 52], argTypes := #[28] }, type := 28, pos := "parse.go:70", after := #[{ on := 3, ground := Ground.data }, { on := 1, ground := Ground.chain }], guard := none }
abbrev sgrR11o3 : Oper := { dst := some 50, op := Op.call { callee := Callee.value (.func 70), args := #[.tmp 49], argTypes := #[64] }, type := 26, pos := "parse.go:70", after := #[{ on := 0, ground := Ground.data }], guard := none }
abbrev sgrR11o4 : Oper := { dst := some 54, op := Op.build 38 #[(0, .tmp 50), (9, .tmp 53)], type := 38, pos := "parse.go:70", after := #[{ on := 1, ground := Ground.data }, { on := 4, ground := Ground.data }], guard := none }
abbrev sgrR11o5 : Oper := { dst := some 52, op := Op.slice 28 (.tmp 51) (some (.const (.int .i64 8))) none none, type := 28, pos := "parse.go:70", after := #[{ on := 2, ground := Ground.data }], guard := none }
abbrev sgrR11o6 : Oper := { dst := some 49, op := Op.load 64 (.tmp 1), type := 64, pos := "parse.go:70", after := #[], guard := none }
abbrev sgrR11o7 : Oper := { dst := some 51, op := Op.move (.tmp 5), type := 28, pos := "parse.go:70", after := #[], guard := none }
end Go.Proofs.Ytpjjkdgmfjhfiaa
namespace Go.Proofs.Ytpjjkdgmfjhfiaa
open Go.RowKit
set_option linter.unusedVariables false
set_option linter.unusedSimpArgs false
set_option maxRecDepth 100000 in
set_option maxHeartbeats 4000000 in
theorem udp_oka (f sf sh sl df dh dl pr ho : Int) (fg : Bool) (id of : Int) (mo : Bool) (xa : Option Addr) (xn xc : Nat) (da : Option Addr) (dc : Nat) (l : List Int) (w : World) (h : Row w da l) (hnil : da = none → dc = 0) (hc : l.length ≤ dc) (hcm : dc ≤ 9223372036854775807) (hs : Ad.ok ⟨sf, sh, sl⟩) (hd : Ad.ok ⟨df, dh, dl⟩) (h8 : ¬ l.length < 8) (h5 : ¬ u16v l 4 < 8) (h6 : ¬ u16v l 4 > (l.length : Int)) (hz : u16v (l.take (u16v l 4).toNat) 6 = 0) (h66 : ¬ f = 6) :
    Calls Try.prog 56 #[.agg (sRa f sf sh sl df dh dl pr ho fg id of mo xa xn xc da l.length dc)] w (GotS w 0 (udpX f pr ⟨sf, sh, sl⟩ ⟨df, dh, dl⟩ l)) := by
  obtain ⟨W1, hW1⟩ : ∃ W1, w.alloc (.cells (sRa f sf sh sl df dh dl pr ho fg id of mo xa xn xc da l.length dc) 64) = W1 := ⟨_, rfl⟩
  obtain ⟨W2, hW2⟩ : ∃ W2, W1.alloc (.cells (sRc 0 0 0 0 0 0 0 0 0 0 0 0 0 0 0 0 false 0 0 0 0 0 0 0 0 0 0 none 0 0) 38) = W2 := ⟨_, rfl⟩
  have b1 := bel_nw hW1
  have b2 := bel_al b1 hW2
  have B1' := blk_nw hW1
  have B1 := B1'.al hW2
  have B2 := blk_nw hW2
  have g1 : w.heap.size < W1.heap.size := B1'.lt
  clear B1'
  have d0 := B1.cell 0 (.int .i64 f) rfl
  have d14 := B1.cell 14 (.slice da l.length dc) rfl
  have h8' : ¬ (l.length : Int) < 8 := by omega
  have hnn := u16v_bd h.bytes 4
  obtain ⟨nn, hn⟩ := Int.eq_ofNat_of_zero_le hnn.1
  have K1 := segU16_any da dc l 4 W2 (h.below b2) (by decide)
  rw [hn] at K1
  have K1 : Hid _ := K1
  rw [hn] at h5 h6
  have n8 : 8 ≤ nn := by omega
  have nl : nn ≤ l.length := by omega
  have j1 : (0 : Int) ≤ (nn : Int) := by omega
  have j2 : (nn : Int) ≤ (dc : Int) := by omega
  have j3 : nn ≤ dc := by omega
  obtain ⟨b, hb⟩ : ∃ b, l.take nn = b := ⟨_, rfl⟩
  have lb : b.length = nn := by rw [← hb, List.length_take]; omega
  have hnt : (u16v l 4).toNat = nn := by rw [hn]; simp
  rw [hnt, hb] at hz
  have RB : Hid (∀ W, Row W da l → Row W da b) := fun W hW => by rw [← hb]; exact hW.take nn
  obtain ⟨z, hz0⟩ : ∃ z, u16v b 6 = z := ⟨_, rfl⟩
  have K2 : Hid (∀ W, Row W da l → Calls Try.prog 71 #[.slice da nn dc, .int .i64 6] W fun e w' => e = .returned (.int .i64 z) ∧ Below W.heap.size W w') := fun W hW => by
    have := segU16_any da dc b 6 W (RB.out W hW) (by decide)
    rw [hz0, lb] at this
    exact this
  obtain ⟨a3, ha3⟩ : ∃ a3, (if dc = 8 then da else da.map (fun x => x.add 8)) = a3 := ⟨_, rfl⟩
  have H3 : Hid ((if dc = 8 then da else Option.map (fun x => { block := x.block, off := x.off + 8 }) da) = a3) := by
    obtain ⟨bk, off, e, _⟩ := h.cells (by omega)
    have : (if dc = 8 then da else Option.map (fun x => { block := x.block, off := x.off + 8 }) da) = a3 := by
      rw [← ha3, e]
      simp [Go.WideShapes.add_plain]
    exact this
  obtain ⟨D, hD⟩ : ∃ D, b.drop 8 = D := ⟨_, rfl⟩
  have lD : D.length = nn - 8 := by rw [← hD, List.length_drop, lb]
  have KC : Hid (∀ W, Row W da l → Calls Try.prog 72 #[.slice a3 (nn - 8) (dc - 8)] W fun e w' => ∃ a' c', e = .returned (.slice a' D.length c') ∧ Fresh W w' a' c' D) := fun W hW => by
    have hr := (RB.out W hW).drop dc 8 (by omega)
    rw [ha3, hD] at hr
    have := clone_any a3 (dc - 8) D W hr (fun e => by
      rw [e] at ha3
      split at ha3
      · omega
      · have : da = none := by simpa using ha3
        have := hnil this
        omega)
    rw [lD] at this ⊢
    exact this
  obtain ⟨V, hV⟩ : ∃ V, portsOf f pr l = V := ⟨_, rfl⟩
  have KW : Hid (∀ W, Row W da l → Calls Try.prog 70 #[.agg (sRa f sf sh sl df dh dl pr ho fg id of mo xa xn xc da l.length dc)] W fun e w' => e = .returned (.agg (sRb f pr sf sh sl df dh dl V.1 V.2)) ∧ Below W.heap.size W w') := fun W hW => by
    have := way_any f sf sh sl df dh dl pr ho fg id of mo xa xn xc da dc l W hW (by omega)
    rw [hV] at this
    exact this
  have e : udpX f pr ⟨sf, sh, sl⟩ ⟨df, dh, dl⟩ l = ⟨⟨f, pr, ⟨sf, sh, sl⟩, ⟨df, dh, dl⟩, V.1, V.2⟩, 0, 0, 0, 0, 0, 0, false, zTp, D⟩ := by
    unfold udpX endT
    rw [hV, hnt, hb, hD]
  rw [e]
  have HD : Hid (D.length = nn - 8) := lD
  have j8 : (8 : Int) ≤ (nn : Int) := by omega
  have j9 : 8 ≤ nn := by omega
  clear e hV hD lD ha3
  rw [hz0] at hz
  subst hz
  have HB : Hid (l.take nn = b ∧ b.length = nn ∧ (u16v l 4).toNat = nn) := ⟨hb, lb, hnt⟩
  clear hb lb hnt hnn hn
  have f6 : (f == 6) = false := by simpa using h66
  clear h66
  go_enter Try.func56, Try.ntmps56
  go_wp2_with fail
  refine Calls.mono K1.out ?_
  rintro e W3 ⟨rfl, bb⟩
  have b3 := bel_tr b2 bb
  have B3 := B1.kept bb
  have B3' := B2.kept bb
  have d0 := B3.cell 0 (.int .i64 f) rfl
  have d14 := B3.cell 14 (.slice da l.length dc) rfl
  clear K1 bb B1 B2 b2 hW1 hW2
  go_wp2_with fail
  refine Calls.mono (K2.out _ (h.below b3)) ?_
  rintro e W4 ⟨rfl, bb⟩
  have b4 := bel_tr b3 bb
  have B4 := B3.kept bb
  have B4' := B3'.kept bb
  clear d0 d14
  have d0 := B4.cell 0 (.int .i64 f) rfl
  clear K2 bb B3 B3' b3
  go_wp2_with fail
  refine wp_region_noPanic ?_
  refine wp_region_held_drew (S := fun w' => Blk w' w.heap.size 64 (sRa f sf sh sl df dh dl pr ho fg id of mo xa xn xc da l.length dc)) (by kernel_rfl) (by exact B4.drew) (fun hHeld => ?_)
  refine wpAnyH_take (i := 0) (oi := sgrR11o6) (v := (.agg (sRa f sf sh sl df dh dl pr ho fg id of mo xa xn xc da l.length dc))) rfl (by kernel_rfl) (by kernel_rfl) (by kernel_rfl) (fun _ _ _ h => h) (yieldsIf_blk rfl _ _ rfl w.heap.size (by rfl) _ (fun _ hSw => hSw) Try.underlying64 (by kernel_rfl)) hHeld ?_
  try simp only [pu]
  refine tk (i := 2) (oi := sgrR11o7) (v := (.slice da nn dc)) hHeld ?_ ?_
  · intro w9 hSw
    try dsimp only at hSw
    go_simp
  try simp only [pu]
  refine tk (i := 3) (oi := sgrR11o5) (v := (.slice a3 (nn - 8) (dc - 8))) hHeld ?_ ?_
  · intro w9 hSw
    try dsimp only at hSw
    go_simp
    exact H3.out
  try simp only [pu]
  refine wpAnyH_ready (rs := [1]) (by kernel_rfl) (by simp) ?_
  refine AllReadyH.cons (o := sgrR11o3) rfl (fun K hK => ?_) AllReadyH.nil
  go_simp
  refine Calls.mono (KW.out _ (h.below b4.drew)) ?_
  rintro e W6 ⟨rfl, bb⟩
  have B6 := B4.drew.kept bb
  have B6' := B4'.drew.kept bb
  have b6 : Below w.heap.size w W6 := b4.drew.trans (bb.mono b4.drew.size)
  refine hK.out _ _ ?_ (fun hHeld => ?_)
  · exact B6
  clear hK K
  try simp only [pu]
  refine wpAnyH_ready (rs := [4]) (by kernel_rfl) (by simp) ?_
  refine AllReadyH.cons (o := sgrR11o2) rfl (fun K hK => ?_) AllReadyH.nil
  go_simp
  refine Calls.mono (KC.out _ (h.below b6)) ?_
  rintro e W7 ⟨a7, c7, rfl, f7⟩
  have B7 := B6.kept f7.below
  have B7' := B6'.kept f7.below
  have b7 := bel_tr b6 f7.below
  refine hK.out _ _ ?_ (fun hHeld => ?_)
  · exact B7
  clear hK K
  try simp only [pu]
  refine wpAnyH_take (i := 5) (oi := sgrR11o4) (v := (.agg (sRc f pr sf sh sl df dh dl V.1 V.2 0 0 0 0 0 0 false 0 0 0 0 0 0 0 0 0 0 a7 D.length c7))) rfl (by kernel_rfl) (by kernel_rfl) (by kernel_rfl) (fun _ _ _ h => h) (yieldsIf_build rfl _ _ rfl #[(0, .agg (sRb f pr sf sh sl df dh dl V.1 V.2)), (9, .slice a7 D.length c7)] (by kernel_rfl) _ (fun w9 => by kernel_rfl)) hHeld ?_
  try simp only [pu]
  refine wpAnyH_ready (rs := [6]) (by kernel_rfl) (by simp) ?_
  refine AllReadyH.cons (o := sgrR11o1) rfl (fun K hK => ?_) AllReadyH.nil
  refine step_store_blk rfl _ _ _ rfl W1.heap.size (sRc f pr sf sh sl df dh dl V.1 V.2 0 0 0 0 0 0 false 0 0 0 0 0 0 0 0 0 0 a7 D.length c7) _ (by kernel_rfl) (by kernel_rfl) B7' (by kernel_rfl) (by rfl) (by kernel_rfl) ?_
  refine hK.out _ _ ?_ (fun hHeld => ?_)
  · exact B7.other (by omega) _
  clear hK K
  try simp only [pu]
  refine tk (i := 7) (oi := sgrR11o0) (v := (.int .i64 0)) hHeld ?_ ?_
  · intro w9 hSw
    try dsimp only at hSw
    go_simp
  try simp only [pu]
  refine wpAnyH_done (by kernel_rfl) ?_ _
  refine NoPanic.normal ?_
  have Bf := B7'.set (sRc f pr sf sh sl df dh dl V.1 V.2 0 0 0 0 0 0 false 0 0 0 0 0 0 0 0 0 0 a7 D.length c7)
  have bf := below_setRow b7 (Nat.le_of_lt g1) (sRc f pr sf sh sl df dh dl V.1 V.2 0 0 0 0 0 0 false 0 0 0 0 0 0 0 0 0 0 a7 D.length c7)
  have oo := (owns_le (B' := W1.heap.size + 1) (by have := B6'.lt; omega) f7.owns).row_other (Nat.lt_succ_self _) (sRc f pr sf sh sl df dh dl V.1 V.2 0 0 0 0 0 0 false 0 0 0 0 0 0 0 0 0 0 a7 D.length c7)
  go_wp2_with fail
  refine ret_cell_tmp (k := 2) (j := 3) Try.f56 (by kernel_rfl) Bf Try.underlying38 (by kernel_rfl) (by rfl) (by rfl) rfl ?_
  exact ⟨a7, c7, rfl, owns_le (by omega) oo, f7.room, f7.nil, oo.row f7.row.small f7.row.bytes, bf⟩
set_option maxRecDepth 100000 in
set_option maxHeartbeats 4000000 in
theorem udp_okb (f sf sh sl df dh dl pr ho : Int) (fg : Bool) (id of : Int) (mo : Bool) (xa : Option Addr) (xn xc : Nat) (da : Option Addr) (dc : Nat) (l : List Int) (w : World) (h : Row w da l) (hnil : da = none → dc = 0) (hc : l.length ≤ dc) (hcm : dc ≤ 9223372036854775807) (hs : Ad.ok ⟨sf, sh, sl⟩) (hd : Ad.ok ⟨df, dh, dl⟩) (h8 : ¬ l.length < 8) (h5 : ¬ u16v l 4 < 8) (h6 : ¬ u16v l 4 > (l.length : Int)) (hz : ¬ u16v (l.take (u16v l 4).toNat) 6 = 0) (hsum : sumsB ⟨sf, sh, sl⟩ ⟨df, dh, dl⟩ pr (l.take (u16v l 4).toNat) = true) :
    Calls Try.prog 56 #[.agg (sRa f sf sh sl df dh dl pr ho fg id of mo xa xn xc da l.length dc)] w (GotS w 0 (udpX f pr ⟨sf, sh, sl⟩ ⟨df, dh, dl⟩ l)) := by
  obtain ⟨W1, hW1⟩ : ∃ W1, w.alloc (.cells (sRa f sf sh sl df dh dl pr ho fg id of mo xa xn xc da l.length dc) 64) = W1 := ⟨_, rfl⟩
  obtain ⟨W2, hW2⟩ : ∃ W2, W1.alloc (.cells (sRc 0 0 0 0 0 0 0 0 0 0 0 0 0 0 0 0 false 0 0 0 0 0 0 0 0 0 0 none 0 0) 38) = W2 := ⟨_, rfl⟩
  have b1 := bel_nw hW1
  have b2 := bel_al b1 hW2
  have B1' := blk_nw hW1
  have B1 := B1'.al hW2
  have B2 := blk_nw hW2
  have g1 : w.heap.size < W1.heap.size := B1'.lt
  clear B1'
  have d0 := B1.cell 0 (.int .i64 f) rfl
  have d14 := B1.cell 14 (.slice da l.length dc) rfl
  have h8' : ¬ (l.length : Int) < 8 := by omega
  have hnn := u16v_bd h.bytes 4
  obtain ⟨nn, hn⟩ := Int.eq_ofNat_of_zero_le hnn.1
  have K1 := segU16_any da dc l 4 W2 (h.below b2) (by decide)
  rw [hn] at K1
  have K1 : Hid _ := K1
  rw [hn] at h5 h6
  have n8 : 8 ≤ nn := by omega
  have nl : nn ≤ l.length := by omega
  have j1 : (0 : Int) ≤ (nn : Int) := by omega
  have j2 : (nn : Int) ≤ (dc : Int) := by omega
  have j3 : nn ≤ dc := by omega
  obtain ⟨b, hb⟩ : ∃ b, l.take nn = b := ⟨_, rfl⟩
  have lb : b.length = nn := by rw [← hb, List.length_take]; omega
  have hnt : (u16v l 4).toNat = nn := by rw [hn]; simp
  rw [hnt, hb] at hz
  have RB : Hid (∀ W, Row W da l → Row W da b) := fun W hW => by rw [← hb]; exact hW.take nn
  obtain ⟨z, hz0⟩ : ∃ z, u16v b 6 = z := ⟨_, rfl⟩
  have K2 : Hid (∀ W, Row W da l → Calls Try.prog 71 #[.slice da nn dc, .int .i64 6] W fun e w' => e = .returned (.int .i64 z) ∧ Below W.heap.size W w') := fun W hW => by
    have := segU16_any da dc b 6 W (RB.out W hW) (by decide)
    rw [hz0, lb] at this
    exact this
  obtain ⟨a3, ha3⟩ : ∃ a3, (if dc = 8 then da else da.map (fun x => x.add 8)) = a3 := ⟨_, rfl⟩
  have H3 : Hid ((if dc = 8 then da else Option.map (fun x => { block := x.block, off := x.off + 8 }) da) = a3) := by
    obtain ⟨bk, off, e, _⟩ := h.cells (by omega)
    have : (if dc = 8 then da else Option.map (fun x => { block := x.block, off := x.off + 8 }) da) = a3 := by
      rw [← ha3, e]
      simp [Go.WideShapes.add_plain]
    exact this
  obtain ⟨D, hD⟩ : ∃ D, b.drop 8 = D := ⟨_, rfl⟩
  have lD : D.length = nn - 8 := by rw [← hD, List.length_drop, lb]
  have KC : Hid (∀ W, Row W da l → Calls Try.prog 72 #[.slice a3 (nn - 8) (dc - 8)] W fun e w' => ∃ a' c', e = .returned (.slice a' D.length c') ∧ Fresh W w' a' c' D) := fun W hW => by
    have hr := (RB.out W hW).drop dc 8 (by omega)
    rw [ha3, hD] at hr
    have := clone_any a3 (dc - 8) D W hr (fun e => by
      rw [e] at ha3
      split at ha3
      · omega
      · have : da = none := by simpa using ha3
        have := hnil this
        omega)
    rw [lD] at this ⊢
    exact this
  obtain ⟨V, hV⟩ : ∃ V, portsOf f pr l = V := ⟨_, rfl⟩
  have KW : Hid (∀ W, Row W da l → Calls Try.prog 70 #[.agg (sRa f sf sh sl df dh dl pr ho fg id of mo xa xn xc da l.length dc)] W fun e w' => e = .returned (.agg (sRb f pr sf sh sl df dh dl V.1 V.2)) ∧ Below W.heap.size W w') := fun W hW => by
    have := way_any f sf sh sl df dh dl pr ho fg id of mo xa xn xc da dc l W hW (by omega)
    rw [hV] at this
    exact this
  have e : udpX f pr ⟨sf, sh, sl⟩ ⟨df, dh, dl⟩ l = ⟨⟨f, pr, ⟨sf, sh, sl⟩, ⟨df, dh, dl⟩, V.1, V.2⟩, 0, 0, 0, 0, 0, 0, false, zTp, D⟩ := by
    unfold udpX endT
    rw [hV, hnt, hb, hD]
  rw [e]
  have HD : Hid (D.length = nn - 8) := lD
  have j8 : (8 : Int) ≤ (nn : Int) := by omega
  have j9 : 8 ≤ nn := by omega
  clear e hV hD lD ha3
  rw [hz0] at hz
  rw [hnt, hb] at hsum
  have KS : Hid (∀ W, Row W da l → Calls Try.prog 67 #[.agg (sRa f sf sh sl df dh dl pr ho fg id of mo xa xn xc da l.length dc), .slice da nn dc] W fun e w' => e = .returned (.bool true) ∧ Below W.heap.size W w') := fun W hW => by
    have := sumsUp_any f sf sh sl df dh dl pr ho fg id of mo xa xn xc da dc l da dc b W (RB.out W hW) hs hd
    rw [lb, hsum] at this
    exact this
  have hz' : (z == 0) = false := by simpa using hz
  clear hz hsum
  have HB : Hid (l.take nn = b ∧ b.length = nn ∧ (u16v l 4).toNat = nn) := ⟨hb, lb, hnt⟩
  clear hb lb hnt hnn hn
  go_enter Try.func56, Try.ntmps56
  go_wp2_with fail
  refine Calls.mono K1.out ?_
  rintro e W3 ⟨rfl, bb⟩
  have b3 := bel_tr b2 bb
  have B3 := B1.kept bb
  have B3' := B2.kept bb
  have d0 := B3.cell 0 (.int .i64 f) rfl
  have d14 := B3.cell 14 (.slice da l.length dc) rfl
  clear K1 bb B1 B2 b2 hW1 hW2
  go_wp2_with fail
  refine Calls.mono (K2.out _ (h.below b3)) ?_
  rintro e W4 ⟨rfl, bb⟩
  have b4 := bel_tr b3 bb
  have B4 := B3.kept bb
  have B4' := B3'.kept bb
  clear d0 d14
  have d0 := B4.cell 0 (.int .i64 f) rfl
  clear K2 bb B3 B3' b3
  clear d0
  have d0 := B4.cell 0 (.int .i64 f) rfl
  have d1 := B4.cell 1 (.int .i64 sf) rfl
  have d2 := B4.cell 2 (.int .u64 sh) rfl
  have d3 := B4.cell 3 (.int .u64 sl) rfl
  have d4 := B4.cell 4 (.int .i64 df) rfl
  have d5 := B4.cell 5 (.int .u64 dh) rfl
  have d6 := B4.cell 6 (.int .u64 dl) rfl
  have d7 := B4.cell 7 (.int .i64 pr) rfl
  have d8 := B4.cell 8 (.int .i64 ho) rfl
  have d9 := B4.cell 9 (.bool fg) rfl
  have d10 := B4.cell 10 (.int .u32 id) rfl
  have d11 := B4.cell 11 (.int .i64 of) rfl
  have d12 := B4.cell 12 (.bool mo) rfl
  have d13 := B4.cell 13 (.slice xa xn xc) rfl
  have d14 := B4.cell 14 (.slice da l.length dc) rfl
  go_wp2_with fail
  refine Calls.mono (KS.out _ (h.below b4)) ?_
  rintro e W5 ⟨rfl, bb⟩
  have b5 := bel_tr b4 bb
  have B5 := B4.kept bb
  have B5' := B4'.kept bb
  clear d0 d1 d2 d3 d4 d5 d6 d7 d8 d9 d10 d11 d12 d13 d14 KS bb B4 B4' b4
  go_wp2_with fail
  refine wp_region_noPanic ?_
  refine wp_region_held_drew (S := fun w' => Blk w' w.heap.size 64 (sRa f sf sh sl df dh dl pr ho fg id of mo xa xn xc da l.length dc)) (by kernel_rfl) (by exact B5.drew) (fun hHeld => ?_)
  refine wpAnyH_take (i := 0) (oi := sgrR11o6) (v := (.agg (sRa f sf sh sl df dh dl pr ho fg id of mo xa xn xc da l.length dc))) rfl (by kernel_rfl) (by kernel_rfl) (by kernel_rfl) (fun _ _ _ h => h) (yieldsIf_blk rfl _ _ rfl w.heap.size (by rfl) _ (fun _ hSw => hSw) Try.underlying64 (by kernel_rfl)) hHeld ?_
  try simp only [pu]
  refine tk (i := 2) (oi := sgrR11o7) (v := (.slice da nn dc)) hHeld ?_ ?_
  · intro w9 hSw
    try dsimp only at hSw
    go_simp
  try simp only [pu]
  refine tk (i := 3) (oi := sgrR11o5) (v := (.slice a3 (nn - 8) (dc - 8))) hHeld ?_ ?_
  · intro w9 hSw
    try dsimp only at hSw
    go_simp
    exact H3.out
  try simp only [pu]
  refine wpAnyH_ready (rs := [1]) (by kernel_rfl) (by simp) ?_
  refine AllReadyH.cons (o := sgrR11o3) rfl (fun K hK => ?_) AllReadyH.nil
  go_simp
  refine Calls.mono (KW.out _ (h.below b5.drew)) ?_
  rintro e W6 ⟨rfl, bb⟩
  have B6 := B5.drew.kept bb
  have B6' := B5'.drew.kept bb
  have b6 : Below w.heap.size w W6 := b5.drew.trans (bb.mono b5.drew.size)
  refine hK.out _ _ ?_ (fun hHeld => ?_)
  · exact B6
  clear hK K
  try simp only [pu]
  refine wpAnyH_ready (rs := [4]) (by kernel_rfl) (by simp) ?_
  refine AllReadyH.cons (o := sgrR11o2) rfl (fun K hK => ?_) AllReadyH.nil
  go_simp
  refine Calls.mono (KC.out _ (h.below b6)) ?_
  rintro e W7 ⟨a7, c7, rfl, f7⟩
  have B7 := B6.kept f7.below
  have B7' := B6'.kept f7.below
  have b7 := bel_tr b6 f7.below
  refine hK.out _ _ ?_ (fun hHeld => ?_)
  · exact B7
  clear hK K
  try simp only [pu]
  refine wpAnyH_take (i := 5) (oi := sgrR11o4) (v := (.agg (sRc f pr sf sh sl df dh dl V.1 V.2 0 0 0 0 0 0 false 0 0 0 0 0 0 0 0 0 0 a7 D.length c7))) rfl (by kernel_rfl) (by kernel_rfl) (by kernel_rfl) (fun _ _ _ h => h) (yieldsIf_build rfl _ _ rfl #[(0, .agg (sRb f pr sf sh sl df dh dl V.1 V.2)), (9, .slice a7 D.length c7)] (by kernel_rfl) _ (fun w9 => by kernel_rfl)) hHeld ?_
  try simp only [pu]
  refine wpAnyH_ready (rs := [6]) (by kernel_rfl) (by simp) ?_
  refine AllReadyH.cons (o := sgrR11o1) rfl (fun K hK => ?_) AllReadyH.nil
  refine step_store_blk rfl _ _ _ rfl W1.heap.size (sRc f pr sf sh sl df dh dl V.1 V.2 0 0 0 0 0 0 false 0 0 0 0 0 0 0 0 0 0 a7 D.length c7) _ (by kernel_rfl) (by kernel_rfl) B7' (by kernel_rfl) (by rfl) (by kernel_rfl) ?_
  refine hK.out _ _ ?_ (fun hHeld => ?_)
  · exact B7.other (by omega) _
  clear hK K
  try simp only [pu]
  refine tk (i := 7) (oi := sgrR11o0) (v := (.int .i64 0)) hHeld ?_ ?_
  · intro w9 hSw
    try dsimp only at hSw
    go_simp
  try simp only [pu]
  refine wpAnyH_done (by kernel_rfl) ?_ _
  refine NoPanic.normal ?_
  have Bf := B7'.set (sRc f pr sf sh sl df dh dl V.1 V.2 0 0 0 0 0 0 false 0 0 0 0 0 0 0 0 0 0 a7 D.length c7)
  have bf := below_setRow b7 (Nat.le_of_lt g1) (sRc f pr sf sh sl df dh dl V.1 V.2 0 0 0 0 0 0 false 0 0 0 0 0 0 0 0 0 0 a7 D.length c7)
  have oo := (owns_le (B' := W1.heap.size + 1) (by have := B6'.lt; omega) f7.owns).row_other (Nat.lt_succ_self _) (sRc f pr sf sh sl df dh dl V.1 V.2 0 0 0 0 0 0 false 0 0 0 0 0 0 0 0 0 0 a7 D.length c7)
  go_wp2_with fail
  refine ret_cell_tmp (k := 2) (j := 3) Try.f56 (by kernel_rfl) Bf Try.underlying38 (by kernel_rfl) (by rfl) (by rfl) rfl ?_
  exact ⟨a7, c7, rfl, owns_le (by omega) oo, f7.room, f7.nil, oo.row f7.row.small f7.row.bytes, bf⟩
theorem udp_any (f sf sh sl df dh dl pr ho : Int) (fg : Bool) (id of : Int) (mo : Bool) (xa : Option Addr) (xn xc : Nat) (da : Option Addr) (dc : Nat) (l : List Int) (w : World) (h : Row w da l) (hnil : da = none → dc = 0) (hc : l.length ≤ dc) (hcm : dc ≤ 9223372036854775807) (hs : Ad.ok ⟨sf, sh, sl⟩) (hd : Ad.ok ⟨df, dh, dl⟩) :
    Calls Try.prog 56 #[.agg (sRa f sf sh sl df dh dl pr ho fg id of mo xa xn xc da l.length dc)] w (GotS w (udpE f pr ⟨sf, sh, sl⟩ ⟨df, dh, dl⟩ l) (if udpE f pr ⟨sf, sh, sl⟩ ⟨df, dh, dl⟩ l = 0 then udpX f pr ⟨sf, sh, sl⟩ ⟨df, dh, dl⟩ l else zSg)) := by
  obtain ⟨E, hE⟩ : ∃ E, udpE f pr ⟨sf, sh, sl⟩ ⟨df, dh, dl⟩ l = E := ⟨_, rfl⟩
  rw [hE]
  unfold udpE at hE
  split at hE
  · rename_i h8
    subst hE
    exact udp_e2 f sf sh sl df dh dl pr ho fg id of mo xa xn xc da dc l w h hnil hc hcm hs hd h8
  rename_i h8
  split at hE
  · rename_i h5
    subst hE
    by_cases h5a : u16v l 4 < 8
    · exact udp_e5a f sf sh sl df dh dl pr ho fg id of mo xa xn xc da dc l w h hnil hc hcm hs hd h8 h5a
    · exact udp_e5b f sf sh sl df dh dl pr ho fg id of mo xa xn xc da dc l w h hnil hc hcm hs hd h8 h5a (by omega)
  rename_i h5
  have h5a : ¬ u16v l 4 < 8 := by omega
  have h6a : ¬ u16v l 4 > (l.length : Int) := by omega
  split at hE
  · rename_i hz
    split at hE
    · rename_i h66
      subst hE
      exact udp_e6a f sf sh sl df dh dl pr ho fg id of mo xa xn xc da dc l w h hnil hc hcm hs hd h8 h5a h6a hz h66
    · rename_i h66
      subst hE
      exact udp_oka f sf sh sl df dh dl pr ho fg id of mo xa xn xc da dc l w h hnil hc hcm hs hd h8 h5a h6a hz h66
  · rename_i hz
    split at hE
    · rename_i hsum
      subst hE
      exact udp_okb f sf sh sl df dh dl pr ho fg id of mo xa xn xc da dc l w h hnil hc hcm hs hd h8 h5a h6a hz hsum
    · rename_i hsum
      subst hE
      exact udp_e6b f sf sh sl df dh dl pr ho fg id of mo xa xn xc da dc l w h hnil hc hcm hs hd h8 h5a h6a hz (by simpa using hsum)
end Go.Proofs.Ytpjjkdgmfjhfiaa
