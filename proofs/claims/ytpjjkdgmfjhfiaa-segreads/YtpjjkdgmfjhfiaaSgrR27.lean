/- Texts joined: SgRm SgZ SgPm RefSum SgAl -/
import Derived.Test.YtpjjkdgmfjhfiaaSgrR24
import Derived.Test.YtpjjkdgmfjhfiaaSgrR26
namespace Go.Proofs.Ytpjjkdgmfjhfiaa
open Go.RowKit
set_option linter.unusedVariables false
set_option linter.unusedSimpArgs false
theorem rIcmp_any (f : Int) (w : World) : Calls Try.prog 36 #[.int .i64 f] w fun e w' => e = .returned (.int .i64 (icmpOf f)) ∧ w' = w := by
  go_enter Try.func36, Try.ntmps36
  go_wp2_with fail
  all_goals (go_ret; exact ⟨ret_int (by unfold icmpOf; simp_all), rfl⟩)
set_option maxRecDepth 100000 in
set_option maxHeartbeats 4000000 in
theorem build_yes (x : Sg) (a : Option Addr) (c : Nat) (w : World) (h : Row w a x.data) (hnil : a = none → c = 0) (ok : x.ok) (hE : endsB x.t.fam x.t.s x.t.d = true) (hP : protoB x = true) (hN : numB x = true) (hL : x.data.length ≤ 65000) :
    Calls Try.prog 19 #[.agg (sRc x.t.fam x.t.pr x.t.s.fam x.t.s.hi x.t.s.lo x.t.d.fam x.t.d.hi x.t.d.lo x.t.sp x.t.dp x.fl x.sq x.ak x.wn x.ty x.cd x.er x.inn.fam x.inn.pr x.inn.s.fam x.inn.s.hi x.inn.s.lo x.inn.d.fam x.inn.d.hi x.inn.d.lo x.inn.sp x.inn.dp a x.data.length c)] w fun e w' => ∃ a' c', e = .returned (.tuple #[.slice a' (madeB x).length c', .int .i64 0]) ∧ Fresh w w' a' c' (madeB x) := by
  obtain ⟨W1, hW1⟩ : ∃ W1, w.alloc (.cells (sRc x.t.fam x.t.pr x.t.s.fam x.t.s.hi x.t.s.lo x.t.d.fam x.t.d.hi x.t.d.lo x.t.sp x.t.dp x.fl x.sq x.ak x.wn x.ty x.cd x.er x.inn.fam x.inn.pr x.inn.s.fam x.inn.s.hi x.inn.s.lo x.inn.d.fam x.inn.d.hi x.inn.d.lo x.inn.sp x.inn.dp a x.data.length c) 38) = W1 := ⟨_, rfl⟩
  have b1 := bel_nw hW1
  have B1 := blk_nw hW1
  have g1 : w.heap.size < W1.heap.size := B1.lt
  obtain ⟨W2, hW2⟩ : ∃ W2, W1.alloc (.cells (sRb 0 0 0 0 0 0 0 0 0 0) 26) = W2 := ⟨_, rfl⟩
  have b2 := bel_al b1 hW2
  have B2 := B1.al hW2
  have T2 := blk_nw hW2
  obtain ⟨W3, hW3⟩ : ∃ W, W2.setRow W1.heap.size (sRb x.t.fam x.t.pr x.t.s.fam x.t.s.hi x.t.s.lo x.t.d.fam x.t.d.hi x.t.d.lo x.t.sp x.t.dp) = W := ⟨_, rfl⟩
  have b3 : Below w.heap.size w W3 := by rw [← hW3]; exact below_setRow b2 (Nat.le_of_lt g1) _
  have B3 : Blk W3 w.heap.size 38 (sRc x.t.fam x.t.pr x.t.s.fam x.t.s.hi x.t.s.lo x.t.d.fam x.t.d.hi x.t.d.lo x.t.sp x.t.dp x.fl x.sq x.ak x.wn x.ty x.cd x.er x.inn.fam x.inn.pr x.inn.s.fam x.inn.s.hi x.inn.s.lo x.inn.d.fam x.inn.d.hi x.inn.d.lo x.inn.sp x.inn.dp a x.data.length c) := by rw [← hW3]; exact B2.other (by omega) _
  have T3 : Blk W3 W1.heap.size 26 (sRb x.t.fam x.t.pr x.t.s.fam x.t.s.hi x.t.s.lo x.t.d.fam x.t.d.hi x.t.d.lo x.t.sp x.t.dp) := by rw [← hW3]; exact T2.set _
  have HW3 : Hid _ := hW3
  clear hW3
  have K0 : Hid _ := ofFamily_any x.t.fam x.t.s.fam x.t.s.hi x.t.s.lo x.t.d.fam x.t.d.hi x.t.d.lo W3
  have e0 := T3.cell 0 (.int .i64 x.t.fam) rfl
  have e1 := T3.cell 1 (.int .i64 x.t.pr) rfl
  have e2 := T3.cell 2 (.int .i64 x.t.s.fam) rfl
  have e3 := T3.cell 3 (.int .u64 x.t.s.hi) rfl
  have e4 := T3.cell 4 (.int .u64 x.t.s.lo) rfl
  have e5 := T3.cell 5 (.int .i64 x.t.d.fam) rfl
  have e6 := T3.cell 6 (.int .u64 x.t.d.hi) rfl
  have e7 := T3.cell 7 (.int .u64 x.t.d.lo) rfl
  rw [show endsB x.t.fam ⟨x.t.s.fam, x.t.s.hi, x.t.s.lo⟩ ⟨x.t.d.fam, x.t.d.hi, x.t.d.lo⟩ = true from hE] at K0
  have KP : Hid (∀ W, Calls Try.prog 39 #[.agg (sRb x.t.fam x.t.pr x.t.s.fam x.t.s.hi x.t.s.lo x.t.d.fam x.t.d.hi x.t.d.lo x.t.sp x.t.dp)] W fun e w' => e = .returned (.bool true) ∧ Below W.heap.size W w') := fun W => by
    have := rightProto_any x W
    rw [hP] at this
    exact this
  have KN : Hid (∀ W, Calls Try.prog 40 #[.agg (sRc x.t.fam x.t.pr x.t.s.fam x.t.s.hi x.t.s.lo x.t.d.fam x.t.d.hi x.t.d.lo x.t.sp x.t.dp x.fl x.sq x.ak x.wn x.ty x.cd x.er x.inn.fam x.inn.pr x.inn.s.fam x.inn.s.hi x.inn.s.lo x.inn.d.fam x.inn.d.hi x.inn.d.lo x.inn.sp x.inn.dp a x.data.length c)] W fun e w' => e = .returned (.bool true) ∧ Below W.heap.size W w') := fun W => by
    have := rightNumbers_any x a c W
    rw [hN] at this
    exact this
  obtain ⟨HD, hHD⟩ : ∃ L, headB x = L := ⟨_, rfl⟩
  obtain ⟨P, hP_⟩ : ∃ P, placeB x = P := ⟨_, rfl⟩
  obtain ⟨BD, hBD⟩ : ∃ L, bodyB x = L := ⟨_, rfl⟩
  have hBD' : HD ++ x.data = BD := by rw [← hBD, ← hHD]; rfl
  have lH := headB_len x
  rw [hHD, hP_] at lH
  have lB : BD.length = HD.length + x.data.length := by rw [← hBD', List.length_append]
  have lP : P + 2 ≤ BD.length := by omega
  have lB2 : BD.length ≤ 65020 := by omega
  obtain ⟨L0, hL0⟩ : ∃ L, ahead x.t.s x.t.d x.t.pr BD.length = L := ⟨_, rfl⟩
  obtain ⟨SU, hSU⟩ : ∃ s, sumB x = s := ⟨_, rfl⟩
  have hSU' : 65535 - M.sumOf [L0, BD] = SU := by rw [← hSU, ← hL0, ← hBD]; rfl
  have qS := sumB_bd x
  rw [hSU] at qS
  obtain ⟨CK, hCK⟩ : ∃ s, checkB x = s := ⟨_, rfl⟩
  have qC := checkB_bd x
  rw [hCK] at qC
  obtain ⟨MD, hMD⟩ : ∃ s, madeB x = s := ⟨_, rfl⟩
  have hMD' : (BD.set P (CK / 256)).set (P + 1) (CK % 256) = MD := by rw [← hMD, ← hBD, ← hP_, ← hCK]; rfl
  rw [hMD]
  have KW : Hid (∀ W, Calls Try.prog 41 #[.agg (sRc x.t.fam x.t.pr x.t.s.fam x.t.s.hi x.t.s.lo x.t.d.fam x.t.d.hi x.t.d.lo x.t.sp x.t.dp x.fl x.sq x.ak x.wn x.ty x.cd x.er x.inn.fam x.inn.pr x.inn.s.fam x.inn.s.hi x.inn.s.lo x.inn.d.fam x.inn.d.hi x.inn.d.lo x.inn.sp x.inn.dp a x.data.length c)] W fun e w' => ∃ a' c', e = .returned (.tuple #[.slice a' HD.length c', .int .i64 (P : Nat)]) ∧ Fresh W w' a' c' HD) := fun W => by
    have := written_any x a c W ok.sq ok.ak h.small
    rw [hHD, hP_] at this
    exact this
  have KS : Hid (∀ W, Calls Try.prog 43 #[.agg (sRb x.t.fam x.t.pr x.t.s.fam x.t.s.hi x.t.s.lo x.t.d.fam x.t.d.hi x.t.d.lo x.t.sp x.t.dp), .int .i64 (BD.length : Int)] W fun e w' => ∃ a c, e = .returned (.slice a L0.length c) ∧ Fresh W w' a c L0) := fun W => by
    have := summed_any x.t.fam x.t.pr x.t.s.fam x.t.s.hi x.t.s.lo x.t.d.fam x.t.d.hi x.t.d.lo x.t.sp x.t.dp (BD.length : Int) W ok.s ok.d
    rw [show ahead ⟨x.t.s.fam, x.t.s.hi, x.t.s.lo⟩ ⟨x.t.d.fam, x.t.d.hi, x.t.d.lo⟩ x.t.pr (BD.length : Int) = L0 from hL0] at this
    exact this
  have KC : Hid (∀ W a' c' a2 c2, Row W a' L0 → Row W a2 BD → Calls Try.prog 42 #[.slice (some ⟨W.heap.size, 0, none⟩) 2 2] (W.alloc (.cells #[.slice a' L0.length c', .slice a2 BD.length c2] 28)) fun e w' => e = .returned (.int .i64 SU) ∧ w' = W.alloc (.cells #[.slice a' L0.length c', .slice a2 BD.length c2] 28)) := fun W a' c' a2 c2 h1 h2 => by
    have := check_any (some ⟨W.heap.size, 0, none⟩) 2 [L0, BD] _ (rowss_two W 28 W.heap.size rfl a' a2 c' c2 L0 BD h1 h2)
    rw [hSU'] at this
    exact this
  have HBD : Hid (HD ++ x.data = BD) := hBD'
  have HMD : Hid ((BD.set P (CK / 256)).set (P + 1) (CK % 256) = MD) := hMD'
  have hL' : ¬ (x.data.length : Int) > 65000 := by omega
  have j1 : (0 : Int) ≤ (P : Int) := by omega
  have j2 : (P : Int) < (BD.length : Int) := by omega
  have j3 : (P : Int) + 1 < (BD.length : Int) := by omega
  have w1 : IntKind.i64.wrap ((P : Int) + 1) = (P : Int) + 1 := wraps_i64 _ (by omega) (by omega)
  have wc1 : IntKind.u8.wrap (CK / 256) = CK / 256 := by rw [wrapU8]; omega
  have wc2 : IntKind.u8.wrap CK = CK % 256 := wrapU8 CK
  have hckc : CK = if SU = 0 ∧ x.t.pr = 17 then 65535 else SU := by rw [← hCK, ← hSU]; rfl
  have HCK : Hid (CK = if SU = 0 ∧ x.t.pr = 17 then 65535 else SU) := hckc
  clear hHD hP_ hBD hBD' hL0 hSU hSU' hCK hMD hMD' hckc lB lH
  go_enter Try.func19, Try.ntmps19
  go_wp2_with (first
    | (refine wpList_load_sub rfl _ _ rfl w.heap.size 0 38 (by rfl) _ (sRb x.t.fam x.t.pr x.t.s.fam x.t.s.hi x.t.s.lo x.t.d.fam x.t.d.hi x.t.d.lo x.t.sp x.t.dp) B1 (by rfl) Try.underlying26 (by kernel_rfl) ?_)
    | (refine wpList_store_row rfl _ _ _ rfl W1.heap.size (sRb x.t.fam x.t.pr x.t.s.fam x.t.s.hi x.t.s.lo x.t.d.fam x.t.d.hi x.t.d.lo x.t.sp x.t.dp) (by rfl) (by rfl) _ _ T2 (by kernel_rfl) (by rfl) (by kernel_rfl) ?_; rw [HW3.out]))
  refine Calls.mono K0.out ?_
  rintro e W4 ⟨rfl, bb⟩
  have b4 := bel_tr b3 bb
  have B4 := B3.kept bb
  have T4 := T3.kept bb
  clear K0 bb B1 b1 B2 T2 b2 B3 T3 b3 hW1 hW2 HW3 e0 e1 e2 e3 e4 e5 e6 e7
  go_wp2_with (refine wpList_load_blk_w (by kernel_rfl) _ _ rfl W1.heap.size (by rfl) _ T4 Try.underlying26 (by kernel_rfl) ?_)
  refine Calls.mono (KP.out _) ?_
  rintro e W5 ⟨rfl, bb⟩
  have b5 := bel_tr b4 bb
  have B5 := B4.kept bb
  have T5 := T4.kept bb
  clear KP bb B4 T4 b4
  go_wp2_with (refine wpList_load_blk_w (by kernel_rfl) _ _ rfl w.heap.size (by rfl) _ B5 Try.underlying38 (by kernel_rfl) ?_)
  refine Calls.mono (KN.out _) ?_
  rintro e W6 ⟨rfl, bb⟩
  have b6 := bel_tr b5 bb
  have B6 := B5.kept bb
  have T6 := T5.kept bb
  clear KN bb B5 T5 b5
  have e27 := B6.cell 27 (.slice a x.data.length c) rfl
  go_wp2_with (refine wpList_load_row rfl _ _ rfl w.heap.size (by rfl) _ _ _ _ B6 Try.underlying38 rfl (by kernel_rfl) ?_)
  refine Calls.mono (KW.out _) ?_
  rintro e W7 ⟨a7, c7, rfl, f7⟩
  have b7 := bel_tr b6 f7.below
  have B7 := B6.kept f7.below
  have T7 := T6.kept f7.below
  have e27 := B7.cell 27 (.slice a x.data.length c) rfl
  have KX : Hid _ := concat2 W7 a7 a c7 c HD x.data BD f7.row f7.nil (h.below b7) hnil HBD.out (by omega)
  clear KW f7 B6 T6 b6 HBD
  go_wp2_with fail
  refine Calls.mono KX.out ?_
  rintro e W8 ⟨a8, c8, rfl, f8⟩
  have b8 := bel_tr b7 f8.below
  have T8 := T7.kept f8.below
  have r8 := f8.row
  have O8 := owns_le (B' := W1.heap.size + 1) (by have := T7.lt; omega) f8.owns
  have rm8 := f8.room
  have nl8 := f8.nil
  clear KX f8 B7 T7 b7 e27
  go_wp2_with (refine wpList_load_row rfl _ _ rfl W1.heap.size (by rfl) _ _ _ _ T8 Try.underlying26 rfl (by kernel_rfl) ?_)
  refine Calls.mono (KS.out _) ?_
  rintro e W9 ⟨a9, c9, rfl, f9⟩
  have b9 := bel_tr b8 f9.below
  have T9 := T8.kept f9.below
  have r9 := r8.below f9.below
  have O9 := O8.below f9.below
  have q9 := f9.row
  clear KS f9 T8 b8 r8 O8
  go_wp2_with fail
  refine Calls.mono (KC.out _ _ _ _ _ q9 r9) ?_
  rintro e W10 ⟨rfl, hW10⟩
  have b10 : Below w.heap.size w W10 := by rw [hW10]; exact b9.alloc b9.size _
  have T10 : Blk W10 W1.heap.size 26 (sRb x.t.fam x.t.pr x.t.s.fam x.t.s.hi x.t.s.lo x.t.d.fam x.t.d.hi x.t.d.lo x.t.sp x.t.dp) := by rw [hW10]; exact T9.alloc _
  have r10 : Row W10 a8 BD := by rw [hW10]; exact r9.alloc _
  have O10 : Owns W10 (W1.heap.size + 1) (.slice a8 BD.length c8) BD := by rw [hW10]; exact O9.alloc _
  have t1 := T10.cell 1 (.int .i64 x.t.pr) rfl
  clear KC hW10 T9 b9 r9 O9 q9
  obtain ⟨g, rfl, hg1, hg2, y1, z1, O11⟩ := O10.write rfl P (by omega)
  obtain ⟨g', hg', _, _, y2, z2, _⟩ := O10.write rfl (P + 1) (by omega)
  cases hg'
  have O12 := (O11 (CK / 256)).write (by simp) (P + 1) (by omega)
  obtain ⟨g', hg', _, _, _, _, O12⟩ := O12
  cases hg'
  have Of := O12 (CK % 256)
  rw [HMD.out] at Of
  have bf := (b10.setCell (p := ⟨g, P, none⟩) (show w.heap.size ≤ g by omega) (.int .u8 (CK / 256))).setCell (p := ⟨g, P + 1, none⟩) (show w.heap.size ≤ g by omega) (.int .u8 (CK % 256))
  have lM : MD.length = BD.length := by rw [← HMD.out]; simp
  have bM : M.Bytes MD := by
    rw [← HMD.out]
    exact (r10.bytes.set P (by omega)).set (P + 1) (by omega)
  have HOf : Hid (Owns ((W10.setCell ⟨g, P, none⟩ (.int .u8 (CK / 256))).setCell ⟨g, P + 1, none⟩ (.int .u8 (CK % 256))) (W1.heap.size + 1) (.slice (some ⟨g, 0, none⟩) BD.length c8) MD) := Of
  have Hbf : Hid _ := bf
  clear O11 O12 O10 Of bf T10
  have lM' : Hid (MD.length = BD.length) := lM
  clear lM
  by_cases hz : SU = 0
  · have hz' : (SU == 0) = true := by simpa using hz
    by_cases h17 : x.t.pr = 17
    · have h17' : (x.t.pr == 17) = true := by simpa using h17
      have e : CK = 65535 := by rw [HCK.out, if_pos ⟨hz, h17⟩]
      subst e
      clear hz h17 HCK
      go_wp2
      go_ret2
      have lM := lM'.out
      have Of : Owns _ (W1.heap.size + 1) (.slice (some ⟨g, 0, none⟩) BD.length c8) MD := HOf.out
      rw [← lM] at Of
      have Rf := Owns.row Of (by omega) bM
      exact ⟨some ⟨g, 0, none⟩, c8, by rw [lM]; rfl, owns_le (by omega) Of, by omega, nl8, Rf, Hbf.out⟩
    · have h17' : (x.t.pr == 17) = false := by simpa using h17
      have e : CK = SU := by rw [HCK.out, if_neg (by intro hh; exact h17 hh.2)]
      subst e
      clear hz h17 HCK
      go_wp2
      go_ret2
      have lM := lM'.out
      have Of : Owns _ (W1.heap.size + 1) (.slice (some ⟨g, 0, none⟩) BD.length c8) MD := HOf.out
      rw [← lM] at Of
      have Rf := Owns.row Of (by omega) bM
      exact ⟨some ⟨g, 0, none⟩, c8, by rw [lM]; rfl, owns_le (by omega) Of, by omega, nl8, Rf, Hbf.out⟩
  · have hz' : (SU == 0) = false := by simpa using hz
    have e : CK = SU := by rw [HCK.out, if_neg (by intro hh; exact hz hh.1)]
    subst e
    clear hz HCK
    go_wp2
    go_ret2
    have lM := lM'.out
    have Of : Owns _ (W1.heap.size + 1) (.slice (some ⟨g, 0, none⟩) BD.length c8) MD := HOf.out
    rw [← lM] at Of
    have Rf := Owns.row Of (by omega) bM
    exact ⟨some ⟨g, 0, none⟩, c8, by rw [lM]; rfl, owns_le (by omega) Of, by omega, nl8, Rf, Hbf.out⟩
theorem build_any (x : Sg) (a : Option Addr) (c : Nat) (w : World) (h : Row w a x.data) (hnil : a = none → c = 0) (ok : x.ok) :
    Calls Try.prog 19 #[.agg (sRc x.t.fam x.t.pr x.t.s.fam x.t.s.hi x.t.s.lo x.t.d.fam x.t.d.hi x.t.d.lo x.t.sp x.t.dp x.fl x.sq x.ak x.wn x.ty x.cd x.er x.inn.fam x.inn.pr x.inn.s.fam x.inn.s.hi x.inn.s.lo x.inn.d.fam x.inn.d.hi x.inn.d.lo x.inn.sp x.inn.dp a x.data.length c)] w fun e w' => ∃ a' c', e = .returned (.tuple #[.slice a' (if mayB x = true then madeB x else []).length c', .int .i64 (if mayB x = true then 0 else 1)]) ∧ Fresh w w' a' c' (if mayB x = true then madeB x else []) := by
  have no : mayB x = false → Calls Try.prog 19 #[.agg (sRc x.t.fam x.t.pr x.t.s.fam x.t.s.hi x.t.s.lo x.t.d.fam x.t.d.hi x.t.d.lo x.t.sp x.t.dp x.fl x.sq x.ak x.wn x.ty x.cd x.er x.inn.fam x.inn.pr x.inn.s.fam x.inn.s.hi x.inn.s.lo x.inn.d.fam x.inn.d.hi x.inn.d.lo x.inn.sp x.inn.dp a x.data.length c)] w (fun e w' => e = .returned (.tuple #[.slice none 0 0, .int .i64 1]) ∧ Below w.heap.size w w') → Calls Try.prog 19 #[.agg (sRc x.t.fam x.t.pr x.t.s.fam x.t.s.hi x.t.s.lo x.t.d.fam x.t.d.hi x.t.d.lo x.t.sp x.t.dp x.fl x.sq x.ak x.wn x.ty x.cd x.er x.inn.fam x.inn.pr x.inn.s.fam x.inn.s.hi x.inn.s.lo x.inn.d.fam x.inn.d.hi x.inn.d.lo x.inn.sp x.inn.dp a x.data.length c)] w fun e w' => ∃ a' c', e = .returned (.tuple #[.slice a' (if mayB x = true then madeB x else []).length c', .int .i64 (if mayB x = true then 0 else 1)]) ∧ Fresh w w' a' c' (if mayB x = true then madeB x else []) := by
    intro hm hc
    rw [hm]
    refine Calls.mono hc ?_
    rintro e w' ⟨rfl, hb⟩
    exact ⟨none, 0, rfl, fresh_nil hb⟩
  cases hE : endsB x.t.fam x.t.s x.t.d with
  | false => exact no (by unfold mayB; rw [hE]; rfl) (build_n1 x a c w h hnil ok hE)
  | true =>
    cases hP : protoB x with
    | false => exact no (by unfold mayB; rw [hE, hP]; rfl) (build_n2 x a c w h hnil ok hE hP)
    | true =>
      cases hN : numB x with
      | false => exact no (by unfold mayB; rw [hE, hP, hN]; rfl) (build_n3 x a c w h hnil ok hE hP hN)
      | true =>
        by_cases hL : x.data.length ≤ 65000
        · have hm : mayB x = true := by unfold mayB; rw [hE, hP, hN]; simpa using hL
          rw [hm]
          exact build_yes x a c w h hnil ok hE hP hN hL
        · exact no (by unfold mayB; rw [hE, hP, hN]; simpa using hL) (build_n4 x a c w h hnil ok hE hP hN hL)
theorem u16v_yes {l : List Int} {k : Nat} (h : k + 2 ≤ l.length) : u16v l (k : Int) = 256 * l.getD k 0 + l.getD (k + 1) 0 := by
  unfold u16v
  rw [if_pos (by unfold liesB; simp; omega)]
  unfold u16
  simp
end Go.Proofs.Ytpjjkdgmfjhfiaa
namespace Go.Proofs.Ytpjjkdgmfjhfiaa
open Go.RowKit
set_option linter.unusedVariables false
def atOf (p : Bool) : Int := if p then 0 else 1
set_option maxHeartbeats 1000000 in
theorem refsum_any (a : Option Addr) (cap : Nat) (ls : List (List Int)) (w : World) (h : Rowss w a ls) :
    Calls Try.prog 46 #[.slice a ls.length cap] w fun e w' => e = .returned (.int .i64 (M.sumOf ls)) ∧ w' = w := by
  have hs := h.small
  go_enter Try.func46, Try.ntmps46
  go_wp2
  go_loop [3, 4, 5] (fun t s i => ∃ k : Nat, k ≤ ls.length ∧ i = .int .i64 k ∧ t = .int .i64 (M.nf (M.raw true (ls.take k).flatten)) ∧ s = .int .i64 (atOf (M.par true (ls.take k).flatten.length))) (fun _ _ i => ls.length - (intOf i).toNat)
  case atStart => exact ⟨0, Nat.zero_le _, rfl, rfl, rfl⟩
  case round =>
    obtain ⟨k, hk, rfl, rfl, rfl⟩ := hrel
    by_cases hlt : k < ls.length
    · obtain ⟨b, off, rfl, hc⟩ := h.cells (by omega)
      obtain ⟨a', c', hcell, hrow⟩ := hc k hlt
      have hz := M.raw_bd true (ls.take k).flatten (h.all.takes k)
      have hz0 : 0 ≤ M.raw true (ls.take k).flatten := hz.1
      clear hz hc
      generalize hl : ls.getD k [] = l at *
      generalize hT : M.raw true (ls.take k).flatten = T at *
      generalize hp : M.par true (ls.take k).flatten.length = p at *
      have H1 : Hid (ls.getD k [] = l ∧ M.raw true (ls.take k).flatten = T ∧ M.par true (ls.take k).flatten.length = p) := ⟨hl, hT, hp⟩
      clear hl hT hp
      have hr := hrow.small
      go_wp2
      go_loop [3, 4, 6] (fun t s i => ∃ j : Nat, j ≤ l.length ∧ i = .int .i64 j ∧ t = .int .i64 (M.nf (T + M.raw p (l.take j))) ∧ s = .int .i64 (atOf (M.par p j))) (fun _ _ i => l.length - (intOf i).toNat)
      case atStart => exact ⟨0, Nat.zero_le _, rfl, by simp [M.raw_nil], rfl⟩
      case round =>
        obtain ⟨j, hj, rfl, rfl, rfl⟩ := hrel
        have hrb := M.raw_bd p (l.take j) (hrow.bytes.take j)
        have hb := M.nf_bd (T + M.raw p (l.take j))
        by_cases hlt2 : j < l.length
        · obtain ⟨b2, off2, rfl, hc2⟩ := hrow.cells (by omega)
          have hcell2 := hc2 j hlt2
          have hx := hrow.bytes.get j
          have HS : Hid (M.raw p (l.take (j + 1)) = M.raw p (l.take j) + if M.par p j then 256 * l.getD j 0 else l.getD j 0) := M.raw_take p l j hlt2
          have HP : Hid (M.par p (j + 1) = !(M.par p j)) := M.par_succ p j
          have hrb0 := hrb.1
          clear hc2 hrb
          generalize l.getD j 0 = x at *
          generalize M.raw p (l.take j) = R at *
          have HN : Hid (∀ y, 0 ≤ y → M.nf (M.nf (T + R) + y) = M.nf (T + R + y)) := fun y hy => M.nf_add (by omega) hy
          generalize M.nf (T + R) = F at *
          generalize M.par p j = q at *
          cases q
          · have e0 : atOf false = 1 := rfl
            go_wp2
            go_loop [3] (fun z => ∃ y : Int, 0 ≤ y ∧ y ≤ 1000000 ∧ M.nf y = M.nf (T + R + x) ∧ z = .int .i64 y) (fun z => (intOf z).toNat)
            case atStart => exact ⟨F + x, by omega, by omega, HN.out x hx.1, rfl⟩
            case round =>
              obtain ⟨y, hy0, hy1, hn, rfl⟩ := hrel
              have HM : Hid (M.nf y = M.nf (T + R + x)) := hn
              clear hn
              by_cases hgt : 65535 < y
              · go_wp2
                rw [i64_and65535, wrap64_in _ (by omega) (by omega)]
                exact ⟨⟨_, by omega, by omega, by rw [Int.add_comm]; exact (M.nf_fold hgt).trans HM.out, rfl⟩, by simp [intOf]; omega⟩
              · go_wp2
                exact ⟨⟨j + 1, by omega, by go_num, int_eq (by rw [HS.out, ← M.nf_small hy0 (by omega), HM.out]; simp [Int.add_assoc]), int_eq (by rw [HP.out]; rfl)⟩, by simp [intOf]; omega⟩
          · have e0 : atOf true = 0 := rfl
            go_wp2
            go_loop [3] (fun z => ∃ y : Int, 0 ≤ y ∧ y ≤ 1000000 ∧ M.nf y = M.nf (T + R + x * 256) ∧ z = .int .i64 y) (fun z => (intOf z).toNat)
            case atStart => exact ⟨F + x * 256, by omega, by omega, HN.out (x * 256) (by omega), rfl⟩
            case round =>
              obtain ⟨y, hy0, hy1, hn, rfl⟩ := hrel
              have HM : Hid (M.nf y = M.nf (T + R + x * 256)) := hn
              clear hn
              by_cases hgt : 65535 < y
              · go_wp2
                rw [i64_and65535, wrap64_in _ (by omega) (by omega)]
                exact ⟨⟨_, by omega, by omega, by rw [Int.add_comm]; exact (M.nf_fold hgt).trans HM.out, rfl⟩, by simp [intOf]; omega⟩
              · go_wp2
                exact ⟨⟨j + 1, by omega, by go_num, int_eq (by rw [HS.out, ← M.nf_small hy0 (by omega), HM.out]; simp [Int.add_assoc, Int.mul_comm]), int_eq (by rw [HP.out]; rfl)⟩, by simp [intOf]; omega⟩
        · go_wp2
          have hjl : j = l.length := by omega
          subst hjl
          obtain ⟨hl, hT, hp⟩ := H1.out
          refine ⟨⟨k + 1, by omega, by go_num, int_eq ?_, int_eq ?_⟩, by simp [intOf]; omega⟩
          · rw [List.take_length, M.takes_snoc ls k hlt, hl, M.raw_append, hp, ← hT]
          · rw [M.takes_snoc ls k hlt, hl, List.length_append, ← M.par_add, hp]
    · go_wp2
      go_ret
      exact ⟨ret_int (by rw [List.take_of_length_le (by omega)]; rfl), rfl⟩
end Go.Proofs.Ytpjjkdgmfjhfiaa
namespace Go.Proofs.Ytpjjkdgmfjhfiaa
open Go.RowKit
set_option linter.unusedVariables false
set_option linter.unusedSimpArgs false
set_option maxRecDepth 100000 in
set_option maxHeartbeats 4000000 in
theorem same_seg (x : Sg) (a b : Option Addr) (c d : Nat) (w : World) (h : Row w a x.data) (h' : Row w b x.data) :
    Calls Try.prog 18 #[.agg (sRc x.t.fam x.t.pr x.t.s.fam x.t.s.hi x.t.s.lo x.t.d.fam x.t.d.hi x.t.d.lo x.t.sp x.t.dp x.fl x.sq x.ak x.wn x.ty x.cd x.er x.inn.fam x.inn.pr x.inn.s.fam x.inn.s.hi x.inn.s.lo x.inn.d.fam x.inn.d.hi x.inn.d.lo x.inn.sp x.inn.dp a x.data.length c), .agg (sRc x.t.fam x.t.pr x.t.s.fam x.t.s.hi x.t.s.lo x.t.d.fam x.t.d.hi x.t.d.lo x.t.sp x.t.dp x.fl x.sq x.ak x.wn x.ty x.cd x.er x.inn.fam x.inn.pr x.inn.s.fam x.inn.s.hi x.inn.s.lo x.inn.d.fam x.inn.d.hi x.inn.d.lo x.inn.sp x.inn.dp b x.data.length d)] w fun e w' => e = .returned (.bool true) ∧ Below w.heap.size w w' := by
  obtain ⟨W1, hW1⟩ : ∃ W1, w.alloc (.cells (sRc x.t.fam x.t.pr x.t.s.fam x.t.s.hi x.t.s.lo x.t.d.fam x.t.d.hi x.t.d.lo x.t.sp x.t.dp x.fl x.sq x.ak x.wn x.ty x.cd x.er x.inn.fam x.inn.pr x.inn.s.fam x.inn.s.hi x.inn.s.lo x.inn.d.fam x.inn.d.hi x.inn.d.lo x.inn.sp x.inn.dp a x.data.length c) 38) = W1 := ⟨_, rfl⟩
  obtain ⟨W2, hW2⟩ : ∃ W2, W1.alloc (.cells (sRc x.t.fam x.t.pr x.t.s.fam x.t.s.hi x.t.s.lo x.t.d.fam x.t.d.hi x.t.d.lo x.t.sp x.t.dp x.fl x.sq x.ak x.wn x.ty x.cd x.er x.inn.fam x.inn.pr x.inn.s.fam x.inn.s.hi x.inn.s.lo x.inn.d.fam x.inn.d.hi x.inn.d.lo x.inn.sp x.inn.dp b x.data.length d) 38) = W2 := ⟨_, rfl⟩
  have b1 := bel_nw hW1
  have b2 := bel_al b1 hW2
  have B1' := blk_nw hW1
  have B1 := B1'.al hW2
  have B2 := blk_nw hW2
  have K : Hid _ := same_any a b c d x.data W2 (h.below b2) (h'.below b2)
  have d0 := B1.cell 0 (.int .i64 x.t.fam) rfl
  have d1 := B1.cell 1 (.int .i64 x.t.pr) rfl
  have d2 := B1.cell 2 (.int .i64 x.t.s.fam) rfl
  have d3 := B1.cell 3 (.int .u64 x.t.s.hi) rfl
  have d4 := B1.cell 4 (.int .u64 x.t.s.lo) rfl
  have d5 := B1.cell 5 (.int .i64 x.t.d.fam) rfl
  have d6 := B1.cell 6 (.int .u64 x.t.d.hi) rfl
  have d7 := B1.cell 7 (.int .u64 x.t.d.lo) rfl
  have d8 := B1.cell 8 (.int .i64 x.t.sp) rfl
  have d9 := B1.cell 9 (.int .i64 x.t.dp) rfl
  have d10 := B1.cell 10 (.int .i64 x.fl) rfl
  have d11 := B1.cell 11 (.int .u32 x.sq) rfl
  have d12 := B1.cell 12 (.int .u32 x.ak) rfl
  have d13 := B1.cell 13 (.int .i64 x.wn) rfl
  have d14 := B1.cell 14 (.int .i64 x.ty) rfl
  have d15 := B1.cell 15 (.int .i64 x.cd) rfl
  have d16 := B1.cell 16 (.bool x.er) rfl
  have d17 := B1.cell 17 (.int .i64 x.inn.fam) rfl
  have d18 := B1.cell 18 (.int .i64 x.inn.pr) rfl
  have d19 := B1.cell 19 (.int .i64 x.inn.s.fam) rfl
  have d20 := B1.cell 20 (.int .u64 x.inn.s.hi) rfl
  have d21 := B1.cell 21 (.int .u64 x.inn.s.lo) rfl
  have d22 := B1.cell 22 (.int .i64 x.inn.d.fam) rfl
  have d23 := B1.cell 23 (.int .u64 x.inn.d.hi) rfl
  have d24 := B1.cell 24 (.int .u64 x.inn.d.lo) rfl
  have d25 := B1.cell 25 (.int .i64 x.inn.sp) rfl
  have d26 := B1.cell 26 (.int .i64 x.inn.dp) rfl
  have d27 := B1.cell 27 (.slice a x.data.length c) rfl
  have e0 := B2.cell 0 (.int .i64 x.t.fam) rfl
  have e1 := B2.cell 1 (.int .i64 x.t.pr) rfl
  have e2 := B2.cell 2 (.int .i64 x.t.s.fam) rfl
  have e3 := B2.cell 3 (.int .u64 x.t.s.hi) rfl
  have e4 := B2.cell 4 (.int .u64 x.t.s.lo) rfl
  have e5 := B2.cell 5 (.int .i64 x.t.d.fam) rfl
  have e6 := B2.cell 6 (.int .u64 x.t.d.hi) rfl
  have e7 := B2.cell 7 (.int .u64 x.t.d.lo) rfl
  have e8 := B2.cell 8 (.int .i64 x.t.sp) rfl
  have e9 := B2.cell 9 (.int .i64 x.t.dp) rfl
  have e10 := B2.cell 10 (.int .i64 x.fl) rfl
  have e11 := B2.cell 11 (.int .u32 x.sq) rfl
  have e12 := B2.cell 12 (.int .u32 x.ak) rfl
  have e13 := B2.cell 13 (.int .i64 x.wn) rfl
  have e14 := B2.cell 14 (.int .i64 x.ty) rfl
  have e15 := B2.cell 15 (.int .i64 x.cd) rfl
  have e16 := B2.cell 16 (.bool x.er) rfl
  have e17 := B2.cell 17 (.int .i64 x.inn.fam) rfl
  have e18 := B2.cell 18 (.int .i64 x.inn.pr) rfl
  have e19 := B2.cell 19 (.int .i64 x.inn.s.fam) rfl
  have e20 := B2.cell 20 (.int .u64 x.inn.s.hi) rfl
  have e21 := B2.cell 21 (.int .u64 x.inn.s.lo) rfl
  have e22 := B2.cell 22 (.int .i64 x.inn.d.fam) rfl
  have e23 := B2.cell 23 (.int .u64 x.inn.d.hi) rfl
  have e24 := B2.cell 24 (.int .u64 x.inn.d.lo) rfl
  have e25 := B2.cell 25 (.int .i64 x.inn.sp) rfl
  have e26 := B2.cell 26 (.int .i64 x.inn.dp) rfl
  have e27 := B2.cell 27 (.slice b x.data.length d) rfl
  go_enter Try.func18, Try.ntmps18
  go_wp2_with fail
  refine Calls.mono K.out ?_
  rintro e W3 ⟨rfl, hW3⟩
  rw [hW3]
  clear K hW3 W3
  go_wp2
  go_ret
  exact ⟨rfl, b2⟩
def smallSg : Sg := ⟨⟨4, 17, ⟨4, 0, 167772161⟩, ⟨4, 0, 167772162⟩, 53, 1024⟩, 0, 0, 0, 0, 0, 0, false, zTp, [1, 2, 3, 4]⟩
theorem bytes1234 : M.Bytes [1, 2, 3, 4] := M.Bytes.of (by decide)
set_option maxRecDepth 100000 in
set_option maxHeartbeats 4000000 in
theorem small_any (w : World) : Calls Try.prog 32 #[] w fun e w' => ∃ G, e = .returned (.agg (sRc 4 17 4 0 167772161 4 0 167772162 53 1024 0 0 0 0 0 0 false 0 0 0 0 0 0 0 0 0 0 (some ⟨G, 0, none⟩) 4 4)) ∧ Row w' (some ⟨G, 0, none⟩) [1, 2, 3, 4] ∧ Below w.heap.size w w' := by
  obtain ⟨W1, hW1⟩ : ∃ W1, w.alloc (.cells (sRc 0 0 0 0 0 0 0 0 0 0 0 0 0 0 0 0 false 0 0 0 0 0 0 0 0 0 0 none 0 0) 38) = W1 := ⟨_, rfl⟩
  have b1 := bel_nw hW1
  have B1 := blk_nw hW1
  have g1 : w.heap.size < W1.heap.size := B1.lt
  obtain ⟨W2, hW2⟩ : ∃ W2, W1.alloc (.cells (sRb 0 0 0 0 0 0 0 0 0 0) 26) = W2 := ⟨_, rfl⟩
  have b2 := bel_al b1 hW2
  have B2 := B1.al hW2
  have T2 := blk_nw hW2
  obtain ⟨W3, hW3⟩ : ∃ W, W2.setRow W1.heap.size (sRb 4 17 4 0 167772161 4 0 167772162 53 1024) = W := ⟨_, rfl⟩
  have b3 : Below w.heap.size w W3 := by rw [← hW3]; exact below_setRow b2 (Nat.le_of_lt g1) _
  have B3 : Blk W3 w.heap.size 38 (sRc 0 0 0 0 0 0 0 0 0 0 0 0 0 0 0 0 false 0 0 0 0 0 0 0 0 0 0 none 0 0) := by rw [← hW3]; exact B2.other (by omega) _
  have T3 : Blk W3 W1.heap.size 26 (sRb 4 17 4 0 167772161 4 0 167772162 53 1024) := by rw [← hW3]; exact T2.set _
  have HW3 : Hid _ := hW3
  obtain ⟨W4, hW4⟩ : ∃ W4, W3.alloc (.cells #[.int .u8 1, .int .u8 2, .int .u8 3, .int .u8 4] 5) = W4 := ⟨_, rfl⟩
  have b4 := bel_al b3 hW4
  have B4 := B3.al hW4
  have r4 : Row W4 (some ⟨W3.heap.size, 0, none⟩) [1, 2, 3, 4] := by rw [← hW4]; exact row_at W3 5 [1, 2, 3, 4] W3.heap.size rfl (by simp) bytes1234
  have g3 : w.heap.size < W3.heap.size := B3.lt
  obtain ⟨G, hG⟩ : ∃ G, W3.heap.size = G := ⟨_, rfl⟩
  rw [hG] at r4 g3
  have hb24 : ∀ W, (Instr.build 24 #[(0, .int .i64 4), (2, .int .u64 167772161)]).run Try.prog W = .ok (.agg #[.int .i64 4, .int .u64 0, .int .u64 167772161]) W := fun W => by kernel_rfl
  have O4 : Owns W4 (w.heap.size + 1) (.slice (some ⟨G, 0, none⟩) 4 4) [1, 2, 3, 4] := by
    rw [← hW4, ← hG]
    exact owns_new (l := [1, 2, 3, 4]) (by omega) (by decide) (heap_alloc_last W3 _)
  have Of := O4.blk_other B4 (by decide) (sRc 4 17 4 0 167772161 4 0 167772162 53 1024 0 0 0 0 0 0 false 0 0 0 0 0 0 0 0 0 0 (some ⟨G, 0, none⟩) 4 4)
  have rf := Owns.row (l := [1, 2, 3, 4]) Of (by decide) bytes1234
  have bf := below_setRow b4 (Nat.le_refl _) (sRc 4 17 4 0 167772161 4 0 167772162 53 1024 0 0 0 0 0 0 false 0 0 0 0 0 0 0 0 0 0 (some ⟨G, 0, none⟩) 4 4)
  have Bf := B4.set (sRc 4 17 4 0 167772161 4 0 167772162 53 1024 0 0 0 0 0 0 false 0 0 0 0 0 0 0 0 0 0 (some ⟨G, 0, none⟩) 4 4)
  have hb38 : (Instr.build 38 #[(0, .agg (sRb 4 17 4 0 167772161 4 0 167772162 53 1024)), (9, .slice (some ⟨G, 0, none⟩) 4 4)]).run Try.prog W4 = .ok (.agg (sRc 4 17 4 0 167772161 4 0 167772162 53 1024 0 0 0 0 0 0 false 0 0 0 0 0 0 0 0 0 0 (some ⟨G, 0, none⟩) 4 4)) W4 := by kernel_rfl
  clear hW3 hb24 Of O4
  go_enter Try.func32, Try.ntmps32
  go_wp2_with (first
    | (refine wpList_build _ rfl _ _ rfl _ (by rfl) _ hb38 ?_)
    | (refine wpList_store_row rfl _ _ _ rfl W1.heap.size (sRb 4 17 4 0 167772161 4 0 167772162 53 1024) (by rfl) (by rfl) _ _ T2 (by kernel_rfl) (by rfl) (by kernel_rfl) ?_; rw [HW3.out])
    | (refine wpList_load_row rfl _ _ rfl W1.heap.size (by rfl) _ _ _ _ T3 Try.underlying26 rfl (by kernel_rfl) ?_)
    | (refine wpList_store_row rfl _ _ _ rfl w.heap.size (sRc 4 17 4 0 167772161 4 0 167772162 53 1024 0 0 0 0 0 0 false 0 0 0 0 0 0 0 0 0 0 (some ⟨G, 0, none⟩) 4 4) (by rfl) (by rfl) _ _ B4 (by kernel_rfl) (by rfl) (by kernel_rfl) ?_))
  exact ret_cell (k := 0) Try.f32 (by kernel_rfl) Bf Try.underlying38 (by kernel_rfl) (by rfl) rfl ⟨G, rfl, rf, bf⟩
set_option maxRecDepth 100000 in
set_option maxHeartbeats 4000000 in
theorem packet_any (x : Sg) (a : Option Addr) (c : Nat) (b : Option Addr) (bn d : Nat) (w : World) :
    Calls Try.prog 21 #[.agg (sRc x.t.fam x.t.pr x.t.s.fam x.t.s.hi x.t.s.lo x.t.d.fam x.t.d.hi x.t.d.lo x.t.sp x.t.dp x.fl x.sq x.ak x.wn x.ty x.cd x.er x.inn.fam x.inn.pr x.inn.s.fam x.inn.s.hi x.inn.s.lo x.inn.d.fam x.inn.d.hi x.inn.d.lo x.inn.sp x.inn.dp a x.data.length c), .slice b bn d] w fun e w' => e = .returned (.agg (sRa x.t.fam x.t.s.fam x.t.s.hi x.t.s.lo x.t.d.fam x.t.d.hi x.t.d.lo x.t.pr 1 false 0 0 false none 0 0 b bn d)) ∧ Below w.heap.size w w' := by
  obtain ⟨W1, hW1⟩ : ∃ W1, w.alloc (.cells (sRc x.t.fam x.t.pr x.t.s.fam x.t.s.hi x.t.s.lo x.t.d.fam x.t.d.hi x.t.d.lo x.t.sp x.t.dp x.fl x.sq x.ak x.wn x.ty x.cd x.er x.inn.fam x.inn.pr x.inn.s.fam x.inn.s.hi x.inn.s.lo x.inn.d.fam x.inn.d.hi x.inn.d.lo x.inn.sp x.inn.dp a x.data.length c) 38) = W1 := ⟨_, rfl⟩
  obtain ⟨W2, hW2⟩ : ∃ W2, W1.alloc (.cells (sRa 0 0 0 0 0 0 0 0 0 false 0 0 false none 0 0 none 0 0) 36) = W2 := ⟨_, rfl⟩
  have b1 := bel_nw hW1
  have b2 := bel_al b1 hW2
  have B1' := blk_nw hW1
  have B1 := B1'.al hW2
  have B2 := blk_nw hW2
  have g1 : w.heap.size < W1.heap.size := B1'.lt
  clear B1'
  have d0 := B1.cell 0 (.int .i64 x.t.fam) rfl
  have d1 := B1.cell 1 (.int .i64 x.t.pr) rfl
  have d2 := B1.cell 2 (.int .i64 x.t.s.fam) rfl
  have d3 := B1.cell 3 (.int .u64 x.t.s.hi) rfl
  have d4 := B1.cell 4 (.int .u64 x.t.s.lo) rfl
  have d5 := B1.cell 5 (.int .i64 x.t.d.fam) rfl
  have d6 := B1.cell 6 (.int .u64 x.t.d.hi) rfl
  have d7 := B1.cell 7 (.int .u64 x.t.d.lo) rfl
  have b3 := below_setRow b2 (Nat.le_of_lt g1) (sRa x.t.fam x.t.s.fam x.t.s.hi x.t.s.lo x.t.d.fam x.t.d.hi x.t.d.lo x.t.pr 1 false 0 0 false none 0 0 b bn d)
  have B3 := B2.set (sRa x.t.fam x.t.s.fam x.t.s.hi x.t.s.lo x.t.d.fam x.t.d.hi x.t.d.lo x.t.pr 1 false 0 0 false none 0 0 b bn d)
  have hbd : (Instr.build 36 #[(0, .int .i64 x.t.fam), (1, .agg #[.int .i64 x.t.s.fam, .int .u64 x.t.s.hi, .int .u64 x.t.s.lo]), (2, .agg #[.int .i64 x.t.d.fam, .int .u64 x.t.d.hi, .int .u64 x.t.d.lo]), (3, .int .i64 x.t.pr), (4, .int .i64 1), (10, .slice b bn d)]).run Try.prog W2 = .ok (.agg (sRa x.t.fam x.t.s.fam x.t.s.hi x.t.s.lo x.t.d.fam x.t.d.hi x.t.d.lo x.t.pr 1 false 0 0 false none 0 0 b bn d)) W2 := by kernel_rfl
  go_enter Try.func21, Try.ntmps21
  go_wp2_with (first
    | (refine wpList_build _ rfl _ _ rfl _ (by rfl) _ hbd ?_)
    | (refine wpList_store_row rfl _ _ _ rfl W1.heap.size (sRa x.t.fam x.t.s.fam x.t.s.hi x.t.s.lo x.t.d.fam x.t.d.hi x.t.d.lo x.t.pr 1 false 0 0 false none 0 0 b bn d) (by rfl) (by rfl) _ _ B2 (by kernel_rfl) (by rfl) (by kernel_rfl) ?_))
  exact ret_cell (k := 4) Try.f21 (by kernel_rfl) B3 Try.underlying36 (by kernel_rfl) (by rfl) rfl ⟨rfl, b3⟩
end Go.Proofs.Ytpjjkdgmfjhfiaa
