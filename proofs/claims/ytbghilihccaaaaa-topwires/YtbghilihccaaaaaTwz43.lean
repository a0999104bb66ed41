/- Texts joined: Ip6Ib -/
import Derived.Test.YtbghilihccaaaaaTwz41
namespace Go.Proofs.Ytbghilihccaaaaa
open Go.RowKit
set_option linter.unusedVariables false
set_option linter.unusedSimpArgs false
set_option maxRecDepth 100000 in
set_option maxHeartbeats 16000000 in
theorem parse6_xF (a : Option Addr) (c : Nat) (l : List Int) (w : World) (h : Row w a l) (hnil : a = none → c = 0) (hll : l.length ≤ 140737488351232) (hc : l.length ≤ c) (hcm : c ≤ 9223372036854775807) (h40 : ¬ l.length < 40) (hv : l.getD 0 0 / 16 = 6) (h5 : ¬ u16 l 4 > (l.length : Int) - 40) (h7 : l.getD 7 0 ≠ 0) (hT : (T6 l).1 = 0) (hcu : (T6 l).2.cut = true) (hwp : wrongp (T6 l).2 ≠ 0) :
    Calls Try.prog 42 #[.slice a l.length c] w (Got6 w l) := by
  obtain ⟨W0, hW0⟩ : ∃ W0, w.alloc (.cells zIp 42) = W0 := ⟨_, rfl⟩
  have b0 : Below w.heap.size w W0 := by rw [← hW0]; exact (Below.refl _ _).alloc (Nat.le_refl _) _
  have z0 : ZIp W0 w.heap.size := by rw [← hW0]; exact zIp_new w
  have s0 : W0.heap.size = w.heap.size + 1 := by rw [← hW0]; simp
  have r0 := h.below b0
  have hpp : perr6 l = wrongp (T6 l).2 := by
    unfold perr6
    rw [if_neg h40, if_neg (by rw [hv]; simp), if_neg h5, if_neg h7, if_neg (by rw [hT]; simp), if_pos hcu]
  have h40' : ¬ (l.length : Int) < 40 := by omega
  obtain ⟨bk, off, rfl, hcl⟩ := h.cells (by omega)
  have KU : Hid _ := u16_yes (some ⟨bk, off, none⟩) c l 4 W0 r0 (by decide) (by omega)
  have y0 := hcl 0 (by omega)
  have y7 := hcl 7 (by omega)
  have i0 : (0 : Int) < (l.length : Int) := by omega
  have i7 : (7 : Int) < (l.length : Int) := by omega
  rw [Nat.add_zero] at y0
  obtain ⟨x0, e0⟩ : ∃ x, l.getD 0 0 = x := ⟨_, rfl⟩
  obtain ⟨x7, e7⟩ : ∃ x, l.getD 7 0 = x := ⟨_, rfl⟩
  obtain ⟨sz, es⟩ : ∃ x, u16 l 4 = x := ⟨_, rfl⟩
  have q0 := h.bytes.get 0
  have q7 := h.bytes.get 7
  have qs := u16_bd h.bytes 4
  rw [e0] at y0 q0
  rw [e7] at y7 q7
  rw [es] at KU qs
  have HE : Hid (l.getD 0 0 = x0 ∧ l.getD 7 0 = x7 ∧ u16 l 4 = sz) := ⟨e0, e7, es⟩
  have HPP : Hid (perr6 l = _) := hpp
  rw [e0] at hv
  rw [es] at h5
  rw [e7] at h7
  have hv' : (x0 / 16 != 6) = false := by simpa using hv
  clear hv
  have h7' : (x7 == 0) = false := by simpa using h7
  clear h7
  have y6 := hcl 6 (by omega)
  have i6 : (6 : Int) < (l.length : Int) := by omega
  obtain ⟨x6, e6⟩ : ∃ x, l.getD 6 0 = x := ⟨_, rfl⟩
  have q6 := h.bytes.get 6
  rw [e6] at y6 q6
  have HE6 : Hid (l.getD 6 0 = x6) := e6
  clear e6
  clear hcl e0 e7 es hpp
  go_enter Try.func42, Try.ntmps42
  go_wp2_with fail
  refine Calls.mono KU.out ?_
  rintro e w' ⟨rfl, n, rfl⟩
  have b1 : Below w.heap.size w (W0.drewN n) := below_drewN b0 n
  have bb : Below W0.heap.size W0 (W0.drewN n) := below_drewN (Below.refl _ _) n
  have z1 : ZIp (W0.drewN n) w.heap.size := z0.below (by omega) bb
  have k0 := kept (b := bk) (o := off) b1 y0
  have k7 := kept (b := bk) (o := off + 7) b1 y7
  obtain ⟨W1, hW1⟩ : ∃ W1, W0.drewN n = W1 := ⟨_, rfl⟩
  rw [hW1] at b1 z1 k0 k7 ⊢
  have zz := z1
  clear KU bb z0 r0 hW1 hW0 y0 y7
  have k6 := kept (b := bk) (o := off + 6) b1 y6
  clear y6
  obtain ⟨m, rfl⟩ := Int.eq_ofNat_of_zero_le qs.1
  have hm40 : 40 + m ≤ l.length := by omega
  have qm1 : (m : Int) ≤ 65535 := qs.2
  have qm2 : m ≤ 65535 := by omega
  have nb : bk ≠ W1.heap.size := by
    have := World.block_lt_of_cell? W1 _ k6
    simp only at this
    omega
  have nb' : ¬ bk = W1.heap.size := nb
  have k6z : (W1.alloc (.cells #[.int .i64 0, .slice none 0 0, .slice none 0 0, .bool false, .bool false, .int .u32 0, .int .i64 0, .bool false] 113)).cell? ⟨bk, off + 6, none⟩ = some (.int .u8 x6) := kept_alloc (Below.refl _ _) _ k6
  have w40 : IntKind.i64.wrap (40 + (m : Int)) = 40 + (m : Int) := wraps_i64 _ (by omega) (by omega)
  have j1 : (40 : Int) + (m : Int) ≤ (c : Int) := by omega
  have j2 : 40 + m ≤ c := by omega
  have r1 := h.below b1
  have hrest := (r1.drop c 40 hc).take m
  have hlr : ((l.drop 40).take m).length = m := by rw [List.length_take, List.length_drop]; omega
  have hrest' : Row W1 (if c = 40 then some ⟨bk, off, none⟩ else some ⟨bk, off + 40, none⟩) ((l.drop 40).take m) := by
    by_cases hc40 : c = 40
    · rw [if_pos hc40] at hrest ⊢; exact hrest
    · rw [if_neg hc40] at hrest ⊢; simpa [Go.WideShapes.add_plain] using hrest
  obtain ⟨A, hA⟩ : ∃ A : Option Addr, (if c = 40 then some ⟨bk, off, none⟩ else some ⟨bk, off + 40, none⟩) = A := ⟨_, rfl⟩
  have HAn : Hid (A ≠ none) := by
    show A ≠ none
    intro e
    rw [e] at hA
    split at hA <;> cases hA
  rw [hA] at hrest'
  have HRR : Hid _ := hrest'
  have HTT : Hid (T6 l = wend (st0 x6 ((l.drop 40).take m) false)) := by
    show T6 l = _
    unfold T6
    rw [HE6.out, HE.out.2.2, Int.toNat_natCast]
  clear hrest hrest'
  have s1 : w.heap.size < W1.heap.size := z1.lt
  obtain ⟨W2, hW2⟩ : ∃ W2, W1.alloc (.cells #[.int .i64 x6, .slice A m (c - 40), .slice none 0 0, .bool false, .bool false, .int .u32 0, .int .i64 0, .bool false] 113) = W2 := ⟨_, rfl⟩
  have HW2 : Hid (_ = W2) := hW2
  clear hW2
  go_wp2_with fail
  go_region
  rw [HW2.out]
  have S2 : SW W2 W1.heap.size (st0 x6 ((l.drop 40).take m) false) (.slice A ((l.drop 40).take m).length (c - 40)) (.slice none 0 0) := by
    rw [hlr, ← HW2.out]
    constructor <;> simp [st0]
  have b12 : Below W1.heap.size W1 W2 := by rw [← HW2.out]; exact (Below.refl _ _).alloc (Nat.le_refl _) _
  have s2 : W2.heap.size = W1.heap.size + 1 := by rw [← HW2.out]; simp
  have S2d := S2.grown (grownBy_drew W2 none) (by simp)
  have RA : Hid _ := run_any W1.heap.size x6 ((l.drop 40).take m) false A (c - 40) W1 W2.drew S2d HRR.out (Nat.le_refl _) (b12.drew) (by rw [hlr]; omega) (by omega) (fun e => absurd e HAn.out)
  obtain ⟨TT, hTT⟩ : ∃ TT, wend (st0 x6 ((l.drop 40).take m) false) = TT := ⟨_, rfl⟩
  rw [hTT] at RA HTT
  clear S2 S2d hTT HW2 k6z w40
  go_wp2_with fail
  refine Calls.mono RA.out ?_
  rintro e W3 ⟨rfl, bel, fin⟩
  clear RA
  have b13 : Below W1.heap.size W1 W3 := (b12.drew).trans bel
  have b3 : Below w.heap.size w W3 := b1.trans (b13.mono (Nat.le_of_lt s1))
  have z3 : ZIp W3 w.heap.size := zz.below s1 b13
  obtain ⟨EE, tt⟩ := TT
  have hE0 : EE = 0 := by have := HTT.out; rw [this] at hT; exact hT
  subst hE0
  rw [HTT.out] at hcu hwp HPP
  simp only at hcu hwp HPP
  have HOF : Hid (0 ≤ tt.off ∧ tt.off ≤ 65535) := by
    show 0 ≤ tt.off ∧ tt.off ≤ 65535
    have := wend_off (l.getD 6 0) ((l.drop 40).take (u16 l 4).toNat) false ((h.bytes.drop 40).take _)
    have e := HTT.out
    unfold T6 at e
    rw [e] at this
    exact this
  obtain ⟨a3, c3, xa, xc, R⟩ := fin rfl
  have q0 := R.sw.c0
  have q1 := R.sw.c1
  have q2 := R.sw.c2
  have y7 := kept (b := bk) (o := off + 7) b13 k7
  have KA : Hid (∀ (k : Int) W, 0 ≤ k → k + 16 ≤ l.length → Below W3.heap.size W3 W → Calls Try.prog 69 #[.slice (some ⟨bk, off, none⟩) l.length c, .int .i64 k] W fun e w' => e = .returned (fromB (part l k 16)).1.v ∧ (w'.cell? ⟨W1.heap.size, 0, none⟩ = some (.int .i64 tt.next) ∧ w'.cell? ⟨W1.heap.size, 1, none⟩ = some (.slice a3 tt.l.length c3) ∧ w'.cell? ⟨W1.heap.size, 2, none⟩ = some (.slice xa tt.ex.length xc) ∧ w'.cell? ⟨bk, off + 7, none⟩ = some (.int .u8 x7)) ∧ Below W.heap.size W w' ∧ Below W3.heap.size W3 w') := by
    intro k W h0 h1 hW
    refine (addrAt6_any _ c l k W (h.below (b3.trans (hW.mono b3.size))) hnil hll hc hcm h0 h1).mono ?_
    rintro e w' ⟨rfl, hb⟩
    have hb' := hW.trans (hb.mono hW.size)
    exact ⟨rfl, ⟨kept hb' q0, kept hb' q1, kept hb' q2, kept hb' y7⟩, hb, hb'⟩
  have RR : Hid _ := R
  have s13 : W1.heap.size < W3.heap.size := R.sw.lt
  have sbk : bk < W1.heap.size := by have := World.block_lt_of_cell? W1 _ k7; simpa using this
  have q70 : 0 ≤ x7 := q7.1
  have q71 : x7 ≤ 255 := q7.2
  have wx7 : IntKind.i64.wrap x7 = x7 := wraps_i64 _ (by omega) (by omega)
  clear fin R hT
  have KC : Hid (∀ W, Below W3.heap.size W3 W → Calls Try.prog 32 #[.slice a3 tt.l.length c3] W fun e w' => ∃ a' c', e = .returned (.slice a' tt.l.length c') ∧ (w'.cell? ⟨W1.heap.size, 0, none⟩ = some (.int .i64 tt.next) ∧ w'.cell? ⟨W1.heap.size, 1, none⟩ = some (.slice a3 tt.l.length c3) ∧ w'.cell? ⟨W1.heap.size, 2, none⟩ = some (.slice xa tt.ex.length xc) ∧ w'.cell? ⟨bk, off + 7, none⟩ = some (.int .u8 x7)) ∧ Fresh W w' a' c' tt.l ∧ Below W3.heap.size W3 w') := by
    intro W hW
    have hW1 : Below W1.heap.size W1 W := b13.trans (hW.mono b13.size)
    refine (clone_any a3 c3 tt.l W (RR.out.row.below hW1) RR.out.nil).mono ?_
    rintro e w' ⟨a', c', rfl, f⟩
    have hb' := hW.trans (f.below.mono hW.size)
    exact ⟨a', c', rfl, ⟨kept hb' q0, kept hb' q1, kept hb' q2, kept hb' y7⟩, f, hb'⟩
  obtain ⟨⟨sf, sh, sl⟩, hSA⟩ : ∃ x : Ad, (fromB (part l 8 16)).1 = x := ⟨_, rfl⟩
  obtain ⟨⟨df, dh, dl⟩, hDA⟩ : ∃ x : Ad, (fromB (part l 24 16)).1 = x := ⟨_, rfl⟩
  have KA8 : Hid _ := fun W hW => KA.out 8 W (by decide) (by omega) hW
  have KA24 : Hid _ := fun W hW => KA.out 24 W (by decide) (by omega) hW
  rw [hSA] at KA8
  rw [hDA] at KA24
  have HAD : Hid ((fromB (part l 8 16)).1 = ⟨sf, sh, sl⟩ ∧ (fromB (part l 24 16)).1 = ⟨df, dh, dl⟩) := ⟨hSA, hDA⟩
  clear KA hSA hDA
  go_wp2_with fail
  go_cut [8] (fun p wx => ∃ gp a6 c6, p = .pointer (some ⟨gp, 0, none⟩) ∧ Made6 W3 wx gp tt.l a6 c6 (.int .i64 6) (.int .i64 sf) (.int .u64 sh) (.int .u64 sl) (.int .i64 df) (.int .u64 dh) (.int .u64 dl) (.int .i64 tt.next) (.int .i64 x7) (.bool false) (.int .u32 0) (.int .i64 0) (.bool false) (.slice xa tt.ex.length xc) (.slice a6 tt.l.length c6))
  case first =>
    go_region_held3 (fun w' => w'.cell? ⟨W1.heap.size, 0, none⟩ = some (.int .i64 tt.next) ∧ w'.cell? ⟨W1.heap.size, 1, none⟩ = some (.slice a3 tt.l.length c3) ∧ w'.cell? ⟨W1.heap.size, 2, none⟩ = some (.slice xa tt.ex.length xc) ∧ w'.cell? ⟨bk, off + 7, none⟩ = some (.int .u8 x7)) (go_keep) (first
      | (go_at_call 69; (with_reducible show Calls _ _ #[_, Value.int _ 8] _ _); refine (KA8.out _ (by first | exact (Below.refl _ _).drew | exact ((Below.refl _ _).alloc (Nat.le_refl _) _).drew)).mono ?_; rintro e W4 ⟨rfl, ⟨g1, g2, g3, g4⟩, bA, bA'⟩; try (have zA : ZIp W4 W3.heap.size := ZIp.below (ZIp.below (zIp_new W3) (by simp) (below_drew _)) (by simp) bA))
      | (go_at_call 69; refine (KA24.out _ (by first | exact bA' | exact bA'.alloc bA'.size _)).mono ?_; rintro e W5 ⟨rfl, ⟨i1, i2, i3, i4⟩, bB, bB'⟩; first | (have zB := zA.below zA.lt bB) | (have zB : ZIp W5 W4.heap.size := (zIp_new W4).below (by simp) bB) | skip)
      | (go_at_call 32; refine (KC.out _ (by first | exact bB' | exact bB'.alloc bB'.size _)).mono ?_; rintro e W6 ⟨a6, c6, rfl, ⟨j1, j2, j3, j4⟩, f6, bC⟩; have sA := bA'.size; have sB := bB'.size; have sC := bC.size; have n31 : ¬ W3.heap.size = W1.heap.size := (by omega); have m31 : ¬ W1.heap.size = W3.heap.size := (by omega); have n32 : ¬ W3.heap.size = bk := (by omega); have m32 : ¬ bk = W3.heap.size := (by omega); have n41 : ¬ W4.heap.size = W1.heap.size := (by omega); have m41 : ¬ W1.heap.size = W4.heap.size := (by omega); have n42 : ¬ W4.heap.size = bk := (by omega); have m42 : ¬ bk = W4.heap.size := (by omega); have n51 : ¬ W5.heap.size = W1.heap.size := (by omega); have m51 : ¬ W1.heap.size = W5.heap.size := (by omega); have n52 : ¬ W5.heap.size = bk := (by omega); have m52 : ¬ bk = W5.heap.size := (by omega); have n61 : ¬ W6.heap.size = W1.heap.size := (by omega); have m61 : ¬ W1.heap.size = W6.heap.size := (by omega); have n62 : ¬ W6.heap.size = bk := (by omega); have m62 : ¬ bk = W6.heap.size := (by omega); first | (have zC := zB.below zB.lt f6.below; have zC' := zC; obtain ⟨n0, n1, n2, n3, n4, n5, n6, n7, n8, n9, n10, n11, n12, n13, n14, nz⟩ := zC) | (have zC : ZIp W6 W5.heap.size := (zIp_new W5).below (by simp) f6.below; have zC' := zC; obtain ⟨n0, n1, n2, n3, n4, n5, n6, n7, n8, n9, n10, n11, n12, n13, n14, nz⟩ := zC) | skip))
    all_goals (go_wp2_with fail; go_meet)
    all_goals (refine ⟨_, a6, c6, rfl, ?_⟩)
    all_goals (first
      | with_reducible exact made_last f6 bB' _ _ _ _ _ _ _ _ _ _ _ _ _ _ _
      | with_reducible exact made_low f6 bB' zC' (by have := zB.lt; omega) (by omega) _ _ _ _ _ _ _ _ _ _ _ _ _ _ _
      | with_reducible exact made_low f6 (bB'.alloc bB'.size _) zC' (by simp) (by omega) _ _ _ _ _ _ _ _ _ _ _ _ _ _ _)
  case rest =>
    obtain ⟨gp, a6, c6, rfl, SS, fzz, hge, hlt, FR, FR4⟩ := hcut
    have bW : Below W3.heap.size W3 wc := FR.below
    have r4 : wc.cell? ⟨W1.heap.size, 4, none⟩ = some (.bool tt.cut) := kept bW RR.out.sw.c4
    have r5 : wc.cell? ⟨W1.heap.size, 5, none⟩ = some (.int .u32 tt.id) := kept bW RR.out.sw.c5
    have r6 : wc.cell? ⟨W1.heap.size, 6, none⟩ = some (.int .i64 tt.off) := kept bW RR.out.sw.c6
    have r7 : wc.cell? ⟨W1.heap.size, 7, none⟩ = some (.bool tt.more) := kept bW RR.out.sw.c7
    have w3s : w.heap.size < W3.heap.size := by omega
    have zc : ZIp wc w.heap.size := z3.below w3s bW
    have bwc : Below w.heap.size w wc := b3.trans (bW.mono b3.size)
    have HEX : Hid (OwnsI wc (W2.drew.heap.size + 2) (.slice xa tt.ex.length xc) tt.ex) := RR.out.own.below bW
    have few := RR.out.few
    have HPK : Hid (pk6 l = ⟨6, ⟨sf, sh, sl⟩, ⟨df, dh, dl⟩, tt.next, x7, true, tt.id, tt.off, tt.more, tt.l⟩) := by
      show pk6 l = _
      unfold pk6
      rw [HTT.out, HE.out.2.1, HAD.out.1, HAD.out.2]
      simp [hcu]
    have HEE : Hid ((T6 l).2.ex = tt.ex) := by show (T6 l).2.ex = _; rw [HTT.out]
    have HFR : Hid _ := FR4 (.bool true) (.int .u32 tt.id) (.int .i64 tt.off) (.bool tt.more)
    rw [hcu] at r4
    have SS' := SS
    obtain ⟨p0, p1, p2, p3, p4, p5, p6, p7, p8, p9, p10, p11, p12, p13, p14⟩ := SS
    clear hcu FR FR4 KA8 KA24 KC
    have f9 := fzz 9
    have f10 := fzz 10
    have f11 := fzz 11
    have f12 := fzz 12
    have gn1 : ¬ gp = W1.heap.size := by omega
    have gn2 : ¬ W1.heap.size = gp := by omega
    go_wp2_with fail
    go_region
    obtain ⟨W8, hW8⟩ : ∃ W8, (put4 wc gp (.bool true) (.int .u32 tt.id) (.int .i64 tt.off) (.bool tt.more)).drew = W8 := ⟨_, rfl⟩
    rw [hW8]
    have F8 : Fresh W3 W8 a6 c6 tt.l := by rw [← hW8]; exact HFR.out.kept (below_drew _)
    have S8 : SIp W8 gp (.int .i64 6) (.int .i64 sf) (.int .u64 sh) (.int .u64 sl) (.int .i64 df) (.int .u64 dh) (.int .u64 dl) (.int .i64 tt.next) (.int .i64 x7) (.bool true) (.int .u32 tt.id) (.int .i64 tt.off) (.bool tt.more) (.slice xa tt.ex.length xc) (.slice a6 tt.l.length c6) := by
      rw [← hW8]
      exact (sIp_put4 SS' _ _ _ _).below (B := (put4 wc gp (.bool true) (.int .u32 tt.id) (.int .i64 tt.off) (.bool tt.more)).heap.size) (by simp only [World.size_setCell]; exact hlt) (below_drew _)
    have hlt8 : gp < W8.heap.size := World.block_lt_of_cell? W8 _ S8.c0
    have bW8 := F8.below
    have w3s' : w.heap.size < W3.heap.size := w3s
    have z8 : ZIp W8 w.heap.size := z3.below w3s bW8
    have bw8 : Below w.heap.size w W8 := b3.trans (bW8.mono b3.size)
    have HX8 : Hid (OwnsI W8 (W2.drew.heap.size + 2) (.slice xa tt.ex.length xc) tt.ex) := RR.out.own.below bW8
    have hof := HOF.out
    have KW : Hid _ := wrongPiece_any 6 sf sh sl df dh dl tt.next x7 true tt.id tt.off tt.more (.slice xa tt.ex.length xc) rfl a6 c6 tt.l W8 F8.row F8.room F8.cap6 F8.nil hof
    have hbw : Below w.heap.size w W8 := bw8
    have F8' : Hid _ := F8
    have z8' : Hid _ := z8
    clear hW8 HFR F8 z8 zc HEX f9 f10 f11 f12 p0 p1 p2 p3 p4 p5 p6 p7 p8 p9 p10 p11 p12 p13 p14 SS' hlt r4 r5 r6 r7 RR hof
    have S8' := S8
    obtain ⟨p0, p1, p2, p3, p4, p5, p6, p7, p8, p9, p10, p11, p12, p13, p14⟩ := S8
    have KW2 : Hid (∀ R, wrongp ⟨tt.next, tt.l, [], true, true, tt.id, tt.off, tt.more⟩ = R → Calls Try.prog 70 #[.agg #[.int .i64 6, .int .i64 sf, .int .u64 sh, .int .u64 sl, .int .i64 df, .int .u64 dh, .int .u64 dl, .int .i64 tt.next, .int .i64 x7, .bool true, .int .u32 tt.id, .int .i64 tt.off, .bool tt.more, .slice xa tt.ex.length xc, .slice a6 tt.l.length c6]] W8
      fun e w' => e = .returned (.int .i64 R) ∧ Below W8.heap.size W8 w') := by
      intro R hR
      rw [← hR]
      exact KW.out
    clear KW
    go_wp2_with fail
    obtain ⟨R, hR⟩ : ∃ R, wrongp tt = R := ⟨_, rfl⟩
    have hRn : R ≠ 0 := by rw [← hR]; exact hwp
    have hRb : (R != 0) = true := by simpa using hRn
    have HR : Hid (perr6 l = R) := by show perr6 l = R; rw [HPP.out, hR]
    refine Calls.mono (KW2.out R hR) ?_
    rintro e W9 ⟨rfl, b9⟩
    clear KW2 hR hwp
    have z9 : ZIp W9 w.heap.size := z8'.out.below (Nat.lt_of_lt_of_le w3s bW8.size) b9
    have bw9 : Below w.heap.size w W9 := hbw.trans (b9.mono hbw.size)
    have z9' := z9
    obtain ⟨d0, d1, d2, d3, d4, d5, d6, d7, d8, d9, d10, d11, d12, d13, d14, dz⟩ := z9
    go_wp2
    exact parse_ret6 (sIp_set z9' _ _ _ _ _ _ _ _ _ _ _ _ _ _ _) rfl rfl rfl (bad6 HR.out hRn (set15_below bw9 (Nat.le_refl _) _ _ _ _ _ _ _ _ _ _ _ _ _ _ _))
end Go.Proofs.Ytbghilihccaaaaa
