/- Texts joined: Ip6H Ip6I -/
import Derived.Test.YtbghilihccaaaaaTwz40
import Derived.BigRegion
namespace Go.Proofs.Ytbghilihccaaaaa
open Go.RowKit
set_option linter.unusedVariables false
set_option linter.unusedSimpArgs false
theorem ZIp.lt {W : World} {g : Nat} (z : ZIp W g) : g < W.heap.size := World.block_lt_of_cell? W _ z.c0
set_option maxRecDepth 100000 in
set_option maxHeartbeats 16000000 in
theorem parse6_eW (a : Option Addr) (c : Nat) (l : List Int) (w : World) (h : Row w a l) (hnil : a = none → c = 0) (hll : l.length ≤ 140737488351232) (hc : l.length ≤ c) (hcm : c ≤ 9223372036854775807) (h40 : ¬ l.length < 40) (hv : l.getD 0 0 / 16 = 6) (h5 : ¬ u16 l 4 > (l.length : Int) - 40) (h7 : l.getD 7 0 ≠ 0) (hT : (T6 l).1 ≠ 0) :
    Calls Try.prog 42 #[.slice a l.length c] w (Got6 w l) := by
  obtain ⟨W0, hW0⟩ : ∃ W0, w.alloc (.cells zIp 42) = W0 := ⟨_, rfl⟩
  have b0 : Below w.heap.size w W0 := by rw [← hW0]; exact (Below.refl _ _).alloc (Nat.le_refl _) _
  have z0 : ZIp W0 w.heap.size := by rw [← hW0]; exact zIp_new w
  have s0 : W0.heap.size = w.heap.size + 1 := by rw [← hW0]; simp
  have r0 := h.below b0
  have hpp : perr6 l = (T6 l).1 := by
    unfold perr6
    rw [if_neg h40, if_neg (by rw [hv]; simp), if_neg h5, if_neg h7, if_pos hT]
  have h40' : ¬ (l.length : Int) < 40 := by omega
  obtain ⟨bk, off, rfl, hcl⟩ := h.cells (by omega)
  have KU : Hid _ := u16_yes (some ⟨bk, off, none⟩) c l 4 W0 r0 (by decide) (by omega)
  have y0 := hcl 0 (by omega)
  have y7 := hcl 7 (by omega)
  have i0 : (0 : Int) < (l.length : Int) := by omega
  have i7 : (7 : Int) < (l.length : Int) := by omega
  rw [Nat.add_zero] at y0
  obtain ⟨x0, e0⟩ : ∃ x, l.getD 0 0 = x := ⟨_, rfl⟩
  obtain ⟨x7, e7⟩ : ∃ x, l.getD 7 0 = x := ⟨_, rfl⟩
  obtain ⟨sz, es⟩ : ∃ x, u16 l 4 = x := ⟨_, rfl⟩
  have q0 := h.bytes.get 0
  have q7 := h.bytes.get 7
  have qs := u16_bd h.bytes 4
  rw [e0] at y0 q0
  rw [e7] at y7 q7
  rw [es] at KU qs
  have HE : Hid (l.getD 0 0 = x0 ∧ l.getD 7 0 = x7 ∧ u16 l 4 = sz) := ⟨e0, e7, es⟩
  have HPP : Hid (perr6 l = _) := hpp
  rw [e0] at hv
  rw [es] at h5
  rw [e7] at h7
  have hv' : (x0 / 16 != 6) = false := by simpa using hv
  clear hv
  have h7' : (x7 == 0) = false := by simpa using h7
  clear h7
  have y6 := hcl 6 (by omega)
  have i6 : (6 : Int) < (l.length : Int) := by omega
  obtain ⟨x6, e6⟩ : ∃ x, l.getD 6 0 = x := ⟨_, rfl⟩
  have q6 := h.bytes.get 6
  rw [e6] at y6 q6
  have HE6 : Hid (l.getD 6 0 = x6) := e6
  clear e6
  clear hcl e0 e7 es hpp
  go_enter Try.func42, Try.ntmps42
  go_wp2_with fail
  refine Calls.mono KU.out ?_
  rintro e w' ⟨rfl, n, rfl⟩
  have b1 : Below w.heap.size w (W0.drewN n) := below_drewN b0 n
  have bb : Below W0.heap.size W0 (W0.drewN n) := below_drewN (Below.refl _ _) n
  have z1 : ZIp (W0.drewN n) w.heap.size := z0.below (by omega) bb
  have k0 := kept (b := bk) (o := off) b1 y0
  have k7 := kept (b := bk) (o := off + 7) b1 y7
  obtain ⟨W1, hW1⟩ : ∃ W1, W0.drewN n = W1 := ⟨_, rfl⟩
  rw [hW1] at b1 z1 k0 k7 ⊢
  have zz := z1
  clear KU bb z0 r0 hW1 hW0 y0 y7
  have k6 := kept (b := bk) (o := off + 6) b1 y6
  clear y6
  obtain ⟨m, rfl⟩ := Int.eq_ofNat_of_zero_le qs.1
  have hm40 : 40 + m ≤ l.length := by omega
  have qm1 : (m : Int) ≤ 65535 := qs.2
  have qm2 : m ≤ 65535 := by omega
  have nb : bk ≠ W1.heap.size := by
    have := World.block_lt_of_cell? W1 _ k6
    simp only at this
    omega
  have nb' : ¬ bk = W1.heap.size := nb
  have k6z : (W1.alloc (.cells #[.int .i64 0, .slice none 0 0, .slice none 0 0, .bool false, .bool false, .int .u32 0, .int .i64 0, .bool false] 113)).cell? ⟨bk, off + 6, none⟩ = some (.int .u8 x6) := kept_alloc (Below.refl _ _) _ k6
  have w40 : IntKind.i64.wrap (40 + (m : Int)) = 40 + (m : Int) := wraps_i64 _ (by omega) (by omega)
  have j1 : (40 : Int) + (m : Int) ≤ (c : Int) := by omega
  have j2 : 40 + m ≤ c := by omega
  have r1 := h.below b1
  have hrest := (r1.drop c 40 hc).take m
  have hlr : ((l.drop 40).take m).length = m := by rw [List.length_take, List.length_drop]; omega
  have hrest' : Row W1 (if c = 40 then some ⟨bk, off, none⟩ else some ⟨bk, off + 40, none⟩) ((l.drop 40).take m) := by
    by_cases hc40 : c = 40
    · rw [if_pos hc40] at hrest ⊢; exact hrest
    · rw [if_neg hc40] at hrest ⊢; simpa [Go.WideShapes.add_plain] using hrest
  obtain ⟨A, hA⟩ : ∃ A : Option Addr, (if c = 40 then some ⟨bk, off, none⟩ else some ⟨bk, off + 40, none⟩) = A := ⟨_, rfl⟩
  have HAn : Hid (A ≠ none) := by
    show A ≠ none
    intro e
    rw [e] at hA
    split at hA <;> cases hA
  rw [hA] at hrest'
  have HRR : Hid _ := hrest'
  have HTT : Hid (T6 l = wend (st0 x6 ((l.drop 40).take m) false)) := by
    show T6 l = _
    unfold T6
    rw [HE6.out, HE.out.2.2, Int.toNat_natCast]
  clear hrest hrest'
  have s1 : w.heap.size < W1.heap.size := z1.lt
  obtain ⟨W2, hW2⟩ : ∃ W2, W1.alloc (.cells #[.int .i64 x6, .slice A m (c - 40), .slice none 0 0, .bool false, .bool false, .int .u32 0, .int .i64 0, .bool false] 113) = W2 := ⟨_, rfl⟩
  have HW2 : Hid (_ = W2) := hW2
  clear hW2
  go_wp2_with fail
  go_region
  rw [HW2.out]
  have S2 : SW W2 W1.heap.size (st0 x6 ((l.drop 40).take m) false) (.slice A ((l.drop 40).take m).length (c - 40)) (.slice none 0 0) := by
    rw [hlr, ← HW2.out]
    constructor <;> simp [st0]
  have b12 : Below W1.heap.size W1 W2 := by rw [← HW2.out]; exact (Below.refl _ _).alloc (Nat.le_refl _) _
  have s2 : W2.heap.size = W1.heap.size + 1 := by rw [← HW2.out]; simp
  have S2d := S2.grown (grownBy_drew W2 none) (by simp)
  have RA : Hid _ := run_any W1.heap.size x6 ((l.drop 40).take m) false A (c - 40) W1 W2.drew S2d HRR.out (Nat.le_refl _) (b12.drew) (by rw [hlr]; omega) (by omega) (fun e => absurd e HAn.out)
  obtain ⟨TT, hTT⟩ : ∃ TT, wend (st0 x6 ((l.drop 40).take m) false) = TT := ⟨_, rfl⟩
  rw [hTT] at RA HTT
  clear S2 S2d hTT HW2 k6z w40
  go_wp2_with fail
  refine Calls.mono RA.out ?_
  rintro e W3 ⟨rfl, bel, fin⟩
  clear RA
  have b13 : Below W1.heap.size W1 W3 := (b12.drew).trans bel
  have b3 : Below w.heap.size w W3 := b1.trans (b13.mono (Nat.le_of_lt s1))
  have z3 : ZIp W3 w.heap.size := zz.below s1 b13
  have HP2 : Hid (perr6 l = TT.1) := by show perr6 l = _; rw [HPP.out, HTT.out]
  have HN : TT.1 ≠ 0 := by rw [← HTT.out]; exact hT
  obtain ⟨EE, tt⟩ := TT
  simp only at HP2 HN ⊢
  have HN' : (EE != 0) = true := by simpa using HN
  clear fin hT HTT HPP
  have z3' := z3
  obtain ⟨d0, d1, d2, d3, d4, d5, d6, d7, d8, d9, d10, d11, d12, d13, d14, dz⟩ := z3
  go_wp2
  exact parse_ret6 (sIp_set z3' _ _ _ _ _ _ _ _ _ _ _ _ _ _ _) rfl rfl rfl (bad6 HP2.out HN (set15_below b3 (Nat.le_refl _) _ _ _ _ _ _ _ _ _ _ _ _ _ _ _))
/-- A slice of the call's own memory, above all blocks below B. -/
structure FB (W3 W : World) (B : Nat) (a : Option Addr) (c : Nat) (l : List Int) : Prop where
  owns : Owns W B (.slice a l.length c) l
  room : l.length ≤ c
  nil : a = none → c = 0
  small : l.length ≤ 140737488355328
  bytes : M.Bytes l
  below : Below W3.heap.size W3 W
  ge : W3.heap.size ≤ B
theorem FB.put {W3 W : World} {B c g : Nat} {a : Option Addr} {l : List Int} (f : FB W3 W B a c l) (hg : g < B) (h3 : W3.heap.size ≤ g) (i : Nat) (v : Value) : FB W3 (W.setCell ⟨g, i, none⟩ v) B a c l :=
  ⟨f.owns.other hg v, f.room, f.nil, f.small, f.bytes, f.below.setCell h3 v, f.ge⟩
theorem FB.fresh {W3 W : World} {B c : Nat} {a : Option Addr} {l : List Int} (f : FB W3 W B a c l) : Fresh W3 W a c l :=
  ⟨owns_le f.ge f.owns, f.room, f.nil, f.owns.row f.small f.bytes, f.below⟩
abbrev put4 (W : World) (g : Nat) (x9 x10 x11 x12 : Value) : World := (((W.setCell ⟨g, 9, none⟩ x9).setCell ⟨g, 10, none⟩ x10).setCell ⟨g, 11, none⟩ x11).setCell ⟨g, 12, none⟩ x12
theorem put4_alloc (W : World) (v0 v1 v2 v3 v4 v5 v6 v7 v8 v9 v10 v11 v12 v13 v14 x9 x10 x11 x12 : Value) : put4 (W.alloc (.cells #[v0, v1, v2, v3, v4, v5, v6, v7, v8, v9, v10, v11, v12, v13, v14] 42)) W.heap.size x9 x10 x11 x12 = W.alloc (.cells #[v0, v1, v2, v3, v4, v5, v6, v7, v8, x9, x10, x11, x12, v13, v14] 42) := by
  simp [put4, World.setCell_alloc_at]
/-- What stands behind the region that makes the packet. -/
def Made6 (W3 wx : World) (gp : Nat) (l : List Int) (a6 : Option Addr) (c6 : Nat) (v0 v1 v2 v3 v4 v5 v6 v7 v8 v9 v10 v11 v12 v13 v14 : Value) : Prop :=
  SIp wx gp v0 v1 v2 v3 v4 v5 v6 v7 v8 v9 v10 v11 v12 v13 v14 ∧ (∀ o, wx.frozen? ⟨gp, o, none⟩ = false) ∧ W3.heap.size ≤ gp ∧ gp < wx.heap.size ∧ Fresh W3 wx a6 c6 l ∧ ∀ x9 x10 x11 x12, Fresh W3 (put4 wx gp x9 x10 x11 x12) a6 c6 l
theorem made_last {W3 W5 W6 : World} {a : Option Addr} {c : Nat} {l : List Int} (f : Fresh W5 W6 a c l) (b : Below W3.heap.size W3 W5) (v0 v1 v2 v3 v4 v5 v6 v7 v8 v9 v10 v11 v12 v13 v14 : Value) :
    Made6 W3 (W6.alloc (.cells #[v0, v1, v2, v3, v4, v5, v6, v7, v8, v9, v10, v11, v12, v13, v14] 42)) W6.heap.size l a c v0 v1 v2 v3 v4 v5 v6 v7 v8 v9 v10 v11 v12 v13 v14 := by
  have k : ∀ o : Obj, Fresh W3 (W6.alloc o) a c l := fun o =>
    ⟨owns_le b.size (f.owns.alloc o), f.room, f.nil, f.row.alloc o, (b.trans (f.below.mono b.size)).alloc (Nat.le_trans b.size f.below.size) o⟩
  refine ⟨sIp_new W6 v0 v1 v2 v3 v4 v5 v6 v7 v8 v9 v10 v11 v12 v13 v14, fun o => by simp, Nat.le_trans b.size f.below.size, by simp, k _, fun x9 x10 x11 x12 => ?_⟩
  rw [put4_alloc]
  exact k _
theorem made_low {W3 W5 W6 : World} {g c : Nat} {a : Option Addr} {l : List Int} (f : Fresh W5 W6 a c l) (b : Below W3.heap.size W3 W5) (z : ZIp W6 g) (hg : g < W5.heap.size) (h3 : W3.heap.size ≤ g) (v0 v1 v2 v3 v4 v5 v6 v7 v8 v9 v10 v11 v12 v13 v14 : Value) :
    Made6 W3 (set15 W6 g v0 v1 v2 v3 v4 v5 v6 v7 v8 v9 v10 v11 v12 v13 v14) g l a c v0 v1 v2 v3 v4 v5 v6 v7 v8 v9 v10 v11 v12 v13 v14 := by
  have k0 : FB W3 W6 W5.heap.size a c l := ⟨f.owns, f.room, f.nil, f.row.small, f.row.bytes, b.trans (f.below.mono b.size), b.size⟩
  have k1 : FB W3 (set15 W6 g v0 v1 v2 v3 v4 v5 v6 v7 v8 v9 v10 v11 v12 v13 v14) W5.heap.size a c l := by
    iterate 15 (refine FB.put ?_ hg h3 _ _)
    exact k0
  refine ⟨sIp_set z v0 v1 v2 v3 v4 v5 v6 v7 v8 v9 v10 v11 v12 v13 v14, fun o => ?_, h3, ?_, k1.fresh, fun x9 x10 x11 x12 => ?_⟩
  · simp only [World.frozen?_setCell]; exact z.fz o
  · have := f.below.size
    simp only [World.size_setCell]
    omega
  · exact ((((k1.put hg h3 9 x9).put hg h3 10 x10).put hg h3 11 x11).put hg h3 12 x12).fresh
theorem wgo_off : ∀ (n : Nat) (s : St), M.Bytes s.l → 0 ≤ s.off ∧ s.off ≤ 65535 → 0 ≤ (wgo n s).2.off ∧ (wgo n s).2.off ≤ 65535
  | 0, s, _, h => h
  | n + 1, s, hl, h => by
    simp only [wgo]
    split
    · exact h
    split
    · exact h
    · refine wgo_off n (after s) (by rw [after_l]; exact hl.drop _) ?_
      have h1 := u16_bd hl 2
      have e : (after s).off = (took s).off := rfl
      rw [e]
      unfold took
      split
      · show 0 ≤ u16 s.l 2 / 8 * 8 ∧ u16 s.l 2 / 8 * 8 ≤ 65535
        omega
      · exact h
theorem wend_off (nx : Int) (l : List Int) (m : Bool) (hl : M.Bytes l) : 0 ≤ (wend (st0 nx l m)).2.off ∧ (wend (st0 nx l m)).2.off ≤ 65535 := wgo_off _ _ hl ⟨Int.le_refl _, by show (0 : Int) ≤ 65535; decide⟩
theorem OwnsI.other {w : World} {B : Nat} {v : Value} {l : List Int} (h : OwnsI w B v l) {ad : Addr} (ha : ad.block < B) (x : Value) : OwnsI (w.setCell ad x) B v l := ownsRow_setCell_below h ha x
theorem Fresh.cap6 {w w' : World} {a : Option Addr} {c : Nat} {l : List Int} (f : Fresh w w' a c l) : c ≤ 9223372036854775807 := by
  obtain ⟨_, h⟩ := f.owns
  rcases h with ⟨h3, _⟩ | ⟨g, cap, cur, h3, h4, h5, h6, h7, _⟩
  · simp only [Value.slice.injEq] at h3
    omega
  · simp only [Value.slice.injEq] at h3
    obtain ⟨_, _, rfl⟩ := h3
    unfold maxLen at h7
    omega
set_option maxRecDepth 100000 in
set_option maxHeartbeats 4000000 in
theorem Fresh.kept {W3 W W' : World} {c : Nat} {a : Option Addr} {l : List Int} (f : Fresh W3 W a c l) (hb : Below W.heap.size W W') : Fresh W3 W' a c l :=
  ⟨f.owns.below hb, f.room, f.nil, f.row.below hb, f.below.trans (hb.mono f.below.size)⟩
theorem sIp_put4 {W : World} {g : Nat} {v0 v1 v2 v3 v4 v5 v6 v7 v8 v9 v10 v11 v12 v13 v14 : Value} (s : SIp W g v0 v1 v2 v3 v4 v5 v6 v7 v8 v9 v10 v11 v12 v13 v14) (x9 x10 x11 x12 : Value) : SIp (put4 W g x9 x10 x11 x12) g v0 v1 v2 v3 v4 v5 v6 v7 v8 x9 x10 x11 x12 v13 v14 := by
  obtain ⟨c0, c1, c2, c3, c4, c5, c6, c7, c8, c9, c10, c11, c12, c13, c14⟩ := s
  have oth : ∀ o, o ≠ 9 → o ≠ 10 → o ≠ 11 → o ≠ 12 → (put4 W g x9 x10 x11 x12).cell? ⟨g, o, none⟩ = W.cell? ⟨g, o, none⟩ := fun o h9 h10 h11 h12 => by
    rw [put_oth (Ne.symm h12), put_oth (Ne.symm h11), put_oth (Ne.symm h10), put_oth (Ne.symm h9)]
  refine ⟨(oth _ (by decide) (by decide) (by decide) (by decide)).trans c0, (oth _ (by decide) (by decide) (by decide) (by decide)).trans c1, (oth _ (by decide) (by decide) (by decide) (by decide)).trans c2, (oth _ (by decide) (by decide) (by decide) (by decide)).trans c3, (oth _ (by decide) (by decide) (by decide) (by decide)).trans c4, (oth _ (by decide) (by decide) (by decide) (by decide)).trans c5, (oth _ (by decide) (by decide) (by decide) (by decide)).trans c6, (oth _ (by decide) (by decide) (by decide) (by decide)).trans c7, (oth _ (by decide) (by decide) (by decide) (by decide)).trans c8, ?_, ?_, ?_, ?_, (oth _ (by decide) (by decide) (by decide) (by decide)).trans c13, (oth _ (by decide) (by decide) (by decide) (by decide)).trans c14⟩
  · rw [put_oth (by decide), put_oth (by decide), put_oth (by decide)]; exact put_same c9
  · rw [put_oth (by decide), put_oth (by decide)]; exact put_same (by rw [put_oth (by decide)]; exact c10)
  · rw [put_oth (by decide)]; exact put_same (by rw [put_oth (by decide), put_oth (by decide)]; exact c11)
  · exact put_same (by rw [put_oth (by decide), put_oth (by decide), put_oth (by decide)]; exact c12)
theorem good6 {w W3 wc : World} {l D E : List Int} {B c6 xc : Nat} {a6 xa : Option Addr} {sf sh sl df dh dl nx x7 id of : Int} {fg mo : Bool} (hp : perr6 l = 0) (hpk : pk6 l = ⟨6, ⟨sf, sh, sl⟩, ⟨df, dh, dl⟩, nx, x7, fg, id, of, mo, D⟩) (hex : (T6 l).2.ex = E)
    (fr : Fresh W3 wc a6 c6 D) (ex : OwnsI wc B (.slice xa E.length xc) E) (hB : w.heap.size < B) (few : E.length ≤ 8) (bw : Below w.heap.size w wc) (h3 : w.heap.size < W3.heap.size) :
    Got6 w l (.returned (.tuple #[.agg #[.int .i64 6, .int .i64 sf, .int .u64 sh, .int .u64 sl, .int .i64 df, .int .u64 dh, .int .u64 dl, .int .i64 nx, .int .i64 x7, .bool fg, .int .u32 id, .int .i64 of, .bool mo, .slice xa E.length xc, .slice a6 D.length c6], .int .i64 0]))
      (set15 wc w.heap.size (.int .i64 6) (.int .i64 sf) (.int .u64 sh) (.int .u64 sl) (.int .i64 df) (.int .u64 dh) (.int .u64 dl) (.int .i64 nx) (.int .i64 x7) (.bool fg) (.int .u32 id) (.int .i64 of) (.bool mo) (.slice xa E.length xc) (.slice a6 D.length c6)) := by
  have e1 : parsed6 l = pk6 l := by unfold parsed6; rw [if_pos hp]
  have e2 : exts6 l = E := by unfold exts6; rw [if_pos hp, hex]
  have k0 : FB w wc W3.heap.size a6 c6 D := ⟨fr.owns, fr.room, fr.nil, fr.row.small, fr.row.bytes, bw, Nat.le_of_lt h3⟩
  refine ⟨a6, c6, xa, xc, ?_, ?_, ?_, ?_⟩
  · rw [e1, e2, hpk, hp]
  · rw [e1, hpk]
    refine FB.fresh (B := W3.heap.size) ?_
    iterate 15 (refine FB.put ?_ h3 (Nat.le_refl _) _ _)
    exact k0
  · rw [e2]
    refine OwnsI.le (Nat.le_of_lt hB) ?_
    iterate 15 (refine OwnsI.other ?_ hB _)
    exact ex
  · rw [e2]; exact few
end Go.Proofs.Ytbghilihccaaaaa
