/- Texts joined: Ip6I -/
import Derived.Test.YtmnkdogdligckaaIp6zb18
namespace Go.Proofs.Ytmnkdogdligckaa
open Go.RowKit
set_option linter.unusedVariables false
set_option linter.unusedSimpArgs false
/-- A slice of the call's own memory, above all blocks below B. -/
structure FB (W3 W : World) (B : Nat) (a : Option Addr) (c : Nat) (l : List Int) : Prop where
  owns : Owns W B (.slice a l.length c) l
  room : l.length ≤ c
  nil : a = none → c = 0
  small : l.length ≤ 140737488355328
  bytes : M.Bytes l
  below : Below W3.heap.size W3 W
  ge : W3.heap.size ≤ B
theorem FB.put {W3 W : World} {B c g : Nat} {a : Option Addr} {l : List Int} (f : FB W3 W B a c l) (hg : g < B) (h3 : W3.heap.size ≤ g) (i : Nat) (v : Value) : FB W3 (W.setCell ⟨g, i, none⟩ v) B a c l :=
  ⟨f.owns.other hg v, f.room, f.nil, f.small, f.bytes, f.below.setCell h3 v, f.ge⟩
theorem FB.fresh {W3 W : World} {B c : Nat} {a : Option Addr} {l : List Int} (f : FB W3 W B a c l) : Fresh W3 W a c l :=
  ⟨owns_le f.ge f.owns, f.room, f.nil, f.owns.row f.small f.bytes, f.below⟩
abbrev put4 (W : World) (g : Nat) (x9 x10 x11 x12 : Value) : World := (((W.setCell ⟨g, 9, none⟩ x9).setCell ⟨g, 10, none⟩ x10).setCell ⟨g, 11, none⟩ x11).setCell ⟨g, 12, none⟩ x12
theorem put4_alloc (W : World) (v0 v1 v2 v3 v4 v5 v6 v7 v8 v9 v10 v11 v12 v13 v14 x9 x10 x11 x12 : Value) : put4 (W.alloc (.cells #[v0, v1, v2, v3, v4, v5, v6, v7, v8, v9, v10, v11, v12, v13, v14] 38)) W.heap.size x9 x10 x11 x12 = W.alloc (.cells #[v0, v1, v2, v3, v4, v5, v6, v7, v8, x9, x10, x11, x12, v13, v14] 38) := by
  simp [put4, World.setCell_alloc_at]
/-- What stands behind the region that makes the packet. -/
def Made6 (W3 wx : World) (gp : Nat) (l : List Int) (a6 : Option Addr) (c6 : Nat) (v0 v1 v2 v3 v4 v5 v6 v7 v8 v9 v10 v11 v12 v13 v14 : Value) : Prop :=
  SIp wx gp v0 v1 v2 v3 v4 v5 v6 v7 v8 v9 v10 v11 v12 v13 v14 ∧ (∀ o, wx.frozen? ⟨gp, o, none⟩ = false) ∧ W3.heap.size ≤ gp ∧ gp < wx.heap.size ∧ Fresh W3 wx a6 c6 l ∧ ∀ x9 x10 x11 x12, Fresh W3 (put4 wx gp x9 x10 x11 x12) a6 c6 l
theorem made_last {W3 W5 W6 : World} {a : Option Addr} {c : Nat} {l : List Int} (f : Fresh W5 W6 a c l) (b : Below W3.heap.size W3 W5) (v0 v1 v2 v3 v4 v5 v6 v7 v8 v9 v10 v11 v12 v13 v14 : Value) :
    Made6 W3 (W6.alloc (.cells #[v0, v1, v2, v3, v4, v5, v6, v7, v8, v9, v10, v11, v12, v13, v14] 38)) W6.heap.size l a c v0 v1 v2 v3 v4 v5 v6 v7 v8 v9 v10 v11 v12 v13 v14 := by
  have k : ∀ o : Obj, Fresh W3 (W6.alloc o) a c l := fun o =>
    ⟨owns_le b.size (f.owns.alloc o), f.room, f.nil, f.row.alloc o, (b.trans (f.below.mono b.size)).alloc (Nat.le_trans b.size f.below.size) o⟩
  refine ⟨sIp_new W6 v0 v1 v2 v3 v4 v5 v6 v7 v8 v9 v10 v11 v12 v13 v14, fun o => by simp, Nat.le_trans b.size f.below.size, by simp, k _, fun x9 x10 x11 x12 => ?_⟩
  rw [put4_alloc]
  exact k _
theorem made_low {W3 W5 W6 : World} {g c : Nat} {a : Option Addr} {l : List Int} (f : Fresh W5 W6 a c l) (b : Below W3.heap.size W3 W5) (z : ZIp W6 g) (hg : g < W5.heap.size) (h3 : W3.heap.size ≤ g) (v0 v1 v2 v3 v4 v5 v6 v7 v8 v9 v10 v11 v12 v13 v14 : Value) :
    Made6 W3 (set15 W6 g v0 v1 v2 v3 v4 v5 v6 v7 v8 v9 v10 v11 v12 v13 v14) g l a c v0 v1 v2 v3 v4 v5 v6 v7 v8 v9 v10 v11 v12 v13 v14 := by
  have k0 : FB W3 W6 W5.heap.size a c l := ⟨f.owns, f.room, f.nil, f.row.small, f.row.bytes, b.trans (f.below.mono b.size), b.size⟩
  have k1 : FB W3 (set15 W6 g v0 v1 v2 v3 v4 v5 v6 v7 v8 v9 v10 v11 v12 v13 v14) W5.heap.size a c l := by
    iterate 15 (refine FB.put ?_ hg h3 _ _)
    exact k0
  refine ⟨sIp_set z v0 v1 v2 v3 v4 v5 v6 v7 v8 v9 v10 v11 v12 v13 v14, fun o => ?_, h3, ?_, k1.fresh, fun x9 x10 x11 x12 => ?_⟩
  · simp only [World.frozen?_setCell]; exact z.fz o
  · have := f.below.size
    simp only [World.size_setCell]
    omega
  · exact ((((k1.put hg h3 9 x9).put hg h3 10 x10).put hg h3 11 x11).put hg h3 12 x12).fresh
theorem wgo_off : ∀ (n : Nat) (s : St), M.Bytes s.l → 0 ≤ s.off ∧ s.off ≤ 65535 → 0 ≤ (wgo n s).2.off ∧ (wgo n s).2.off ≤ 65535
  | 0, s, _, h => h
  | n + 1, s, hl, h => by
    simp only [wgo]
    split
    · exact h
    split
    · exact h
    · refine wgo_off n (after s) (by rw [after_l]; exact hl.drop _) ?_
      have h1 := u16_bd hl 2
      have e : (after s).off = (took s).off := rfl
      rw [e]
      unfold took
      split
      · show 0 ≤ u16 s.l 2 / 8 * 8 ∧ u16 s.l 2 / 8 * 8 ≤ 65535
        omega
      · exact h
theorem wend_off (nx : Int) (l : List Int) (m : Bool) (hl : M.Bytes l) : 0 ≤ (wend (st0 nx l m)).2.off ∧ (wend (st0 nx l m)).2.off ≤ 65535 := wgo_off _ _ hl ⟨Int.le_refl _, by show (0 : Int) ≤ 65535; decide⟩
theorem OwnsI.other {w : World} {B : Nat} {v : Value} {l : List Int} (h : OwnsI w B v l) {ad : Addr} (ha : ad.block < B) (x : Value) : OwnsI (w.setCell ad x) B v l := ownsRow_setCell_below h ha x
theorem Fresh.cap6 {w w' : World} {a : Option Addr} {c : Nat} {l : List Int} (f : Fresh w w' a c l) : c ≤ 9223372036854775807 := by
  obtain ⟨_, h⟩ := f.owns
  rcases h with ⟨h3, _⟩ | ⟨g, cap, cur, h3, h4, h5, h6, h7, _⟩
  · simp only [Value.slice.injEq] at h3
    omega
  · simp only [Value.slice.injEq] at h3
    obtain ⟨_, _, rfl⟩ := h3
    unfold maxLen at h7
    omega
set_option maxRecDepth 100000 in
set_option maxHeartbeats 4000000 in
theorem Fresh.kept {W3 W W' : World} {c : Nat} {a : Option Addr} {l : List Int} (f : Fresh W3 W a c l) (hb : Below W.heap.size W W') : Fresh W3 W' a c l :=
  ⟨f.owns.below hb, f.room, f.nil, f.row.below hb, f.below.trans (hb.mono f.below.size)⟩
theorem sIp_put4 {W : World} {g : Nat} {v0 v1 v2 v3 v4 v5 v6 v7 v8 v9 v10 v11 v12 v13 v14 : Value} (s : SIp W g v0 v1 v2 v3 v4 v5 v6 v7 v8 v9 v10 v11 v12 v13 v14) (x9 x10 x11 x12 : Value) : SIp (put4 W g x9 x10 x11 x12) g v0 v1 v2 v3 v4 v5 v6 v7 v8 x9 x10 x11 x12 v13 v14 := by
  obtain ⟨c0, c1, c2, c3, c4, c5, c6, c7, c8, c9, c10, c11, c12, c13, c14⟩ := s
  have oth : ∀ o, o ≠ 9 → o ≠ 10 → o ≠ 11 → o ≠ 12 → (put4 W g x9 x10 x11 x12).cell? ⟨g, o, none⟩ = W.cell? ⟨g, o, none⟩ := fun o h9 h10 h11 h12 => by
    rw [put_oth (Ne.symm h12), put_oth (Ne.symm h11), put_oth (Ne.symm h10), put_oth (Ne.symm h9)]
  refine ⟨(oth _ (by decide) (by decide) (by decide) (by decide)).trans c0, (oth _ (by decide) (by decide) (by decide) (by decide)).trans c1, (oth _ (by decide) (by decide) (by decide) (by decide)).trans c2, (oth _ (by decide) (by decide) (by decide) (by decide)).trans c3, (oth _ (by decide) (by decide) (by decide) (by decide)).trans c4, (oth _ (by decide) (by decide) (by decide) (by decide)).trans c5, (oth _ (by decide) (by decide) (by decide) (by decide)).trans c6, (oth _ (by decide) (by decide) (by decide) (by decide)).trans c7, (oth _ (by decide) (by decide) (by decide) (by decide)).trans c8, ?_, ?_, ?_, ?_, (oth _ (by decide) (by decide) (by decide) (by decide)).trans c13, (oth _ (by decide) (by decide) (by decide) (by decide)).trans c14⟩
  · rw [put_oth (by decide), put_oth (by decide), put_oth (by decide)]; exact put_same c9
  · rw [put_oth (by decide), put_oth (by decide)]; exact put_same (by rw [put_oth (by decide)]; exact c10)
  · rw [put_oth (by decide)]; exact put_same (by rw [put_oth (by decide), put_oth (by decide)]; exact c11)
  · exact put_same (by rw [put_oth (by decide), put_oth (by decide), put_oth (by decide)]; exact c12)
theorem good6 {w W3 wc : World} {l D E : List Int} {B c6 xc : Nat} {a6 xa : Option Addr} {sf sh sl df dh dl nx x7 id of : Int} {fg mo : Bool} (hp : perr6 l = 0) (hpk : pk6 l = ⟨6, ⟨sf, sh, sl⟩, ⟨df, dh, dl⟩, nx, x7, fg, id, of, mo, D⟩) (hex : (T6 l).2.ex = E)
    (fr : Fresh W3 wc a6 c6 D) (ex : OwnsI wc B (.slice xa E.length xc) E) (hB : w.heap.size < B) (few : E.length ≤ 8) (bw : Below w.heap.size w wc) (h3 : w.heap.size < W3.heap.size) :
    Got6 w l (.returned (.tuple #[.agg #[.int .i64 6, .int .i64 sf, .int .u64 sh, .int .u64 sl, .int .i64 df, .int .u64 dh, .int .u64 dl, .int .i64 nx, .int .i64 x7, .bool fg, .int .u32 id, .int .i64 of, .bool mo, .slice xa E.length xc, .slice a6 D.length c6], .int .i64 0]))
      (set15 wc w.heap.size (.int .i64 6) (.int .i64 sf) (.int .u64 sh) (.int .u64 sl) (.int .i64 df) (.int .u64 dh) (.int .u64 dl) (.int .i64 nx) (.int .i64 x7) (.bool fg) (.int .u32 id) (.int .i64 of) (.bool mo) (.slice xa E.length xc) (.slice a6 D.length c6)) := by
  have e1 : parsed6 l = pk6 l := by unfold parsed6; rw [if_pos hp]
  have e2 : exts6 l = E := by unfold exts6; rw [if_pos hp, hex]
  have k0 : FB w wc W3.heap.size a6 c6 D := ⟨fr.owns, fr.room, fr.nil, fr.row.small, fr.row.bytes, bw, Nat.le_of_lt h3⟩
  refine ⟨a6, c6, xa, xc, ?_, ?_, ?_, ?_⟩
  · rw [e1, e2, hpk, hp]
  · rw [e1, hpk]
    refine FB.fresh (B := W3.heap.size) ?_
    iterate 15 (refine FB.put ?_ h3 (Nat.le_refl _) _ _)
    exact k0
  · rw [e2]
    refine OwnsI.le (Nat.le_of_lt hB) ?_
    iterate 15 (refine OwnsI.other ?_ hB _)
    exact ex
  · rw [e2]; exact few
end Go.Proofs.Ytmnkdogdligckaa
