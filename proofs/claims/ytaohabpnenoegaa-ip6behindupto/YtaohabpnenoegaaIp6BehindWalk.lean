/- The law Ip6Behind returns true at bytes that together are not too many. -/
import Derived.Test.YtaohabpnenoegaaIp6K
import Derived.Deep.RegionHeld3
namespace Go.Proofs.Ytaohabpnenoegaa
open Go.RowKit
set_option linter.unusedVariables false
set_option linter.unusedSimpArgs false

theorem Owns.cap_le {w : World} {B c n : Nat} {a : Option Addr} {l : List Int} (h : Owns w B (.slice a n c) l) : c ≤ 9223372036854775807 := by
  obtain ⟨_, h⟩ := h
  rcases h with ⟨h3, _⟩ | ⟨g, cap, cur, h3, h4, h5, h6, h7, _⟩
  · simp only [Value.slice.injEq] at h3
    omega
  · simp only [Value.slice.injEq] at h3
    obtain ⟨_, _, rfl⟩ := h3
    unfold maxLen at h7
    omega

theorem T6_app {l : List Int} (m : List Int) (h : ¬ l.length < 40) (h5 : ¬ u16 l 4 > (l.length : Int) - 40) : T6 (l ++ m) = T6 l ∧ u16 (l ++ m) 4 = u16 l 4 := by
  have e8 : u16 (l ++ m) 4 = u16 l 4 := by
    show 256 * (l ++ m).getD 4 0 + (l ++ m).getD 5 0 = 256 * l.getD 4 0 + l.getD 5 0
    rw [getD_left _ _ 4 (by omega), getD_left _ _ 5 (by omega)]
  refine ⟨?_, e8⟩
  unfold T6
  rw [e8, getD_left _ _ 6 (by omega), List.drop_append_of_le_length (by omega), List.take_append_of_le_length (by rw [List.length_drop]; omega)]
theorem behind6 {l : List Int} (m : List Int) (h : perr6 l = 0) : perr6 (l ++ m) = 0 ∧ parsed6 (l ++ m) = parsed6 l ∧ exts6 (l ++ m) = exts6 l := by
  obtain ⟨h40, h5, hT, hv, h7, hw⟩ := perr6_ok h
  obtain ⟨e1, e2⟩ := T6_app m h40 h5
  have e3 : perr6 (l ++ m) = 0 := by
    unfold perr6
    rw [if_neg (by rw [List.length_append]; omega), getD_left _ _ 0 (by omega), if_neg (by rw [hv]; simp), e2, if_neg (by rw [List.length_append]; omega), getD_left _ _ 7 (by omega), if_neg h7, e1, if_neg (by rw [hT]; simp)]
    split
    · next hc => exact hw hc
    · rfl
  refine ⟨e3, ?_, ?_⟩
  · unfold parsed6
    rw [if_pos e3, if_pos h]
    unfold pk6
    rw [part_app (by decide) (by decide) (by omega), part_app (by decide) (by decide) (by omega), e1, getD_left _ _ 7 (by omega)]
  · unfold exts6
    rw [if_pos e3, if_pos h, e1]

set_option maxRecDepth 100000 in
set_option maxHeartbeats 4000000 in
theorem ip6Behind_walk (a : Option Addr) (c : Nat) (l : List Int) (b : Option Addr) (d : Nat) (m : List Int) (W : World) (hc : l.length ≤ c) (hcm : c ≤ 140737488351232) (hnil : a = none → c = 0) (hr : Row W a l)
    (hd : m.length ≤ d) (hdm : d ≤ 140737488351232) (hnil' : b = none → d = 0) (hr' : Row W b m) (hbl : l.length + m.length ≤ 2097152) :
    Calls Try.prog 7 #[.slice a l.length c, .slice b m.length d] W fun e w' => e = .returned (.bool true) ∧ Below W.heap.size W w' := by
  obtain ⟨E, hE⟩ : ∃ E, perr6 l = E := ⟨_, rfl⟩
  obtain ⟨P, hP⟩ : ∃ P, parsed6 l = P := ⟨_, rfl⟩
  obtain ⟨X, hX⟩ : ∃ X, exts6 l = X := ⟨_, rfl⟩
  obtain ⟨f, ⟨sf, sh, sl⟩, ⟨df, dh, dl⟩, pr, ho, fg, id, of, mo, D⟩ := P
  have K1 : Hid (Calls Try.prog 15 #[.slice a l.length c] W fun e w' => ∃ a1 c1 xa xc, e = .returned (.tuple #[.agg #[.int .i64 f, .int .i64 sf, .int .u64 sh, .int .u64 sl, .int .i64 df, .int .u64 dh, .int .u64 dl, .int .i64 pr, .int .i64 ho, .bool fg, .int .u32 id, .int .i64 of, .bool mo, .slice xa X.length xc, .slice a1 D.length c1], .int .i64 E]) ∧ Fresh W w' a1 c1 D ∧ OwnsI w' W.heap.size (.slice xa X.length xc) X ∧ X.length ≤ 8) := by
    have := parse6_any a c l W hr hnil (by omega) hc (by omega)
    unfold Got6 at this
    rw [hE, hP, hX] at this
    exact this
  have HP : Hid (perr6 l = E ∧ parsed6 l = (⟨f, ⟨sf, sh, sl⟩, ⟨df, dh, dl⟩, pr, ho, fg, id, of, mo, D⟩ : Pk) ∧ exts6 l = X) := ⟨hE, hP, hX⟩
  clear hE hP hX
  by_cases hE0 : E = 0
  case neg =>
    have hE1 : (E != 0) = true := by simpa using hE0
    clear hE0
    go_enter Try.func7, Try.ntmps7
    go_wp2_with fail
    refine Calls.mono K1.out ?_
    rintro e W1 ⟨a1, c1, xa, xc, rfl, f1, o1, l8⟩
    obtain ⟨W2, hW2⟩ : ∃ W2, W1.alloc (.cells #[.int .i64 f, .int .i64 sf, .int .u64 sh, .int .u64 sl, .int .i64 df, .int .u64 dh, .int .u64 dl, .int .i64 pr, .int .i64 ho, .bool fg, .int .u32 id, .int .i64 of, .bool mo, .slice xa X.length xc, .slice a1 D.length c1] 38) = W2 := ⟨_, rfl⟩
    have b2 : Hid (Below W.heap.size W W2) := by rw [← hW2]; exact f1.below.alloc f1.below.size _
    clear f1 o1
    go_wp2_with fail
    refine (alive6_any W2).mono ?_
    rintro e W3 ⟨rfl, b3⟩
    have bc : Hid (Below W.heap.size W W3) := b2.out.trans (b3.mono b2.out.size)
    clear b3
    go_wp2_with fail
    go_ret
    exact ⟨rfl, bc.out⟩
  subst hE0
  obtain ⟨r, hrr⟩ : ∃ r, l ++ m = r := ⟨_, rfl⟩
  have hrl : r.length ≤ 2097152 := by rw [← hrr, List.length_append]; omega
  have HR : Hid (l ++ m = r) := hrr
  have HB : Hid (perr6 r = 0 ∧ parsed6 r = (⟨f, ⟨sf, sh, sl⟩, ⟨df, dh, dl⟩, pr, ho, fg, id, of, mo, D⟩ : Pk) ∧ exts6 r = X) := by
    have h1 := behind6 m HP.out.1
    rw [hrr, HP.out.2.1, HP.out.2.2] at h1
    exact h1
  have hlb := hr.bytes
  have hll : l.length ≤ 2097152 := by omega
  clear hrr
  go_enter Try.func7, Try.ntmps7
  go_wp2_with fail
  refine Calls.mono K1.out ?_
  rintro e W1 ⟨a1, c1, xa, xc, rfl, f1, o1, l8⟩
  obtain ⟨W2, hW2⟩ : ∃ W2, W1.alloc (.cells #[.int .i64 f, .int .i64 sf, .int .u64 sh, .int .u64 sl, .int .i64 df, .int .u64 dh, .int .u64 dl, .int .i64 pr, .int .i64 ho, .bool fg, .int .u32 id, .int .i64 of, .bool mo, .slice xa X.length xc, .slice a1 D.length c1] 38) = W2 := ⟨_, rfl⟩
  have b12 : Below W1.heap.size W1 W2 := by rw [← hW2]; exact (Below.refl _ _).alloc (Nat.le_refl _) _
  have b2 : Below W.heap.size W W2 := f1.below.trans (b12.mono f1.below.size)
  have z2 : W1.heap.size < W2.heap.size := by rw [← hW2]; simp
  have S2 : Hid (SIp W2 W1.heap.size (.int .i64 f) (.int .i64 sf) (.int .u64 sh) (.int .u64 sl) (.int .i64 df) (.int .u64 dh) (.int .u64 dl) (.int .i64 pr) (.int .i64 ho) (.bool fg) (.int .u32 id) (.int .i64 of) (.bool mo) (.slice xa X.length xc) (.slice a1 D.length c1)) := by rw [← hW2]; exact sIp_new W1 _ _ _ _ _ _ _ _ _ _ _ _ _ _ _
  have R2 : Hid (Row W2 a1 D ∧ Row W2 a l ∧ Row W2 b m) := ⟨f1.row.below b12, hr.below b2, hr'.below b2⟩
  have RX : Hid (RowI W2 xa X) := (o1.row (by omega)).below b12
  have ra := R2.out.2.1
  have B2 : Hid (Below W.heap.size W W2) := b2
  clear f1 o1 b12 b2 hr hr' K1
  go_wp2_with (at_builtin; refine wpList_app2 _ rfl _ _ rfl W2.heap.size _ [] rfl (Owns.nil _ _) M.Bytes.nil a c l rfl ra hnil l rfl ?c1 (Nat.le_refl _) ?_)
  case c1 => omega
  intro a3 c3 W3 o3 hc3 hn3 r3 b3 _
  have rb : Row W3 b m := R2.out.2.2.below b3
  have z3 := b3.size
  have B3 : Hid (Below W2.heap.size W2 W3) := b3
  clear b3 ra
  go_wp2_with (at_builtin; refine wpList_app2 _ rfl _ _ rfl W2.heap.size _ l rfl o3 hlb b d m rfl rb hnil' r HR.out ?c1 z3 ?_)
  case c1 => omega
  intro a4 c4 W4 o4 hc4 hn4 r4 b4 _
  have B4 : Hid (Below W2.heap.size W2 W4) := B3.out.trans b4
  have K4 : Hid (Calls Try.prog 15 #[.slice a4 r.length c4] W4 fun e w' => ∃ a5 c5 ya yc, e = .returned (.tuple #[.agg #[.int .i64 f, .int .i64 sf, .int .u64 sh, .int .u64 sl, .int .i64 df, .int .u64 dh, .int .u64 dl, .int .i64 pr, .int .i64 ho, .bool fg, .int .u32 id, .int .i64 of, .bool mo, .slice ya X.length yc, .slice a5 D.length c5], .int .i64 0]) ∧ Fresh W4 w' a5 c5 D ∧ OwnsI w' W4.heap.size (.slice ya X.length yc) X ∧ X.length ≤ 8) := by
    have := parse6_any a4 c4 r W4 r4 hn4 (by omega) hc4 o4.cap_le
    unfold Got6 at this
    rw [HB.out.1, HB.out.2.1, HB.out.2.2] at this
    exact this
  clear o3 hc3 hn3 r3 rb z3 B3 o4 hc4 hn4 r4 b4
  go_wp2_with fail
  refine Calls.mono K4.out ?_
  rintro e W5 ⟨a5, c5, ya, yc, rfl, f5, o5, _⟩
  obtain ⟨W6, hW6⟩ : ∃ W6, W5.alloc (.cells #[.int .i64 f, .int .i64 sf, .int .u64 sh, .int .u64 sl, .int .i64 df, .int .u64 dh, .int .u64 dl, .int .i64 pr, .int .i64 ho, .bool fg, .int .u32 id, .int .i64 of, .bool mo, .slice ya X.length yc, .slice a5 D.length c5] 38) = W6 := ⟨_, rfl⟩
  have b56 : Below W5.heap.size W5 W6 := by rw [← hW6]; exact (Below.refl _ _).alloc (Nat.le_refl _) _
  have b26 : Below W2.heap.size W2 W6 := B4.out.trans ((f5.below.trans (b56.mono f5.below.size)).mono B4.out.size)
  obtain ⟨d0, d1, d2, d3, d4, d5, d6, d7, d8, d9, d10, d11, d12, d13, d14⟩ := S2.out.below z2 b26
  obtain ⟨e0, e1, e2, e3, e4, e5, e6, e7, e8, e9, e10, e11, e12, e13, e14⟩ : SIp W6 W5.heap.size (.int .i64 f) (.int .i64 sf) (.int .u64 sh) (.int .u64 sl) (.int .i64 df) (.int .u64 dh) (.int .u64 dl) (.int .i64 pr) (.int .i64 ho) (.bool fg) (.int .u32 id) (.int .i64 of) (.bool mo) (.slice ya X.length yc) (.slice a5 D.length c5) := by rw [← hW6]; exact sIp_new W5 _ _ _ _ _ _ _ _ _ _ _ _ _ _ _
  have K6 : Hid (Calls Try.prog 17 #[.agg #[.int .i64 f, .int .i64 sf, .int .u64 sh, .int .u64 sl, .int .i64 df, .int .u64 dh, .int .u64 dl, .int .i64 pr, .int .i64 ho, .bool fg, .int .u32 id, .int .i64 of, .bool mo, .slice xa X.length xc, .slice a1 D.length c1], .agg #[.int .i64 f, .int .i64 sf, .int .u64 sh, .int .u64 sl, .int .i64 df, .int .u64 dh, .int .u64 dl, .int .i64 pr, .int .i64 ho, .bool fg, .int .u32 id, .int .i64 of, .bool mo, .slice ya X.length yc, .slice a5 D.length c5]] W6 fun e w' => e = .returned (.bool true) ∧ Below W6.heap.size W6 w') := same_ip6 f sf sh sl df dh dl pr ho fg id of mo xa xc ya yc X a1 c1 a5 c5 D W6 (R2.out.1.below b26) (f5.row.below b56) (RX.out.below b26) ((o5.row (by omega)).below b56)
  have B6 : Hid (Below W.heap.size W W6) := B2.out.trans (b26.mono B2.out.size)
  clear f5 o5 b56 b26 K4
  go_wp2_with fail
  refine Calls.mono K6.out ?_
  rintro e W7 ⟨rfl, b7⟩
  have B7 : Hid (Below W.heap.size W W7) := B6.out.trans (b7.mono B6.out.size)
  clear b7 d0 d1 d2 d3 d4 d5 d6 d7 d8 d9 d10 d11 d12 d13 d14 e0 e1 e2 e3 e4 e5 e6 e7 e8 e9 e10 e11 e12 e13 e14
  go_wp2_with fail
  refine (alive6_any W7).mono ?_
  rintro e W8 ⟨rfl, b8⟩
  have bc : Hid (Below W.heap.size W W8) := B7.out.trans (b8.mono B7.out.size)
  clear b8
  go_wp2_with fail
  go_ret
  exact ⟨rfl, bc.out⟩
end Go.Proofs.Ytaohabpnenoegaa
