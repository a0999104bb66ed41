/- The law Ip4Reads returns true. -/
import Derived.Test.YtkgackhgbblobaaIp4S
import Derived.Test.YtkgackhgbblobaaIp4RP
import Derived.Deep.RegionHeld3
namespace Go.Proofs.Ytkgackhgbblobaa
open Go.RowKit
set_option linter.unusedVariables false
set_option linter.unusedSimpArgs false

set_option maxRecDepth 100000 in
set_option maxHeartbeats 4000000 in
theorem ip4Reads_walk (a : Option Addr) (c : Nat) (l : List Int) (W : World) (hc : l.length ≤ c) (hcm : c ≤ 140737488351232) (hnil : a = none → c = 0) (hr : Row W a l) :
    Calls Try.prog 3 #[.slice a l.length c] W fun e w' => e = .returned (.bool true) ∧ Below W.heap.size W w' := by
  obtain ⟨E, hE⟩ : ∃ E, perr l = E := ⟨_, rfl⟩
  obtain ⟨P, hP⟩ : ∃ P, parsed l = P := ⟨_, rfl⟩
  obtain ⟨f, ⟨sf, sh, sl⟩, ⟨df, dh, dl⟩, pr, ho, fg, id, of, mo, D⟩ := P
  have K1 : Hid (Calls Try.prog 9 #[.slice a l.length c] W fun e w' => ∃ a1 c1, e = .returned (.tuple #[.agg #[.int .i64 f, .int .i64 sf, .int .u64 sh, .int .u64 sl, .int .i64 df, .int .u64 dh, .int .u64 dl, .int .i64 pr, .int .i64 ho, .bool fg, .int .u32 id, .int .i64 of, .bool mo, .slice none 0 0, .slice a1 D.length c1], .int .i64 E]) ∧ Fresh W w' a1 c1 D) := by
    have := parse_any a c l W hr hnil (by omega) hc (by omega)
    rw [hE, hP] at this
    exact this
  have K2 : Hid (∀ X, Row X a l → Calls Try.prog 10 #[.slice a l.length c] X fun e w' => ∃ a3 c3, e = .returned (.tuple #[.agg #[.int .i64 f, .int .i64 sf, .int .u64 sh, .int .u64 sl, .int .i64 df, .int .u64 dh, .int .u64 dl, .int .i64 pr, .int .i64 ho, .bool fg, .int .u32 id, .int .i64 of, .bool mo, .slice none 0 0, .slice a3 D.length c3], .int .i64 E]) ∧ Fresh X w' a3 c3 D) := by
    intro X hX
    have := rparse_any a c l X hX hnil (by omega) hc (by omega)
    rw [hE, hP] at this
    exact this
  clear hE hP
  go_enter Try.func3, Try.ntmps3
  go_wp2_with fail
  refine K1.out.mono ?_
  rintro e W1 ⟨a1, c1, rfl, f1⟩
  obtain ⟨W2, hW2⟩ : ∃ W2, W1.alloc (.cells #[.int .i64 f, .int .i64 sf, .int .u64 sh, .int .u64 sl, .int .i64 df, .int .u64 dh, .int .u64 dl, .int .i64 pr, .int .i64 ho, .bool fg, .int .u32 id, .int .i64 of, .bool mo, .slice none 0 0, .slice a1 D.length c1] 29) = W2 := ⟨_, rfl⟩
  have b12 : Below W1.heap.size W1 W2 := by rw [← hW2]; exact (Below.refl _ _).alloc (Nat.le_refl _) _
  have b2 : Below W.heap.size W W2 := f1.below.trans (b12.mono f1.below.size)
  have z2 : W1.heap.size < W2.heap.size := by rw [← hW2]; simp
  have S2 : Hid (SIp W2 W1.heap.size (.int .i64 f) (.int .i64 sf) (.int .u64 sh) (.int .u64 sl) (.int .i64 df) (.int .u64 dh) (.int .u64 dl) (.int .i64 pr) (.int .i64 ho) (.bool fg) (.int .u32 id) (.int .i64 of) (.bool mo) (.slice none 0 0) (.slice a1 D.length c1)) := by rw [← hW2]; exact sIp_new W1 _ _ _ _ _ _ _ _ _ _ _ _ _ _ _
  have R2 : Hid (Row W2 a1 D ∧ Row W2 a l) := ⟨f1.row.below b12, hr.below b2⟩
  have B2 : Hid (Below W.heap.size W W2) := b2
  clear f1 b12 b2 hr K1
  go_wp2_with fail
  refine (K2.out W2 R2.out.2).mono ?_
  rintro e W3 ⟨a3, c3, rfl, f3⟩
  obtain ⟨W4, hW4⟩ : ∃ W4, W3.alloc (.cells #[.int .i64 f, .int .i64 sf, .int .u64 sh, .int .u64 sl, .int .i64 df, .int .u64 dh, .int .u64 dl, .int .i64 pr, .int .i64 ho, .bool fg, .int .u32 id, .int .i64 of, .bool mo, .slice none 0 0, .slice a3 D.length c3] 29) = W4 := ⟨_, rfl⟩
  have b34 : Below W3.heap.size W3 W4 := by rw [← hW4]; exact (Below.refl _ _).alloc (Nat.le_refl _) _
  have b24 : Below W2.heap.size W2 W4 := f3.below.trans (b34.mono f3.below.size)
  obtain ⟨d0, d1, d2, d3, d4, d5, d6, d7, d8, d9, d10, d11, d12, d13, d14⟩ := S2.out.below z2 b24
  obtain ⟨e0, e1, e2, e3, e4, e5, e6, e7, e8, e9, e10, e11, e12, e13, e14⟩ : SIp W4 W3.heap.size (.int .i64 f) (.int .i64 sf) (.int .u64 sh) (.int .u64 sl) (.int .i64 df) (.int .u64 dh) (.int .u64 dl) (.int .i64 pr) (.int .i64 ho) (.bool fg) (.int .u32 id) (.int .i64 of) (.bool mo) (.slice none 0 0) (.slice a3 D.length c3) := by rw [← hW4]; exact sIp_new W3 _ _ _ _ _ _ _ _ _ _ _ _ _ _ _
  have K4 : Hid (Calls Try.prog 11 #[.agg #[.int .i64 f, .int .i64 sf, .int .u64 sh, .int .u64 sl, .int .i64 df, .int .u64 dh, .int .u64 dl, .int .i64 pr, .int .i64 ho, .bool fg, .int .u32 id, .int .i64 of, .bool mo, .slice none 0 0, .slice a1 D.length c1], .agg #[.int .i64 f, .int .i64 sf, .int .u64 sh, .int .u64 sl, .int .i64 df, .int .u64 dh, .int .u64 dl, .int .i64 pr, .int .i64 ho, .bool fg, .int .u32 id, .int .i64 of, .bool mo, .slice none 0 0, .slice a3 D.length c3]] W4 fun e w' => e = .returned (.bool true) ∧ Below W4.heap.size W4 w') := same_ip f sf sh sl df dh dl pr ho fg id of mo none 0 none 0 a1 c1 a3 c3 D W4 (R2.out.1.below b24) (f3.row.below b34)
  have B4 : Hid (Below W.heap.size W W4) := B2.out.trans (b24.mono B2.out.size)
  clear f3 b34 b24 K2
  go_wp2_with fail
  refine K4.out.mono ?_
  rintro e W5 ⟨rfl, b5⟩
  have B5 : Hid (Below W.heap.size W W5) := B4.out.trans (b5.mono B4.out.size)
  clear b5 d0 d1 d2 d3 d4 d5 d6 d7 d8 d9 d10 d11 d12 d13 d14 e0 e1 e2 e3 e4 e5 e6 e7 e8 e9 e10 e11 e12 e13 e14
  go_wp2_with fail
  refine (alive_any W5).mono ?_
  rintro e W6 ⟨rfl, b6⟩
  have bc : Hid (Below W.heap.size W W6) := B5.out.trans (b6.mono B5.out.size)
  clear b6
  go_wp2_with fail
  go_ret
  exact ⟨rfl, bc.out⟩
end Go.Proofs.Ytkgackhgbblobaa
