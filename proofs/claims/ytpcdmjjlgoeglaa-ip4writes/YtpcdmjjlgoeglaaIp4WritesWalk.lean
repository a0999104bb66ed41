/- The law Ip4Writes returns true. -/
import Derived.Test.YtpcdmjjlgoeglaaIp4X
import Derived.Test.YtpcdmjjlgoeglaaIp4S
namespace Go.Proofs.Ytpcdmjjlgoeglaa
open Go.RowKit
set_option linter.unusedVariables false
set_option linter.unusedSimpArgs false

set_option maxRecDepth 100000 in
set_option maxHeartbeats 4000000 in
theorem ip4Writes_walk (q : Pk) (xa : Option Addr) (xn xc : Nat) (da : Option Addr) (dc : Nat) (W : World) (ok : q.ok) (hdc : q.data.length ≤ dc) (hdm : dc ≤ 140737488351232) (hdn : da = none → dc = 0) (hr : Row W da q.data) :
    Calls Try.prog 3 #[q.v (.slice xa xn xc) (.slice da q.data.length dc)] W fun e w' => e = .returned (.bool true) ∧ Below W.heap.size W w' := by
  obtain ⟨f, ⟨sf, sh, sl⟩, ⟨df, dh, dl⟩, pr, ho, fg, id, of, mo, dat⟩ := q
  simp only at hdc hr
  show Calls Try.prog 3 #[.agg #[.int .i64 f, .int .i64 sf, .int .u64 sh, .int .u64 sl, .int .i64 df, .int .u64 dh, .int .u64 dl, .int .i64 pr, .int .i64 ho, .bool fg, .int .u32 id, .int .i64 of, .bool mo, .slice xa xn xc, .slice da dat.length dc]] W _
  have hdl := hr.small
  cases hm : Pk.may (⟨f, ⟨sf, sh, sl⟩, ⟨df, dh, dl⟩, pr, ho, fg, id, of, mo, dat⟩ : Pk) xn with
  | false =>
    have KN : Hid (∀ W', Calls Try.prog 5 #[.agg #[.int .i64 f, .int .i64 sf, .int .u64 sh, .int .u64 sl, .int .i64 df, .int .u64 dh, .int .u64 dl, .int .i64 pr, .int .i64 ho, .bool fg, .int .u32 id, .int .i64 of, .bool mo, .slice xa xn xc, .slice da dat.length dc]] W' fun e w' => e = .returned (.tuple #[.slice none 0 0, .int .i64 1]) ∧ Below W'.heap.size W' w') := fun W' => build_no f sf sh sl df dh dl pr ho fg id of mo xa xn xc da dat dc W' hdl ok.off hm
    have KR : Hid (∀ W', Calls Try.prog 6 #[.agg #[.int .i64 f, .int .i64 sf, .int .u64 sh, .int .u64 sl, .int .i64 df, .int .u64 dh, .int .u64 dl, .int .i64 pr, .int .i64 ho, .bool fg, .int .u32 id, .int .i64 of, .bool mo, .slice xa xn xc, .slice da dat.length dc]] W' fun e w' => e = .returned (.tuple #[.slice none 0 0, .int .i64 1]) ∧ Below W'.heap.size W' w') := fun W' => rbuild_no f sf sh sl df dh dl pr ho fg id of mo xa xn xc da dat dc W' hdl ok.off ok.src.2.2.1 ok.dst.2.2.1 hm
    clear hr ok hm
    have b0 : Below W.heap.size W (W.alloc (.cells #[.int .i64 f, .int .i64 sf, .int .u64 sh, .int .u64 sl, .int .i64 df, .int .u64 dh, .int .u64 dl, .int .i64 pr, .int .i64 ho, .bool fg, .int .u32 id, .int .i64 of, .bool mo, .slice xa xn xc, .slice da dat.length dc] 29)) := (Below.refl _ _).alloc (Nat.le_refl _) _
    have S0 : Hid _ := sIp_new W (.int .i64 f) (.int .i64 sf) (.int .u64 sh) (.int .u64 sl) (.int .i64 df) (.int .u64 dh) (.int .u64 dl) (.int .i64 pr) (.int .i64 ho) (.bool fg) (.int .u32 id) (.int .i64 of) (.bool mo) (.slice xa xn xc) (.slice da dat.length dc)
    go_enter Try.func3, Try.ntmps3
    go_wp2_with fail
    refine (KN.out _).mono ?_
    rintro e W1 ⟨rfl, b1q⟩
    have b1 : Below W.heap.size W W1 := b0.trans (b1q.mono b0.size)
    obtain ⟨d0, d1, d2, d3, d4, d5, d6, d7, d8, d9, d10, d11, d12, d13, d14⟩ := S0.out.below (by simp) b1q
    clear KN b1q S0 b0
    go_wp2_with fail
    refine (KR.out _).mono ?_
    rintro e W2 ⟨rfl, b2⟩
    have B2 : Hid (Below W.heap.size W W2) := b1.trans (b2.mono b1.size)
    have KS : Hid (Unit → _) := fun _ => same_any none none 0 0 [] W2 ⟨by simp, M.Bytes.nil, fun h => by simp at h⟩ ⟨by simp, M.Bytes.nil, fun h => by simp at h⟩
    clear KR b1 b2 d0 d1 d2 d3 d4 d5 d6 d7 d8 d9 d10 d11 d12 d13 d14
    go_wp2_with fail
    refine Calls.mono (KS.out ()) ?_
    rintro e w3 ⟨rfl, hw3⟩
    rw [hw3]
    clear hw3 w3
    go_wp2_with fail
    refine (alive_any W2).mono ?_
    rintro e W6 ⟨rfl, b6⟩
    have bc : Hid (Below W.heap.size W W6) := B2.out.trans (b6.mono B2.out.size)
    clear b6
    go_wp2
    go_ret
    exact ⟨rfl, bc.out⟩
  | true =>
    obtain ⟨hM, hx⟩ := may_iff.1 hm
    subst hx
    obtain ⟨L, hL⟩ : ∃ L, Pk.made (Pk.bare (⟨f, ⟨sf, sh, sl⟩, ⟨df, dh, dl⟩, pr, ho, fg, id, of, mo, dat⟩ : Pk)) = L := ⟨_, rfl⟩
    have KN : Hid (∀ W', Row W' da dat → Calls Try.prog 5 #[.agg #[.int .i64 f, .int .i64 sf, .int .u64 sh, .int .u64 sl, .int .i64 df, .int .u64 dh, .int .u64 dl, .int .i64 pr, .int .i64 ho, .bool fg, .int .u32 id, .int .i64 of, .bool mo, .slice xa 0 xc, .slice da dat.length dc]] W' fun e w' => ∃ a' c', e = .returned (.tuple #[.slice a' L.length c', .int .i64 0]) ∧ Fresh W' w' a' c' L) := by
      intro W' h'
      have := build_yes f sf sh sl df dh dl pr ho fg id of mo xa xc da dat dc W' h' hdn ok hM
      rw [hL] at this
      exact this
    have KR : Hid (∀ W', Row W' da dat → Calls Try.prog 6 #[.agg #[.int .i64 f, .int .i64 sf, .int .u64 sh, .int .u64 sl, .int .i64 df, .int .u64 dh, .int .u64 dl, .int .i64 pr, .int .i64 ho, .bool fg, .int .u32 id, .int .i64 of, .bool mo, .slice xa 0 xc, .slice da dat.length dc]] W' fun e w' => ∃ a' c', e = .returned (.tuple #[.slice a' L.length c', .int .i64 0]) ∧ Fresh W' w' a' c' L) := by
      intro W' h'
      have := rbuild_yes f sf sh sl df dh dl pr ho fg id of mo xa xc da dat dc W' h' hdn ok hM
      rw [hL] at this
      exact this
    have HR : Hid (Row W da dat) := hr
    clear hr ok hm hM hL
    have b0 : Below W.heap.size W (W.alloc (.cells #[.int .i64 f, .int .i64 sf, .int .u64 sh, .int .u64 sl, .int .i64 df, .int .u64 dh, .int .u64 dl, .int .i64 pr, .int .i64 ho, .bool fg, .int .u32 id, .int .i64 of, .bool mo, .slice xa 0 xc, .slice da dat.length dc] 29)) := (Below.refl _ _).alloc (Nat.le_refl _) _
    have S0 : Hid _ := sIp_new W (.int .i64 f) (.int .i64 sf) (.int .u64 sh) (.int .u64 sl) (.int .i64 df) (.int .u64 dh) (.int .u64 dl) (.int .i64 pr) (.int .i64 ho) (.bool fg) (.int .u32 id) (.int .i64 of) (.bool mo) (.slice xa 0 xc) (.slice da dat.length dc)
    go_enter Try.func3, Try.ntmps3
    go_wp2_with fail
    refine (KN.out _ (HR.out.below b0)).mono ?_
    rintro e W1 ⟨a1, c1, rfl, f1⟩
    have b1 : Below W.heap.size W W1 := b0.trans (f1.below.mono b0.size)
    obtain ⟨d0, d1, d2, d3, d4, d5, d6, d7, d8, d9, d10, d11, d12, d13, d14⟩ := S0.out.below (by simp) f1.below
    have R1 : Hid (Row W1 a1 L ∧ Row W1 da dat) := ⟨f1.row, HR.out.below b1⟩
    clear KN f1 S0 b0
    go_wp2_with fail
    refine (KR.out _ R1.out.2).mono ?_
    rintro e W2 ⟨a2, c2, rfl, f2⟩
    have b2 := f2.below
    have B2 : Hid (Below W.heap.size W W2) := b1.trans (b2.mono b1.size)
    have KS : Hid (Unit → _) := fun _ => same_any a1 a2 c1 c2 L W2 (R1.out.1.below b2) f2.row
    clear KR b1 b2 f2 d0 d1 d2 d3 d4 d5 d6 d7 d8 d9 d10 d11 d12 d13 d14
    go_wp2_with fail
    refine Calls.mono (KS.out ()) ?_
    rintro e w3 ⟨rfl, hw3⟩
    rw [hw3]
    clear hw3 w3
    go_wp2_with fail
    refine (alive_any W2).mono ?_
    rintro e W6 ⟨rfl, b6⟩
    have bc : Hid (Below W.heap.size W W6) := B2.out.trans (b6.mono B2.out.size)
    clear b6
    go_wp2
    go_ret
    exact ⟨rfl, bc.out⟩
end Go.Proofs.Ytpcdmjjlgoeglaa
