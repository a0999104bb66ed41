/- Texts joined: Ip6WritesWalk -/
import Derived.Test.YtmnkdogdligckaaIp6zw37
namespace Go.Proofs.Ytmnkdogdligckaa
open Go.RowKit
set_option linter.unusedVariables false
set_option linter.unusedSimpArgs false
set_option maxRecDepth 100000 in
set_option maxHeartbeats 4000000 in
theorem ip6Writes_walk (q : Pk) (xa : Option Addr) (xc : Nat) (X : List Int) (da : Option Addr) (dc : Nat) (w : World) (hxl : X.length ≤ xc) (hxm : xa = none → xc = 0) (hx : RowI w xa X) (ok : q.ok) (hdc : q.data.length ≤ dc) (hdm : dc ≤ 140737488351232) (hdn : da = none → dc = 0) (hdr : Row w da q.data) :
    Calls Try.prog 5 #[q.v (.slice xa X.length xc) (.slice da q.data.length dc)] w fun e w' => e = .returned (.bool true) ∧ Below w.heap.size w w' := by
  obtain ⟨f, ⟨sf, sh, sl⟩, ⟨df, dh, dl⟩, pr, ho, fg, id, of, mo, dat⟩ := q
  simp only at hdc hdr
  show Calls Try.prog 5 #[.agg #[.int .i64 f, .int .i64 sf, .int .u64 sh, .int .u64 sl, .int .i64 df, .int .u64 dh, .int .u64 dl, .int .i64 pr, .int .i64 ho, .bool fg, .int .u32 id, .int .i64 of, .bool mo, .slice xa X.length xc, .slice da dat.length dc]] w _
  obtain ⟨L, hL⟩ : ∃ L, build6 f ⟨sf, sh, sl⟩ ⟨df, dh, dl⟩ pr ho fg id of mo X dat = L := ⟨_, rfl⟩
  obtain ⟨E, hE⟩ : ∃ E : Int, (if may6 f sf df pr ho fg X of mo dat.length = true then 0 else 1) = E := ⟨_, rfl⟩
  have KA : Hid (∀ W, RowI W xa X → Row W da dat → Calls Try.prog 18 #[.agg #[.int .i64 f, .int .i64 sf, .int .u64 sh, .int .u64 sl, .int .i64 df, .int .u64 dh, .int .u64 dl, .int .i64 pr, .int .i64 ho, .bool fg, .int .u32 id, .int .i64 of, .bool mo, .slice xa X.length xc, .slice da dat.length dc]] W fun e w' => ∃ a c, e = .returned (.tuple #[.slice a L.length c, .int .i64 E]) ∧ Fresh W w' a c L) := fun W h1 h2 => by
    have := build6_any f sf sh sl df dh dl pr ho fg id of mo xa xc X da dat dc W h1 h2 hdn ok.src ok.dst ok.id ok.off
    rw [hE, hL] at this
    exact this
  have KR : Hid (∀ W, RowI W xa X → Row W da dat → Calls Try.prog 19 #[.agg #[.int .i64 f, .int .i64 sf, .int .u64 sh, .int .u64 sl, .int .i64 df, .int .u64 dh, .int .u64 dl, .int .i64 pr, .int .i64 ho, .bool fg, .int .u32 id, .int .i64 of, .bool mo, .slice xa X.length xc, .slice da dat.length dc]] W fun e w' => ∃ a c, e = .returned (.tuple #[.slice a L.length c, .int .i64 E]) ∧ Fresh W w' a c L) := fun W h1 h2 => by
    have := rbuild6_any f sf sh sl df dh dl pr ho fg id of mo xa xc X da dat dc W h1 h2 hdn ok.src ok.dst ok.id ok.off
    rw [hE, hL] at this
    exact this
  have KL : Hid _ := alive6_any
  obtain ⟨W1, hW1⟩ : ∃ W1, w.alloc (.cells #[.int .i64 f, .int .i64 sf, .int .u64 sh, .int .u64 sl, .int .i64 df, .int .u64 dh, .int .u64 dl, .int .i64 pr, .int .i64 ho, .bool fg, .int .u32 id, .int .i64 of, .bool mo, .slice xa X.length xc, .slice da dat.length dc] 38) = W1 := ⟨_, rfl⟩
  have b1 := bel_nw hW1
  have P1 := blk_nw hW1
  clear hE hL ok
  go_enter Try.func5, Try.ntmps5
  go_wp2_with (refine wpList_load_row rfl _ _ rfl w.heap.size (by rfl) _ _ _ _ P1 Try.underlying38 rfl (by kernel_rfl) ?_)
  refine Calls.mono (KA.out _ (hx.below b1) (hdr.below b1)) ?_
  rintro e W2 ⟨a2, c2, rfl, f2⟩
  have P2 := P1.kept f2.below
  have b2 := bel_tr b1 f2.below
  have r2 := f2.row
  clear KA f2 P1 b1 hW1
  go_wp2_with (refine wpList_load_row rfl _ _ rfl w.heap.size (by rfl) _ _ _ _ P2 Try.underlying38 rfl (by kernel_rfl) ?_)
  refine Calls.mono (KR.out _ (hx.below b2) (hdr.below b2)) ?_
  rintro e W3 ⟨a3, c3, rfl, f3⟩
  have b3 := bel_tr b2 f3.below
  have KS : Hid _ := same_any a2 a3 c2 c3 L W3 (r2.below f3.below) f3.row
  clear KR f3 P2 b2 r2
  go_wp2_with fail
  refine Calls.mono KS.out ?_
  rintro e W4 ⟨rfl, hW4⟩
  rw [hW4]
  clear hW4 W4 KS
  go_wp2_with fail
  refine Calls.mono (KL.out _) ?_
  rintro e W5 ⟨rfl, bb⟩
  have b5 := bel_tr b3 bb
  clear bb KL
  go_wp2
  go_ret
  exact ⟨rfl, b5⟩
end Go.Proofs.Ytmnkdogdligckaa
