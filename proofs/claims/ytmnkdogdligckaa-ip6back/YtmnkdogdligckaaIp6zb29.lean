/- Texts joined: Ip6Ba -/
import Derived.Test.YtmnkdogdligckaaIp6zb25
import Derived.Test.YtmnkdogdligckaaIp6zb28
namespace Go.Proofs.Ytmnkdogdligckaa
open Go.RowKit
set_option linter.unusedVariables false
set_option linter.unusedSimpArgs false
theorem rowss_five (w : World) (t : TypeId) (n : Nat) (hn : n = w.heap.size) (a b c d g : Option Addr) (ca cb cc cd cg : Nat) (la lb lc ld lg : List Int) (ha : Row w a la) (hb : Row w b lb) (hc : Row w c lc) (hd : Row w d ld) (hg : Row w g lg) :
    Rowss (w.alloc (.cells #[.slice a la.length ca, .slice b lb.length cb, .slice c lc.length cc, .slice d ld.length cd, .slice g lg.length cg] t)) (some ⟨n, 0, none⟩) [la, lb, lc, ld, lg] := by
  subst hn
  refine ⟨by simp, fun _ => ⟨w.heap.size, 0, rfl, fun i hi => ?_⟩⟩
  have hi' : i < 5 := by simpa using hi
  match i, hi' with
  | 0, _ => exact ⟨a, ca, by simp, ha.alloc _⟩
  | 1, _ => exact ⟨b, cb, by simp, hb.alloc _⟩
  | 2, _ => exact ⟨c, cc, by simp, hc.alloc _⟩
  | 3, _ => exact ⟨d, cd, by simp, hd.alloc _⟩
  | 4, _ => exact ⟨g, cg, by simp, hg.alloc _⟩
theorem five_nil (w : World) (t : TypeId) (a b c d g : Option Addr) (ca cb cc cd cg : Nat) (la lb lc ld lg : List Int) (ha : a = none → ca = 0) (hb : b = none → cb = 0) (hc : c = none → cc = 0) (hd : d = none → cd = 0) (hg : g = none → cg = 0) :
    ∀ i, i < ([la, lb, lc, ld, lg] : List (List Int)).length → ∀ a' c', (∃ b' off, (some (⟨w.heap.size, 0, none⟩ : Addr)) = some ⟨b', off, none⟩ ∧ (w.alloc (.cells #[.slice a la.length ca, .slice b lb.length cb, .slice c lc.length cc, .slice d ld.length cd, .slice g lg.length cg] t)).cell? ⟨b', off + i, none⟩ = some (.slice a' (([la, lb, lc, ld, lg] : List (List Int)).getD i []).length c')) → a' = none → c' = 0 := by
  rintro i hi a' c' ⟨b', off, e, h⟩
  simp only [Option.some.injEq, Addr.mk.injEq] at e
  obtain ⟨rfl, rfl, _⟩ := e
  have hi' : i < 5 := by simpa using hi
  match i, hi', h with
  | 0, _, h => simp at h; obtain ⟨rfl, rfl⟩ := h; exact ha
  | 1, _, h => simp at h; obtain ⟨rfl, rfl⟩ := h; exact hb
  | 2, _, h => simp at h; obtain ⟨rfl, rfl⟩ := h; exact hc
  | 3, _, h => simp at h; obtain ⟨rfl, rfl⟩ := h; exact hd
  | 4, _, h => simp at h; obtain ⟨rfl, rfl⟩ := h; exact hg
/-- The bytes of a packet that may be. -/
def made6 (nx ho : Int) (SB DB E dat : List Int) : List Int := [put16 [96, 0, 0, 0] ((E.length : Int) + dat.length) ++ [nx, ho], SB, DB, E, dat].flatten
theorem bytes_le (a : Ad) : (Ad.bytes a).length ≤ 16 := by
  unfold Ad.bytes
  split
  · split
    · simp [bytesGo_length]
    · simp [bytesGo_length]
  · simp
set_option maxRecDepth 100000 in
set_option maxHeartbeats 4000000 in
theorem build6_na (f sf sh sl df dh dl pr ho : Int) (fg : Bool) (id of : Int) (mo : Bool) (xa : Option Addr) (xc : Nat) (X : List Int) (da : Option Addr) (dat : List Int) (dc : Nat) (w : World) (hx : RowI w xa X) (hdr : Row w da dat) (hdn : da = none → dc = 0) (hsrc : Ad.ok ⟨sf, sh, sl⟩) (hdst : Ad.ok ⟨df, dh, dl⟩) (hid : 0 ≤ id ∧ id ≤ 4294967295) (hof : -9223372036854775808 ≤ of ∧ of ≤ 9223372036854775807) (hn : (rn f sf df pr ho && rx fg X && decide (dat.length ≤ 65000)) = false) :
    Calls Try.prog 18 #[.agg #[.int .i64 f, .int .i64 sf, .int .u64 sh, .int .u64 sl, .int .i64 df, .int .u64 dh, .int .u64 dl, .int .i64 pr, .int .i64 ho, .bool fg, .int .u32 id, .int .i64 of, .bool mo, .slice xa X.length xc, .slice da dat.length dc]] w fun e w' => e = .returned (.tuple #[.slice none 0 0, .int .i64 1]) ∧ Below w.heap.size w w' := by
  obtain ⟨W1, hW1⟩ : ∃ W1, w.alloc (.cells #[.int .i64 f, .int .i64 sf, .int .u64 sh, .int .u64 sl, .int .i64 df, .int .u64 dh, .int .u64 dl, .int .i64 pr, .int .i64 ho, .bool fg, .int .u32 id, .int .i64 of, .bool mo, .slice xa X.length xc, .slice da dat.length dc] 38) = W1 := ⟨_, rfl⟩
  have b1 : Below w.heap.size w W1 := by rw [← hW1]; exact (Below.refl _ _).alloc (Nat.le_refl _) _
  have P1 : Blk W1 w.heap.size 38 #[.int .i64 f, .int .i64 sf, .int .u64 sh, .int .u64 sl, .int .i64 df, .int .u64 dh, .int .u64 dl, .int .i64 pr, .int .i64 ho, .bool fg, .int .u32 id, .int .i64 of, .bool mo, .slice xa X.length xc, .slice da dat.length dc] := by rw [← hW1]; exact blk_new _ _ _
  have hdl := hdr.small
  have KH : Hid _ := rightHead6_any f sf sh sl df dh dl pr ho fg id of mo xa xc X da dat.length dc W1 (hx.below b1) hdl
  rw [hn] at KH
  clear hn hx hsrc hdst
  go_enter Try.func18, Try.ntmps18
  go_wp2_with (refine wpList_load_row rfl _ _ rfl w.heap.size (by rfl) _ _ _ _ P1 Try.underlying38 rfl (by kernel_rfl) ?_)
  refine Calls.mono KH.out ?_
  rintro e W2 ⟨rfl, bb⟩
  have b2 : Below w.heap.size w W2 := b1.trans (bb.mono b1.size)
  clear KH bb P1 b1 hW1
  go_wp2_with fail
  go_ret2
  exact ⟨rfl, b2⟩
set_option maxRecDepth 100000 in
set_option maxHeartbeats 4000000 in
theorem build6_nb (f sf sh sl df dh dl pr ho : Int) (id of : Int) (mo : Bool) (xa : Option Addr) (xc : Nat) (X : List Int) (da : Option Addr) (dat : List Int) (dc : Nat) (w : World) (hx : RowI w xa X) (hdr : Row w da dat) (hdn : da = none → dc = 0) (hsrc : Ad.ok ⟨sf, sh, sl⟩) (hdst : Ad.ok ⟨df, dh, dl⟩) (hid : 0 ≤ id ∧ id ≤ 4294967295) (hof : -9223372036854775808 ≤ of ∧ of ≤ 9223372036854775807) (hn : (rn f sf df pr ho && rx true X && decide (dat.length ≤ 65000)) = true) (hp : rp of mo dat.length = false) :
    Calls Try.prog 18 #[.agg #[.int .i64 f, .int .i64 sf, .int .u64 sh, .int .u64 sl, .int .i64 df, .int .u64 dh, .int .u64 dl, .int .i64 pr, .int .i64 ho, .bool true, .int .u32 id, .int .i64 of, .bool mo, .slice xa X.length xc, .slice da dat.length dc]] w fun e w' => e = .returned (.tuple #[.slice none 0 0, .int .i64 1]) ∧ Below w.heap.size w w' := by
  obtain ⟨W1, hW1⟩ : ∃ W1, w.alloc (.cells #[.int .i64 f, .int .i64 sf, .int .u64 sh, .int .u64 sl, .int .i64 df, .int .u64 dh, .int .u64 dl, .int .i64 pr, .int .i64 ho, .bool true, .int .u32 id, .int .i64 of, .bool mo, .slice xa X.length xc, .slice da dat.length dc] 38) = W1 := ⟨_, rfl⟩
  have b1 : Below w.heap.size w W1 := by rw [← hW1]; exact (Below.refl _ _).alloc (Nat.le_refl _) _
  have P1 : Blk W1 w.heap.size 38 #[.int .i64 f, .int .i64 sf, .int .u64 sh, .int .u64 sl, .int .i64 df, .int .u64 dh, .int .u64 dl, .int .i64 pr, .int .i64 ho, .bool true, .int .u32 id, .int .i64 of, .bool mo, .slice xa X.length xc, .slice da dat.length dc] := by rw [← hW1]; exact blk_new _ _ _
  have hdl := hdr.small
  have KH : Hid _ := rightHead6_any f sf sh sl df dh dl pr ho true id of mo xa xc X da dat.length dc W1 (hx.below b1) hdl
  rw [hn] at KH
  clear hn hx hsrc hdst
  go_enter Try.func18, Try.ntmps18
  go_wp2_with (refine wpList_load_row rfl _ _ rfl w.heap.size (by rfl) _ _ _ _ P1 Try.underlying38 rfl (by kernel_rfl) ?_)
  refine Calls.mono KH.out ?_
  rintro e W2 ⟨rfl, bb⟩
  have b2 : Below w.heap.size w W2 := b1.trans (bb.mono b1.size)
  have P2 := P1.kept bb
  have d9 := P2.cell 9 (.bool true) rfl
  have KP : Hid _ := rightPlace6_any f sf sh sl df dh dl pr ho true id of mo xa X.length xc da dat.length dc W2 hdl hof
  rw [hp] at KP
  clear KH bb P1 b1 hW1 hp
  go_wp2_with (refine wpList_load_blk_w (by kernel_rfl) _ _ rfl w.heap.size (by rfl) _ P2 Try.underlying38 (by kernel_rfl) ?_)
  refine Calls.mono KP.out ?_
  rintro e W3 ⟨rfl, bb⟩
  have b3 : Below w.heap.size w W3 := b2.trans (bb.mono b2.size)
  clear KP bb P2 b2 d9
  go_wp2_with fail
  go_ret2
  exact ⟨rfl, b3⟩
end Go.Proofs.Ytmnkdogdligckaa
