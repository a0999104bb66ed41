/- Build of ip4 answers as the document says. -/
import Derived.Test.YtpcdmjjlgoeglaaIp4C
import Derived.Test.YtpcdmjjlgoeglaaIp4G
import Derived.Test.YtpcdmjjlgoeglaaPuts
import Derived.Test.YtpcdmjjlgoeglaaByt
import Derived.Deep.RegionHeld3
import Derived.Deep.QuietTactic
import Derived.BigQuiet
namespace Go.Proofs.Ytpcdmjjlgoeglaa
open Go.RowKit
set_option linter.unusedVariables false
set_option linter.unusedSimpArgs false

set_option maxRecDepth 100000 in
set_option maxHeartbeats 2000000 in
theorem build_no (f sf sh sl df dh dl pr ho : Int) (fg : Bool) (id of : Int) (mo : Bool) (xa : Option Addr) (xn xc : Nat) (da : Option Addr) (dat : List Int) (dc : Nat) (w : World) (hdl : dat.length ≤ 140737488355328) (hof : -9223372036854775808 ≤ of ∧ of ≤ 9223372036854775807) (hm : Pk.may (⟨f, ⟨sf, sh, sl⟩, ⟨df, dh, dl⟩, pr, ho, fg, id, of, mo, dat⟩ : Pk) xn = false) :
    Calls Try.prog 5 #[.agg #[.int .i64 f, .int .i64 sf, .int .u64 sh, .int .u64 sl, .int .i64 df, .int .u64 dh, .int .u64 dl, .int .i64 pr, .int .i64 ho, .bool fg, .int .u32 id, .int .i64 of, .bool mo, .slice xa xn xc, .slice da dat.length dc]] w fun e w' => e = .returned (.tuple #[.slice none 0 0, .int .i64 1]) ∧ Below w.heap.size w w' := by
  have b0 : Below w.heap.size w (w.alloc (.cells #[.int .i64 f, .int .i64 sf, .int .u64 sh, .int .u64 sl, .int .i64 df, .int .u64 dh, .int .u64 dl, .int .i64 pr, .int .i64 ho, .bool fg, .int .u32 id, .int .i64 of, .bool mo, .slice xa xn xc, .slice da dat.length dc] 29)) := (Below.refl _ _).alloc (Nat.le_refl _) _
  have s0 := sIp_new w (.int .i64 f) (.int .i64 sf) (.int .u64 sh) (.int .u64 sl) (.int .i64 df) (.int .u64 dh) (.int .u64 dl) (.int .i64 pr) (.int .i64 ho) (.bool fg) (.int .u32 id) (.int .i64 of) (.bool mo) (.slice xa xn xc) (.slice da dat.length dc)
  have K1 := rightHead_any f sf sh sl df dh dl pr ho fg id of mo xa xn xc da dat.length dc
  have K2 := fun W => rightPlace_any f sf sh sl df dh dl pr ho fg id of mo xa xn xc da dat.length dc W hdl hof
  have e1 : Pk.may (⟨f, ⟨sf, sh, sl⟩, ⟨df, dh, dl⟩, pr, ho, fg, id, of, mo, dat⟩ : Pk) xn = (((f == 4) && (Ad.four ⟨sf, sh, sl⟩ && (Ad.four ⟨df, dh, dl⟩ && ((xn == 0) && (decide (0 ≤ pr) && (decide (pr ≤ 255) && (decide (1 ≤ ho) && decide (ho ≤ 255)))))))) && (decide (id ≤ 65535) && (decide (0 ≤ of) && (decide (of % 8 = 0) && (decide (of ≤ 65515 - dat.length) && ((!fg || (mo || decide (of ≠ 0))) && (!mo || decide ((dat.length : Int) % 8 = 0)))))))) := rfl
  rw [e1] at hm
  generalize ((f == 4) && (Ad.four ⟨sf, sh, sl⟩ && (Ad.four ⟨df, dh, dl⟩ && ((xn == 0) && (decide (0 ≤ pr) && (decide (pr ≤ 255) && (decide (1 ≤ ho) && decide (ho ≤ 255)))))))) = q1 at *
  generalize (decide (id ≤ 65535) && (decide (0 ≤ of) && (decide (of % 8 = 0) && (decide (of ≤ 65515 - dat.length) && ((!fg || (mo || decide (of ≠ 0))) && (!mo || decide ((dat.length : Int) % 8 = 0))))))) = q2 at *
  have HK1 : Hid _ := K1
  have HK2 : Hid _ := K2
  clear K1 K2 e1
  cases q1
  · go_enter Try.func5, Try.ntmps5
    go_wp2_with fail
    refine (HK1.out _).mono ?_
    rintro e W1 ⟨rfl, b1⟩
    have b1' := b0.trans (b1.mono (by simp))
    clear s0 b0 b1
    go_wp2_with fail
    go_ret2
    exact ⟨rfl, b1'⟩
  · simp only [Bool.true_and] at hm
    subst hm
    go_enter Try.func5, Try.ntmps5
    go_wp2_with fail
    refine (HK1.out _).mono ?_
    rintro e W1 ⟨rfl, b1⟩
    have b1' := b0.trans (b1.mono (by simp))
    have s1 := s0.below (by simp) b1
    have z1 := b1.size
    simp only [World.size_alloc] at z1
    obtain ⟨d0, d1, d2, d3, d4, d5, d6, d7, d8, d9, d10, d11, d12, d13, d14⟩ := s1
    clear s0 b0 b1
    go_wp2_with fail
    refine (HK2.out _).mono ?_
    rintro e W2 ⟨rfl, b2⟩
    have b2' := b1'.trans (b2.mono (by omega))
    clear b2 b1' d0 d1 d2 d3 d4 d5 d6 d7 d8 d9 d10 d11 d12 d13 d14
    go_wp2_with fail
    go_ret2
    exact ⟨rfl, b2'⟩

theorem or8192 (x : Int) (h0 : 0 ≤ x) (h1 : x < 8192) : bits .or .i64 x 8192 = x + 8192 := by
  have := bits_join .i64 63 (by decide) (fun n h₀ h₁ => wraps_i64 n h₀ h₁) 13 8192 x (by omega) (by omega) (by omega) h0 (by omega) (by omega)
  have e : bits .or .i64 x 8192 = bits .or .i64 8192 x := by
    show IntKind.i64.wrap ((BitVec.ofInt 64 x ||| BitVec.ofInt 64 8192).toNat : Int) = IntKind.i64.wrap ((BitVec.ofInt 64 8192 ||| BitVec.ofInt 64 x).toNat : Int)
    rw [BitVec.or_comm]
  rw [e, this]
  omega

end Go.Proofs.Ytpcdmjjlgoeglaa
