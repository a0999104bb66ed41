/- Texts joined: Ip4P Ip4C Puts Ip4D -/
import Derived.Test.YtbghilihccaaaaaTwz34
import Derived.Test.YtbghilihccaaaaaTwz35
import Derived.Test.YtbghilihccaaaaaTwz36
import Derived.Test.YtbghilihccaaaaaTwz37
import Derived.Deep.DeepCutAuto
import Derived.Deep.RegionHeld3
import Derived.Deep.QuietTactic
import Derived.BigQuiet
namespace Go.Proofs.Ytbghilihccaaaaa
open Go.RowKit
set_option linter.unusedVariables false
theorem perr_vals (l : List Int) : perr l = 2 ∨ perr l = 3 ∨ perr l = 4 ∨ perr l = 5 ∨ perr l = 6 ∨ perr l = 26 ∨ perr l = 10 ∨ (perr l = 7 ∨ perr l = 8) ∨ perr l = 11 ∨ perr l = 0 := by
  have h3 := optsGo_vals ((l.take (hd l).toNat).drop 20).length ((l.take (hd l).toNat).drop 20)
  unfold perr opts
  repeat' split
  all_goals omega
theorem parse_any (a : Option Addr) (c : Nat) (l : List Int) (w : World) (h : Row w a l) (hnil : a = none → c = 0) (hll : l.length ≤ 140737488351232) (hc : l.length ≤ c) (hcm : c ≤ 9223372036854775807) :
    Calls Try.prog 40 #[.slice a l.length c] w fun e w' => ∃ a' c', e = .returned (.tuple #[(parsed l).v (.slice none 0 0) (.slice a' (parsed l).data.length c'), .int .i64 (perr l)]) ∧ Fresh w w' a' c' (parsed l).data := by
  rcases perr_vals l with h' | h' | h' | h' | h' | h' | h' | h' | h' | h'
  · exact parse_e2 a c l w h hnil hll hc hcm h'
  · exact parse_e3 a c l w h hnil hll hc hcm h'
  · exact parse_e4 a c l w h hnil hll hc hcm h'
  · exact parse_e5 a c l w h hnil hll hc hcm h'
  · exact parse_e6 a c l w h hnil hll hc hcm h'
  · exact parse_e26 a c l w h hnil hll hc hcm h'
  · exact parse_e10 a c l w h hnil hll hc hcm h'
  · exact parse_eO a c l w h hnil hll hc hcm h'
  · exact parse_e11 a c l w h hnil hll hc hcm h'
  · exact parse_e0 a c l w h hnil hll hc hcm h'
end Go.Proofs.Ytbghilihccaaaaa
namespace Go.Proofs.Ytbghilihccaaaaa
open Go.RowKit
set_option linter.unusedVariables false
set_option linter.unusedSimpArgs false
theorem ret_bool {a b : Bool} (h : a = b) : Ending.returned (.bool a) = .returned (.bool b) := by rw [h]
set_option maxHeartbeats 400000 in
theorem fits_any (f h l : Int) (w : World) :
    Calls Try.prog 74 #[.agg #[.int .i64 f, .int .u64 h, .int .u64 l]] w fun e w' => e = .returned (.bool (Ad.four ⟨f, h, l⟩)) ∧ Below w.heap.size w w' := by
  have hr := right_any f h l
  by_cases h4 : f = 4
  · subst h4
    have e : Ad.four ⟨4, h, l⟩ = Ad.right ⟨4, h, l⟩ := by simp [Ad.four]
    rw [e]
    go_enter Try.func74, Try.ntmps74
    go_wp2_with (go_at_call 71; refine (hr _).mono ?_; rintro e w' ⟨rfl, rfl⟩)
    go_ret
    exact ⟨rfl, ((Below.refl _ _).alloc (Nat.le_refl _) _).alloc (by simp) _⟩
  · have h4' : (f == 4) = false := by simpa using h4
    have e : Ad.four ⟨f, h, l⟩ = false := by simp [Ad.four, h4]
    rw [e]
    go_enter Try.func74, Try.ntmps74
    go_wp2_with fail
    go_ret
    exact ⟨rfl, (Below.refl _ _).alloc (Nat.le_refl _) _⟩
set_option maxRecDepth 100000 in
set_option maxHeartbeats 2000000 in
theorem rightHead_any (f sf sh sl df dh dl pr ho : Int) (fg : Bool) (id of : Int) (mo : Bool) (xa : Option Addr) (xn xc : Nat) (da : Option Addr) (dn dc : Nat) (w : World) :
    Calls Try.prog 51 #[.agg #[.int .i64 f, .int .i64 sf, .int .u64 sh, .int .u64 sl, .int .i64 df, .int .u64 dh, .int .u64 dl, .int .i64 pr, .int .i64 ho, .bool fg, .int .u32 id, .int .i64 of, .bool mo, .slice xa xn xc, .slice da dn dc]] w fun e w' =>
      e = .returned (.bool ((f == 4) && (Ad.four ⟨sf, sh, sl⟩ && (Ad.four ⟨df, dh, dl⟩ && ((xn == 0) && (decide (0 ≤ pr) && (decide (pr ≤ 255) && (decide (1 ≤ ho) && decide (ho ≤ 255))))))))) ∧ Below w.heap.size w w' := by
  have b0 : Below w.heap.size w (w.alloc (.cells #[.int .i64 f, .int .i64 sf, .int .u64 sh, .int .u64 sl, .int .i64 df, .int .u64 dh, .int .u64 dl, .int .i64 pr, .int .i64 ho, .bool fg, .int .u32 id, .int .i64 of, .bool mo, .slice xa xn xc, .slice da dn dc] 42)) := (Below.refl _ _).alloc (Nat.le_refl _) _
  have s0 := sIp_new w (.int .i64 f) (.int .i64 sf) (.int .u64 sh) (.int .u64 sl) (.int .i64 df) (.int .u64 dh) (.int .u64 dl) (.int .i64 pr) (.int .i64 ho) (.bool fg) (.int .u32 id) (.int .i64 of) (.bool mo) (.slice xa xn xc) (.slice da dn dc)
  have K1 : Hid (∀ W, Calls Try.prog 74 #[.agg #[.int .i64 sf, .int .u64 sh, .int .u64 sl]] W fun e w' => e = .returned (.bool (Ad.four ⟨sf, sh, sl⟩)) ∧ Below W.heap.size W w') := fits_any sf sh sl
  have K2 : Hid (∀ W, Calls Try.prog 74 #[.agg #[.int .i64 df, .int .u64 dh, .int .u64 dl]] W fun e w' => e = .returned (.bool (Ad.four ⟨df, dh, dl⟩)) ∧ Below W.heap.size W w') := fits_any df dh dl
  generalize Ad.four ⟨sf, sh, sl⟩ = q1 at *
  generalize Ad.four ⟨df, dh, dl⟩ = q2 at *
  by_cases h4 : f = 4
  case neg =>
    have h4' : (f == 4) = false := by simpa using h4
    rw [h4']
    clear s0
    go_enter Try.func51, Try.ntmps51
    go_wp2_with fail
    go_ret
    exact ⟨by simp, b0⟩
  subst h4
  go_enter Try.func51, Try.ntmps51
  go_wp2_with fail
  refine (K1.out _).mono ?_
  rintro e W1 ⟨rfl, b1⟩
  have b1' := b0.trans (b1.mono (by simp))
  have s1 := s0.below (by simp) b1
  have z1 := b1.size
  simp only [World.size_alloc] at z1
  clear s0 b0 b1
  obtain ⟨d0, d1, d2, d3, d4, d5, d6, d7, d8, d9, d10, d11, d12, d13, d14⟩ := s1
  cases q1
  case false =>
    go_wp2_with fail
    all_goals (go_ret; exact ⟨by simp, b1'⟩)
  go_wp2_with fail
  refine (K2.out _).mono ?_
  rintro e W2 ⟨rfl, b2⟩
  have b2' := b1'.trans (b2.mono (by omega))
  have s2 : SIp W2 w.heap.size _ _ _ _ _ _ _ _ _ _ _ _ _ _ _ := SIp.below ⟨d0, d1, d2, d3, d4, d5, d6, d7, d8, d9, d10, d11, d12, d13, d14⟩ (by omega) b2
  clear d0 d1 d2 d3 d4 d5 d6 d7 d8 d9 d10 d11 d12 d13 d14 b1' b2 K1 K2
  obtain ⟨d0, d1, d2, d3, d4, d5, d6, d7, d8, d9, d10, d11, d12, d13, d14⟩ := s2
  cases q2
  case false =>
    go_wp2_with fail
    all_goals (go_ret; exact ⟨by simp, b2'⟩)
  go_wp2_with fail
  all_goals (go_ret; refine ⟨ret_bool ?_, b2'⟩; first | (simp; done) | (simp; omega) | (simp [*]; done) | (simp [*]; omega))
set_option maxRecDepth 100000 in
set_option maxHeartbeats 2000000 in
theorem rightPlace_any (f sf sh sl df dh dl pr ho : Int) (fg : Bool) (id of : Int) (mo : Bool) (xa : Option Addr) (xn xc : Nat) (da : Option Addr) (dn dc : Nat) (w : World) (hdn : dn ≤ 140737488355328) (hof : -9223372036854775808 ≤ of ∧ of ≤ 9223372036854775807) :
    Calls Try.prog 52 #[.agg #[.int .i64 f, .int .i64 sf, .int .u64 sh, .int .u64 sl, .int .i64 df, .int .u64 dh, .int .u64 dl, .int .i64 pr, .int .i64 ho, .bool fg, .int .u32 id, .int .i64 of, .bool mo, .slice xa xn xc, .slice da dn dc]] w fun e w' =>
      e = .returned (.bool (decide (id ≤ 65535) && (decide (0 ≤ of) && (decide (of % 8 = 0) && (decide (of ≤ 65515 - dn) && ((!fg || (mo || decide (of ≠ 0))) && (!mo || decide ((dn : Int) % 8 = 0)))))))) ∧ Below w.heap.size w w' := by
  go_enter Try.func52, Try.ntmps52
  have ht : of.tmod 8 = 0 ↔ of % 8 = 0 := by
    have := Int.tmod_eq_emod_of_nonneg (a := of) (b := 8)
    constructor
    · intro h; have := Int.dvd_of_tmod_eq_zero h; omega
    · intro h; exact Int.tmod_eq_zero_of_dvd (by omega)
  have ht2 : (dn : Int).tmod 8 = (dn : Int) % 8 := Int.tmod_eq_emod_of_nonneg (by omega)
  have HT : Hid (of.tmod 8 = 0 ↔ of % 8 = 0) := ht
  clear ht
  go_wp2_with fail
  all_goals (go_ret; refine ⟨ret_bool ?_, (Below.refl _ _).alloc (Nat.le_refl _) _⟩; have ht := HT.out; first | (simp; done) | (simp; omega) | (simp [*]; done) | (simp [*]; omega) | (clear ht2; generalize (dn : Int) % 8 = m8; by_cases hm8 : m8 = 0 <;> simp_all <;> omega))
end Go.Proofs.Ytbghilihccaaaaa
namespace Go.Proofs.Ytbghilihccaaaaa
open Go.RowKit
set_option linter.unusedVariables false
def put16 (l : List Int) (n : Int) : List Int := l ++ [n / 256 % 256, n % 256]
def put32 (l : List Int) (u : Int) : List Int := l ++ [u / 16777216, u / 65536 % 256, u / 256 % 256, u % 256]
set_option maxHeartbeats 400000 in
theorem put16_any (a : Option Addr) (c : Nat) (l : List Int) (n : Int) (w : World) (h : Row w a l) (hnil : a = none → c = 0) (hl : l.length ≤ 140737488351232) :
    Calls Try.prog 53 #[.slice a l.length c, .int .i64 n] w fun e w' => ∃ a' c', e = .returned (.slice a' (put16 l n).length c') ∧ Fresh w w' a' c' (put16 l n) := by
  obtain ⟨r, hr⟩ : ∃ r, put16 l n = r := ⟨_, rfl⟩
  have hrl : r.length ≤ l.length + 2 := by rw [← hr]; simp [put16]
  rw [hr]
  have HR : Hid (l ++ [n / 256 % 256, n % 256] = r) := hr
  clear hr
  go_enter Try.func53, Try.ntmps53
  go_wp2_with fail
  refine (longer_any _ _ l _ _ h hnil hl (by omega) (by omega)).mono ?_
  rintro e w1 ⟨a1, c1, rfl, f1⟩
  have b1 := f1.below
  have z1 := b1.size
  have o1 := f1.owns
  have hb := h.bytes
  clear f1 h
  go_wp2_with (at_builtin; refine wpList_app2 _ rfl _ _ rfl w.heap.size _ l rfl (o1.alloc _) hb _ 2 [n / 256 % 256, n % 256] rfl ?row (fun hh => by cases hh) r HR.out ?c1 ?c2 ?_)
  case row =>
    refine row_at _ 5 [n / 256 % 256, n % 256] _ (by simp) (by simp) ?_
    intro z hz
    simp at hz
    omega
  case c1 => omega
  case c2 => simp; omega
  intro a2 c2 w2 o2 hc2 hn2 r2 b2 _
  go_wp2
  go_ret
  exact ⟨a2, c2, rfl, o2, hc2, hn2, r2, (b1.alloc z1 _).trans b2⟩
set_option maxHeartbeats 400000 in
theorem put32_any (a : Option Addr) (c : Nat) (l : List Int) (n : Int) (w : World) (h : Row w a l) (hnil : a = none → c = 0) (hl : l.length ≤ 140737488351232) (hn : 0 ≤ n ∧ n ≤ 4294967295) :
    Calls Try.prog 81 #[.slice a l.length c, .int .u32 n] w fun e w' => ∃ a' c', e = .returned (.slice a' (put32 l n).length c') ∧ Fresh w w' a' c' (put32 l n) := by
  obtain ⟨r, hr⟩ : ∃ r, put32 l n = r := ⟨_, rfl⟩
  have hrl : r.length ≤ l.length + 4 := by rw [← hr]; simp [put32]
  rw [hr]
  have HR : Hid (l ++ [n / 16777216, n / 65536 % 256, n / 256 % 256, n % 256] = r) := hr
  clear hr
  go_enter Try.func81, Try.ntmps81
  go_wp2_with fail
  refine (longer_any _ _ l _ _ h hnil hl (by omega) (by omega)).mono ?_
  rintro e w1 ⟨a1, c1, rfl, f1⟩
  have b1 := f1.below
  have z1 := b1.size
  have o1 := f1.owns
  have hb := h.bytes
  clear f1 h
  go_wp2_with (at_builtin; refine wpList_app2 _ rfl _ _ rfl w.heap.size _ l rfl (o1.alloc _) hb _ 4 [n / 16777216, n / 65536 % 256, n / 256 % 256, n % 256] rfl ?row (fun hh => by cases hh) r HR.out ?c1 ?c2 ?_)
  case row =>
    refine row_at _ 5 [n / 16777216, n / 65536 % 256, n / 256 % 256, n % 256] _ (by simp) (by simp) ?_
    intro z hz
    simp at hz
    omega
  case c1 => omega
  case c2 => simp; omega
  intro a2 c2 w2 o2 hc2 hn2 r2 b2 _
  go_wp2
  go_ret
  exact ⟨a2, c2, rfl, o2, hc2, hn2, r2, (b1.alloc z1 _).trans b2⟩
theorem put16_length (l : List Int) (n : Int) : (put16 l n).length = l.length + 2 := by simp [put16]
end Go.Proofs.Ytbghilihccaaaaa
namespace Go.Proofs.Ytbghilihccaaaaa
open Go.RowKit
set_option linter.unusedVariables false
set_option linter.unusedSimpArgs false
theorem or8192 (x : Int) (h0 : 0 ≤ x) (h1 : x < 8192) : bits .or .i64 x 8192 = x + 8192 := by
  have := bits_join .i64 63 (by decide) (fun n h₀ h₁ => wraps_i64 n h₀ h₁) 13 8192 x (by omega) (by omega) (by omega) h0 (by omega) (by omega)
  have e : bits .or .i64 x 8192 = bits .or .i64 8192 x := by
    show IntKind.i64.wrap ((BitVec.ofInt 64 x ||| BitVec.ofInt 64 8192).toNat : Int) = IntKind.i64.wrap ((BitVec.ofInt 64 8192 ||| BitVec.ofInt 64 x).toNat : Int)
    rw [BitVec.or_comm]
  rw [e, this]
  omega
end Go.Proofs.Ytbghilihccaaaaa
