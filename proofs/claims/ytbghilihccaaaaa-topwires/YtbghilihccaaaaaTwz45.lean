/- Texts joined: Ip6P Ip6N -/
import Derived.Test.YtbghilihccaaaaaTwz42
import Derived.Test.YtbghilihccaaaaaTwz43
import Derived.Test.YtbghilihccaaaaaTwz44
namespace Go.Proofs.Ytbghilihccaaaaa
open Go.RowKit
set_option linter.unusedVariables false
theorem parse6_any (a : Option Addr) (c : Nat) (l : List Int) (w : World) (h : Row w a l) (hnil : a = none → c = 0) (hll : l.length ≤ 140737488351232) (hc : l.length ≤ c) (hcm : c ≤ 9223372036854775807) :
    Calls Try.prog 42 #[.slice a l.length c] w (Got6 w l) := by
  by_cases h40 : l.length < 40
  · exact parse6_e2 a c l w h hnil hll hc hcm h40
  by_cases hv : l.getD 0 0 / 16 = 6
  · by_cases h5 : u16 l 4 > (l.length : Int) - 40
    · exact parse6_e5 a c l w h hnil hll hc hcm h40 hv h5
    · by_cases h7 : l.getD 7 0 = 0
      · exact parse6_e26 a c l w h hnil hll hc hcm h40 hv h5 h7
      · by_cases hT : (T6 l).1 = 0
        · cases hcu : (T6 l).2.cut with
          | false => exact parse6_x0 a c l w h hnil hll hc hcm h40 hv h5 h7 hT hcu
          | true =>
            by_cases hw : wrongp (T6 l).2 = 0
            · exact parse6_xG a c l w h hnil hll hc hcm h40 hv h5 h7 hT hcu hw
            · exact parse6_xF a c l w h hnil hll hc hcm h40 hv h5 h7 hT hcu hw
        · exact parse6_eW a c l w h hnil hll hc hcm h40 hv h5 h7 hT
  · exact parse6_e3 a c l w h hnil hll hc hcm h40 hv
end Go.Proofs.Ytbghilihccaaaaa
namespace Go.Proofs.Ytbghilihccaaaaa
open Go.RowKit
set_option linter.unusedVariables false
set_option linter.unusedSimpArgs false
theorem ret_bool6 {a b : Bool} (h : a = b) : Ending.returned (.bool a) = .returned (.bool b) := by rw [h]
/-- May these extension headers be written? -/
def rx (fg : Bool) (X : List Int) : Bool := decide (X.length = 0) || (fg && decide (X.length = 1) && decide (X.getD 0 0 = 44))
set_option maxRecDepth 100000 in
set_option maxHeartbeats 2000000 in
theorem rightExts_any (f sf sh sl df dh dl pr ho : Int) (fg : Bool) (id of : Int) (mo : Bool) (xa : Option Addr) (xc : Nat) (X : List Int) (da : Option Addr) (dn dc : Nat) (w : World) (hx : RowI w xa X) :
    Calls Try.prog 80 #[.agg #[.int .i64 f, .int .i64 sf, .int .u64 sh, .int .u64 sl, .int .i64 df, .int .u64 dh, .int .u64 dl, .int .i64 pr, .int .i64 ho, .bool fg, .int .u32 id, .int .i64 of, .bool mo, .slice xa X.length xc, .slice da dn dc]] w fun e w' => e = .returned (.bool (rx fg X)) ∧ Below w.heap.size w w' := by
  obtain ⟨W1, hW1⟩ : ∃ W1, w.alloc (.cells #[.int .i64 f, .int .i64 sf, .int .u64 sh, .int .u64 sl, .int .i64 df, .int .u64 dh, .int .u64 dl, .int .i64 pr, .int .i64 ho, .bool fg, .int .u32 id, .int .i64 of, .bool mo, .slice xa X.length xc, .slice da dn dc] 42) = W1 := ⟨_, rfl⟩
  have b1 : Below w.heap.size w W1 := by rw [← hW1]; exact (Below.refl _ _).alloc (Nat.le_refl _) _
  have s1 : SIp W1 w.heap.size (.int .i64 f) (.int .i64 sf) (.int .u64 sh) (.int .u64 sl) (.int .i64 df) (.int .u64 dh) (.int .u64 dl) (.int .i64 pr) (.int .i64 ho) (.bool fg) (.int .u32 id) (.int .i64 of) (.bool mo) (.slice xa X.length xc) (.slice da dn dc) := by rw [← hW1]; exact sIp_new w _ _ _ _ _ _ _ _ _ _ _ _ _ _ _
  have d9 := s1.c9
  have d13 := s1.c13
  have hx1 := hx.below b1
  obtain ⟨R, hR⟩ : ∃ R, rx fg X = R := ⟨_, rfl⟩
  have HR : Hid (rx fg X = R) := hR
  rw [hR]
  obtain ⟨N, hN⟩ : ∃ N, X.length = N := ⟨_, rfl⟩
  have HN : Hid (X.length = N) := hN
  have hs := hx.small
  rw [hN] at hs d13 hW1 ⊢
  clear hx s1 hR hN
  by_cases h0 : N = 0
  · subst h0
    have e : Hid (true = R) := by show true = R; rw [← HR.out]; simp [rx, HN.out]
    clear HR
    go_enter Try.func80, Try.ntmps80
    go_wp2
    go_ret
    exact ⟨ret_bool6 e.out, b1⟩
  have h0' : ((N : Int) == 0) = false := by simpa using h0
  cases fg with
  | false =>
    have e : Hid (false = R) := by show false = R; rw [← HR.out]; simp [rx, HN.out, h0]
    clear HR
    go_enter Try.func80, Try.ntmps80
    go_wp2
    go_ret
    exact ⟨ret_bool6 e.out, b1⟩
  | true =>
    by_cases h1 : N = 1
    · subst h1
      obtain ⟨bx, ox, rfl, hcl⟩ := hx1.cells (by rw [HN.out]; decide)
      have c0 := hcl 0 (by rw [HN.out]; decide)
      rw [Nat.add_zero] at c0
      obtain ⟨x, hxx⟩ : ∃ x, X.getD 0 0 = x := ⟨_, rfl⟩
      rw [hxx] at c0
      have e : Hid ((x == 44) = R) := by
        show _ = R
        rw [← HR.out]
        have e1 : ¬ X.length = 0 := by rw [HN.out]; decide
        simp only [rx, HN.out, hxx]
        simp
        rfl
      clear HR hcl hx1 hxx
      go_enter Try.func80, Try.ntmps80
      go_wp2
      all_goals (
        go_ret
        exact ⟨ret_bool6 (by rw [← e.out] <;> simp [*]), b1⟩)
    · have h1' : ((N : Int) == 1) = false := by simpa using (show ¬ (N : Int) = 1 by omega)
      have e : Hid (false = R) := by show false = R; rw [← HR.out]; simp [rx, HN.out, h0, h1]
      clear HR
      go_enter Try.func80, Try.ntmps80
      go_wp2
      go_ret
      exact ⟨ret_bool6 e.out, b1⟩
/-- The numbers of a header that may be written. -/
def rn (f sf df pr ho : Int) : Bool := decide (f = 6 ∧ sf = 6 ∧ df = 6 ∧ 0 ≤ pr ∧ pr ≤ 255 ∧ 1 ≤ ho ∧ ho ≤ 255)
set_option maxRecDepth 100000 in
set_option maxHeartbeats 4000000 in
theorem rightHead6_any (f sf sh sl df dh dl pr ho : Int) (fg : Bool) (id of : Int) (mo : Bool) (xa : Option Addr) (xc : Nat) (X : List Int) (da : Option Addr) (dn dc : Nat) (w : World) (hx : RowI w xa X) (hdn : dn ≤ 140737488355328) :
    Calls Try.prog 65 #[.agg #[.int .i64 f, .int .i64 sf, .int .u64 sh, .int .u64 sl, .int .i64 df, .int .u64 dh, .int .u64 dl, .int .i64 pr, .int .i64 ho, .bool fg, .int .u32 id, .int .i64 of, .bool mo, .slice xa X.length xc, .slice da dn dc]] w fun e w' => e = .returned (.bool (rn f sf df pr ho && rx fg X && decide (dn ≤ 65000))) ∧ Below w.heap.size w w' := by
  obtain ⟨W1, hW1⟩ : ∃ W1, w.alloc (.cells #[.int .i64 f, .int .i64 sf, .int .u64 sh, .int .u64 sl, .int .i64 df, .int .u64 dh, .int .u64 dl, .int .i64 pr, .int .i64 ho, .bool fg, .int .u32 id, .int .i64 of, .bool mo, .slice xa X.length xc, .slice da dn dc] 42) = W1 := ⟨_, rfl⟩
  have b1 : Below w.heap.size w W1 := by rw [← hW1]; exact (Below.refl _ _).alloc (Nat.le_refl _) _
  have s1 : SIp W1 w.heap.size (.int .i64 f) (.int .i64 sf) (.int .u64 sh) (.int .u64 sl) (.int .i64 df) (.int .u64 dh) (.int .u64 dl) (.int .i64 pr) (.int .i64 ho) (.bool fg) (.int .u32 id) (.int .i64 of) (.bool mo) (.slice xa X.length xc) (.slice da dn dc) := by rw [← hW1]; exact sIp_new w _ _ _ _ _ _ _ _ _ _ _ _ _ _ _
  obtain ⟨d0, d1, d2, d3, d4, d5, d6, d7, d8, d9, d10, d11, d12, d13, d14⟩ := s1
  have s1 : Hid (SIp W1 w.heap.size (.int .i64 f) (.int .i64 sf) (.int .u64 sh) (.int .u64 sl) (.int .i64 df) (.int .u64 dh) (.int .u64 dl) (.int .i64 pr) (.int .i64 ho) (.bool fg) (.int .u32 id) (.int .i64 of) (.bool mo) (.slice xa X.length xc) (.slice da dn dc)) := ⟨d0, d1, d2, d3, d4, d5, d6, d7, d8, d9, d10, d11, d12, d13, d14⟩
  have KX : Hid _ := rightExts_any f sf sh sl df dh dl pr ho fg id of mo xa xc X da dn dc W1 (hx.below b1)
  have lt1 : w.heap.size < W1.heap.size := World.block_lt_of_cell? W1 _ d0
  clear hx
  by_cases hall : f = 6 ∧ sf = 6 ∧ df = 6 ∧ 0 ≤ pr ∧ pr ≤ 255 ∧ 1 ≤ ho ∧ ho ≤ 255
  · have e : rn f sf df pr ho = true := by simp [rn, hall]
    rw [e]
    obtain ⟨rfl, rfl, rfl, q1, q2, q3, q4⟩ := hall
    clear e
    generalize rx fg X = R at *
    go_enter Try.func65, Try.ntmps65
    go_wp2_with fail
    refine Calls.mono KX.out ?_
    rintro e W2 ⟨rfl, b2⟩
    have p14 := kept b2 d14
    have bw : Below w.heap.size w W2 := b1.trans (b2.mono b1.size)
    clear KX s1 b2
    cases R
    · go_wp2
      go_ret
      exact ⟨by simp, bw⟩
    · by_cases hd : dn ≤ 65000
      · have hd' : (dn : Int) ≤ 65000 := by omega
        go_wp2
        go_ret
        exact ⟨by simp [hd], bw⟩
      · have hd' : ¬ (dn : Int) ≤ 65000 := by omega
        go_wp2
        go_ret
        exact ⟨by (simp [hd]; try omega), bw⟩
  · have e : rn f sf df pr ho = false := by simp only [rn]; exact decide_eq_false hall
    rw [e]
    have HA : Hid _ := hall
    clear e hall
    have hbo : Hid (∀ W, Below w.heap.size w W → (Ending.returned (.bool false) = .returned (.bool (false && rx fg X && decide (dn ≤ 65000))) ∧ Below w.heap.size w W)) := fun W hW => ⟨by simp, hW⟩
    go_enter Try.func65, Try.ntmps65
    go_wp2_with fail
    all_goals first
      | (go_ret; exact hbo.out _ b1)
      | (exfalso; apply HA.out; refine ⟨?_, ?_, ?_, ?_, ?_, ?_, ?_⟩ <;> first | assumption | omega)
      | skip
/-- May a fragment lie there? -/
def rp (of : Int) (mo : Bool) (dn : Nat) : Bool := decide (0 ≤ of) && (decide (of % 8 = 0) && (decide (of ≤ 65535 - dn) && ((!mo || decide ((dn : Int) % 8 = 0)) && (mo || decide (0 < of)))))
set_option maxRecDepth 100000 in
set_option maxHeartbeats 4000000 in
theorem rightPlace6_any (f sf sh sl df dh dl pr ho : Int) (fg : Bool) (id of : Int) (mo : Bool) (xa : Option Addr) (xn xc : Nat) (da : Option Addr) (dn dc : Nat) (w : World) (hdn : dn ≤ 140737488355328) (hof : -9223372036854775808 ≤ of ∧ of ≤ 9223372036854775807) :
    Calls Try.prog 66 #[.agg #[.int .i64 f, .int .i64 sf, .int .u64 sh, .int .u64 sl, .int .i64 df, .int .u64 dh, .int .u64 dl, .int .i64 pr, .int .i64 ho, .bool fg, .int .u32 id, .int .i64 of, .bool mo, .slice xa xn xc, .slice da dn dc]] w fun e w' => e = .returned (.bool (rp of mo dn)) ∧ Below w.heap.size w w' := by
  unfold rp
  go_enter Try.func66, Try.ntmps66
  have ht : of.tmod 8 = 0 ↔ of % 8 = 0 := by
    have := Int.tmod_eq_emod_of_nonneg (a := of) (b := 8)
    constructor
    · intro h; have := Int.dvd_of_tmod_eq_zero h; omega
    · intro h; exact Int.tmod_eq_zero_of_dvd (by omega)
  have ht2 : (dn : Int).tmod 8 = (dn : Int) % 8 := Int.tmod_eq_emod_of_nonneg (by omega)
  have HT : Hid (of.tmod 8 = 0 ↔ of % 8 = 0) := ht
  clear ht
  go_wp2_with fail
  all_goals (go_ret; refine ⟨ret_bool6 ?_, (Below.refl _ _).alloc (Nat.le_refl _) _⟩; have ht := HT.out; first | (simp; done) | (simp; omega) | (simp [*]; done) | (simp [*]; omega) | (clear ht2; generalize (dn : Int) % 8 = m8; by_cases hm8 : m8 = 0 <;> simp_all <;> omega))
end Go.Proofs.Ytbghilihccaaaaa
