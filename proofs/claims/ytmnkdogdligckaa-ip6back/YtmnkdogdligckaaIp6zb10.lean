/- Texts joined: Ip6A -/
import Derived.Test.YtmnkdogdligckaaIp6zb9
namespace Go.Proofs.Ytmnkdogdligckaa
open Go.RowKit
set_option linter.unusedVariables false
set_option linter.unusedSimpArgs false
set_option maxRecDepth 100000 in
theorem u8_and192 (x : Int) (h0 : 0 ≤ x) (h1 : x ≤ 255) : bits .and .u8 x 192 = x / 64 * 64 := by
  obtain ⟨n, rfl⟩ := Int.eq_ofNat_of_zero_le h0
  have h : ∀ n : Nat, n < 256 → bits .and .u8 (n : Int) 192 = (n : Int) / 64 * 64 := by decide
  exact h n (by omega)
theorem i64_and65528 (x : Int) (h0 : 0 ≤ x) (h1 : x ≤ 65535) : bits .and .i64 x 65528 = x / 8 * 8 := by
  obtain ⟨n, rfl⟩ := Int.eq_ofNat_of_zero_le h0
  show IntKind.i64.wrap ((BitVec.ofInt 64 n &&& BitVec.ofInt 64 65528).toNat : Int) = _
  have h1' : (BitVec.ofInt 64 (n : Int)).toNat = n := by rw [BitVec.toNat_ofInt]; omega
  have h2 : (BitVec.ofInt 64 65528).toNat = 65528 := by decide
  have h3 : n &&& 65528 = n / 8 * 8 := by
    have e : n / 8 * 8 = (n / 8) <<< 3 := by rw [Nat.shiftLeft_eq]
    rw [e]
    apply Nat.eq_of_testBit_eq
    intro j
    rw [Nat.testBit_and, Nat.testBit_shiftLeft, show n / 8 = n >>> 3 by rw [Nat.shiftRight_eq_div_pow], Nat.testBit_shiftRight]
    by_cases hj : j < 16
    · have hd : ∀ j, j < 16 → Nat.testBit 65528 j = decide (3 ≤ j) := by decide
      rw [hd j hj]
      by_cases h3 : 3 ≤ j
      · rw [show 3 + (j - 3) = j by omega]; simp [h3]
      · simp [h3]
    · have hz : n.testBit j = false := Nat.testBit_lt_two_pow (Nat.lt_of_lt_of_le (show n < 2 ^ 16 by omega) (Nat.pow_le_pow_right (by decide) (by omega)))
      rw [hz]
      rw [show 3 + (j - 3) = j by omega, hz]
      simp
  rw [BitVec.toNat_and, h1', h2, h3, IntKind.wrap_i64]
  omega
theorem i64_and1 (x : Int) (h0 : 0 ≤ x) (h1 : x ≤ 65535) : bits .and .i64 x 1 = x % 2 := by
  obtain ⟨n, rfl⟩ := Int.eq_ofNat_of_zero_le h0
  have := i64_and_pow n 0 (by decide) (by omega)
  rw [show ((2 : Int) ^ 0) = 1 from rfl] at this
  rw [this]
  simp
set_option maxRecDepth 100000 in
set_option maxHeartbeats 1000000 in
theorem options6_any (a : Option Addr) (c : Nat) (l : List Int) (w : World) (h : Row w a l) (hl2 : 8 ≤ l.length) (hc : l.length ≤ c) (hcm : c ≤ 9223372036854775807) :
    Calls Try.prog 59 #[.slice a l.length c] w fun e w' => e = .returned (.int .i64 (opt6 (l.drop 2))) ∧ w' = w := by
  obtain ⟨T, hT⟩ : ∃ T, opt6 (l.drop 2) = T := ⟨_, rfl⟩
  rw [hT]
  have HT : Hid (opt6 (l.drop 2) = T) := hT
  have hd := h.drop c 2 hc
  have hdl : (l.drop 2).length = l.length - 2 := List.length_drop
  obtain ⟨bk, off, rfl, _⟩ := h.cells (by omega)
  clear hT
  have hc2 : ¬ c = 2 := by omega
  rw [if_neg hc2] at hd
  go_enter Try.func59, Try.ntmps59
  go_wp2
  go_loop [3] (fun v => ∃ a' c' r, v = .slice a' r.length c' ∧ Row w a' r ∧ r.length ≤ c' ∧ c' ≤ 9223372036854775807 ∧ Hid (opt6 r = T)) (fun v => sliceLen v)
  case atStart => exact ⟨_, _, l.drop 2, by rw [hdl], by simpa [Go.WideShapes.add_plain] using hd, by rw [hdl]; omega, by omega, HT⟩
  case round =>
    obtain ⟨a', c', r, rfl, hr, hc', hcm', ho⟩ := hrel
    clear hc hcm h HT hd hdl hl2
    cases r with
    | nil =>
      have e : Hid (0 = T) := by show 0 = T; rw [← ho.out, opt6_nil]
      clear ho hr
      simp only [List.length_nil] at hc' ⊢
      go_wp2
      go_ret
      exact ⟨ret_int e.out, rfl⟩
    | cons x r =>
      obtain ⟨bk, off, rfl, hcl⟩ := hr.cells (by simp)
      have c0 := hcl 0 (by simp)
      have hx := hr.bytes.get 0
      simp only [Nat.add_zero, List.getD_cons_zero] at c0 hx
      simp only [List.length_cons] at hc' ⊢
      have hn0 : ((r.length : Int) + 1 > 0) := by omega
      by_cases x0 : x = 0
      · subst x0
        have hd : Row w (if c' = 1 then some ⟨bk, off, none⟩ else some ⟨bk, off + 1, none⟩) r := by
          have hd := hr.drop c' 1 (by simpa using hc')
          simpa [Go.WideShapes.add_plain] using hd
        have E : Hid (opt6 r = T) := by show opt6 r = T; rw [← ho.out, opt6_zero]
        clear ho hr hcl
        go_wp2
        exact ⟨⟨_, _, r, rfl, hd, by omega, by omega, E⟩, by simp [sliceLen]⟩
      · have x0' : (x != 0) = true := by simpa using x0
        have xa := u8_and192 x hx.1 hx.2
        by_cases x6 : x / 64 = 0
        · have x6' : (bits .and .u8 x 192 != 0) = false := by rw [xa, x6]; rfl
          cases r with
          | nil =>
            have e : Hid (7 = T) := by show 7 = T; rw [← ho.out, opt6_bad x [] x0 (.inr (.inl (by simp)))]
            clear ho hr hcl
            simp only [List.length_nil] at hc' ⊢
            go_wp2
            go_ret
            exact ⟨ret_int e.out, rfl⟩
          | cons y r =>
            have c1 := hcl 1 (by simp)
            have hy := hr.bytes.get 1
            simp only [List.getD_cons_succ, List.getD_cons_zero, List.length_cons] at c1 hy hc' hn0 ⊢
            obtain ⟨n, hn⟩ : ∃ n, r.length + 1 + 1 = n := ⟨_, rfl⟩
            have HN : Hid (r.length + 1 + 1 = n) := hn
            have hn1 : 2 ≤ n := by omega
            have hn2 : ¬ ((n : Int) < 2) := by omega
            have hn3 : (n : Int) > 0 := by omega
            rw [hn] at hc' ⊢
            clear hn hn0
            by_cases hb : y > (n : Int) - 2
            · have e : Hid (7 = T) := by show 7 = T; rw [← ho.out, opt6_bad x _ x0 (.inr (.inr (by have := HN.out; simp only [List.getD_cons_zero, List.length_cons]; omega)))]
              clear ho hr hcl
              go_wp2
              go_ret
              exact ⟨ret_int e.out, rfl⟩
            · have hn := opt6_next x (y :: r) x0 (by have := HN.out; simp only [List.getD_cons_zero, List.length_cons]; omega)
              simp only [List.getD_cons_zero] at hn
              obtain ⟨m, rfl⟩ := Int.eq_ofNat_of_zero_le hy.1
              rw [Int.toNat_natCast] at hn
              have hdd : ((m : Int) :: r).drop (1 + m) = (x :: (m : Int) :: r).drop (2 + m) := by rw [show 2 + m = (1 + m) + 1 by omega, List.drop_succ_cons]
              have E : Hid (opt6 ((x :: (m : Int) :: r).drop (2 + m)) = T) := by show _ = T; rw [← hdd, ← hn]; exact ho.out
              have hd : Row w (if c' = 2 + m then some ⟨bk, off, none⟩ else some ⟨bk, off + (2 + m), none⟩) ((x :: (m : Int) :: r).drop (2 + m)) := by
                have hd := hr.drop c' (2 + m) (by have := HN.out; simp; omega)
                simpa [Go.WideShapes.add_plain] using hd
              have hl2 : Hid (n - (2 + m) = ((x :: (m : Int) :: r).drop (2 + m)).length) := by
                show _ = _
                have := HN.out
                simp
                omega
              have y4 : (2 : Int) + (m : Int) ≤ (n : Int) := by omega
              have y5 : 2 + m ≤ n := by omega
              clear ho hr hcl hn hdd
              go_wp2
              exact ⟨⟨_, _, _, by rw [hl2.out], hd, by rw [← hl2.out]; omega, by omega, E⟩, by simp [sliceLen]; omega⟩
        · have x6' : (bits .and .u8 x 192 != 0) = true := by rw [xa]; simp; omega
          have e : Hid (7 = T) := by show 7 = T; rw [← ho.out, opt6_bad x _ x0 (.inl x6)]
          clear ho hr hcl
          go_wp2
          go_ret
          exact ⟨ret_int e.out, rfl⟩
set_option maxHeartbeats 400000 in
theorem routed_any (a : Option Addr) (c : Nat) (l : List Int) (w : World) (h : Row w a l) (hl : 8 ≤ l.length) :
    Calls Try.prog 60 #[.slice a l.length c] w fun e w' => e = .returned (.int .i64 (if l.getD 3 0 ≠ 0 ∨ l.getD 2 0 = 0 then 8 else 0)) ∧ w' = w := by
  obtain ⟨bk, off, rfl, hc⟩ := h.cells (by omega)
  have c2 := hc 2 (by omega)
  have c3 := hc 3 (by omega)
  have h2 : (2 : Int) < (l.length : Int) := by omega
  have h3 : (3 : Int) < (l.length : Int) := by omega
  have hs := h.small
  clear hc h
  generalize l.getD 2 0 = x at *
  generalize l.getD 3 0 = y at *
  by_cases hy : y = 0
  · by_cases hx : x = 0
    · subst hx; subst hy
      go_enter Try.func60, Try.ntmps60
      go_wp2
      go_ret
      exact ⟨rfl, rfl⟩
    · have hx' : (x == 0) = false := by simpa using hx
      rw [if_neg (by omega)]
      subst hy
      go_enter Try.func60, Try.ntmps60
      go_wp2
      go_ret
      exact ⟨rfl, rfl⟩
  · have hy' : (y != 0) = true := by simpa using hy
    rw [if_pos (.inl hy)]
    go_enter Try.func60, Try.ntmps60
    go_wp2
    go_ret
    exact ⟨rfl, rfl⟩
set_option maxHeartbeats 400000 in
theorem size6_any (a : Option Addr) (c : Nat) (l : List Int) (k : Int) (w : World) (h : Row w a l) :
    Calls Try.prog 43 #[.int .i64 k, .slice a l.length c] w fun e w' => e = .returned (.int .i64 (hsz k l)) ∧ w' = w := by
  have hs := h.small
  by_cases hk : k = 44
  · have e : hsz k l = 8 := by unfold hsz; rw [if_pos (.inl hk)]
    rw [e]; clear e
    subst hk
    go_enter Try.func43, Try.ntmps43
    go_wp2
    go_ret
    exact ⟨rfl, rfl⟩
  · have hk' : (k == 44) = false := by simpa using hk
    by_cases hl : l.length < 2
    · have e : hsz k l = 8 := by unfold hsz; rw [if_pos (.inr hl)]
      have hl' : (l.length : Int) < 2 := by omega
      rw [e]; clear e
      go_enter Try.func43, Try.ntmps43
      go_wp2
      go_ret
      exact ⟨rfl, rfl⟩
    · have e : hsz k l = ((l.getD 1 0).toNat + 1) * 8 := by unfold hsz; rw [if_neg (by omega)]
      have hl' : ¬ (l.length : Int) < 2 := by omega
      have hl1 : (1 : Int) < (l.length : Int) := by omega
      rw [e]; clear e
      obtain ⟨bk, off, rfl, hc⟩ := h.cells (by omega)
      have c1 := hc 1 (by omega)
      have b1 := h.bytes.get 1
      clear hc h
      generalize l.getD 1 0 = x at *
      obtain ⟨m, rfl⟩ := Int.eq_ofNat_of_zero_le b1.1
      rw [Int.toNat_natCast]
      go_enter Try.func43, Try.ntmps43
      go_wp2
      go_ret
      exact ⟨ret_int (by first | omega | (simp; omega)), rfl⟩
end Go.Proofs.Ytmnkdogdligckaa
