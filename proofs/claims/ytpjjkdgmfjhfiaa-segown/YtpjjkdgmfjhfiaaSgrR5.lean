/- Texts joined: Ip6M Ip6A Ip6B Ip6C -/
import Derived.Test.YtpjjkdgmfjhfiaaSgrR3
import Derived.Deep.AppendLies
import Derived.Deep.RegionLaw
import Derived.Maps.OwnOps
namespace Go.Proofs.Ytpjjkdgmfjhfiaa
set_option linter.unusedVariables false
set_option linter.unusedSimpArgs false
/-- An extension header's options: 0, or 7 at the first one that may not be. -/
def opt6Go : Nat → List Int → Int
  | 0, _ => 0
  | _ + 1, [] => 0
  | n + 1, x :: r => if x = 0 then opt6Go n r else if x / 64 ≠ 0 ∨ r.length < 1 ∨ r.getD 0 0 > (r.length : Int) - 1 then 7 else opt6Go n (r.drop (1 + (r.getD 0 0).toNat))
theorem opt6Go_fuel : ∀ (n m : Nat) (b : List Int), b.length ≤ n → b.length ≤ m → opt6Go n b = opt6Go m b
  | 0, m, b, h, _ => by
    have : b = [] := List.length_eq_zero_iff.1 (by omega)
    subst this
    cases m <;> rfl
  | n + 1, 0, b, _, h => by
    have : b = [] := List.length_eq_zero_iff.1 (by omega)
    subst this
    rfl
  | n + 1, m + 1, [], _, _ => rfl
  | n + 1, m + 1, x :: r, h, h' => by
    simp only [List.length_cons] at h h'
    simp only [opt6Go]
    split
    · exact opt6Go_fuel n m r (by omega) (by omega)
    · split
      · rfl
      · exact opt6Go_fuel n m _ (by rw [List.length_drop]; omega) (by rw [List.length_drop]; omega)
def opt6 (b : List Int) : Int := opt6Go b.length b
theorem opt6_nil : opt6 [] = 0 := rfl
theorem opt6_zero (r : List Int) : opt6 (0 :: r) = opt6 r := by simp [opt6, opt6Go]
theorem opt6_bad (x : Int) (r : List Int) (h0 : x ≠ 0) (hb : x / 64 ≠ 0 ∨ r.length < 1 ∨ r.getD 0 0 > (r.length : Int) - 1) : opt6 (x :: r) = 7 := by
  simp only [opt6, opt6Go, List.length_cons, if_neg h0, if_pos hb]
theorem opt6_next (x : Int) (r : List Int) (h0 : x ≠ 0) (hb : ¬ (x / 64 ≠ 0 ∨ r.length < 1 ∨ r.getD 0 0 > (r.length : Int) - 1)) : opt6 (x :: r) = opt6 (r.drop (1 + (r.getD 0 0).toNat)) := by
  simp only [opt6, opt6Go, List.length_cons, if_neg h0, if_neg hb]
  exact opt6Go_fuel _ _ _ (by rw [List.length_drop]; omega) (Nat.le_refl _)
theorem opt6Go_vals : ∀ (n : Nat) (b : List Int), opt6Go n b = 0 ∨ opt6Go n b = 7
  | 0, _ => .inl rfl
  | _ + 1, [] => .inl rfl
  | n + 1, x :: r => by
    simp only [opt6Go]
    repeat' split
    all_goals first | exact .inr rfl | exact opt6Go_vals n _
theorem opt6_vals (b : List Int) : opt6 b = 0 ∨ opt6 b = 7 := opt6Go_vals _ _
/-- How far extension headers were gone over. -/
structure St where
  next : Int
  l : List Int
  ex : List Int
  met : Bool
  cut : Bool
  id : Int
  off : Int
  more : Bool
def hsz (k : Int) (b : List Int) : Nat := if k = 44 ∨ b.length < 2 then 8 else ((b.getD 1 0).toNat + 1) * 8
theorem hsz_pos (k : Int) (b : List Int) : 8 ≤ hsz k b := by unfold hsz; split <;> omega
def isExt (n : Int) : Bool := decide (n = 0 ∨ n = 43 ∨ n = 44 ∨ n = 60)
/-- What is wrong with the header at hand, whose bytes are there. -/
def lerr (s : St) : Int :=
  if s.next = 0 then (if s.met = true ∨ 0 < s.ex.length then 7 else opt6 ((s.l.take (hsz s.next s.l)).drop 2))
  else if s.next = 43 then (if s.l.getD 3 0 ≠ 0 ∨ s.l.getD 2 0 = 0 then 8 else 0)
  else if s.next = 44 then (if s.met = true then 7 else 0)
  else opt6 ((s.l.take (hsz s.next s.l)).drop 2)
def werr (s : St) : Int := if s.ex.length = 8 then 17 else if s.l.length < hsz s.next s.l then 4 else lerr s
/-- A fragment's numbers. -/
def frg (s : St) : St := { s with met := true, id := u32 s.l 4, off := u16 s.l 2 / 8 * 8, more := decide (u16 s.l 2 % 2 = 1), cut := decide (u16 s.l 2 / 8 * 8 ≠ 0) || decide (u16 s.l 2 % 2 = 1) }
def took (s : St) : St := if s.next = 44 then frg s else s
def stepd (s : St) (n : Nat) : St := { s with next := s.l.getD 0 0, l := s.l.drop n, ex := s.ex ++ [s.next] }
def after (s : St) : St := stepd (took s) (hsz s.next s.l)
def over (s : St) : Bool := s.cut || !isExt s.next
def wgo : Nat → St → Int × St
  | 0, s => (0, s)
  | n + 1, s => if over s = true then (0, s) else if werr s ≠ 0 then (werr s, s) else wgo n (after s)
def wend (s : St) : Int × St := wgo (9 - s.ex.length) s
theorem took_next (s : St) : (took s).next = s.next := by unfold took; split <;> rfl
theorem took_l (s : St) : (took s).l = s.l := by unfold took; split <;> rfl
theorem took_ex (s : St) : (took s).ex = s.ex := by unfold took; split <;> rfl
theorem after_next (s : St) : (after s).next = s.l.getD 0 0 := by simp [after, stepd, took_l]
theorem after_l (s : St) : (after s).l = s.l.drop (hsz s.next s.l) := by simp [after, stepd, took_l]
theorem after_ex (s : St) : (after s).ex = s.ex ++ [s.next] := by simp [after, stepd, took_ex, took_next]
theorem wend_over (s : St) (h8 : s.ex.length ≤ 8) (h : over s = true) : wend s = (0, s) := by
  obtain ⟨n, hn⟩ : ∃ n, 9 - s.ex.length = n + 1 := ⟨8 - s.ex.length, by omega⟩
  simp [wend, hn, wgo, h]
theorem wend_err (s : St) (h8 : s.ex.length ≤ 8) (h : over s = false) (he : werr s ≠ 0) : wend s = (werr s, s) := by
  obtain ⟨n, hn⟩ : ∃ n, 9 - s.ex.length = n + 1 := ⟨8 - s.ex.length, by omega⟩
  simp [wend, hn, wgo, h, he]
theorem wend_next (s : St) (h8 : s.ex.length ≤ 8) (h : over s = false) (he : werr s = 0) : wend s = wend (after s) := by
  obtain ⟨n, hn⟩ : ∃ n, 9 - s.ex.length = n + 1 := ⟨8 - s.ex.length, by omega⟩
  have h2 : 9 - (after s).ex.length = n := by rw [after_ex]; simp; omega
  simp [wend, hn, h2, wgo, h, he]
theorem werr_lt (s : St) (he : werr s = 0) : s.ex.length ≠ 8 ∧ hsz s.next s.l ≤ s.l.length ∧ lerr s = 0 := by
  unfold werr at he
  split at he
  · omega
  split at he
  · omega
  · exact ⟨by assumption, by omega, he⟩
/-- What Walk begins with, and what Parse begins with. -/
def st0 (next : Int) (l : List Int) (met : Bool) : St := ⟨next, l, [], met, false, 0, 0, false⟩
def least (n : Int) : Int := if n = 6 then 20 else if n = 17 ∨ n = 1 ∨ n = 58 then 8 else 0
/-- Are all headers of a datagram there? -/
def whole (proto : Int) (data : List Int) : Bool := decide ((wend (st0 proto data true)).1 = 0) && decide (least (wend (st0 proto data true)).2.next ≤ ((wend (st0 proto data true)).2.l.length : Int))
theorem wgo_l : ∀ (n : Nat) (s : St), ∃ k, (wgo n s).2.l = s.l.drop k
  | 0, s => ⟨0, rfl⟩
  | n + 1, s => by
    simp only [wgo]
    split
    · exact ⟨0, rfl⟩
    split
    · exact ⟨0, rfl⟩
    · obtain ⟨k, hk⟩ := wgo_l n (after s)
      exact ⟨hsz s.next s.l + k, by rw [hk, after_l, List.drop_drop]⟩
theorem wend_l (s : St) : ∃ k, (wend s).2.l = s.l.drop k := wgo_l _ s
end Go.Proofs.Ytpjjkdgmfjhfiaa
namespace Go.Proofs.Ytpjjkdgmfjhfiaa
open Go.RowKit
set_option linter.unusedVariables false
set_option linter.unusedSimpArgs false
set_option maxRecDepth 100000 in
theorem u8_and192 (x : Int) (h0 : 0 ≤ x) (h1 : x ≤ 255) : bits .and .u8 x 192 = x / 64 * 64 := by
  obtain ⟨n, rfl⟩ := Int.eq_ofNat_of_zero_le h0
  have h : ∀ n : Nat, n < 256 → bits .and .u8 (n : Int) 192 = (n : Int) / 64 * 64 := by decide
  exact h n (by omega)
theorem i64_and65528 (x : Int) (h0 : 0 ≤ x) (h1 : x ≤ 65535) : bits .and .i64 x 65528 = x / 8 * 8 := by
  obtain ⟨n, rfl⟩ := Int.eq_ofNat_of_zero_le h0
  show IntKind.i64.wrap ((BitVec.ofInt 64 n &&& BitVec.ofInt 64 65528).toNat : Int) = _
  have h1' : (BitVec.ofInt 64 (n : Int)).toNat = n := by rw [BitVec.toNat_ofInt]; omega
  have h2 : (BitVec.ofInt 64 65528).toNat = 65528 := by decide
  have h3 : n &&& 65528 = n / 8 * 8 := by
    have e : n / 8 * 8 = (n / 8) <<< 3 := by rw [Nat.shiftLeft_eq]
    rw [e]
    apply Nat.eq_of_testBit_eq
    intro j
    rw [Nat.testBit_and, Nat.testBit_shiftLeft, show n / 8 = n >>> 3 by rw [Nat.shiftRight_eq_div_pow], Nat.testBit_shiftRight]
    by_cases hj : j < 16
    · have hd : ∀ j, j < 16 → Nat.testBit 65528 j = decide (3 ≤ j) := by decide
      rw [hd j hj]
      by_cases h3 : 3 ≤ j
      · rw [show 3 + (j - 3) = j by omega]; simp [h3]
      · simp [h3]
    · have hz : n.testBit j = false := Nat.testBit_lt_two_pow (Nat.lt_of_lt_of_le (show n < 2 ^ 16 by omega) (Nat.pow_le_pow_right (by decide) (by omega)))
      rw [hz]
      rw [show 3 + (j - 3) = j by omega, hz]
      simp
  rw [BitVec.toNat_and, h1', h2, h3, IntKind.wrap_i64]
  omega
theorem i64_and1 (x : Int) (h0 : 0 ≤ x) (h1 : x ≤ 65535) : bits .and .i64 x 1 = x % 2 := by
  obtain ⟨n, rfl⟩ := Int.eq_ofNat_of_zero_le h0
  have := i64_and_pow n 0 (by decide) (by omega)
  rw [show ((2 : Int) ^ 0) = 1 from rfl] at this
  rw [this]
  simp
set_option maxRecDepth 100000 in
set_option maxHeartbeats 1000000 in
theorem options6_any (a : Option Addr) (c : Nat) (l : List Int) (w : World) (h : Row w a l) (hl2 : 8 ≤ l.length) (hc : l.length ≤ c) (hcm : c ≤ 9223372036854775807) :
    Calls Try.prog 100 #[.slice a l.length c] w fun e w' => e = .returned (.int .i64 (opt6 (l.drop 2))) ∧ w' = w := by
  obtain ⟨T, hT⟩ : ∃ T, opt6 (l.drop 2) = T := ⟨_, rfl⟩
  rw [hT]
  have HT : Hid (opt6 (l.drop 2) = T) := hT
  have hd := h.drop c 2 hc
  have hdl : (l.drop 2).length = l.length - 2 := List.length_drop
  obtain ⟨bk, off, rfl, _⟩ := h.cells (by omega)
  clear hT
  have hc2 : ¬ c = 2 := by omega
  rw [if_neg hc2] at hd
  go_enter Try.func100, Try.ntmps100
  go_wp2
  go_loop [3] (fun v => ∃ a' c' r, v = .slice a' r.length c' ∧ Row w a' r ∧ r.length ≤ c' ∧ c' ≤ 9223372036854775807 ∧ Hid (opt6 r = T)) (fun v => sliceLen v)
  case atStart => exact ⟨_, _, l.drop 2, by rw [hdl], by simpa [Go.WideShapes.add_plain] using hd, by rw [hdl]; omega, by omega, HT⟩
  case round =>
    obtain ⟨a', c', r, rfl, hr, hc', hcm', ho⟩ := hrel
    clear hc hcm h HT hd hdl hl2
    cases r with
    | nil =>
      have e : Hid (0 = T) := by show 0 = T; rw [← ho.out, opt6_nil]
      clear ho hr
      simp only [List.length_nil] at hc' ⊢
      go_wp2
      go_ret
      exact ⟨ret_int e.out, rfl⟩
    | cons x r =>
      obtain ⟨bk, off, rfl, hcl⟩ := hr.cells (by simp)
      have c0 := hcl 0 (by simp)
      have hx := hr.bytes.get 0
      simp only [Nat.add_zero, List.getD_cons_zero] at c0 hx
      simp only [List.length_cons] at hc' ⊢
      have hn0 : ((r.length : Int) + 1 > 0) := by omega
      by_cases x0 : x = 0
      · subst x0
        have hd : Row w (if c' = 1 then some ⟨bk, off, none⟩ else some ⟨bk, off + 1, none⟩) r := by
          have hd := hr.drop c' 1 (by simpa using hc')
          simpa [Go.WideShapes.add_plain] using hd
        have E : Hid (opt6 r = T) := by show opt6 r = T; rw [← ho.out, opt6_zero]
        clear ho hr hcl
        go_wp2
        exact ⟨⟨_, _, r, rfl, hd, by omega, by omega, E⟩, by simp [sliceLen]⟩
      · have x0' : (x != 0) = true := by simpa using x0
        have xa := u8_and192 x hx.1 hx.2
        by_cases x6 : x / 64 = 0
        · have x6' : (bits .and .u8 x 192 != 0) = false := by rw [xa, x6]; rfl
          cases r with
          | nil =>
            have e : Hid (7 = T) := by show 7 = T; rw [← ho.out, opt6_bad x [] x0 (.inr (.inl (by simp)))]
            clear ho hr hcl
            simp only [List.length_nil] at hc' ⊢
            go_wp2
            go_ret
            exact ⟨ret_int e.out, rfl⟩
          | cons y r =>
            have c1 := hcl 1 (by simp)
            have hy := hr.bytes.get 1
            simp only [List.getD_cons_succ, List.getD_cons_zero, List.length_cons] at c1 hy hc' hn0 ⊢
            obtain ⟨n, hn⟩ : ∃ n, r.length + 1 + 1 = n := ⟨_, rfl⟩
            have HN : Hid (r.length + 1 + 1 = n) := hn
            have hn1 : 2 ≤ n := by omega
            have hn2 : ¬ ((n : Int) < 2) := by omega
            have hn3 : (n : Int) > 0 := by omega
            rw [hn] at hc' ⊢
            clear hn hn0
            by_cases hb : y > (n : Int) - 2
            · have e : Hid (7 = T) := by show 7 = T; rw [← ho.out, opt6_bad x _ x0 (.inr (.inr (by have := HN.out; simp only [List.getD_cons_zero, List.length_cons]; omega)))]
              clear ho hr hcl
              go_wp2
              go_ret
              exact ⟨ret_int e.out, rfl⟩
            · have hn := opt6_next x (y :: r) x0 (by have := HN.out; simp only [List.getD_cons_zero, List.length_cons]; omega)
              simp only [List.getD_cons_zero] at hn
              obtain ⟨m, rfl⟩ := Int.eq_ofNat_of_zero_le hy.1
              rw [Int.toNat_natCast] at hn
              have hdd : ((m : Int) :: r).drop (1 + m) = (x :: (m : Int) :: r).drop (2 + m) := by rw [show 2 + m = (1 + m) + 1 by omega, List.drop_succ_cons]
              have E : Hid (opt6 ((x :: (m : Int) :: r).drop (2 + m)) = T) := by show _ = T; rw [← hdd, ← hn]; exact ho.out
              have hd : Row w (if c' = 2 + m then some ⟨bk, off, none⟩ else some ⟨bk, off + (2 + m), none⟩) ((x :: (m : Int) :: r).drop (2 + m)) := by
                have hd := hr.drop c' (2 + m) (by have := HN.out; simp; omega)
                simpa [Go.WideShapes.add_plain] using hd
              have hl2 : Hid (n - (2 + m) = ((x :: (m : Int) :: r).drop (2 + m)).length) := by
                show _ = _
                have := HN.out
                simp
                omega
              have y4 : (2 : Int) + (m : Int) ≤ (n : Int) := by omega
              have y5 : 2 + m ≤ n := by omega
              clear ho hr hcl hn hdd
              go_wp2
              exact ⟨⟨_, _, _, by rw [hl2.out], hd, by rw [← hl2.out]; omega, by omega, E⟩, by simp [sliceLen]; omega⟩
        · have x6' : (bits .and .u8 x 192 != 0) = true := by rw [xa]; simp; omega
          have e : Hid (7 = T) := by show 7 = T; rw [← ho.out, opt6_bad x _ x0 (.inl x6)]
          clear ho hr hcl
          go_wp2
          go_ret
          exact ⟨ret_int e.out, rfl⟩
set_option maxHeartbeats 400000 in
theorem routed_any (a : Option Addr) (c : Nat) (l : List Int) (w : World) (h : Row w a l) (hl : 8 ≤ l.length) :
    Calls Try.prog 101 #[.slice a l.length c] w fun e w' => e = .returned (.int .i64 (if l.getD 3 0 ≠ 0 ∨ l.getD 2 0 = 0 then 8 else 0)) ∧ w' = w := by
  obtain ⟨bk, off, rfl, hc⟩ := h.cells (by omega)
  have c2 := hc 2 (by omega)
  have c3 := hc 3 (by omega)
  have h2 : (2 : Int) < (l.length : Int) := by omega
  have h3 : (3 : Int) < (l.length : Int) := by omega
  have hs := h.small
  clear hc h
  generalize l.getD 2 0 = x at *
  generalize l.getD 3 0 = y at *
  by_cases hy : y = 0
  · by_cases hx : x = 0
    · subst hx; subst hy
      go_enter Try.func101, Try.ntmps101
      go_wp2
      go_ret
      exact ⟨rfl, rfl⟩
    · have hx' : (x == 0) = false := by simpa using hx
      rw [if_neg (by omega)]
      subst hy
      go_enter Try.func101, Try.ntmps101
      go_wp2
      go_ret
      exact ⟨rfl, rfl⟩
  · have hy' : (y != 0) = true := by simpa using hy
    rw [if_pos (.inl hy)]
    go_enter Try.func101, Try.ntmps101
    go_wp2
    go_ret
    exact ⟨rfl, rfl⟩
set_option maxHeartbeats 400000 in
theorem size6_any (a : Option Addr) (c : Nat) (l : List Int) (k : Int) (w : World) (h : Row w a l) :
    Calls Try.prog 98 #[.int .i64 k, .slice a l.length c] w fun e w' => e = .returned (.int .i64 (hsz k l)) ∧ w' = w := by
  have hs := h.small
  by_cases hk : k = 44
  · have e : hsz k l = 8 := by unfold hsz; rw [if_pos (.inl hk)]
    rw [e]; clear e
    subst hk
    go_enter Try.func98, Try.ntmps98
    go_wp2
    go_ret
    exact ⟨rfl, rfl⟩
  · have hk' : (k == 44) = false := by simpa using hk
    by_cases hl : l.length < 2
    · have e : hsz k l = 8 := by unfold hsz; rw [if_pos (.inr hl)]
      have hl' : (l.length : Int) < 2 := by omega
      rw [e]; clear e
      go_enter Try.func98, Try.ntmps98
      go_wp2
      go_ret
      exact ⟨rfl, rfl⟩
    · have e : hsz k l = ((l.getD 1 0).toNat + 1) * 8 := by unfold hsz; rw [if_neg (by omega)]
      have hl' : ¬ (l.length : Int) < 2 := by omega
      have hl1 : (1 : Int) < (l.length : Int) := by omega
      rw [e]; clear e
      obtain ⟨bk, off, rfl, hc⟩ := h.cells (by omega)
      have c1 := hc 1 (by omega)
      have b1 := h.bytes.get 1
      clear hc h
      generalize l.getD 1 0 = x at *
      obtain ⟨m, rfl⟩ := Int.eq_ofNat_of_zero_le b1.1
      rw [Int.toNat_natCast]
      go_enter Try.func98, Try.ntmps98
      go_wp2
      go_ret
      exact ⟨ret_int (by first | omega | (simp; omega)), rfl⟩
/-- The eight cells of a walk. -/
structure SW (W : World) (g : Nat) (s : St) (rv xv : Value) : Prop where
  c0 : W.cell? ⟨g, 0, none⟩ = some (.int .i64 s.next)
  c1 : W.cell? ⟨g, 1, none⟩ = some rv
  c2 : W.cell? ⟨g, 2, none⟩ = some xv
  c3 : W.cell? ⟨g, 3, none⟩ = some (.bool s.met)
  c4 : W.cell? ⟨g, 4, none⟩ = some (.bool s.cut)
  c5 : W.cell? ⟨g, 5, none⟩ = some (.int .u32 s.id)
  c6 : W.cell? ⟨g, 6, none⟩ = some (.int .i64 s.off)
  c7 : W.cell? ⟨g, 7, none⟩ = some (.bool s.more)
  fz : ∀ o, W.frozen? ⟨g, o, none⟩ = false
theorem SW.lt {W : World} {g : Nat} {s : St} {rv xv : Value} (h : SW W g s rv xv) : g < W.heap.size := World.block_lt_of_cell? W _ h.c0
theorem SW.grown {W W' : World} {g : Nat} {s : St} {rv xv : Value} {row : Option Nat} (h : SW W g s rv xv) (hg : W.grownBy W' row) (hne : some g ≠ row) : SW W' g s rv xv :=
  have k : ∀ o, W'.cell? ⟨g, o, none⟩ = W.cell? ⟨g, o, none⟩ := fun o => hg.cell_far ⟨g, o, none⟩ h.lt hne
  ⟨(k _).trans h.c0, (k _).trans h.c1, (k _).trans h.c2, (k _).trans h.c3, (k _).trans h.c4, (k _).trans h.c5, (k _).trans h.c6, (k _).trans h.c7, fun o => (hg.frozen_far ⟨g, o, none⟩ h.lt hne).trans (h.fz o)⟩
theorem SW.below {W W' : World} {g B : Nat} {s : St} {rv xv : Value} (h : SW W g s rv xv) (hg : g < B) (hb : Below B W W') : SW W' g s rv xv :=
  have k : ∀ o, W'.cell? ⟨g, o, none⟩ = W.cell? ⟨g, o, none⟩ := fun o => hb.cell (p := ⟨g, o, none⟩) hg
  ⟨(k _).trans h.c0, (k _).trans h.c1, (k _).trans h.c2, (k _).trans h.c3, (k _).trans h.c4, (k _).trans h.c5, (k _).trans h.c6, (k _).trans h.c7, fun o => (hb.frozen (p := ⟨g, o, none⟩) hg).trans (h.fz o)⟩
theorem grownBy_setCell (w : World) (g o : Nat) (v : Value) : w.grownBy (w.setCell ⟨g, o, none⟩ v) (some g) :=
  have b := (Below.refl 0 w).setCell (p := ⟨g, o, none⟩) (Nat.zero_le _) v
  ⟨b.os, b.tape, b.output, b.size, fun i hi hne => Below.heap_setCell _ _ _ _ (fun e => hne (by rw [e]))⟩
theorem grownBy_drewN (w : World) (n : Nat) (row : Option Nat) : w.grownBy (w.drewN n) row := ⟨rfl, rfl, rfl, Nat.le_refl _, fun _ _ _ => rfl⟩
theorem u16_bd {l : List Int} (hb : M.Bytes l) (x : Int) : 0 ≤ u16 l x ∧ u16 l x ≤ 65535 := by
  have h1 := hb.get x.toNat
  have h2 := hb.get (x.toNat + 1)
  unfold u16
  omega
theorem SW.frag {W : World} {g : Nat} {nx : Int} {l ex : List Int} {met cut : Bool} {id off : Int} {more : Bool} {rv xv : Value} (h : SW W g ⟨nx, l, ex, met, cut, id, off, more⟩ rv xv) (i o : Int) (m k : Bool) :
    SW ((((W.setCell ⟨g, 5, none⟩ (.int .u32 i)).setCell ⟨g, 6, none⟩ (.int .i64 o)).setCell ⟨g, 7, none⟩ (.bool m)).setCell ⟨g, 4, none⟩ (.bool k)) g ⟨nx, l, ex, met, k, i, o, m⟩ rv xv := by
  obtain ⟨c0, c1, c2, c3, c4, c5, c6, c7, fz⟩ := h
  refine ⟨?_, ?_, ?_, ?_, ?_, ?_, ?_, ?_, fun o => by simp only [World.frozen?_setCell]; exact fz o⟩
  · rw [put_oth (by decide), put_oth (by decide), put_oth (by decide), put_oth (by decide)]; exact c0
  · rw [put_oth (by decide), put_oth (by decide), put_oth (by decide), put_oth (by decide)]; exact c1
  · rw [put_oth (by decide), put_oth (by decide), put_oth (by decide), put_oth (by decide)]; exact c2
  · rw [put_oth (by decide), put_oth (by decide), put_oth (by decide), put_oth (by decide)]; exact c3
  · exact put_same (by rw [put_oth (by decide), put_oth (by decide), put_oth (by decide)]; exact c4)
  · rw [put_oth (by decide), put_oth (by decide), put_oth (by decide)]; exact put_same c5
  · rw [put_oth (by decide), put_oth (by decide)]; exact put_same (by rw [put_oth (by decide)]; exact c6)
  · rw [put_oth (by decide)]; exact put_same (by rw [put_oth (by decide), put_oth (by decide)]; exact c7)
set_option maxHeartbeats 1000000 in
theorem fragment_any (g : Nat) (s : St) (rv xv : Value) (a : Option Addr) (c : Nat) (h : List Int) (W0 w : World) (hS : SW w g s rv xv) (hr : Row W0 a h) (hg : W0.heap.size ≤ g) (hb : Below W0.heap.size W0 w) (hl : h.length = 8) (hm : s.met = false) :
    Calls Try.prog 102 #[.pointer (some ⟨g, 0, none⟩), .slice a h.length c] w fun e w' => e = .returned (.int .i64 0) ∧ SW w' g { s with met := true, id := u32 h 4, off := u16 h 2 / 8 * 8, more := decide (u16 h 2 % 2 = 1), cut := decide (u16 h 2 / 8 * 8 ≠ 0) || decide (u16 h 2 % 2 = 1) } rv xv ∧ w.grownBy w' (some g) := by
  obtain ⟨c0, c1, c2, c3, c4, c5, c6, c7, fz⟩ := hS
  obtain ⟨nx, l, ex, met, cut, id, off, more⟩ := s
  simp only at hm c0 c1 c2 c3 c4 c5 c6 c7
  subst hm
  have f3 := fz 3
  have ub := u16_bd hr.bytes 2
  have e1 := i64_and65528 _ ub.1 ub.2
  have e2 := i64_and1 _ ub.1 ub.2
  have g1 := grownBy_setCell w g 3 (.bool true)
  have b1 := hb.setCell (p := ⟨g, 3, none⟩) hg (.bool true)
  obtain ⟨W1, hW1⟩ : ∃ W1, w.setCell ⟨g, 3, none⟩ (.bool true) = W1 := ⟨_, rfl⟩
  have S1 : SW W1 g ⟨nx, l, ex, true, cut, id, off, more⟩ rv xv := by
    rw [← hW1]
    exact ⟨(put_oth (by decide)).trans c0, (put_oth (by decide)).trans c1, (put_oth (by decide)).trans c2, put_same c3, (put_oth (by decide)).trans c4, (put_oth (by decide)).trans c5, (put_oth (by decide)).trans c6, (put_oth (by decide)).trans c7, fun o => by rw [World.frozen?_setCell]; exact fz o⟩
  rw [hW1] at g1 b1
  have r1 := hr.below b1
  have hl8 : (8 : Int) ≤ (h.length : Int) := by omega
  clear hl c0 c1 c2 c4 c5 c6 c7 hr
  go_enter Try.func102, Try.ntmps102
  go_wp2_with fail
  refine (u16_yes _ _ _ _ _ r1 (by decide) (by omega)).mono ?_
  rintro e w' ⟨rfl, n, rfl⟩
  have g2 := grownBy_drewN W1 n (some g)
  have b2 := below_drewN b1 n
  have S2 : SW (W1.drewN n) g ⟨nx, l, ex, true, cut, id, off, more⟩ rv xv := S1.grown (grownBy_drewN W1 n none) (by simp)
  have r2 := r1.drewN n
  obtain ⟨W2, hW2⟩ : ∃ W2, W1.drewN n = W2 := ⟨_, rfl⟩
  rw [hW2] at g2 b2 S2 r2 ⊢
  have G2 := g1.trans g2
  clear hW2 hW1 g1 g2 b1 S1 r1 c3 f3 fz
  go_wp2_with fail
  refine (u32_yes _ _ _ _ _ r2 (by decide) (by omega)).mono ?_
  rintro e w' ⟨rfl, n', rfl⟩
  have g3 := grownBy_drewN W2 n' (some g)
  have S3 : SW (W2.drewN n') g ⟨nx, l, ex, true, cut, id, off, more⟩ rv xv := S2.grown (grownBy_drewN W2 n' none) (by simp)
  obtain ⟨W3, hW3⟩ : ∃ W3, W2.drewN n' = W3 := ⟨_, rfl⟩
  rw [hW3] at g3 S3 ⊢
  have G3 := G2.trans g3
  clear hW3 G2 g3 S2 r2 b2
  have F3 := fun i o m k => S3.frag i o m k
  obtain ⟨c0, c1, c2, c3, c4, c5, c6, c7, fz⟩ := S3
  have FF : Hid _ := F3
  clear F3
  have f4 := fz 4
  have f5 := fz 5
  have f6 := fz 6
  have f7 := fz 7
  clear hb hg
  generalize hX : u16 h 2 = x at *
  have hm1 : (x % 2 != 0) = decide (x % 2 = 1) := by
    have h' : x % 2 = 0 ∨ x % 2 = 1 := by omega
    rcases h' with h' | h' <;> simp [h']
  by_cases hx : x / 8 * 8 = 0
  · have hx' : (x / 8 * 8 != 0) = false := by simpa using hx
    go_wp2
    go_ret
    refine ⟨rfl, ?_, (((G3.trans (grownBy_setCell _ _ _ _)).trans (grownBy_setCell _ _ _ _)).trans (grownBy_setCell _ _ _ _)).trans (grownBy_setCell _ _ _ _)⟩
    have := FF.out (u32 h 4) 0 (decide (x % 2 = 1)) (decide (x % 2 = 1))
    simpa [hX, hx] using this
  · have hx' : (x / 8 * 8 != 0) = true := by simpa using hx
    go_wp2
    go_ret
    refine ⟨rfl, ?_, (((G3.trans (grownBy_setCell _ _ _ _)).trans (grownBy_setCell _ _ _ _)).trans (grownBy_setCell _ _ _ _)).trans (grownBy_setCell _ _ _ _)⟩
    have := FF.out (u32 h 4) (x / 8 * 8) (decide (x % 2 = 1)) true
    simpa [hX, hx] using this
set_option maxHeartbeats 1000000 in
theorem looks1_any (g bx : Nat) (s : St) (rv : Value) (xa : Option Addr) (xc : Nat) (a : Option Addr) (c : Nat) (h : List Int) (w : World) (hS : SW w g s rv (.slice xa s.ex.length xc)) (hbx : w.cell? ⟨bx, 0, none⟩ = some (.pointer (some ⟨g, 0, none⟩)))
    (hr : Row w a h) (hl : 8 ≤ h.length) (hc : h.length ≤ c) (hcm : c ≤ 9223372036854775807) :
    Calls Try.prog 99 #[.slice a h.length c, .pointer (some ⟨bx, 0, none⟩)] w fun e w' => e = .returned (.int .i64 (if s.met = true ∨ 0 < s.ex.length then 7 else opt6 (h.drop 2))) ∧ w' = w := by
  obtain ⟨c0, c1, c2, c3, c4, c5, c6, c7, fz⟩ := hS
  clear c0 c1 c4 c5 c6 c7 fz
  generalize s.ex.length = n at *
  cases hm : s.met with
  | true =>
    rw [hm] at c3
    rw [if_pos (.inl rfl)]
    go_enter Try.func99, Try.ntmps99
    go_wp2
    go_ret
    exact ⟨rfl, rfl⟩
  | false =>
    rw [hm] at c3
    by_cases hn : 0 < n
    · rw [if_pos (.inr hn)]
      have hn' : (n : Int) > 0 := by omega
      go_enter Try.func99, Try.ntmps99
      go_wp2
      go_ret
      exact ⟨rfl, rfl⟩
    · rw [if_neg (by simp; omega)]
      have hn' : ¬ (n : Int) > 0 := by omega
      go_enter Try.func99, Try.ntmps99
      go_wp2_with (go_at_call 100; refine (options6_any _ _ _ _ hr hl hc hcm).mono ?_; rintro e w' ⟨rfl, rfl⟩)
      go_ret
      exact ⟨rfl, rfl⟩
end Go.Proofs.Ytpjjkdgmfjhfiaa
namespace Go.Proofs.Ytpjjkdgmfjhfiaa
open Go.RowKit Go.Maps
set_option linter.unusedVariables false
set_option linter.unusedSimpArgs false
theorem check_int (b : Bool) (x : Int) (w : World) : (Instr.checkKey b 10000 3 (.int .i64 x)).run Try.prog w = .ok () w := by
  show (Instr.checkKey b (9999 + 1) 3 (.int .i64 x)).run Try.prog w = .ok () w
  rw [Instr.checkKey]
  simp [run_underlying Try.underlying3, Result.andThen]
theorem run_insert {w : World} {b ck : Nat} {es : Array MapEntry} {x : Int} (v : Value) (hb : w.heap[b]? = some (.map es ck)) (hn : Instr.findNow (.int .i64) (.int .i64 x) es.toList 0 = some none) :
    (Instr.mapUpdate 118 (.map (some b)) (.int .i64 x) v).run Try.prog w = .ok () (ChangeMaps.setBlock w b (.map (es.push ⟨.int .i64 x, v, ck⟩) (ck + 1))) := by
  simp [Instr.mapUpdate, check_int, Instr.findKey, run_underlying Try.underlying118, run_underlying Try.underlying3, MapKept.run_getObj_map hb, hn, MapKept.run_setObj_map _ hb, Result.andThen, ChangeMaps.setBlock]
theorem grownBy_setBlock {w : World} {b : Nat} {es : Array MapEntry} {ck : Nat} (hb : w.heap[b]? = some (.map es ck)) (o : Obj) : w.grownBy (ChangeMaps.setBlock w b o) (some b) :=
  ⟨rfl, rfl, rfl, by simp [ChangeMaps.setBlock], fun i _ hi => ChangeMaps.heap_setBlock_other hb _ (fun e => hi (by rw [e]))⟩
abbrev fv0 (bx : Nat) : Value := .func (.func 99) #[] #[.pointer (some ⟨bx, 0, none⟩)]
abbrev fv43 : Value := .func (.func 101) #[] #[]
abbrev fv44 (g : Nat) : Value := .func (.func 102) #[.pointer (some ⟨g, 0, none⟩)] #[]
abbrev fv60 : Value := .func (.func 100) #[] #[]
def tab (g bx : Nat) : Array MapEntry := #[⟨.int .i64 0, fv0 bx, 0⟩, ⟨.int .i64 43, fv43, 1⟩, ⟨.int .i64 44, fv44 g, 2⟩, ⟨.int .i64 60, fv60, 3⟩]
set_option maxHeartbeats 1000000 in
theorem looks_any (g : Nat) (w : World) :
    Calls Try.prog 97 #[.pointer (some ⟨g, 0, none⟩)] w fun e w' => e = .returned (.map (some (w.heap.size + 1))) ∧ w'.heap[w.heap.size + 1]? = some (.map (tab g w.heap.size) 4) ∧ w'.cell? ⟨w.heap.size, 0, none⟩ = some (.pointer (some ⟨g, 0, none⟩)) ∧ Below w.heap.size w w' ∧ w'.heap.size = w.heap.size + 2 := by
  have hmm := @run_makeMap Try.prog
  obtain ⟨n, hn⟩ : ∃ n, w.heap.size = n := ⟨_, rfl⟩
  obtain ⟨W1, hW1⟩ : ∃ W1, (w.alloc (.cells #[.pointer (some ⟨g, 0, none⟩)] 117)).alloc (.map #[] 0) = W1 := ⟨_, rfl⟩
  have hs1 : W1.heap.size = n + 2 := by rw [← hW1, ← hn]; simp
  have hb1 : W1.heap[n + 1]? = some (.map #[] 0) := by
    rw [← hW1, ← hn]
    have := World.heap_new (w.alloc (.cells #[.pointer (some ⟨g, 0, none⟩)] 117)) (.map #[] 0)
    rwa [World.size_alloc] at this
  have hB1 : Below n w W1 := by rw [← hW1, ← hn]; exact ((Below.refl _ _).alloc (Nat.le_refl _) _).alloc (by simp) _
  have hc1 : W1.cell? ⟨n, 0, none⟩ = some (.pointer (some ⟨g, 0, none⟩)) := by rw [← hW1, ← hn]; simp
  have r1 := run_insert (fv0 n) hb1 (x := 0) rfl
  have hb2 := ChangeMaps.heap_setBlock_same hb1 (.map ((#[] : Array MapEntry).push ⟨.int .i64 0, fv0 n, 0⟩) (0 + 1))
  have g2 := grownBy_setBlock hb1 (.map ((#[] : Array MapEntry).push ⟨.int .i64 0, fv0 n, 0⟩) (0 + 1))
  obtain ⟨W2, hW2⟩ : ∃ W2, ChangeMaps.setBlock W1 (n + 1) (.map ((#[] : Array MapEntry).push ⟨.int .i64 0, fv0 n, 0⟩) (0 + 1)) = W2 := ⟨_, rfl⟩
  have hs2 : W2.heap.size = n + 2 := by rw [← hW2]; simp [ChangeMaps.setBlock, hs1]
  rw [hW2] at r1 hb2 g2
  have r2 := run_insert fv43 hb2 (x := 43) rfl
  have hb3 := ChangeMaps.heap_setBlock_same hb2 (.map (((#[] : Array MapEntry).push ⟨.int .i64 0, fv0 n, 0⟩).push ⟨.int .i64 43, fv43, 0 + 1⟩) (0 + 1 + 1))
  have g3 := grownBy_setBlock hb2 (.map (((#[] : Array MapEntry).push ⟨.int .i64 0, fv0 n, 0⟩).push ⟨.int .i64 43, fv43, 0 + 1⟩) (0 + 1 + 1))
  obtain ⟨W3, hW3⟩ : ∃ W3, ChangeMaps.setBlock W2 (n + 1) (.map (((#[] : Array MapEntry).push ⟨.int .i64 0, fv0 n, 0⟩).push ⟨.int .i64 43, fv43, 0 + 1⟩) (0 + 1 + 1)) = W3 := ⟨_, rfl⟩
  have hs3 : W3.heap.size = n + 2 := by rw [← hW3]; simp [ChangeMaps.setBlock, hs2]
  rw [hW3] at r2 hb3 g3
  have r3 := run_insert (fv44 g) hb3 (x := 44) rfl
  have hb4 := ChangeMaps.heap_setBlock_same hb3 (.map ((((#[] : Array MapEntry).push ⟨.int .i64 0, fv0 n, 0⟩).push ⟨.int .i64 43, fv43, 0 + 1⟩).push ⟨.int .i64 44, fv44 g, 0 + 1 + 1⟩) (0 + 1 + 1 + 1))
  have g4 := grownBy_setBlock hb3 (.map ((((#[] : Array MapEntry).push ⟨.int .i64 0, fv0 n, 0⟩).push ⟨.int .i64 43, fv43, 0 + 1⟩).push ⟨.int .i64 44, fv44 g, 0 + 1 + 1⟩) (0 + 1 + 1 + 1))
  obtain ⟨W4, hW4⟩ : ∃ W4, ChangeMaps.setBlock W3 (n + 1) (.map ((((#[] : Array MapEntry).push ⟨.int .i64 0, fv0 n, 0⟩).push ⟨.int .i64 43, fv43, 0 + 1⟩).push ⟨.int .i64 44, fv44 g, 0 + 1 + 1⟩) (0 + 1 + 1 + 1)) = W4 := ⟨_, rfl⟩
  have hs4 : W4.heap.size = n + 2 := by rw [← hW4]; simp [ChangeMaps.setBlock, hs3]
  rw [hW4] at r3 hb4 g4
  have r4 := run_insert fv60 hb4 (x := 60) rfl
  have hb5 := ChangeMaps.heap_setBlock_same hb4 (.map (((((#[] : Array MapEntry).push ⟨.int .i64 0, fv0 n, 0⟩).push ⟨.int .i64 43, fv43, 0 + 1⟩).push ⟨.int .i64 44, fv44 g, 0 + 1 + 1⟩).push ⟨.int .i64 60, fv60, 0 + 1 + 1 + 1⟩) (0 + 1 + 1 + 1 + 1))
  have g5 := grownBy_setBlock hb4 (.map (((((#[] : Array MapEntry).push ⟨.int .i64 0, fv0 n, 0⟩).push ⟨.int .i64 43, fv43, 0 + 1⟩).push ⟨.int .i64 44, fv44 g, 0 + 1 + 1⟩).push ⟨.int .i64 60, fv60, 0 + 1 + 1 + 1⟩) (0 + 1 + 1 + 1 + 1))
  obtain ⟨W5, hW5⟩ : ∃ W5, ChangeMaps.setBlock W4 (n + 1) (.map (((((#[] : Array MapEntry).push ⟨.int .i64 0, fv0 n, 0⟩).push ⟨.int .i64 43, fv43, 0 + 1⟩).push ⟨.int .i64 44, fv44 g, 0 + 1 + 1⟩).push ⟨.int .i64 60, fv60, 0 + 1 + 1 + 1⟩) (0 + 1 + 1 + 1 + 1)) = W5 := ⟨_, rfl⟩
  have hs5 : W5.heap.size = n + 2 := by rw [← hW5]; simp [ChangeMaps.setBlock, hs4]
  rw [hW5] at r4 hb5 g5
  have G3 := g2.trans g3
  have G5 := G3.trans (g4.trans g5)
  have hc3 : W3.cell? ⟨n, 0, none⟩ = some (.pointer (some ⟨g, 0, none⟩)) := (G3.cell_far ⟨n, 0, none⟩ (by rw [hs1]; simp) (by simp)).trans hc1
  have hc5 : W5.cell? ⟨n, 0, none⟩ = some (.pointer (some ⟨g, 0, none⟩)) := (G5.cell_far ⟨n, 0, none⟩ (by rw [hs1]; simp) (by simp)).trans hc1
  have B5 : Below n w W5 := hB1.grown G5 (by rw [hs1]; omega) (fun k hk => by cases hk; omega)
  have hb6 : W5.heap[n + 1]? = some (.map (tab g n) 4) := hb5
  clear hb1 hb2 hb3 hb4 hb5 g2 g3 g4 g5 G3 G5 hW2 hW3 hW4 hW5 hc1 hB1 hs1 hs2 hs3 hs4
  go_enter Try.func97, Try.ntmps97
  go_wp2
  go_ret
  rw [hn]
  exact ⟨rfl, hb6, hc5, B5, hs5⟩
/-- A look into the table. -/
def lookv (g bx : Nat) (n : Int) : Value := if n = 0 then fv0 bx else if n = 43 then fv43 else if n = 44 then fv44 g else if n = 60 then fv60 else .nilFunc
theorem run_look {w : World} {g bx b : Nat} (hb : w.heap[b]? = some (.map (tab g bx) 4)) (n : Int) :
    (Instr.lookup 118 (.map (some b)) (.int .i64 n) true).run Try.prog w = .ok (.tuple #[lookv g bx n, .bool (isExt n)]) w := by
  have hz : (zeroValue 120).run Try.prog w = .ok .nilFunc w := by kernel_rfl
  by_cases h0 : n = 0
  · subst h0
    simp [Instr.lookup, check_int, Instr.findKey, run_underlying Try.underlying118, run_underlying Try.underlying3, MapKept.run_getObj_map hb, tab, Instr.findNow, Instr.sameNow, hz, Result.andThen, lookv, isExt]
  by_cases h1 : n = 43
  · subst h1
    simp [Instr.lookup, check_int, Instr.findKey, run_underlying Try.underlying118, run_underlying Try.underlying3, MapKept.run_getObj_map hb, tab, Instr.findNow, Instr.sameNow, hz, Result.andThen, lookv, isExt]
  by_cases h2 : n = 44
  · subst h2
    simp [Instr.lookup, check_int, Instr.findKey, run_underlying Try.underlying118, run_underlying Try.underlying3, MapKept.run_getObj_map hb, tab, Instr.findNow, Instr.sameNow, hz, Result.andThen, lookv, isExt]
  by_cases h3 : n = 60
  · subst h3
    simp [Instr.lookup, check_int, Instr.findKey, run_underlying Try.underlying118, run_underlying Try.underlying3, MapKept.run_getObj_map hb, tab, Instr.findNow, Instr.sameNow, hz, Result.andThen, lookv, isExt]
  · have e0 : (n == 0) = false := by simpa using h0
    have e1 : (n == 43) = false := by simpa using h1
    have e2 : (n == 44) = false := by simpa using h2
    have e3 : (n == 60) = false := by simpa using h3
    simp [Instr.lookup, check_int, Instr.findKey, run_underlying Try.underlying118, run_underlying Try.underlying3, MapKept.run_getObj_map hb, tab, Instr.findNow, Instr.sameNow, hz, Result.andThen, lookv, isExt, h0, h1, h2, h3, e0, e1, e2, e3]
end Go.Proofs.Ytpjjkdgmfjhfiaa
