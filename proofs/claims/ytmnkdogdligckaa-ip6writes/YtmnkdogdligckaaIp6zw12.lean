/- Texts joined: Ip6M -/
import Derived.Test.YtmnkdogdligckaaIp6zw8
namespace Go.Proofs.Ytmnkdogdligckaa
set_option linter.unusedVariables false
set_option linter.unusedSimpArgs false
/-- An extension header's options: 0, or 7 at the first one that may not be. -/
def opt6Go : Nat → List Int → Int
  | 0, _ => 0
  | _ + 1, [] => 0
  | n + 1, x :: r => if x = 0 then opt6Go n r else if x / 64 ≠ 0 ∨ r.length < 1 ∨ r.getD 0 0 > (r.length : Int) - 1 then 7 else opt6Go n (r.drop (1 + (r.getD 0 0).toNat))
theorem opt6Go_fuel : ∀ (n m : Nat) (b : List Int), b.length ≤ n → b.length ≤ m → opt6Go n b = opt6Go m b
  | 0, m, b, h, _ => by
    have : b = [] := List.length_eq_zero_iff.1 (by omega)
    subst this
    cases m <;> rfl
  | n + 1, 0, b, _, h => by
    have : b = [] := List.length_eq_zero_iff.1 (by omega)
    subst this
    rfl
  | n + 1, m + 1, [], _, _ => rfl
  | n + 1, m + 1, x :: r, h, h' => by
    simp only [List.length_cons] at h h'
    simp only [opt6Go]
    split
    · exact opt6Go_fuel n m r (by omega) (by omega)
    · split
      · rfl
      · exact opt6Go_fuel n m _ (by rw [List.length_drop]; omega) (by rw [List.length_drop]; omega)
def opt6 (b : List Int) : Int := opt6Go b.length b
theorem opt6_nil : opt6 [] = 0 := rfl
theorem opt6_zero (r : List Int) : opt6 (0 :: r) = opt6 r := by simp [opt6, opt6Go]
theorem opt6_bad (x : Int) (r : List Int) (h0 : x ≠ 0) (hb : x / 64 ≠ 0 ∨ r.length < 1 ∨ r.getD 0 0 > (r.length : Int) - 1) : opt6 (x :: r) = 7 := by
  simp only [opt6, opt6Go, List.length_cons, if_neg h0, if_pos hb]
theorem opt6_next (x : Int) (r : List Int) (h0 : x ≠ 0) (hb : ¬ (x / 64 ≠ 0 ∨ r.length < 1 ∨ r.getD 0 0 > (r.length : Int) - 1)) : opt6 (x :: r) = opt6 (r.drop (1 + (r.getD 0 0).toNat)) := by
  simp only [opt6, opt6Go, List.length_cons, if_neg h0, if_neg hb]
  exact opt6Go_fuel _ _ _ (by rw [List.length_drop]; omega) (Nat.le_refl _)
/-- How far extension headers were gone over. -/
structure St where
  next : Int
  l : List Int
  ex : List Int
  met : Bool
  cut : Bool
  id : Int
  off : Int
  more : Bool
def hsz (k : Int) (b : List Int) : Nat := if k = 44 ∨ b.length < 2 then 8 else ((b.getD 1 0).toNat + 1) * 8
theorem hsz_pos (k : Int) (b : List Int) : 8 ≤ hsz k b := by unfold hsz; split <;> omega
def isExt (n : Int) : Bool := decide (n = 0 ∨ n = 43 ∨ n = 44 ∨ n = 60)
/-- What is wrong with the header at hand, whose bytes are there. -/
def lerr (s : St) : Int :=
  if s.next = 0 then (if s.met = true ∨ 0 < s.ex.length then 7 else opt6 ((s.l.take (hsz s.next s.l)).drop 2))
  else if s.next = 43 then (if s.l.getD 3 0 ≠ 0 ∨ s.l.getD 2 0 = 0 then 8 else 0)
  else if s.next = 44 then (if s.met = true then 7 else 0)
  else opt6 ((s.l.take (hsz s.next s.l)).drop 2)
def werr (s : St) : Int := if s.ex.length = 8 then 17 else if s.l.length < hsz s.next s.l then 4 else lerr s
/-- A fragment's numbers. -/
def frg (s : St) : St := { s with met := true, id := u32 s.l 4, off := u16 s.l 2 / 8 * 8, more := decide (u16 s.l 2 % 2 = 1), cut := decide (u16 s.l 2 / 8 * 8 ≠ 0) || decide (u16 s.l 2 % 2 = 1) }
def took (s : St) : St := if s.next = 44 then frg s else s
def stepd (s : St) (n : Nat) : St := { s with next := s.l.getD 0 0, l := s.l.drop n, ex := s.ex ++ [s.next] }
def after (s : St) : St := stepd (took s) (hsz s.next s.l)
def over (s : St) : Bool := s.cut || !isExt s.next
def wgo : Nat → St → Int × St
  | 0, s => (0, s)
  | n + 1, s => if over s = true then (0, s) else if werr s ≠ 0 then (werr s, s) else wgo n (after s)
def wend (s : St) : Int × St := wgo (9 - s.ex.length) s
theorem took_next (s : St) : (took s).next = s.next := by unfold took; split <;> rfl
theorem took_l (s : St) : (took s).l = s.l := by unfold took; split <;> rfl
theorem took_ex (s : St) : (took s).ex = s.ex := by unfold took; split <;> rfl
theorem after_next (s : St) : (after s).next = s.l.getD 0 0 := by simp [after, stepd, took_l]
theorem after_l (s : St) : (after s).l = s.l.drop (hsz s.next s.l) := by simp [after, stepd, took_l]
theorem after_ex (s : St) : (after s).ex = s.ex ++ [s.next] := by simp [after, stepd, took_ex, took_next]
theorem wend_over (s : St) (h8 : s.ex.length ≤ 8) (h : over s = true) : wend s = (0, s) := by
  obtain ⟨n, hn⟩ : ∃ n, 9 - s.ex.length = n + 1 := ⟨8 - s.ex.length, by omega⟩
  simp [wend, hn, wgo, h]
theorem wend_err (s : St) (h8 : s.ex.length ≤ 8) (h : over s = false) (he : werr s ≠ 0) : wend s = (werr s, s) := by
  obtain ⟨n, hn⟩ : ∃ n, 9 - s.ex.length = n + 1 := ⟨8 - s.ex.length, by omega⟩
  simp [wend, hn, wgo, h, he]
theorem wend_next (s : St) (h8 : s.ex.length ≤ 8) (h : over s = false) (he : werr s = 0) : wend s = wend (after s) := by
  obtain ⟨n, hn⟩ : ∃ n, 9 - s.ex.length = n + 1 := ⟨8 - s.ex.length, by omega⟩
  have h2 : 9 - (after s).ex.length = n := by rw [after_ex]; simp; omega
  simp [wend, hn, h2, wgo, h, he]
/-- What Walk begins with, and what Parse begins with. -/
def st0 (next : Int) (l : List Int) (met : Bool) : St := ⟨next, l, [], met, false, 0, 0, false⟩
end Go.Proofs.Ytmnkdogdligckaa
