/- Texts joined: Ip6M Ip4T -/
import Derived.Test.YtebdpiedgjdjeaaFgw6
namespace Go.Proofs.Ytebdpiedgjdjeaa
set_option linter.unusedVariables false
set_option linter.unusedSimpArgs false
/-- An extension header's options: 0, or 7 at the first one that may not be. -/
def opt6Go : Nat → List Int → Int
  | 0, _ => 0
  | _ + 1, [] => 0
  | n + 1, x :: r => if x = 0 then opt6Go n r else if x / 64 ≠ 0 ∨ r.length < 1 ∨ r.getD 0 0 > (r.length : Int) - 1 then 7 else opt6Go n (r.drop (1 + (r.getD 0 0).toNat))
def opt6 (b : List Int) : Int := opt6Go b.length b
/-- How far extension headers were gone over. -/
structure St where
  next : Int
  l : List Int
  ex : List Int
  met : Bool
  cut : Bool
  id : Int
  off : Int
  more : Bool
def hsz (k : Int) (b : List Int) : Nat := if k = 44 ∨ b.length < 2 then 8 else ((b.getD 1 0).toNat + 1) * 8
def isExt (n : Int) : Bool := decide (n = 0 ∨ n = 43 ∨ n = 44 ∨ n = 60)
/-- What is wrong with the header at hand, whose bytes are there. -/
def lerr (s : St) : Int :=
  if s.next = 0 then (if s.met = true ∨ 0 < s.ex.length then 7 else opt6 ((s.l.take (hsz s.next s.l)).drop 2))
  else if s.next = 43 then (if s.l.getD 3 0 ≠ 0 ∨ s.l.getD 2 0 = 0 then 8 else 0)
  else if s.next = 44 then (if s.met = true then 7 else 0)
  else opt6 ((s.l.take (hsz s.next s.l)).drop 2)
def werr (s : St) : Int := if s.ex.length = 8 then 17 else if s.l.length < hsz s.next s.l then 4 else lerr s
/-- A fragment's numbers. -/
def frg (s : St) : St := { s with met := true, id := u32 s.l 4, off := u16 s.l 2 / 8 * 8, more := decide (u16 s.l 2 % 2 = 1), cut := decide (u16 s.l 2 / 8 * 8 ≠ 0) || decide (u16 s.l 2 % 2 = 1) }
def took (s : St) : St := if s.next = 44 then frg s else s
def stepd (s : St) (n : Nat) : St := { s with next := s.l.getD 0 0, l := s.l.drop n, ex := s.ex ++ [s.next] }
def after (s : St) : St := stepd (took s) (hsz s.next s.l)
def over (s : St) : Bool := s.cut || !isExt s.next
def wgo : Nat → St → Int × St
  | 0, s => (0, s)
  | n + 1, s => if over s = true then (0, s) else if werr s ≠ 0 then (werr s, s) else wgo n (after s)
def wend (s : St) : Int × St := wgo (9 - s.ex.length) s
/-- What Walk begins with, and what Parse begins with. -/
def st0 (next : Int) (l : List Int) (met : Bool) : St := ⟨next, l, [], met, false, 0, 0, false⟩
def least (n : Int) : Int := if n = 6 then 20 else if n = 17 ∨ n = 1 ∨ n = 58 then 8 else 0
/-- Are all headers of a datagram there? -/
def whole (proto : Int) (data : List Int) : Bool := decide ((wend (st0 proto data true)).1 = 0) && decide (least (wend (st0 proto data true)).2.next ≤ ((wend (st0 proto data true)).2.l.length : Int))
theorem getD_left (l m : List Int) (i : Nat) (h : i < l.length) : (l ++ m).getD i 0 = l.getD i 0 := by
  simp only [List.getD_eq_getElem?_getD, List.getElem?_append_left h]
/-- The first twenty bytes are alike. -/
def Alike (b c : List Int) : Prop := ∀ i, i < 20 → b.getD i 0 = c.getD i 0
theorem alike_hd {b c : List Int} (h : Alike b c) : hd b = hd c := by unfold hd; rw [h 0 (by omega)]
theorem alike_sz {b c : List Int} (h : Alike b c) : sz b = sz c := by
  show 256 * b.getD 2 0 + b.getD 3 0 = 256 * c.getD 2 0 + c.getD 3 0
  rw [h 2 (by omega), h 3 (by omega)]
theorem alike_pl {b c : List Int} (h : Alike b c) : pl b = pl c := by
  show 256 * b.getD 6 0 + b.getD 7 0 = 256 * c.getD 6 0 + c.getD 7 0
  rw [h 6 (by omega), h 7 (by omega)]
theorem take_app {b m : List Int} {k : Nat} (h : k ≤ b.length) : (b ++ m).take k = b.take k := by
  rw [List.take_append_of_le_length h]
theorem part_app {b m : List Int} {x n : Int} (hx : 0 ≤ x) (hn : 0 ≤ n) (h : x + n ≤ b.length) : part (b ++ m) x n = part b x n := by
  unfold part
  rw [List.drop_append_of_le_length (by omega), List.take_append_of_le_length (by rw [List.length_drop]; omega)]
theorem alike_app {b : List Int} (m : List Int) (h : 20 ≤ b.length) : Alike (b ++ m) b := fun i hi => getD_left b m i (by omega)
/-- What stands behind turns nothing. -/
theorem behind {b : List Int} (m : List Int) (h : perr b = 0) : perr (b ++ m) = 0 ∧ pkt (b ++ m) = pkt b := by
  obtain ⟨h1, h2, h3, h4, h5, h6, h7, h8, h9, h10, h11, h12⟩ := perr_zero.1 h
  have al := alike_app m h1
  have e1 := alike_hd al
  have e2 := alike_sz al
  have e3 := alike_pl al
  have e4 : mr (b ++ m) = mr b := by unfold mr; rw [e3]
  have e5 : ofs (b ++ m) = ofs b := by unfold ofs; rw [e3]
  have e6 : (b ++ m).take (hd b).toNat = b.take (hd b).toNat := take_app (by omega)
  refine ⟨perr_zero.2 ⟨by rw [List.length_append]; omega, by rw [al 0 (by omega)]; exact h2, by rw [e1]; exact h3, by rw [e1, List.length_append]; omega, by rw [e1, e2]; exact h5, by rw [e2, List.length_append]; omega, by rw [e1, e6]; exact h7, by rw [al 8 (by omega)]; exact h8, by rw [e3]; exact h9, by rw [e1, e6]; exact h10, by rw [e1, e2, e4]; exact h11, by rw [e1, e2, e5]; exact h12⟩, ?_⟩
  have e7 : fr (b ++ m) = fr b := by unfold fr; rw [e4, e5]
  have e8 : u16 (b ++ m) 4 = u16 b 4 := by
    show 256 * (b ++ m).getD 4 0 + (b ++ m).getD 5 0 = 256 * b.getD 4 0 + b.getD 5 0
    rw [al 4 (by omega), al 5 (by omega)]
  unfold pkt
  rw [part_app (by omega) (by omega) (by omega), part_app (by omega) (by omega) (by omega), al 9 (by omega), al 8 (by omega), e7, e8, e5, e4, e1, e2, part_app (by omega) (by omega) (by omega)]
end Go.Proofs.Ytebdpiedgjdjeaa
