/- Texts joined: Ip4M Ip6M -/
import Derived.Test.YtbghilihccaaaaaTwz4
namespace Go.Proofs.Ytbghilihccaaaaa
set_option linter.unusedVariables false
set_option linter.unusedSimpArgs false
structure Pk where
  fam : Int
  src : Ad
  dst : Ad
  proto : Int
  hop : Int
  frag : Bool
  id : Int
  off : Int
  more : Bool
  data : List Int
def Pk.none : Pk := ⟨0, ⟨0, 0, 0⟩, ⟨0, 0, 0⟩, 0, 0, false, 0, 0, false, []⟩
/-- A header's options: 0, or the error at the first one that may not be. -/
def optsGo : Nat → List Int → Int
  | 0, _ => 0
  | _ + 1, [] => 0
  | n + 1, x :: r => if x = 0 then 0 else if x = 1 then optsGo n r else if x = 131 ∨ x = 137 then 8
      else if r.length < 1 ∨ r.getD 0 0 < 2 ∨ r.getD 0 0 > r.length + 1 then 7 else optsGo n ((x :: r).drop (r.getD 0 0).toNat)
theorem optsGo_fuel : ∀ (n m : Nat) (b : List Int), b.length ≤ n → b.length ≤ m → optsGo n b = optsGo m b
  | 0, m, b, h, _ => by
    have : b = [] := List.length_eq_zero_iff.1 (by omega)
    subst this
    cases m <;> rfl
  | n + 1, 0, b, _, h => by
    have : b = [] := List.length_eq_zero_iff.1 (by omega)
    subst this
    rfl
  | n + 1, m + 1, [], _, _ => rfl
  | n + 1, m + 1, x :: r, h, h' => by
    simp only [List.length_cons] at h h'
    simp only [optsGo]
    split
    · rfl
    · split
      · exact optsGo_fuel n m r (by omega) (by omega)
      · split
        · rfl
        · split
          · rfl
          · next hh =>
            have h2 : 2 ≤ r.getD 0 0 := by omega
            exact optsGo_fuel n m _ (by rw [List.length_drop, List.length_cons]; omega) (by rw [List.length_drop, List.length_cons]; omega)
def opts (b : List Int) : Int := optsGo b.length b
theorem opts_nil : opts [] = 0 := rfl
theorem opts_end (r : List Int) : opts (0 :: r) = 0 := by simp [opts, optsGo]
theorem opts_one (r : List Int) : opts (1 :: r) = opts r := by simp [opts, optsGo]
theorem opts_route (x : Int) (r : List Int) (h : x = 131 ∨ x = 137) : opts (x :: r) = 8 := by
  have h0 : x ≠ 0 := by omega
  have h1 : x ≠ 1 := by omega
  simp [opts, optsGo, h, h0, h1]
theorem opts_bad (x : Int) (r : List Int) (h0 : x ≠ 0) (h1 : x ≠ 1) (h : ¬ (x = 131 ∨ x = 137)) (hb : r.length < 1 ∨ r.getD 0 0 < 2 ∨ r.getD 0 0 > r.length + 1) : opts (x :: r) = 7 := by
  simp only [opts, optsGo, List.length_cons, if_neg h0, if_neg h1, if_neg h, if_pos hb]
theorem opts_next (x : Int) (r : List Int) (h0 : x ≠ 0) (h1 : x ≠ 1) (h : ¬ (x = 131 ∨ x = 137)) (hb : ¬ (r.length < 1 ∨ r.getD 0 0 < 2 ∨ r.getD 0 0 > r.length + 1)) : opts (x :: r) = opts ((x :: r).drop (r.getD 0 0).toNat) := by
  simp only [opts, optsGo, List.length_cons, if_neg h0, if_neg h1, if_neg h, if_neg hb]
  exact optsGo_fuel _ _ _ (by rw [List.length_drop, List.length_cons]; omega) (Nat.le_refl _)
theorem optsGo_vals : ∀ (n : Nat) (b : List Int), optsGo n b = 0 ∨ optsGo n b = 7 ∨ optsGo n b = 8
  | 0, _ => .inl rfl
  | _ + 1, [] => .inl rfl
  | n + 1, x :: r => by
    simp only [optsGo]
    repeat' split
    all_goals first | exact .inl rfl | exact .inr (.inl rfl) | exact .inr (.inr rfl) | exact optsGo_vals n _
def hd (b : List Int) : Int := b.getD 0 0 % 16 * 4
def sz (b : List Int) : Int := u16 b 2
def pl (b : List Int) : Int := u16 b 6
def mr (b : List Int) : Bool := decide (pl b / 8192 % 2 = 1)
def ofs (b : List Int) : Int := pl b % 8192 * 8
def fr (b : List Int) : Bool := mr b || decide (ofs b ≠ 0)
/-- The first error of bytes, or 0. -/
def perr (b : List Int) : Int :=
  if b.length < 20 then 2
  else if b.getD 0 0 / 16 ≠ 4 then 3
  else if hd b < 20 ∨ hd b > b.length then 4
  else if sz b < hd b ∨ sz b > b.length then 5
  else if M.sumOf [b.take (hd b).toNat] ≠ 65535 then 6
  else if b.getD 8 0 = 0 then 26
  else if pl b / 32768 % 2 ≠ 0 then 10
  else if opts ((b.take (hd b).toNat).drop 20) ≠ 0 then opts ((b.take (hd b).toNat).drop 20)
  else if mr b = true ∧ (sz b - hd b) % 8 ≠ 0 then 5
  else if ofs b + (sz b - hd b) > 65515 then 11 else 0
structure Reads (b : List Int) : Prop where
  long : 20 ≤ b.length
  ver : b.getD 0 0 / 16 = 4
  head0 : 20 ≤ hd b
  head1 : hd b ≤ b.length
  len0 : hd b ≤ sz b
  len1 : sz b ≤ b.length
  sum : M.sumOf [b.take (hd b).toNat] = 65535
  hop : b.getD 8 0 ≠ 0
  flag : pl b / 32768 % 2 = 0
  opt : opts ((b.take (hd b).toNat).drop 20) = 0
  mult : mr b = true → (sz b - hd b) % 8 = 0
  over : ofs b + (sz b - hd b) ≤ 65515
theorem perr_zero {b : List Int} : perr b = 0 ↔ Reads b := by
  constructor
  · intro h
    unfold perr at h
    split at h
    · omega
    split at h
    · omega
    split at h
    · omega
    split at h
    · omega
    split at h
    · omega
    split at h
    · omega
    split at h
    · omega
    split at h
    · next h8 => exact absurd h h8
    split at h
    · omega
    split at h
    · omega
    · next h1 h2 h3 h4 h5 h6 h7 h8 h9 h10 =>
      exact ⟨by omega, by omega, by omega, by omega, by omega, by omega, by simpa using h5, h6, by omega, by simpa using h8, fun hm => by
        have := not_and.1 h9 hm
        omega, by omega⟩
  · rintro ⟨h1, h2, h3, h4, h5, h6, h7, h8, h9, h10, h11, h12⟩
    unfold perr
    rw [if_neg (by omega), if_neg (by omega), if_neg (by omega), if_neg (by omega), if_neg (by simpa using h7), if_neg h8, if_neg (by omega), if_neg (by simpa using h10), if_neg (fun h => h.2 (h11 h.1)), if_neg (by omega)]
def pkt (b : List Int) : Pk :=
  ⟨4, (fromB (part b 12 4)).1, (fromB (part b 16 4)).1, b.getD 9 0, b.getD 8 0, fr b, if fr b then u16 b 4 else 0, ofs b, mr b, part b (hd b) (sz b - hd b)⟩
def parsed (b : List Int) : Pk := if perr b = 0 then pkt b else Pk.none
/-- A packet without Id, Off and More, unless it is a fragment. -/
def Pk.bare (p : Pk) : Pk := if p.frag then p else { p with id := 0, off := 0, more := false }
def Ad.four (a : Ad) : Bool := (a.fam == 4) && a.right
def Pk.mayHead (p : Pk) (exts : Nat) : Bool :=
  (p.fam == 4) && (p.src.four && (p.dst.four && ((exts == 0) && (decide (0 ≤ p.proto) && (decide (p.proto ≤ 255) && (decide (1 ≤ p.hop) && decide (p.hop ≤ 255)))))))
def Pk.mayPlace (p : Pk) : Bool :=
  decide (p.id ≤ 65535) && (decide (0 ≤ p.off) && (decide (p.off % 8 = 0) && (decide (p.off ≤ 65515 - p.data.length) && ((!p.frag || (p.more || decide (p.off ≠ 0))) && (!p.more || decide ((p.data.length : Int) % 8 = 0))))))
structure Pk.ok (p : Pk) : Prop where
  fam : -9223372036854775808 ≤ p.fam ∧ p.fam ≤ 9223372036854775807
  src : p.src.ok
  dst : p.dst.ok
  proto : -9223372036854775808 ≤ p.proto ∧ p.proto ≤ 9223372036854775807
  hop : -9223372036854775808 ≤ p.hop ∧ p.hop ≤ 9223372036854775807
  id : 0 ≤ p.id ∧ p.id ≤ 4294967295
  off : -9223372036854775808 ≤ p.off ∧ p.off ≤ 9223372036854775807
  data : M.Bytes p.data
  len : p.data.length ≤ 140737488351232
def Pk.may (p : Pk) (exts : Nat) : Bool := p.mayHead exts && p.mayPlace
def Pk.place (p : Pk) : Int := p.off / 8 + (if p.more then 8192 else 0)
def Pk.front (p : Pk) : List Int :=
  [69, 0] ++ [(20 + (p.data.length : Int)) / 256 % 256, (20 + (p.data.length : Int)) % 256] ++ [p.id / 256 % 256, p.id % 256] ++ [p.place / 256 % 256, p.place % 256] ++ [p.hop, p.proto]
def Pk.chk (p : Pk) : Int := 65535 - M.sumOf [p.front, p.src.bytes, p.dst.bytes]
def Pk.hdr (p : Pk) : List Int := p.front ++ [p.chk / 256 % 256, p.chk % 256] ++ p.src.bytes ++ p.dst.bytes
def Pk.made (p : Pk) : List Int := p.hdr ++ p.data
structure May (p : Pk) : Prop where
  fam : p.fam = 4
  sf : p.src.fam = 4
  sr : p.src.right = true
  df : p.dst.fam = 4
  dr : p.dst.right = true
  proto : 0 ≤ p.proto ∧ p.proto ≤ 255
  hop : 1 ≤ p.hop ∧ p.hop ≤ 255
  id : p.id ≤ 65535
  off0 : 0 ≤ p.off
  off8 : p.off % 8 = 0
  over : p.off ≤ 65515 - p.data.length
  kind : p.frag = true → p.more = true ∨ p.off ≠ 0
  mult : p.more = true → (p.data.length : Int) % 8 = 0
theorem may_iff {p : Pk} {x : Nat} : p.may x = true ↔ May p ∧ x = 0 := by
  constructor
  · intro h
    simp only [Pk.may, Pk.mayHead, Pk.mayPlace, Ad.four, Bool.and_eq_true, Bool.or_eq_true, decide_eq_true_eq, beq_iff_eq, Bool.not_eq_true'] at h
    obtain ⟨⟨h1, ⟨h2, h3⟩, ⟨h4, h5⟩, h6, h7, h8, h9, h10⟩, g1, g2, g3, g4, g5, g6⟩ := h
    exact ⟨⟨h1, h2, h3, h4, h5, ⟨h7, h8⟩, ⟨h9, h10⟩, g1, g2, g3, g4, fun h => by rcases g5 with g | g
                                                                                 · rw [h] at g; cases g
                                                                                 · exact g, fun h => by rcases g6 with g | g
                                                                                                        · rw [h] at g; cases g
                                                                                                        · exact g⟩, h6⟩
  · rintro ⟨⟨h1, h2, h3, h4, h5, h7, h9, g1, g2, g3, g4, g5, g6⟩, h6⟩
    simp only [Pk.may, Pk.mayHead, Pk.mayPlace, Ad.four, Bool.and_eq_true, Bool.or_eq_true, decide_eq_true_eq, beq_iff_eq, Bool.not_eq_true']
    refine ⟨⟨h1, ⟨h2, h3⟩, ⟨h4, h5⟩, h6, h7.1, h7.2, h9.1, h9.2⟩, g1, g2, g3, g4, ?_, ?_⟩
    · cases hf : p.frag
      · exact .inl rfl
      · exact .inr (g5 hf)
    · cases hf : p.more
      · exact .inl rfl
      · exact .inr (g6 hf)
theorem May.bare {p : Pk} (h : May p) : May p.bare := by
  unfold Pk.bare
  split
  · exact h
  · next hf => exact ⟨h.fam, h.sf, h.sr, h.df, h.dr, h.proto, h.hop, by show (0 : Int) ≤ 65535; omega, by show (0 : Int) ≤ 0; omega, rfl, by show (0 : Int) ≤ 65515 - p.data.length; have := h.over; have := h.off0; omega, fun h' => absurd h' hf, fun h' => by cases h'⟩
theorem ok_bare {p : Pk} (h : p.ok) : p.bare.ok := by
  unfold Pk.bare
  split
  · exact h
  · exact ⟨h.fam, h.src, h.dst, h.proto, h.hop, by show (0 : Int) ≤ 0 ∧ (0 : Int) ≤ 4294967295; omega, by show (-9223372036854775808 : Int) ≤ 0 ∧ (0 : Int) ≤ 9223372036854775807; omega, h.data, h.len⟩
/-- An extension header's options: 0, or 7 at the first one that may not be. -/
def opt6Go : Nat → List Int → Int
  | 0, _ => 0
  | _ + 1, [] => 0
  | n + 1, x :: r => if x = 0 then opt6Go n r else if x / 64 ≠ 0 ∨ r.length < 1 ∨ r.getD 0 0 > (r.length : Int) - 1 then 7 else opt6Go n (r.drop (1 + (r.getD 0 0).toNat))
theorem opt6Go_fuel : ∀ (n m : Nat) (b : List Int), b.length ≤ n → b.length ≤ m → opt6Go n b = opt6Go m b
  | 0, m, b, h, _ => by
    have : b = [] := List.length_eq_zero_iff.1 (by omega)
    subst this
    cases m <;> rfl
  | n + 1, 0, b, _, h => by
    have : b = [] := List.length_eq_zero_iff.1 (by omega)
    subst this
    rfl
  | n + 1, m + 1, [], _, _ => rfl
  | n + 1, m + 1, x :: r, h, h' => by
    simp only [List.length_cons] at h h'
    simp only [opt6Go]
    split
    · exact opt6Go_fuel n m r (by omega) (by omega)
    · split
      · rfl
      · exact opt6Go_fuel n m _ (by rw [List.length_drop]; omega) (by rw [List.length_drop]; omega)
def opt6 (b : List Int) : Int := opt6Go b.length b
theorem opt6_nil : opt6 [] = 0 := rfl
theorem opt6_zero (r : List Int) : opt6 (0 :: r) = opt6 r := by simp [opt6, opt6Go]
theorem opt6_bad (x : Int) (r : List Int) (h0 : x ≠ 0) (hb : x / 64 ≠ 0 ∨ r.length < 1 ∨ r.getD 0 0 > (r.length : Int) - 1) : opt6 (x :: r) = 7 := by
  simp only [opt6, opt6Go, List.length_cons, if_neg h0, if_pos hb]
theorem opt6_next (x : Int) (r : List Int) (h0 : x ≠ 0) (hb : ¬ (x / 64 ≠ 0 ∨ r.length < 1 ∨ r.getD 0 0 > (r.length : Int) - 1)) : opt6 (x :: r) = opt6 (r.drop (1 + (r.getD 0 0).toNat)) := by
  simp only [opt6, opt6Go, List.length_cons, if_neg h0, if_neg hb]
  exact opt6Go_fuel _ _ _ (by rw [List.length_drop]; omega) (Nat.le_refl _)
/-- How far extension headers were gone over. -/
structure St where
  next : Int
  l : List Int
  ex : List Int
  met : Bool
  cut : Bool
  id : Int
  off : Int
  more : Bool
def hsz (k : Int) (b : List Int) : Nat := if k = 44 ∨ b.length < 2 then 8 else ((b.getD 1 0).toNat + 1) * 8
theorem hsz_pos (k : Int) (b : List Int) : 8 ≤ hsz k b := by unfold hsz; split <;> omega
def isExt (n : Int) : Bool := decide (n = 0 ∨ n = 43 ∨ n = 44 ∨ n = 60)
/-- What is wrong with the header at hand, whose bytes are there. -/
def lerr (s : St) : Int :=
  if s.next = 0 then (if s.met = true ∨ 0 < s.ex.length then 7 else opt6 ((s.l.take (hsz s.next s.l)).drop 2))
  else if s.next = 43 then (if s.l.getD 3 0 ≠ 0 ∨ s.l.getD 2 0 = 0 then 8 else 0)
  else if s.next = 44 then (if s.met = true then 7 else 0)
  else opt6 ((s.l.take (hsz s.next s.l)).drop 2)
def werr (s : St) : Int := if s.ex.length = 8 then 17 else if s.l.length < hsz s.next s.l then 4 else lerr s
/-- A fragment's numbers. -/
def frg (s : St) : St := { s with met := true, id := u32 s.l 4, off := u16 s.l 2 / 8 * 8, more := decide (u16 s.l 2 % 2 = 1), cut := decide (u16 s.l 2 / 8 * 8 ≠ 0) || decide (u16 s.l 2 % 2 = 1) }
def took (s : St) : St := if s.next = 44 then frg s else s
def stepd (s : St) (n : Nat) : St := { s with next := s.l.getD 0 0, l := s.l.drop n, ex := s.ex ++ [s.next] }
def after (s : St) : St := stepd (took s) (hsz s.next s.l)
def over (s : St) : Bool := s.cut || !isExt s.next
def wgo : Nat → St → Int × St
  | 0, s => (0, s)
  | n + 1, s => if over s = true then (0, s) else if werr s ≠ 0 then (werr s, s) else wgo n (after s)
def wend (s : St) : Int × St := wgo (9 - s.ex.length) s
theorem took_next (s : St) : (took s).next = s.next := by unfold took; split <;> rfl
theorem took_l (s : St) : (took s).l = s.l := by unfold took; split <;> rfl
theorem took_ex (s : St) : (took s).ex = s.ex := by unfold took; split <;> rfl
theorem after_next (s : St) : (after s).next = s.l.getD 0 0 := by simp [after, stepd, took_l]
theorem after_l (s : St) : (after s).l = s.l.drop (hsz s.next s.l) := by simp [after, stepd, took_l]
theorem after_ex (s : St) : (after s).ex = s.ex ++ [s.next] := by simp [after, stepd, took_ex, took_next]
theorem wend_over (s : St) (h8 : s.ex.length ≤ 8) (h : over s = true) : wend s = (0, s) := by
  obtain ⟨n, hn⟩ : ∃ n, 9 - s.ex.length = n + 1 := ⟨8 - s.ex.length, by omega⟩
  simp [wend, hn, wgo, h]
theorem wend_err (s : St) (h8 : s.ex.length ≤ 8) (h : over s = false) (he : werr s ≠ 0) : wend s = (werr s, s) := by
  obtain ⟨n, hn⟩ : ∃ n, 9 - s.ex.length = n + 1 := ⟨8 - s.ex.length, by omega⟩
  simp [wend, hn, wgo, h, he]
theorem wend_next (s : St) (h8 : s.ex.length ≤ 8) (h : over s = false) (he : werr s = 0) : wend s = wend (after s) := by
  obtain ⟨n, hn⟩ : ∃ n, 9 - s.ex.length = n + 1 := ⟨8 - s.ex.length, by omega⟩
  have h2 : 9 - (after s).ex.length = n := by rw [after_ex]; simp; omega
  simp [wend, hn, h2, wgo, h, he]
/-- What Walk begins with, and what Parse begins with. -/
def st0 (next : Int) (l : List Int) (met : Bool) : St := ⟨next, l, [], met, false, 0, 0, false⟩
def least (n : Int) : Int := if n = 6 then 20 else if n = 17 ∨ n = 1 ∨ n = 58 then 8 else 0
/-- Are all headers of a datagram there? -/
def whole (proto : Int) (data : List Int) : Bool := decide ((wend (st0 proto data true)).1 = 0) && decide (least (wend (st0 proto data true)).2.next ≤ ((wend (st0 proto data true)).2.l.length : Int))
end Go.Proofs.Ytbghilihccaaaaa
