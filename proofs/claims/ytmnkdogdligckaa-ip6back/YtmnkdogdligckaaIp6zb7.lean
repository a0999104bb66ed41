/- Texts joined: Ip4M Ip4A Ip4B Ip4T Room -/
import Derived.Test.YtmnkdogdligckaaIp6zb6
import Derived.Laws.MakeOwn
namespace Go.Proofs.Ytmnkdogdligckaa
set_option linter.unusedVariables false
set_option linter.unusedSimpArgs false
structure Pk where
  fam : Int
  src : Ad
  dst : Ad
  proto : Int
  hop : Int
  frag : Bool
  id : Int
  off : Int
  more : Bool
  data : List Int
def Pk.none : Pk := ⟨0, ⟨0, 0, 0⟩, ⟨0, 0, 0⟩, 0, 0, false, 0, 0, false, []⟩
/-- A header's options: 0, or the error at the first one that may not be. -/
def optsGo : Nat → List Int → Int
  | 0, _ => 0
  | _ + 1, [] => 0
  | n + 1, x :: r => if x = 0 then 0 else if x = 1 then optsGo n r else if x = 131 ∨ x = 137 then 8
      else if r.length < 1 ∨ r.getD 0 0 < 2 ∨ r.getD 0 0 > r.length + 1 then 7 else optsGo n ((x :: r).drop (r.getD 0 0).toNat)
def opts (b : List Int) : Int := optsGo b.length b
def hd (b : List Int) : Int := b.getD 0 0 % 16 * 4
def sz (b : List Int) : Int := u16 b 2
def pl (b : List Int) : Int := u16 b 6
def mr (b : List Int) : Bool := decide (pl b / 8192 % 2 = 1)
def ofs (b : List Int) : Int := pl b % 8192 * 8
def fr (b : List Int) : Bool := mr b || decide (ofs b ≠ 0)
/-- The first error of bytes, or 0. -/
def perr (b : List Int) : Int :=
  if b.length < 20 then 2
  else if b.getD 0 0 / 16 ≠ 4 then 3
  else if hd b < 20 ∨ hd b > b.length then 4
  else if sz b < hd b ∨ sz b > b.length then 5
  else if M.sumOf [b.take (hd b).toNat] ≠ 65535 then 6
  else if b.getD 8 0 = 0 then 26
  else if pl b / 32768 % 2 ≠ 0 then 10
  else if opts ((b.take (hd b).toNat).drop 20) ≠ 0 then opts ((b.take (hd b).toNat).drop 20)
  else if mr b = true ∧ (sz b - hd b) % 8 ≠ 0 then 5
  else if ofs b + (sz b - hd b) > 65515 then 11 else 0
structure Reads (b : List Int) : Prop where
  long : 20 ≤ b.length
  ver : b.getD 0 0 / 16 = 4
  head0 : 20 ≤ hd b
  head1 : hd b ≤ b.length
  len0 : hd b ≤ sz b
  len1 : sz b ≤ b.length
  sum : M.sumOf [b.take (hd b).toNat] = 65535
  hop : b.getD 8 0 ≠ 0
  flag : pl b / 32768 % 2 = 0
  opt : opts ((b.take (hd b).toNat).drop 20) = 0
  mult : mr b = true → (sz b - hd b) % 8 = 0
  over : ofs b + (sz b - hd b) ≤ 65515
theorem perr_zero {b : List Int} : perr b = 0 ↔ Reads b := by
  constructor
  · intro h
    unfold perr at h
    split at h
    · omega
    split at h
    · omega
    split at h
    · omega
    split at h
    · omega
    split at h
    · omega
    split at h
    · omega
    split at h
    · omega
    split at h
    · next h8 => exact absurd h h8
    split at h
    · omega
    split at h
    · omega
    · next h1 h2 h3 h4 h5 h6 h7 h8 h9 h10 =>
      exact ⟨by omega, by omega, by omega, by omega, by omega, by omega, by simpa using h5, h6, by omega, by simpa using h8, fun hm => by
        have := not_and.1 h9 hm
        omega, by omega⟩
  · rintro ⟨h1, h2, h3, h4, h5, h6, h7, h8, h9, h10, h11, h12⟩
    unfold perr
    rw [if_neg (by omega), if_neg (by omega), if_neg (by omega), if_neg (by omega), if_neg (by simpa using h7), if_neg h8, if_neg (by omega), if_neg (by simpa using h10), if_neg (fun h => h.2 (h11 h.1)), if_neg (by omega)]
def pkt (b : List Int) : Pk :=
  ⟨4, (fromB (part b 12 4)).1, (fromB (part b 16 4)).1, b.getD 9 0, b.getD 8 0, fr b, if fr b then u16 b 4 else 0, ofs b, mr b, part b (hd b) (sz b - hd b)⟩
/-- A packet without Id, Off and More, unless it is a fragment. -/
def Pk.bare (p : Pk) : Pk := if p.frag then p else { p with id := 0, off := 0, more := false }
def Ad.four (a : Ad) : Bool := (a.fam == 4) && a.right
def Pk.mayHead (p : Pk) (exts : Nat) : Bool :=
  (p.fam == 4) && (p.src.four && (p.dst.four && ((exts == 0) && (decide (0 ≤ p.proto) && (decide (p.proto ≤ 255) && (decide (1 ≤ p.hop) && decide (p.hop ≤ 255)))))))
def Pk.mayPlace (p : Pk) : Bool :=
  decide (p.id ≤ 65535) && (decide (0 ≤ p.off) && (decide (p.off % 8 = 0) && (decide (p.off ≤ 65515 - p.data.length) && ((!p.frag || (p.more || decide (p.off ≠ 0))) && (!p.more || decide ((p.data.length : Int) % 8 = 0))))))
structure Pk.ok (p : Pk) : Prop where
  fam : -9223372036854775808 ≤ p.fam ∧ p.fam ≤ 9223372036854775807
  src : p.src.ok
  dst : p.dst.ok
  proto : -9223372036854775808 ≤ p.proto ∧ p.proto ≤ 9223372036854775807
  hop : -9223372036854775808 ≤ p.hop ∧ p.hop ≤ 9223372036854775807
  id : 0 ≤ p.id ∧ p.id ≤ 4294967295
  off : -9223372036854775808 ≤ p.off ∧ p.off ≤ 9223372036854775807
  data : M.Bytes p.data
  len : p.data.length ≤ 140737488351232
def Pk.may (p : Pk) (exts : Nat) : Bool := p.mayHead exts && p.mayPlace
def Pk.place (p : Pk) : Int := p.off / 8 + (if p.more then 8192 else 0)
def Pk.front (p : Pk) : List Int :=
  [69, 0] ++ [(20 + (p.data.length : Int)) / 256 % 256, (20 + (p.data.length : Int)) % 256] ++ [p.id / 256 % 256, p.id % 256] ++ [p.place / 256 % 256, p.place % 256] ++ [p.hop, p.proto]
def Pk.chk (p : Pk) : Int := 65535 - M.sumOf [p.front, p.src.bytes, p.dst.bytes]
def Pk.hdr (p : Pk) : List Int := p.front ++ [p.chk / 256 % 256, p.chk % 256] ++ p.src.bytes ++ p.dst.bytes
def Pk.made (p : Pk) : List Int := p.hdr ++ p.data
def Pk.built (p : Pk) (exts : Nat) : List Int := if p.may exts then p.bare.made else []
structure May (p : Pk) : Prop where
  fam : p.fam = 4
  sf : p.src.fam = 4
  sr : p.src.right = true
  df : p.dst.fam = 4
  dr : p.dst.right = true
  proto : 0 ≤ p.proto ∧ p.proto ≤ 255
  hop : 1 ≤ p.hop ∧ p.hop ≤ 255
  id : p.id ≤ 65535
  off0 : 0 ≤ p.off
  off8 : p.off % 8 = 0
  over : p.off ≤ 65515 - p.data.length
  kind : p.frag = true → p.more = true ∨ p.off ≠ 0
  mult : p.more = true → (p.data.length : Int) % 8 = 0
end Go.Proofs.Ytmnkdogdligckaa
namespace Go.Proofs.Ytmnkdogdligckaa
open Go.RowKit
set_option linter.unusedVariables false
set_option linter.unusedSimpArgs false
def sliceLen : Value → Nat
  | .slice _ n _ => n
  | _ => 0
theorem sliceLen_slice (a : Option Addr) (n c : Nat) : sliceLen (.slice a n c) = n := rfl
end Go.Proofs.Ytmnkdogdligckaa
namespace Go.Proofs.Ytmnkdogdligckaa
open Go.RowKit
theorem nat_and_pow (x i : Nat) : x &&& 2 ^ i = x / 2 ^ i % 2 * 2 ^ i := by
  have e : x / 2 ^ i % 2 = (x.testBit i).toNat := by
    rw [Nat.testBit_eq_decide_div_mod_eq]
    have := Nat.mod_two_eq_zero_or_one (x / 2 ^ i)
    rcases this with h | h <;> simp [h]
  apply Nat.eq_of_testBit_eq
  intro j
  rw [Nat.testBit_and, Nat.testBit_two_pow, e]
  by_cases hj : i = j
  · subst hj
    cases x.testBit i <;> simp
  · cases hx : x.testBit i <;> simp [hj]
theorem i64_and_pow (x : Nat) (i : Nat) (hi : i < 62) (hx : x < 9223372036854775808) : bits .and .i64 (x : Int) (2 ^ i) = ((x / 2 ^ i % 2 * 2 ^ i : Nat) : Int) := by
  show IntKind.i64.wrap ((BitVec.ofInt 64 x &&& BitVec.ofInt 64 (2 ^ i)).toNat : Int) = _
  have h1 : (BitVec.ofInt 64 (x : Int)).toNat = x := by rw [BitVec.toNat_ofInt]; omega
  have hp : 2 ^ i < 2 ^ 62 := Nat.pow_lt_pow_right (by decide) hi
  have h2 : (BitVec.ofInt 64 ((2 : Int) ^ i)).toNat = 2 ^ i := by
    rw [BitVec.toNat_ofInt, show ((2 : Int) ^ i) = ((2 ^ i : Nat) : Int) by simp]
    generalize 2 ^ i = q at hp
    omega
  rw [BitVec.toNat_and, h1, h2, nat_and_pow, IntKind.wrap_i64]
  have h3 : x / 2 ^ i % 2 * 2 ^ i ≤ 2 ^ i := by
    have h4 := Nat.mod_lt (x / 2 ^ i) (by decide : 0 < 2)
    have h5 : x / 2 ^ i % 2 * 2 ^ i ≤ 1 * 2 ^ i := Nat.mul_le_mul_right _ (by omega)
    omega
  generalize x / 2 ^ i % 2 * 2 ^ i = y at h3
  generalize 2 ^ i = q at hp h3
  omega
end Go.Proofs.Ytmnkdogdligckaa
namespace Go.Proofs.Ytmnkdogdligckaa
set_option linter.unusedVariables false
set_option linter.unusedSimpArgs false
theorem getD_left (l m : List Int) (i : Nat) (h : i < l.length) : (l ++ m).getD i 0 = l.getD i 0 := by
  simp only [List.getD_eq_getElem?_getD, List.getElem?_append_left h]
/-- The first twenty bytes are alike. -/
def Alike (b c : List Int) : Prop := ∀ i, i < 20 → b.getD i 0 = c.getD i 0
theorem alike_hd {b c : List Int} (h : Alike b c) : hd b = hd c := by unfold hd; rw [h 0 (by omega)]
theorem alike_sz {b c : List Int} (h : Alike b c) : sz b = sz c := by
  show 256 * b.getD 2 0 + b.getD 3 0 = 256 * c.getD 2 0 + c.getD 3 0
  rw [h 2 (by omega), h 3 (by omega)]
theorem alike_pl {b c : List Int} (h : Alike b c) : pl b = pl c := by
  show 256 * b.getD 6 0 + b.getD 7 0 = 256 * c.getD 6 0 + c.getD 7 0
  rw [h 6 (by omega), h 7 (by omega)]
theorem take_app {b m : List Int} {k : Nat} (h : k ≤ b.length) : (b ++ m).take k = b.take k := by
  rw [List.take_append_of_le_length h]
theorem part_app {b m : List Int} {x n : Int} (hx : 0 ≤ x) (hn : 0 ≤ n) (h : x + n ≤ b.length) : part (b ++ m) x n = part b x n := by
  unfold part
  rw [List.drop_append_of_le_length (by omega), List.take_append_of_le_length (by rw [List.length_drop]; omega)]
theorem alike_app {b : List Int} (m : List Int) (h : 20 ≤ b.length) : Alike (b ++ m) b := fun i hi => getD_left b m i (by omega)
/-- What stands behind turns nothing. -/
theorem behind {b : List Int} (m : List Int) (h : perr b = 0) : perr (b ++ m) = 0 ∧ pkt (b ++ m) = pkt b := by
  obtain ⟨h1, h2, h3, h4, h5, h6, h7, h8, h9, h10, h11, h12⟩ := perr_zero.1 h
  have al := alike_app m h1
  have e1 := alike_hd al
  have e2 := alike_sz al
  have e3 := alike_pl al
  have e4 : mr (b ++ m) = mr b := by unfold mr; rw [e3]
  have e5 : ofs (b ++ m) = ofs b := by unfold ofs; rw [e3]
  have e6 : (b ++ m).take (hd b).toNat = b.take (hd b).toNat := take_app (by omega)
  refine ⟨perr_zero.2 ⟨by rw [List.length_append]; omega, by rw [al 0 (by omega)]; exact h2, by rw [e1]; exact h3, by rw [e1, List.length_append]; omega, by rw [e1, e2]; exact h5, by rw [e2, List.length_append]; omega, by rw [e1, e6]; exact h7, by rw [al 8 (by omega)]; exact h8, by rw [e3]; exact h9, by rw [e1, e6]; exact h10, by rw [e1, e2, e4]; exact h11, by rw [e1, e2, e5]; exact h12⟩, ?_⟩
  have e7 : fr (b ++ m) = fr b := by unfold fr; rw [e4, e5]
  have e8 : u16 (b ++ m) 4 = u16 b 4 := by
    show 256 * (b ++ m).getD 4 0 + (b ++ m).getD 5 0 = 256 * b.getD 4 0 + b.getD 5 0
    rw [al 4 (by omega), al 5 (by omega)]
  unfold pkt
  rw [part_app (by omega) (by omega) (by omega), part_app (by omega) (by omega) (by omega), al 9 (by omega), al 8 (by omega), e7, e8, e5, e4, e1, e2, part_app (by omega) (by omega) (by omega)]
end Go.Proofs.Ytmnkdogdligckaa
namespace Go.Proofs.Ytmnkdogdligckaa
open Go.RowKit
set_option linter.unusedVariables false
theorem Owns.other {w : World} {B : Nat} {v : Value} {l : List Int} (h : Owns w B v l) {ad : Addr} (ha : ad.block < B) (u : Value) : Owns (w.setCell ad u) B v l := ownsRow_setCell_below h ha u
theorem size_setCell (w : World) (a : Addr) (u : Value) : (w.setCell a u).heap.size = w.heap.size := by simp
end Go.Proofs.Ytmnkdogdligckaa
