/- Texts joined: Ip4M -/
import Derived.Test.YtebdpiedgjdjeaaFga4
namespace Go.Proofs.Ytebdpiedgjdjeaa
set_option linter.unusedVariables false
set_option linter.unusedSimpArgs false
structure Pk where
  fam : Int
  src : Ad
  dst : Ad
  proto : Int
  hop : Int
  frag : Bool
  id : Int
  off : Int
  more : Bool
  data : List Int
def Pk.none : Pk := ⟨0, ⟨0, 0, 0⟩, ⟨0, 0, 0⟩, 0, 0, false, 0, 0, false, []⟩
/-- A header's options: 0, or the error at the first one that may not be. -/
def optsGo : Nat → List Int → Int
  | 0, _ => 0
  | _ + 1, [] => 0
  | n + 1, x :: r => if x = 0 then 0 else if x = 1 then optsGo n r else if x = 131 ∨ x = 137 then 8
      else if r.length < 1 ∨ r.getD 0 0 < 2 ∨ r.getD 0 0 > r.length + 1 then 7 else optsGo n ((x :: r).drop (r.getD 0 0).toNat)
def opts (b : List Int) : Int := optsGo b.length b
def hd (b : List Int) : Int := b.getD 0 0 % 16 * 4
def sz (b : List Int) : Int := u16 b 2
def pl (b : List Int) : Int := u16 b 6
def mr (b : List Int) : Bool := decide (pl b / 8192 % 2 = 1)
def ofs (b : List Int) : Int := pl b % 8192 * 8
def fr (b : List Int) : Bool := mr b || decide (ofs b ≠ 0)
/-- The first error of bytes, or 0. -/
def perr (b : List Int) : Int :=
  if b.length < 20 then 2
  else if b.getD 0 0 / 16 ≠ 4 then 3
  else if hd b < 20 ∨ hd b > b.length then 4
  else if sz b < hd b ∨ sz b > b.length then 5
  else if M.sumOf [b.take (hd b).toNat] ≠ 65535 then 6
  else if b.getD 8 0 = 0 then 26
  else if pl b / 32768 % 2 ≠ 0 then 10
  else if opts ((b.take (hd b).toNat).drop 20) ≠ 0 then opts ((b.take (hd b).toNat).drop 20)
  else if mr b = true ∧ (sz b - hd b) % 8 ≠ 0 then 5
  else if ofs b + (sz b - hd b) > 65515 then 11 else 0
structure Reads (b : List Int) : Prop where
  long : 20 ≤ b.length
  ver : b.getD 0 0 / 16 = 4
  head0 : 20 ≤ hd b
  head1 : hd b ≤ b.length
  len0 : hd b ≤ sz b
  len1 : sz b ≤ b.length
  sum : M.sumOf [b.take (hd b).toNat] = 65535
  hop : b.getD 8 0 ≠ 0
  flag : pl b / 32768 % 2 = 0
  opt : opts ((b.take (hd b).toNat).drop 20) = 0
  mult : mr b = true → (sz b - hd b) % 8 = 0
  over : ofs b + (sz b - hd b) ≤ 65515
theorem perr_zero {b : List Int} : perr b = 0 ↔ Reads b := by
  constructor
  · intro h
    unfold perr at h
    split at h
    · omega
    split at h
    · omega
    split at h
    · omega
    split at h
    · omega
    split at h
    · omega
    split at h
    · omega
    split at h
    · omega
    split at h
    · next h8 => exact absurd h h8
    split at h
    · omega
    split at h
    · omega
    · next h1 h2 h3 h4 h5 h6 h7 h8 h9 h10 =>
      exact ⟨by omega, by omega, by omega, by omega, by omega, by omega, by simpa using h5, h6, by omega, by simpa using h8, fun hm => by
        have := not_and.1 h9 hm
        omega, by omega⟩
  · rintro ⟨h1, h2, h3, h4, h5, h6, h7, h8, h9, h10, h11, h12⟩
    unfold perr
    rw [if_neg (by omega), if_neg (by omega), if_neg (by omega), if_neg (by omega), if_neg (by simpa using h7), if_neg h8, if_neg (by omega), if_neg (by simpa using h10), if_neg (fun h => h.2 (h11 h.1)), if_neg (by omega)]
def pkt (b : List Int) : Pk :=
  ⟨4, (fromB (part b 12 4)).1, (fromB (part b 16 4)).1, b.getD 9 0, b.getD 8 0, fr b, if fr b then u16 b 4 else 0, ofs b, mr b, part b (hd b) (sz b - hd b)⟩
def Ad.four (a : Ad) : Bool := (a.fam == 4) && a.right
def Pk.mayHead (p : Pk) (exts : Nat) : Bool :=
  (p.fam == 4) && (p.src.four && (p.dst.four && ((exts == 0) && (decide (0 ≤ p.proto) && (decide (p.proto ≤ 255) && (decide (1 ≤ p.hop) && decide (p.hop ≤ 255)))))))
def Pk.mayPlace (p : Pk) : Bool :=
  decide (p.id ≤ 65535) && (decide (0 ≤ p.off) && (decide (p.off % 8 = 0) && (decide (p.off ≤ 65515 - p.data.length) && ((!p.frag || (p.more || decide (p.off ≠ 0))) && (!p.more || decide ((p.data.length : Int) % 8 = 0))))))
structure Pk.ok (p : Pk) : Prop where
  fam : -9223372036854775808 ≤ p.fam ∧ p.fam ≤ 9223372036854775807
  src : p.src.ok
  dst : p.dst.ok
  proto : -9223372036854775808 ≤ p.proto ∧ p.proto ≤ 9223372036854775807
  hop : -9223372036854775808 ≤ p.hop ∧ p.hop ≤ 9223372036854775807
  id : 0 ≤ p.id ∧ p.id ≤ 4294967295
  off : -9223372036854775808 ≤ p.off ∧ p.off ≤ 9223372036854775807
  data : M.Bytes p.data
  len : p.data.length ≤ 140737488351232
def Pk.may (p : Pk) (exts : Nat) : Bool := p.mayHead exts && p.mayPlace
def Pk.place (p : Pk) : Int := p.off / 8 + (if p.more then 8192 else 0)
def Pk.front (p : Pk) : List Int :=
  [69, 0] ++ [(20 + (p.data.length : Int)) / 256 % 256, (20 + (p.data.length : Int)) % 256] ++ [p.id / 256 % 256, p.id % 256] ++ [p.place / 256 % 256, p.place % 256] ++ [p.hop, p.proto]
def Pk.chk (p : Pk) : Int := 65535 - M.sumOf [p.front, p.src.bytes, p.dst.bytes]
def Pk.hdr (p : Pk) : List Int := p.front ++ [p.chk / 256 % 256, p.chk % 256] ++ p.src.bytes ++ p.dst.bytes
def Pk.made (p : Pk) : List Int := p.hdr ++ p.data
structure May (p : Pk) : Prop where
  fam : p.fam = 4
  sf : p.src.fam = 4
  sr : p.src.right = true
  df : p.dst.fam = 4
  dr : p.dst.right = true
  proto : 0 ≤ p.proto ∧ p.proto ≤ 255
  hop : 1 ≤ p.hop ∧ p.hop ≤ 255
  id : p.id ≤ 65535
  off0 : 0 ≤ p.off
  off8 : p.off % 8 = 0
  over : p.off ≤ 65515 - p.data.length
  kind : p.frag = true → p.more = true ∨ p.off ≠ 0
  mult : p.more = true → (p.data.length : Int) % 8 = 0
end Go.Proofs.Ytebdpiedgjdjeaa
