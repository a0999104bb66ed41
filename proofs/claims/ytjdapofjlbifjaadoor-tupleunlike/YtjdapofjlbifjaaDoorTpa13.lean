/- Texts joined: MaskLaw Frm RFrm Back -/
import Derived.Test.YtjdapofjlbifjaaDoorTpa4
import Derived.Test.YtjdapofjlbifjaaDoorTpa8
import Derived.Deep.QuietTactic
import Derived.BigQuiet
import Derived.RegionTactic
import Derived.BigRegion
namespace Go.Proofs.YtjdapofjlbifjaaDoor
set_option linter.unusedVariables false
theorem pow_pos' (k : Nat) : (0 : Int) < 2 ^ k := Int.pow_pos (by decide)
theorem has_iff {p a : Ad} {n : Int} : Ad.has p n a = true ↔ a.fits n = true ∧ a.masked n = p := by
  unfold Ad.has
  by_cases hf : a.fits n = true
  · rw [mask_good hf]
    simp only [Bool.and_eq_true, beq_self_eq_true, true_and, Ad.same_iff, hf]
  · have hf' : a.fits n = false := by simpa using hf
    rw [mask_bad hf']
    simp [hf']
end Go.Proofs.YtjdapofjlbifjaaDoor
namespace Go.Proofs.YtjdapofjlbifjaaDoor
open Go.RowKit
set_option linter.unusedVariables false
set_option linter.unusedSimpArgs false
/-- Bytes taken in, the highest first. -/
def fromGo : List Int → Int → Int → Int × Int
  | [], h, l => (h, l)
  | x :: xs, h, l => fromGo xs (h * 256 % 18446744073709551616 + l / 72057594037927936) (l * 256 % 18446744073709551616 + x)
def fromB (b : List Int) : Ad × Int :=
  if b.length = 4 then (⟨4, (fromGo b 0 0).1, (fromGo b 0 0).2⟩, 0) else if b.length = 16 then (⟨6, (fromGo b 0 0).1, (fromGo b 0 0).2⟩, 0) else (⟨0, 0, 0⟩, 1)
theorem and1 (q : Nat) (h : q < 18446744073709551616) : bits .and .u64 (q : Int) 1 = ((q % 2 : Nat) : Int) := by
  have h15 : (BitVec.ofInt 64 1).toNat = 2 ^ 1 - 1 := by decide
  show IntKind.u64.wrap ((BitVec.ofInt 64 (q : Int) &&& BitVec.ofInt 64 1).toNat : Int) = _
  rw [BitVec.toNat_and, ofInt_u64 q (by omega), h15, Nat.and_two_pow_sub_one_eq_mod, IntKind.wrap_u64]
  omega
end Go.Proofs.YtjdapofjlbifjaaDoor
namespace Go.Proofs.YtjdapofjlbifjaaDoor
set_option linter.unusedVariables false
/-- Taking in bytes behind others. -/
theorem fromGo_app (xs ys : List Int) (h l : Int) : fromGo (xs ++ ys) h l = fromGo ys (fromGo xs h l).1 (fromGo xs h l).2 := by
  induction xs generalizing h l with
  | nil => rfl
  | cons x xs ih => exact ih _ _
/-- Both words as one number. -/
def num2 (h l : Int) : Int := h * 18446744073709551616 + l
/-- The n lowest bytes of two words, taken in from 0 on: the words themselves, if they have no higher bytes. -/
theorem from_bytesGo : ∀ (n : Nat) (h l : Int), n ≤ 16 → 0 ≤ h → h < 18446744073709551616 → 0 ≤ l → l < 18446744073709551616 → num2 h l < 256 ^ n → fromGo (bytesGo n h l) 0 0 = (h, l)
  | 0, h, l, _, a, b, c, d, hn => by
    have : num2 h l < 1 := hn
    unfold num2 at this
    have e1 : h = 0 := by omega
    have e2 : l = 0 := by omega
    subst e1 e2
    rfl
  | n + 1, h, l, hn16, a, b, c, d, hn => by
    have e1 : 0 ≤ l / 256 + h * 72057594037927936 % 18446744073709551616 ∧ l / 256 + h * 72057594037927936 % 18446744073709551616 < 18446744073709551616 := by omega
    have hs : num2 (h / 256) (l / 256 + h * 72057594037927936 % 18446744073709551616) < 256 ^ n := by
      rw [Int.pow_succ] at hn
      unfold num2 at hn ⊢
      generalize (256 : Int) ^ n = p at *
      omega
    have ih := from_bytesGo n (h / 256) (l / 256 + h * 72057594037927936 % 18446744073709551616) (by omega) (by omega) (by omega) e1.1 e1.2 hs
    show fromGo (bytesGo n _ _ ++ [l % 256]) 0 0 = _
    rw [fromGo_app, ih]
    show ((h / 256) * 256 % 18446744073709551616 + (l / 256 + h * 72057594037927936 % 18446744073709551616) / 72057594037927936, (l / 256 + h * 72057594037927936 % 18446744073709551616) * 256 % 18446744073709551616 + l % 256) = (h, l)
    congr 1 <;> omega
theorem bytesGo_bytes : ∀ (n : Nat) (h l : Int), M.Bytes (bytesGo n h l)
  | 0, _, _ => M.Bytes.nil
  | n + 1, h, l => (bytesGo_bytes n _ _).app (fun z hz => by simp at hz; omega)
/-- From of Bytes is the address. -/
theorem from_bytes {a : Ad} (ho : a.ok) (hr : a.right = true) : fromB a.bytes = (a, 0) := by
  obtain ⟨⟨_, _⟩, ⟨h0, h1⟩, ⟨l0, l1⟩⟩ := ho
  unfold Ad.bytes
  rw [if_pos hr]
  unfold Ad.right at hr
  by_cases hf : a.fam = 4
  · rw [if_pos hf] at hr ⊢
    simp only [Bool.and_eq_true, beq_iff_eq] at hr
    unfold fromB
    rw [if_pos (bytesGo_length 4 _ _), from_bytesGo 4 a.hi a.lo (by omega) (by omega) (by omega) (by omega) (by omega) (by unfold num2; omega)]
    cases a
    simp_all
  · rw [if_neg hf] at hr ⊢
    have h6 : a.fam = 6 := by simpa using hr
    unfold fromB
    rw [if_neg (by rw [bytesGo_length]; omega), if_pos (bytesGo_length 16 _ _), from_bytesGo 16 a.hi a.lo (by omega) (by omega) (by omega) (by omega) (by omega) (by unfold num2; omega)]
    cases a
    simp_all
end Go.Proofs.YtjdapofjlbifjaaDoor
