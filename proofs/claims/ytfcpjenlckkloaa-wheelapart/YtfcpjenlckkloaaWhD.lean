/- The wheel's small calls: isMade, rightTime, digit, apart, slot, Time, Len, Now. -/
import Derived.Test.YtfcpjenlckkloaaWhC
import Derived.Test.YtfcpjenlckkloaaShelf
namespace Go.Proofs.Ytfcpjenlckkloaa
open Go.RowKit
set_option linter.unusedVariables false
set_option linter.unusedSimpArgs false

theorem isMade_nil (w : World) : Calls Try.prog 28 #[.pointer none] w fun e w' => e = .returned (.bool false) ∧ w' = w := by
  go_enter Try.func28, Try.ntmps28
  go_wp2
  go_ret
  exact ⟨rfl, rfl⟩
theorem isMade_at (g : Nat) (b : Bool) (w : World) (h : w.cell? ⟨g, 0, none⟩ = some (.bool b)) : Calls Try.prog 28 #[.pointer (some ⟨g, 0, none⟩)] w fun e w' => e = .returned (.bool b) ∧ w' = w := by
  go_enter Try.func28, Try.ntmps28
  go_wp2
  go_ret
  exact ⟨rfl, rfl⟩
/-- A time that may be. -/
def rtB (t : Int) : Bool := decide (0 ≤ t) && decide (t ≤ 4611686018427387904)
theorem rightTime_any (t : Int) (w : World) : Calls Try.prog 22 #[.int .i64 t] w fun e w' => e = .returned (.bool (rtB t)) ∧ w' = w := by
  go_enter Try.func22, Try.ntmps22
  go_wp2
  all_goals (go_ret; refine ⟨?_, rfl⟩; simp [rtB]; try omega)
theorem i64_and63 (n : Int) : bits .and .i64 n 63 = n % 64 := by
  have h : (BitVec.ofInt 64 63).toNat = 2 ^ 6 - 1 := by decide
  have key : (BitVec.ofInt 64 n &&& BitVec.ofInt 64 63).toNat = (n % ((2 ^ 64 : Nat) : Int)).toNat % 2 ^ 6 := by
    rw [BitVec.toNat_and, BitVec.toNat_ofInt, h, Nat.and_two_pow_sub_one_eq_mod]
  show IntKind.i64.wrap ((BitVec.ofInt 64 n &&& BitVec.ofInt 64 63).toNat : Nat) = n % 64
  rw [key, IntKind.wrap_i64]
  omega
theorem i64_xor_nat (a b : Nat) (ha : a < 9223372036854775808) (hb : b < 9223372036854775808) : bits .xor .i64 (a : Int) (b : Int) = ((a ^^^ b : Nat) : Int) := by
  have hx : a ^^^ b < 2 ^ 63 := Nat.xor_lt_two_pow (by omega) (by omega)
  show IntKind.i64.wrap ((BitVec.ofInt 64 (a : Int) ^^^ BitVec.ofInt 64 (b : Int)).toNat : Int) = _
  rw [BitVec.toNat_xor, ofInt_u64 a (by omega), ofInt_u64 b (by omega), IntKind.wrap_i64]
  omega
theorem ret_i64 {a b : Int} (h : a = b) : Ending.returned (.int .i64 a) = .returned (.int .i64 b) := by rw [h]
set_option maxHeartbeats 1000000 in
theorem digit_any (t r : Nat) (w : World) (ht : t < 9223372036854775808) (hr : r ≤ 10) : Calls Try.prog 46 #[.int .i64 t, .int .i64 r] w fun e w' => e = .returned (.int .i64 (M.dg t r)) ∧ w' = w := by
  have hx := i64_and63
  go_enter Try.func46, Try.ntmps46
  go_wp2
  go_ret
  refine ⟨?_, rfl⟩
  refine ret_i64 (a := ↑t / 2 ^ (r * 6) % 64) ?_
  unfold M.dg
  rw [M.p64, Nat.mul_comm 6 r]
  simp [Int.natCast_pow]
set_option maxHeartbeats 1000000 in
theorem apart_any (a b : Nat) (w : World) (ha : a < 9223372036854775808) (hb : b < 9223372036854775808) : Calls Try.prog 45 #[.int .i64 a, .int .i64 b] w fun e w' => e = .returned (.int .i64 (M.ap a b)) ∧ w' = w := by
  have hx := i64_xor_nat a b ha hb
  have hl : a ^^^ b < 2 ^ 63 := Nat.xor_lt_two_pow (by omega) (by omega)
  have hy : (a ^^^ b) ||| 1 < 2 ^ 63 := Nat.or_lt_two_pow hl (by decide)
  have hw : IntKind.u64.wrap ((a ^^^ b : Nat) : Int) = ((a ^^^ b : Nat) : Int) := by rw [IntKind.wrap_u64]; omega
  have ho : bits .or .u64 ((a ^^^ b : Nat) : Int) 1 = (((a ^^^ b) ||| 1 : Nat) : Int) := u64_or_nat (a ^^^ b) 1 (by omega) (by omega)
  have hle : Lib.bitLen ((a ^^^ b) ||| 1) ≤ 63 := Lib.bitLen_le _ 63 (by decide) hy
  have h0 : (a ^^^ b) ||| 1 ≠ 0 := by
    intro h
    have : 1 ≤ (a ^^^ b) ||| 1 := Nat.right_le_or
    omega
  have h1 : 1 ≤ Lib.bitLen ((a ^^^ b) ||| 1) := (Lib.bitLenAux_bounds 64 _ (Nat.lt_of_lt_of_le hy (by decide)) h0).1
  have hc := Try.bits_Len64 (((a ^^^ b) ||| 1 : Nat) : Int) w (by omega) (by omega)
  rw [Int.toNat_natCast] at hc
  have hap : M.ap a b = (Lib.bitLen ((a ^^^ b) ||| 1) - 1) / 6 := rfl
  generalize Lib.bitLen ((a ^^^ b) ||| 1) = n at hle h1 hc hap
  generalize ((a ^^^ b) ||| 1 : Nat) = x at ho hc
  generalize ((a ^^^ b : Nat) : Int) = y at hx hw ho
  clear hl hy h0
  go_enter Try.func45, Try.ntmps45
  go_wp2_with fail
  refine Calls.mono hc ?_
  rintro e w' ⟨rfl, rfl⟩
  go_wp2
  go_ret
  exact ⟨ret_i64 (by omega), rfl⟩
end Go.Proofs.Ytfcpjenlckkloaa
