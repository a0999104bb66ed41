/- Texts joined: RBit -/
import Derived.Test.YtjdapofjlbifjaaDoorTpa13
namespace Go.Proofs.YtjdapofjlbifjaaDoor
open Go.RowKit
set_option linter.unusedVariables false
set_option linter.unusedSimpArgs false
/-- The address as one number, and its bits from the highest on. -/
def Ad.val (a : Ad) : Int := num2 a.hi a.lo
def Ad.bit (a : Ad) (i : Nat) : Int := a.val / 2 ^ (a.width.toNat - 1 - i) % 2
theorem hi_bit (h l : Int) (m : Nat) (hl0 : 0 ≤ l) (hl1 : l < 18446744073709551616) : num2 h l / 2 ^ (64 + m) = h / 2 ^ m := by
  unfold num2
  rw [Int.pow_add, show (2 : Int) ^ 64 = 18446744073709551616 by decide, ← Int.ediv_ediv_of_nonneg (by omega)]
  congr 1
  omega
theorem lo_bit (h l : Int) (m : Nat) (hm : m < 64) (hl0 : 0 ≤ l) : num2 h l / 2 ^ m % 2 = l / 2 ^ m % 2 := by
  unfold num2
  obtain ⟨d, hd⟩ : ∃ d, 64 = m + (d + 1) := ⟨63 - m, by omega⟩
  have e : (18446744073709551616 : Int) = 2 ^ m * (2 ^ d * 2) := by
    rw [← Int.pow_succ, ← Int.pow_add, ← hd]; decide
  have hp : (2 : Int) ^ m ≠ 0 := by have := pow_pos' m; omega
  rw [e, show h * (2 ^ m * (2 ^ d * 2)) + l = l + 2 ^ m * (h * (2 ^ d * 2)) by
    rw [Int.mul_left_comm, Int.add_comm], Int.add_mul_ediv_left _ _ hp, ← Int.mul_assoc]
  omega
theorem shr_bd (x : Int) (k : Nat) (h0 : 0 ≤ x) (h1 : x ≤ 18446744073709551615) : ∃ q : Nat, x / 2 ^ k = (q : Int) ∧ q < 18446744073709551616 := by
  have hp := pow_pos' k
  have e0 : 0 ≤ x / 2 ^ k := Int.ediv_nonneg h0 (by omega)
  have e1 : x / 2 ^ k ≤ x := Int.ediv_le_self _ h0
  exact ⟨(x / 2 ^ k).toNat, by omega, by omega⟩
set_option maxRecDepth 100000 in
set_option maxHeartbeats 1000000 in
theorem rbit_any (f h l : Int) (i : Nat) (w : World) (ho : Ad.ok ⟨f, h, l⟩) (hr : Ad.right ⟨f, h, l⟩ = true) (hi : (i : Int) < Ad.width ⟨f, h, l⟩) :
    Calls Tryd.prog 55 #[.agg #[.int .i64 f, .int .u64 h, .int .u64 l], .int .i64 i] w fun e w' => e = .returned (.int .i64 (Ad.bit ⟨f, h, l⟩ i)) ∧ w' = w.alloc (.cells #[.int .i64 f, .int .u64 h, .int .u64 l] 24) := by
  obtain ⟨⟨_, _⟩, ⟨h0, h1⟩, ⟨l0, l1⟩⟩ := ho
  simp only at h0 h1 l0 l1
  obtain ⟨T, hT⟩ : ∃ T, Ad.bit ⟨f, h, l⟩ i = T := ⟨_, rfl⟩
  rw [hT]
  by_cases hf : f = 4
  · subst hf
    have hi' : i < 32 := by unfold Ad.width at hi; simp at hi; omega
    have hh : h = 0 := by simp [Ad.right] at hr; exact hr.1
    obtain ⟨k, hk⟩ : ∃ k : Nat, (31 : Int) - (i : Int) = (k : Int) := ⟨31 - i, by omega⟩
    have hk' : 31 - i = k := by omega
    obtain ⟨q, hq, hq'⟩ := shr_bd l k l0 l1
    have e1 := and1 q hq'
    have HT : Hid (T = ((q % 2 : Nat) : Int)) := by
      show _ = _
      rw [← hT]
      unfold Ad.bit Ad.val
      show num2 h l / 2 ^ ((if (4 : Int) = 4 then (32 : Int) else 128).toNat - 1 - i) % 2 = _
      rw [hh, if_pos rfl, show (32 : Int).toNat - 1 - i = k by simp; omega, show num2 0 l = l by unfold num2; omega, hq]
      omega
    clear hT hi hr hh
    go_enter Tryd.func55, Tryd.ntmps55
    go_wp2
    go_ret
    exact ⟨ret_int (by rw [HT.out]; omega), rfl⟩
  · have hf6 : f = 6 := by unfold Ad.right at hr; simpa [hf] using hr
    subst hf6
    have hi' : i < 128 := by unfold Ad.width at hi; simp at hi; omega
    by_cases h64 : i < 64
    · obtain ⟨k, hk⟩ : ∃ k : Nat, (63 : Int) - (i : Int) = (k : Int) := ⟨63 - i, by omega⟩
      obtain ⟨q, hq, hq'⟩ := shr_bd h k h0 h1
      have e1 := and1 q hq'
      have HT : Hid (T = ((q % 2 : Nat) : Int)) := by
        show _ = _
        rw [← hT]
        unfold Ad.bit Ad.val
        show num2 h l / 2 ^ ((if (6 : Int) = 4 then (32 : Int) else 128).toNat - 1 - i) % 2 = _
        rw [if_neg (by decide), show (128 : Int).toNat - 1 - i = 64 + k by simp; omega, hi_bit h l k l0 (by omega), hq]
        omega
      have i64 : (i : Int) < 64 := by omega
      clear hT hi hr
      go_enter Tryd.func55, Tryd.ntmps55
      go_wp2
      go_ret
      exact ⟨ret_int (by rw [HT.out]; omega), rfl⟩
    · obtain ⟨k, hk⟩ : ∃ k : Nat, (127 : Int) - (i : Int) = (k : Int) := ⟨127 - i, by omega⟩
      obtain ⟨q, hq, hq'⟩ := shr_bd l k l0 l1
      have e1 := and1 q hq'
      have HT : Hid (T = ((q % 2 : Nat) : Int)) := by
        show _ = _
        rw [← hT]
        unfold Ad.bit Ad.val
        show num2 h l / 2 ^ ((if (6 : Int) = 4 then (32 : Int) else 128).toNat - 1 - i) % 2 = _
        rw [if_neg (by decide), show (128 : Int).toNat - 1 - i = k by simp; omega, lo_bit h l k (by omega) l0, hq]
        omega
      have i64 : ¬ (i : Int) < 64 := by omega
      clear hT hi hr
      go_enter Tryd.func55, Tryd.ntmps55
      go_wp2
      go_ret
      exact ⟨ret_int (by rw [HT.out]; omega), rfl⟩
/-- The bytes of an address are its number's, the highest first. -/
theorem bytesGo_val : ∀ (n : Nat) (h l : Int), 0 ≤ h → h < 18446744073709551616 → 0 ≤ l → l < 18446744073709551616 → bytesGo n h l = (List.range n).map fun j => num2 h l / 256 ^ (n - 1 - j) % 256
  | 0, _, _, _, _, _, _ => rfl
  | n + 1, h, l, a, b, c, d => by
    have e1 : 0 ≤ l / 256 + h * 72057594037927936 % 18446744073709551616 ∧ l / 256 + h * 72057594037927936 % 18446744073709551616 < 18446744073709551616 := by omega
    have ih := bytesGo_val n (h / 256) (l / 256 + h * 72057594037927936 % 18446744073709551616) (by omega) (by omega) e1.1 e1.2
    have ev : num2 (h / 256) (l / 256 + h * 72057594037927936 % 18446744073709551616) = num2 h l / 256 := by unfold num2; omega
    show bytesGo n _ _ ++ [l % 256] = _
    rw [ih, ev, List.range_succ, List.map_append]
    congr 1
    · apply List.map_congr_left
      intro j hj
      have hj' := List.mem_range.1 hj
      rw [show n + 1 - 1 - j = (n - 1 - j) + 1 by omega, Int.pow_succ, Int.mul_comm, ← Int.ediv_ediv_of_nonneg (by omega)]
    · simp only [List.map_cons, List.map_nil, show n + 1 - 1 - n = 0 by omega, Int.pow_zero, Int.ediv_one]
      congr 1
      unfold num2
      omega
end Go.Proofs.YtjdapofjlbifjaaDoor
