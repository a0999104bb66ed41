/- Texts joined: Back RefReads Anys -/
import Derived.Test.YtmnkdogdligckaaIp6zb2
import Derived.Test.YtmnkdogdligckaaIp6zb5
namespace Go.Proofs.Ytmnkdogdligckaa
set_option linter.unusedVariables false
/-- Taking in bytes behind others. -/
theorem fromGo_app (xs ys : List Int) (h l : Int) : fromGo (xs ++ ys) h l = fromGo ys (fromGo xs h l).1 (fromGo xs h l).2 := by
  induction xs generalizing h l with
  | nil => rfl
  | cons x xs ih => exact ih _ _
/-- Both words as one number. -/
def num2 (h l : Int) : Int := h * 18446744073709551616 + l
/-- The n lowest bytes of two words, taken in from 0 on: the words themselves, if they have no higher bytes. -/
theorem from_bytesGo : ∀ (n : Nat) (h l : Int), n ≤ 16 → 0 ≤ h → h < 18446744073709551616 → 0 ≤ l → l < 18446744073709551616 → num2 h l < 256 ^ n → fromGo (bytesGo n h l) 0 0 = (h, l)
  | 0, h, l, _, a, b, c, d, hn => by
    have : num2 h l < 1 := hn
    unfold num2 at this
    have e1 : h = 0 := by omega
    have e2 : l = 0 := by omega
    subst e1 e2
    rfl
  | n + 1, h, l, hn16, a, b, c, d, hn => by
    have e1 : 0 ≤ l / 256 + h * 72057594037927936 % 18446744073709551616 ∧ l / 256 + h * 72057594037927936 % 18446744073709551616 < 18446744073709551616 := by omega
    have hs : num2 (h / 256) (l / 256 + h * 72057594037927936 % 18446744073709551616) < 256 ^ n := by
      rw [Int.pow_succ] at hn
      unfold num2 at hn ⊢
      generalize (256 : Int) ^ n = p at *
      omega
    have ih := from_bytesGo n (h / 256) (l / 256 + h * 72057594037927936 % 18446744073709551616) (by omega) (by omega) (by omega) e1.1 e1.2 hs
    show fromGo (bytesGo n _ _ ++ [l % 256]) 0 0 = _
    rw [fromGo_app, ih]
    show ((h / 256) * 256 % 18446744073709551616 + (l / 256 + h * 72057594037927936 % 18446744073709551616) / 72057594037927936, (l / 256 + h * 72057594037927936 % 18446744073709551616) * 256 % 18446744073709551616 + l % 256) = (h, l)
    congr 1 <;> omega
/-- From of Bytes is the address. -/
theorem from_bytes {a : Ad} (ho : a.ok) (hr : a.right = true) : fromB a.bytes = (a, 0) := by
  obtain ⟨⟨_, _⟩, ⟨h0, h1⟩, ⟨l0, l1⟩⟩ := ho
  unfold Ad.bytes
  rw [if_pos hr]
  unfold Ad.right at hr
  by_cases hf : a.fam = 4
  · rw [if_pos hf] at hr ⊢
    simp only [Bool.and_eq_true, beq_iff_eq] at hr
    unfold fromB
    rw [if_pos (bytesGo_length 4 _ _), from_bytesGo 4 a.hi a.lo (by omega) (by omega) (by omega) (by omega) (by omega) (by unfold num2; omega)]
    cases a
    simp_all
  · rw [if_neg hf] at hr ⊢
    have h6 : a.fam = 6 := by simpa using hr
    unfold fromB
    rw [if_neg (by rw [bytesGo_length]; omega), if_pos (bytesGo_length 16 _ _), from_bytesGo 16 a.hi a.lo (by omega) (by omega) (by omega) (by omega) (by omega) (by unfold num2; omega)]
    cases a
    simp_all
end Go.Proofs.Ytmnkdogdligckaa
namespace Go.Proofs.Ytmnkdogdligckaa
open Go.RowKit
set_option linter.unusedVariables false
set_option maxHeartbeats 400000 in
theorem ru16_yes (a : Option Addr) (c : Nat) (l : List Int) (x : Int) (w : World) (h : Row w a l) (hnil : a = none → c = 0) (hl : l.length ≤ 140737488351232) (hc : l.length ≤ c) (hcm : c ≤ 9223372036854775807) (hx : 0 ≤ x) (hn : x + 2 ≤ (l.length : Int)) :
    Calls Try.prog 23 #[.slice a l.length c, .int .i64 x] w fun e w' => e = .returned (.tuple #[.int .i64 (u16 l x), .bool true]) ∧ Below w.heap.size w w' := by
  have hlen : (part l x 2).length = 2 := by unfold part; simp; omega
  have e0 : (part l x 2).getD 0 0 = l.getD x.toNat 0 := by unfold part; simp
  have e1 : (part l x 2).getD 1 0 = l.getD (x.toNat + 1) 0 := by unfold part; simp
  have b0 := h.bytes.get x.toNat
  have b1 := h.bytes.get (x.toNat + 1)
  unfold u16
  rw [← e0] at b0 ⊢
  rw [← e1] at b1 ⊢
  clear e0 e1
  generalize hy0 : (part l x 2).getD 0 0 = y0 at *
  generalize hy1 : (part l x 2).getD 1 0 = y1 at *
  have Y0 : Hid ((part l x 2).getD 0 0 = y0) := hy0
  have Y1 : Hid ((part l x 2).getD 1 0 = y1) := hy1
  clear hy0 hy1
  go_enter Try.func23, Try.ntmps23
  go_wp2_with fail
  refine (rpart_yes _ _ _ _ 2 _ h hnil hl hc hcm hx (by omega) (by omega)).mono ?_
  rintro e w' ⟨a', c', rfl, hf⟩
  have hr := hf.row
  generalize part l x 2 = r at *
  obtain ⟨b, off, rfl, hcc⟩ := hr.cells (by omega)
  have c0 := hcc 0 (by omega)
  rw [Nat.add_zero] at c0
  have c1 := hcc 1 (by omega)
  rw [Y0.out] at c0
  rw [Y1.out] at c1
  clear hcc
  have k0 : (0 : Int) < (r.length : Int) := by omega
  have k1 : (1 : Int) < (r.length : Int) := by omega
  have hb := hf.below
  clear hf hr h hn
  go_wp2_with fail
  go_quiet (fail)
  go_wp2
  go_ret2
  exact ⟨tup_int (i64_or8 _ _ b0.1 b0.2 b1.1 b1.2), below_drewN hb nq⟩
set_option maxHeartbeats 400000 in
theorem ru32_yes (a : Option Addr) (c : Nat) (l : List Int) (x : Int) (w : World) (h : Row w a l) (hnil : a = none → c = 0) (hl : l.length ≤ 140737488351232) (hc : l.length ≤ c) (hcm : c ≤ 9223372036854775807) (hx : 0 ≤ x) (hn : x + 4 ≤ (l.length : Int)) :
    Calls Try.prog 64 #[.slice a l.length c, .int .i64 x] w fun e w' => e = .returned (.tuple #[.int .u32 (u32 l x), .bool true]) ∧ Below w.heap.size w w' := by
  have hlen : (part l x 4).length = 4 := by unfold part; simp; omega
  have e0 : (part l x 4).getD 0 0 = l.getD x.toNat 0 := by unfold part; simp
  have e1 : (part l x 4).getD 1 0 = l.getD (x.toNat + 1) 0 := by unfold part; simp
  have e2 : (part l x 4).getD 2 0 = l.getD (x.toNat + 2) 0 := by unfold part; simp
  have e3 : (part l x 4).getD 3 0 = l.getD (x.toNat + 3) 0 := by unfold part; simp
  have b0 := h.bytes.get x.toNat
  have b1 := h.bytes.get (x.toNat + 1)
  have b2 := h.bytes.get (x.toNat + 2)
  have b3 := h.bytes.get (x.toNat + 3)
  unfold u32
  rw [← e0] at b0 ⊢
  rw [← e1] at b1 ⊢
  rw [← e2] at b2 ⊢
  rw [← e3] at b3 ⊢
  clear e0 e1 e2 e3
  generalize hy0 : (part l x 4).getD 0 0 = y0 at *
  generalize hy1 : (part l x 4).getD 1 0 = y1 at *
  generalize hy2 : (part l x 4).getD 2 0 = y2 at *
  generalize hy3 : (part l x 4).getD 3 0 = y3 at *
  have Y0 : Hid ((part l x 4).getD 0 0 = y0) := hy0
  have Y1 : Hid ((part l x 4).getD 1 0 = y1) := hy1
  have Y2 : Hid ((part l x 4).getD 2 0 = y2) := hy2
  have Y3 : Hid ((part l x 4).getD 3 0 = y3) := hy3
  clear hy0 hy1 hy2 hy3
  go_enter Try.func64, Try.ntmps64
  go_wp2_with fail
  refine (rpart_yes _ _ _ _ 4 _ h hnil hl hc hcm hx (by omega) (by omega)).mono ?_
  rintro e w' ⟨a', c', rfl, hf⟩
  have hr := hf.row
  generalize part l x 4 = r at *
  obtain ⟨b, off, rfl, hcc⟩ := hr.cells (by omega)
  have c0 := hcc 0 (by omega)
  rw [Nat.add_zero] at c0
  have c1 := hcc 1 (by omega)
  have c2 := hcc 2 (by omega)
  have c3 := hcc 3 (by omega)
  rw [Y0.out] at c0
  rw [Y1.out] at c1
  rw [Y2.out] at c2
  rw [Y3.out] at c3
  clear hcc
  have k0 : (0 : Int) < (r.length : Int) := by omega
  have k1 : (1 : Int) < (r.length : Int) := by omega
  have k2 : (2 : Int) < (r.length : Int) := by omega
  have k3 : (3 : Int) < (r.length : Int) := by omega
  have hb := hf.below
  clear hf hr h hn
  go_wp2_with fail
  go_quiet (fail)
  go_wp2
  go_ret2
  exact ⟨tup_int (u32_or4 _ _ _ _ b0.1 b0.2 b1.1 b1.2 b2.1 b2.2 b3.1 b3.2), below_drewN hb nq⟩
theorem Fresh.none (w : World) : Fresh w w none 0 [] := ⟨Owns.nil _ _, Nat.le_refl _, fun _ => rfl, ⟨by simp, M.Bytes.nil, fun h => by simp at h⟩, Below.refl _ _⟩
end Go.Proofs.Ytmnkdogdligckaa
