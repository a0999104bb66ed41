/- Texts joined: RFrm Back RBit RByt -/
import Derived.Test.YtmfgjicfdjjihaaGreatDoorLxa1
import Derived.RegionTactic
import Derived.BigRegion
import Derived.Deep.DeepCutAuto
namespace Go.Proofs.YtmfgjicfdjjihaaGreatDoor
open Go.RowKit
set_option linter.unusedVariables false
set_option linter.unusedSimpArgs false
theorem list4 {b : List Int} (h : b.length = 4) : ∃ b0 b1 b2 b3, b = [b0, b1, b2, b3] := by
 match b, h with
 | [b0, b1, b2, b3], _ => exact ⟨_, _, _, _, rfl⟩
theorem from4_hi (b : List Int) (hb : M.Bytes b) (h4 : b.length = 4) : (fromGo b 0 0).1 = 0 := by
 obtain ⟨b0, b1, b2, b3, rfl⟩ := list4 h4
 have h0 := hb b0 (by simp)
 have h1 := hb b1 (by simp)
 have h2 := hb b2 (by simp)
 simp only [fromGo]
 omega
theorem and1 (q : Nat) (h : q < 18446744073709551616) : bits .and .u64 (q : Int) 1 = ((q % 2 : Nat) : Int) := by
 have h15 : (BitVec.ofInt 64 1).toNat = 2 ^ 1 - 1 := by decide
 show IntKind.u64.wrap ((BitVec.ofInt 64 (q : Int) &&& BitVec.ofInt 64 1).toNat : Int) = _
 rw [BitVec.toNat_and, ofInt_u64 q (by omega), h15, Nat.and_two_pow_sub_one_eq_mod, IntKind.wrap_u64]
 omega
/-- The two blocks of the reference's From: what it will answer, and the address at hand. -/
structure From2 (w w' : World) (f h l : Int) : Prop where
 c0 : w'.cell? ⟨w.heap.size + 1, 0, none⟩ = some (.int .i64 f)
 c1 : w'.cell? ⟨w.heap.size + 1, 1, none⟩ = some (.int .u64 h)
 c2 : w'.cell? ⟨w.heap.size + 1, 2, none⟩ = some (.int .u64 l)
 r0 : w'.cell? ⟨w.heap.size, 0, none⟩ = some (.int .i64 0)
 r1 : w'.cell? ⟨w.heap.size, 1, none⟩ = some (.int .u64 0)
 r2 : w'.cell? ⟨w.heap.size, 2, none⟩ = some (.int .u64 0)
 fc : ∀ o, w'.frozen? ⟨w.heap.size + 1, o, none⟩ = false
 fr : ∀ o, w'.frozen? ⟨w.heap.size, o, none⟩ = false
 bel : Below w.heap.size w w'
 size : w.heap.size + 1 < w'.heap.size
theorem from2_start (w : World) (f : Int) : From2 w ((w.alloc (.cells #[.int .i64 0, .int .u64 0, .int .u64 0] 31)).alloc (.cells #[.int .i64 f, .int .u64 0, .int .u64 0] 31)) f 0 0 :=
 ⟨by simp [go_sem], by simp [go_sem], by simp [go_sem], by simp [go_sem], by simp [go_sem], by simp [go_sem], fun o => by simp [go_sem], fun o => by simp [go_sem], ((Below.refl _ _).alloc (Nat.le_refl _) _).alloc (by simp) _, by simp⟩
theorem from2_step {w wr : World} {f h l h1 l1 : Int} (x : From2 w wr f h l) : From2 w ((wr.setCell ⟨w.heap.size + 1, 1, none⟩ (.int .u64 h1)).setCell ⟨w.heap.size + 1, 2, none⟩ (.int .u64 l1)).drew f h1 l1 :=
  ⟨by show ((wr.setCell _ _).setCell _ _).cell? _ = _; rw [put_other (by simp), put_other (by simp)]; exact x.c0,
   by show ((wr.setCell _ _).setCell _ _).cell? _ = _; rw [put_other (by simp)]; exact put_same x.c1,
   by show ((wr.setCell _ _).setCell _ _).cell? _ = _; exact put_same (u := .int .u64 l) (by rw [put_other (by simp)]; exact x.c2),
   by show ((wr.setCell _ _).setCell _ _).cell? _ = _; rw [put_other (by simp), put_other (by simp)]; exact x.r0,
   by show ((wr.setCell _ _).setCell _ _).cell? _ = _; rw [put_other (by simp), put_other (by simp)]; exact x.r1,
   by show ((wr.setCell _ _).setCell _ _).cell? _ = _; rw [put_other (by simp), put_other (by simp)]; exact x.r2,
   fun o => by show ((wr.setCell _ _).setCell _ _).frozen? _ = _; simp [x.fc], fun o => by show ((wr.setCell _ _).setCell _ _).frozen? _ = _; simp [x.fr],
   ((x.bel.setCell (by simp) _).setCell (by simp) _).drew, by show _ < ((wr.setCell _ _).setCell _ _).heap.size; simp; exact x.size⟩
set_option maxRecDepth 100000 in
set_option maxHeartbeats 2000000 in
theorem rfrom4 (a : Option Addr) (c : Nat) (b : List Int) (w : World) (hb : Row w a b) (h4 : b.length = 4) :
  Calls Tryz.prog 115 #[.slice a b.length c] w fun e w' =>
   e = .returned (.tuple #[(fromB b).1.v, .int .i64 (fromB b).2]) ∧ Below w.heap.size w w' := by
 have hsm := hb.small
 have h40 := from4_hi b hb.bytes h4
 have hF : fromB b = (⟨4, 0, (fromGo b 0 0).2⟩, 0) := by rw [fromB, if_pos h4, h40]
 rw [hF]
 obtain ⟨F, T, hFT⟩ : ∃ F T, (F, T) = fromGo b 0 0 := ⟨_, _, rfl⟩
 rw [← hFT]
 have HF : Hid (fromGo b 0 0 = (F, T)) := hFT.symm
 have L4 : Hid (b.length = 4) := h4
 have h4a : ((b.length : Int) == 4) = true := by simp [L4.out]
 have h16a : ((b.length : Int) == 16) = false := by simp [L4.out]
 have n4a : ((b.length : Int) != 4) = false := by rw [bne, h4a]; rfl
 have n16a : ((b.length : Int) != 16) = true := by rw [bne, h16a]; rfl
 clear h4 hF hFT h40
 go_enter Tryz.func115, Tryz.ntmps115
 go_wp2
 go_loopw [5] (fun i w' => ∃ (k : Nat) (h l : Int), k ≤ b.length ∧ i = .int .i64 k ∧ (0 ≤ h ∧ h ≤ 18446744073709551615) ∧ (0 ≤ l ∧ l ≤ 18446744073709551615) ∧ Hid (fromGo (b.drop k) h l = (F, T)) ∧ From2 w w' 4 h l) (fun i _ => b.length - (intOf i).toNat)
 case atStart => exact ⟨0, 0, 0, Nat.zero_le _, rfl, by omega, by omega, HF, from2_start w 4⟩
 case round =>
  obtain ⟨k, h, l, hk, rfl, hh, hl, hr, x2⟩ := hrel
  have X2 : Hid (From2 w wr 4 h l) := x2
  obtain ⟨c0, c1, c2, r0, r1, r2, fc, fr, bel, hz⟩ := x2
  have hz' : w.heap.size < wr.heap.size := by omega
  by_cases hlt : k < b.length
  ·obtain ⟨bk, off, rfl, hc⟩ := hb.cells (by omega)
   have eg : b.getD k 0 = b[k] := by simp [hlt]
   have hcell := hc k hlt
   have hbl : bk < w.heap.size := World.block_lt_of_cell? w _ hcell
   have hcw := (bel.cell (p := ⟨bk, off + k, none⟩) hbl).trans hcell
   have hne1 : bk ≠ w.heap.size := by omega
   have hne2 : bk ≠ w.heap.size + 1 := by omega
   have hne3 : w.heap.size + 1 ≠ bk := by omega
   have hx := hb.bytes.get k
   have hr1 := hr.out
   rw [List.drop_eq_getElem_cons hlt] at hr1
   rw [eg] at hcell hx hcw
   clear eg hc hcell
   generalize b[k] = x at hcw hx hr1
   have e1 := or_low h (l / 72057594037927936) (by omega) (by omega)
   have e2 := or_low l x (by omega) (by omega)
   have wx : IntKind.u64.wrap x = x := by rw [IntKind.wrap_u64]; omega
   have ilt : (k : Int) < (b.length : Int) := by omega
   have HQ : Hid (fromGo (b.drop (k + 1)) (h * 256 % 18446744073709551616 + l / 72057594037927936) (l * 256 % 18446744073709551616 + x) = (F, T)) := hr1
   clear hr hr1
   go_wp2
   go_region
   all_goals go_wp2
   all_goals exact ⟨⟨k + 1, _, _, by omega, int_eq (by omega), by omega, by omega, HQ, from2_step X2.out⟩, by simp [intOf]; omega⟩
  ·have ilt : ¬ (k : Int) < (b.length : Int) := by omega
   have e : (h, l) = (F, T) := by
    rw [← hr.out, List.drop_eq_nil_of_le (by omega)]; rfl
   injection e with e1 e2
   subst e1
   subst e2
   go_wp2
   exact bodyPost_ret (v := .tuple #[.agg #[.int .i64 4, .int .u64 0, .int .u64 l], .int .i64 0]) (by simp [results, Tryz.results115, go_sem, r0, r1, r2, hz']) rfl
    ⟨rfl, (((bel.setCell (by simp) _).setCell (by simp) _).setCell (by simp) _).setCell (by simp) _⟩
set_option maxRecDepth 100000 in
set_option maxHeartbeats 2000000 in
theorem rfrom16 (a : Option Addr) (c : Nat) (b : List Int) (w : World) (hb : Row w a b) (h16 : b.length = 16) :
  Calls Tryz.prog 115 #[.slice a b.length c] w fun e w' =>
   e = .returned (.tuple #[(fromB b).1.v, .int .i64 (fromB b).2]) ∧ Below w.heap.size w w' := by
 have hsm := hb.small
 have hF : fromB b = (⟨6, (fromGo b 0 0).1, (fromGo b 0 0).2⟩, 0) := by rw [fromB, if_neg (by omega), if_pos h16]
 rw [hF]
 obtain ⟨F, T, hFT⟩ : ∃ F T, (F, T) = fromGo b 0 0 := ⟨_, _, rfl⟩
 rw [← hFT]
 have HF : Hid (fromGo b 0 0 = (F, T)) := hFT.symm
 have L4 : Hid (b.length = 16) := h16
 have h4a : ((b.length : Int) == 4) = false := by simp [L4.out]
 have h16a : ((b.length : Int) == 16) = true := by simp [L4.out]
 have n4a : ((b.length : Int) != 4) = true := by rw [bne, h4a]; rfl
 have n16a : ((b.length : Int) != 16) = false := by rw [bne, h16a]; rfl
 clear h16 hF hFT
 go_enter Tryz.func115, Tryz.ntmps115
 go_wp2
 go_loopw [5] (fun i w' => ∃ (k : Nat) (h l : Int), k ≤ b.length ∧ i = .int .i64 k ∧ (0 ≤ h ∧ h ≤ 18446744073709551615) ∧ (0 ≤ l ∧ l ≤ 18446744073709551615) ∧ Hid (fromGo (b.drop k) h l = (F, T)) ∧ From2 w w' 6 h l) (fun i _ => b.length - (intOf i).toNat)
 case atStart => exact ⟨0, 0, 0, Nat.zero_le _, rfl, by omega, by omega, HF, from2_start w 6⟩
 case round =>
  obtain ⟨k, h, l, hk, rfl, hh, hl, hr, x2⟩ := hrel
  have X2 : Hid (From2 w wr 6 h l) := x2
  obtain ⟨c0, c1, c2, r0, r1, r2, fc, fr, bel, hz⟩ := x2
  have hz' : w.heap.size < wr.heap.size := by omega
  by_cases hlt : k < b.length
  ·obtain ⟨bk, off, rfl, hc⟩ := hb.cells (by omega)
   have eg : b.getD k 0 = b[k] := by simp [hlt]
   have hcell := hc k hlt
   have hbl : bk < w.heap.size := World.block_lt_of_cell? w _ hcell
   have hcw := (bel.cell (p := ⟨bk, off + k, none⟩) hbl).trans hcell
   have hne1 : bk ≠ w.heap.size := by omega
   have hne2 : bk ≠ w.heap.size + 1 := by omega
   have hne3 : w.heap.size + 1 ≠ bk := by omega
   have hx := hb.bytes.get k
   have hr1 := hr.out
   rw [List.drop_eq_getElem_cons hlt] at hr1
   rw [eg] at hcell hx hcw
   clear eg hc hcell
   generalize b[k] = x at hcw hx hr1
   have e1 := or_low h (l / 72057594037927936) (by omega) (by omega)
   have e2 := or_low l x (by omega) (by omega)
   have wx : IntKind.u64.wrap x = x := by rw [IntKind.wrap_u64]; omega
   have ilt : (k : Int) < (b.length : Int) := by omega
   have HQ : Hid (fromGo (b.drop (k + 1)) (h * 256 % 18446744073709551616 + l / 72057594037927936) (l * 256 % 18446744073709551616 + x) = (F, T)) := hr1
   clear hr hr1
   go_wp2
   go_region
   all_goals go_wp2
   all_goals exact ⟨⟨k + 1, _, _, by omega, int_eq (by omega), by omega, by omega, HQ, from2_step X2.out⟩, by simp [intOf]; omega⟩
  ·have ilt : ¬ (k : Int) < (b.length : Int) := by omega
   have e : (h, l) = (F, T) := by
    rw [← hr.out, List.drop_eq_nil_of_le (by omega)]; rfl
   injection e with e1 e2
   subst e1
   subst e2
   go_wp2
   exact bodyPost_ret (v := .tuple #[.agg #[.int .i64 6, .int .u64 h, .int .u64 l], .int .i64 0]) (by simp [results, Tryz.results115, go_sem, r0, r1, r2, hz']) rfl
    ⟨rfl, ((bel.setCell (by simp) _).setCell (by simp) _).setCell (by simp) _⟩
set_option maxHeartbeats 1000000 in
theorem rfrom_any (a : Option Addr) (c : Nat) (b : List Int) (w : World) (hb : Row w a b) :
  Calls Tryz.prog 115 #[.slice a b.length c] w fun e w' =>
   e = .returned (.tuple #[(fromB b).1.v, .int .i64 (fromB b).2]) ∧ Below w.heap.size w w' := by
 by_cases h4 : b.length = 4
 ·exact rfrom4 a c b w hb h4
 ·by_cases h16 : b.length = 16
  ·exact rfrom16 a c b w hb h16
  ·have e : fromB b = (⟨0, 0, 0⟩, 1) := by rw [fromB, if_neg h4, if_neg h16]
   rw [e]
   have h4a : ((b.length : Int) == 4) = false := by simp; omega
   have h16a : ((b.length : Int) == 16) = false := by simp; omega
   have n4a : ((b.length : Int) != 4) = true := by rw [bne, h4a]; rfl
   have n16a : ((b.length : Int) != 16) = true := by rw [bne, h16a]; rfl
   clear e h4 h16
   go_enter Tryz.func115, Tryz.ntmps115
   go_wp2
   exact bodyPost_ret (v := .tuple #[.agg #[.int .i64 0, .int .u64 0, .int .u64 0], .int .i64 1]) (by simp [results, Tryz.results115, go_sem]) rfl ⟨rfl, (Below.refl _ _).alloc (Nat.le_refl _) _⟩
end Go.Proofs.YtmfgjicfdjjihaaGreatDoor
namespace Go.Proofs.YtmfgjicfdjjihaaGreatDoor
set_option linter.unusedVariables false
/-- Taking in bytes behind others. -/
theorem fromGo_app (xs ys : List Int) (h l : Int) : fromGo (xs ++ ys) h l = fromGo ys (fromGo xs h l).1 (fromGo xs h l).2 := by
 induction xs generalizing h l with
 | nil => rfl
 | cons x xs ih => exact ih _ _
/-- Both words as one number. -/
def num2 (h l : Int) : Int := h * 18446744073709551616 + l
/-- The n lowest bytes of two words, taken in from 0 on: the words themselves, if they have no higher bytes. -/
theorem from_bytesGo : ∀ (n : Nat) (h l : Int), n ≤ 16 → 0 ≤ h → h < 18446744073709551616 → 0 ≤ l → l < 18446744073709551616 → num2 h l < 256 ^ n → fromGo (bytesGo n h l) 0 0 = (h, l)
 | 0, h, l, _, a, b, c, d, hn => by
  have : num2 h l < 1 := hn
  unfold num2 at this
  have e1 : h = 0 := by omega
  have e2 : l = 0 := by omega
  subst e1 e2
  rfl
 | n + 1, h, l, hn16, a, b, c, d, hn => by
  have e1 : 0 ≤ l / 256 + h * 72057594037927936 % 18446744073709551616 ∧ l / 256 + h * 72057594037927936 % 18446744073709551616 < 18446744073709551616 := by omega
  have hs : num2 (h / 256) (l / 256 + h * 72057594037927936 % 18446744073709551616) < 256 ^ n := by
   rw [Int.pow_succ] at hn
   unfold num2 at hn ⊢
   generalize (256 : Int) ^ n = p at *
   omega
  have ih := from_bytesGo n (h / 256) (l / 256 + h * 72057594037927936 % 18446744073709551616) (by omega) (by omega) (by omega) e1.1 e1.2 hs
  show fromGo (bytesGo n _ _ ++ [l % 256]) 0 0 = _
  rw [fromGo_app, ih]
  show ((h / 256) * 256 % 18446744073709551616 + (l / 256 + h * 72057594037927936 % 18446744073709551616) / 72057594037927936, (l / 256 + h * 72057594037927936 % 18446744073709551616) * 256 % 18446744073709551616 + l % 256) = (h, l)
  congr 1 <;> omega
theorem bytesGo_bytes : ∀ (n : Nat) (h l : Int), M.Bytes (bytesGo n h l)
 | 0, _, _ => M.Bytes.nil
 | n + 1, h, l => (bytesGo_bytes n _ _).app (fun z hz => by simp at hz; omega)
/-- From of Bytes is the address. -/
theorem from_bytes {a : Ad} (ho : a.ok) (hr : a.right = true) : fromB a.bytes = (a, 0) := by
 obtain ⟨⟨_, _⟩, ⟨h0, h1⟩, ⟨l0, l1⟩⟩ := ho
 unfold Ad.bytes
 rw [if_pos hr]
 unfold Ad.right at hr
 by_cases hf : a.fam = 4
 ·rw [if_pos hf] at hr ⊢
  simp only [Bool.and_eq_true, beq_iff_eq] at hr
  unfold fromB
  rw [if_pos (bytesGo_length 4 _ _), from_bytesGo 4 a.hi a.lo (by omega) (by omega) (by omega) (by omega) (by omega) (by unfold num2; omega)]
  cases a
  simp_all
 ·rw [if_neg hf] at hr ⊢
  have h6 : a.fam = 6 := by simpa using hr
  unfold fromB
  rw [if_neg (by rw [bytesGo_length]; omega), if_pos (bytesGo_length 16 _ _), from_bytesGo 16 a.hi a.lo (by omega) (by omega) (by omega) (by omega) (by omega) (by unfold num2; omega)]
  cases a
  simp_all
end Go.Proofs.YtmfgjicfdjjihaaGreatDoor
namespace Go.Proofs.YtmfgjicfdjjihaaGreatDoor
open Go.RowKit
set_option linter.unusedVariables false
set_option linter.unusedSimpArgs false
/-- The address as one number, and its bits from the highest on. -/
def Ad.val (a : Ad) : Int := num2 a.hi a.lo
def Ad.bit (a : Ad) (i : Nat) : Int := a.val / 2 ^ (a.width.toNat - 1 - i) % 2
theorem hi_bit (h l : Int) (m : Nat) (hl0 : 0 ≤ l) (hl1 : l < 18446744073709551616) : num2 h l / 2 ^ (64 + m) = h / 2 ^ m := by
 unfold num2
 rw [Int.pow_add, show (2 : Int) ^ 64 = 18446744073709551616 by decide, ← Int.ediv_ediv_of_nonneg (by omega)]
 congr 1
 omega
theorem lo_bit (h l : Int) (m : Nat) (hm : m < 64) (hl0 : 0 ≤ l) : num2 h l / 2 ^ m % 2 = l / 2 ^ m % 2 := by
 unfold num2
 obtain ⟨d, hd⟩ : ∃ d, 64 = m + (d + 1) := ⟨63 - m, by omega⟩
 have e : (18446744073709551616 : Int) = 2 ^ m * (2 ^ d * 2) := by
  rw [← Int.pow_succ, ← Int.pow_add, ← hd]; decide
 have hp : (2 : Int) ^ m ≠ 0 := by have := pow_pos' m; omega
 rw [e, show h * (2 ^ m * (2 ^ d * 2)) + l = l + 2 ^ m * (h * (2 ^ d * 2)) by
  rw [Int.mul_left_comm, Int.add_comm], Int.add_mul_ediv_left _ _ hp, ← Int.mul_assoc]
 omega
theorem shr_bd (x : Int) (k : Nat) (h0 : 0 ≤ x) (h1 : x ≤ 18446744073709551615) : ∃ q : Nat, x / 2 ^ k = (q : Int) ∧ q < 18446744073709551616 := by
 have hp := pow_pos' k
 have e0 : 0 ≤ x / 2 ^ k := Int.ediv_nonneg h0 (by omega)
 have e1 : x / 2 ^ k ≤ x := Int.ediv_le_self _ h0
 exact ⟨(x / 2 ^ k).toNat, by omega, by omega⟩
set_option maxRecDepth 100000 in
set_option maxHeartbeats 1000000 in
theorem rbit_any (f h l : Int) (i : Nat) (w : World) (ho : Ad.ok ⟨f, h, l⟩) (hr : Ad.right ⟨f, h, l⟩ = true) (hi : (i : Int) < Ad.width ⟨f, h, l⟩) :
  Calls Tryz.prog 128 #[.agg #[.int .i64 f, .int .u64 h, .int .u64 l], .int .i64 i] w fun e w' => e = .returned (.int .i64 (Ad.bit ⟨f, h, l⟩ i)) ∧ w' = w.alloc (.cells #[.int .i64 f, .int .u64 h, .int .u64 l] 31) := by
 obtain ⟨⟨_, _⟩, ⟨h0, h1⟩, ⟨l0, l1⟩⟩ := ho
 simp only at h0 h1 l0 l1
 obtain ⟨T, hT⟩ : ∃ T, Ad.bit ⟨f, h, l⟩ i = T := ⟨_, rfl⟩
 rw [hT]
 by_cases hf : f = 4
 ·subst hf
  have hi' : i < 32 := by unfold Ad.width at hi; simp at hi; omega
  have hh : h = 0 := by simp [Ad.right] at hr; exact hr.1
  obtain ⟨k, hk⟩ : ∃ k : Nat, (31 : Int) - (i : Int) = (k : Int) := ⟨31 - i, by omega⟩
  have hk' : 31 - i = k := by omega
  obtain ⟨q, hq, hq'⟩ := shr_bd l k l0 l1
  have e1 := and1 q hq'
  have HT : Hid (T = ((q % 2 : Nat) : Int)) := by
   show _ = _
   rw [← hT]
   unfold Ad.bit Ad.val
   show num2 h l / 2 ^ ((if (4 : Int) = 4 then (32 : Int) else 128).toNat - 1 - i) % 2 = _
   rw [hh, if_pos rfl, show (32 : Int).toNat - 1 - i = k by simp; omega, show num2 0 l = l by unfold num2; omega, hq]
   omega
  clear hT hi hr hh
  go_enter Tryz.func128, Tryz.ntmps128
  go_wp2
  go_ret
  exact ⟨ret_int (by rw [HT.out]; omega), rfl⟩
 ·have hf6 : f = 6 := by unfold Ad.right at hr; simpa [hf] using hr
  subst hf6
  have hi' : i < 128 := by unfold Ad.width at hi; simp at hi; omega
  by_cases h64 : i < 64
  ·obtain ⟨k, hk⟩ : ∃ k : Nat, (63 : Int) - (i : Int) = (k : Int) := ⟨63 - i, by omega⟩
   obtain ⟨q, hq, hq'⟩ := shr_bd h k h0 h1
   have e1 := and1 q hq'
   have HT : Hid (T = ((q % 2 : Nat) : Int)) := by
    show _ = _
    rw [← hT]
    unfold Ad.bit Ad.val
    show num2 h l / 2 ^ ((if (6 : Int) = 4 then (32 : Int) else 128).toNat - 1 - i) % 2 = _
    rw [if_neg (by decide), show (128 : Int).toNat - 1 - i = 64 + k by simp; omega, hi_bit h l k l0 (by omega), hq]
    omega
   have i64 : (i : Int) < 64 := by omega
   clear hT hi hr
   go_enter Tryz.func128, Tryz.ntmps128
   go_wp2
   go_ret
   exact ⟨ret_int (by rw [HT.out]; omega), rfl⟩
  ·obtain ⟨k, hk⟩ : ∃ k : Nat, (127 : Int) - (i : Int) = (k : Int) := ⟨127 - i, by omega⟩
   obtain ⟨q, hq, hq'⟩ := shr_bd l k l0 l1
   have e1 := and1 q hq'
   have HT : Hid (T = ((q % 2 : Nat) : Int)) := by
    show _ = _
    rw [← hT]
    unfold Ad.bit Ad.val
    show num2 h l / 2 ^ ((if (6 : Int) = 4 then (32 : Int) else 128).toNat - 1 - i) % 2 = _
    rw [if_neg (by decide), show (128 : Int).toNat - 1 - i = k by simp; omega, lo_bit h l k (by omega) l0, hq]
    omega
   have i64 : ¬ (i : Int) < 64 := by omega
   clear hT hi hr
   go_enter Tryz.func128, Tryz.ntmps128
   go_wp2
   go_ret
   exact ⟨ret_int (by rw [HT.out]; omega), rfl⟩
/-- The bytes of an address are its number's, the highest first. -/
theorem bytesGo_val : ∀ (n : Nat) (h l : Int), 0 ≤ h → h < 18446744073709551616 → 0 ≤ l → l < 18446744073709551616 → bytesGo n h l = (List.range n).map fun j => num2 h l / 256 ^ (n - 1 - j) % 256
 | 0, _, _, _, _, _, _ => rfl
 | n + 1, h, l, a, b, c, d => by
  have e1 : 0 ≤ l / 256 + h * 72057594037927936 % 18446744073709551616 ∧ l / 256 + h * 72057594037927936 % 18446744073709551616 < 18446744073709551616 := by omega
  have ih := bytesGo_val n (h / 256) (l / 256 + h * 72057594037927936 % 18446744073709551616) (by omega) (by omega) e1.1 e1.2
  have ev : num2 (h / 256) (l / 256 + h * 72057594037927936 % 18446744073709551616) = num2 h l / 256 := by unfold num2; omega
  show bytesGo n _ _ ++ [l % 256] = _
  rw [ih, ev, List.range_succ, List.map_append]
  congr 1
  ·apply List.map_congr_left
   intro j hj
   have hj' := List.mem_range.1 hj
   rw [show n + 1 - 1 - j = (n - 1 - j) + 1 by omega, Int.pow_succ, Int.mul_comm, ← Int.ediv_ediv_of_nonneg (by omega)]
  ·simp only [List.map_cons, List.map_nil, show n + 1 - 1 - n = 0 by omega, Int.pow_zero, Int.ediv_one]
   congr 1
   unfold num2
   omega
theorem room_of {w : World} {B : Nat} {a : Option Addr} {c : Nat} {l : List Int} (o : Owns w B (.slice a l.length c) l) : l.length ≤ c ∧ (a = none → c = 0) := by
 obtain ⟨a', c', h1, h2, h3, _⟩ := o.form
 cases h1
 exact ⟨h2, h3⟩
theorem or_bit (n d : Nat) (hn : n < 256) (hd : d < 2) : bits .or .i64 ((n : Int) * 2) d = ((n * 2 + d : Nat) : Int) := by
 rw [bits_join .i64 63 (by decide) wraps_i64 1 ((n : Int) * 2) d (by omega) (by omega) (by omega) (by omega) (by omega) (by omega)]; omega
theorem mod_step (V e k : Nat) : V / 2 ^ (e + 1) % 2 ^ k * 2 + V / 2 ^ e % 2 = V / 2 ^ e % 2 ^ (k + 1) := by
 rw [show (2 : Nat) ^ (k + 1) = 2 * 2 ^ k by rw [Nat.pow_succ, Nat.mul_comm], Nat.mod_mul, show (2 : Nat) ^ (e + 1) = 2 ^ e * 2 by rw [Nat.pow_succ], ← Nat.div_div_eq_div_mul]
 omega
/-- The box of an address stands. -/
structure Boxed (w w' : World) (f h l : Int) : Prop where
 a0 : w'.cell? ⟨w.heap.size, 0, none⟩ = some (.int .i64 f)
 a1 : w'.cell? ⟨w.heap.size, 1, none⟩ = some (.int .u64 h)
 a2 : w'.cell? ⟨w.heap.size, 2, none⟩ = some (.int .u64 l)
 bel : Below w.heap.size w w'
 size : w.heap.size < w'.heap.size
theorem Boxed.below {w w' w'' : World} {f h l : Int} (x : Boxed w w' f h l) (hb : Below (w.heap.size + 1) w' w'') : Boxed w w'' f h l :=
  ⟨(hb.cell (p := ⟨w.heap.size, 0, none⟩) (by simp)).trans x.a0, (hb.cell (p := ⟨w.heap.size, 1, none⟩) (by simp)).trans x.a1, (hb.cell (p := ⟨w.heap.size, 2, none⟩) (by simp)).trans x.a2,
   x.bel.trans (hb.mono (by omega)), by have := x.size; have := hb.size; omega⟩
set_option maxRecDepth 100000 in
set_option maxHeartbeats 4000000 in
theorem rbytes_right (f h l : Int) (w : World) (ho : Ad.ok ⟨f, h, l⟩) (hr : Ad.right ⟨f, h, l⟩ = true) :
  Calls Tryz.prog 114 #[.agg #[.int .i64 f, .int .u64 h, .int .u64 l]] w fun e w' => ∃ a c, e = .returned (.slice a (Ad.bytes ⟨f, h, l⟩).length c) ∧ Fresh w w' a c (Ad.bytes ⟨f, h, l⟩) := by
 have hok := ho
 obtain ⟨⟨_, _⟩, ⟨h0, h1⟩, ⟨l0, l1⟩⟩ := ho
 simp only at h0 h1 l0 l1
 obtain ⟨N, hN⟩ : ∃ N : Nat, (if f = 4 then 4 else 16) = N := ⟨_, rfl⟩
 have hN16 : N ≤ 16 := by rw [← hN]; split <;> omega
 have ew : Ad.width ⟨f, h, l⟩ = (N : Int) * 8 := by unfold Ad.width; simp only; rw [← hN]; split <;> simp
 have es : (if f = 4 then (32 : Int) else 128) = (N : Int) * 8 := ew
 obtain ⟨V, hV⟩ : ∃ V : Nat, Ad.val ⟨f, h, l⟩ = (V : Int) := ⟨(num2 h l).toNat, by unfold Ad.val num2; simp only; omega⟩
 have eb : Ad.bytes ⟨f, h, l⟩ = (List.range N).map fun j => ((V / 256 ^ (N - 1 - j) % 256 : Nat) : Int) := by
  unfold Ad.bytes
  rw [if_pos hr]
  show bytesGo (if f = 4 then 4 else 16) h l = _
  rw [hN, bytesGo_val N h l h0 (by omega) l0 (by omega)]
  apply List.map_congr_left
  intro j _
  have : num2 h l = (V : Int) := hV
  rw [this]
  norm_cast
 have kb : ∀ i : Nat, i < 8 * N → ∀ w, Calls Tryz.prog 128 #[.agg #[.int .i64 f, .int .u64 h, .int .u64 l], .int .i64 i] w fun e w' => e = .returned (.int .i64 ((V / 2 ^ (8 * N - 1 - i) % 2 : Nat) : Int)) ∧ w' = w.alloc (.cells #[.int .i64 f, .int .u64 h, .int .u64 l] 31) := fun i hi w => by
  have := rbit_any f h l i w hok hr (by rw [ew]; omega)
  have e : Ad.bit ⟨f, h, l⟩ i = ((V / 2 ^ (8 * N - 1 - i) % 2 : Nat) : Int) := by
   unfold Ad.bit
   rw [hV, ew, show ((N : Int) * 8).toNat = 8 * N by omega]
   norm_cast
  rwa [e] at this
 have krr : ∀ w, Calls Tryz.prog 41 #[.agg #[.int .i64 f, .int .u64 h, .int .u64 l]] w fun e w' => e = .returned (.bool true) ∧ w' = w.alloc (.cells #[.int .i64 f, .int .u64 h, .int .u64 l] 31) := fun w => by
  have := rright_any f h l w l0
  rwa [hr] at this
 have ks : ∀ w, Calls Tryz.prog 127 #[.int .i64 f] w fun e w' => e = .returned (.int .i64 ((N : Int) * 8)) ∧ w' = w := fun w => by
  have := rsize_any f w
  rwa [es] at this
 rw [eb]
 generalize hB : ((List.range N).map fun j => ((V / 256 ^ (N - 1 - j) % 256 : Nat) : Int)) = Bs
 have HB : Hid _ := hB
 have hBl : Hid (Bs.length = N) := by show _ = _; rw [← hB]; simp
 have hget : Hid (∀ j, j < N → Bs.getD j 0 = ((V / 256 ^ (N - 1 - j) % 256 : Nat) : Int)) := fun j hj => by rw [← hB]; simp [hj]
 clear hB HB eb ew es hN hr hok hV h0 h1 l0 l1
 go_enter Tryz.func114, Tryz.ntmps114
 go_wp2_with (go_at_call 41; refine (krr _).mono ?_; rintro e w' ⟨rfl, rfl⟩)
 have X0 : Boxed w ((w.alloc (.cells #[.int .i64 f, .int .u64 h, .int .u64 l] 31)).alloc (.cells #[.int .i64 f, .int .u64 h, .int .u64 l] 31)) f h l := ⟨by simp [go_sem], by simp [go_sem], by simp [go_sem], ((Below.refl _ _).alloc (Nat.le_refl _) _).alloc (by simp) _, by simp; omega⟩
 generalize (w.alloc (.cells #[.int .i64 f, .int .u64 h, .int .u64 l] 31)).alloc (.cells #[.int .i64 f, .int .u64 h, .int .u64 l] 31) = w0 at *
 go_loopw [3, 4] (fun o i w' => ∃ (j : Nat) (r : List Int) (a : Option Addr) (c : Nat), j ≤ N ∧ i = .int .i64 ((8 * j : Nat) : Int) ∧ o = .slice a r.length c ∧ r.length ≤ j ∧ M.Bytes r ∧ Owns w' (w.heap.size + 1) (.slice a r.length c) r ∧ Boxed w w' f h l ∧ Hid (r = Bs.take j)) (fun _ i _ => 8 * N - (intOf i).toNat)
 case atStart => exact ⟨0, [], none, 0, Nat.zero_le _, rfl, rfl, Nat.le_refl _, M.Bytes.nil, Owns.nil _ _, X0, rfl⟩
 case round =>
  obtain ⟨j, r, a, c, hj, rfl, rfl, hrl, hrb, own, X, hT⟩ := hrel
  obtain ⟨a0, a1, a2, bel, hz⟩ := X
  by_cases hlt : j < N
  ·have ilt : ((8 * j : Nat) : Int) < (N : Int) * 8 := by omega
   have hj8 : 8 * j + 8 ≤ 8 * N := by omega
   obtain ⟨p, hp⟩ : ∃ p, 8 * j = p := ⟨_, rfl⟩
   have HP : Hid (8 * j = p) := hp
   rw [hp] at ilt hj8 ⊢
   clear hp
   have X1 : Boxed w wr f h l := ⟨a0, a1, a2, bel, hz⟩
   go_upto_region 9 with (go_at_call 127; refine (ks _).mono ?_; rintro e w' ⟨rfl, hw'⟩; subst hw')
   clear a0 a1 a2 bel hz
   go_wp2
   go_loopw [5, 6] (fun n k w'' => ∃ (t m : Nat), t ≤ 8 ∧ k = .int .i64 t ∧ n = .int .i64 m ∧ m < 256 ∧ Hid (m = V / 2 ^ (8 * N - p - t) % 2 ^ t) ∧ Owns w'' (w.heap.size + 1) (.slice a r.length c) r ∧ Boxed w w'' f h l) (fun _ k _ => 8 - (intOf k).toNat)
   case atStart => exact ⟨0, 0, by omega, rfl, rfl, by omega, (by show 0 = _; simp [Nat.mod_one]), own, X1⟩
   case round =>
    obtain ⟨t, m, ht, rfl, rfl, hm, hM, own2, Y⟩ := hrel
    obtain ⟨a0, a1, a2, bel, hz⟩ := Y
    by_cases ht8 : t < 8
    ·have it8 : (t : Int) < 8 := by omega
     have kbt := kb (p + t) (by omega)
     rw [show ((p + t : Nat) : Int) = (p : Int) + (t : Int) by omega] at kbt
     obtain ⟨d, hd⟩ : ∃ d, V / 2 ^ (8 * N - 1 - (p + t)) % 2 = d := ⟨_, rfl⟩
     rw [hd] at kbt
     have hd2 : d < 2 := by rw [← hd]; exact Nat.mod_lt _ (by decide)
     have hm128 : m < 2 ^ t := by rw [hM.out]; exact Nat.mod_lt _ (Nat.two_pow_pos t)
     have hm7 : m < 128 := Nat.lt_of_lt_of_le hm128 (Nat.pow_le_pow_right (n := 2) (j := 7) (by decide) (by omega))
     have eor := or_bit m d hm hd2
     have hM2 : Hid (m * 2 + d = V / 2 ^ (8 * N - p - (t + 1)) % 2 ^ (t + 1)) := by
      show _ = _
      have := mod_step V (8 * N - p - (t + 1)) t
      rw [show 8 * N - p - (t + 1) + 1 = 8 * N - p - t by omega, ← hM.out, show 8 * N - p - (t + 1) = 8 * N - 1 - (p + t) by omega, hd] at this
      rw [this, show 8 * N - p - (t + 1) = 8 * N - 1 - (p + t) by omega]
     have Z := (Below.refl (w.heap.size + 1) wr).alloc (by omega) (.cells #[.int .i64 f, .int .u64 h, .int .u64 l] 31)
     have Y2 := (⟨a0, a1, a2, bel, hz⟩ : Boxed w wr f h l).below Z
     clear hd hM hm128
     go_wp2_with (go_at_call 128; refine (kbt _).mono ?_; rintro e w' ⟨rfl, rfl⟩)
     exact ⟨⟨t + 1, m * 2 + d, by omega, int_eq (by omega), int_eq (by omega), by omega, hM2, own2.alloc _, Y2⟩, by simp [intOf]; omega⟩
    ·have et : t = 8 := by omega
     subst et
     have it8 : ¬ ((8 : Nat) : Int) < 8 := by omega
     have hbyte : (m : Int) = Bs.getD j 0 := by
      rw [hget.out j hlt, hM.out]
      have : 2 ^ (8 * N - p - 8) = 256 ^ (N - 1 - j) := by
       rw [show (256 : Nat) = 2 ^ 8 from rfl, ← Nat.pow_mul]
       congr 1
       have := HP.out
       omega
      rw [this]
     obtain ⟨r2, hr2⟩ : ∃ r2, r ++ [(m : Int)] = r2 := ⟨_, rfl⟩
     have HR2 : Hid (r ++ [(m : Int)] = r2) := hr2
     have hT2 : Hid (r2 = Bs.take (j + 1)) := by
      show _ = _
      rw [← hr2, hT.out, hbyte, List.take_succ_eq_append_getElem (by rw [hBl.out]; exact hlt)]
      congr 1
      rw [List.getD_eq_getElem?_getD, List.getElem?_eq_getElem (by rw [hBl.out]; exact hlt)]
      rfl
     have hl2 : r2.length ≤ j + 1 := by rw [← hr2]; simp; omega
     have hb2 : M.Bytes r2 := by rw [← hr2]; exact hrb.app (fun z hz => by simp at hz; omega)
     have um : IntKind.u8.wrap (m : Int) = (m : Int) := by rw [IntKind.wrap_u8]; omega
     have Y : Boxed w wr f h l := ⟨a0, a1, a2, bel, hz⟩
     clear hr2 hbyte hM
     go_wp2_with (at_builtin; refine wpList_app2 _ rfl _ _ rfl (w.heap.size + 1) _ r rfl (own2.alloc _) hrb _ 1 [(m : Int)] rfl ?row (fun hh => by cases hh) r2 HR2.out ?c1 ?c2 ?_)
     case row =>
      refine row_at _ 5 [(m : Int)] _ (by first | rfl | simp) (by simp) ?_
      intro z hz
      simp at hz
      omega
     case c1 => omega
     case c2 => first | omega | (simp; omega)
     intro a3 c3 w3 o3 hc3 hn3 r3 b3 _
     have Z := ((Below.refl (w.heap.size + 1) wr).alloc (by omega) (.cells #[.int .u8 (m : Int)] 5)).trans b3
     go_wp2
     exact ⟨⟨j + 1, r2, a3, c3, by omega, int_eq (by have := HP.out; omega), rfl, hl2, hb2, o3, Y.below Z, hT2⟩, by have := HP.out; simp [intOf]; omega⟩
  ·have ej : j = N := by omega
   have ilt : ¬ ((8 * j : Nat) : Int) < (N : Int) * 8 := by omega
   obtain rfl : r = Bs := by rw [hT.out, ej, ← hBl.out, List.take_length]
   have rm := room_of own
   clear ej
   go_wp2_with (go_at_call 127; refine (ks _).mono ?_; rintro e w' ⟨rfl, hw'⟩; subst hw')
   go_ret
   exact ⟨a, c, rfl, owns_le (by omega) own, rm.1, rm.2, own.row (by omega) hrb, bel⟩
end Go.Proofs.YtmfgjicfdjjihaaGreatDoor
