/- Texts joined: RFrm -/
import Derived.Test.YtnadfacbfcdkgaaDoorFsa7
import Derived.RegionTactic
import Derived.BigRegion
import Derived.Deep.RegionHeld3
namespace Go.Proofs.YtnadfacbfcdkgaaDoor
open Go.RowKit
set_option linter.unusedVariables false
set_option linter.unusedSimpArgs false
theorem list4 {b : List Int} (h : b.length = 4) : ∃ b0 b1 b2 b3, b = [b0, b1, b2, b3] := by
  match b, h with
  | [b0, b1, b2, b3], _ => exact ⟨_, _, _, _, rfl⟩
theorem from4_hi (b : List Int) (hb : M.Bytes b) (h4 : b.length = 4) : (fromGo b 0 0).1 = 0 := by
  obtain ⟨b0, b1, b2, b3, rfl⟩ := list4 h4
  have h0 := hb b0 (by simp)
  have h1 := hb b1 (by simp)
  have h2 := hb b2 (by simp)
  simp only [fromGo]
  omega
/-- The two blocks of the reference's From: what it will answer, and the address at hand. -/
structure From2 (w w' : World) (f h l : Int) : Prop where
  c0 : w'.cell? ⟨w.heap.size + 1, 0, none⟩ = some (.int .i64 f)
  c1 : w'.cell? ⟨w.heap.size + 1, 1, none⟩ = some (.int .u64 h)
  c2 : w'.cell? ⟨w.heap.size + 1, 2, none⟩ = some (.int .u64 l)
  r0 : w'.cell? ⟨w.heap.size, 0, none⟩ = some (.int .i64 0)
  r1 : w'.cell? ⟨w.heap.size, 1, none⟩ = some (.int .u64 0)
  r2 : w'.cell? ⟨w.heap.size, 2, none⟩ = some (.int .u64 0)
  fc : ∀ o, w'.frozen? ⟨w.heap.size + 1, o, none⟩ = false
  fr : ∀ o, w'.frozen? ⟨w.heap.size, o, none⟩ = false
  bel : Below w.heap.size w w'
  size : w.heap.size + 1 < w'.heap.size
theorem from2_start (w : World) (f : Int) : From2 w ((w.alloc (.cells #[.int .i64 0, .int .u64 0, .int .u64 0] 30)).alloc (.cells #[.int .i64 f, .int .u64 0, .int .u64 0] 30)) f 0 0 :=
  ⟨by simp [go_sem], by simp [go_sem], by simp [go_sem], by simp [go_sem], by simp [go_sem], by simp [go_sem], fun o => by simp [go_sem], fun o => by simp [go_sem], ((Below.refl _ _).alloc (Nat.le_refl _) _).alloc (by simp) _, by simp⟩
theorem from2_step {w wr : World} {f h l h1 l1 : Int} (x : From2 w wr f h l) : From2 w ((wr.setCell ⟨w.heap.size + 1, 1, none⟩ (.int .u64 h1)).setCell ⟨w.heap.size + 1, 2, none⟩ (.int .u64 l1)).drew f h1 l1 :=
  ⟨by show ((wr.setCell _ _).setCell _ _).cell? _ = _; rw [put_other (by simp), put_other (by simp)]; exact x.c0,
   by show ((wr.setCell _ _).setCell _ _).cell? _ = _; rw [put_other (by simp)]; exact put_same x.c1,
   by show ((wr.setCell _ _).setCell _ _).cell? _ = _; exact put_same (u := .int .u64 l) (by rw [put_other (by simp)]; exact x.c2),
   by show ((wr.setCell _ _).setCell _ _).cell? _ = _; rw [put_other (by simp), put_other (by simp)]; exact x.r0,
   by show ((wr.setCell _ _).setCell _ _).cell? _ = _; rw [put_other (by simp), put_other (by simp)]; exact x.r1,
   by show ((wr.setCell _ _).setCell _ _).cell? _ = _; rw [put_other (by simp), put_other (by simp)]; exact x.r2,
   fun o => by show ((wr.setCell _ _).setCell _ _).frozen? _ = _; simp [x.fc], fun o => by show ((wr.setCell _ _).setCell _ _).frozen? _ = _; simp [x.fr],
   ((x.bel.setCell (by simp) _).setCell (by simp) _).drew, by show _ < ((wr.setCell _ _).setCell _ _).heap.size; simp; exact x.size⟩
set_option maxRecDepth 100000 in
set_option maxHeartbeats 2000000 in
theorem rfrom4 (a : Option Addr) (c : Nat) (b : List Int) (w : World) (hb : Row w a b) (h4 : b.length = 4) :
    Calls Tryd.prog 36 #[.slice a b.length c] w fun e w' =>
      e = .returned (.tuple #[(fromB b).1.v, .int .i64 (fromB b).2]) ∧ Below w.heap.size w w' := by
  have hsm := hb.small
  have h40 := from4_hi b hb.bytes h4
  have hF : fromB b = (⟨4, 0, (fromGo b 0 0).2⟩, 0) := by rw [fromB, if_pos h4, h40]
  rw [hF]
  obtain ⟨F, T, hFT⟩ : ∃ F T, (F, T) = fromGo b 0 0 := ⟨_, _, rfl⟩
  rw [← hFT]
  have HF : Hid (fromGo b 0 0 = (F, T)) := hFT.symm
  have L4 : Hid (b.length = 4) := h4
  have h4a : ((b.length : Int) == 4) = true := by simp [L4.out]
  have h16a : ((b.length : Int) == 16) = false := by simp [L4.out]
  have n4a : ((b.length : Int) != 4) = false := by rw [bne, h4a]; rfl
  have n16a : ((b.length : Int) != 16) = true := by rw [bne, h16a]; rfl
  clear h4 hF hFT h40
  go_enter Tryd.func36, Tryd.ntmps36
  go_wp2
  go_loopw [5] (fun i w' => ∃ (k : Nat) (h l : Int), k ≤ b.length ∧ i = .int .i64 k ∧ (0 ≤ h ∧ h ≤ 18446744073709551615) ∧ (0 ≤ l ∧ l ≤ 18446744073709551615) ∧ Hid (fromGo (b.drop k) h l = (F, T)) ∧ From2 w w' 4 h l) (fun i _ => b.length - (intOf i).toNat)
  case atStart => exact ⟨0, 0, 0, Nat.zero_le _, rfl, by omega, by omega, HF, from2_start w 4⟩
  case round =>
    obtain ⟨k, h, l, hk, rfl, hh, hl, hr, x2⟩ := hrel
    have X2 : Hid (From2 w wr 4 h l) := x2
    obtain ⟨c0, c1, c2, r0, r1, r2, fc, fr, bel, hz⟩ := x2
    have hz' : w.heap.size < wr.heap.size := by omega
    by_cases hlt : k < b.length
    · obtain ⟨bk, off, rfl, hc⟩ := hb.cells (by omega)
      have eg : b.getD k 0 = b[k] := by simp [hlt]
      have hcell := hc k hlt
      have hbl : bk < w.heap.size := World.block_lt_of_cell? w _ hcell
      have hcw := (bel.cell (p := ⟨bk, off + k, none⟩) hbl).trans hcell
      have hne1 : bk ≠ w.heap.size := by omega
      have hne2 : bk ≠ w.heap.size + 1 := by omega
      have hne3 : w.heap.size + 1 ≠ bk := by omega
      have hx := hb.bytes.get k
      have hr1 := hr.out
      rw [List.drop_eq_getElem_cons hlt] at hr1
      rw [eg] at hcell hx hcw
      clear eg hc hcell
      generalize b[k] = x at hcw hx hr1
      have e1 := or_low h (l / 72057594037927936) (by omega) (by omega)
      have e2 := or_low l x (by omega) (by omega)
      have wx : IntKind.u64.wrap x = x := by rw [IntKind.wrap_u64]; omega
      have ilt : (k : Int) < (b.length : Int) := by omega
      have HQ : Hid (fromGo (b.drop (k + 1)) (h * 256 % 18446744073709551616 + l / 72057594037927936) (l * 256 % 18446744073709551616 + x) = (F, T)) := hr1
      clear hr hr1
      go_wp2
      go_region
      all_goals go_wp2
      all_goals exact ⟨⟨k + 1, _, _, by omega, int_eq (by omega), by omega, by omega, HQ, from2_step X2.out⟩, by simp [intOf]; omega⟩
    · have ilt : ¬ (k : Int) < (b.length : Int) := by omega
      have e : (h, l) = (F, T) := by
        rw [← hr.out, List.drop_eq_nil_of_le (by omega)]; rfl
      injection e with e1 e2
      subst e1
      subst e2
      go_wp2
      exact bodyPost_ret (v := .tuple #[.agg #[.int .i64 4, .int .u64 0, .int .u64 l], .int .i64 0]) (by simp [results, Tryd.results36, go_sem, r0, r1, r2, hz']) rfl
        ⟨rfl, (((bel.setCell (by simp) _).setCell (by simp) _).setCell (by simp) _).setCell (by simp) _⟩
set_option maxRecDepth 100000 in
set_option maxHeartbeats 2000000 in
theorem rfrom16 (a : Option Addr) (c : Nat) (b : List Int) (w : World) (hb : Row w a b) (h16 : b.length = 16) :
    Calls Tryd.prog 36 #[.slice a b.length c] w fun e w' =>
      e = .returned (.tuple #[(fromB b).1.v, .int .i64 (fromB b).2]) ∧ Below w.heap.size w w' := by
  have hsm := hb.small
  have hF : fromB b = (⟨6, (fromGo b 0 0).1, (fromGo b 0 0).2⟩, 0) := by rw [fromB, if_neg (by omega), if_pos h16]
  rw [hF]
  obtain ⟨F, T, hFT⟩ : ∃ F T, (F, T) = fromGo b 0 0 := ⟨_, _, rfl⟩
  rw [← hFT]
  have HF : Hid (fromGo b 0 0 = (F, T)) := hFT.symm
  have L4 : Hid (b.length = 16) := h16
  have h4a : ((b.length : Int) == 4) = false := by simp [L4.out]
  have h16a : ((b.length : Int) == 16) = true := by simp [L4.out]
  have n4a : ((b.length : Int) != 4) = true := by rw [bne, h4a]; rfl
  have n16a : ((b.length : Int) != 16) = false := by rw [bne, h16a]; rfl
  clear h16 hF hFT
  go_enter Tryd.func36, Tryd.ntmps36
  go_wp2
  go_loopw [5] (fun i w' => ∃ (k : Nat) (h l : Int), k ≤ b.length ∧ i = .int .i64 k ∧ (0 ≤ h ∧ h ≤ 18446744073709551615) ∧ (0 ≤ l ∧ l ≤ 18446744073709551615) ∧ Hid (fromGo (b.drop k) h l = (F, T)) ∧ From2 w w' 6 h l) (fun i _ => b.length - (intOf i).toNat)
  case atStart => exact ⟨0, 0, 0, Nat.zero_le _, rfl, by omega, by omega, HF, from2_start w 6⟩
  case round =>
    obtain ⟨k, h, l, hk, rfl, hh, hl, hr, x2⟩ := hrel
    have X2 : Hid (From2 w wr 6 h l) := x2
    obtain ⟨c0, c1, c2, r0, r1, r2, fc, fr, bel, hz⟩ := x2
    have hz' : w.heap.size < wr.heap.size := by omega
    by_cases hlt : k < b.length
    · obtain ⟨bk, off, rfl, hc⟩ := hb.cells (by omega)
      have eg : b.getD k 0 = b[k] := by simp [hlt]
      have hcell := hc k hlt
      have hbl : bk < w.heap.size := World.block_lt_of_cell? w _ hcell
      have hcw := (bel.cell (p := ⟨bk, off + k, none⟩) hbl).trans hcell
      have hne1 : bk ≠ w.heap.size := by omega
      have hne2 : bk ≠ w.heap.size + 1 := by omega
      have hne3 : w.heap.size + 1 ≠ bk := by omega
      have hx := hb.bytes.get k
      have hr1 := hr.out
      rw [List.drop_eq_getElem_cons hlt] at hr1
      rw [eg] at hcell hx hcw
      clear eg hc hcell
      generalize b[k] = x at hcw hx hr1
      have e1 := or_low h (l / 72057594037927936) (by omega) (by omega)
      have e2 := or_low l x (by omega) (by omega)
      have wx : IntKind.u64.wrap x = x := by rw [IntKind.wrap_u64]; omega
      have ilt : (k : Int) < (b.length : Int) := by omega
      have HQ : Hid (fromGo (b.drop (k + 1)) (h * 256 % 18446744073709551616 + l / 72057594037927936) (l * 256 % 18446744073709551616 + x) = (F, T)) := hr1
      clear hr hr1
      go_wp2
      go_region
      all_goals go_wp2
      all_goals exact ⟨⟨k + 1, _, _, by omega, int_eq (by omega), by omega, by omega, HQ, from2_step X2.out⟩, by simp [intOf]; omega⟩
    · have ilt : ¬ (k : Int) < (b.length : Int) := by omega
      have e : (h, l) = (F, T) := by
        rw [← hr.out, List.drop_eq_nil_of_le (by omega)]; rfl
      injection e with e1 e2
      subst e1
      subst e2
      go_wp2
      exact bodyPost_ret (v := .tuple #[.agg #[.int .i64 6, .int .u64 h, .int .u64 l], .int .i64 0]) (by simp [results, Tryd.results36, go_sem, r0, r1, r2, hz']) rfl
        ⟨rfl, ((bel.setCell (by simp) _).setCell (by simp) _).setCell (by simp) _⟩
set_option maxHeartbeats 1000000 in
theorem rfrom_any (a : Option Addr) (c : Nat) (b : List Int) (w : World) (hb : Row w a b) :
    Calls Tryd.prog 36 #[.slice a b.length c] w fun e w' =>
      e = .returned (.tuple #[(fromB b).1.v, .int .i64 (fromB b).2]) ∧ Below w.heap.size w w' := by
  by_cases h4 : b.length = 4
  · exact rfrom4 a c b w hb h4
  · by_cases h16 : b.length = 16
    · exact rfrom16 a c b w hb h16
    · have e : fromB b = (⟨0, 0, 0⟩, 1) := by rw [fromB, if_neg h4, if_neg h16]
      rw [e]
      have h4a : ((b.length : Int) == 4) = false := by simp; omega
      have h16a : ((b.length : Int) == 16) = false := by simp; omega
      have n4a : ((b.length : Int) != 4) = true := by rw [bne, h4a]; rfl
      have n16a : ((b.length : Int) != 16) = true := by rw [bne, h16a]; rfl
      clear e h4 h16
      go_enter Tryd.func36, Tryd.ntmps36
      go_wp2
      exact bodyPost_ret (v := .tuple #[.agg #[.int .i64 0, .int .u64 0, .int .u64 0], .int .i64 1]) (by simp [results, Tryd.results36, go_sem]) rfl ⟨rfl, (Below.refl _ _).alloc (Nat.le_refl _) _⟩
end Go.Proofs.YtnadfacbfcdkgaaDoor
