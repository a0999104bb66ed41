/- Texts joined: Frm -/
import Derived.Test.YtnadfacbfcdkgaaDoorFsa2
import Derived.Deep.QuietTactic
import Derived.BigQuiet
namespace Go.Proofs.YtnadfacbfcdkgaaDoor
open Go.RowKit
set_option linter.unusedVariables false
set_option linter.unusedSimpArgs false
/-- Bytes taken in, the highest first. -/
def fromGo : List Int → Int → Int → Int × Int
  | [], h, l => (h, l)
  | x :: xs, h, l => fromGo xs (h * 256 % 18446744073709551616 + l / 72057594037927936) (l * 256 % 18446744073709551616 + x)
def fromB (b : List Int) : Ad × Int :=
  if b.length = 4 then (⟨4, (fromGo b 0 0).1, (fromGo b 0 0).2⟩, 0) else if b.length = 16 then (⟨6, (fromGo b 0 0).1, (fromGo b 0 0).2⟩, 0) else (⟨0, 0, 0⟩, 1)
theorem wraps_u64 (n : Int) (h₀ : 0 ≤ n) (h₁ : n < 2 ^ 64) : IntKind.u64.wrap n = n := by rw [IntKind.wrap_u64]; omega
theorem or_low (x y : Int) (hy0 : 0 ≤ y) (hy1 : y < 256) : bits .or .u64 (IntKind.u64.wrap (x * 256)) y = x * 256 % 18446744073709551616 + y := by
  rw [IntKind.wrap_u64]
  exact bits_join .u64 64 (by decide) wraps_u64 8 _ y (by omega) (by omega) (by omega) hy0 (by omega) (by omega)
set_option maxHeartbeats 1000000 in
theorem from_any (a : Option Addr) (c : Nat) (b : List Int) (w : World) (hb : Row w a b) :
    Calls Tryd.prog 41 #[.slice a b.length c] w fun e w' =>
      e = .returned (.tuple #[(fromB b).1.v, .int .i64 (fromB b).2]) ∧ Below w.heap.size w w' := by
  have hsm := hb.small
  obtain ⟨F, T, hF⟩ : ∃ F T, (F, T) = fromGo b 0 0 := ⟨_, _, rfl⟩
  have go : ∀ (f : Int), (f = 4 ∧ b.length = 4) ∨ (f = 6 ∧ b.length = 16) → fromB b = (⟨f, F, T⟩, 0) := by
    rintro f (⟨rfl, h⟩ | ⟨rfl, h⟩)
    · rw [fromB, if_pos h, ← hF]
    · rw [fromB, if_neg (by omega), if_pos h, ← hF]
  have HF : Hid (fromGo b 0 0 = (F, T)) := hF.symm
  clear hF
  by_cases h4 : b.length = 4
  · rw [go 4 (.inl ⟨rfl, h4⟩)]
    have L4 : Hid (b.length = 4) := h4
    have h4a : ((b.length : Int) == 4) = true := by simp [L4.out]
    clear h4 go
    go_enter Tryd.func41, Tryd.ntmps41
    go_wp2
    go_loopw [18] (fun i w' => ∃ (k : Nat) (h l : Int), k ≤ b.length ∧ i = .int .i64 k ∧ (0 ≤ h ∧ h ≤ 18446744073709551615) ∧ (0 ≤ l ∧ l ≤ 18446744073709551615) ∧ Hid (fromGo (b.drop k) h l = (F, T)) ∧
        w' = (w.alloc (.cells #[.int .i64 0, .int .u64 0, .int .u64 0] 30)).alloc (.cells #[.int .i64 4, .int .u64 h, .int .u64 l] 30)) (fun i _ => b.length - (intOf i).toNat)
    case atStart => exact ⟨0, 0, 0, Nat.zero_le _, rfl, by omega, by omega, HF, rfl⟩
    case round =>
      obtain ⟨k, h, l, hk, rfl, hh, hl, hr, rfl⟩ := hrel
      by_cases hlt : k < b.length
      · obtain ⟨bk, off, rfl, hc⟩ := hb.cells (by omega)
        have eg : b.getD k 0 = b[k] := by simp [hlt]
        have hcell := hc k hlt
        have hbl : bk < w.heap.size := World.block_lt_of_cell? w _ hcell
        have hne1 : bk ≠ w.heap.size := by omega
        have hne2 : bk ≠ w.heap.size + 1 := by omega
        have hx := hb.bytes.get k
        have hr1 := hr.out
        rw [List.drop_eq_getElem_cons hlt] at hr1
        rw [eg] at hcell hx
        clear eg hc
        generalize b[k] = x at hcell hx hr1
        have e1 := or_low h (l / 72057594037927936) (by omega) (by omega)
        have e2 := or_low l x (by omega) (by omega)
        have ilt : (k : Int) < (b.length : Int) := by omega
        have HQ : Hid (fromGo (b.drop (k + 1)) (h * 256 % 18446744073709551616 + l / 72057594037927936) (l * 256 % 18446744073709551616 + x) = (F, T)) := hr1
        clear hr hr1
        go_wp2
        exact ⟨⟨k + 1, _, _, by omega, int_eq (by omega), by omega, by omega, HQ, rfl⟩, by simp [intOf]; omega⟩
      · have ilt : ¬ (k : Int) < (b.length : Int) := by omega
        have e : (h, l) = (F, T) := by
          rw [← hr.out, List.drop_eq_nil_of_le (by omega)]; rfl
        injection e with e1 e2
        subst e1
        subst e2
        go_wp2
        exact bodyPost_ret (v := .tuple #[.agg #[.int .i64 4, .int .u64 h, .int .u64 l], .int .i64 0]) (by simp [results, Tryd.results41, go_sem]) rfl ⟨rfl, ((Below.refl _ _).alloc (Nat.le_refl _) _).alloc (by simp) _⟩
  · by_cases h16 : b.length = 16
    · rw [go 6 (.inr ⟨rfl, h16⟩)]
      have L4 : Hid (b.length = 16) := h16
      have h4a : ((b.length : Int) == 4) = false := by simp [L4.out]
      have h16a : ((b.length : Int) == 16) = true := by simp [L4.out]
      clear h4 h16 go
      go_enter Tryd.func41, Tryd.ntmps41
      go_wp2
      go_loopw [18] (fun i w' => ∃ (k : Nat) (h l : Int), k ≤ b.length ∧ i = .int .i64 k ∧ (0 ≤ h ∧ h ≤ 18446744073709551615) ∧ (0 ≤ l ∧ l ≤ 18446744073709551615) ∧ Hid (fromGo (b.drop k) h l = (F, T)) ∧
          w' = (w.alloc (.cells #[.int .i64 0, .int .u64 0, .int .u64 0] 30)).alloc (.cells #[.int .i64 6, .int .u64 h, .int .u64 l] 30)) (fun i _ => b.length - (intOf i).toNat)
      case atStart => exact ⟨0, 0, 0, Nat.zero_le _, rfl, by omega, by omega, HF, rfl⟩
      case round =>
        obtain ⟨k, h, l, hk, rfl, hh, hl, hr, rfl⟩ := hrel
        by_cases hlt : k < b.length
        · obtain ⟨bk, off, rfl, hc⟩ := hb.cells (by omega)
          have eg : b.getD k 0 = b[k] := by simp [hlt]
          have hcell := hc k hlt
          have hbl : bk < w.heap.size := World.block_lt_of_cell? w _ hcell
          have hne1 : bk ≠ w.heap.size := by omega
          have hne2 : bk ≠ w.heap.size + 1 := by omega
          have hx := hb.bytes.get k
          have hr1 := hr.out
          rw [List.drop_eq_getElem_cons hlt] at hr1
          rw [eg] at hcell hx
          clear eg hc
          generalize b[k] = x at hcell hx hr1
          have e1 := or_low h (l / 72057594037927936) (by omega) (by omega)
          have e2 := or_low l x (by omega) (by omega)
          have ilt : (k : Int) < (b.length : Int) := by omega
          have HQ : Hid (fromGo (b.drop (k + 1)) (h * 256 % 18446744073709551616 + l / 72057594037927936) (l * 256 % 18446744073709551616 + x) = (F, T)) := hr1
          clear hr hr1
          go_wp2
          exact ⟨⟨k + 1, _, _, by omega, int_eq (by omega), by omega, by omega, HQ, rfl⟩, by simp [intOf]; omega⟩
        · have ilt : ¬ (k : Int) < (b.length : Int) := by omega
          have e : (h, l) = (F, T) := by
            rw [← hr.out, List.drop_eq_nil_of_le (by omega)]; rfl
          injection e with e1 e2
          subst e1
          subst e2
          go_wp2
          exact bodyPost_ret (v := .tuple #[.agg #[.int .i64 6, .int .u64 h, .int .u64 l], .int .i64 0]) (by simp [results, Tryd.results41, go_sem]) rfl ⟨rfl, ((Below.refl _ _).alloc (Nat.le_refl _) _).alloc (by simp) _⟩
    · have e : fromB b = (⟨0, 0, 0⟩, 1) := by rw [fromB, if_neg h4, if_neg h16]
      rw [e]
      have h4a : ((b.length : Int) == 4) = false := by simp; omega
      have h16a : ((b.length : Int) == 16) = false := by simp; omega
      clear e go HF h4 h16
      go_enter Tryd.func41, Tryd.ntmps41
      go_wp2
      exact bodyPost_ret (v := .tuple #[.agg #[.int .i64 0, .int .u64 0, .int .u64 0], .int .i64 1]) (by simp [results, Tryd.results41, go_sem]) rfl ⟨rfl, ((Below.refl _ _).alloc (Nat.le_refl _) _).alloc (by simp) _⟩
end Go.Proofs.YtnadfacbfcdkgaaDoor
