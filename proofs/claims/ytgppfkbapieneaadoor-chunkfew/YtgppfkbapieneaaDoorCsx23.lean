/- Texts joined: FrO -/
import Derived.Test.YtgppfkbapieneaaDoorCsx20
import Derived.Deep.QuietTactic
import Derived.BigQuiet
namespace Go.Proofs.YtgppfkbapieneaaDoor
open Go.RowKit
set_option linter.unusedVariables false
set_option linter.unusedSimpArgs false
theorem drewN_add (w : World) (m k : Nat) : (w.drewN m).drewN k = w.drewN (m + k) := by
  simp [World.drewN, Nat.add_assoc]
set_option maxHeartbeats 1000000 in
theorem sameI_any (a a' : Option Addr) (c c' : Nat) (l l' : List Int) (w : World) (h : RowI w a l) (h' : RowI w a' l') :
    Calls Tryd.prog 22 #[.slice a l.length c, .slice a' l'.length c'] w fun e w' => e = .returned (.bool (decide (l = l'))) ∧ ∃ n, w' = w.drewN n := by
  have hs := h.small
  by_cases hl : l.length = l'.length
  · obtain ⟨T, hT⟩ : ∃ T, decide (l = l') = T := ⟨_, rfl⟩
    rw [hT]
    have HT : Hid (decide (l = l') = T) := hT
    have HL : Hid (l.length = l'.length) := hl
    rw [← hl]
    obtain ⟨N, hN⟩ : ∃ N, l.length = N := ⟨_, rfl⟩
    have HN : Hid (l.length = N) := hN
    rw [hN] at hs ⊢
    clear hT hl hN
    go_enter Tryd.func22, Tryd.ntmps22
    go_wp2
    go_loopw [5] (fun i w' => ∃ (k m : Nat), k ≤ N ∧ i = .int .i64 k ∧ w' = w.drewN m ∧ Hid (l.take k = l'.take k)) (fun i _ => N - (intOf i).toNat)
    case atStart => exact ⟨0, 0, Nat.zero_le _, rfl, rfl, by show l.take 0 = l'.take 0; simp⟩
    case round =>
      obtain ⟨k, m, hk, rfl, rfl, ho⟩ := hrel
      by_cases hlt : k < N
      · obtain ⟨b, off, rfl, hcl⟩ := (h.drewN m).cells (by have := HN.out; omega)
        obtain ⟨b', off', rfl, hcl'⟩ := (h'.drewN m).cells (by have := HN.out; have := HL.out; omega)
        have c0 := hcl k (by have := HN.out; omega)
        have c1 := hcl' k (by have := HN.out; have := HL.out; omega)
        have hlk : (k : Int) < (N : Int) := by omega
        have hst : Hid ((l.take (k + 1) = l'.take (k + 1)) ↔ l.getD k 0 = l'.getD k 0) := by
          show _ ↔ _
          have e1 : l.take (k + 1) = l.take k ++ [l.getD k 0] := by rw [List.take_succ_eq_append_getElem (by have := HN.out; omega)]; simp [show k < l.length by have := HN.out; omega]
          have e2 : l'.take (k + 1) = l'.take k ++ [l'.getD k 0] := by rw [List.take_succ_eq_append_getElem (by have := HN.out; have := HL.out; omega)]; simp [show k < l'.length by have := HN.out; have := HL.out; omega]
          rw [e1, e2, ho.out]
          simp
        obtain ⟨W, hW⟩ : ∃ W, w.drewN m = W := ⟨_, rfl⟩
        rw [hW] at c0 c1 ⊢
        have HW : Hid (w.drewN m = W) := hW
        clear hcl hcl' h h' hW
        generalize l.getD k 0 = x at *
        generalize l'.getD k 0 = y at *
        by_cases hxy : x = y
        · have hxy' : (x != y) = false := by simpa using hxy
          go_wp2
          go_quiet (fail)
          go_wp2
          exact ⟨⟨k + 1, m + nq, by omega, int_eq (by omega), by rw [← HW.out]; exact drewN_add w m nq, hst.out.2 hxy⟩, by simp [intOf]; omega⟩
        · have hxy' : (x != y) = true := by simpa using hxy
          have ET : Hid (false = T) := by
            show false = T
            rw [← HT.out]
            symm
            simp only [decide_eq_false_iff_not]
            intro e
            exact hxy (hst.out.1 (by rw [e]))
          go_wp2
          go_quiet (fail)
          go_wp2
          go_ret
          exact ⟨by rw [← ET.out]; rfl, m + nq, by rw [← HW.out]; exact drewN_add w m nq⟩
      · have hlt' : ¬ (k : Int) < (N : Int) := by omega
        have ET : Hid (true = T) := by
          show true = T
          rw [← HT.out]
          symm
          simp only [decide_eq_true_eq]
          have := ho.out
          rwa [List.take_of_length_le (by have := HN.out; omega), List.take_of_length_le (by have := HN.out; have := HL.out; omega)] at this
        go_wp2
        go_ret
        exact ⟨by rw [← ET.out]; rfl, m, rfl⟩
  · have e : decide (l = l') = false := by simp; intro e; exact hl (by rw [e])
    rw [e]
    have hl' : ((l.length : Int) != (l'.length : Int)) = true := by simp; omega
    clear e
    go_enter Tryd.func22, Tryd.ntmps22
    go_wp2
    go_ret
    exact ⟨rfl, 0, rfl⟩
end Go.Proofs.YtgppfkbapieneaaDoor
