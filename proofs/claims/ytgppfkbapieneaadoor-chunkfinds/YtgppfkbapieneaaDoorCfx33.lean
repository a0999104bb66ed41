/- Texts joined: CmK -/
import Derived.Test.YtgppfkbapieneaaDoorCfx27
namespace Go.Proofs.YtgppfkbapieneaaDoor
open Go.RowKit
set_option linter.unusedVariables false
set_option linter.unusedSimpArgs false
set_option maxRecDepth 100000 in
set_option maxHeartbeats 4000000 in
theorem equalP_any (a a' : Option Addr) (c c' : Nat) (l l' : List Pt) (w : World) (hs : l.length ≤ 17592186044416) (h : RowP w a l) (h' : RowP w a' l') :
    Calls Tryd.prog 51 #[.slice a l.length c, .slice a' l'.length c'] w fun e w' => Tells e (l = l') ∧ Below w.heap.size w w' := by
  by_cases hl : l.length = l'.length
  · have HL : Hid (l.length = l'.length) := hl
    rw [← hl]
    obtain ⟨N, hN⟩ : ∃ N, l.length = N := ⟨_, rfl⟩
    have HN : Hid (l.length = N) := hN
    rw [hN] at hs ⊢
    have HR : Hid (∀ m, RowP (w.drewN m) a l ∧ RowP (w.drewN m) a' l') := fun m => ⟨h.low (below_drewN (Below.refl _ _) m), h'.low (below_drewN (Below.refl _ _) m)⟩
    clear hl hN h h'
    go_enter Tryd.func51, Tryd.ntmps51
    go_wp2
    go_loopw [13] (fun i w' => ∃ (k m : Nat), k ≤ N ∧ i = .int .i64 k ∧ w' = w.drewN m ∧ Hid (l.take k = l'.take k)) (fun i _ => N - (intOf i).toNat)
    case atStart => exact ⟨0, 0, Nat.zero_le _, rfl, rfl, by show l.take 0 = l'.take 0; simp⟩
    case round =>
      obtain ⟨k, m, hk, rfl, rfl, qe⟩ := hrel
      obtain ⟨r1, r2⟩ := HR.out m
      have HWm : Hid (∀ n, (w.drewN m).drewN n = w.drewN (m + n)) := fun n => drewN_add w m n
      have q5 : Hid (Below w.heap.size w (w.drewN m)) := below_drewN (Below.refl _ _) m
      generalize w.drewN m = W5 at *
      by_cases hlt : k < N
      · have ik : (k : Int) < (N : Int) := by omega
        obtain ⟨p, hp⟩ : ∃ p, l[k]? = some p := ⟨_, List.getElem?_eq_getElem (by rw [HN.out]; exact hlt)⟩
        obtain ⟨q, hq⟩ : ∃ q, l'[k]? = some q := ⟨_, List.getElem?_eq_getElem (by rw [← HL.out, HN.out]; exact hlt)⟩
        obtain ⟨b, off, ha, p0, p1, p2⟩ := r1.at_ hp
        obtain ⟨b', off', ha', q0, q1, q2⟩ := r2.at_ hq
        subst ha
        subst ha'
        have hw2 : IntKind.i64.wrap ((k : Int) + 1) = ((k + 1 : Nat) : Int) := by simp [IntKind.wrap, IntKind.bits, IntKind.signed]; omega
        have hst : Hid ((l.take (k + 1) = l'.take (k + 1)) ↔ p = q) := by
          show _ ↔ _
          rw [List.take_add_one, List.take_add_one, qe.out, hp, hq]
          simp
        have HPQ : Hid (l[k]? = some p ∧ l'[k]? = some q) := ⟨hp, hq⟩
        clear r1 r2 hp hq qe
        obtain ⟨pa, pb, pc⟩ := p
        obtain ⟨qa, qb, qc⟩ := q
        simp only at p0 p1 p2 q0 q1 q2
        by_cases hpq : (⟨pa, pb, pc⟩ : Pt) = ⟨qa, qb, qc⟩
        · have HE : Hid (l.take (k + 1) = l'.take (k + 1)) := hst.out.2 hpq
          simp only [Pt.mk.injEq] at hpq
          obtain ⟨rfl, rfl, rfl⟩ := hpq
          go_wp2
          go_quiet (fail)
          go_wp2
          exact ⟨⟨k + 1, m + nq, by omega, by first | rfl | (congr 1), HWm.out nq, HE⟩, by simp only [intOf]; omega⟩
        · have HF : Hid (¬ (l = l')) := fun h => hpq (by
            have h1 := HPQ.out
            rw [h] at h1
            rw [h1.1] at h1
            exact Option.some.inj h1.2)
          have hne := pt_ne hpq
          simp only at hne
          rcases hne with hne | ⟨rfl, hne⟩ | ⟨rfl, rfl, hne⟩
          all_goals (
            go_wp2
            go_quiet (fail)
            have q6 := below_drewN q5.out nq
            go_wp2
            go_ret
            exact ⟨Tells.no HF.out, q6⟩)
      · have ik : ¬ (k : Int) < (N : Int) := by omega
        have HT : Hid (l = l') := by
          show _ = _
          have h1 := qe.out
          rw [List.take_of_length_le (by rw [HN.out]; omega), List.take_of_length_le (by rw [← HL.out, HN.out]; omega)] at h1
          exact h1
        have q6 := q5.out
        go_wp2
        go_ret
        exact ⟨Tells.yes HT.out, q6⟩
  · have hl' : ((l.length : Int) != (l'.length : Int)) = true := by simp; omega
    have HF : Hid (¬ (l = l')) := fun h => hl (by rw [h])
    clear h h' hl
    go_enter Tryd.func51, Tryd.ntmps51
    go_wp2
    go_ret
    exact ⟨Tells.no HF.out, Below.refl _ _⟩
end Go.Proofs.YtgppfkbapieneaaDoor
