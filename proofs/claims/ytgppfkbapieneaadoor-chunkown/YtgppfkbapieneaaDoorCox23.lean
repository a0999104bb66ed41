/- Texts joined: CmC CmI -/
import Derived.Test.YtgppfkbapieneaaDoorCox22
namespace Go.Proofs.YtgppfkbapieneaaDoor
open Go.RowKit
set_option linter.unusedVariables false
set_option linter.unusedSimpArgs false
set_option maxRecDepth 100000 in
set_option maxHeartbeats 8000000 in
theorem less_ck (p q : Pt) (w : World) : Calls Tryd.prog 46 #[.agg p.v, .agg q.v] w fun e w' => e = .returned (.bool (p.less q)) ∧ Below w.heap.size w w' := by
  obtain ⟨a, b, c⟩ := p
  obtain ⟨a', b', c'⟩ := q
  obtain ⟨W1, hW1⟩ : ∃ W1, w.alloc (.cells (Pt.v ⟨a, b, c⟩) 42) = W1 := ⟨_, rfl⟩
  obtain ⟨W2, hW2⟩ : ∃ W2, W1.alloc (.cells (Pt.v ⟨a', b', c'⟩) 42) = W2 := ⟨_, rfl⟩
  have b2 := bel_al (bel_nw hW1) hW2
  have B1 := (blk_nw hW1).al hW2
  have B2 := blk_nw hW2
  have p0 := B1.cell 0 (.int .u64 a) rfl
  have p1 := B1.cell 1 (.int .u64 b) rfl
  have p2 := B1.cell 2 (.int .u64 c) rfl
  have q0 := B2.cell 0 (.int .u64 a') rfl
  have q1 := B2.cell 1 (.int .u64 b') rfl
  have q2 := B2.cell 2 (.int .u64 c') rfl
  clear B1 B2
  obtain ⟨R, hR⟩ : ∃ R, (⟨a, b, c⟩ : Pt).less ⟨a', b', c'⟩ = R := ⟨_, rfl⟩
  rw [hR]
  have HR : Hid ((⟨a, b, c⟩ : Pt).less ⟨a', b', c'⟩ = R) := hR
  clear hR
  rcases Int.lt_trichotomy a a' with h | h | h
  · have eR : R = true := by rw [← HR.out]; simp [Pt.less, h]
    subst eR
    go_enter Tryd.func46, Tryd.ntmps46
    go_wp2
    go_ret
    exact ⟨rfl, b2⟩
  · subst h
    have h0 : ¬ a < a := by omega
    rcases Int.lt_trichotomy b b' with h | h | h
    · have eR : R = true := by rw [← HR.out]; simp [Pt.less, h]
      subst eR
      go_enter Tryd.func46, Tryd.ntmps46
      go_wp2
      go_ret
      exact ⟨rfl, b2⟩
    · subst h
      have h1 : ¬ b < b := by omega
      by_cases h : c < c'
      · have eR : R = true := by rw [← HR.out]; simp [Pt.less, h]
        subst eR
        go_enter Tryd.func46, Tryd.ntmps46
        go_wp2
        go_ret
        exact ⟨rfl, b2⟩
      · have eR : R = false := by rw [← HR.out]; simp [Pt.less]; omega
        subst eR
        go_enter Tryd.func46, Tryd.ntmps46
        go_wp2
        go_ret
        exact ⟨rfl, b2⟩
    · have h1 : ¬ b < b' := by omega
      have h2 : (b == b') = false := by rw [beq_eq_false_iff_ne]; omega
      have eR : R = false := by rw [← HR.out]; simp [Pt.less, h2]; omega
      subst eR
      go_enter Tryd.func46, Tryd.ntmps46
      go_wp2
      go_ret
      exact ⟨rfl, b2⟩
  · have h1 : ¬ a < a' := by omega
    have h2 : (a == a') = false := by rw [beq_eq_false_iff_ne]; omega
    have eR : R = false := by rw [← HR.out]; simp [Pt.less, h2]; omega
    subst eR
    go_enter Tryd.func46, Tryd.ntmps46
    go_wp2
    go_ret
    exact ⟨rfl, b2⟩
set_option maxRecDepth 100000 in
set_option maxHeartbeats 4000000 in
theorem rsameSets_any (a a' : Option Addr) (c c' : Nat) (S S' : List (List Int)) (w : World) (h : RowS w a S) (h' : RowS w a' S') :
    Calls Tryd.prog 38 #[.slice a S.length c, .slice a' S'.length c'] w fun e w' => Tells e (S = S') ∧ Below w.heap.size w w' := by
  have KS : Hid (∀ (W : World) (a b : Option Addr) (c d : Nat) (x y : List Int), RowI W a x → RowI W b y → Calls Tryd.prog 22 #[.slice a x.length c, .slice b y.length d] W fun e w' => e = .returned (.bool (decide (x = y))) ∧ Below W.heap.size W w') := fun W a b c d x y h h' =>
    (sameI_any a b c d x y W h h').mono (by rintro e w' ⟨rfl, n, rfl⟩; exact ⟨rfl, below_drewN (Below.refl _ _) n⟩)
  have hs := h.small
  by_cases hl : S.length = S'.length
  · have HR : Hid (RowS w a S) := h
    have HR' : Hid (RowS w a' S') := h'
    have HL : Hid (S.length = S'.length) := hl
    rw [← hl]
    obtain ⟨N, hN⟩ : ∃ N, S.length = N := ⟨_, rfl⟩
    have HN : Hid (S.length = N) := hN
    rw [hN] at hs ⊢
    clear hN hl h h'
    go_enter Tryd.func38, Tryd.ntmps38
    go_wp2_with fail
    go_loopw [5] (fun i wr => ∃ (k : Nat), k ≤ N ∧ i = .int .i64 k ∧ Below w.heap.size w wr ∧ Hid (S.take k = S'.take k)) (fun i _ => N - (intOf i).toNat)
    case atStart => exact ⟨0, Nat.zero_le _, rfl, Below.refl _ _, by show S.take 0 = S'.take 0; simp⟩
    case round =>
      obtain ⟨k, hk, rfl, qb, qe⟩ := hrel
      by_cases hlt : k < N
      · have ik : (k : Int) < (N : Int) := by omega
        obtain ⟨s, hs1⟩ : ∃ s, S[k]? = some s := ⟨_, List.getElem?_eq_getElem (by rw [HN.out]; exact hlt)⟩
        obtain ⟨t, ht1⟩ : ∃ t, S'[k]? = some t := ⟨_, List.getElem?_eq_getElem (by rw [← HL.out, HN.out]; exact hlt)⟩
        obtain ⟨b, off, ai, ci, ha, x0, r0⟩ := ((HR.out.below qb).below (below_drew wr)).cells k s hs1
        obtain ⟨b', off', ai', ci', ha', y0, r1⟩ := ((HR'.out.below qb).below (below_drew wr)).cells k t ht1
        have KD : Hid _ := KS.out wr.drew ai ai' ci ci' s t r0 r1
        have hst : Hid ((S.take (k + 1) = S'.take (k + 1)) ↔ s = t) := by
          show _ ↔ _
          rw [List.take_add_one, List.take_add_one, qe.out, hs1, ht1]
          simp
        have HST : Hid (S[k]? = some s ∧ S'[k]? = some t) := ⟨hs1, ht1⟩
        subst ha
        subst ha'
        have hw2 : IntKind.i64.wrap ((k : Int) + 1) = ((k + 1 : Nat) : Int) := by simp [IntKind.wrap, IntKind.bits, IntKind.signed]; omega
        have HD : Hid (Below w.heap.size w wr.drew) := qb.drew
        obtain ⟨n1, hn1⟩ : ∃ n, s.length = n := ⟨_, rfl⟩
        obtain ⟨n2, hn2⟩ : ∃ n, t.length = n := ⟨_, rfl⟩
        rw [hn1] at x0 KD
        rw [hn2] at y0 KD
        clear hs1 ht1 r0 r1 hn1 hn2 qe
        go_wp2
        go_region_held3 (fun w'' => w''.cell? ⟨b, off + k, none⟩ = some (.slice ai n1 ci) ∧ w''.cell? ⟨b', off' + k, none⟩ = some (.slice ai' n2 ci')) (first | exact ⟨x0, y0⟩ | exact ⟨kept bb x0, kept bb y0⟩ | go_keep) (first | (go_at_call 22; refine Calls.mono KD.out ?_; rintro e W2 ⟨rfl, bb⟩))
        have b2 := bel_tr HD.out bb
        clear x0 y0 bb KD
        by_cases hst' : s = t
        · have hd : decide (s = t) = true := by simp [hst']
          have qe' : Hid (S.take (k + 1) = S'.take (k + 1)) := hst.out.2 hst'
          rw [hd]
          clear hd
          go_wp2
          exact ⟨⟨k + 1, by omega, by first | rfl | (congr 1), b2, qe'⟩, by simp only [intOf]; omega⟩
        · have hd : decide (s = t) = false := by simp [hst']
          have HF : Hid (¬ S = S') := fun e => hst' (by
            have h1 := HST.out
            rw [e] at h1
            rw [h1.1] at h1
            exact Option.some.inj h1.2)
          rw [hd]
          clear hd
          go_wp2
          go_ret
          exact ⟨Tells.no HF.out, b2⟩
      · have ik : ¬ (k : Int) < (N : Int) := by omega
        have HT : Hid (S = S') := by
          show _ = _
          have h1 := qe.out
          rw [List.take_of_length_le (by rw [HN.out]; omega), List.take_of_length_le (by rw [← HL.out, HN.out]; omega)] at h1
          exact h1
        go_wp2
        go_ret
        exact ⟨Tells.yes HT.out, qb⟩
  · have hl' : ((S.length : Int) != (S'.length : Int)) = true := by simp; omega
    have HF : Hid (¬ S = S') := fun e => hl (by rw [e])
    clear h h' KS hl
    go_enter Tryd.func38, Tryd.ntmps38
    go_wp2
    go_ret
    exact ⟨Tells.no HF.out, Below.refl _ _⟩
end Go.Proofs.YtgppfkbapieneaaDoor
