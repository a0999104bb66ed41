/- Texts joined: CkS -/
import Derived.Test.YtgppfkbapieneaaDoorCfx25
namespace Go.Proofs.YtgppfkbapieneaaDoor
open Go.RowKit
set_option linter.unusedVariables false
set_option linter.unusedSimpArgs false
set_option maxRecDepth 100000 in
set_option maxHeartbeats 8000000 in
theorem right_ck (a1 a2 a3 : Option Addr) (c1 c2 c3 : Nat) (L : List Pt) (K : List Int) (S : List (List Int)) (w : World) (hs : L.length ≤ 17592186044416) (h1 : RowP w a1 L) (h2 : RowI w a2 K) (h3 : RowS w a3 S) :
    Calls Tryd.prog 18 #[.agg #[.slice a1 L.length c1, .slice a2 K.length c2, .slice a3 S.length c3]] w fun e w' => Tells e (RightC L K S) ∧ Below w.heap.size w w' := by
  have hk := h2.small
  have hS := h3.small
  have H1 : Hid (RowP w a1 L) := h1
  have H2 : Hid (RowI w a2 K) := h2
  have H3 : Hid (RowS w a3 S) := h3
  have HLs : Hid (L.length ≤ 17592186044416) := hs
  obtain ⟨W1, hW1⟩ : ∃ W1, w.alloc (.cells #[.slice a1 L.length c1, .slice a2 K.length c2, .slice a3 S.length c3] 27) = W1 := ⟨_, rfl⟩
  have b1 := bel_nw hW1
  have B1 := blk_nw hW1
  have HB1 : Hid (Blk W1 w.heap.size 27 #[.slice a1 L.length c1, .slice a2 K.length c2, .slice a3 S.length c3]) := B1
  have d0 := B1.cell 0 (.slice a1 L.length c1) rfl
  clear h1 h2 h3 B1
  cases hL : L with
  | nil =>
    subst hL
    have HF : Hid (¬ RightC [] K S) := fun h => by have := h.1; simp at this
    simp only [List.length_nil] at d0 hW1 ⊢
    go_enter Tryd.func18, Tryd.ntmps18
    go_wp2
    go_ret
    exact ⟨Tells.no HF.out, b1⟩
  | cons p L' =>
    have HLE : Hid (L = p :: L') := hL
    have hp : L[0]? = some p := by rw [hL]; rfl
    rw [← hL]
    obtain ⟨b, off, ha, p0, p1, p2⟩ := (H1.out.low b1).at_ hp
    have HP : Hid (L[0]? = some p) := hp
    simp only [Nat.zero_mul, Nat.add_zero] at p0 p1 p2
    have hn0 : 0 < L.length := by rw [hL]; simp
    clear hL hp
    obtain ⟨N, hN⟩ : ∃ N, L.length = N := ⟨_, rfl⟩
    obtain ⟨M, hM⟩ : ∃ M, K.length = M := ⟨_, rfl⟩
    obtain ⟨Q, hQ⟩ : ∃ Q, S.length = Q := ⟨_, rfl⟩
    have HN : Hid (L.length = N ∧ K.length = M ∧ S.length = Q) := ⟨hN, hM, hQ⟩
    rw [hN] at d0 hn0 hs HB1 hW1 ⊢
    rw [hM] at hk HB1 hW1 ⊢
    rw [hQ] at hS HB1 hW1 ⊢
    have hn0' : (0 : Int) < (N : Int) := by omega
    subst ha
    clear hN hM hQ
    by_cases hp0 : p = pt0
    · have HPZ : Hid (p = pt0) := hp0
      have KR : Hid _ := risingP_any (some ⟨b, off, none⟩) c1 L W1 HLs.out (H1.out.low b1)
      rw [HN.out.1] at KR
      rw [hp0] at p0 p1 p2
      simp only [pt0] at p0 p1 p2
      go_enter Tryd.func18, Tryd.ntmps18
      go_wp2_with fail
      refine Calls.mono KR.out ?_
      rintro e W2 ⟨⟨r, rfl, hr⟩, bb⟩
      have HR1 : Hid (r = true ↔ RiseP L) := hr
      have b2 := bel_tr b1 bb
      have HB2 : Hid (Blk W2 w.heap.size 27 #[.slice (some ⟨b, off, none⟩) N c1, .slice a2 M c2, .slice a3 Q c3]) := HB1.out.kept bb
      have d0' := HB2.out.cell 0 (.slice (some ⟨b, off, none⟩) N c1) rfl
      have d1' := HB2.out.cell 1 (.slice a2 M c2) rfl
      have d2' := HB2.out.cell 2 (.slice a3 Q c3) rfl
      clear hr bb KR p0 p1 p2 d0 b1 hW1 hp0
      cases r
      · have HF : Hid (¬ RightC L K S) := fun h => by have := HR1.out.2 h.2.1; cases this
        go_wp2
        go_ret
        exact ⟨Tells.no HF.out, b2⟩
      · by_cases hMN : M = N
        · subst hMN
          have KC : Hid _ := rightClasses_any a2 c2 Q K W2 (H2.out.below b2)
          rw [HN.out.2.1] at KC
          go_wp2_with fail
          refine Calls.mono KC.out ?_
          rintro e W3 ⟨⟨r, rfl, hr⟩, bb⟩
          have HR2 : Hid (r = true ↔ RightK K Q) := hr
          have b3 := bel_tr b2 bb
          have HB3 : Hid (Blk W3 w.heap.size 27 #[.slice (some ⟨b, off, none⟩) M c1, .slice a2 M c2, .slice a3 Q c3]) := HB2.out.kept bb
          clear d0' d1' d2' hr bb KC b2
          have d2 := HB3.out.cell 2 (.slice a3 Q c3) rfl
          cases r
          · have HF : Hid (¬ RightC L K S) := fun h => by
              have h4 := h.2.2.2.1
              rw [HN.out.2.2] at h4
              have := HR2.out.2 h4
              cases this
            go_wp2
            go_ret
            exact ⟨Tells.no HF.out, b3⟩
          · have KS : Hid _ := rightSets_any a3 c3 S W3 (H3.out.below b3)
            rw [HN.out.2.2] at KS
            go_wp2_with fail
            refine Calls.mono KS.out ?_
            rintro e W4 ⟨⟨r, rfl, hr⟩, bb⟩
            have HR3 : Hid (r = true ↔ ∀ s ∈ S, RiseI s) := hr
            have b4 := bel_tr b3 bb
            clear d2 hr bb KS b3
            cases r
            · have HF : Hid (¬ RightC L K S) := fun h => by have := HR3.out.2 h.2.2.2.2; cases this
              go_wp2
              go_ret
              exact ⟨Tells.no HF.out, b4⟩
            · have HT : Hid (RightC L K S) := ⟨by rw [HP.out, HPZ.out], by have h9 := HR1.out; simpa using h9, by rw [HN.out.1, HN.out.2.1], by rw [HN.out.2.2]; have h9 := HR2.out; simpa using h9, by have h9 := HR3.out; simpa using h9⟩
              go_wp2
              go_ret
              exact ⟨Tells.yes HT.out, b4⟩
        · have HF : Hid (¬ RightC L K S) := fun h => by
            have := h.2.2.1
            rw [HN.out.1, HN.out.2.1] at this
            exact hMN this
          have hMN' : ((M : Int) == (N : Int)) = false := by rw [beq_eq_false_iff_ne]; omega
          go_wp2
          go_ret
          exact ⟨Tells.no HF.out, b2⟩
    · have HF : Hid (¬ RightC L K S) := fun h => by
        have := h.1
        rw [HP.out] at this
        cases this
        exact hp0 rfl
      obtain ⟨pa, pb, pc⟩ := p
      have hne := pt_ne hp0
      simp only [pt0] at hne p0 p1 p2
      rcases hne with hne | ⟨rfl, hne⟩ | ⟨rfl, rfl, hne⟩
      all_goals (
        go_enter Tryd.func18, Tryd.ntmps18
        go_wp2
        go_ret
        exact ⟨Tells.no HF.out, b1⟩)
end Go.Proofs.YtgppfkbapieneaaDoor
