/- Texts joined: CmJ CkS -/
import Derived.Test.YtgppfkbapieneaaDoorCox23
namespace Go.Proofs.YtgppfkbapieneaaDoor
open Go.RowKit
set_option linter.unusedVariables false
set_option linter.unusedSimpArgs false
theorem RowP.drewN {w : World} {a : Option Addr} {l : List Pt} (h : RowP w a l) (n : Nat) : RowP (w.drewN n) a l := h.low (below_drewN (Below.refl _ _) n)
set_option maxRecDepth 100000 in
set_option maxHeartbeats 8000000 in
theorem rsame_ck (a1 a2 a3 b1 b2 b3 : Option Addr) (c1 c2 c3 d1 d2 d3 : Nat) (L L' : List Pt) (K K' : List Int) (S S' : List (List Int)) (w : World) (hs : L.length ≤ 17592186044416) (h1 : RowP w a1 L) (h2 : RowI w a2 K) (h3 : RowS w a3 S) (g1 : RowP w b1 L') (g2 : RowI w b2 K') (g3 : RowS w b3 S') :
    Calls Tryd.prog 12 #[.agg #[.slice a1 L.length c1, .slice a2 K.length c2, .slice a3 S.length c3], .agg #[.slice b1 L'.length d1, .slice b2 K'.length d2, .slice b3 S'.length d3]] w fun e w' => Tells e (L = L' ∧ K = K' ∧ S = S') ∧ Below w.heap.size w w' := by
  obtain ⟨W1, hW1⟩ : ∃ W1, w.alloc (.cells #[.slice a1 L.length c1, .slice a2 K.length c2, .slice a3 S.length c3] 27) = W1 := ⟨_, rfl⟩
  obtain ⟨W2, hW2⟩ : ∃ W2, W1.alloc (.cells #[.slice b1 L'.length d1, .slice b2 K'.length d2, .slice b3 S'.length d3] 27) = W2 := ⟨_, rfl⟩
  have q2 := bel_al (bel_nw hW1) hW2
  have HB1 : Hid (Blk W2 w.heap.size 27 #[.slice a1 L.length c1, .slice a2 K.length c2, .slice a3 S.length c3]) := (blk_nw hW1).al hW2
  have HB2 : Hid (Blk W2 W1.heap.size 27 #[.slice b1 L'.length d1, .slice b2 K'.length d2, .slice b3 S'.length d3]) := blk_nw hW2
  have HL : Hid (∀ W, Below w.heap.size w W → RowP W a1 L ∧ RowP W b1 L') := fun W hb => ⟨h1.low hb, g1.low hb⟩
  have KI : Hid _ := sameI_any a2 b2 c2 d2 K K' W2 (h2.below q2) (g2.below q2)
  have KS : Hid (∀ W, Below w.heap.size w W → Calls Tryd.prog 38 #[.slice a3 S.length c3, .slice b3 S'.length d3] W fun e w' => Tells e (S = S') ∧ Below W.heap.size W w') := fun W hb => rsameSets_any a3 b3 c3 d3 S S' W (h3.below hb) (g3.below hb)
  obtain ⟨N, hN⟩ : ∃ N, L.length = N := ⟨_, rfl⟩
  obtain ⟨N', hN'⟩ : ∃ N, L'.length = N := ⟨_, rfl⟩
  have HN : Hid (L.length = N ∧ L'.length = N') := ⟨hN, hN'⟩
  rw [hN] at hs HB1 hW1 ⊢
  rw [hN'] at HB2 hW2 ⊢
  generalize K.length = M at *
  generalize K'.length = M' at *
  generalize S.length = Q at *
  generalize S'.length = Q' at *
  clear h1 h2 h3 g1 g2 g3 hN hN'
  have x0 := HB1.out.cell 0 (.slice a1 N c1) rfl
  have x1 := HB1.out.cell 1 (.slice a2 M c2) rfl
  have y0 := HB2.out.cell 0 (.slice b1 N' d1) rfl
  have y1 := HB2.out.cell 1 (.slice b2 M' d2) rfl
  by_cases hl : N = N'
  · subst hl
    go_enter Tryd.func12, Tryd.ntmps12
    go_wp2_with fail
    refine Calls.mono KI.out ?_
    rintro e W3 ⟨rfl, m, rfl⟩
    have q3 : Below w.heap.size w (W2.drewN m) := below_drewN q2 m
    have HB3 : Hid (Blk (W2.drewN m) w.heap.size 27 #[.slice a1 N c1, .slice a2 M c2, .slice a3 Q c3]) := HB1.out.kept (below_drewN (Below.refl _ _) m)
    have HB4 : Hid (Blk (W2.drewN m) W1.heap.size 27 #[.slice b1 N d1, .slice b2 M' d2, .slice b3 Q' d3]) := HB2.out.kept (below_drewN (Below.refl _ _) m)
    generalize W2.drewN m = W3 at *
    clear x0 x1 y0 y1 KI hW1 hW2 q2 HB1 HB2
    obtain ⟨T, hT⟩ : ∃ T, decide (K = K') = T := ⟨_, rfl⟩
    have HT : Hid (decide (K = K') = T) := hT
    rw [hT]
    clear hT
    have x0 := HB3.out.cell 0 (.slice a1 N c1) rfl
    have x2 := HB3.out.cell 2 (.slice a3 Q c3) rfl
    have y0 := HB4.out.cell 0 (.slice b1 N d1) rfl
    have y2 := HB4.out.cell 2 (.slice b3 Q' d3) rfl
    cases T
    · have HF : Hid (¬ (L = L' ∧ K = K' ∧ S = S')) := fun h => by have := HT.out; rw [decide_eq_false_iff_not] at this; exact this h.2.1
      go_wp2
      go_ret
      exact ⟨Tells.no HF.out, q3⟩
    · have HK : Hid (K = K') := (decide_eq_true_iff.1 HT.out : K = K')
      have KD : Hid _ := KS.out W3 q3
      go_wp2_with fail
      refine Calls.mono KD.out ?_
      rintro e W4 ⟨⟨r, rfl, hr⟩, bb⟩
      have HR : Hid (r = true ↔ S = S') := hr
      have q4 := bel_tr q3 bb
      have HB5 : Hid (Blk W4 w.heap.size 27 #[.slice a1 N c1, .slice a2 M c2, .slice a3 Q c3]) := HB3.out.kept bb
      have HB6 : Hid (Blk W4 W1.heap.size 27 #[.slice b1 N d1, .slice b2 M' d2, .slice b3 Q' d3]) := HB4.out.kept bb
      clear x0 x2 y0 y2 HB3 HB4 bb hr KD KS q3
      cases r
      · have HF : Hid (¬ (L = L' ∧ K = K' ∧ S = S')) := fun h => by have := HR.out.2 h.2.2; cases this
        go_wp2
        go_ret
        exact ⟨Tells.no HF.out, q4⟩
      · have HS : Hid (S = S') := HR.out.1 rfl
        have HLN : Hid (∀ m, Blk (W4.drewN m) w.heap.size 27 #[.slice a1 N c1, .slice a2 M c2, .slice a3 Q c3] ∧ Blk (W4.drewN m) W1.heap.size 27 #[.slice b1 N d1, .slice b2 M' d2, .slice b3 Q' d3] ∧ RowP (W4.drewN m) a1 L ∧ RowP (W4.drewN m) b1 L') := fun m => by
          have h := HL.out (W4.drewN m) (below_drewN q4 m)
          exact ⟨HB5.out.kept (below_drewN (Below.refl _ _) m), HB6.out.kept (below_drewN (Below.refl _ _) m), h.1, h.2⟩
        clear HB5 HB6 HL
        go_wp2_with fail
        go_loopw [5] (fun i wr => ∃ (k m : Nat), k ≤ N ∧ i = .int .i64 k ∧ wr = W4.drewN m ∧ Hid (L.take k = L'.take k)) (fun i _ => N - (intOf i).toNat)
        case atStart => exact ⟨0, 0, Nat.zero_le _, rfl, rfl, by show L.take 0 = L'.take 0; simp⟩
        case round =>
          obtain ⟨k, m, hk, rfl, rfl, qe⟩ := hrel
          obtain ⟨B5, B6, r1, r2⟩ := HLN.out m
          have x0 := B5.cell 0 (.slice a1 N c1) rfl
          have y0 := B6.cell 0 (.slice b1 N d1) rfl
          have HWm : Hid (∀ n, (W4.drewN m).drewN n = W4.drewN (m + n)) := fun n => drewN_add W4 m n
          have q5 : Hid (Below w.heap.size w (W4.drewN m)) := below_drewN q4 m
          generalize W4.drewN m = W5 at *
          by_cases hlt : k < N
          · have ik : (k : Int) < (N : Int) := by omega
            obtain ⟨p, hp⟩ : ∃ p, L[k]? = some p := ⟨_, List.getElem?_eq_getElem (by rw [HN.out.1]; exact hlt)⟩
            obtain ⟨q, hq⟩ : ∃ q, L'[k]? = some q := ⟨_, List.getElem?_eq_getElem (by rw [HN.out.2]; exact hlt)⟩
            obtain ⟨b, off, ha, p0, p1, p2⟩ := r1.at_ hp
            obtain ⟨b', off', ha', q0, q1, q2⟩ := r2.at_ hq
            subst ha
            subst ha'
            have hw2 : IntKind.i64.wrap ((k : Int) + 1) = ((k + 1 : Nat) : Int) := by simp [IntKind.wrap, IntKind.bits, IntKind.signed]; omega
            have hst : Hid ((L.take (k + 1) = L'.take (k + 1)) ↔ p = q) := by
              show _ ↔ _
              rw [List.take_add_one, List.take_add_one, qe.out, hp, hq]
              simp
            have HPQ : Hid (L[k]? = some p ∧ L'[k]? = some q) := ⟨hp, hq⟩
            clear r1 r2 hp hq B5 B6 qe
            obtain ⟨pa, pb, pc⟩ := p
            obtain ⟨qa, qb, qc⟩ := q
            simp only at p0 p1 p2 q0 q1 q2
            by_cases hpq : (⟨pa, pb, pc⟩ : Pt) = ⟨qa, qb, qc⟩
            · have HE : Hid (L.take (k + 1) = L'.take (k + 1)) := hst.out.2 hpq
              simp only [Pt.mk.injEq] at hpq
              obtain ⟨rfl, rfl, rfl⟩ := hpq
              go_wp2
              go_quiet (fail)
              go_wp2
              exact ⟨⟨k + 1, m + nq, by omega, by first | rfl | (congr 1), HWm.out nq, HE⟩, by simp only [intOf]; omega⟩
            · have HF : Hid (¬ (L = L' ∧ K = K' ∧ S = S')) := fun h => hpq (by
                have h1 := HPQ.out
                rw [h.1] at h1
                rw [h1.1] at h1
                exact Option.some.inj h1.2)
              have hne := pt_ne hpq
              simp only at hne
              rcases hne with hne | ⟨rfl, hne⟩ | ⟨rfl, rfl, hne⟩
              all_goals (
                go_wp2
                go_quiet (fail)
                have q6 := below_drewN q5.out nq
                go_wp2
                go_ret
                exact ⟨Tells.no HF.out, q6⟩)
          · have ik : ¬ (k : Int) < (N : Int) := by omega
            have HT : Hid (L = L' ∧ K = K' ∧ S = S') := by
              refine ⟨?_, HK.out, HS.out⟩
              have h1 := qe.out
              rw [List.take_of_length_le (by rw [HN.out.1]; omega), List.take_of_length_le (by rw [HN.out.2]; omega)] at h1
              exact h1
            have q6 := q5.out
            go_wp2
            go_ret
            exact ⟨Tells.yes HT.out, q6⟩
  · have hl' : ((N : Int) != (N' : Int)) = true := by simp; omega
    have HF : Hid (¬ (L = L' ∧ K = K' ∧ S = S')) := fun h => hl (by rw [← HN.out.1, ← HN.out.2, h.1])
    clear KI KS HL hl
    go_enter Tryd.func12, Tryd.ntmps12
    go_wp2
    go_ret
    exact ⟨Tells.no HF.out, q2⟩
set_option maxRecDepth 100000 in
set_option maxHeartbeats 8000000 in
theorem right_ck (a1 a2 a3 : Option Addr) (c1 c2 c3 : Nat) (L : List Pt) (K : List Int) (S : List (List Int)) (w : World) (hs : L.length ≤ 17592186044416) (h1 : RowP w a1 L) (h2 : RowI w a2 K) (h3 : RowS w a3 S) :
    Calls Tryd.prog 18 #[.agg #[.slice a1 L.length c1, .slice a2 K.length c2, .slice a3 S.length c3]] w fun e w' => Tells e (RightC L K S) ∧ Below w.heap.size w w' := by
  have hk := h2.small
  have hS := h3.small
  have H1 : Hid (RowP w a1 L) := h1
  have H2 : Hid (RowI w a2 K) := h2
  have H3 : Hid (RowS w a3 S) := h3
  have HLs : Hid (L.length ≤ 17592186044416) := hs
  obtain ⟨W1, hW1⟩ : ∃ W1, w.alloc (.cells #[.slice a1 L.length c1, .slice a2 K.length c2, .slice a3 S.length c3] 27) = W1 := ⟨_, rfl⟩
  have b1 := bel_nw hW1
  have B1 := blk_nw hW1
  have HB1 : Hid (Blk W1 w.heap.size 27 #[.slice a1 L.length c1, .slice a2 K.length c2, .slice a3 S.length c3]) := B1
  have d0 := B1.cell 0 (.slice a1 L.length c1) rfl
  clear h1 h2 h3 B1
  cases hL : L with
  | nil =>
    subst hL
    have HF : Hid (¬ RightC [] K S) := fun h => by have := h.1; simp at this
    simp only [List.length_nil] at d0 hW1 ⊢
    go_enter Tryd.func18, Tryd.ntmps18
    go_wp2
    go_ret
    exact ⟨Tells.no HF.out, b1⟩
  | cons p L' =>
    have HLE : Hid (L = p :: L') := hL
    have hp : L[0]? = some p := by rw [hL]; rfl
    rw [← hL]
    obtain ⟨b, off, ha, p0, p1, p2⟩ := (H1.out.low b1).at_ hp
    have HP : Hid (L[0]? = some p) := hp
    simp only [Nat.zero_mul, Nat.add_zero] at p0 p1 p2
    have hn0 : 0 < L.length := by rw [hL]; simp
    clear hL hp
    obtain ⟨N, hN⟩ : ∃ N, L.length = N := ⟨_, rfl⟩
    obtain ⟨M, hM⟩ : ∃ M, K.length = M := ⟨_, rfl⟩
    obtain ⟨Q, hQ⟩ : ∃ Q, S.length = Q := ⟨_, rfl⟩
    have HN : Hid (L.length = N ∧ K.length = M ∧ S.length = Q) := ⟨hN, hM, hQ⟩
    rw [hN] at d0 hn0 hs HB1 hW1 ⊢
    rw [hM] at hk HB1 hW1 ⊢
    rw [hQ] at hS HB1 hW1 ⊢
    have hn0' : (0 : Int) < (N : Int) := by omega
    subst ha
    clear hN hM hQ
    by_cases hp0 : p = pt0
    · have HPZ : Hid (p = pt0) := hp0
      have KR : Hid _ := risingP_any (some ⟨b, off, none⟩) c1 L W1 HLs.out (H1.out.low b1)
      rw [HN.out.1] at KR
      rw [hp0] at p0 p1 p2
      simp only [pt0] at p0 p1 p2
      go_enter Tryd.func18, Tryd.ntmps18
      go_wp2_with fail
      refine Calls.mono KR.out ?_
      rintro e W2 ⟨⟨r, rfl, hr⟩, bb⟩
      have HR1 : Hid (r = true ↔ RiseP L) := hr
      have b2 := bel_tr b1 bb
      have HB2 : Hid (Blk W2 w.heap.size 27 #[.slice (some ⟨b, off, none⟩) N c1, .slice a2 M c2, .slice a3 Q c3]) := HB1.out.kept bb
      have d0' := HB2.out.cell 0 (.slice (some ⟨b, off, none⟩) N c1) rfl
      have d1' := HB2.out.cell 1 (.slice a2 M c2) rfl
      have d2' := HB2.out.cell 2 (.slice a3 Q c3) rfl
      clear hr bb KR p0 p1 p2 d0 b1 hW1 hp0
      cases r
      · have HF : Hid (¬ RightC L K S) := fun h => by have := HR1.out.2 h.2.1; cases this
        go_wp2
        go_ret
        exact ⟨Tells.no HF.out, b2⟩
      · by_cases hMN : M = N
        · subst hMN
          have KC : Hid _ := rightClasses_any a2 c2 Q K W2 (H2.out.below b2)
          rw [HN.out.2.1] at KC
          go_wp2_with fail
          refine Calls.mono KC.out ?_
          rintro e W3 ⟨⟨r, rfl, hr⟩, bb⟩
          have HR2 : Hid (r = true ↔ RightK K Q) := hr
          have b3 := bel_tr b2 bb
          have HB3 : Hid (Blk W3 w.heap.size 27 #[.slice (some ⟨b, off, none⟩) M c1, .slice a2 M c2, .slice a3 Q c3]) := HB2.out.kept bb
          clear d0' d1' d2' hr bb KC b2
          have d2 := HB3.out.cell 2 (.slice a3 Q c3) rfl
          cases r
          · have HF : Hid (¬ RightC L K S) := fun h => by
              have h4 := h.2.2.2.1
              rw [HN.out.2.2] at h4
              have := HR2.out.2 h4
              cases this
            go_wp2
            go_ret
            exact ⟨Tells.no HF.out, b3⟩
          · have KS : Hid _ := rightSets_any a3 c3 S W3 (H3.out.below b3)
            rw [HN.out.2.2] at KS
            go_wp2_with fail
            refine Calls.mono KS.out ?_
            rintro e W4 ⟨⟨r, rfl, hr⟩, bb⟩
            have HR3 : Hid (r = true ↔ ∀ s ∈ S, RiseI s) := hr
            have b4 := bel_tr b3 bb
            clear d2 hr bb KS b3
            cases r
            · have HF : Hid (¬ RightC L K S) := fun h => by have := HR3.out.2 h.2.2.2.2; cases this
              go_wp2
              go_ret
              exact ⟨Tells.no HF.out, b4⟩
            · have HT : Hid (RightC L K S) := ⟨by rw [HP.out, HPZ.out], by have h9 := HR1.out; simpa using h9, by rw [HN.out.1, HN.out.2.1], by rw [HN.out.2.2]; have h9 := HR2.out; simpa using h9, by have h9 := HR3.out; simpa using h9⟩
              go_wp2
              go_ret
              exact ⟨Tells.yes HT.out, b4⟩
        · have HF : Hid (¬ RightC L K S) := fun h => by
            have := h.2.2.1
            rw [HN.out.1, HN.out.2.1] at this
            exact hMN this
          have hMN' : ((M : Int) == (N : Int)) = false := by rw [beq_eq_false_iff_ne]; omega
          go_wp2
          go_ret
          exact ⟨Tells.no HF.out, b2⟩
    · have HF : Hid (¬ RightC L K S) := fun h => by
        have := h.1
        rw [HP.out] at this
        cases this
        exact hp0 rfl
      obtain ⟨pa, pb, pc⟩ := p
      have hne := pt_ne hp0
      simp only [pt0] at hne p0 p1 p2
      rcases hne with hne | ⟨rfl, hne⟩ | ⟨rfl, rfl, hne⟩
      all_goals (
        go_enter Tryd.func18, Tryd.ntmps18
        go_wp2
        go_ret
        exact ⟨Tells.no HF.out, b1⟩)
end Go.Proofs.YtgppfkbapieneaaDoor
