/- Texts joined: CmL -/
import Derived.Test.YtcoldgpnkdallaaDoorRxa0
import Derived.Test.YtcoldgpnkdallaaDoorRxa1
import Derived.Test.YtcoldgpnkdallaaDoorRxa2
import Derived.Test.YtcoldgpnkdallaaDoorRxa3
import Derived.Test.YtcoldgpnkdallaaDoorRxa4
import Derived.Test.YtcoldgpnkdallaaDoorRxa5
import Derived.Test.YtcoldgpnkdallaaDoorRxa6
import Derived.Test.YtcoldgpnkdallaaDoorRxa7
import Derived.Test.YtcoldgpnkdallaaDoorRxa8
import Derived.Test.YtcoldgpnkdallaaDoorRxa9
import Derived.Test.YtcoldgpnkdallaaDoorRxa10
import Derived.Test.YtcoldgpnkdallaaDoorRxa11
import Derived.Test.YtcoldgpnkdallaaDoorRxa12
import Derived.Test.YtcoldgpnkdallaaDoorRxa13
import Derived.Test.YtcoldgpnkdallaaDoorRxa14
import Derived.Test.YtcoldgpnkdallaaDoorRxa15
import Derived.Test.YtcoldgpnkdallaaDoorRxa16
import Derived.Test.YtcoldgpnkdallaaDoorRxa17
import Derived.Test.YtcoldgpnkdallaaDoorRxa18
import Derived.Test.YtcoldgpnkdallaaDoorRxa19
import Derived.Test.YtcoldgpnkdallaaDoorRxa20
import Derived.Test.YtcoldgpnkdallaaDoorRxa21
import Derived.Test.YtcoldgpnkdallaaDoorRxa22
import Derived.Test.YtcoldgpnkdallaaDoorRxa23
import Derived.Test.YtcoldgpnkdallaaDoorRxa24
import Derived.Test.YtcoldgpnkdallaaDoorRxa25
import Derived.Test.YtcoldgpnkdallaaDoorRxa26
import Derived.Test.YtcoldgpnkdallaaDoorRxa27
import Derived.Test.YtcoldgpnkdallaaDoorRxa28
import Derived.Test.YtcoldgpnkdallaaDoorRxa29
import Derived.Test.YtcoldgpnkdallaaDoorRxa30
import Derived.Test.YtcoldgpnkdallaaDoorRxa31
import Derived.Test.YtcoldgpnkdallaaDoorRxa32
import Derived.Test.YtcoldgpnkdallaaDoorRxa33
import Derived.Test.YtcoldgpnkdallaaDoorRxa34
import Derived.Test.YtcoldgpnkdallaaDoorRxa35
import Derived.Test.YtcoldgpnkdallaaDoorRxa36
import Derived.Test.YtcoldgpnkdallaaDoorRxa37
import Derived.Test.YtcoldgpnkdallaaDoorRxa39
import Derived.Test.YtcoldgpnkdallaaDoorRxa41
import Derived.Test.YtcoldgpnkdallaaDoorRxc0
namespace Go.Proofs.YtcoldgpnkdallaaDoor
open Go.RowKit
set_option linter.unusedVariables false
set_option linter.unusedSimpArgs false
set_option maxRecDepth 100000 in
set_option maxHeartbeats 4000000 in
theorem equalS_any (a a' : Option Addr) (c c' : Nat) (S S' : List (List Int)) (w : World) (h : RowS w a S) (h' : RowS w a' S') :
    Calls Tryd.prog 61 #[.slice a S.length c, .slice a' S'.length c', .func (.func 38) #[] #[]] w fun e w' => Tells e (S = S') ∧ Below w.heap.size w w' := by
  have KS : Hid (∀ (W : World) (a b : Option Addr) (c d : Nat) (x y : List Int), RowI W a x → RowI W b y → Calls Tryd.prog 38 #[.slice a x.length c, .slice b y.length d] W fun e w' => e = .returned (.bool (decide (x = y))) ∧ Below W.heap.size W w') := fun W a b c d x y h h' => equalI_any a b c d x y W h h'
  have hs := h.small
  have hcf : ∀ args w, (callFunc 38 args).run Tryd.prog w = .ok (.enter 38 args) w := Tryd.call38
  by_cases hl : S.length = S'.length
  · have HR : Hid (RowS w a S) := h
    have HR' : Hid (RowS w a' S') := h'
    have HL : Hid (S.length = S'.length) := hl
    rw [← hl]
    obtain ⟨N, hN⟩ : ∃ N, S.length = N := ⟨_, rfl⟩
    have HN : Hid (S.length = N) := hN
    rw [hN] at hs ⊢
    clear hN hl h h'
    go_enter Tryd.func61, Tryd.ntmps61
    go_wp2_with fail
    go_loopw [17] (fun i wr => ∃ (k : Nat), k ≤ N ∧ i = .int .i64 k ∧ Below w.heap.size w wr ∧ Hid (S.take k = S'.take k)) (fun i _ => N - (intOf i).toNat)
    case atStart => exact ⟨0, Nat.zero_le _, rfl, Below.refl _ _, by show S.take 0 = S'.take 0; simp⟩
    case round =>
      obtain ⟨k, hk, rfl, qb, qe⟩ := hrel
      by_cases hlt : k < N
      · have ik : (k : Int) < (N : Int) := by omega
        obtain ⟨s, hs1⟩ : ∃ s, S[k]? = some s := ⟨_, List.getElem?_eq_getElem (by rw [HN.out]; exact hlt)⟩
        obtain ⟨t, ht1⟩ : ∃ t, S'[k]? = some t := ⟨_, List.getElem?_eq_getElem (by rw [← HL.out, HN.out]; exact hlt)⟩
        obtain ⟨b, off, ai, ci, ha, x0, r0⟩ := (HR.out.below qb).cells k s hs1
        obtain ⟨b', off', ai', ci', ha', y0, r1⟩ := (HR'.out.below qb).cells k t ht1
        have KD : Hid _ := KS.out wr ai ai' ci ci' s t r0 r1
        have hst : Hid ((S.take (k + 1) = S'.take (k + 1)) ↔ s = t) := by
          show _ ↔ _
          rw [List.take_add_one, List.take_add_one, qe.out, hs1, ht1]
          simp
        have HST : Hid (S[k]? = some s ∧ S'[k]? = some t) := ⟨hs1, ht1⟩
        subst ha
        subst ha'
        have hw2 : IntKind.i64.wrap ((k : Int) + 1) = ((k + 1 : Nat) : Int) := by simp [IntKind.wrap, IntKind.bits, IntKind.signed]; omega
        obtain ⟨n1, hn1⟩ : ∃ n, s.length = n := ⟨_, rfl⟩
        obtain ⟨n2, hn2⟩ : ∃ n, t.length = n := ⟨_, rfl⟩
        rw [hn1] at x0 KD
        rw [hn2] at y0 KD
        clear hs1 ht1 r0 r1 hn1 hn2 qe
        go_wp2_with fail
        refine Calls.mono KD.out ?_
        rintro e W2 ⟨rfl, bb⟩
        have b2 := bel_tr qb bb
        clear x0 y0 bb KD
        by_cases hst' : s = t
        · have hd : decide (s = t) = true := by simp [hst']
          have qe' : Hid (S.take (k + 1) = S'.take (k + 1)) := hst.out.2 hst'
          rw [hd]
          clear hd
          go_wp2
          exact ⟨⟨k + 1, by omega, by first | rfl | (congr 1), b2, qe'⟩, by simp only [intOf]; omega⟩
        · have hd : decide (s = t) = false := by simp [hst']
          have HF : Hid (¬ S = S') := fun e => hst' (by
            have h1 := HST.out
            rw [e] at h1
            rw [h1.1] at h1
            exact Option.some.inj h1.2)
          rw [hd]
          clear hd
          go_wp2
          go_ret
          exact ⟨Tells.no HF.out, b2⟩
      · have ik : ¬ (k : Int) < (N : Int) := by omega
        have HT : Hid (S = S') := by
          show _ = _
          have h1 := qe.out
          rw [List.take_of_length_le (by rw [HN.out]; omega), List.take_of_length_le (by rw [← HL.out, HN.out]; omega)] at h1
          exact h1
        go_wp2
        go_ret
        exact ⟨Tells.yes HT.out, qb⟩
  · have hl' : ((S.length : Int) != (S'.length : Int)) = true := by simp; omega
    have HF : Hid (¬ S = S') := fun e => hl (by rw [e])
    clear h h' KS hl
    go_enter Tryd.func61, Tryd.ntmps61
    go_wp2
    go_ret
    exact ⟨Tells.no HF.out, Below.refl _ _⟩
set_option maxRecDepth 100000 in
set_option maxHeartbeats 8000000 in
theorem same_ck (a1 a2 a3 b1 b2 b3 : Option Addr) (c1 c2 c3 d1 d2 d3 : Nat) (L L' : List Pt) (K K' : List Int) (S S' : List (List Int)) (w : World) (hs : L.length ≤ 17592186044416) (h1 : RowP w a1 L) (h2 : RowI w a2 K) (h3 : RowS w a3 S) (g1 : RowP w b1 L') (g2 : RowI w b2 K') (g3 : RowS w b3 S') :
    Calls Tryd.prog 35 #[.agg #[.slice a1 L.length c1, .slice a2 K.length c2, .slice a3 S.length c3], .agg #[.slice b1 L'.length d1, .slice b2 K'.length d2, .slice b3 S'.length d3]] w fun e w' => Tells e (L = L' ∧ K = K' ∧ S = S') ∧ Below w.heap.size w w' := by
  obtain ⟨W1, hW1⟩ : ∃ W1, w.alloc (.cells #[.slice a1 L.length c1, .slice a2 K.length c2, .slice a3 S.length c3] 63) = W1 := ⟨_, rfl⟩
  obtain ⟨W2, hW2⟩ : ∃ W2, W1.alloc (.cells #[.slice b1 L'.length d1, .slice b2 K'.length d2, .slice b3 S'.length d3] 63) = W2 := ⟨_, rfl⟩
  have q2 := bel_al (bel_nw hW1) hW2
  have HB1 : Hid (Blk W2 w.heap.size 63 #[.slice a1 L.length c1, .slice a2 K.length c2, .slice a3 S.length c3]) := (blk_nw hW1).al hW2
  have HB2 : Hid (Blk W2 W1.heap.size 63 #[.slice b1 L'.length d1, .slice b2 K'.length d2, .slice b3 S'.length d3]) := blk_nw hW2
  have KP : Hid _ := equalP_any a1 b1 c1 d1 L L' W2 hs (h1.low q2) (g1.low q2)
  have KI : Hid (∀ W, Below w.heap.size w W → Calls Tryd.prog 38 #[.slice a2 K.length c2, .slice b2 K'.length d2] W fun e w' => e = .returned (.bool (decide (K = K'))) ∧ Below W.heap.size W w') := fun W hb => equalI_any a2 b2 c2 d2 K K' W (h2.below hb) (g2.below hb)
  have KS : Hid (∀ W, Below w.heap.size w W → Calls Tryd.prog 61 #[.slice a3 S.length c3, .slice b3 S'.length d3, .func (.func 38) #[] #[]] W fun e w' => Tells e (S = S') ∧ Below W.heap.size W w') := fun W hb => equalS_any a3 b3 c3 d3 S S' W (h3.below hb) (g3.below hb)
  generalize L.length = N at *
  generalize L'.length = N' at *
  generalize K.length = M at *
  generalize K'.length = M' at *
  generalize S.length = Q at *
  generalize S'.length = Q' at *
  clear h1 h2 h3 g1 g2 g3
  have x0 := HB1.out.cell 0 (.slice a1 N c1) rfl
  have y0 := HB2.out.cell 0 (.slice b1 N' d1) rfl
  go_enter Tryd.func35, Tryd.ntmps35
  go_wp2_with fail
  refine Calls.mono KP.out ?_
  rintro e W3 ⟨⟨r, rfl, hr⟩, bb⟩
  have HR : Hid (r = true ↔ L = L') := hr
  have q3 := bel_tr q2 bb
  have HB3 : Hid (Blk W3 w.heap.size 63 #[.slice a1 N c1, .slice a2 M c2, .slice a3 Q c3]) := HB1.out.kept bb
  have HB4 : Hid (Blk W3 W1.heap.size 63 #[.slice b1 N' d1, .slice b2 M' d2, .slice b3 Q' d3]) := HB2.out.kept bb
  clear x0 y0 KP hW1 hW2 q2 HB1 HB2 bb hr
  cases r
  · have HF : Hid (¬ (L = L' ∧ K = K' ∧ S = S')) := fun h => by have := HR.out.2 h.1; cases this
    go_wp2
    go_ret
    exact ⟨Tells.no HF.out, q3⟩
  · have HL : Hid (L = L') := HR.out.1 rfl
    have KD : Hid _ := KI.out W3 q3
    have x1 := HB3.out.cell 1 (.slice a2 M c2) rfl
    have y1 := HB4.out.cell 1 (.slice b2 M' d2) rfl
    go_wp2_with fail
    refine Calls.mono KD.out ?_
    rintro e W4 ⟨rfl, bb⟩
    have q4 := bel_tr q3 bb
    have HB5 : Hid (Blk W4 w.heap.size 63 #[.slice a1 N c1, .slice a2 M c2, .slice a3 Q c3]) := HB3.out.kept bb
    have HB6 : Hid (Blk W4 W1.heap.size 63 #[.slice b1 N' d1, .slice b2 M' d2, .slice b3 Q' d3]) := HB4.out.kept bb
    clear x1 y1 KI KD q3 HB3 HB4 bb
    obtain ⟨T, hT⟩ : ∃ T, decide (K = K') = T := ⟨_, rfl⟩
    have HT : Hid (decide (K = K') = T) := hT
    rw [hT]
    clear hT
    cases T
    · have HF : Hid (¬ (L = L' ∧ K = K' ∧ S = S')) := fun h => by have := HT.out; rw [decide_eq_false_iff_not] at this; exact this h.2.1
      go_wp2
      go_ret
      exact ⟨Tells.no HF.out, q4⟩
    · have HK : Hid (K = K') := (decide_eq_true_iff.1 HT.out : K = K')
      have KD : Hid _ := KS.out W4 q4
      have x2 := HB5.out.cell 2 (.slice a3 Q c3) rfl
      have y2 := HB6.out.cell 2 (.slice b3 Q' d3) rfl
      go_wp2_with fail
      refine Calls.mono KD.out ?_
      rintro e W5 ⟨⟨r, rfl, hr⟩, bb⟩
      have HR2 : Hid (r = true ↔ S = S') := hr
      have q5 := bel_tr q4 bb
      clear x2 y2 KS KD q4 HB5 HB6 bb hr
      cases r
      · have HF : Hid (¬ (L = L' ∧ K = K' ∧ S = S')) := fun h => by have := HR2.out.2 h.2.2; cases this
        go_wp2
        go_ret
        exact ⟨Tells.no HF.out, q5⟩
      · have HS : Hid (S = S') := HR2.out.1 rfl
        go_wp2
        go_ret
        exact ⟨Tells.yes ⟨HL.out, HK.out, HS.out⟩, q5⟩
end Go.Proofs.YtcoldgpnkdallaaDoor
