/- Texts joined: CmN -/
import Derived.Test.YtgppfkbapieneaaDoorCfx31
namespace Go.Proofs.YtgppfkbapieneaaDoor
open Go.RowKit
set_option linter.unusedVariables false
set_option linter.unusedSimpArgs false
/-- The class of the last start that is not behind a point, among the first k. -/
def clsTo (L : List Pt) (K : List Int) (p : Pt) (k : Nat) (x : Int) : Prop := ∃ (i : Nat) (s : Pt), i < k ∧ L[i]? = some s ∧ s.n ≤ p.n ∧ (∀ (j : Nat) (t : Pt), i < j → j < k → L[j]? = some t → p.n < t.n) ∧ K[i]? = some x
set_option maxRecDepth 100000 in
set_option maxHeartbeats 8000000 in
theorem rfind_ck (a1 a2 a3 : Option Addr) (c1 c2 c3 : Nat) (L : List Pt) (K : List Int) (S : List (List Int)) (p : Pt) (w : World) (hs : L.length ≤ 17592186044416) (h1 : RowP w a1 L) (h2 : RowI w a2 K) (h3 : RowS w a3 S) (hp : p.ok) :
    Calls Tryd.prog 17 #[.agg #[.slice a1 L.length c1, .slice a2 K.length c2, .slice a3 S.length c3], .agg p.v] w fun e w' => Finds e L K S p ∧ Below w.heap.size w w' := by
  have HPO : Hid p.ok := hp
  have HPN : Hid (0 ≤ p.n) := by show 0 ≤ p.n; obtain ⟨⟨q1, q2⟩, ⟨q3, q4⟩, q5, q6⟩ := hp; unfold Pt.n; omega
  obtain ⟨W1, hW1⟩ : ∃ W1, w.alloc (.cells #[.slice a1 L.length c1, .slice a2 K.length c2, .slice a3 S.length c3] 27) = W1 := ⟨_, rfl⟩
  obtain ⟨W2, hW2⟩ : ∃ W2, W1.alloc (.cells p.v 42) = W2 := ⟨_, rfl⟩
  have b1 := bel_nw hW1
  have b2 := bel_al b1 hW2
  have HB1 : Hid (Blk W2 w.heap.size 27 #[.slice a1 L.length c1, .slice a2 K.length c2, .slice a3 S.length c3]) := (blk_nw hW1).al hW2
  have HB2 : Hid (Blk W2 W1.heap.size 42 p.v) := blk_nw hW2
  have KR : Hid _ := rright_ck a1 a2 a3 c1 c2 c3 L K S W2 hs (h1.low b2) (h2.below b2) (h3.below b2)
  have HR1 : Hid (∀ W, Below w.heap.size w W → RowP W a1 L ∧ RowI W a2 K) := fun W hb => ⟨h1.low hb, h2.below hb⟩
  clear h1 h2 h3 hp b1
  obtain ⟨N, hN⟩ : ∃ N, L.length = N := ⟨_, rfl⟩
  obtain ⟨M, hM⟩ : ∃ M, K.length = M := ⟨_, rfl⟩
  have HN : Hid (L.length = N ∧ K.length = M) := ⟨hN, hM⟩
  rw [hN] at hs HB1 hW1 KR ⊢
  rw [hM] at HB1 hW1 KR ⊢
  generalize S.length = Q at *
  clear hN hM
  have d0 := HB1.out.cell 0 (.slice a1 N c1) rfl
  have d1 := HB1.out.cell 1 (.slice a2 M c2) rfl
  have d2 := HB1.out.cell 2 (.slice a3 Q c3) rfl
  go_enter Tryd.func17, Tryd.ntmps17
  go_wp2_with fail
  refine Calls.mono KR.out ?_
  rintro e W3 ⟨⟨r, rfl, hr⟩, bb⟩
  have HR : Hid (r = true ↔ RightC L K S) := hr
  have b3 := bel_tr b2 bb
  have HB3 : Hid (Blk W3 w.heap.size 27 #[.slice a1 N c1, .slice a2 M c2, .slice a3 Q c3]) := HB1.out.kept bb
  have HB4 : Hid (Blk W3 W1.heap.size 42 p.v) := HB2.out.kept bb
  clear hr bb KR d0 d1 d2 hW1 hW2 b2 HB1 HB2
  cases r
  · have HF : Hid (¬ RightC L K S) := fun h => by have := HR.out.2 h; cases this
    go_wp2
    go_ret2
    exact ⟨.inl ⟨HF.out, rfl⟩, b3⟩
  · have HRC : Hid (RightC L K S) := HR.out.1 rfl
    have HMN : M = N := by have := HRC.out.2.2.1; rw [HN.out.1, HN.out.2] at this; exact this
    subst HMN
    have HR2 : Hid (∀ W, Below W3.heap.size W3 W → RowP W a1 L ∧ RowI W a2 K ∧ Blk W w.heap.size 27 #[.slice a1 M c1, .slice a2 M c2, .slice a3 Q c3] ∧ Blk W W1.heap.size 42 p.v ∧ Below w.heap.size w W) := fun W hb =>
      ⟨(HR1.out W (bel_tr b3 hb)).1, (HR1.out W (bel_tr b3 hb)).2, HB3.out.kept hb, HB4.out.kept hb, bel_tr b3 hb⟩
    clear HB3 HB4 HR1
    go_wp2_with fail
    go_loopw [6, 7] (fun n i wr => ∃ (k : Nat) (x : Int), k ≤ M ∧ n = .int .i64 x ∧ i = .int .i64 k ∧ Below W3.heap.size W3 wr ∧ Hid (k = 0 ∨ clsTo L K p k x)) (fun _ i _ => M - (intOf i).toNat)
    case atStart => exact ⟨0, 0, Nat.zero_le _, rfl, rfl, Below.refl _ _, .inl rfl⟩
    case round =>
      obtain ⟨k, x, hk, rfl, rfl, qb, qe⟩ := hrel
      by_cases hlt : k < M
      · have ik : (k : Int) < (M : Int) := by omega
        obtain ⟨q, hq⟩ : ∃ q, L[k]? = some q := ⟨_, List.getElem?_eq_getElem (by rw [HN.out.1]; exact hlt)⟩
        obtain ⟨y, hy⟩ : ∃ y, K[k]? = some y := ⟨_, List.getElem?_eq_getElem (by rw [HN.out.2]; exact hlt)⟩
        have HQ : Hid (L[k]? = some q) := hq
        obtain ⟨r1, r2, B1, B2, b4⟩ := HR2.out wr.drew qb.drew
        have hqo := r1.each q (List.mem_of_getElem? hq)
        have hle := Pt.less_iff HPO.out hqo
        obtain ⟨b, off, ha, q0, q1, q2⟩ := r1.at_ hq
        subst ha
        have d0 := B1.cell 0 (.slice (some ⟨b, off, none⟩) M c1) rfl
        have e0 := (HR2.out wr qb).2.2.1.cell 0 (.slice (some ⟨b, off, none⟩) M c1) rfl
        have KD : Hid _ := less_ck p q wr.drew
        obtain ⟨R, hR⟩ : ∃ R, p.less q = R := ⟨_, rfl⟩
        rw [hR] at KD hle
        have HY : Hid (R = false → clsTo L K p (k + 1) y) := fun h => ⟨k, q, by omega, hq, by
          have h3 : ¬ p.n < q.n := fun h4 => by have := hle.2 h4; rw [h] at this; cases this
          omega, fun j t hj hj' => by omega, hy⟩
        have HZ : Hid (R = true → clsTo L K p (k + 1) x) := fun h => by
          show clsTo L K p (k + 1) x
          have hlt2 := hle.1 h
          rcases qe.out with e | ⟨i, s, g1, g2, g3, g4, g5⟩
          · subst e
            have h0 := HRC.out.1
            rw [hq] at h0
            cases h0
            have := HPN.out
            have h5 : pt0.n = 0 := by simp [pt0, Pt.n]
            omega
          · refine ⟨i, s, by omega, g2, g3, fun j t hj hj' ht => ?_, g5⟩
            by_cases e : j = k
            · subst e
              rw [hq] at ht
              cases ht
              exact hlt2
            · exact g4 j t hj (by omega) ht
        have HYK : Hid (K[k]? = some y) := hy
        have hw2 : IntKind.i64.wrap ((k : Int) + 1) = ((k + 1 : Nat) : Int) := by simp [IntKind.wrap, IntKind.bits, IntKind.signed]; omega
        clear hR hle hq hy hqo r1 r2 qe B1
        have t0 := B2.cell 0 (.int .u64 p.a) rfl
        have t1 := B2.cell 1 (.int .u64 p.b) rfl
        have t2 := B2.cell 2 (.int .u64 p.c) rfl
        have HD : Hid (Below W3.heap.size W3 wr.drew) := qb.drew
        clear B2 b4
        obtain ⟨pa, pb, pc⟩ := p
        obtain ⟨ua, ub, uc⟩ := q
        simp only at t0 t1 t2 q0 q1 q2
        go_wp2
        go_region_held3 (fun w'' => w''.cell? ⟨w.heap.size, 0, none⟩ = some (.slice (some ⟨b, off, none⟩) M c1) ∧ w''.cell? ⟨b, off + k * 3, none⟩ = some (.int .u64 ua) ∧ w''.cell? ⟨b, off + k * 3 + 1, none⟩ = some (.int .u64 ub) ∧ w''.cell? ⟨b, off + k * 3 + 2, none⟩ = some (.int .u64 uc) ∧ w''.cell? ⟨W1.heap.size, 0, none⟩ = some (.int .u64 pa) ∧ w''.cell? ⟨W1.heap.size, 1, none⟩ = some (.int .u64 pb) ∧ w''.cell? ⟨W1.heap.size, 2, none⟩ = some (.int .u64 pc)) (first | exact ⟨d0, q0, q1, q2, t0, t1, t2⟩ | exact ⟨kept bb d0, kept bb q0, kept bb q1, kept bb q2, kept bb t0, kept bb t1, kept bb t2⟩ | go_keep) (first | (go_at_call 46; refine Calls.mono KD.out ?_; rintro e W4 ⟨rfl, bb⟩))
        have qb4 := bel_tr HD.out bb
        clear d0 e0 q0 q1 q2 t0 t1 t2 bb KD
        cases R
        · have HC : Hid (k + 1 = 0 ∨ clsTo L K ⟨pa, pb, pc⟩ (k + 1) y) := .inr (HY.out rfl)
          obtain ⟨r1, r2, B1, B2, b4⟩ := HR2.out W4 qb4
          obtain ⟨b', off', ha, hcs⟩ := r2.cells (by rw [HN.out.2]; omega)
          have x0 := hcs k (by rw [HN.out.2]; omega)
          rw [show K.getD k 0 = y by simp [HYK.out]] at x0
          subst ha
          have d1 := B1.cell 1 (.slice (some ⟨b', off', none⟩) M c2) rfl
          clear hcs r1 r2 B1 B2 HY HZ
          go_wp2
          exact ⟨⟨k + 1, y, by omega, rfl, by first | rfl | (congr 1), qb4, HC⟩, by simp only [intOf]; omega⟩
        · have HC : Hid (k + 1 = 0 ∨ clsTo L K ⟨pa, pb, pc⟩ (k + 1) x) := .inr (HZ.out rfl)
          clear HY HZ
          go_wp2
          exact ⟨⟨k + 1, x, by omega, rfl, by first | rfl | (congr 1), qb4, HC⟩, by simp only [intOf]; omega⟩
      · have ik : ¬ (k : Int) < (M : Int) := by omega
        have HC : Hid (clsAt L K p x) := by
          show clsAt L K p x
          rcases qe.out with e | ⟨i, s, g1, g2, g3, g4, g5⟩
          · have h0 := HRC.out.1
            have := (List.getElem?_eq_some_iff.1 h0).1
            have := HN.out.1
            omega
          · exact ⟨i, s, g2, g3, fun j t hj ht => g4 j t hj (by have := (List.getElem?_eq_some_iff.1 ht).1; have := HN.out.1; omega) ht, g5⟩
        have q6 := (HR2.out wr qb).2.2.2.2
        have B1 := (HR2.out wr qb).2.2.1
        have d0 := B1.cell 0 (.slice a1 M c1) rfl
        clear qe B1
        go_wp2
        go_ret2
        exact ⟨.inr ⟨HRC.out, x, rfl, HC.out⟩, q6⟩
end Go.Proofs.YtgppfkbapieneaaDoor
