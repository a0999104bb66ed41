/- Texts joined: CmH -/
import Derived.Test.YtgppfkbapieneaaDoorCox32
namespace Go.Proofs.YtgppfkbapieneaaDoor
open Go.RowKit
set_option linter.unusedVariables false
set_option linter.unusedSimpArgs false
theorem rpiece_any (r : Rl) (d : Nat) (hd : d < 7) (w : World) (ho : r.ok) (hr : r.right = true) :
    Calls Tryd.prog 33 #[.agg r.v, .int .i64 (d : Int)] w fun e w' => ∃ p q : Pt, e = .returned (.tuple #[.agg p.v, .agg q.v, .bool (r.any_ d)]) ∧ (r.any_ d = false → p = r.from_ d ∧ q = r.upto d) ∧ Below w.heap.size w w' := by
  obtain ⟨r1, r2, r3, r4, r5, r6, r7⟩ := Rl.right_all hr
  match d, hd with
  | 0, _ => exact (rpiece_0 r w).mono (by rintro e w' ⟨rfl, hb⟩; exact ⟨_, _, rfl, fun h => by
      have h' : (r.fr == -1) = false := h
      simp only [beq_eq_false_iff_ne, ne_eq] at h'
      exact ⟨ptW_eq (by omega), ptW_eq (by omega)⟩, hb⟩)
  | 1, _ => exact (rpiece_1 r w).mono (by rintro e w' ⟨rfl, hb⟩; exact ⟨_, _, rfl, fun h => by
      have h' : (r.tz == -1) = false := h
      simp only [beq_eq_false_iff_ne, ne_eq] at h'
      exact ⟨ptW_eq (by omega), ptW_eq (by omega)⟩, hb⟩)
  | 2, _ =>
    cases hz : zeroP r.s r.sn with
    | true => exact (rpiece_2z r w hz).mono (by rintro e w' ⟨rfl, hb⟩; exact ⟨pt0, pt0, by rw [show r.any_ 2 = true from hz], fun h => absurd (h.symm.trans (show r.any_ 2 = true from hz)) (by decide), hb⟩)
    | false => exact (rpiece_2s r w ho.s (net_right r3 hz)).mono (by rintro e w' ⟨rfl, hb⟩; exact ⟨ptAd r.s, ptAd (lastAd r.s r.sn), by rw [show r.any_ 2 = false from hz], fun _ => ⟨rfl, rfl⟩, hb⟩)
  | 3, _ =>
    cases hz : zeroP r.d r.dn with
    | true => exact (rpiece_3z r w hz).mono (by rintro e w' ⟨rfl, hb⟩; exact ⟨pt0, pt0, by rw [show r.any_ 3 = true from hz], fun h => absurd (h.symm.trans (show r.any_ 3 = true from hz)) (by decide), hb⟩)
    | false => exact (rpiece_3s r w ho.d (net_right r4 hz)).mono (by rintro e w' ⟨rfl, hb⟩; exact ⟨ptAd r.d, ptAd (lastAd r.d r.dn), by rw [show r.any_ 3 = false from hz], fun _ => ⟨rfl, rfl⟩, hb⟩)
  | 4, _ => exact (rpiece_4 r w).mono (by rintro e w' ⟨rfl, hb⟩; exact ⟨_, _, rfl, fun h => ⟨ptW_eq (by omega), ptW_eq (by omega)⟩, hb⟩)
  | 5, _ => exact (rpiece_5 r w).mono (by rintro e w' ⟨rfl, hb⟩; exact ⟨_, _, rfl, fun h => ⟨ptW_eq (by omega), ptW_eq (by omega)⟩, hb⟩)
  | 6, _ => exact (rpiece_6 r w).mono (by rintro e w' ⟨rfl, hb⟩; exact ⟨_, _, rfl, fun h => ⟨ptW_eq (by omega), ptW_eq (by omega)⟩, hb⟩)
theorem less_n {p q : Pt} (hp : p.ok) (hq : q.ok) : p.less q = decide (p.n < q.n) := by
  rw [Bool.eq_iff_iff, Pt.less_iff hp hq, decide_eq_true_eq]
set_option maxRecDepth 100000 in
set_option maxHeartbeats 8000000 in
theorem rholds_any (r : Rl) (d : Nat) (hd : d < 7) (x : Pt) (w : World) (ho : r.ok) (hr : r.right = true) (hx : x.ok) :
    Calls Tryd.prog 36 #[.agg r.v, .int .i64 (d : Int), .agg x.v] w fun e w' => e = .returned (.bool ((r.piece d).holds x.n)) ∧ Below w.heap.size w w' := by
  have KP : Hid (∀ W, Calls Tryd.prog 33 #[.agg r.v, .int .i64 (d : Int)] W fun e w' => ∃ p q : Pt, e = .returned (.tuple #[.agg p.v, .agg q.v, .bool (r.any_ d)]) ∧ (r.any_ d = false → p = r.from_ d ∧ q = r.upto d) ∧ Below W.heap.size W w') := fun W => rpiece_any r d hd W ho hr
  have KL : Hid (∀ (p q : Pt) W, Calls Tryd.prog 46 #[.agg p.v, .agg q.v] W fun e w' => e = .returned (.bool (p.less q)) ∧ Below W.heap.size W w') := less_ck
  have HH : Hid ((r.piece d).holds x.n = (r.any_ d || (!x.less (r.from_ d) && !(r.upto d).less x)) ∨ r.any_ d = true) := by
    show _ ∨ _
    cases hz : r.any_ d with
    | true => exact .inr rfl
    | false =>
      left
      have hpo := piece_ok ho hr d hd
      simp only [Rl.fst_, Rl.lst_, hz, Bool.false_eq_true, if_false] at hpo
      rw [less_n hx hpo.1, less_n hpo.2.1 hx]
      unfold Spn.holds
      simp only [Rl.piece, hz, Bool.false_or]
      rw [Bool.eq_iff_iff]
      simp only [Bool.and_eq_true, decide_eq_true_eq, Bool.not_eq_true', decide_eq_false_iff_not]
      omega
  have HT : Hid (r.any_ d = true → (r.piece d).holds x.n = true) := fun h => by unfold Spn.holds; simp [Rl.piece, h]
  generalize (r.piece d).holds x.n = R at *
  have hs1 : (Tryd.prog.info? 55).map (·.size) = some r.v.size := info_rl r
  obtain ⟨W1, hW1⟩ : ∃ W1, w.alloc (.cells r.v 55) = W1 := ⟨_, rfl⟩
  obtain ⟨W2, hW2⟩ : ∃ W2, W1.alloc (.cells x.v 42) = W2 := ⟨_, rfl⟩
  have b2 := bel_al (bel_nw hW1) hW2
  have hB := ((blk_nw hW1).al hW2).at_
  have HX2 : Hid (Blk W2 W1.heap.size 42 x.v) := blk_nw hW2
  generalize r.from_ d = F at *
  generalize r.upto d = U at *
  generalize r.any_ d = Z at *
  generalize r.v = RV at *
  clear ho hr hx hd
  go_enter Tryd.func36, Tryd.ntmps36
  go_wp2_with (refine wpList_load_at_w rfl _ _ rfl _ 0 (by rfl) _ hB Tryd.underlying55 hs1 ?_)
  refine Calls.mono (KP.out _) ?_
  rintro e W3 ⟨p, q, rfl, hpq, bb⟩
  have HPQ : Hid (Z = false → p = F ∧ q = U) := hpq
  have b3 := bel_tr b2 bb
  have HX3 : Hid (Blk W3 W1.heap.size 42 x.v) := HX2.out.kept bb
  clear hB hs1 bb hW1 hW2 b2 KP hpq
  obtain ⟨pa, pb, pc⟩ := p
  obtain ⟨qa, qb, qc⟩ := q
  have b5 : Below w.heap.size w ((W3.alloc (.cells #[.int .u64 pa, .int .u64 pb, .int .u64 pc] 42)).alloc (.cells #[.int .u64 qa, .int .u64 qb, .int .u64 qc] 42)) := bel_al (bel_al b3 rfl) rfl
  have X5 : Blk ((W3.alloc (.cells #[.int .u64 pa, .int .u64 pb, .int .u64 pc] 42)).alloc (.cells #[.int .u64 qa, .int .u64 qb, .int .u64 qc] 42)) W1.heap.size 42 x.v := (HX3.out.alloc _).alloc _
  have P5 : Blk ((W3.alloc (.cells #[.int .u64 pa, .int .u64 pb, .int .u64 pc] 42)).alloc (.cells #[.int .u64 qa, .int .u64 qb, .int .u64 qc] 42)) W3.heap.size 42 #[.int .u64 pa, .int .u64 pb, .int .u64 pc] := (blk_new W3 _ _).alloc _
  have Q5 : Blk ((W3.alloc (.cells #[.int .u64 pa, .int .u64 pb, .int .u64 pc] 42)).alloc (.cells #[.int .u64 qa, .int .u64 qb, .int .u64 qc] 42)) (W3.heap.size + 1) 42 #[.int .u64 qa, .int .u64 qb, .int .u64 qc] := blk1 W3 _ _ _
  cases Z
  · obtain ⟨hF, hU⟩ := HPQ.out rfl
    subst hF
    subst hU
    have eR : R = (false || (!x.less ⟨pa, pb, pc⟩ && !(⟨qa, qb, qc⟩ : Pt).less x)) := by
      rcases HH.out with h | h
      · exact h
      · cases h
    rw [Bool.false_or] at eR
    have HER : Hid (R = (!x.less ⟨pa, pb, pc⟩ && !(⟨qa, qb, qc⟩ : Pt).less x)) := eR
    have x0 := X5.cell 0 (.int .u64 x.a) rfl
    have x1 := X5.cell 1 (.int .u64 x.b) rfl
    have x2 := X5.cell 2 (.int .u64 x.c) rfl
    have HX5 : Hid (Blk ((W3.alloc (.cells #[.int .u64 pa, .int .u64 pb, .int .u64 pc] 42)).alloc (.cells #[.int .u64 qa, .int .u64 qb, .int .u64 qc] 42)) W1.heap.size 42 x.v) := X5
    have HP5 : Hid (Blk ((W3.alloc (.cells #[.int .u64 pa, .int .u64 pb, .int .u64 pc] 42)).alloc (.cells #[.int .u64 qa, .int .u64 qb, .int .u64 qc] 42)) W3.heap.size 42 #[.int .u64 pa, .int .u64 pb, .int .u64 pc]) := P5
    have HQ5 : Hid (Blk ((W3.alloc (.cells #[.int .u64 pa, .int .u64 pb, .int .u64 pc] 42)).alloc (.cells #[.int .u64 qa, .int .u64 qb, .int .u64 qc] 42)) (W3.heap.size + 1) 42 #[.int .u64 qa, .int .u64 qb, .int .u64 qc]) := Q5
    have KL1 : Hid _ := KL.out x ⟨pa, pb, pc⟩ ((W3.alloc (.cells #[.int .u64 pa, .int .u64 pb, .int .u64 pc] 42)).alloc (.cells #[.int .u64 qa, .int .u64 qb, .int .u64 qc] 42))
    clear eR X5 P5 Q5
    go_wp2_with fail
    refine Calls.mono KL1.out ?_
    rintro e W6 ⟨rfl, bb⟩
    have b6 := bel_tr b5 bb
    have HX6 : Hid (Blk W6 W1.heap.size 42 x.v) := HX5.out.kept bb
    have HQ6 : Hid (Blk W6 (W3.heap.size + 1) 42 #[.int .u64 qa, .int .u64 qb, .int .u64 qc]) := HQ5.out.kept bb
    obtain ⟨l1, hl1⟩ : ∃ l1, x.less ⟨pa, pb, pc⟩ = l1 := ⟨_, rfl⟩
    have HL1 : Hid (x.less ⟨pa, pb, pc⟩ = l1) := hl1
    rw [hl1]
    clear x0 x1 x2 bb KL1 hl1 b5
    cases l1
    · have x0 := HX6.out.cell 0 (.int .u64 x.a) rfl
      have x1 := HX6.out.cell 1 (.int .u64 x.b) rfl
      have x2 := HX6.out.cell 2 (.int .u64 x.c) rfl
      have q0 := HQ6.out.cell 0 (.int .u64 qa) rfl
      have q1 := HQ6.out.cell 1 (.int .u64 qb) rfl
      have q2 := HQ6.out.cell 2 (.int .u64 qc) rfl
      have KL2 : Hid _ := KL.out ⟨qa, qb, qc⟩ x W6
      go_wp2_with fail
      refine Calls.mono KL2.out ?_
      rintro e W7 ⟨rfl, bb⟩
      have b7 := bel_tr b6 bb
      obtain ⟨l2, hl2⟩ : ∃ l2, (⟨qa, qb, qc⟩ : Pt).less x = l2 := ⟨_, rfl⟩
      have HL2 : Hid ((⟨qa, qb, qc⟩ : Pt).less x = l2) := hl2
      rw [hl2]
      have eR : R = !l2 := by rw [HER.out, HL1.out, HL2.out]; rfl
      subst eR
      clear x0 x1 x2 q0 q1 q2 bb KL2 hl2 b6
      cases l2
      all_goals (go_wp2; go_ret; exact ⟨rfl, b7⟩)
    · have eR : R = false := by rw [HER.out, HL1.out]; rfl
      subst eR
      go_wp2
      go_ret
      exact ⟨rfl, b6⟩
  · have eR : R = true := HT.out rfl
    subst eR
    clear X5 P5 Q5
    go_wp2
    go_ret
    exact ⟨rfl, b5⟩
end Go.Proofs.YtgppfkbapieneaaDoor
