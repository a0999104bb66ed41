/- The law AddrNests returns true. -/
import Derived.Test.YtkeipjhnmggpgabDoorAlv
import Derived.Test.YtkeipjhnmggpgabDoorMaskLaw
namespace Go.Proofs.YtkeipjhnmggpgabDoor
open Go.RowKit
set_option linter.unusedVariables false
set_option linter.unusedSimpArgs false

theorem masked_less (a : Ad) (m n : Int) (h0 : 0 ≤ m) (h : m ≤ n) (h1 : n ≤ a.width) : (a.masked n).masked m = a.masked m := by
  have hw : a.width = 32 ∨ a.width = 128 := by unfold Ad.width; split <;> simp
  show (⟨a.fam, cutLow (cutLow a.hi _) _, cutLow (cutLow a.lo _) _⟩ : Ad) = ⟨a.fam, cutLow _ _, cutLow _ _⟩
  simp only [masked_width]
  rw [cutLow_less _ _ _ (by omega), cutLow_less _ _ _ (by omega)]
theorem fits_bits {a : Ad} {n : Int} (h : a.fits n = true) : 0 ≤ n ∧ n ≤ a.width := by
  unfold Ad.fits at h
  simp only [Bool.and_eq_true, decide_eq_true_eq] at h
  exact h.2
/-- Of two prefixes, the shorter one has the longer one's address just when it has all that the longer one has. -/
theorem nest {p q a : Ad} {m n : Int} (ha : a.ok) (hmn : m ≤ n) (hp : Ad.rightPrefix p m = true) (hq : Ad.has q n a = true) : Ad.has p m q = Ad.has p m a := by
  obtain ⟨hf, rfl⟩ := has_iff.1 hq
  have hb := fits_bits hf
  have hpb := fits_bits (has_iff.1 hp).1
  have key : (a.masked n).masked m = a.masked m := masked_less a m n hpb.1 hmn hb.2
  have kf : (a.masked n).fits m = a.fits m := by
    have r1 : a.right = true := by unfold Ad.fits at hf; simp only [Bool.and_eq_true] at hf; exact hf.1
    have r2 := masked_right (b := n) ha r1
    unfold Ad.fits
    rw [masked_width, r1, r2]
  cases h1 : Ad.has p m a with
  | true =>
    obtain ⟨e1, e2⟩ := has_iff.1 h1
    exact has_iff.2 ⟨by rw [kf]; exact e1, by rw [key]; exact e2⟩
  | false =>
    cases h2 : Ad.has p m (a.masked n) with
    | false => rfl
    | true =>
      obtain ⟨e1, e2⟩ := has_iff.1 h2
      have := has_iff.2 (⟨by rw [← kf]; exact e1, by rw [← key]; exact e2⟩ : a.fits m = true ∧ a.masked m = p)
      rw [h1] at this
      exact this.symm

structure Here3 (w : World) (g : Nat) (pf ph pl pb qf qh ql qb f h l : Int) : Prop where
  p0 : w.cell? ⟨g, 0, none⟩ = some (.int .i64 pf)
  p1 : w.cell? ⟨g, 1, none⟩ = some (.int .u64 ph)
  p2 : w.cell? ⟨g, 2, none⟩ = some (.int .u64 pl)
  p3 : w.cell? ⟨g, 3, none⟩ = some (.int .i64 pb)
  q0 : w.cell? ⟨g + 1, 0, none⟩ = some (.int .i64 qf)
  q1 : w.cell? ⟨g + 1, 1, none⟩ = some (.int .u64 qh)
  q2 : w.cell? ⟨g + 1, 2, none⟩ = some (.int .u64 ql)
  q3 : w.cell? ⟨g + 1, 3, none⟩ = some (.int .i64 qb)
  a0 : w.cell? ⟨g + 1 + 1, 0, none⟩ = some (.int .i64 f)
  a1 : w.cell? ⟨g + 1 + 1, 1, none⟩ = some (.int .u64 h)
  a2 : w.cell? ⟨g + 1 + 1, 2, none⟩ = some (.int .u64 l)
theorem Here3.below {w w' : World} {g : Nat} {pf ph pl pb qf qh ql qb f h l : Int} (x : Here3 w g pf ph pl pb qf qh ql qb f h l) (hb : Below w.heap.size w w') : Here3 w' g pf ph pl pb qf qh ql qb f h l :=
  ⟨kept hb x.p0, kept hb x.p1, kept hb x.p2, kept hb x.p3, kept hb x.q0, kept hb x.q1, kept hb x.q2, kept hb x.q3, kept hb x.a0, kept hb x.a1, kept hb x.a2⟩

set_option maxRecDepth 100000 in
set_option maxHeartbeats 2000000 in
theorem addrNests_walk (pf ph pl pb qf qh ql qb f h l : Int) (w : World) (m : Int) (hop : Ad.ok ⟨pf, ph, pl⟩) (hoq : Ad.ok ⟨qf, qh, ql⟩) (hoa : Ad.ok ⟨f, h, l⟩) (hm : w.cell? ⟨0, 0, none⟩ = some (.int .i64 m)) (ht : w.cell? ⟨5, 15, none⟩ = some (.int .u8 4)) :
    Calls Tryd.prog 3 #[.agg #[.int .i64 pf, .int .u64 ph, .int .u64 pl, .int .i64 pb], .agg #[.int .i64 qf, .int .u64 qh, .int .u64 ql, .int .i64 qb], .agg #[.int .i64 f, .int .u64 h, .int .u64 l]] w fun e w' => e = .returned (.bool true) ∧ Below w.heap.size w w' := by
  have kRp := fun w => rightPrefix_any pf ph pl pb w hop
  have kRq := fun w => rightPrefix_any qf qh ql qb w hoq
  have kPQ := fun w => has_any pf ph pl pb qf qh ql w hoq
  have kPA := fun w => has_any pf ph pl pb f h l w hoa
  have kQA := fun w => has_any qf qh ql qb f h l w hoa
  have HN : Hid (pb ≤ qb → Ad.rightPrefix ⟨pf, ph, pl⟩ pb = true → Ad.has ⟨qf, qh, ql⟩ qb ⟨f, h, l⟩ = true → Ad.has ⟨pf, ph, pl⟩ pb ⟨qf, qh, ql⟩ = Ad.has ⟨pf, ph, pl⟩ pb ⟨f, h, l⟩) := fun h1 h2 h3 => nest hoa h1 h2 h3
  generalize Ad.rightPrefix ⟨pf, ph, pl⟩ pb = Rp at *
  generalize Ad.rightPrefix ⟨qf, qh, ql⟩ qb = Rq at *
  generalize Ad.has ⟨pf, ph, pl⟩ pb ⟨qf, qh, ql⟩ = PQ at *
  generalize Ad.has ⟨pf, ph, pl⟩ pb ⟨f, h, l⟩ = PA at *
  generalize Ad.has ⟨qf, qh, ql⟩ qb ⟨f, h, l⟩ = QA at *
  clear hop hoq hoa
  go_enter Tryd.func3, Tryd.ntmps3
  go_wp2_with fail
  have b0 : Below w.heap.size w (((w.alloc (.cells #[.int .i64 pf, .int .u64 ph, .int .u64 pl, .int .i64 pb] 26)).alloc (.cells #[.int .i64 qf, .int .u64 qh, .int .u64 ql, .int .i64 qb] 26)).alloc (.cells #[.int .i64 f, .int .u64 h, .int .u64 l] 24)) := (((Below.refl _ _).alloc (Nat.le_refl _) _).alloc (by simp) _).alloc (by simp; omega) _
  have x0 : Here3 (((w.alloc (.cells #[.int .i64 pf, .int .u64 ph, .int .u64 pl, .int .i64 pb] 26)).alloc (.cells #[.int .i64 qf, .int .u64 qh, .int .u64 ql, .int .i64 qb] 26)).alloc (.cells #[.int .i64 f, .int .u64 h, .int .u64 l] 24)) w.heap.size pf ph pl pb qf qh ql qb f h l :=
    ⟨by simp [go_sem], by simp [go_sem], by simp [go_sem], by simp [go_sem], by simp [go_sem], by simp [go_sem], by simp [go_sem], by simp [go_sem], by simp [go_sem], by simp [go_sem], by simp [go_sem]⟩
  have z0 := b0.size
  have m0 := kept b0 hm
  have t0 := kept b0 ht
  generalize ((w.alloc (.cells #[.int .i64 pf, .int .u64 ph, .int .u64 pl, .int .i64 pb] 26)).alloc (.cells #[.int .i64 qf, .int .u64 qh, .int .u64 ql, .int .i64 qb] 26)).alloc (.cells #[.int .i64 f, .int .u64 h, .int .u64 l] 24) = w0 at *
  generalize hg : w.heap.size = g at *
  have HG : Hid (w.heap.size = g) := hg
  clear hg
  refine (kRp w0).mono ?_
  rintro e w1 ⟨rfl, b1⟩
  have x1 := x0.below b1
  have m1 := kept b1 m0
  have t1 := kept b1 t0
  have B1 : Below g w w1 := b0.trans (b1.mono z0)
  have z1 : g ≤ w1.heap.size := by have := b1.size; omega
  have fin : ∀ (W : World), Below g w W → g ≤ W.heap.size → W.cell? ⟨0, 0, none⟩ = some (.int .i64 m) → W.cell? ⟨5, 15, none⟩ = some (.int .u8 4) → Calls Tryd.prog 5 #[] W fun e w' => e = .returned (.bool true) ∧ Below g w w' := fun W h1 h2 h3 h4 =>
    (alive_any W m h3 h4).mono (by rintro e w' ⟨rfl, hb⟩; exact ⟨rfl, h1.trans (hb.mono h2)⟩)
  clear b0 b1 x0 m0 t0 z0 kRp
  cases Rp with
  | false =>
    go_wp2_with (go_at_call 5; refine (fin _ B1 z1 m1 t1).mono ?_; rintro e w9 ⟨rfl, b9⟩)
    go_ret
    exact ⟨rfl, by rw [HG.out]; exact b9⟩
  | true =>
    obtain ⟨p0, p1, p2, p3, q0, q1, q2, q3, a0, a1, a2⟩ := x1
    go_wp2_with fail
    refine (kRq w1).mono ?_
    rintro e w2 ⟨rfl, b2⟩
    have x2 := (⟨p0, p1, p2, p3, q0, q1, q2, q3, a0, a1, a2⟩ : Here3 w1 g pf ph pl pb qf qh ql qb f h l).below b2
    have m2 := kept b2 m1
    have t2 := kept b2 t1
    have B2 : Below g w w2 := B1.trans (b2.mono z1)
    have z2 : g ≤ w2.heap.size := by have := b2.size; omega
    clear p0 p1 p2 p3 q0 q1 q2 q3 a0 a1 a2 m1 t1 B1 z1 b2 kRq
    obtain ⟨p0, p1, p2, p3, q0, q1, q2, q3, a0, a1, a2⟩ := x2
    cases Rq with
    | false =>
      go_wp2_with (go_at_call 5; refine (fin _ B2 z2 m2 t2).mono ?_; rintro e w9 ⟨rfl, b9⟩)
      go_ret
      exact ⟨rfl, by rw [HG.out]; exact b9⟩
    | true =>
      by_cases hpq : pb ≤ qb
      · have hpq' : ¬ qb < pb := by omega
        go_wp2_with fail
        refine (kPQ w2).mono ?_
        rintro e w3 ⟨rfl, b3⟩
        have x3 := (⟨p0, p1, p2, p3, q0, q1, q2, q3, a0, a1, a2⟩ : Here3 w2 g pf ph pl pb qf qh ql qb f h l).below b3
        have m3 := kept b3 m2
        have t3 := kept b3 t2
        have B3 : Below g w w3 := B2.trans (b3.mono z2)
        have z3 : g ≤ w3.heap.size := by have := b3.size; omega
        clear p0 p1 p2 p3 q0 q1 q2 q3 a0 a1 a2 m2 t2 B2 z2 b3 kPQ
        have KK : Hid (QA = true → PQ = PA) := fun hq => HN.out hpq (by first | rfl | trivial) hq
        clear HN
        obtain ⟨p0, p1, p2, p3, q0, q1, q2, q3, a0, a1, a2⟩ := x3
        cases PQ with
        | true =>
          go_wp2_with fail
          refine (kQA w3).mono ?_
          rintro e w4 ⟨rfl, b4⟩
          have x4 := (⟨p0, p1, p2, p3, q0, q1, q2, q3, a0, a1, a2⟩ : Here3 w3 g pf ph pl pb qf qh ql qb f h l).below b4
          have m4 := kept b4 m3
          have t4 := kept b4 t3
          have B4 : Below g w w4 := B3.trans (b4.mono z3)
          have z4 : g ≤ w4.heap.size := by have := b4.size; omega
          clear p0 p1 p2 p3 q0 q1 q2 q3 a0 a1 a2 m3 t3 B3 z3 b4 kQA
          obtain ⟨p0, p1, p2, p3, q0, q1, q2, q3, a0, a1, a2⟩ := x4
          cases QA with
          | false =>
            go_wp2_with (go_at_call 5; refine (fin _ B4 z4 m4 t4).mono ?_; rintro e w9 ⟨rfl, b9⟩)
            go_ret
            exact ⟨rfl, by rw [HG.out]; exact b9⟩
          | true =>
            obtain rfl : PA = true := (KK.out rfl).symm
            go_wp2_with fail
            refine (kPA w4).mono ?_
            rintro e w5 ⟨rfl, b5⟩
            have m5 := kept b5 m4
            have t5 := kept b5 t4
            have B5 : Below g w w5 := B4.trans (b5.mono z4)
            have z5 : g ≤ w5.heap.size := by have := b5.size; omega
            go_wp2_with (go_at_call 5; refine (fin _ B5 z5 m5 t5).mono ?_; rintro e w9 ⟨rfl, b9⟩)
            go_ret
            exact ⟨rfl, by rw [HG.out]; exact b9⟩
        | false =>
          go_wp2_with fail
          refine (kPA w3).mono ?_
          rintro e w4 ⟨rfl, b4⟩
          have x4 := (⟨p0, p1, p2, p3, q0, q1, q2, q3, a0, a1, a2⟩ : Here3 w3 g pf ph pl pb qf qh ql qb f h l).below b4
          have m4 := kept b4 m3
          have t4 := kept b4 t3
          have B4 : Below g w w4 := B3.trans (b4.mono z3)
          have z4 : g ≤ w4.heap.size := by have := b4.size; omega
          clear p0 p1 p2 p3 q0 q1 q2 q3 a0 a1 a2 m3 t3 B3 z3 b4 kPA
          obtain ⟨p0, p1, p2, p3, q0, q1, q2, q3, a0, a1, a2⟩ := x4
          cases PA with
          | false =>
            go_wp2_with (go_at_call 5; refine (fin _ B4 z4 m4 t4).mono ?_; rintro e w9 ⟨rfl, b9⟩)
            go_ret
            exact ⟨rfl, by rw [HG.out]; exact b9⟩
          | true =>
            obtain rfl : QA = false := by
              cases QA with
              | false => rfl
              | true => exact absurd (KK.out rfl) (by decide)
            go_wp2_with fail
            refine (kQA w4).mono ?_
            rintro e w5 ⟨rfl, b5⟩
            have m5 := kept b5 m4
            have t5 := kept b5 t4
            have B5 : Below g w w5 := B4.trans (b5.mono z4)
            have z5 : g ≤ w5.heap.size := by have := b5.size; omega
            go_wp2_with (go_at_call 5; refine (fin _ B5 z5 m5 t5).mono ?_; rintro e w9 ⟨rfl, b9⟩)
            go_ret
            exact ⟨rfl, by rw [HG.out]; exact b9⟩
      · have hpq' : qb < pb := by omega
        go_wp2_with (go_at_call 5; refine (fin _ B2 z2 m2 t2).mono ?_; rintro e w9 ⟨rfl, b9⟩)
        go_ret
        exact ⟨rfl, by rw [HG.out]; exact b9⟩
end Go.Proofs.YtkeipjhnmggpgabDoor
