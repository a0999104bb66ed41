/- Texts joined: CkP -/
import Derived.Test.YtgppfkbapieneaaDoorCsx7
namespace Go.Proofs.YtgppfkbapieneaaDoor
open Go.RowKit
set_option linter.unusedVariables false
set_option linter.unusedSimpArgs false
theorem insS_nodup_unique : ∀ {l m : List Int}, l.Pairwise (· < ·) → m.Pairwise (· < ·) → (∀ z, z ∈ l ↔ z ∈ m) → l = m
  | [], [], _, _, _ => rfl
  | [], y :: m, _, _, h => by have := (h y).2 (by simp); simp at this
  | x :: l, [], _, _, h => by have := (h x).1 (by simp); simp at this
  | x :: l, y :: m, hl, hm, h => by
    rw [List.pairwise_cons] at hl hm
    have hxy : x = y := by
      rcases List.mem_cons.1 ((h x).1 (by simp)) with e | e
      · exact e
      · rcases List.mem_cons.1 ((h y).2 (by simp)) with e' | e'
        · exact e'.symm
        · have h1 := hl.1 _ e'
          have h2 := hm.1 _ e
          omega
    subst hxy
    rw [insS_nodup_unique hl.2 hm.2 (fun z => ⟨fun hz => by
      rcases List.mem_cons.1 ((h z).1 (by simp [hz])) with e | e
      · have := hl.1 _ hz
        omega
      · exact e, fun hz => by
      rcases List.mem_cons.1 ((h z).2 (by simp [hz])) with e | e
      · have := hm.1 _ hz
        omega
      · exact e⟩)]
theorem foldS_iff : ∀ (P : List Spn) (s : List Int) (z : Int), z ∈ P.foldl startsF s ↔ z ∈ s ∨ ∃ p ∈ P, p.all = false ∧ (z = p.lo ∨ z = p.hi + 1)
  | [], s, z => by simp
  | p :: P, s, z => by
    rw [List.foldl_cons, foldS_iff P, startsF]
    cases hp : p.all with
    | true =>
      simp only [if_true, List.mem_cons, exists_eq_or_imp, hp]
      simp
    | false =>
      simp only [Bool.false_eq_true, if_false, insS_mem, List.mem_cons, exists_eq_or_imp, hp]
      simp only [true_and]
      constructor
      · rintro ((h | h | h) | h)
        · exact .inr (.inl (.inr h))
        · exact .inr (.inl (.inl h))
        · exact .inl h
        · exact .inr (.inr h)
      · rintro (h | (h | h) | h)
        · exact .inl (.inr (.inr h))
        · exact .inl (.inr (.inl h))
        · exact .inl (.inl h)
        · exact .inr h
theorem starts_iff (P : List Spn) (z : Int) : z ∈ startsL P ↔ z = 0 ∨ ∃ p ∈ P, p.all = false ∧ (z = p.lo ∨ z = p.hi + 1) := by
  unfold startsL
  rw [foldS_iff]
  simp

/-! ### points -/
def pt0 : Pt := ⟨0, 0, 0⟩
def ptTop : Pt := ⟨18446744073709551615, 18446744073709551615, 18446744073709551615⟩
theorem pt0_ok : pt0.ok := by unfold Pt.ok pt0; simp only; omega
theorem ptTop_ok : ptTop.ok := by unfold Pt.ok ptTop; simp only; omega
theorem Pt.low {p : Pt} (h : p.ok) : pt0.n ≤ p.n := by
  have := Pt.n_low h
  simpa [pt0, Pt.n] using this
theorem Pt.high {p : Pt} (h : p.ok) : p.n ≤ ptTop.n := by
  obtain ⟨h1, h2, h3⟩ := h
  simp only [ptTop, Pt.n]
  omega
/-- How two points stand. -/
def ordP (p q : Pt) : Int := if p.less q then -1 else if q.less p then 1 else 0
theorem ord_neg {p q : Pt} (hp : p.ok) (hq : q.ok) : ordP p q < 0 ↔ p.n < q.n := by
  unfold ordP
  have h1 := Pt.less_iff hp hq
  have h2 := Pt.less_iff hq hp
  split
  · rename_i h; simp [h1.1 h]
  · rename_i h
    split
    · rename_i h'; have := h2.1 h'; constructor <;> intro x <;> omega
    · constructor
      · intro x; omega
      · intro x; exact absurd (h1.2 x) h
theorem ord_pos {p q : Pt} (hp : p.ok) (hq : q.ok) : 0 < ordP p q ↔ q.n < p.n := by
  unfold ordP
  have h1 := Pt.less_iff hp hq
  have h2 := Pt.less_iff hq hp
  split
  · rename_i h; have := h1.1 h; constructor <;> intro x <;> omega
  · rename_i h
    split
    · rename_i h'; have := h2.1 h'; simp [this]
    · rename_i h'
      constructor
      · intro x; omega
      · intro x; exact absurd (h2.2 x) h'
theorem ord_zero {p q : Pt} (hp : p.ok) (hq : q.ok) : ordP p q = 0 ↔ p = q := by
  have h1 := ord_neg hp hq
  have h2 := ord_pos hp hq
  constructor
  · intro x
    exact Pt.n_inj hp hq (by omega)
  · rintro rfl
    omega
theorem pts_inj : ∀ {l m : List Pt}, (∀ p ∈ l, p.ok) → (∀ p ∈ m, p.ok) → l.map Pt.n = m.map Pt.n → l = m
  | [], [], _, _, _ => rfl
  | [], y :: m, _, _, h => by simp at h
  | x :: l, [], _, _, h => by simp at h
  | x :: l, y :: m, hl, hm, h => by
    simp only [List.map_cons, List.cons.injEq] at h
    rw [Pt.n_inj (hl x (by simp)) (hm y (by simp)) h.1, pts_inj (fun p hp => hl p (by simp [hp])) (fun p hp => hm p (by simp [hp])) h.2]
/-- What a rule takes of a dimension, as the program has it: its first and its last point. -/
def Rl.fst_ (r : Rl) (d : Nat) : Pt := if r.any_ d then pt0 else r.from_ d
def Rl.lst_ (r : Rl) (d : Nat) : Pt := if r.any_ d then ptTop else r.upto d
end Go.Proofs.YtgppfkbapieneaaDoor
