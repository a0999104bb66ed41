/- Texts joined: ChP -/
import Derived.WalkKit
namespace Go.Proofs.YtgppfkbapieneaaDoor
set_option linter.unusedVariables false
set_option linter.unusedSimpArgs false
/-- A rule's piece, its points as numbers. -/
structure Spn where
  lo : Int
  hi : Int
  all : Bool
def Spn.holds (p : Spn) (x : Int) : Bool := p.all || (decide (p.lo ≤ x) && decide (x ≤ p.hi))
/-- Points with one more, rising, each once. -/
def insS : List Int → Int → List Int
  | [], x => [x]
  | y :: l, x => if y < x then y :: insS l x else if y = x then y :: l else x :: y :: l
theorem insS_mem {l : List Int} {x z : Int} : z ∈ insS l x ↔ z = x ∨ z ∈ l := by
  induction l with
  | nil => simp [insS]
  | cons y l ih =>
    unfold insS
    split
    · simp only [List.mem_cons, ih]
      constructor
      · rintro (h | h | h) <;> simp [h]
      · rintro (h | h | h) <;> simp [h]
    · split
      · rename_i h
        subst h
        simp
      · simp
theorem insS_sorted {l : List Int} {x : Int} (h : l.Pairwise (· < ·)) : (insS l x).Pairwise (· < ·) := by
  induction l with
  | nil => simp [insS]
  | cons y l ih =>
    rw [List.pairwise_cons] at h
    unfold insS
    split
    · rename_i hyx
      rw [List.pairwise_cons]
      refine ⟨fun z hz => ?_, ih h.2⟩
      rcases insS_mem.1 hz with rfl | hz
      · exact hyx
      · exact h.1 z hz
    · split
      · rw [List.pairwise_cons]; exact h
      · rename_i h1 h2
        rw [List.pairwise_cons, List.pairwise_cons]
        refine ⟨fun z hz => ?_, h⟩
        rcases List.mem_cons.1 hz with rfl | hz
        · omega
        · have := h.1 z hz
          omega
/-- The points at which the pieces begin and behind which they end. -/
def startsF (s : List Int) (p : Spn) : List Int := if p.all then s else insS (insS s p.lo) (p.hi + 1)
def startsL (P : List Spn) : List Int := P.foldl startsF [0]
theorem startsF_mem {s : List Int} {p : Spn} {z : Int} (h : z ∈ s) : z ∈ startsF s p := by
  unfold startsF
  split
  · exact h
  · exact insS_mem.2 (.inr (insS_mem.2 (.inr h)))
theorem foldS_mem : ∀ (P : List Spn) (s : List Int) {z : Int}, z ∈ s → z ∈ P.foldl startsF s
  | [], _, _, h => h
  | p :: P, s, _, h => foldS_mem P _ (startsF_mem h)
theorem foldS_sorted : ∀ (P : List Spn) (s : List Int), s.Pairwise (· < ·) → (P.foldl startsF s).Pairwise (· < ·)
  | [], _, h => h
  | p :: P, s, h => foldS_sorted P _ (by
    unfold startsF
    split
    · exact h
    · exact insS_sorted (insS_sorted h))
theorem foldS_low : ∀ (P : List Spn) (s : List Int), (∀ p ∈ P, p.all = false → 0 ≤ p.lo ∧ p.lo ≤ p.hi) → (∀ z ∈ s, 0 ≤ z) → ∀ z ∈ P.foldl startsF s, 0 ≤ z
  | [], _, _, h => h
  | p :: P, s, hp, h => foldS_low P _ (fun q hq => hp q (List.mem_cons_of_mem _ hq)) (by
    intro z hz
    unfold startsF at hz
    split at hz
    · exact h z hz
    · rename_i ha
      have := hp p List.mem_cons_self (by simpa using ha)
      rcases insS_mem.1 hz with rfl | hz
      · omega
      · rcases insS_mem.1 hz with rfl | hz
        · omega
        · exact h z hz)
/-- Pieces that may be. -/
def SpnOk (P : List Spn) : Prop := ∀ p ∈ P, p.all = false → 0 ≤ p.lo ∧ p.lo ≤ p.hi
theorem starts_sorted (P : List Spn) : (startsL P).Pairwise (· < ·) := foldS_sorted P _ (by simp)
theorem starts_low {P : List Spn} (h : SpnOk P) : ∀ z ∈ startsL P, 0 ≤ z := foldS_low P _ h (by simp)
theorem starts_zero (P : List Spn) : 0 ∈ startsL P := foldS_mem P _ (by simp)
theorem starts_pos (P : List Spn) : 0 < (startsL P).length := List.length_pos_of_mem (starts_zero P)
theorem starts_head {P : List Spn} (h : SpnOk P) : (startsL P)[0]? = some 0 := by
  obtain ⟨i, hi⟩ := List.getElem?_of_mem (starts_zero P)
  cases i with
  | zero => exact hi
  | succ i =>
    obtain ⟨h1, e1⟩ := List.getElem?_eq_some_iff.1 hi
    have h0 := starts_pos P
    have := List.pairwise_iff_getElem.1 (starts_sorted P) 0 (i + 1) h0 h1 (by omega)
    have h2 := starts_low h _ (List.getElem_mem h0)
    omega
/-- The set of the pieces that hold a point. -/
def setOf (P : List Spn) (x : Int) : List Nat := (List.range P.length).filter fun i => (P[i]?.map (·.holds x)).getD false
/-- The number of a set among some, and these, with it. -/
def putN (S : List (List Nat)) (s : List Nat) : Nat := (S.findIdx? (· == s)).getD S.length
def putS (S : List (List Nat)) (s : List Nat) : List (List Nat) := if S.any (· == s) then S else S ++ [s]
/-- The sets of points, each once, and the number of each one's. -/
def setsL (L : List (List Nat)) : List (List Nat) := L.foldl putS []
def classF : List (List Nat) → List (List Nat) → List Nat
  | _, [] => []
  | S, s :: L => putN S s :: classF (putS S s) L
def classL (L : List (List Nat)) : List Nat := classF [] L
theorem putS_get {S : List (List Nat)} {s : List Nat} {n : Nat} {t : List Nat} (h : S[n]? = some t) : (putS S s)[n]? = some t := by
  unfold putS
  split
  · exact h
  · rw [List.getElem?_append_left (List.getElem?_eq_some_iff.1 h).1]
    exact h
theorem putN_get (S : List (List Nat)) (s : List Nat) : (putS S s)[putN S s]? = some s := by
  unfold putS putN
  cases hf : S.findIdx? (· == s) with
  | none =>
    have : S.any (· == s) = false := by
      rw [List.any_eq_false]
      intro t ht
      have := List.findIdx?_eq_none_iff.1 hf t ht
      simpa using this
    rw [this]
    simp
  | some i =>
    obtain ⟨h1, h2, _⟩ := List.findIdx?_eq_some_iff_getElem.1 hf
    have : S.any (· == s) = true := List.any_eq_true.2 ⟨S[i], List.getElem_mem h1, h2⟩
    rw [this]
    simp only [if_true, Option.getD_some]
    rw [List.getElem?_eq_getElem h1]
    congr 1
    simpa using h2
theorem foldP_get : ∀ (L S : List (List Nat)) {n : Nat} {t : List Nat}, S[n]? = some t → (L.foldl putS S)[n]? = some t
  | [], _, _, _, h => h
  | s :: L, S, _, _, h => foldP_get L _ (putS_get h)
theorem classF_len : ∀ (L S : List (List Nat)), (classF S L).length = L.length
  | [], _ => rfl
  | s :: L, S => by simp [classF, classF_len L]
theorem classF_get : ∀ (L S : List (List Nat)) (i : Nat) (s : List Nat), L[i]? = some s → ∃ n, (classF S L)[i]? = some n ∧ (L.foldl putS S)[n]? = some s
  | [], _, _, _, h => by simp at h
  | t :: L, S, 0, s, h => by
    cases h
    exact ⟨_, rfl, foldP_get L _ (putN_get S t)⟩
  | t :: L, S, i + 1, s, h => classF_get L (putS S t) i s (by simpa using h)
theorem class_get {L : List (List Nat)} {i : Nat} {s : List Nat} (h : L[i]? = some s) : ∃ n, (classL L)[i]? = some n ∧ (setsL L)[n]? = some s := classF_get L [] i s h
theorem class_len (L : List (List Nat)) : (classL L).length = L.length := classF_len L []
theorem class_lt {L : List (List Nat)} {n : Nat} (h : n ∈ classL L) : n < (setsL L).length := by
  obtain ⟨i, hi⟩ := List.getElem?_of_mem h
  have hl : i < L.length := by have := (List.getElem?_eq_some_iff.1 hi).1; rwa [class_len] at this
  obtain ⟨n', h1, h2⟩ := class_get (List.getElem?_eq_getElem hl)
  rw [hi] at h1
  cases h1
  exact (List.getElem?_eq_some_iff.1 h2).1
theorem foldP_mem : ∀ (L S : List (List Nat)) (t : List Nat), t ∈ L.foldl putS S → t ∈ S ∨ t ∈ L
  | [], _, _, h => .inl h
  | s :: L, S, t, h => by
    rcases foldP_mem L _ t h with h | h
    · unfold putS at h
      split at h
      · exact .inl h
      · rcases List.mem_append.1 h with h | h
        · exact .inl h
        · exact .inr (List.mem_cons.2 (.inl (List.mem_singleton.1 h)))
    · exact .inr (List.mem_cons_of_mem _ h)
theorem sets_mem {L : List (List Nat)} {t : List Nat} (h : t ∈ setsL L) : t ∈ L := by
  rcases foldP_mem L [] t h with h | h
  · cases h
  · exact h
theorem setOf_sorted (P : List Spn) (x : Int) : (setOf P x).Pairwise (· < ·) := List.Pairwise.filter _ List.pairwise_lt_range
/-- The sets of a cut's pieces, one behind the other. -/
def rowL (P : List Spn) : List (List Nat) := (startsL P).map (setOf P)
end Go.Proofs.YtgppfkbapieneaaDoor
