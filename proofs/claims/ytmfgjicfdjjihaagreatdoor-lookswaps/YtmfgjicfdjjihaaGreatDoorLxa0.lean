/- Texts joined: ChP Math Bits Fold Sum Mem -/
import Derived.WalkKit
import Derived.Laws.BitsAllLaws
import Derived.Laws.BitsLemmas
import Derived.Laws.Bits128
import Derived.Test.YtmfgjicfdjjihaaGreatDoorRows
import Derived.Below
import Derived.Deep.Draws
import Derived.Laws.World
namespace Go.Proofs.YtmfgjicfdjjihaaGreatDoor
set_option linter.unusedVariables false
set_option linter.unusedSimpArgs false
/-- A rule's piece, its points as numbers. -/
structure Spn where
 lo : Int
 hi : Int
 all : Bool
def Spn.holds (p : Spn) (x : Int) : Bool := p.all || (decide (p.lo ≤ x) && decide (x ≤ p.hi))
/-- Points with one more, rising, each once. -/
def insS : List Int → Int → List Int
 | [], x => [x]
 | y :: l, x => if y < x then y :: insS l x else if y = x then y :: l else x :: y :: l
theorem insS_mem {l : List Int} {x z : Int} : z ∈ insS l x ↔ z = x ∨ z ∈ l := by
 induction l with
 | nil => simp [insS]
 | cons y l ih =>
  unfold insS
  split
  ·simp only [List.mem_cons, ih]
   constructor
   ·rintro (h | h | h) <;> simp [h]
   ·rintro (h | h | h) <;> simp [h]
  ·split
   ·rename_i h
    subst h
    simp
   ·simp
theorem insS_sorted {l : List Int} {x : Int} (h : l.Pairwise (· < ·)) : (insS l x).Pairwise (· < ·) := by
 induction l with
 | nil => simp [insS]
 | cons y l ih =>
  rw [List.pairwise_cons] at h
  unfold insS
  split
  ·rename_i hyx
   rw [List.pairwise_cons]
   refine ⟨fun z hz => ?_, ih h.2⟩
   rcases insS_mem.1 hz with rfl | hz
   ·exact hyx
   ·exact h.1 z hz
  ·split
   ·rw [List.pairwise_cons]; exact h
   ·rename_i h1 h2
    rw [List.pairwise_cons, List.pairwise_cons]
    refine ⟨fun z hz => ?_, h⟩
    rcases List.mem_cons.1 hz with rfl | hz
    ·omega
    ·have := h.1 z hz
     omega
theorem insS_len (l : List Int) (x : Int) : (insS l x).length ≤ l.length + 1 := by
 induction l with
 | nil => simp [insS]
 | cons y l ih =>
  unfold insS
  split
  ·simp only [List.length_cons]; omega
  ·split
   ·simp
   ·simp
/-- The points at which the pieces begin and behind which they end. -/
def startsF (s : List Int) (p : Spn) : List Int := if p.all then s else insS (insS s p.lo) (p.hi + 1)
def startsL (P : List Spn) : List Int := P.foldl startsF [0]
theorem startsF_mem {s : List Int} {p : Spn} {z : Int} (h : z ∈ s) : z ∈ startsF s p := by
 unfold startsF
 split
 ·exact h
 ·exact insS_mem.2 (.inr (insS_mem.2 (.inr h)))
theorem foldS_mem : ∀ (P : List Spn) (s : List Int) {z : Int}, z ∈ s → z ∈ P.foldl startsF s
 | [], _, _, h => h
 | p :: P, s, _, h => foldS_mem P _ (startsF_mem h)
theorem foldS_has : ∀ (P : List Spn) (s : List Int) (p : Spn), p ∈ P → p.all = false → p.lo ∈ P.foldl startsF s ∧ p.hi + 1 ∈ P.foldl startsF s
 | [], _, _, h, _ => by cases h
 | q :: P, s, p, h, ha => by
  rcases List.mem_cons.1 h with rfl | h
  ·refine ⟨foldS_mem P _ ?_, foldS_mem P _ ?_⟩
   ·unfold startsF
    rw [ha]
    exact insS_mem.2 (.inr (insS_mem.2 (.inl rfl)))
   ·unfold startsF
    rw [ha]
    exact insS_mem.2 (.inl rfl)
  ·exact foldS_has P _ p h ha
theorem foldS_sorted : ∀ (P : List Spn) (s : List Int), s.Pairwise (· < ·) → (P.foldl startsF s).Pairwise (· < ·)
 | [], _, h => h
 | p :: P, s, h => foldS_sorted P _ (by
  unfold startsF
  split
  ·exact h
  ·exact insS_sorted (insS_sorted h))
theorem foldS_len : ∀ (P : List Spn) (s : List Int), (P.foldl startsF s).length ≤ s.length + 2 * P.length
 | [], s => by simp
 | p :: P, s => by
  have h1 := foldS_len P (startsF s p)
  have h2 : (startsF s p).length ≤ s.length + 2 := by
   unfold startsF
   split
   ·omega
   ·have := insS_len s p.lo
    have := insS_len (insS s p.lo) (p.hi + 1)
    omega
  simp only [List.foldl_cons, List.length_cons]
  omega
theorem foldS_low : ∀ (P : List Spn) (s : List Int), (∀ p ∈ P, p.all = false → 0 ≤ p.lo ∧ p.lo ≤ p.hi) → (∀ z ∈ s, 0 ≤ z) → ∀ z ∈ P.foldl startsF s, 0 ≤ z
 | [], _, _, h => h
 | p :: P, s, hp, h => foldS_low P _ (fun q hq => hp q (List.mem_cons_of_mem _ hq)) (by
  intro z hz
  unfold startsF at hz
  split at hz
  ·exact h z hz
  ·rename_i ha
   have := hp p List.mem_cons_self (by simpa using ha)
   rcases insS_mem.1 hz with rfl | hz
   ·omega
   ·rcases insS_mem.1 hz with rfl | hz
    ·omega
    ·exact h z hz)
/-- Pieces that may be. -/
def SpnOk (P : List Spn) : Prop := ∀ p ∈ P, p.all = false → 0 ≤ p.lo ∧ p.lo ≤ p.hi
theorem starts_sorted (P : List Spn) : (startsL P).Pairwise (· < ·) := foldS_sorted P _ (by simp)
theorem starts_len (P : List Spn) : (startsL P).length ≤ 2 * P.length + 1 := by
 have := foldS_len P [0]
 simp only [List.length_cons, List.length_nil] at this
 unfold startsL
 omega
theorem starts_low {P : List Spn} (h : SpnOk P) : ∀ z ∈ startsL P, 0 ≤ z := foldS_low P _ h (by simp)
theorem starts_zero (P : List Spn) : 0 ∈ startsL P := foldS_mem P _ (by simp)
theorem starts_pos (P : List Spn) : 0 < (startsL P).length := List.length_pos_of_mem (starts_zero P)
theorem starts_head {P : List Spn} (h : SpnOk P) : (startsL P)[0]? = some 0 := by
 obtain ⟨i, hi⟩ := List.getElem?_of_mem (starts_zero P)
 cases i with
 | zero => exact hi
 | succ i =>
  obtain ⟨h1, e1⟩ := List.getElem?_eq_some_iff.1 hi
  have h0 := starts_pos P
  have := List.pairwise_iff_getElem.1 (starts_sorted P) 0 (i + 1) h0 h1 (by omega)
  have h2 := starts_low h _ (List.getElem_mem h0)
  omega
/-- The set of the pieces that hold a point. -/
def setOf (P : List Spn) (x : Int) : List Nat := (List.range P.length).filter fun i => (P[i]?.map (·.holds x)).getD false
theorem setOf_same {P : List Spn} {x y : Int} (h : ∀ p ∈ P, p.holds x = p.holds y) : setOf P x = setOf P y := by
 unfold setOf
 refine List.filter_congr fun i hi => ?_
 have hi := List.mem_range.1 hi
 rw [List.getElem?_eq_getElem hi]
 exact h _ (List.getElem_mem hi)
/-- Within one piece of the cut nothing begins or ends. -/
theorem holds_same {P : List Spn} {s x : Int} (h1 : s ≤ x) (h2 : ∀ z ∈ startsL P, z ≤ x → z ≤ s) : ∀ p ∈ P, p.holds x = p.holds s := by
 intro p hp
 cases ha : p.all with
 | true => simp [Spn.holds, ha]
 | false =>
  obtain ⟨m1, m2⟩ := foldS_has P [0] p hp ha
  have a1 := h2 _ m1
  have a2 := h2 _ m2
  simp only [Spn.holds, ha, Bool.false_or]
  rw [Bool.eq_iff_iff]
  simp only [Bool.and_eq_true, decide_eq_true_eq]
  omega
theorem set_at {P : List Spn} {i : Nat} {s x : Int} (hi : (startsL P)[i]? = some s) (h1 : s ≤ x) (h2 : ∀ j t, i < j → (startsL P)[j]? = some t → x < t) : setOf P x = setOf P s := by
 refine setOf_same (holds_same h1 fun z hz hzx => ?_)
 obtain ⟨j, hj⟩ := List.getElem?_of_mem hz
 rcases Nat.lt_trichotomy j i with h | h | h
 ·obtain ⟨l1, e1⟩ := List.getElem?_eq_some_iff.1 hj
  obtain ⟨l2, e2⟩ := List.getElem?_eq_some_iff.1 hi
  have := List.pairwise_iff_getElem.1 (starts_sorted P) j i l1 l2 h
  omega
 ·subst h
  rw [hi] at hj
  cases hj
  omega
 ·have := h2 j z h hj
  omega
/-- The number of a set among some, and these, with it. -/
def putN (S : List (List Nat)) (s : List Nat) : Nat := (S.findIdx? (· == s)).getD S.length
def putS (S : List (List Nat)) (s : List Nat) : List (List Nat) := if S.any (· == s) then S else S ++ [s]
/-- The sets of points, each once, and the number of each one's. -/
def setsL (L : List (List Nat)) : List (List Nat) := L.foldl putS []
def classF : List (List Nat) → List (List Nat) → List Nat
 | _, [] => []
 | S, s :: L => putN S s :: classF (putS S s) L
def classL (L : List (List Nat)) : List Nat := classF [] L
theorem putS_get {S : List (List Nat)} {s : List Nat} {n : Nat} {t : List Nat} (h : S[n]? = some t) : (putS S s)[n]? = some t := by
 unfold putS
 split
 ·exact h
 ·rw [List.getElem?_append_left (List.getElem?_eq_some_iff.1 h).1]
  exact h
theorem putN_get (S : List (List Nat)) (s : List Nat) : (putS S s)[putN S s]? = some s := by
 unfold putS putN
 cases hf : S.findIdx? (· == s) with
 | none =>
  have : S.any (· == s) = false := by
   rw [List.any_eq_false]
   intro t ht
   have := List.findIdx?_eq_none_iff.1 hf t ht
   simpa using this
  rw [this]
  simp
 | some i =>
  obtain ⟨h1, h2, _⟩ := List.findIdx?_eq_some_iff_getElem.1 hf
  have : S.any (· == s) = true := List.any_eq_true.2 ⟨S[i], List.getElem_mem h1, h2⟩
  rw [this]
  simp only [if_true, Option.getD_some]
  rw [List.getElem?_eq_getElem h1]
  congr 1
  simpa using h2
theorem foldP_get : ∀ (L S : List (List Nat)) {n : Nat} {t : List Nat}, S[n]? = some t → (L.foldl putS S)[n]? = some t
 | [], _, _, _, h => h
 | s :: L, S, _, _, h => foldP_get L _ (putS_get h)
theorem classF_len : ∀ (L S : List (List Nat)), (classF S L).length = L.length
 | [], _ => rfl
 | s :: L, S => by simp [classF, classF_len L]
theorem classF_get : ∀ (L S : List (List Nat)) (i : Nat) (s : List Nat), L[i]? = some s → ∃ n, (classF S L)[i]? = some n ∧ (L.foldl putS S)[n]? = some s
 | [], _, _, _, h => by simp at h
 | t :: L, S, 0, s, h => by
  cases h
  exact ⟨_, rfl, foldP_get L _ (putN_get S t)⟩
 | t :: L, S, i + 1, s, h => classF_get L (putS S t) i s (by simpa using h)
theorem class_get {L : List (List Nat)} {i : Nat} {s : List Nat} (h : L[i]? = some s) : ∃ n, (classL L)[i]? = some n ∧ (setsL L)[n]? = some s := classF_get L [] i s h
theorem class_len (L : List (List Nat)) : (classL L).length = L.length := classF_len L []
theorem class_lt {L : List (List Nat)} {n : Nat} (h : n ∈ classL L) : n < (setsL L).length := by
 obtain ⟨i, hi⟩ := List.getElem?_of_mem h
 have hl : i < L.length := by have := (List.getElem?_eq_some_iff.1 hi).1; rwa [class_len] at this
 obtain ⟨n', h1, h2⟩ := class_get (List.getElem?_eq_getElem hl)
 rw [hi] at h1
 cases h1
 exact (List.getElem?_eq_some_iff.1 h2).1
theorem foldP_mem : ∀ (L S : List (List Nat)) (t : List Nat), t ∈ L.foldl putS S → t ∈ S ∨ t ∈ L
 | [], _, _, h => .inl h
 | s :: L, S, t, h => by
  rcases foldP_mem L _ t h with h | h
  ·unfold putS at h
   split at h
   ·exact .inl h
   ·rcases List.mem_append.1 h with h | h
    ·exact .inl h
    ·exact .inr (List.mem_cons.2 (.inl (List.mem_singleton.1 h)))
  ·exact .inr (List.mem_cons_of_mem _ h)
theorem sets_mem {L : List (List Nat)} {t : List Nat} (h : t ∈ setsL L) : t ∈ L := by
 rcases foldP_mem L [] t h with h | h
 ·cases h
 ·exact h
theorem setOf_sorted (P : List Spn) (x : Int) : (setOf P x).Pairwise (· < ·) := List.Pairwise.filter _ List.pairwise_lt_range
/-- The sets of a cut's pieces, one behind the other. -/
def rowL (P : List Spn) : List (List Nat) := (startsL P).map (setOf P)
end Go.Proofs.YtmfgjicfdjjihaaGreatDoor
namespace Go.Proofs.YtmfgjicfdjjihaaGreatDoor.M
/-- What folding leaves of a number that is not below 0. -/
def nf (t : Int) : Int := if t ≤ 0 then 0 else (t - 1) % 65535 + 1
theorem nf_bd (t : Int) : 0 ≤ nf t ∧ nf t ≤ 65535 := by unfold nf; split <;> omega
theorem nf_zero {t : Int} (h : nf t = 65535) : t % 65535 = 0 ∧ 0 < t := by unfold nf at h; split at h <;> omega
def Bytes (l : List Int) : Prop := ∀ x, x ∈ l → 0 ≤ x ∧ x ≤ 255
theorem Bytes.of {l : List Int} (h : l.all (fun x => decide (0 ≤ x) && decide (x ≤ 255)) = true) : Bytes l := fun x hx => by simpa using List.all_eq_true.1 h x hx
theorem Bytes.nil : Bytes [] := by intro x h; cases h
theorem Bytes.get {l : List Int} (h : Bytes l) (i : Nat) : 0 ≤ l.getD i 0 ∧ l.getD i 0 ≤ 255 := by
 rw [List.getD_eq_getElem?_getD]
 cases e : l[i]? with
 | none => simp
 | some x => simpa using h x (List.mem_of_getElem? e)
theorem Bytes.app {a b : List Int} (ha : Bytes a) (hb : Bytes b) : Bytes (a ++ b) := by
 intro x h; rcases List.mem_append.1 h with h | h
 ·exact ha x h
 ·exact hb x h
theorem Bytes.left {a b : List Int} (h : Bytes (a ++ b)) : Bytes a := fun x hx => h x (List.mem_append_left _ hx)
theorem Bytes.right {a b : List Int} (h : Bytes (a ++ b)) : Bytes b := fun x hx => h x (List.mem_append_right _ hx)
theorem Bytes.take {a : List Int} (h : Bytes a) (n : Nat) : Bytes (a.take n) := fun x hx => h x (List.mem_of_mem_take hx)
theorem Bytes.drop {a : List Int} (h : Bytes a) (n : Nat) : Bytes (a.drop n) := fun x hx => h x (List.mem_of_mem_drop hx)
theorem Bytes.set {a : List Int} (h : Bytes a) (i : Nat) {z : Int} (hz : 0 ≤ z ∧ z ≤ 255) : Bytes (a.set i z) := fun x hx => by
 rcases List.mem_or_eq_of_mem_set hx with hx | rfl
 ·exact h x hx
 ·exact hz
/-- Which half of a word the next byte is, n bytes on. -/
def par (p : Bool) (n : Nat) : Bool := if n % 2 = 0 then p else !p
theorem par_zero (p : Bool) : par p 0 = p := rfl
theorem par_succ (p : Bool) (n : Nat) : par p (n + 1) = !(par p n) := by
 unfold par; by_cases h : n % 2 = 0
 ·rw [if_neg (by omega), if_pos h]
 ·rw [if_pos (by omega), if_neg h]; simp
theorem par_add (p : Bool) (a b : Nat) : par (par p a) b = par p (a + b) := by
 induction b with
 | zero => rfl
 | succ b ih => rw [par_succ, ih, ← Nat.add_assoc, par_succ]
theorem par_even (p : Bool) {n : Nat} (h : n % 2 = 0) : par p n = p := by unfold par; rw [if_pos h]
/-- The sum of all bytes, each as its half of a word, not folded. -/
def raw : Bool → List Int → Int
 | _, [] => 0
 | true, x :: l => 256 * x + raw false l
 | false, x :: l => x + raw true l
theorem raw_nil (p : Bool) : raw p [] = 0 := by cases p <;> rfl
theorem raw_cons (p : Bool) (x : Int) (l : List Int) : raw p (x :: l) = (if p then 256 * x else x) + raw (!p) l := by cases p <;> rfl
theorem raw_append (p : Bool) (a b : List Int) : raw p (a ++ b) = raw p a + raw (par p a.length) b := by
 induction a generalizing p with
 | nil => rw [raw_nil]; simp [par_zero]
 | cons x a ih =>
  rw [List.cons_append, raw_cons, raw_cons, ih, List.length_cons, Int.add_assoc]
  congr 3
  have := par_add p 1 a.length
  rw [show par p 1 = !p from by cases p <;> rfl] at this
  rw [this, Nat.add_comm]
theorem raw_one (p : Bool) (x : Int) : raw p [x] = if p then 256 * x else x := by rw [raw_cons, raw_nil]; omega
theorem raw_bd (p : Bool) (l : List Int) (h : Bytes l) : 0 ≤ raw p l ∧ raw p l ≤ 65280 * l.length := by
 induction l generalizing p with
 | nil => rw [raw_nil]; simp
 | cons x l ih =>
  have hx := h x (by simp)
  have hi := ih (!p) (fun y hy => h y (by simp [hy]))
  rw [raw_cons, List.length_cons]
  cases p <;> simp at * <;> omega
def AllBytes (ls : List (List Int)) : Prop := ∀ i, i < ls.length → Bytes (ls.getD i [])
theorem AllBytes.flat {ls : List (List Int)} (h : AllBytes ls) : Bytes ls.flatten := by
 intro x hx
 obtain ⟨l, hl, hx⟩ := List.mem_flatten.1 hx
 obtain ⟨i, hi, rfl⟩ := List.mem_iff_getElem.1 hl
 have := h i hi
 rw [List.getD_eq_getElem?_getD, List.getElem?_eq_getElem hi] at this
 exact this x hx
theorem AllBytes.takes {ls : List (List Int)} (h : AllBytes ls) (k : Nat) : Bytes (ls.take k).flatten := by
 intro x hx
 obtain ⟨l, hl, hx⟩ := List.mem_flatten.1 hx
 exact h.flat x (List.mem_flatten.2 ⟨l, List.mem_of_mem_take hl, hx⟩)
/-- The sum of parts, one behind the other. -/
def sumOf (ls : List (List Int)) : Int := nf (raw true ls.flatten)
theorem sumOf_one (l : List Int) : sumOf [l] = nf (raw true l) := by unfold sumOf; simp
/-- Bytes of even length with their check sum behind them have the sum 65535, and are found if one byte is turned. -/
theorem checked (l : List Int) (he : l.length % 2 = 0) (hb : Bytes l) :
  raw true (l ++ [(65535 - sumOf [l]) / 256, (65535 - sumOf [l]) % 256]) % 65535 = 0 ∧ 0 < raw true (l ++ [(65535 - sumOf [l]) / 256, (65535 - sumOf [l]) % 256]) := by
 have h1 := raw_bd true l hb
 have h2 : sumOf [l] = nf (raw true l) := sumOf_one l
 rw [raw_append, par_even true he, h2]
 generalize raw true l = R at *
 have h3 := nf_bd R
 have h4 : nf R % 65535 = R % 65535 := by unfold nf; split <;> omega
 have h6 : nf R ≤ R := by have := h1.1; unfold nf; split <;> omega
 generalize nf R = F at *
 have h5 : raw true [(65535 - F) / 256, (65535 - F) % 256] = 65535 - F := by
  rw [raw_cons, raw_one]; simp; omega
 rw [h5]
 omega
theorem par_one (p : Bool) (n : Nat) : par (!p) n = par p (n + 1) := by
 rw [par_succ]; unfold par; split <;> simp
theorem raw_set (p : Bool) (l : List Int) (i : Nat) (z : Int) (hi : i < l.length) :
  raw p (l.set i z) = raw p l + if par p i then 256 * (z - l.getD i 0) else z - l.getD i 0 := by
 induction l generalizing p i with
 | nil => simp at hi
 | cons x l ih =>
  cases i with
  | zero => rw [List.set_cons_zero, raw_cons, raw_cons, par_zero]; cases p <;> simp <;> omega
  | succ i =>
   rw [List.set_cons_succ, raw_cons, raw_cons, ih (!p) i (by simpa using hi), par_one, List.getD_cons_succ]
   omega
theorem turned (r : List Int) (i : Nat) (z : Int) (h : raw true r % 65535 = 0) (hi : i < r.length) (hz : 0 ≤ z ∧ z ≤ 255) (hr : 0 ≤ r.getD i 0 ∧ r.getD i 0 ≤ 255) (hne : z ≠ r.getD i 0) :
  sumOf [r.set i z] ≠ 65535 := by
 intro hs
 rw [sumOf_one] at hs
 have h1 := (nf_zero hs).1
 rw [raw_set true r i z hi] at h1
 split at h1 <;> omega
end Go.Proofs.YtmfgjicfdjjihaaGreatDoor.M
namespace Go.Proofs.YtmfgjicfdjjihaaGreatDoor
theorem wraps_i64 (n : Int) (h₀ : 0 ≤ n) (h₁ : n < 2 ^ 63) : IntKind.i64.wrap n = n := by rw [IntKind.wrap_i64]; omega
end Go.Proofs.YtmfgjicfdjjihaaGreatDoor
namespace Go.Proofs.YtmfgjicfdjjihaaGreatDoor
open Go.RowKit
set_option linter.unusedVariables false
theorem ret_int {k : IntKind} {a b : Int} (h : a = b) : Ending.returned (.int k a) = .returned (.int k b) := by rw [h]
/-- A slice value of 'l.length' bytes from a on reads as the numbers l. -/
structure Row (w : World) (a : Option Addr) (l : List Int) : Prop where
 small : l.length ≤ 140737488355328
 bytes : M.Bytes l
 cells : 0 < l.length → ∃ b off, a = some ⟨b, off, none⟩ ∧ ∀ i, i < l.length → w.cell? ⟨b, off + i, none⟩ = some (.int .u8 (l.getD i 0))
/-- A slice value of 'ls.length' parts from a on reads as ls. -/
structure Rowss (w : World) (a : Option Addr) (ls : List (List Int)) : Prop where
 small : ls.length ≤ 140737488355328
 cells : 0 < ls.length → ∃ b off, a = some ⟨b, off, none⟩ ∧ ∀ i, i < ls.length → ∃ a' c', w.cell? ⟨b, off + i, none⟩ = some (.slice a' (ls.getD i []).length c') ∧ Row w a' (ls.getD i [])
theorem int_eq {k : IntKind} {a b : Int} (h : a = b) : Value.int k a = .int k b := by rw [h]
theorem Rowss.all {w : World} {a : Option Addr} {ls : List (List Int)} (h : Rowss w a ls) : M.AllBytes ls := by
 intro i hi
 obtain ⟨b, off, _, hc⟩ := h.cells (by omega)
 obtain ⟨_, _, _, hr⟩ := hc i hi
 exact hr.bytes
theorem below_drewN {B : Nat} {a w : World} (h : Below B a w) (n : Nat) : Below B a (w.drewN n) := h.trans ⟨rfl, rfl, rfl, Nat.le_refl _, fun _ _ => rfl⟩
theorem Row.below {w w' : World} {a : Option Addr} {l : List Int} (h : Row w a l) (hb : Below w.heap.size w w') : Row w' a l :=
 ⟨h.small, h.bytes, fun hl => by
  obtain ⟨b, off, ha, hc⟩ := h.cells hl
  exact ⟨b, off, ha, fun i hi => (hb.cell (World.block_lt_of_cell? w _ (hc i hi))).trans (hc i hi)⟩⟩
theorem Rowss.below {w w' : World} {a : Option Addr} {ls : List (List Int)} (h : Rowss w a ls) (hb : Below w.heap.size w w') : Rowss w' a ls :=
 ⟨h.small, fun hl => by
  obtain ⟨b, off, ha, hc⟩ := h.cells hl
  refine ⟨b, off, ha, fun i hi => ?_⟩
  obtain ⟨a', c', h1, h2⟩ := hc i hi
  exact ⟨a', c', (hb.cell (World.block_lt_of_cell? w _ h1)).trans h1, h2.below hb⟩⟩
theorem Row.alloc {w : World} {a : Option Addr} {l : List Int} (h : Row w a l) (o : Obj) : Row (w.alloc o) a l := h.below ((Below.refl _ _).alloc (Nat.le_refl _) o)
theorem Row.drewN {w : World} {a : Option Addr} {l : List Int} (h : Row w a l) (n : Nat) : Row (w.drewN n) a l := h.below (below_drewN (Below.refl _ _) n)
theorem Row.take {w : World} {a : Option Addr} {l : List Int} (h : Row w a l) (k : Nat) : Row w a (l.take k) := by
 have hle : (l.take k).length ≤ l.length := List.length_take_le' _ _
 have := h.small
 refine ⟨by omega, h.bytes.take k, fun hp => ?_⟩
 obtain ⟨b, off, ha, hc⟩ := h.cells (by omega)
 refine ⟨b, off, ha, fun i hi => ?_⟩
 rw [hc i (by omega)]
 have : i < k := by simp at hi; omega
 simp [this]
/-- A new block of bytes. -/
theorem row_new (w : World) (t : TypeId) (l : List Int) (hs : l.length ≤ 140737488355328) (hb : M.Bytes l) :
  Row (w.alloc (.cells (l.map (Value.int .u8)).toArray t)) (some ⟨w.heap.size, 0, none⟩) l :=
 ⟨hs, hb, fun _ => ⟨_, _, rfl, fun i hi => by
  have e : l.getD i 0 = l[i] := by simp [hi]
  rw [e, Nat.zero_add, World.cell?_alloc_new]
  simp [hi]⟩⟩
theorem row_at (w : World) (t : TypeId) (l : List Int) (n : Nat) (hn : n = w.heap.size) (hs : l.length ≤ 140737488355328) (hb : M.Bytes l) :
  Row (w.alloc (.cells (l.map (Value.int .u8)).toArray t)) (some ⟨n, 0, none⟩) l := by subst hn; exact row_new w t l hs hb
theorem below_drew (w : World) : Below w.heap.size w w.drew := (Below.refl _ _).drew
end Go.Proofs.YtmfgjicfdjjihaaGreatDoor
