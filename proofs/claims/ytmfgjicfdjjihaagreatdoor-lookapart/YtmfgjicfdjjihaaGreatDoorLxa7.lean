/- Texts joined: FrG RfP CkP RfQ -/
import Derived.Test.YtmfgjicfdjjihaaGreatDoorLxa6
namespace Go.Proofs.YtmfgjicfdjjihaaGreatDoor
open Go.RowKit
set_option linter.unusedVariables false
set_option linter.unusedSimpArgs false
/-- The place of the first rule that takes a key. -/
def findL (l : List Rl) (k : Ky) : Option Nat := l.findIdx? (·.takes k)
def fIdx : Option Nat → Int
 | some i => i
 | none => -1
abbrev RowR (w : World) (a : Option Addr) (l : List Rl) : Prop := RowN 17 Rl.v (fun _ r => r.ok) w a l
theorem RowR.low {w w' : World} {a : Option Addr} {l : List Rl} (h : RowR w a l) (hb : Below w.heap.size w w') : RowR w' a l := RowN.below (fun h _ => h) h hb
theorem findL_none {l : List Rl} {k : Ky} (h : ∀ (j : Nat) (r : Rl), l[j]? = some r → r.takes k = false) : findL l k = none := by
 refine List.findIdx?_eq_none_iff.2 fun r hr => ?_
 obtain ⟨j, hj⟩ := List.getElem?_of_mem hr
 exact h j r hj
theorem findL_some {l : List Rl} {k : Ky} {i : Nat} {r : Rl} (h : ∀ (j : Nat) (r : Rl), j < i → l[j]? = some r → r.takes k = false) (hi : l[i]? = some r) (ht : r.takes k = true) : findL l k = some i := by
 have hlt := (List.getElem?_eq_some_iff.1 hi).1
 refine List.findIdx?_eq_some_iff_getElem.2 ⟨hlt, ?_, fun j hj => ?_⟩
 ·rw [(List.getElem?_eq_some_iff.1 hi).2]; exact ht
 ·simpa using h j _ hj (List.getElem?_eq_getElem (by omega))
end Go.Proofs.YtmfgjicfdjjihaaGreatDoor
namespace Go.Proofs.YtmfgjicfdjjihaaGreatDoor
set_option linter.unusedVariables false
set_option linter.unusedSimpArgs false
/-- The numbers that are in both of two rising lists. -/
def bothL : List Nat → List Nat → List Nat
 | [], _ => []
 | _ :: _, [] => []
 | x :: a, y :: b => if x < y then bothL a (y :: b) else if y < x then bothL (x :: a) b else x :: bothL a b
termination_by a b => a.length + b.length
theorem bothL_mem : ∀ (a b : List Nat), a.Pairwise (· < ·) → b.Pairwise (· < ·) → bothL a b = a.filter fun x => decide (x ∈ b)
 | [], b, _, _ => by simp [bothL]
 | x :: a, [], _, _ => by
  unfold bothL
  symm
  rw [List.filter_eq_nil_iff]
  simp
 | x :: a, y :: b, ha, hb => by
  have ha' := List.pairwise_cons.1 ha
  have hb' := List.pairwise_cons.1 hb
  unfold bothL
  by_cases h1 : x < y
  ·rw [if_pos h1, bothL_mem a (y :: b) ha'.2 hb, List.filter_cons]
   have hx : x ∉ y :: b := by
    intro h
    rcases List.mem_cons.1 h with e | e
    ·omega
    ·have := hb'.1 x e; omega
   rw [if_neg (by simpa using hx)]
  ·rw [if_neg h1]
   by_cases h2 : y < x
   ·rw [if_pos h2, bothL_mem (x :: a) b ha hb'.2]
    refine List.filter_congr fun z hz => ?_
    have hzy : z ≠ y := by
     rcases List.mem_cons.1 hz with e | e
     ·omega
     ·have := ha'.1 z e; omega
    simp [hzy]
   ·have e : x = y := by omega
    subst e
    rw [if_neg h2, bothL_mem a b ha'.2 hb'.2, List.filter_cons, if_pos (by simp)]
    congr 1
    refine List.filter_congr fun z hz => ?_
    have := ha'.1 z hz
    have hzx : z ≠ x := by omega
    simp [hzx]
termination_by a b => a.length + b.length
theorem both_filter (n : Nat) (p q : Nat → Bool) : bothL ((List.range n).filter p) ((List.range n).filter q) = (List.range n).filter fun i => p i && q i := by
 rw [bothL_mem _ _ (List.Pairwise.filter _ List.pairwise_lt_range) (List.Pairwise.filter _ List.pairwise_lt_range), List.filter_filter]
 refine List.filter_congr fun i hi => ?_
 have hi := List.mem_range.1 hi
 simp only [List.mem_filter, List.mem_range, hi, true_and]
 cases p i <;> cases q i <;> simp
/-- The sets of a cross, one row behind the other. -/
def crossL (A B : List (List Nat)) : List (List Nat) := A.flatMap fun s => B.map fun t => bothL s t
theorem cross_len (A B : List (List Nat)) : (crossL A B).length = A.length * B.length := by
 unfold crossL
 induction A with
 | nil => simp
 | cons s A ih =>
  simp only [List.flatMap_cons, List.length_append, List.length_map, ih, List.length_cons]
  rw [Nat.add_mul]
  omega
theorem cross_get : ∀ (A B : List (List Nat)) (i k : Nat) (s t : List Nat), A[i]? = some s → B[k]? = some t → (crossL A B)[i * B.length + k]? = some (bothL s t)
 | [], _, _, _, _, _, h, _ => by simp at h
 | a :: A, B, 0, k, s, t, h, ht => by
  have e : a = s := by simpa using h
  subst e
  have hk := (List.getElem?_eq_some_iff.1 ht).1
  unfold crossL
  rw [List.flatMap_cons, Nat.zero_mul, Nat.zero_add, List.getElem?_append_left (by simpa using hk), List.getElem?_map, ht]
  rfl
 | a :: A, B, i + 1, k, s, t, h, ht => by
  have ih := cross_get A B i k s t (by simpa using h) ht
  unfold crossL at ih ⊢
  rw [List.flatMap_cons, List.getElem?_append_right (by simp only [List.length_map]; rw [Nat.add_mul]; omega)]
  simp only [List.length_map]
  rw [show (i + 1) * B.length + k - B.length = i * B.length + k by rw [Nat.add_mul]; omega]
  exact ih
/-- A cross's cell has the class that is both. -/
theorem cross_class {A B : List (List Nat)} {i k : Nat} {s t : List Nat} (h : A[i]? = some s) (ht : B[k]? = some t) : ∃ n, (classL (crossL A B))[i * B.length + k]? = some n ∧ (setsL (crossL A B))[n]? = some (bothL s t) :=
 class_get (cross_get A B i k s t h ht)
/-- The rules of a list that a question says yes to. -/
abbrev ofB (l : List Rl) (q : Rl → Bool) : List Nat := (List.range l.length).filter fun i => (l[i]?.map q).getD false
theorem setOf_of (l : List Rl) (d : Nat) (x : Int) : setOf (l.map (·.piece d)) x = ofB l fun r => (r.piece d).holds x := by
 unfold setOf ofB
 rw [List.length_map]
 refine List.filter_congr fun i hi => ?_
 rw [List.getElem?_map, Option.map_map]
 rfl
theorem both_of (l : List Rl) (p q : Rl → Bool) : bothL (ofB l p) (ofB l q) = ofB l fun r => p r && q r := by
 unfold ofB
 rw [both_filter]
 refine List.filter_congr fun i hi => ?_
 rw [List.getElem?_eq_getElem (List.mem_range.1 hi)]
 rfl
/-- The seven questions, crossed as the document crosses them. -/
theorem crossed (l : List Rl) (q : Nat → Rl → Bool) : bothL (bothL (bothL (bothL (ofB l (q 2)) (ofB l (q 3))) (bothL (ofB l (q 5)) (ofB l (q 6)))) (ofB l (q 4))) (bothL (ofB l (q 0)) (ofB l (q 1))) = ofB l fun r => ((((q 2 r && q 3 r) && (q 5 r && q 6 r)) && q 4 r) && (q 0 r && q 1 r)) := by
 simp only [both_of]
theorem takes_crossed {l : List Rl} {k : Ky} (hl : ∀ r ∈ l, r.ok ∧ r.right = true) (ko : k.ok) (hk : k.right = true) : (ofB l fun r => (((((r.piece 2).holds (k.spot 2).n && (r.piece 3).holds (k.spot 3).n) && ((r.piece 5).holds (k.spot 5).n && (r.piece 6).holds (k.spot 6).n)) && (r.piece 4).holds (k.spot 4).n) && ((r.piece 0).holds (k.spot 0).n && (r.piece 1).holds (k.spot 1).n))) = ofB l (·.takes k) := by
 unfold ofB
 refine List.filter_congr fun i hi => ?_
 have hi := List.mem_range.1 hi
 rw [List.getElem?_eq_getElem hi]
 obtain ⟨ro, hr⟩ := hl _ (List.getElem_mem hi)
 have h := takes_pieces ro ko hr hk
 show _ = (l[i]).takes k
 show ((((((l[i]).piece 2).holds (k.spot 2).n && ((l[i]).piece 3).holds (k.spot 3).n) && (((l[i]).piece 5).holds (k.spot 5).n && ((l[i]).piece 6).holds (k.spot 6).n)) && ((l[i]).piece 4).holds (k.spot 4).n) && (((l[i]).piece 0).holds (k.spot 0).n && ((l[i]).piece 1).holds (k.spot 1).n)) = _
 rw [Bool.eq_iff_iff, h]
 simp only [Bool.and_eq_true]
 constructor
 ·rintro ⟨⟨⟨⟨h2, h3⟩, h5, h6⟩, h4⟩, h0, h1⟩ d hd
  match d, hd with
  | 0, _ => exact h0
  | 1, _ => exact h1
  | 2, _ => exact h2
  | 3, _ => exact h3
  | 4, _ => exact h4
  | 5, _ => exact h5
  | 6, _ => exact h6
 ·intro h
  exact ⟨⟨⟨⟨h 2 (by omega), h 3 (by omega)⟩, h 5 (by omega), h 6 (by omega)⟩, h 4 (by omega)⟩, h 0 (by omega), h 1 (by omega)⟩
/-- The first of a set, or -1. -/
def firstN : List Nat → Int
 | [] => -1
 | i :: _ => i
/-- The first rule that takes a key is the first of those that do. -/
theorem first_find (l : List Rl) (k : Ky) : firstN (ofB l (·.takes k)) = fIdx (findL l k) := by
 cases hf : findL l k with
 | none =>
  have : ofB l (·.takes k) = [] := by
   unfold ofB
   rw [List.filter_eq_nil_iff]
   intro i hi
   have hi := List.mem_range.1 hi
   rw [List.getElem?_eq_getElem hi]
   have := List.findIdx?_eq_none_iff.1 hf _ (List.getElem_mem hi)
   simpa using this
  rw [this]
  rfl
 | some i =>
  obtain ⟨h1, h2, h3⟩ := List.findIdx?_eq_some_iff_getElem.1 hf
  have hi : i ∈ ofB l (·.takes k) := by
   unfold ofB
   refine List.mem_filter.2 ⟨List.mem_range.2 h1, ?_⟩
   rw [List.getElem?_eq_getElem h1]
   exact h2
  cases hs : ofB l (·.takes k) with
  | nil => rw [hs] at hi; cases hi
  | cons j r =>
   have hsort : (ofB l (·.takes k)).Pairwise (· < ·) := List.Pairwise.filter _ List.pairwise_lt_range
   have hj : j ∈ ofB l (·.takes k) := by rw [hs]; simp
   have hj' := List.mem_filter.1 hj
   have hjl := List.mem_range.1 hj'.1
   have hjt : (l[j]).takes k = true := by
    have := hj'.2
    rw [List.getElem?_eq_getElem hjl] at this
    exact this
   have hji : ¬ j < i := fun h => by
    have := h3 j h
    rw [hjt] at this
    simp at this
   rw [hs] at hi hsort
   have e : j = i := by
    rcases List.mem_cons.1 hi with e | e
    ·exact e.symm
    ·have := (List.pairwise_cons.1 hsort).1 i e
     omega
   rw [e]
   rfl
end Go.Proofs.YtmfgjicfdjjihaaGreatDoor
namespace Go.Proofs.YtmfgjicfdjjihaaGreatDoor
open Go.RowKit
set_option linter.unusedVariables false
set_option linter.unusedSimpArgs false
theorem insS_nodup_unique : ∀ {l m : List Int}, l.Pairwise (· < ·) → m.Pairwise (· < ·) → (∀ z, z ∈ l ↔ z ∈ m) → l = m
 | [], [], _, _, _ => rfl
 | [], y :: m, _, _, h => by have := (h y).2 (by simp); simp at this
 | x :: l, [], _, _, h => by have := (h x).1 (by simp); simp at this
 | x :: l, y :: m, hl, hm, h => by
  rw [List.pairwise_cons] at hl hm
  have hxy : x = y := by
   rcases List.mem_cons.1 ((h x).1 (by simp)) with e | e
   ·exact e
   ·rcases List.mem_cons.1 ((h y).2 (by simp)) with e' | e'
    ·exact e'.symm
    ·have h1 := hl.1 _ e'
     have h2 := hm.1 _ e
     omega
  subst hxy
  rw [insS_nodup_unique hl.2 hm.2 (fun z => ⟨fun hz => by
   rcases List.mem_cons.1 ((h z).1 (by simp [hz])) with e | e
   ·have := hl.1 _ hz
    omega
   ·exact e, fun hz => by
   rcases List.mem_cons.1 ((h z).2 (by simp [hz])) with e | e
   ·have := hm.1 _ hz
    omega
   ·exact e⟩)]
theorem foldS_iff : ∀ (P : List Spn) (s : List Int) (z : Int), z ∈ P.foldl startsF s ↔ z ∈ s ∨ ∃ p ∈ P, p.all = false ∧ (z = p.lo ∨ z = p.hi + 1)
 | [], s, z => by simp
 | p :: P, s, z => by
  rw [List.foldl_cons, foldS_iff P, startsF]
  cases hp : p.all with
  | true =>
   simp only [if_true, List.mem_cons, exists_eq_or_imp, hp]
   simp
  | false =>
   simp only [Bool.false_eq_true, if_false, insS_mem, List.mem_cons, exists_eq_or_imp, hp]
   simp only [true_and]
   constructor
   ·rintro ((h | h | h) | h)
    ·exact .inr (.inl (.inr h))
    ·exact .inr (.inl (.inl h))
    ·exact .inl h
    ·exact .inr (.inr h)
   ·rintro (h | (h | h) | h)
    ·exact .inl (.inr (.inr h))
    ·exact .inl (.inr (.inl h))
    ·exact .inl (.inl h)
    ·exact .inr h
theorem starts_iff (P : List Spn) (z : Int) : z ∈ startsL P ↔ z = 0 ∨ ∃ p ∈ P, p.all = false ∧ (z = p.lo ∨ z = p.hi + 1) := by
 unfold startsL
 rw [foldS_iff]
 simp

/-! ### points -/
def pt0 : Pt := ⟨0, 0, 0⟩
def ptTop : Pt := ⟨18446744073709551615, 18446744073709551615, 18446744073709551615⟩
theorem pt0_ok : pt0.ok := by unfold Pt.ok pt0; simp only; omega
theorem ptTop_ok : ptTop.ok := by unfold Pt.ok ptTop; simp only; omega
theorem Pt.low {p : Pt} (h : p.ok) : pt0.n ≤ p.n := by
 have := Pt.n_low h
 simpa [pt0, Pt.n] using this
theorem Pt.high {p : Pt} (h : p.ok) : p.n ≤ ptTop.n := by
 obtain ⟨h1, h2, h3⟩ := h
 simp only [ptTop, Pt.n]
 omega
/-- How two points stand. -/
def ordP (p q : Pt) : Int := if p.less q then -1 else if q.less p then 1 else 0
theorem ord_neg {p q : Pt} (hp : p.ok) (hq : q.ok) : ordP p q < 0 ↔ p.n < q.n := by
 unfold ordP
 have h1 := Pt.less_iff hp hq
 have h2 := Pt.less_iff hq hp
 split
 ·rename_i h; simp [h1.1 h]
 ·rename_i h
  split
  ·rename_i h'; have := h2.1 h'; constructor <;> intro x <;> omega
  ·constructor
   ·intro x; omega
   ·intro x; exact absurd (h1.2 x) h
theorem ord_pos {p q : Pt} (hp : p.ok) (hq : q.ok) : 0 < ordP p q ↔ q.n < p.n := by
 unfold ordP
 have h1 := Pt.less_iff hp hq
 have h2 := Pt.less_iff hq hp
 split
 ·rename_i h; have := h1.1 h; constructor <;> intro x <;> omega
 ·rename_i h
  split
  ·rename_i h'; have := h2.1 h'; simp [this]
  ·rename_i h'
   constructor
   ·intro x; omega
   ·intro x; exact absurd (h2.2 x) h'
theorem ord_zero {p q : Pt} (hp : p.ok) (hq : q.ok) : ordP p q = 0 ↔ p = q := by
 have h1 := ord_neg hp hq
 have h2 := ord_pos hp hq
 constructor
 ·intro x
  exact Pt.n_inj hp hq (by omega)
 ·rintro rfl
  omega
/-- A point put among points that rise. -/
def insP : List Pt → Pt → List Pt
 | [], p => [p]
 | q :: l, p => if q.less p then q :: insP l p else if q.same p then q :: l else p :: q :: l
/-- What a rule takes of a dimension, as the program has it: its first and its last point. -/
def Rl.fst_ (r : Rl) (d : Nat) : Pt := if r.any_ d then pt0 else r.from_ d
def Rl.lst_ (r : Rl) (d : Nat) : Pt := if r.any_ d then ptTop else r.upto d
end Go.Proofs.YtmfgjicfdjjihaaGreatDoor
namespace Go.Proofs.YtmfgjicfdjjihaaGreatDoor
set_option linter.unusedVariables false
set_option linter.unusedSimpArgs false
/-- A set as a number. -/
def bitsN (s : List Nat) : Nat := s.foldl (fun x i => x ||| 2 ^ i) 0
/-- A set that may be: rising, below 64. -/
def Rs (s : List Nat) : Prop := s.Pairwise (· < ·) ∧ ∀ i ∈ s, i < 64
theorem foldB_test : ∀ (s : List Nat) (x j : Nat), (s.foldl (fun x i => x ||| 2 ^ i) x).testBit j = (x.testBit j || decide (j ∈ s))
 | [], x, j => by simp
 | i :: s, x, j => by
  rw [List.foldl_cons, foldB_test s, Nat.testBit_or, Nat.testBit_two_pow]
  by_cases h : i = j
  ·subst h; simp
  ·have h' : j ≠ i := fun e => h e.symm
   simp [h, h']
theorem bits_test (s : List Nat) (j : Nat) : (bitsN s).testBit j = decide (j ∈ s) := by
 unfold bitsN; rw [foldB_test]; simp
theorem bits_snoc (s : List Nat) (i : Nat) : bitsN (s ++ [i]) = bitsN s ||| 2 ^ i := by
 unfold bitsN; rw [List.foldl_append]; rfl
theorem bits_lt {s : List Nat} (h : ∀ i ∈ s, i < 64) : bitsN s < 18446744073709551616 := by
 have : bitsN s < 2 ^ 64 := by
  refine Nat.lt_pow_two_of_testBit _ fun j hj => ?_
  rw [bits_test]
  simp only [decide_eq_false_iff_not]
  intro hm
  have := h j hm
  omega
 simpa using this
theorem bits_mem {a b : List Nat} (h : bitsN a = bitsN b) (j : Nat) : j ∈ a ↔ j ∈ b := by
 have h1 := bits_test a j
 rw [h, bits_test b j] at h1
 simpa using h1.symm
theorem sorted_eq : ∀ {a b : List Nat}, a.Pairwise (· < ·) → b.Pairwise (· < ·) → (∀ j, j ∈ a ↔ j ∈ b) → a = b
 | [], [], _, _, _ => rfl
 | [], y :: b, _, _, h => by have := (h y).2 (by simp); cases this
 | x :: a, [], _, _, h => by have := (h x).1 (by simp); cases this
 | x :: a, y :: b, ha, hb, h => by
  have ha' := List.pairwise_cons.1 ha
  have hb' := List.pairwise_cons.1 hb
  have e : x = y := by
   have h1 := (h x).1 (by simp)
   have h2 := (h y).2 (by simp)
   rcases List.mem_cons.1 h1 with e | e
   ·exact e
   ·rcases List.mem_cons.1 h2 with f | f
    ·exact f.symm
    ·have := hb'.1 x e
     have := ha'.1 y f
     omega
  subst e
  have : a = b := sorted_eq ha'.2 hb'.2 fun j => by
   have hj := h j
   simp only [List.mem_cons] at hj
   constructor
   ·intro hm
    have := ha'.1 j hm
    rcases hj.1 (.inr hm) with e | e
    ·omega
    ·exact e
   ·intro hm
    have := hb'.1 j hm
    rcases hj.2 (.inr hm) with e | e
    ·omega
    ·exact e
  rw [this]
theorem bits_inj {a b : List Nat} (ha : Rs a) (hb : Rs b) (h : bitsN a = bitsN b) : a = b := sorted_eq ha.1 hb.1 (bits_mem h)
theorem both_rs {a b : List Nat} (ha : Rs a) (hb : Rs b) : Rs (bothL a b) := by
 rw [bothL_mem a b ha.1 hb.1]
 exact ⟨List.Pairwise.filter _ ha.1, fun i hi => ha.2 i (List.mem_filter.1 hi).1⟩
theorem bits_and {a b : List Nat} (ha : Rs a) (hb : Rs b) : bitsN a &&& bitsN b = bitsN (bothL a b) := by
 refine Nat.eq_of_testBit_eq fun j => ?_
 rw [Nat.testBit_and, bits_test, bits_test, bits_test, bothL_mem a b ha.1 hb.1]
 rw [Bool.eq_iff_iff]
 simp only [Bool.and_eq_true, decide_eq_true_eq, List.mem_filter]
theorem bits_nil : bitsN [] = 0 := rfl
theorem bits_zero {s : List Nat} (h : bitsN s = 0) : s = [] := by
 cases s with
 | nil => rfl
 | cons i s =>
  have := bits_test (i :: s) i
  rw [h] at this
  simp at this
/-- A set whose first one is i: as a number. -/
theorem bits_cons {i : Nat} {r : List Nat} (h : (i :: r).Pairwise (· < ·)) : ∃ z, bitsN (i :: r) = 2 ^ (i + 1) * z + 2 ^ i ∧ bitsN r = 2 ^ (i + 1) * z := by
 have h' := List.pairwise_cons.1 h
 refine ⟨bitsN r / 2 ^ (i + 1), ?_, ?_⟩
 ·refine Nat.eq_of_testBit_eq fun j => ?_
  have hl : (2 : Nat) ^ i < 2 ^ (i + 1) := Nat.pow_lt_pow_right (by omega) (by omega)
  rw [Nat.testBit_two_pow_mul_add _ hl, bits_test]
  split
  ·rename_i hj
   rw [Nat.testBit_two_pow, Bool.eq_iff_iff]
   simp only [List.mem_cons, decide_eq_true_eq]
   constructor
   ·rintro (e | e)
    ·exact e.symm
    ·have := h'.1 j e; omega
   ·intro e; exact .inl e.symm
  ·rename_i hj
   rw [Nat.testBit_div_two_pow, bits_test, Bool.eq_iff_iff]
   simp only [List.mem_cons, decide_eq_true_eq]
   rw [show j - (i + 1) + (i + 1) = j by omega]
   constructor
   ·rintro (e | e)
    ·omega
    ·exact e
   ·exact .inr
 ·refine Nat.eq_of_testBit_eq fun j => ?_
  rw [Nat.testBit_two_pow_mul, bits_test]
  by_cases hj : i + 1 ≤ j
  ·rw [Nat.testBit_div_two_pow, bits_test]
   simp [hj]
  ·have : j ∉ r := fun e => by have := h'.1 j e; omega
   simp [hj, this]
theorem bits_tail {i : Nat} {r : List Nat} (h : (i :: r).Pairwise (· < ·)) : bitsN (i :: r) &&& (bitsN (i :: r) - 1) = bitsN r := by
 obtain ⟨z, h1, h2⟩ := bits_cons h
 have hp : 0 < 2 ^ i := Nat.two_pow_pos i
 have hl : (2 : Nat) ^ i < 2 ^ (i + 1) := Nat.pow_lt_pow_right (by omega) (by omega)
 have e : bitsN (i :: r) - 1 = 2 ^ (i + 1) * z + (2 ^ i - 1) := by rw [h1]; omega
 rw [e, h1, h2]
 refine Nat.eq_of_testBit_eq fun j => ?_
 rw [Nat.testBit_and, Nat.testBit_two_pow_mul_add _ hl, Nat.testBit_two_pow_mul_add _ (by omega), Nat.testBit_two_pow_mul]
 by_cases hj : j < i + 1
 ·rw [if_pos hj, if_pos hj, Nat.testBit_two_pow, Nat.testBit_two_pow_sub_one]
  have : ¬ i + 1 ≤ j := by omega
  simp only [this, decide_false, Bool.false_and]
  by_cases e : i = j <;> simp [e]
 ·have : i + 1 ≤ j := by omega
  rw [if_neg hj, if_neg hj]
  simp [this]
theorem bits_low {i : Nat} {r : List Nat} (h : Rs (i :: r)) : bitsN (i :: r) &&& (18446744073709551616 - bitsN (i :: r)) = 2 ^ i := by
 obtain ⟨z, h1, h2⟩ := bits_cons h.1
 have hi : i < 64 := h.2 i (by simp)
 have hb := bits_lt h.2
 have hp : 0 < 2 ^ i := Nat.two_pow_pos i
 have hl : (2 : Nat) ^ i < 2 ^ (i + 1) := Nat.pow_lt_pow_right (by omega) (by omega)
 have ed : (2 : Nat) ^ (i + 1) = 2 ^ i + 2 ^ i := by rw [Nat.pow_succ]; omega
 have e64 : (18446744073709551616 : Nat) = 2 ^ (i + 1) * 2 ^ (63 - i) := by
  rw [← Nat.pow_add, show i + 1 + (63 - i) = 64 by omega]
 have hz : z < 2 ^ (63 - i) := by
  rw [h1, e64] at hb
  by_cases hz : z < 2 ^ (63 - i)
  ·exact hz
  ·have := Nat.mul_le_mul_left (2 ^ (i + 1)) (Nat.le_of_not_lt hz)
   omega
 have e : 18446744073709551616 - bitsN (i :: r) = 2 ^ (i + 1) * (2 ^ (63 - i) - (z + 1)) + 2 ^ i := by
  rw [h1, e64, Nat.mul_sub, Nat.mul_add, Nat.mul_one]
  have := Nat.mul_le_mul_left (2 ^ (i + 1)) (show z + 1 ≤ 2 ^ (63 - i) from hz)
  rw [Nat.mul_add, Nat.mul_one] at this
  omega
 rw [e, h1]
 refine Nat.eq_of_testBit_eq fun j => ?_
 rw [Nat.testBit_and, Nat.testBit_two_pow_mul_add _ hl, Nat.testBit_two_pow_mul_add _ hl]
 by_cases hj : j < i + 1
 ·rw [if_pos hj, if_pos hj]; simp
 ·rw [if_neg hj, if_neg hj, Nat.testBit_two_pow_sub_succ hz, Nat.testBit_two_pow]
  have : i ≠ j := by omega
  simp only [this, decide_false]
  cases z.testBit (j - (i + 1)) <;> simp
end Go.Proofs.YtmfgjicfdjjihaaGreatDoor
