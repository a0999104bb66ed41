/- Plain: rows and slots of times; entries by time and number. -/
import Derived.Lib.ItoaNum
namespace Go.Proofs.Ytfcpjenlckkloaa.M
set_option linter.unusedVariables false

/-- The row in which two times are apart. -/
def ap (a b : Nat) : Nat := (Lib.bitLen ((a ^^^ b) ||| 1) - 1) / 6
/-- A time's digit of a row. -/
def dg (a r : Nat) : Nat := a / 64 ^ r % 64

theorem p64 (r : Nat) : 64 ^ r = 2 ^ (6 * r) := by rw [show (64 : Nat) = 2 ^ 6 by decide, ← Nat.pow_mul]
theorem xor_shift_zero {a b k : Nat} (h : a ^^^ b < 2 ^ k) : a / 2 ^ k = b / 2 ^ k := by
  have h1 : (a ^^^ b) >>> k = 0 := by rw [Nat.shiftRight_eq_div_pow]; exact Nat.div_eq_of_lt h
  rw [Nat.shiftRight_xor_distrib] at h1
  have h2 : a >>> k = b >>> k := by
    have h3 : (a >>> k ^^^ b >>> k) ^^^ b >>> k = b >>> k := by rw [h1, Nat.zero_xor]
    rwa [Nat.xor_assoc, Nat.xor_self, Nat.xor_zero] at h3
  simpa [Nat.shiftRight_eq_div_pow] using h2
theorem xor_lt_of_shift {a b k : Nat} (h : a / 2 ^ k = b / 2 ^ k) : a ^^^ b < 2 ^ k := by
  have h1 : (a ^^^ b) >>> k = 0 := by
    rw [Nat.shiftRight_xor_distrib, Nat.shiftRight_eq_div_pow, Nat.shiftRight_eq_div_pow, h, Nat.xor_self]
  rw [Nat.shiftRight_eq_div_pow] at h1
  exact (Nat.div_eq_zero_iff.1 h1).resolve_left (Nat.pos_iff_ne_zero.1 (Nat.two_pow_pos k))
theorem ap_row {a b : Nat} (ha : a < 2 ^ 63) (hb : b < 2 ^ 63) : a / 64 ^ (ap a b + 1) = b / 64 ^ (ap a b + 1) ∧ (ap a b = 0 ∨ a / 64 ^ ap a b ≠ b / 64 ^ ap a b) ∧ ap a b ≤ 10 := by
  have hx : a ^^^ b < 2 ^ 63 := Nat.xor_lt_two_pow ha hb
  have hy : (a ^^^ b) ||| 1 < 2 ^ 63 := Nat.or_lt_two_pow hx (by decide)
  have h0 : (a ^^^ b) ||| 1 ≠ 0 := by
    intro h
    have : 1 ≤ (a ^^^ b) ||| 1 := Nat.right_le_or
    omega
  obtain ⟨b1, b2, b3⟩ := Lib.bitLenAux_bounds 64 _ (Nat.lt_of_lt_of_le hy (by decide)) h0
  have hle : Lib.bitLen ((a ^^^ b) ||| 1) ≤ 63 := Lib.bitLen_le _ 63 (by decide) hy
  have e : Lib.bitLenAux 64 ((a ^^^ b) ||| 1) = Lib.bitLen ((a ^^^ b) ||| 1) := rfl
  rw [e] at b1 b2 b3
  unfold ap
  generalize Lib.bitLen ((a ^^^ b) ||| 1) = n at b1 b2 b3 hle
  have hr : 6 * ((n - 1) / 6) ≤ n - 1 := Nat.mul_div_le _ _
  have hr2 : n ≤ 6 * ((n - 1) / 6 + 1) := by omega
  refine ⟨?_, ?_, by omega⟩
  · rw [p64]
    refine xor_shift_zero (Nat.lt_of_lt_of_le (Nat.lt_of_le_of_lt Nat.left_le_or b3) (Nat.pow_le_pow_right (by decide) hr2))
  · by_cases hz : (n - 1) / 6 = 0
    · exact .inl hz
    · refine .inr (fun hh => ?_)
      rw [p64] at hh
      have h1 := xor_lt_of_shift hh
      have h2 : (a ^^^ b) ||| 1 < 2 ^ (6 * ((n - 1) / 6)) := Nat.or_lt_two_pow h1 (Nat.one_lt_two_pow (by omega))
      have h3 : 2 ^ (6 * ((n - 1) / 6)) ≤ 2 ^ (n - 1) := Nat.pow_le_pow_right (by decide) hr
      omega
theorem div_more {a b r s : Nat} (h : a / 64 ^ r = b / 64 ^ r) (hs : r ≤ s) : a / 64 ^ s = b / 64 ^ s := by
  obtain ⟨d, rfl⟩ := Nat.le.dest hs
  rw [Nat.pow_add, ← Nat.div_div_eq_div_mul, ← Nat.div_div_eq_div_mul, h]
theorem row_uniq {a b r s : Nat} (h1 : a / 64 ^ (r + 1) = b / 64 ^ (r + 1)) (h2 : r = 0 ∨ a / 64 ^ r ≠ b / 64 ^ r) (k1 : a / 64 ^ (s + 1) = b / 64 ^ (s + 1)) (k2 : s = 0 ∨ a / 64 ^ s ≠ b / 64 ^ s) : r = s := by
  rcases Nat.lt_trichotomy r s with h | h | h
  · rcases k2 with k2 | k2
    · omega
    · exact absurd (div_more h1 h) k2
  · exact h
  · rcases h2 with h2 | h2
    · omega
    · exact absurd (div_more k1 h) h2
theorem dg_lt (a r : Nat) : dg a r < 64 := Nat.mod_lt _ (by decide)
theorem dg_split (a r : Nat) : a / 64 ^ r = 64 * (a / 64 ^ (r + 1)) + dg a r := by
  unfold dg
  rw [Nat.pow_succ, ← Nat.div_div_eq_div_mul]
  exact (Nat.div_add_mod _ 64).symm

/-- The slot of a time. -/
def slotN (now t : Nat) : Nat := 64 * ap now t + dg t (ap now t)
theorem slotN_mono {now t u : Nat} (hn : now ≤ t) (h : t ≤ u) (hu : u < 2 ^ 63) : slotN now t ≤ slotN now u := by
  obtain ⟨a1, a2, _⟩ := ap_row (a := now) (b := t) (by omega) (by omega)
  obtain ⟨b1, b2, _⟩ := ap_row (a := now) (b := u) (by omega) (by omega)
  have d1 := dg_lt t (ap now t)
  have d2 := dg_lt u (ap now u)
  unfold slotN
  rcases Nat.lt_trichotomy (ap now t) (ap now u) with h1 | h1 | h1
  · omega
  · rw [h1] at a1 a2 ⊢
    have e1 := dg_split t (ap now u)
    have e2 := dg_split u (ap now u)
    have e3 : t / 64 ^ ap now u ≤ u / 64 ^ ap now u := Nat.div_le_div_right h
    rw [← a1] at e1
    rw [← b1] at e2
    omega
  · exfalso
    have e1 : now / 64 ^ (ap now u + 1) ≤ t / 64 ^ (ap now u + 1) := Nat.div_le_div_right hn
    have e2 : t / 64 ^ (ap now u + 1) ≤ u / 64 ^ (ap now u + 1) := Nat.div_le_div_right h
    have e3 : now / 64 ^ (ap now u + 1) = t / 64 ^ (ap now u + 1) := by omega
    rcases a2 with a2 | a2
    · omega
    · exact a2 (div_more e3 h1)
theorem slotN_keep {now to t : Nat} (h0 : now ≤ to) (h1 : to ≤ t) (ht : t < 2 ^ 63) (h : slotN now to < slotN now t) : slotN to t = slotN now t := by
  obtain ⟨a1, a2, _⟩ := ap_row (a := now) (b := t) (by omega) (by omega)
  obtain ⟨b1, b2, _⟩ := ap_row (a := now) (b := to) (by omega) (by omega)
  obtain ⟨c1, c2, _⟩ := ap_row (a := to) (b := t) (by omega) (by omega)
  have d1 := dg_lt t (ap now t)
  have d2 := dg_lt to (ap now to)
  have key : ap to t = ap now t := by
    refine row_uniq c1 c2 ?_ ?_
    · have : ap now to ≤ ap now t := by unfold slotN at h; omega
      rw [← a1]
      exact (div_more b1 (by omega)).symm
    · by_cases hz : ap now t = 0
      · exact .inl hz
      · refine .inr (fun hh => ?_)
        unfold slotN at h
        rcases Nat.lt_trichotomy (ap now to) (ap now t) with h2 | h2 | h2
        · rcases a2 with a2 | a2
          · exact hz a2
          · exact a2 ((div_more b1 h2).trans hh)
        · rw [h2] at h
          have e1 := dg_split to (ap now t)
          have e2 := dg_split t (ap now t)
          rw [h2] at b1
          rw [← b1, a1, hh] at e1
          omega
        · omega
  unfold slotN
  rw [key]
/-- The slot of a time, at a clock. -/
def slot (now t : Int) : Nat := slotN now.toNat (max t now).toNat
theorem slot_mono {now t u : Int} (hn : 0 ≤ now) (hn' : now ≤ 4611686018427387904) (h : t ≤ u) (hu : u ≤ 4611686018427387904) : slot now t ≤ slot now u := slotN_mono (by omega) (by omega) (by omega)
theorem slot_keep {now to t : Int} (hn : 0 ≤ now) (h0 : now ≤ to) (h1 : to ≤ t) (ht : t ≤ 4611686018427387904) (h : slot now to < slot now t) : slot to t = slot now t := by
  unfold slot at h ⊢
  rw [show (max t to) = t by omega]
  rw [show (max t now) = t by omega] at h ⊢
  rw [show (max to now) = to by omega] at h
  exact slotN_keep (by omega) (by omega) (by omega) h
theorem slot_lt {now t : Int} (hn : 0 ≤ now) (hn' : now ≤ 4611686018427387904) (ht : t ≤ 4611686018427387904) : slot now t < 704 := by
  obtain ⟨_, _, h⟩ := ap_row (a := now.toNat) (b := (max t now).toNat) (by omega) (by omega)
  have := dg_lt (max t now).toNat (ap now.toNat (max t now).toNat)
  unfold slot slotN
  omega

/-- Two lists of one order that have the same are the same. -/
theorem eq_of_mem_sorted {α : Type} {R : α → α → Prop} (as : ∀ a b, R a b → ¬ R b a) : ∀ {l k : List α}, l.Pairwise R → k.Pairwise R → (∀ x, x ∈ l ↔ x ∈ k) → l = k
  | [], [], _, _, _ => rfl
  | [], b :: k, _, _, h => absurd ((h b).2 (by simp)) (by simp)
  | a :: l, [], _, _, h => absurd ((h a).1 (by simp)) (by simp)
  | a :: l, b :: k, h1, h2, h => by
    obtain ⟨p1, p2⟩ := List.pairwise_cons.1 h1
    obtain ⟨q1, q2⟩ := List.pairwise_cons.1 h2
    have hab : a = b := by
      rcases List.mem_cons.1 ((h a).1 (by simp)) with e | e
      · exact e
      · rcases List.mem_cons.1 ((h b).2 (by simp)) with e' | e'
        · exact e'.symm
        · exact absurd (p1 _ e') (as _ _ (q1 _ e))
    subst hab
    have hn : a ∉ l := fun e => as _ _ (p1 _ e) (p1 _ e)
    have hn' : a ∉ k := fun e => as _ _ (q1 _ e) (q1 _ e)
    rw [eq_of_mem_sorted as p2 q2 (fun x => ⟨fun hx => ?_, fun hx => ?_⟩)]
    · rcases List.mem_cons.1 ((h x).1 (by simp [hx])) with e | e
      · subst e; exact absurd hx hn
      · exact e
    · rcases List.mem_cons.1 ((h x).2 (by simp [hx])) with e | e
      · subst e; exact absurd hx hn'
      · exact e

abbrev Ent := Int × Int
/-- One entry (number, time) is ahead of another one. -/
def bef (p q : Ent) : Bool := decide (p.2 < q.2) || (decide (p.2 = q.2) && decide (p.1 < q.1))
theorem bef_iff (p q : Ent) : bef p q = true ↔ p.2 < q.2 ∨ p.2 = q.2 ∧ p.1 < q.1 := by simp [bef]
theorem bef_asym (p q : Ent) (h : bef p q = true) : ¬ bef q p = true := by rw [bef_iff] at *; omega
theorem bef_trans {p q r : Ent} (h : bef p q = true) (k : bef q r = true) : bef p r = true := by rw [bef_iff] at *; omega
theorem bef_tot {p q : Ent} (h : p ≠ q) : bef p q = true ∨ bef q p = true := by
  rw [bef_iff, bef_iff]
  by_cases h1 : p.1 = q.1
  · have : p.2 ≠ q.2 := fun e => h (Prod.ext h1 e)
    omega
  · omega
theorem takeWhile_imp {α : Type} {p : α → Bool} {x : α} : ∀ {l : List α}, x ∈ l.takeWhile p → p x = true
  | [], h => by simp at h
  | y :: l, h => by
    rw [List.takeWhile_cons] at h
    split at h
    · rcases List.mem_cons.1 h with e | e
      · rw [e]; assumption
      · exact takeWhile_imp e
    · simp at h
/-- Entries that may be. -/
structure Ok (E : List Ent) : Prop where
  srt : E.Pairwise (fun p q => bef p q = true)
  ids : E.Pairwise (fun p q => p.1 ≠ q.1)
  bnd : ∀ p ∈ E, 0 ≤ p.2 ∧ p.2 ≤ 4611686018427387904 ∧ -9223372036854775808 ≤ p.1 ∧ p.1 ≤ 9223372036854775807
theorem Ok.nil : Ok [] := ⟨.nil, .nil, by simp⟩
theorem Ok.sub {E K : List Ent} (h : Ok E) (hs : K.Sublist E) : Ok K := ⟨h.srt.sublist hs, h.ids.sublist hs, fun p hp => h.bnd p (hs.mem hp)⟩
theorem pw_inj {E : List Ent} (h : E.Pairwise (fun p q => p.1 ≠ q.1)) {a b : Ent} (ha : a ∈ E) (hb : b ∈ E) (e : a.1 = b.1) : a = b := by
  induction E with
  | nil => simp at ha
  | cons x E ih =>
    obtain ⟨h1, h2⟩ := List.pairwise_cons.1 h
    rcases List.mem_cons.1 ha with ea | ha'
    · rcases List.mem_cons.1 hb with eb | hb'
      · rw [ea, eb]
      · exact absurd (ea ▸ e) (h1 _ hb')
    · rcases List.mem_cons.1 hb with eb | hb'
      · exact absurd (eb ▸ e.symm) (h1 _ ha')
      · exact ih h2 ha' hb'
/-- A number's time. -/
def tm (E : List Ent) (id : Int) : Option Int := (E.find? (fun p => p.1 == id)).map (·.2)
theorem Ok.tm_iff {E : List Ent} (h : Ok E) (id t : Int) : tm E id = some t ↔ (id, t) ∈ E := by
  unfold tm
  constructor
  · intro e
    cases hf : E.find? (fun p => p.1 == id) with
    | none => rw [hf] at e; cases e
    | some p =>
      rw [hf] at e
      have h1 := List.mem_of_find?_eq_some hf
      have h2 := List.find?_some hf
      simp at h2 e
      rw [← h2, ← e]; exact h1
  · intro hm
    cases hf : E.find? (fun p => p.1 == id) with
    | none =>
      have := List.find?_eq_none.1 hf _ hm
      simp at this
    | some p =>
      have h1 := List.mem_of_find?_eq_some hf
      have h2 := List.find?_some hf
      simp at h2
      have := pw_inj h.ids h1 hm h2
      rw [this]; rfl
theorem tm_none {E : List Ent} {id : Int} : tm E id = none ↔ ∀ t, (id, t) ∉ E := by
  unfold tm
  simp only [Option.map_eq_none_iff, List.find?_eq_none]
  constructor
  · intro h t hm
    have := h _ hm
    simp at this
  · intro h p hp
    simp
    intro e
    exact h p.2 (by rw [← e]; exact hp)
/-- Without a number. -/
def dropE (E : List Ent) (id : Int) : List Ent := E.filter (fun p => p.1 != id)
theorem mem_dropE {E : List Ent} {id : Int} {p : Ent} : p ∈ dropE E id ↔ p ∈ E ∧ p.1 ≠ id := by simp [dropE]
theorem Ok.drop {E : List Ent} (h : Ok E) (id : Int) : Ok (dropE E id) := h.sub List.filter_sublist
theorem tm_drop_same (E : List Ent) (id : Int) : tm (dropE E id) id = none := tm_none.2 (fun t h => (mem_dropE.1 h).2 rfl)
theorem Ok.tm_drop_other {E : List Ent} (h : Ok E) {id x : Int} (hx : x ≠ id) : tm (dropE E id) x = tm E x := by
  cases ht : tm E x with
  | none => exact tm_none.2 (fun t hm => tm_none.1 ht t (mem_dropE.1 hm).1)
  | some t => exact ((h.drop id).tm_iff x t).2 (mem_dropE.2 ⟨(h.tm_iff x t).1 ht, hx⟩)
theorem dropE_none {E : List Ent} {id : Int} (h : tm E id = none) : dropE E id = E := by
  unfold dropE
  rw [List.filter_eq_self]
  intro p hp
  simp
  intro e
  exact tm_none.1 h p.2 (by rw [← e]; exact hp)
theorem Ok.len_drop {E : List Ent} (h : Ok E) {id t : Int} (ht : tm E id = some t) : (dropE E id).length + 1 = E.length := by
  have hm := (h.tm_iff id t).1 ht
  have hi := h.ids
  clear ht h
  unfold dropE
  induction E with
  | nil => simp at hm
  | cons x E ih =>
    obtain ⟨h1, h2⟩ := List.pairwise_cons.1 hi
    rcases List.mem_cons.1 hm with rfl | hm
    · rw [List.filter_cons_of_neg (by simp)]
      rw [List.filter_eq_self.2 (fun p hp => by simp; exact fun e => h1 p hp e.symm)]
      rfl
    · have := h1 _ hm
      rw [List.filter_cons_of_pos (by simpa using this)]
      simp only [List.length_cons]
      rw [ih hm h2]
/-- With an entry more. -/
def insE (E : List Ent) (p : Ent) : List Ent := E.takeWhile (fun q => bef q p) ++ p :: E.dropWhile (fun q => bef q p)
theorem mem_insE {E : List Ent} {p q : Ent} : q ∈ insE E p ↔ q = p ∨ q ∈ E := by
  unfold insE
  rw [List.mem_append, List.mem_cons]
  constructor
  · rintro (h | h | h)
    · exact .inr (List.takeWhile_subset _ h)
    · exact .inl h
    · exact .inr (List.dropWhile_subset _ h)
  · rintro (h | h)
    · exact .inr (.inl h)
    · rw [← List.takeWhile_append_dropWhile (p := fun q => bef q p) (l := E)] at h
      rcases List.mem_append.1 h with h | h
      · exact .inl h
      · exact .inr (.inr h)
theorem len_insE (E : List Ent) (p : Ent) : (insE E p).length = E.length + 1 := by
  have := congrArg List.length (List.takeWhile_append_dropWhile (p := fun q => bef q p) (l := E))
  simp only [List.length_append] at this
  unfold insE
  simp only [List.length_append, List.length_cons]
  omega
theorem dropWhile_not {p : Ent} : ∀ {E : List Ent}, E.Pairwise (fun p q => bef p q = true) → ∀ q ∈ E.dropWhile (fun q => bef q p), bef q p = false
  | [], _, q, hq => by simp at hq
  | x :: E, h, q, hq => by
    obtain ⟨h1, h2⟩ := List.pairwise_cons.1 h
    rw [List.dropWhile_cons] at hq
    split at hq
    · exact dropWhile_not h2 q hq
    · rename_i hx
      have hx' : bef x p = false := by simpa using hx
      rcases List.mem_cons.1 hq with rfl | hq
      · exact hx'
      · cases e : bef q p
        · rfl
        · rw [bef_trans (h1 _ hq) e] at hx'; cases hx'
theorem Ok.ins {E : List Ent} (h : Ok E) {p : Ent} (hp : tm E p.1 = none) (hb : 0 ≤ p.2 ∧ p.2 ≤ 4611686018427387904 ∧ -9223372036854775808 ≤ p.1 ∧ p.1 ≤ 9223372036854775807) : Ok (insE E p) := by
  have hne : ∀ q ∈ E, q.1 ≠ p.1 := fun q hq e => tm_none.1 hp q.2 (by rw [← e]; exact hq)
  have hsp := List.takeWhile_append_dropWhile (p := fun q => bef q p) (l := E)
  have s1 := h.srt
  have s2 := h.ids
  rw [← hsp, List.pairwise_append] at s1 s2
  refine ⟨?_, ?_, fun q hq => ?_⟩
  · refine List.pairwise_append.2 ⟨s1.1, List.pairwise_cons.2 ⟨fun q hq => ?_, s1.2.1⟩, fun a ha b hb => ?_⟩
    · have h1 := dropWhile_not h.srt q hq
      rcases bef_tot (p := q) (q := p) (fun e => hne q (List.dropWhile_subset _ hq) (by rw [e])) with h2 | h2
      · rw [h1] at h2; cases h2
      · exact h2
    · rcases List.mem_cons.1 hb with rfl | hb
      · exact (takeWhile_imp (p := fun q => bef q _) ha)
      · exact s1.2.2 a ha b hb
  · refine List.pairwise_append.2 ⟨s2.1, List.pairwise_cons.2 ⟨fun q hq => (hne q (List.dropWhile_subset _ hq)).symm, s2.2.1⟩, fun a ha b hb => ?_⟩
    · rcases List.mem_cons.1 hb with rfl | hb
      · exact hne a (List.takeWhile_subset _ ha)
      · exact s2.2.2 a ha b hb
  · rcases mem_insE.1 hq with rfl | hq
    · exact hb
    · exact h.bnd q hq
/-- With a number set. -/
def setE (E : List Ent) (id at_ : Int) : List Ent := insE (dropE E id) (id, at_)
theorem Ok.set {E : List Ent} (h : Ok E) {id at_ : Int} (hb : 0 ≤ at_ ∧ at_ ≤ 4611686018427387904 ∧ -9223372036854775808 ≤ id ∧ id ≤ 9223372036854775807) : Ok (setE E id at_) := (h.drop id).ins (tm_drop_same E id) hb
theorem mem_setE {E : List Ent} {id at_ : Int} {p : Ent} : p ∈ setE E id at_ ↔ p = (id, at_) ∨ (p ∈ E ∧ p.1 ≠ id) := by unfold setE; rw [mem_insE, mem_dropE]
theorem Ok.tm_set_same {E : List Ent} (h : Ok E) {id at_ : Int} (hb : 0 ≤ at_ ∧ at_ ≤ 4611686018427387904 ∧ -9223372036854775808 ≤ id ∧ id ≤ 9223372036854775807) : tm (setE E id at_) id = some at_ := ((h.set hb).tm_iff _ _).2 (mem_setE.2 (.inl rfl))
theorem Ok.tm_set_other {E : List Ent} (h : Ok E) {id at_ x : Int} (hb : 0 ≤ at_ ∧ at_ ≤ 4611686018427387904 ∧ -9223372036854775808 ≤ id ∧ id ≤ 9223372036854775807) (hx : x ≠ id) : tm (setE E id at_) x = tm E x := by
  cases ht : tm E x with
  | none => exact tm_none.2 (fun t hm => by
      rcases mem_setE.1 hm with e | e
      · exact hx (congrArg Prod.fst e)
      · exact tm_none.1 ht t e.1)
  | some t => exact ((h.set hb).tm_iff x t).2 (mem_setE.2 (.inr ⟨(h.tm_iff x t).1 ht, hx⟩))
theorem Ok.len_set {E : List Ent} (h : Ok E) (id at_ : Int) : (setE E id at_).length = if (tm E id).isSome then E.length else E.length + 1 := by
  unfold setE
  rw [len_insE]
  cases ht : tm E id with
  | none => rw [dropE_none ht]; rfl
  | some t => simpa using h.len_drop ht
/-- What is due. -/
def dueE (E : List Ent) (to : Int) : List Ent := E.takeWhile (fun p => decide (p.2 ≤ to))
def restE (E : List Ent) (to : Int) : List Ent := E.dropWhile (fun p => decide (p.2 ≤ to))
theorem due_rest (E : List Ent) (to : Int) : dueE E to ++ restE E to = E := List.takeWhile_append_dropWhile
theorem rest_late : ∀ {E : List Ent} {to : Int}, E.Pairwise (fun p q => bef p q = true) → ∀ p ∈ restE E to, to < p.2
  | [], to, _, p, hp => by simp [restE] at hp
  | x :: E, to, h, p, hp => by
    obtain ⟨h1, h2⟩ := List.pairwise_cons.1 h
    unfold restE at hp
    rw [List.dropWhile_cons] at hp
    split at hp
    · exact rest_late h2 p hp
    · rename_i hx
      have hx' : to < x.2 := by simpa using hx
      rcases List.mem_cons.1 hp with rfl | hp
      · exact hx'
      · have := (bef_iff _ _).1 (h1 _ hp)
        omega
theorem due_early {E : List Ent} {to : Int} : ∀ p ∈ dueE E to, p.2 ≤ to := fun p hp => by simpa using takeWhile_imp hp
theorem Ok.mem_due {E : List Ent} (h : Ok E) (to : Int) (p : Ent) : p ∈ dueE E to ↔ p ∈ E ∧ p.2 ≤ to := by
  constructor
  · intro hp
    exact ⟨List.takeWhile_subset _ hp, due_early p hp⟩
  · rintro ⟨hp, ht⟩
    rw [← due_rest E to] at hp
    rcases List.mem_append.1 hp with hp | hp
    · exact hp
    · have := rest_late h.srt p hp
      omega
theorem Ok.mem_rest {E : List Ent} (h : Ok E) (to : Int) (p : Ent) : p ∈ restE E to ↔ p ∈ E ∧ to < p.2 := by
  constructor
  · intro hp
    exact ⟨List.dropWhile_subset _ hp, rest_late h.srt p hp⟩
  · rintro ⟨hp, ht⟩
    rw [← due_rest E to] at hp
    rcases List.mem_append.1 hp with hp | hp
    · have := due_early p hp
      omega
    · exact hp
theorem Ok.rest {E : List Ent} (h : Ok E) (to : Int) : Ok (restE E to) := h.sub (List.dropWhile_sublist _)
theorem Ok.due {E : List Ent} (h : Ok E) (to : Int) : Ok (dueE E to) := h.sub (List.takeWhile_sublist _)
/-- Numbers by their times. -/
def ltE (E : List Ent) (a b : Int) : Prop := (tm E a).getD 0 < (tm E b).getD 0 ∨ ((tm E a).getD 0 = (tm E b).getD 0 ∧ a < b)
theorem Ok.due_uniq {E : List Ent} (h : Ok E) (to : Int) {l : List Int} (hl : l.Nodup) (hm : ∀ x, x ∈ l ↔ ∃ t, (x, t) ∈ E ∧ t ≤ to) (hs : l.Pairwise (fun a b => ¬ ltE E b a)) : l = (dueE E to).map (·.1) := by
  refine eq_of_mem_sorted (R := fun a b => ltE E a b) (fun a b => by unfold ltE; omega) ?_ ?_ (fun x => ?_)
  · refine (List.Pairwise.and hs hl).imp (fun {a b} hab => ?_)
    obtain ⟨h1, h2⟩ := hab
    unfold ltE at h1 ⊢
    have : a ≠ b := h2
    omega
  · rw [List.pairwise_map]
    refine List.Pairwise.imp_of_mem (fun {a b} ha hb hab => ?_) (h.due to).srt
    have ta := (h.tm_iff a.1 a.2).2 ((h.mem_due to a).1 ha).1
    have tb := (h.tm_iff b.1 b.2).2 ((h.mem_due to b).1 hb).1
    unfold ltE
    rw [ta, tb]
    exact (bef_iff _ _).1 hab
  · rw [hm x, List.mem_map]
    constructor
    · rintro ⟨t, h1, h2⟩
      exact ⟨(x, t), (h.mem_due to _).2 ⟨h1, h2⟩, rfl⟩
    · rintro ⟨p, hp, rfl⟩
      exact ⟨p.2, (h.mem_due to p).1 hp⟩
end Go.Proofs.Ytfcpjenlckkloaa.M
