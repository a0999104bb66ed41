/- Texts joined: FiD -/
import Derived.Test.YtbghilihccaaaaaTwz21
namespace Go.Proofs.Ytbghilihccaaaaa
open Go.RowKit
set_option linter.unusedVariables false
set_option linter.unusedSimpArgs false
abbrev pcP (p : Pkt) : Int × List Int := (p.of, p.dat)
structure OneOf (data : List Int) (K : Lit) (p : Pkt) : Prop where
  fg : p.fg = true
  right : wrongP p = 0
  name : nameK p = K
  dat : p.dat = (data.drop p.of.toNat).take p.dat.length
  lies : p.of + p.dat.length ≤ data.length
  last : p.mo = false → p.of + p.dat.length = data.length
abbrev apP (p q : Pkt) : Prop := apA (pcP p) (pcP q) ∧ (p.mo = true ∨ q.mo = true)
theorem apP_sym (p q : Pkt) (h : apP p q) : apP q p := ⟨h.1.symm, h.2.symm⟩
structure Part (data : List Int) (K : Lit) (L : List Pkt) : Prop where
  each : ∀ p ∈ L, OneOf data K p
  pair : L.Pairwise apP
  sum : sumA (L.map pcP) = data.length
  last : ∃ p ∈ L, p.mo = false
theorem sumA_perm {a b : List (Int × List Int)} (h : a.Perm b) : sumA a = sumA b := by
  induction h with
  | nil => rfl
  | cons x _ ih => simp only [sumA, ih]
  | swap x y l => simp only [sumA]; omega
  | trans _ _ i j => exact i.trans j
theorem Part.perm {data : List Int} {K : Lit} {L M : List Pkt} (h : Part data K L) (hp : M.Perm L) : Part data K M :=
  ⟨fun p hm => h.each p (hp.mem_iff.1 hm), (hp.pairwise_iff (fun {a b} => apP_sym a b)).2 h.pair, (sumA_perm (hp.map pcP)).trans h.sum, by obtain ⟨p, h1, h2⟩ := h.last; exact ⟨p, hp.mem_iff.2 h1, h2⟩⟩
/-- The datagram of which the fragments A have come. -/
structure Got (data : List Int) (A : List Pkt) (g : Ag) : Prop where
  dead : g.dead = false
  ps : g.ps = A.map pcP
  size : g.size = sumA (A.map pcP)
  last : g.last = A.any fun p => !p.mo
  reach : 0 ≤ g.reach ∧ g.reach ≤ data.length
  far : ∀ p ∈ A, p.of + p.dat.length ≤ g.reach
  hd : ∀ p ∈ A, p.of = 0 → ∃ q ∈ A, q.of = 0 ∧ g.hd = ⟨q.f, q.s, q.d, q.pr, q.ho, q.X⟩
theorem got_0 (data : List Int) : Got data [] ag0 := ⟨rfl, rfl, rfl, rfl, by simp, by simp, by simp⟩
theorem Got.clash {data : List Int} {K : Lit} {A B : List Pkt} {p : Pkt} {g : Ag} (h : Part data K (A ++ p :: B)) (G : Got data A g) : clashA g p.of p.mo p.dat.length = false := by
  have hp := h.each p (by simp)
  have hA : ∀ q ∈ A, apP q p := fun q hq => (List.pairwise_append.1 h.pair).2.2 q hq p (by simp)
  have h1 : (g.last && (!p.mo || decide (p.of + p.dat.length > g.reach))) = false := by
    cases hl : g.last
    · rfl
    · rw [G.last] at hl
      obtain ⟨q, hq, hm⟩ := List.any_eq_true.1 hl
      have hm : q.mo = false := by simpa using hm
      have h2 := (hA q hq).2
      have h3 := (h.each q (by simp [hq])).last hm
      have h4 := G.far q hq
      have h5 := hp.lies
      have h6 : p.mo = true := by rcases h2 with h2 | h2; · rw [hm] at h2; cases h2
                                  · exact h2
      simp only [h6, Bool.not_true, Bool.false_or, Bool.true_and, decide_eq_false_iff_not]
      omega
  have h2 : (!p.mo && decide (g.reach > p.of + p.dat.length)) = false := by
    cases hm : p.mo
    · have := hp.last hm
      have := G.reach
      simp only [Bool.not_false, Bool.true_and, decide_eq_false_iff_not]
      omega
    · rfl
  unfold clashA
  rw [h1, h2]
  simp only [Bool.false_eq_true, if_false]
  rw [List.any_eq_false]
  intro q hq
  rw [G.ps] at hq
  obtain ⟨r, hr, rfl⟩ := List.mem_map.1 hq
  have := (hA r hr).1
  unfold apA at this
  simp only [pcP] at this
  simp only [shareA, pcP, Bool.and_eq_true, decide_eq_true_eq, not_and]
  omega
theorem Got.more {data : List Int} {K : Lit} {A B : List Pkt} {p : Pkt} {g : Ag} (h : Part data K (A ++ p :: B)) (G : Got data A g) (t : Int) : Got data (A ++ [p]) (moreA g t p) := by
  have hp := h.each p (by simp)
  refine ⟨G.dead, by simp [moreA, G.ps], by simp [moreA, G.size, sumA_app, sumA], by simp [moreA, G.last], ?_, ?_, ?_⟩
  · have := G.reach
    have := hp.lies
    simp only [moreA]
    split <;> omega
  · intro q hq
    simp only [moreA]
    rcases List.mem_append.1 hq with hq | hq
    · have := G.far q hq
      split <;> omega
    · obtain rfl := List.mem_singleton.1 hq
      split <;> omega
  · intro q hq h0
    simp only [moreA]
    by_cases hz : p.of = 0
    · exact ⟨p, by simp, hz, if_pos hz⟩
    · rw [if_neg hz]
      rcases List.mem_append.1 hq with hq | hq
      · obtain ⟨r, hr, h1, h2⟩ := G.hd q hq h0
        exact ⟨r, by simp [hr], h1, h2⟩
      · obtain rfl := List.mem_singleton.1 hq
        exact absurd h0 hz
theorem Got.not_whole {data : List Int} {K : Lit} {A B : List Pkt} {g : Ag} (h : Part data K (A ++ B)) (G : Got data A g) (hB : B ≠ []) : wholeA g = false := by
  unfold wholeA
  cases hl : g.last
  · rfl
  · rw [G.last] at hl
    obtain ⟨q, hq, hm⟩ := List.any_eq_true.1 hl
    have h3 := (h.each q (by simp [hq])).last (by simpa using hm)
    have h4 := G.far q hq
    have h5 := G.reach
    have h6 := h.sum
    rw [List.map_append, sumA_app, ← G.size] at h6
    obtain ⟨x, r, rfl⟩ := List.exists_cons_of_ne_nil hB
    have h7 := wrong_nums (h.each x (by simp)).right
    have h8 := sumA_nonneg (r.map pcP)
    simp only [List.map_cons, sumA, pcP] at h6
    simp only [Bool.true_and, beq_eq_false_iff_ne, ne_eq]
    omega
theorem Got.whole {data : List Int} {K : Lit} {A : List Pkt} {g : Ag} (h : Part data K A) (G : Got data A g) : wholeA g = true := by
  unfold wholeA
  obtain ⟨q, hq, hm⟩ := h.last
  have h1 : g.last = true := by rw [G.last]; exact List.any_eq_true.2 ⟨q, hq, by simp [hm]⟩
  have h2 := (h.each q hq).last hm
  have h3 := G.far q hq
  have h4 := G.reach
  have h5 := h.sum
  rw [← G.size] at h5
  simp only [h1, Bool.true_and, beq_iff_eq]
  omega
theorem splice_get (L cs : List Int) (o x : Nat) (h : o + cs.length ≤ L.length) : (splice L o cs)[x]? = if o ≤ x ∧ x < o + cs.length then cs[x - o]? else L[x]? := by
  unfold splice
  by_cases h1 : x < o
  · rw [List.getElem?_append_left (by simp; omega), List.getElem?_take, if_pos h1, if_neg (by omega)]
  · rw [List.getElem?_append_right (by simp; omega)]
    have e : (L.take o).length = o := by simp; omega
    rw [e]
    by_cases h2 : x < o + cs.length
    · rw [List.getElem?_append_left (by omega), if_pos (by omega)]
    · rw [List.getElem?_append_right (by omega), if_neg (by omega), List.getElem?_drop]
      congr 1
      omega
theorem pasteA_length : ∀ (ps : List (Int × List Int)) (L : List Int), (∀ p ∈ ps, p.1.toNat + p.2.length ≤ L.length) → (pasteA L ps).length = L.length
  | [], _, _ => rfl
  | q :: ps, L, h => by
    have h1 := length_splice L q.1.toNat q.2 (h q (by simp))
    simp only [pasteA]
    rw [pasteA_length ps _ (fun p hp => by rw [h1]; exact h p (by simp [hp])), h1]
theorem paste_agree (data : List Int) : ∀ (ps : List (Int × List Int)) (L : List Int), (∀ p ∈ ps, 0 ≤ p.1 ∧ p.1.toNat + p.2.length ≤ L.length ∧ p.2 = (data.drop p.1.toNat).take p.2.length) → ∀ x, (1 ≤ cntA ps x ∨ L[x]? = data[x]?) → (pasteA L ps)[x]? = data[x]?
  | [], L, _, x, h => by
    rcases h with h | h
    · simp [cntA] at h
    · exact h
  | p :: r, L, hp, x, h => by
    obtain ⟨h0, h1, h2⟩ := hp p (by simp)
    have h3 := length_splice L p.1.toNat p.2 h1
    simp only [pasteA]
    refine paste_agree data r _ (fun q hq => by rw [h3]; exact hp q (by simp [hq])) x ?_
    rw [splice_get L p.2 p.1.toNat x h1]
    by_cases hx : p.1.toNat ≤ x ∧ x < p.1.toNat + p.2.length
    · right
      rw [if_pos hx, h2, List.getElem?_take, if_pos (by omega), List.getElem?_drop]
      congr 1
      omega
    · rw [if_neg hx]
      rcases h with h | h
      · left
        simp only [cntA, inA] at h
        rw [if_neg (by omega)] at h
        omega
      · exact .inr h
theorem Got.data {data : List Int} {K : Lit} {A : List Pkt} {g : Ag} (h : Part data K A) (G : Got data A g) : pasteA (List.replicate g.reach.toNat 0) g.ps = data ∧ g.reach = data.length := by
  obtain ⟨q, hq, hm⟩ := h.last
  have h2 := (h.each q hq).last hm
  have h3 := G.far q hq
  have h4 := G.reach
  have hr : g.reach = data.length := by omega
  refine ⟨?_, hr⟩
  rw [hr, G.ps, Int.toNat_natCast]
  have hin : ∀ p ∈ A.map pcP, 0 ≤ p.1 ∧ p.1 + p.2.length ≤ (data.length : Int) := fun p hp => by
    obtain ⟨r, hr, rfl⟩ := List.mem_map.1 hp
    have h1 := wrong_nums (h.each r hr).right
    have h2 := (h.each r hr).lies
    exact ⟨h1.1, h2⟩
  have hap : (A.map pcP).Pairwise apA := List.pairwise_map.2 (h.pair.imp fun hh => hh.1)
  have hc := sum_full (A.map pcP) data.length hin hap h.sum
  apply List.ext_getElem?
  intro x
  by_cases hx : x < data.length
  · refine paste_agree data _ _ (fun p hp => ?_) x (.inl (by rw [hc x hx]; omega))
    have h1 := hin p hp
    refine ⟨h1.1, by rw [List.length_replicate]; omega, ?_⟩
    obtain ⟨r, hr, rfl⟩ := List.mem_map.1 hp
    exact (h.each r hr).dat
  · rw [List.getElem?_eq_none (by rw [pasteA_length _ _ (fun p hp => by have := hin p hp; rw [List.length_replicate]; omega)]; simp; omega), List.getElem?_eq_none (by omega)]
/-- Where the fragments A of a datagram K wait. -/
def Waits (data : List Int) (K : Lit) (s : Fs) (A : List Pkt) : Prop := (A = [] ∧ look K s.E = none) ∨ ∃ g, look K s.E = some g ∧ Got data A g
theorem Waits.got {data : List Int} {K : Lit} {s : Fs} {A : List Pkt} (h : Waits data K s A) (p : Pkt) (hn : nameK p = K) : Got data A (gramA s p) := by
  unfold gramA
  rw [hn]
  rcases h with ⟨rfl, h⟩ | ⟨g, h, G⟩
  · rw [h]; exact got_0 data
  · rw [h]; exact G
theorem look_ins {α : Type} {k : Lit} (hk : WideAt.IsKeyLit k) (x : α) : ∀ (E : List (Lit × α)), (∀ p ∈ E, p.1.sameKey k = false) → look k (ins (k, x) E) = some x
  | [], _ => by simp [ins, look, WideAt.sameKey_self hk]
  | y :: r, h => by
    have ih := look_ins hk x r (fun p hp => h p (by simp [hp]))
    unfold ins
    split
    · simp [look, WideAt.sameKey_self hk]
    · unfold look at ih ⊢
      rw [List.find?_cons, h y (by simp)]
      exact ih
theorem look_ins_strike {α : Type} {k : Lit} (hk : WideAt.IsKeyLit k) (x : α) (E : List (Lit × α)) : look k (ins (k, x) (strike k E)) = some x :=
  look_ins hk x _ (fun p hp => by simpa using (List.mem_filter.1 hp).2)
/-- A fragment that is not the last to come waits. -/
theorem put_waits {data : List Int} {K : Lit} {s : Fs} {A B : List Pkt} {p : Pkt} (h : Part data K (A ++ p :: B)) (hB : B ≠ []) (hs : FsOk s) (hw : Waits data K s A) (hroom : (p.dat.length : Int) ≤ s.room - s.by_) (hmost : A = [] → (s.E.length : Int) < s.most) :
    ∃ g, Got data (A ++ [p]) g ∧ g.ends = timeA s p ∧ putF s p = ({ s with by_ := s.by_ + p.dat.length, E := ins (K, g) (strike K s.E) }, pk0, 19) ∧ look K (ins (K, g) (strike K s.E)) = some g := by
  have hp := h.each p (by simp)
  have G := hw.got p hp.name
  have hc := G.clash h
  have G' := G.more h (timeA s p)
  have hn := G'.not_whole (B := B) (by simpa using h) hB
  have hK : WideAt.IsKeyLit K := hp.name ▸ keyLit_name p
  refine ⟨_, G', rfl, ?_, look_ins_strike hK _ _⟩
  unfold putF
  rw [if_neg (by rw [hp.fg]; simp), if_neg (by simp [hp.right])]
  unfold takeF
  rw [hp.name] at *
  rw [if_neg (by rw [G.dead]; simp), if_neg (by rw [hc]; simp), if_neg ?_, if_neg (by rw [hn]; simp)]
  rw [not_or, not_and]
  refine ⟨fun hl => ?_, by omega⟩
  rcases hw with ⟨rfl, _⟩ | ⟨g, hl', _⟩
  · have := hmost rfl
    omega
  · rw [hl'] at hl; cases hl
/-- The last one to come makes it whole. -/
theorem put_ends {data : List Int} {K : Lit} {s : Fs} {A : List Pkt} {p : Pkt} (h : Part data K (A ++ [p])) (hs : FsOk s) (hw : Waits data K s A) (hroom : (p.dat.length : Int) ≤ s.room - s.by_) (hmost : A = [] → (s.E.length : Int) < s.most) :
    ∃ q ∈ A ++ [p], q.of = 0 ∧ putF s p = ({ s with by_ := s.by_ - sumA (A.map pcP), E := strike K s.E }, ⟨q.f, q.s, q.d, q.pr, q.ho, false, 0, 0, false, q.X, data⟩, 0) := by
  have hp := h.each p (by simp)
  have G := hw.got p hp.name
  have hc := G.clash (B := []) h
  have G' := G.more (B := []) h (timeA s p)
  have hn := G'.whole h
  have hd := G'.data h
  have hz : ∃ q ∈ A ++ [p], q.of = 0 := by
    have hin : ∀ p' ∈ (A ++ [p]).map pcP, 0 ≤ p'.1 ∧ p'.1 + p'.2.length ≤ (data.length : Int) := fun p' hp' => by
      obtain ⟨r, hr, rfl⟩ := List.mem_map.1 hp'
      have h1 := wrong_nums (h.each r hr).right
      have h2 := (h.each r hr).lies
      exact ⟨h1.1, h2⟩
    have hap : ((A ++ [p]).map pcP).Pairwise apA := List.pairwise_map.2 (h.pair.imp fun hh => hh.1)
    have hl : 0 < data.length := by
      have h1 := wrong_nums hp.right
      have h2 := hp.lies
      omega
    have hc := sum_full ((A ++ [p]).map pcP) data.length hin hap h.sum 0 hl
    have : ∃ q ∈ (A ++ [p]).map pcP, inA q 0 ≠ 0 := by
      refine Classical.byContradiction fun hne => ?_
      have := cnt_zero ((A ++ [p]).map pcP) 0 (fun q hq => Classical.byContradiction fun h' => hne ⟨q, hq, h'⟩)
      omega
    obtain ⟨q', hq', h0⟩ := this
    obtain ⟨q, hq, rfl⟩ := List.mem_map.1 hq'
    refine ⟨q, hq, ?_⟩
    have h1 := (hin _ hq').1
    simp only [inA, pcP] at h0 h1
    by_cases h2 : q.of ≤ ((0 : Nat) : Int) ∧ (((0 : Nat) : Int)) < q.of + q.dat.length
    · omega
    · rw [if_neg h2] at h0; exact absurd rfl h0
  obtain ⟨q0, hq0, hz0⟩ := hz
  obtain ⟨q, hq, hz, hh⟩ := G'.hd q0 hq0 hz0
  refine ⟨q, hq, hz, ?_⟩
  unfold putF
  rw [if_neg (by rw [hp.fg]; simp), if_neg (by simp [hp.right])]
  unfold takeF
  rw [hp.name] at *
  rw [if_neg (by rw [G.dead]; simp), if_neg (by rw [hc]; simp), if_neg ?_, if_pos hn]
  · rw [← G.size]
    unfold dataA
    rw [hh, hd.1]
  · rw [not_or, not_and]
    refine ⟨fun hl => ?_, by omega⟩
    rcases hw with ⟨rfl, _⟩ | ⟨g, hl', _⟩
    · have := hmost rfl
      omega
    · rw [hl'] at hl; cases hl
end Go.Proofs.Ytbghilihccaaaaa
