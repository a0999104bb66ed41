/- Texts joined: AtA -/
import Derived.Test.YtnadfacbfcdkgaaDoorFsa7
namespace Go.Proofs.YtnadfacbfcdkgaaDoor
set_option linter.unusedVariables false
set_option linter.unusedSimpArgs false
def hd1 (x : UInt8) : List (List UInt8) → List (List UInt8)
  | [] => [[x]]
  | y :: ys => (x :: y) :: ys
def hds (p : List UInt8) : List (List UInt8) → List (List UInt8)
  | [] => [p]
  | y :: ys => (p ++ y) :: ys
/-- A text's parts between a byte. -/
def spl (c : UInt8) : List UInt8 → List (List UInt8)
  | [] => [[]]
  | x :: xs => if x = c then [] :: spl c xs else hd1 x (spl c xs)
theorem hd1_len (x : UInt8) : ∀ l : List (List UInt8), l ≠ [] → (hd1 x l).length = l.length
  | [], h => absurd rfl h
  | _ :: _, _ => rfl
theorem spl_ne (c : UInt8) (s : List UInt8) : spl c s ≠ [] := by
  cases s with
  | nil => simp [spl]
  | cons x xs =>
    unfold spl
    split
    · simp
    · cases spl c xs <;> simp [hd1]
theorem spl_pos (c : UInt8) (s : List UInt8) : 0 < (spl c s).length := List.length_pos_iff.2 (spl_ne c s)
theorem hds_nil {l : List (List UInt8)} (h : l ≠ []) : hds [] l = l := by
  cases l with
  | nil => exact absurd rfl h
  | cons y ys => rfl
theorem hds_hd1 (p : List UInt8) (x : UInt8) (l : List (List UInt8)) : hds p (hd1 x l) = hds (p ++ [x]) l := by
  cases l with
  | nil => rfl
  | cons y ys => simp [hds, hd1]
theorem spl_none (c : UInt8) : ∀ (s : List UInt8), c ∉ s → spl c s = [s]
  | [], _ => rfl
  | x :: xs, h => by
    have h1 : ¬ x = c := fun e => h (by rw [e]; exact List.mem_cons_self ..)
    unfold spl
    rw [if_neg h1, spl_none c xs (fun hm => h (List.mem_cons_of_mem _ hm))]
    rfl
theorem spl_app (c : UInt8) : ∀ (x t : List UInt8), c ∉ x → spl c (x ++ c :: t) = x :: spl c t
  | [], t, _ => by
    show spl c (c :: t) = _
    conv => lhs; unfold spl
    rw [if_pos rfl]
  | b :: x, t, h => by
    have h1 : ¬ b = c := fun e => h (by rw [e]; exact List.mem_cons_self ..)
    show spl c (b :: (x ++ c :: t)) = _
    conv => lhs; unfold spl
    rw [if_neg h1, spl_app c x t (fun hm => h (List.mem_cons_of_mem _ hm))]
    rfl
theorem first_occ (c : UInt8) : ∀ (s : List UInt8), c ∈ s → ∃ x t, s = x ++ c :: t ∧ c ∉ x
  | [], h => by simp at h
  | b :: s, h => by
    by_cases e : b = c
    · exact ⟨[], s, by rw [e]; rfl, by simp⟩
    · rcases List.mem_cons.1 h with h | h
      · exact absurd h.symm e
      · obtain ⟨x, t, h1, h2⟩ := first_occ c s h
        exact ⟨b :: x, t, by rw [h1]; rfl, fun hm => by
          rcases List.mem_cons.1 hm with hm | hm
          · exact e hm.symm
          · exact h2 hm⟩
theorem spl_len (c : UInt8) : ∀ (s : List UInt8), (spl c s).length ≤ s.length + 1
  | [] => by simp [spl]
  | x :: xs => by
    have := spl_len c xs
    unfold spl
    split
    · simp only [List.length_cons]; omega
    · rw [hd1_len x _ (spl_ne c xs)]; simp only [List.length_cons]; omega
theorem spl_mem (c x : UInt8) (hx : ¬ x = c) : ∀ (s : List UInt8), x ∈ s → ∃ w ∈ spl c s, x ∈ w
  | [], h => by simp at h
  | b :: s, h => by
    unfold spl
    rcases List.mem_cons.1 h with h | h
    · subst h
      rw [if_neg hx]
      cases hs : spl c s with
      | nil => exact absurd hs (spl_ne c s)
      | cons y ys => exact ⟨x :: y, by simp [hd1], List.mem_cons_self ..⟩
    · obtain ⟨w, h1, h2⟩ := spl_mem c x hx s h
      split
      · exact ⟨w, List.mem_cons_of_mem _ h1, h2⟩
      · cases hs : spl c s with
        | nil => exact absurd hs (spl_ne c s)
        | cons y ys =>
          rw [hs] at h1
          rcases List.mem_cons.1 h1 with h1 | h1
          · exact ⟨b :: y, by simp [hd1], by rw [← h1]; exact List.mem_cons_of_mem _ h2⟩
          · exact ⟨w, by simp [hd1, h1], h2⟩
theorem spl_sub (c : UInt8) : ∀ (s : List UInt8), ∀ w ∈ spl c s, w.length ≤ s.length
  | [], w, h => by simp [spl] at h; simp [h]
  | b :: s, w, h => by
    unfold spl at h
    split at h
    · rcases List.mem_cons.1 h with h | h
      · rw [h]; simp
      · have := spl_sub c s w h; simp only [List.length_cons]; omega
    · cases hs : spl c s with
      | nil => exact absurd hs (spl_ne c s)
      | cons y ys =>
        rw [hs] at h
        have hy := spl_sub c s y (by rw [hs]; exact List.mem_cons_self ..)
        rcases List.mem_cons.1 h with h | h
        · rw [h]; simp only [List.length_cons]; omega
        · have := spl_sub c s w (by rw [hs]; exact List.mem_cons_of_mem _ h); simp only [List.length_cons]; omega
theorem splitK_spl (c : UInt8) : ∀ (k : Nat) (s : List UInt8), (spl c s).length ≤ k + 1 → Lib.splitK [c] 0 k s = spl c s := by
  intro k
  induction k with
  | zero =>
    intro s h
    by_cases hc : c ∈ s
    · obtain ⟨x, t, rfl, hx⟩ := first_occ c s hc
      rw [spl_app c x t hx] at h
      have := spl_pos c t
      simp only [List.length_cons] at h
      omega
    · rw [split_none c s _ hc, spl_none c s hc]
  | succ k ih =>
    intro s h
    by_cases hc : c ∈ s
    · obtain ⟨x, t, rfl, hx⟩ := first_occ c s hc
      rw [spl_app c x t hx] at h ⊢
      simp only [List.length_cons] at h
      unfold Lib.splitK
      rw [index_at c x t hx, if_neg (by simp <;> omega)]
      simp only [Int.toNat_natCast, Nat.add_zero, List.take_left, List.length_cons, List.length_nil, Nat.zero_add]
      rw [show x.length + 1 = (x ++ [c]).length by simp, show x ++ c :: t = (x ++ [c]) ++ t by simp, List.drop_left, ih t (by omega)]
    · rw [split_none c s _ hc, spl_none c s hc]
theorem splitK_long (c : UInt8) : ∀ (k : Nat) (s : List UInt8), k + 1 < (spl c s).length → (Lib.splitK [c] 0 k s).length = k + 1 ∧ ∃ w ∈ Lib.splitK [c] 0 k s, c ∈ w := by
  intro k
  induction k with
  | zero =>
    intro s h
    refine ⟨rfl, s, List.mem_cons_self .., ?_⟩
    refine Classical.byContradiction fun hc => ?_
    rw [spl_none c s hc] at h
    simp at h
  | succ k ih =>
    intro s h
    have hc : c ∈ s := Classical.byContradiction fun hc => by rw [spl_none c s hc] at h; simp at h
    obtain ⟨x, t, rfl, hx⟩ := first_occ c s hc
    rw [spl_app c x t hx] at h
    simp only [List.length_cons] at h
    have e : Lib.splitK [c] 0 (k + 1) (x ++ c :: t) = x :: Lib.splitK [c] 0 k t := by
      conv => lhs; unfold Lib.splitK
      rw [index_at c x t hx, if_neg (by simp <;> omega)]
      simp only [Int.toNat_natCast, Nat.add_zero, List.take_left, List.length_cons, List.length_nil, Nat.zero_add]
      rw [show x.length + 1 = (x ++ [c]).length by simp, show x ++ c :: t = (x ++ [c]) ++ t by simp, List.drop_left]
    obtain ⟨h1, w, h2, h3⟩ := ih t (by omega)
    rw [e]
    exact ⟨by simp only [List.length_cons]; omega, w, List.mem_cons_of_mem _ h2, h3⟩
theorem p4_eq (s : List UInt8) : p4 s = if (spl 46 s).length = 4 then qsGo (spl 46 s) [] else none := by
  have hl := spl_len 46 s
  unfold p4
  by_cases h : (spl 46 s).length ≤ (min 5 (s.length + 1) - 1) + 1
  · rw [splitK_spl 46 _ s h]
  · have := (splitK_long 46 (min 5 (s.length + 1) - 1) s (by omega)).1
    rw [if_neg (by omega), if_neg (by omega)]
theorem hexGo_bad (c : UInt8) (hc : hexv c.toNat = none) : ∀ (l : List UInt8) (i n : Nat), c ∈ l → hexGo l i n = none
  | [], i, n, h => by simp at h
  | b :: l, i, n, h => by
    unfold hexGo
    rcases List.mem_cons.1 h with h | h
    · rw [← h, hc]
    · cases hexv b.toNat with
      | none => rfl
      | some d =>
        simp only
        split
        · rfl
        · exact hexGo_bad c hc l _ _ h
theorem grp_bad (c : UInt8) (hc : hexv c.toNat = none) (l : List UInt8) (h : c ∈ l) : (grp l).2 = false := by
  unfold grp
  split
  · rfl
  · rw [hexGo_bad c hc l 0 0 h]; rfl
theorem gsGo_bad : ∀ (l : List (List UInt8)) (acc : List Int), (∃ w ∈ l, (grp w).2 = false) → gsGo l acc = none
  | [], _, h => by obtain ⟨w, h, _⟩ := h; simp at h
  | x :: xs, acc, h => by
    obtain ⟨w, h1, h2⟩ := h
    unfold gsGo
    rcases List.mem_cons.1 h1 with h1 | h1
    · rw [← h1, h2]; rfl
    · split
      · exact gsGo_bad xs _ ⟨w, h1, h2⟩
      · rfl
theorem gsGo_len : ∀ (l : List (List UInt8)) (acc r : List Int), gsGo l acc = some r → r.length = acc.length + 2 * l.length
  | [], acc, r, h => by simp [gsGo] at h; simp [h]
  | x :: xs, acc, r, h => by
    unfold gsGo at h
    split at h
    · have := gsGo_len xs _ r h
      simp only [List.length_append, List.length_cons, List.length_nil] at this ⊢
      omega
    · cases h
theorem gsGo_bytes : ∀ (l : List (List UInt8)) (acc r : List Int), M.Bytes acc → gsGo l acc = some r → M.Bytes r
  | [], acc, r, ha, h => by simp [gsGo] at h; rw [← h]; exact ha
  | x :: xs, acc, r, ha, h => by
    unfold gsGo at h
    split at h
    · refine gsGo_bytes xs _ r (ha.app fun z hz => ?_) h
      have := grp_bd x
      simp at hz
      omega
    · cases h
theorem numGo_bad (most : Nat) (c : UInt8) (hc : c.toNat < 48 ∨ 57 < c.toNat) : ∀ (l : List UInt8) (n : Nat) (b : Bool), c ∈ l → numGo most l n b = none
  | [], n, b, h => by simp at h
  | x :: l, n, b, h => by
    unfold numGo
    rcases List.mem_cons.1 h with h | h
    · rw [← h, if_pos (by omega)]
    · split
      · rfl
      · split
        · rfl
        · exact numGo_bad most c hc l _ _ h
theorem num_bad (most : Nat) (c : UInt8) (hc : c.toNat < 48 ∨ 57 < c.toNat) (l : List UInt8) (h : c ∈ l) : num most l = (0, false) := by
  unfold num
  split
  · rfl
  · rw [numGo_bad most c hc l 0 false h]; rfl
theorem qsGo_bad : ∀ (l : List (List UInt8)) (acc : List Int), (∃ w ∈ l, (num 255 w).2 = false) → qsGo l acc = none
  | [], _, h => by obtain ⟨w, h, _⟩ := h; simp at h
  | x :: xs, acc, h => by
    obtain ⟨w, h1, h2⟩ := h
    unfold qsGo
    rcases List.mem_cons.1 h1 with h1 | h1
    · rw [← h1, h2]; rfl
    · split
      · exact qsGo_bad xs _ ⟨w, h1, h2⟩
      · rfl
theorem qsGo_len : ∀ (l : List (List UInt8)) (acc r : List Int), qsGo l acc = some r → r.length = acc.length + l.length
  | [], acc, r, h => by simp [qsGo] at h; simp [h]
  | x :: xs, acc, r, h => by
    unfold qsGo at h
    split at h
    · have := qsGo_len xs _ r h
      simp only [List.length_append, List.length_cons, List.length_nil] at this ⊢
      omega
    · cases h
theorem qsGo_bytes : ∀ (l : List (List UInt8)) (acc r : List Int), M.Bytes acc → qsGo l acc = some r → M.Bytes r
  | [], acc, r, ha, h => by simp [qsGo] at h; rw [← h]; exact ha
  | x :: xs, acc, r, ha, h => by
    unfold qsGo at h
    split at h
    · refine qsGo_bytes xs _ r (ha.app fun z hz => ?_) h
      have := num_bd 255 x
      simp at hz
      omega
    · cases h
/-- The groups of a text, as the document reads them. -/
def rgs (s : List UInt8) : Option (List Int) := if s = [] then some [] else gsGo (spl 58 s) []
theorem gs_rgs (s : List UInt8) : gs s = rgs s ∨ (gs s = none ∧ ∀ l, rgs s = some l → 18 < l.length) := by
  have hl := spl_len 58 s
  unfold gs rgs
  by_cases h0 : s = []
  · left; rw [if_pos h0, if_pos h0]
  · rw [if_neg h0, if_neg h0]
    by_cases h : (spl 58 s).length ≤ (min 9 (s.length + 1) - 1) + 1
    · left; rw [splitK_spl 58 _ s h]
    · right
      obtain ⟨h1, w, h2, h3⟩ := splitK_long 58 (min 9 (s.length + 1) - 1) s (by omega)
      refine ⟨gsGo_bad _ _ ⟨w, h2, grp_bad 58 (by decide) w h3⟩, fun l hl' => ?_⟩
      have := gsGo_len _ _ _ hl'
      simp only [List.length_nil] at this
      omega
theorem rgs_even (s : List UInt8) (l : List Int) (h : rgs s = some l) : l.length % 2 = 0 := by
  unfold rgs at h
  split at h
  · simp at h; rw [h]; rfl
  · have := gsGo_len _ _ _ h; simp only [List.length_nil] at this; omega
theorem rgs_bytes (s : List UInt8) (l : List Int) (h : rgs s = some l) : M.Bytes l := by
  unfold rgs at h
  split at h
  · simp at h; rw [h]; exact M.Bytes.nil
  · exact gsGo_bytes _ _ _ M.Bytes.nil h
/-- An address of family 6. -/
def r6 (s : List UInt8) : Option (List Int) :=
  if (Lib.cut s [58, 58]).2.2 = true then
    match rgs (Lib.cut s [58, 58]).1, rgs (Lib.cut s [58, 58]).2.1 with
    | some a, some b => if 14 < a.length + b.length then none else some (a ++ List.replicate (16 - (a.length + b.length)) 0 ++ b)
    | _, _ => none
  else match rgs s with
    | some a => if a.length = 16 then some a else none
    | none => none
theorem r6_eq (s : List UInt8) : r6 s = p6 s := by
  unfold r6 p6
  have hc : (Lib.cut s [58, 58]).2.2 = true ∨ ((Lib.cut s [58, 58]).2.2 = false ∧ (Lib.cut s [58, 58]).1 = s ∧ (Lib.cut s [58, 58]).2.1 = []) := by
    unfold Lib.cut
    split
    · exact .inl rfl
    · exact .inr ⟨rfl, rfl, rfl⟩
  generalize Lib.cut s [58, 58] = C at *
  obtain ⟨ah, be, ok⟩ := C
  simp only at hc ⊢
  have small : ∀ s l, gs s = some l → rgs s = some l := fun s l h => by
    rcases gs_rgs s with e | ⟨e, _⟩
    · rw [← e]; exact h
    · rw [e] at h; cases h
  have big : ∀ s, gs s = none → rgs s = none ∨ ∃ l, rgs s = some l ∧ 18 < l.length := fun s h => by
    rcases gs_rgs s with e | ⟨_, e⟩
    · left; rw [← e]; exact h
    · cases hr : rgs s with
      | none => exact .inl rfl
      | some l => exact .inr ⟨l, rfl, e l hr⟩
  rcases hc with rfl | ⟨rfl, rfl, rfl⟩
  · rw [if_pos rfl]
    cases h1 : gs ah with
    | none =>
      simp only
      rcases big ah h1 with e | ⟨l, e, hl⟩
      · rw [e]
      · rw [e]
        cases rgs be with
        | none => rfl
        | some b => simp only; rw [if_pos (by omega)]
    | some a =>
      rw [small ah a h1]
      cases h2 : gs be with
      | none =>
        simp only
        rcases big be h2 with e | ⟨l, e, hl⟩
        · rw [e]
        · rw [e]; simp only; rw [if_pos (by omega)]
      | some b =>
        rw [small be b h2]
        have ea := rgs_even ah a (small ah a h1)
        have eb := rgs_even be b (small be b h2)
        simp only
        by_cases h : 14 < a.length + b.length
        · rw [if_pos h, if_pos]
          by_cases h16 : 16 < a.length + b.length
          · exact .inl h16
          · right
            have : ¬ a.length + b.length < 16 := by omega
            simp [this]
        · rw [if_neg h, if_neg]
          · rw [Nat.sub_sub]
          · have : a.length + b.length < 16 := by omega
            simp [this]
            omega
  · rw [if_neg (by decide)]
    have e0 : gs [] = some [] := rfl
    rw [e0]
    cases h1 : gs ah with
    | none =>
      simp only
      rcases big ah h1 with e | ⟨l, e, hl⟩
      · rw [e]
      · rw [e]; simp only; rw [if_neg (by omega)]
    | some a =>
      rw [small ah a h1]
      simp only [List.length_nil, Nat.add_zero, List.append_nil]
      by_cases h : a.length = 16
      · rw [if_pos h, if_neg (by rw [h]; simp), h]
        simp
      · rw [if_neg h, if_pos]
        by_cases h16 : 16 < a.length
        · exact .inl h16
        · right
          have : a.length < 16 := by omega
          simp [this]
/-- The address of a text, as the document reads it. -/
def rp (s : List UInt8) : Ad × Int :=
  match (if 58 ∈ s then r6 s else if (spl 46 s).length = 4 then qsGo (spl 46 s) [] else none) with
  | some b => fromB b
  | none => (⟨0, 0, 0⟩, 1)
theorem rp_eq (s : List UInt8) : rp s = parseB s := by
  unfold rp parseB
  by_cases h : (58 : UInt8) ∈ s
  · rw [if_pos h, r6_eq]
    have e : p4 s = none := by
      rw [p4_eq]
      split
      · obtain ⟨w, h1, h2⟩ := spl_mem 46 58 (by decide) s h
        exact qsGo_bad _ _ ⟨w, h1, by rw [num_bad 255 58 (by decide) w h2]⟩
      · rfl
    rw [e]
    rfl
  · rw [if_neg h, ← p4_eq]
    have e : p6 s = none := by
      rw [← r6_eq]
      unfold r6
      have hc : (Lib.cut s [58, 58]).2.2 = false := by
        unfold Lib.cut
        rw [if_neg]
        intro h0
        rcases Lib.index_spec s [58, 58] with ⟨h1, _⟩ | ⟨i, h1, h2, h3, _⟩
        · omega
        · refine h ?_
          have h4 : List.isPrefixOf [58, 58] (s.drop i) = true := h3
          cases hd : s.drop i with
          | nil => rw [hd] at h4; simp [List.isPrefixOf] at h4
          | cons b l =>
            rw [hd] at h4
            have : (58 : UInt8) = b := by
              cases l with
              | nil => simp [List.isPrefixOf] at h4
              | cons _ _ => simp [List.isPrefixOf] at h4; exact h4.1
            rw [this]
            exact List.mem_of_mem_drop (i := i) (by rw [hd]; exact List.mem_cons_self ..)
      rw [if_neg (by rw [hc]; decide)]
      cases hr : rgs s with
      | none => rfl
      | some a =>
        simp only
        rw [if_neg]
        unfold rgs at hr
        split at hr
        · simp at hr; rw [hr]; decide
        · rw [spl_none 58 s h] at hr
          have := gsGo_len _ _ _ hr
          simp only [List.length_nil, List.length_cons] at this
          omega
    rw [e]
    cases p4 s <;> rfl
end Go.Proofs.YtnadfacbfcdkgaaDoor
