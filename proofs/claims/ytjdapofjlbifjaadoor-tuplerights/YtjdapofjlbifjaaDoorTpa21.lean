/- Texts joined: Rd -/
import Derived.Test.YtjdapofjlbifjaaDoorTpa20
namespace Go.Proofs.YtjdapofjlbifjaaDoor
set_option linter.unusedVariables false
set_option linter.unusedSimpArgs false
theorem index_none (c : UInt8) : ∀ (x : List UInt8), c ∉ x → Lib.index x [c] = -1
  | [], _ => rfl
  | b :: l, h => by
    have h1 : ¬ c = b := fun e => h (by rw [e]; exact List.mem_cons_self ..)
    have ih := index_none c l (fun hm => h (List.mem_cons_of_mem _ hm))
    unfold Lib.index
    rw [if_neg (by simp [List.isPrefixOf, h1]), ih]
    rfl
theorem index_at (c : UInt8) : ∀ (x t : List UInt8), c ∉ x → Lib.index (x ++ c :: t) [c] = (x.length : Int)
  | [], t, _ => by
    show Lib.index (c :: t) [c] = 0
    unfold Lib.index
    rw [if_pos (by simp [List.isPrefixOf])]
  | b :: l, t, h => by
    have h1 : ¬ c = b := fun e => h (by rw [e]; exact List.mem_cons_self ..)
    have ih := index_at c l t (fun hm => h (List.mem_cons_of_mem _ hm))
    show Lib.index (b :: (l ++ c :: t)) [c] = _
    unfold Lib.index
    rw [if_neg (by simp [List.isPrefixOf, h1]), ih]
    rw [if_neg (by simp <;> omega)]
    simp
theorem join_two (c : UInt8) (x y : List UInt8) (r : List (List UInt8)) : Lib.join (x :: y :: r) [c] = x ++ c :: Lib.join (y :: r) [c] := by
  rw [Lib.join_cons, Lib.join_cons]
  simp [Lib.joinTail]
theorem join_len (c : UInt8) : ∀ (ws : List (List UInt8)), ws.length ≤ (Lib.join ws [c]).length + 1
  | [] => by simp
  | [x] => by simp
  | x :: y :: r => by
    have := join_len c (y :: r)
    rw [join_two]
    simp only [List.length_cons, List.length_append] at this ⊢
    omega
theorem split_join (c : UInt8) : ∀ (ws : List (List UInt8)) (k : Nat), ws ≠ [] → (∀ w ∈ ws, c ∉ w) → ws.length ≤ k + 1 → Lib.splitK [c] 0 k (Lib.join ws [c]) = ws
  | [], _, h, _, _ => absurd rfl h
  | [x], k, _, hc, _ => by
    rw [Lib.join_one]
    have hi := index_none c x (hc x (List.mem_cons_self ..))
    cases k with
    | zero => rfl
    | succ k => unfold Lib.splitK; rw [hi]; rfl
  | x :: y :: r, 0, _, _, hk => by simp at hk
  | x :: y :: r, k + 1, _, hc, hk => by
    have hi := index_at c x (Lib.join (y :: r) [c]) (hc x (List.mem_cons_self ..))
    have ih := split_join c (y :: r) k (by simp) (fun w hw => hc w (List.mem_cons_of_mem _ hw)) (by simp at hk ⊢; omega)
    rw [join_two]
    unfold Lib.splitK
    rw [hi, if_neg (by simp <;> omega)]
    simp only [Int.toNat_natCast, Nat.add_zero, List.take_left, List.length_cons, List.length_nil, Nat.zero_add]
    rw [show x.length + 1 = (x ++ [c]).length by simp, show x ++ c :: Lib.join (y :: r) [c] = (x ++ [c]) ++ Lib.join (y :: r) [c] by simp, List.drop_left, ih]
theorem split_none (c : UInt8) (s : List UInt8) (k : Nat) (h : c ∉ s) : Lib.splitK [c] 0 k s = [s] := by
  cases k with
  | zero => rfl
  | succ k => unfold Lib.splitK; rw [index_none c s h]; rfl
/-- Two colons in a row stand nowhere, and no colon at the end. -/
def noCC : List UInt8 → Bool
  | [] => true
  | [c] => c != 58
  | a :: b :: l => !(a == 58 && b == 58) && noCC (b :: l)
theorem index_cc : ∀ (u v : List UInt8), noCC u = true → Lib.index (u ++ 58 :: 58 :: v) [58, 58] = (u.length : Int)
  | [], v, _ => by
    show Lib.index (58 :: 58 :: v) [58, 58] = 0
    unfold Lib.index
    rw [if_pos (by simp [List.isPrefixOf])]
  | [a], v, h => by
    have h1 : ¬ a = 58 := by simpa [noCC] using h
    have ih := index_cc [] v rfl
    show Lib.index (a :: 58 :: 58 :: v) [58, 58] = 1
    unfold Lib.index
    have ih' : Lib.index (58 :: 58 :: v) [58, 58] = 0 := ih
    have h1' : ¬ (58 : UInt8) = a := fun e => h1 e.symm
    rw [if_neg (by simp [List.isPrefixOf, h1']), ih']
    rfl
  | a :: b :: l, v, h => by
    simp only [noCC, Bool.and_eq_true, Bool.not_eq_true', Bool.and_eq_false_iff, beq_eq_false_iff_ne] at h
    have ih := index_cc (b :: l) v h.2
    show Lib.index (a :: (b :: l ++ 58 :: 58 :: v)) [58, 58] = _
    unfold Lib.index
    rw [if_neg, ih, if_neg (by simp <;> omega)]
    · simp
    · simp only [List.cons_append, List.isPrefixOf, Bool.and_true, Bool.and_eq_true, beq_iff_eq, not_and]
      rintro rfl rfl
      rcases h.1 with h | h <;> exact h rfl
theorem index_nocc : ∀ (u : List UInt8), noCC u = true → Lib.index u [58, 58] = -1
  | [], _ => rfl
  | [a], h => by
    unfold Lib.index
    rw [if_neg (by simp [List.isPrefixOf])]
    rfl
  | a :: b :: l, h => by
    simp only [noCC, Bool.and_eq_true, Bool.not_eq_true', Bool.and_eq_false_iff, beq_eq_false_iff_ne] at h
    have ih := index_nocc (b :: l) h.2
    unfold Lib.index
    rw [if_neg, ih]
    · rfl
    · simp only [List.isPrefixOf, Bool.and_true, Bool.and_eq_true, beq_iff_eq, not_and]
      rintro rfl rfl
      rcases h.1 with h | h <;> exact h rfl
theorem nocc_word : ∀ (w : List UInt8), 58 ∉ w → noCC w = true
  | [], _ => rfl
  | [a], h => by
    have : ¬ 58 = a := by simpa using h
    simp [noCC]
    exact fun e => this e.symm
  | a :: b :: l, h => by
    have h1 : ¬ 58 = a := fun e => h (by rw [← e]; exact List.mem_cons_self ..)
    have ih := nocc_word (b :: l) (fun hm => h (List.mem_cons_of_mem _ hm))
    unfold noCC
    rw [ih]
    have h1' : ¬ a = 58 := fun e => h1 e.symm
    simp [h1']
theorem nocc_app : ∀ (w t : List UInt8), w ≠ [] → 58 ∉ w → noCC t = true → t ≠ [] → t.head? ≠ some 58 → noCC (w ++ 58 :: t) = true
  | [], _, h, _, _, _, _ => absurd rfl h
  | [a], t, _, h, ht, hne, hh => by
    have h1 : ¬ 58 = a := by simpa using h
    cases t with
    | nil => exact absurd rfl hne
    | cons b t =>
      have hb : ¬ b = 58 := by simpa using hh
      show noCC (a :: 58 :: b :: t) = true
      unfold noCC
      unfold noCC
      rw [ht]
      simp [hb]
      exact fun e => h1 e.symm
  | a :: b :: l, t, _, h, ht, hne, hh => by
    have h1 : ¬ 58 = a := fun e => h (by rw [← e]; exact List.mem_cons_self ..)
    have ih := nocc_app (b :: l) t (by simp) (fun hm => h (List.mem_cons_of_mem _ hm)) ht hne hh
    show noCC (a :: b :: (l ++ 58 :: t)) = true
    unfold noCC
    have ih' : noCC (b :: (l ++ 58 :: t)) = true := ih
    rw [ih']
    have h1' : ¬ a = 58 := fun e => h1 e.symm
    simp [h1']
theorem nocc_join : ∀ (ws : List (List UInt8)), (∀ w ∈ ws, w ≠ [] ∧ 58 ∉ w) → noCC (Lib.join ws [58]) = true
  | [], _ => rfl
  | [x], h => by rw [Lib.join_one]; exact nocc_word x (h x (List.mem_cons_self ..)).2
  | x :: y :: r, h => by
    have hx := h x (List.mem_cons_self ..)
    have hy := h y (List.mem_cons_of_mem _ (List.mem_cons_self ..))
    have ih := nocc_join (y :: r) (fun w hw => h w (List.mem_cons_of_mem _ hw))
    rw [join_two]
    have hhd : ∃ b t, Lib.join (y :: r) [58] = b :: t ∧ b ≠ 58 := by
      rw [Lib.join_cons]
      cases y with
      | nil => exact absurd rfl hy.1
      | cons b y => exact ⟨b, y ++ Lib.joinTail [58] r, rfl, fun e => hy.2 (by rw [e]; exact List.mem_cons_self ..)⟩
    obtain ⟨b, t, e, hb⟩ := hhd
    refine nocc_app x _ hx.1 hx.2 ih (by rw [e]; simp) (by rw [e]; simpa using hb)
/-- A number's decimal digits are read as that number. -/
theorem digit_val (d : Nat) (h : d < 10) : (UInt8.ofNat (48 + d)).toNat = 48 + d := by
  rw [UInt8.toNat_ofNat']; omega
theorem num_dec (x : Int) (h0 : 0 ≤ x) (h1 : x ≤ 255) : num 255 (Lib.itoa x) = (x, true) := by
  obtain ⟨u, rfl⟩ := Int.eq_ofNat_of_zero_le h0
  rw [Lib.itoa_nonneg]
  by_cases ha : u < 10
  · rw [Lib.decDigits_one ha]
    have e := digit_val u ha
    unfold num
    rw [if_neg (by simp)]
    unfold numGo
    rw [e, if_neg (by simp; omega), if_neg (by omega)]
    simp [numGo, tell]
  · by_cases hb : u < 100
    · rw [Lib.decDigits_two ha hb]
      have e := digit_val (u / 10) (by omega)
      have e' := digit_val (u % 10) (by omega)
      unfold num
      rw [if_neg (by simp)]
      unfold numGo
      rw [e, if_neg (by simp; omega), if_neg (by omega)]
      unfold numGo
      rw [e', if_neg (by simp; omega), if_neg (by omega)]
      simp [numGo, tell]
      omega
    · rw [Lib.decDigits, dif_neg ha, Lib.decDigits_two (i := u / 10) (by omega) (by omega)]
      have e := digit_val (u / 10 / 10) (by omega)
      have e' := digit_val (u / 10 % 10) (by omega)
      have e'' := digit_val (u % 10) (by omega)
      show num 255 [_, _, _] = _
      unfold num
      rw [if_neg (by simp)]
      unfold numGo
      rw [e, if_neg (by simp; omega), if_neg (by omega)]
      unfold numGo
      rw [e', if_neg (by simp; omega), if_neg (by omega)]
      unfold numGo
      rw [e'', if_neg (by simp; omega), if_neg (by omega)]
      simp [numGo, tell]
      omega
theorem dec_chars (x : Int) (h0 : 0 ≤ x) (h1 : x ≤ 255) : ∀ c ∈ Lib.itoa x, 48 ≤ c.toNat ∧ c.toNat ≤ 57 := by
  obtain ⟨u, rfl⟩ := Int.eq_ofNat_of_zero_le h0
  rw [Lib.itoa_nonneg]
  intro c hc
  have key : ∀ d, d < 10 → c = UInt8.ofNat (48 + d) → 48 ≤ c.toNat ∧ c.toNat ≤ 57 := fun d hd e => by rw [e, digit_val d hd]; omega
  by_cases ha : u < 10
  · rw [Lib.decDigits_one ha] at hc
    simp only [List.mem_cons, List.mem_nil_iff, or_false] at hc
    exact key u ha hc
  · by_cases hb : u < 100
    · rw [Lib.decDigits_two ha hb] at hc
      simp only [List.mem_cons, List.mem_nil_iff, or_false] at hc
      rcases hc with hc | hc
      · exact key _ (by omega) hc
      · exact key _ (by omega) hc
    · rw [Lib.decDigits, dif_neg ha, Lib.decDigits_two (i := u / 10) (by omega) (by omega)] at hc
      simp only [List.cons_append, List.nil_append, List.mem_cons, List.mem_nil_iff, or_false] at hc
      rcases hc with hc | hc | hc
      · exact key _ (by omega) hc
      · exact key _ (by omega) hc
      · exact key _ (by omega) hc
theorem qs_dec : ∀ (b acc : List Int), M.Bytes b → qsGo (b.map fun x => Lib.itoa x) acc = some (acc ++ b)
  | [], acc, _ => by simp [qsGo]
  | x :: b, acc, h => by
    have hx := h x (List.mem_cons_self ..)
    rw [List.map_cons]
    unfold qsGo
    rw [num_dec x hx.1 hx.2, if_pos rfl, qs_dec b (acc ++ [x]) (fun y hy => h y (List.mem_cons_of_mem _ hy))]
    simp
/-- Four bytes' text is read as those bytes. -/
theorem p4_text4 (b : List Int) (hb : M.Bytes b) (h4 : b.length = 4) : p4 (text4 b) = some b := by
  have hw : (words4 b).map (·.data.toList) = b.map fun x => Lib.itoa x := by
    unfold words4
    rw [List.map_map]
    rfl
  have hlen := join_len 46 (b.map fun x => Lib.itoa x)
  rw [List.length_map, h4] at hlen
  have hs := split_join 46 (b.map fun x => Lib.itoa x) (min 5 ((Lib.join (b.map fun x => Lib.itoa x) [46]).length + 1) - 1)
    (by intro e; have := congrArg List.length e; simp [h4] at this)
    (fun w hw => by
      obtain ⟨x, hx, rfl⟩ := List.mem_map.1 hw
      intro hm
      have := dec_chars x (hb x hx).1 (hb x hx).2 46 hm
      have e : (46 : UInt8).toNat = 46 := rfl
      omega)
    (by rw [List.length_map, h4]; omega)
  unfold p4 text4
  rw [hw, hs, if_pos (by rw [List.length_map]; exact h4), qs_dec b [] hb]
  rfl
end Go.Proofs.YtjdapofjlbifjaaDoor
