/- Texts joined: TuT -/
import Derived.Test.YtjdapofjlbifjaaDoorTpa26
namespace Go.Proofs.YtjdapofjlbifjaaDoor
open Go.RowKit
set_option linter.unusedVariables false
set_option linter.unusedSimpArgs false
/-- The text of an end. -/
def sideT (a : Ad) (p : Int) : List UInt8 := (if a.fam = 6 then [91] ++ a.text ++ [93] else a.text) ++ [58] ++ Lib.itoa p
def Wy.text (t : Wy) : List UInt8 := if t.right = true then nameB t.fam t.pr ++ [32] ++ sideT t.s t.sp ++ [32, 62, 32] ++ sideT t.d t.dp else []
theorem digits_chars : ∀ (u : Nat), ∀ c ∈ Lib.decDigits u, 48 ≤ c.toNat ∧ c.toNat ≤ 57 := by
  intro u
  induction u using Nat.strongRecOn with
  | ind u ih =>
    intro c hc
    rw [Lib.decDigits] at hc
    by_cases h : u < 10
    · rw [dif_pos h] at hc
      obtain rfl : c = UInt8.ofNat (48 + u) := by simpa using hc
      rw [digit_val u h]; omega
    · rw [dif_neg h] at hc
      rcases List.mem_append.1 hc with hc | hc
      · exact ih (u / 10) (by omega) c hc
      · obtain rfl : c = UInt8.ofNat (48 + u % 10) := by simpa using hc
        rw [digit_val _ (by omega)]; omega
def valD (l : List UInt8) : Nat := l.foldl (fun n c => n * 10 + (c.toNat - 48)) 0
theorem digits_val : ∀ (u : Nat), valD (Lib.decDigits u) = u := by
  intro u
  induction u using Nat.strongRecOn with
  | ind u ih =>
    rw [Lib.decDigits]
    by_cases h : u < 10
    · rw [dif_pos h]
      simp only [valD, List.foldl_cons, List.foldl_nil]
      rw [digit_val u h]; omega
    · rw [dif_neg h]
      unfold valD
      rw [List.foldl_append]
      have := ih (u / 10) (by omega)
      unfold valD at this
      rw [this]
      simp only [List.foldl_cons, List.foldl_nil]
      rw [digit_val _ (by omega)]; omega
theorem itoa_chars {p : Int} (h : 0 ≤ p) : ∀ c ∈ Lib.itoa p, 48 ≤ c.toNat ∧ c.toNat ≤ 57 := by
  obtain ⟨u, rfl⟩ := Int.eq_ofNat_of_zero_le h
  rw [Lib.itoa_nonneg]
  exact digits_chars u
theorem itoa_inj {p q : Int} (h : 0 ≤ p) (h' : 0 ≤ q) (e : Lib.itoa p = Lib.itoa q) : p = q := by
  obtain ⟨u, rfl⟩ := Int.eq_ofNat_of_zero_le h
  obtain ⟨v, rfl⟩ := Int.eq_ofNat_of_zero_le h'
  rw [Lib.itoa_nonneg, Lib.itoa_nonneg] at e
  have := congrArg valD e
  rw [digits_val, digits_val] at this
  rw [this]
/-- What stands ahead of the first of a sign is told by the whole. -/
theorem cut_first (c : UInt8) : ∀ (x y u v : List UInt8), c ∉ x → c ∉ u → x ++ c :: y = u ++ c :: v → x = u ∧ y = v
  | [], y, [], v, _, _, h => by simpa using h
  | [], y, a :: u, v, _, hu, h => by
    have : c = a := by simpa using congrArg List.head? h
    exact absurd (by rw [this]; exact List.mem_cons_self ..) hu
  | a :: x, y, [], v, hx, _, h => by
    have : a = c := by simpa using congrArg List.head? h
    exact absurd (by rw [this]; exact List.mem_cons_self ..) hx
  | a :: x, y, b :: u, v, hx, hu, h => by
    have h' := List.cons.inj h
    have := cut_first c x y u v (fun e => hx (List.mem_cons_of_mem _ e)) (fun e => hu (List.mem_cons_of_mem _ e)) h'.2
    rw [h'.1, this.1, this.2]
    exact ⟨rfl, rfl⟩
/-- What stands behind the last of a sign is told by the whole. -/
theorem cut_last (c : UInt8) (x y u v : List UInt8) (hy : c ∉ y) (hv : c ∉ v) (h : x ++ c :: y = u ++ c :: v) : x = u ∧ y = v := by
  have h' := congrArg List.reverse h
  simp only [List.reverse_append, List.reverse_cons, List.append_assoc, List.singleton_append] at h'
  have := cut_first c y.reverse x.reverse v.reverse u.reverse (by simpa using hy) (by simpa using hv) h'
  exact ⟨List.reverse_inj.1 this.2, List.reverse_inj.1 this.1⟩
/-- The signs of an address's text. -/
def okC (c : UInt8) : Prop := ¬ c = 32 ∧ ¬ c = 91
theorem hexd_ok : ∀ d : Fin 16, ¬ hexd d.val = 32 ∧ ¬ hexd d.val = 91 := by decide
theorem hexS_ok (U : Nat) : ∀ c ∈ hexS U, okC c := fun c hc => by
  rw [hexS_eq] at hc
  obtain ⟨t, _, rfl⟩ := List.mem_map.1 hc
  exact hexd_ok ⟨U / 16 ^ (nd U - 1 - t) % 16, Nat.mod_lt _ (by omega)⟩
theorem text6_ok (b : List Int) (h16 : b.length = 16) : ∀ c ∈ text6 b, okC c := by
  have hj : ∀ xs : List ByteArray, (∀ x ∈ xs, x ∈ words b) → ∀ c ∈ joinW xs, okC c := fun xs hx c hm => by
    rcases mem_join 58 c _ hm with h | ⟨w, hw, h⟩
    · rw [h]; exact ⟨by decide, by decide⟩
    · obtain ⟨x, hxs, rfl⟩ := List.mem_map.1 hw
      have := hx x hxs
      rw [words_eq h16] at this
      obtain ⟨u, _, rfl⟩ := List.mem_map.1 this
      exact hexS_ok u c h
  intro c hm
  unfold text6 at hm
  split at hm
  · exact hj _ (fun x hx => hx) c hm
  · rcases List.mem_append.1 hm with hm | hm
    · rcases List.mem_append.1 hm with hm | hm
      · exact hj _ (fun x hx => List.mem_of_mem_take hx) c hm
      · simp at hm
        rw [hm]; exact ⟨by decide, by decide⟩
    · exact hj _ (fun x hx => List.mem_of_mem_drop hx) c hm
theorem dig_ok {c : UInt8} (h : 48 ≤ c.toNat ∧ c.toNat ≤ 57) : okC c :=
  ⟨fun e => by rw [e] at h; revert h; decide, fun e => by rw [e] at h; revert h; decide⟩
theorem text4_ok (b : List Int) (hb : M.Bytes b) : ∀ c ∈ text4 b, okC c := fun c hm => by
  unfold text4 at hm
  rcases mem_join 46 c _ hm with h | ⟨w, hw, h⟩
  · rw [h]; exact ⟨by decide, by decide⟩
  · obtain ⟨x, hx, rfl⟩ := List.mem_map.1 hw
    obtain ⟨y, hy, rfl⟩ := List.mem_map.1 hx
    exact dig_ok (dec_chars y (hb y hy).1 (hb y hy).2 c h)
theorem text_ok (a : Ad) : ∀ c ∈ a.text, okC c := by
  intro c hc
  unfold Ad.text at hc
  split at hc
  · next hr =>
    have hl := bytes_len a
    rw [if_pos hr] at hl
    split at hc
    · exact text4_ok _ (by unfold Ad.bytes; rw [if_pos hr]; exact bytesGo_bytes _ _ _) c hc
    · next hf => rw [if_neg hf] at hl; exact text6_ok _ hl c hc
  · simp at hc
theorem side_no32 {a : Ad} {p : Int} (h : 0 ≤ p) : (32 : UInt8) ∉ sideT a p := by
  intro hm
  have ht : (32 : UInt8) ∉ a.text := fun e => (text_ok a _ e).1 rfl
  have hi : (32 : UInt8) ∉ Lib.itoa p := fun e => (dig_ok (itoa_chars h _ e)).1 rfl
  unfold sideT at hm
  split at hm <;> simp [ht, hi] at hm
theorem itoa_no58 {p : Int} (h : 0 ≤ p) : (58 : UInt8) ∉ Lib.itoa p := fun e => by
  have := itoa_chars h _ e
  revert this; decide
theorem name_no32 (f p : Int) : (32 : UInt8) ∉ nameB f p := by
  unfold nameB; (repeat' split) <;> decide
theorem side_inj {a b : Ad} {p q : Int} (ha : a.ok) (hb : b.ok) (hra : a.right = true) (hrb : b.right = true) (hp : 0 ≤ p) (hq : 0 ≤ q) (h : sideT a p = sideT b q) : a = b ∧ p = q := by
  unfold sideT at h
  have e58 : ∀ (X D : List UInt8), X ++ [58] ++ D = X ++ 58 :: D := by simp
  rw [e58, e58] at h
  obtain ⟨h1, h2⟩ := cut_last 58 _ _ _ _ (itoa_no58 hp) (itoa_no58 hq) h
  refine ⟨?_, itoa_inj hp hq h2⟩
  by_cases h6 : a.fam = 6
  · by_cases h6' : b.fam = 6
    · rw [if_pos h6, if_pos h6'] at h1
      exact text_unlike ha hb hra hrb (by simpa using h1)
    · rw [if_pos h6, if_neg h6'] at h1
      exact absurd (show (91 : UInt8) ∈ b.text by rw [← h1]; simp) (fun e => (text_ok b _ e).2 rfl)
  · by_cases h6' : b.fam = 6
    · rw [if_neg h6, if_pos h6'] at h1
      exact absurd (show (91 : UInt8) ∈ a.text by rw [h1]; simp) (fun e => (text_ok a _ e).2 rfl)
    · rw [if_neg h6, if_neg h6'] at h1
      exact text_unlike ha hb hra hrb h1
theorem name_inj {f p q : Int} (hp : nameB f p ≠ []) (h : nameB f p = nameB f q) : p = q := by
  have hq : nameB f q ≠ [] := by rw [← h]; exact hp
  unfold nameB at h hp hq
  by_cases a1 : p = 6 <;> by_cases b1 : q = 6 <;> by_cases a2 : p = 17 <;> by_cases b2 : q = 17 <;> by_cases a3 : p = 1 ∧ f = 4 <;> by_cases b3 : q = 1 ∧ f = 4 <;> by_cases a4 : p = 58 ∧ f = 6 <;> by_cases b4 : q = 58 ∧ f = 6 <;> simp [a1, b1, a2, b2, a3, b3, a4, b4] at h hp hq <;> omega
/-- Unlike ways that may be have unlike texts. -/
theorem Wy.text_inj {a b : Wy} (ha : a.ok) (hb : b.ok) (hra : a.right = true) (hrb : b.right = true) (h : a.text = b.text) : a = b := by
  unfold Wy.text at h
  rw [if_pos hra, if_pos hrb] at h
  obtain ⟨a1, a2, a3⟩ := Wy.right_iff.1 hra
  obtain ⟨b1, b2, b3⟩ := Wy.right_iff.1 hrb
  have A1 := sideB_iff.1 a1
  have A2 := sideB_iff.1 a2
  have B1 := sideB_iff.1 b1
  have B2 := sideB_iff.1 b2
  simp only [List.append_assoc, List.singleton_append, List.cons_append, List.nil_append] at h
  obtain ⟨h1, h2⟩ := cut_first 32 _ _ _ _ (name_no32 _ _) (name_no32 _ _) h
  obtain ⟨h3, h4⟩ := cut_first 32 _ _ _ _ (side_no32 A1.2.2.1) (side_no32 B1.2.2.1) h2
  obtain ⟨e1, e2⟩ := side_inj ha.s hb.s A1.2.1 B1.2.1 A1.2.2.1 B1.2.2.1 h3
  obtain ⟨e3, e4⟩ := side_inj ha.d hb.d A2.2.1 B2.2.1 A2.2.2.1 B2.2.2.1 (by simpa using h4)
  have ef : a.fam = b.fam := by rw [← A1.1, ← B1.1, e1]
  rw [ef] at h1 a3
  have ep := name_inj a3 h1
  obtain ⟨_, _, _, _, _, _⟩ := a
  obtain ⟨_, _, _, _, _, _⟩ := b
  simp only at e1 e2 e3 e4 ef ep
  subst e1 e2 e3 e4 ef ep
  rfl
end Go.Proofs.YtjdapofjlbifjaaDoor
