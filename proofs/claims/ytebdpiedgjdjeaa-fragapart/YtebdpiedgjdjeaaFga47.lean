/- Texts joined: FiL -/
import Derived.Test.YtebdpiedgjdjeaaFga36
import Derived.Test.YtebdpiedgjdjeaaFga46
namespace Go.Proofs.Ytebdpiedgjdjeaa
open Go.RowKit
set_option linter.unusedVariables false
set_option linter.unusedSimpArgs false
/-- Where data of N bytes are cut: the place, the length, and whether more comes. -/
def cutL (N : Nat) : List Int → Nat → List (Nat × Nat × Bool)
  | [], k => [(k, N - k, false)]
  | c :: r, k => if N ≤ k + 8 * ((c % 4).toNat + 1) then [(k, N - k, false)] else (k, 8 * ((c % 4).toNat + 1), true) :: cutL N r (k + 8 * ((c % 4).toNat + 1))
/-- A fragment of the law's own. -/
abbrev pkL (data : List Int) (X : List Int) (x : Nat × Nat × Bool) : Pkt := ⟨4, ⟨4, 0, 1⟩, ⟨4, 0, 2⟩, 17, 5, true, 9, (x.1 : Int), x.2.2, X, (data.drop x.1).take x.2.1⟩
structure CutOk (N : Nat) (k : Nat) (M : List (Nat × Nat × Bool)) : Prop where
  each : ∀ x ∈ M, k ≤ x.1 ∧ x.1 % 8 = 0 ∧ 1 ≤ x.2.1 ∧ x.1 + x.2.1 ≤ N ∧ (x.2.2 = true → x.2.1 % 8 = 0) ∧ (x.2.2 = false → x.1 + x.2.1 = N)
  pair : M.Pairwise fun x y => x.1 + x.2.1 ≤ y.1 ∧ x.2.2 = true
  sum : (M.map fun x => x.2.1).sum + k = N
  last : ∃ x ∈ M, x.2.2 = false
theorem cut_ok (N : Nat) : ∀ (cuts : List Int) (k : Nat), k < N → k % 8 = 0 → CutOk N k (cutL N cuts k)
  | [], k, h, h8 => by
    unfold cutL
    refine ⟨fun x hx => ?_, List.pairwise_singleton _ _, by simp; omega, ⟨_, List.mem_singleton.2 rfl, rfl⟩⟩
    obtain rfl := List.mem_singleton.1 hx
    simp; omega
  | c :: r, k, h, h8 => by
    unfold cutL
    split
    · refine ⟨fun x hx => ?_, List.pairwise_singleton _ _, by simp; omega, ⟨_, List.mem_singleton.2 rfl, rfl⟩⟩
      obtain rfl := List.mem_singleton.1 hx
      simp; omega
    · rename_i hn
      have ih := cut_ok N r (k + 8 * ((c % 4).toNat + 1)) (by omega) (by omega)
      refine ⟨fun x hx => ?_, List.pairwise_cons.2 ⟨fun y hy => ⟨(ih.each y hy).1, rfl⟩, ih.pair⟩, ?_, ?_⟩
      · rcases List.mem_cons.1 hx with rfl | hx
        · simp; omega
        · have := ih.each x hx
          refine ⟨by omega, this.2⟩
      · have := ih.sum
        simp only [List.map_cons, List.sum_cons]
        omega
      · obtain ⟨x, h1, h2⟩ := ih.last
        exact ⟨x, List.mem_cons_of_mem _ h1, h2⟩
theorem pkL_len {data X : List Int} {x : Nat × Nat × Bool} (h : x.1 + x.2.1 ≤ data.length) : (pkL data X x).dat.length = x.2.1 := by
  simp; omega
theorem pkL_one {data X : List Int} {x : Nat × Nat × Bool} (hl : data.length ≤ 1000) (h8 : x.1 % 8 = 0) (h1 : 1 ≤ x.2.1) (h2 : x.1 + x.2.1 ≤ data.length) (hm : x.2.2 = true → x.2.1 % 8 = 0) (hn : x.2.2 = false → x.1 + x.2.1 = data.length) : OneOf data KN (pkL data X x) := by
  have hlen := pkL_len (X := X) h2
  refine ⟨rfl, ?_, rfl, ?_, ?_, fun h => ?_⟩
  · unfold wrongP wrongF
    rw [hlen]
    have c1 : ¬ (((Ad.right (pkL data X x).s && ((pkL data X x).s.fam == (pkL data X x).f)) = false) ∨ ((Ad.right (pkL data X x).d && ((pkL data X x).d.fam == (pkL data X x).f)) = false)) := by
      show ¬ (((Ad.right ⟨4, 0, 1⟩ && ((4 : Int) == 4)) = false) ∨ ((Ad.right ⟨4, 0, 2⟩ && ((4 : Int) == 4)) = false))
      decide
    rw [if_neg c1, if_neg (by simp only; omega), if_neg]
    rintro (h | ⟨h, h'⟩)
    · omega
    · exact h' (hm h)
  · rw [hlen]
    simp
  · rw [hlen]
    simp only
    omega
  · rw [hlen]
    have := hn h
    simp only
    omega
theorem part_cut {data X : List Int} (hl : data.length ≤ 1000) (h0 : 0 < data.length) (cuts : List Int) : Part data KN ((cutL data.length cuts 0).map (pkL data X)) := by
  have C := cut_ok data.length cuts 0 h0 rfl
  refine ⟨fun p hp => ?_, ?_, ?_, ?_⟩
  · obtain ⟨x, hx, rfl⟩ := List.mem_map.1 hp
    obtain ⟨_, h2, h3, h4, h5, h6⟩ := C.each x hx
    exact pkL_one hl h2 h3 h4 h5 h6
  · refine List.pairwise_map.2 (C.pair.imp_of_mem fun {x y} hx hy h => ⟨.inl ?_, .inl h.2⟩)
    have h4 := (C.each x hx).2.2.2.1
    have := pkL_len (X := X) h4
    have h5 := h.1
    simp only [pcP, this]
    omega
  · have : ∀ M : List (Nat × Nat × Bool), (∀ x ∈ M, x.1 + x.2.1 ≤ data.length) → sumA ((M.map (pkL data X)).map pcP) = ((M.map fun x => x.2.1).sum : Nat) := by
      intro M
      induction M with
      | nil => intro _; rfl
      | cons x r ih =>
        intro h
        have h1 := ih (fun y hy => h y (List.mem_cons_of_mem _ hy))
        have h2 := pkL_len (X := X) (h x (by simp))
        simp only [List.map_cons, sumA, List.sum_cons, pcP, h2, h1]
        omega
    rw [this _ (fun x hx => (C.each x hx).2.2.2.1)]
    have := C.sum
    omega
  · obtain ⟨x, h1, h2⟩ := C.last
    exact ⟨_, List.mem_map.2 ⟨x, h1, rfl⟩, h2⟩
theorem cutL_len (N : Nat) : ∀ (cuts : List Int) (k : Nat), (cutL N cuts k).length ≤ cuts.length + 1
  | [], k => by simp [cutL]
  | c :: r, k => by
    unfold cutL
    split
    · simp
    · have := cutL_len N r (k + 8 * ((c % 4).toNat + 1))
      simp only [List.length_cons]; omega
theorem cutL_ne (N : Nat) (cuts : List Int) (k : Nat) : cutL N cuts k ≠ [] := by
  cases cuts with
  | nil => simp [cutL]
  | cons c r => unfold cutL; split <;> simp
end Go.Proofs.Ytebdpiedgjdjeaa
