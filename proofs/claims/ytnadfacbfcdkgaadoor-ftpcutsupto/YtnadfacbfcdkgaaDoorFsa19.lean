/- Texts joined: AtB -/
import Derived.Test.YtnadfacbfcdkgaaDoorFsa6
namespace Go.Proofs.YtnadfacbfcdkgaaDoor
open Go.RowKit
set_option linter.unusedVariables false
set_option linter.unusedSimpArgs false
theorem info_str : (Tryd.prog.info? 9).map (fun i => (i.zero, i.size, i.bytes)) = some (some (.string ByteArray.empty), 1, 16) := by kernel_rfl
/-- The slice value v owns the texts l, in a block of the call's own (from B on), or is nil and l empty. -/
def OwnsS (w : World) (B : Nat) (v : Value) (l : List ByteArray) : Prop := w.ownsRow B 9 1 v l.length (l.map Value.string)
theorem OwnsS.form {w : World} {B : Nat} {v : Value} {l : List ByteArray} (h : OwnsS w B v l) :
    ∃ a c, v = .slice a l.length c ∧ l.length ≤ c ∧ (a = none → c = 0) ∧ (∀ x, a = some x → B ≤ x.block ∧ x.off = 0 ∧ x.spot = none) ∧ v.ownBlock = a.map (·.block) := by
  obtain ⟨h1, h2⟩ := h
  rcases h2 with ⟨rfl, h3⟩ | ⟨g, cap, cur, rfl, h3, h4, h5, h6, h7, h8⟩
  · exact ⟨none, 0, by rw [h3], by omega, fun _ => rfl, fun _ h => (by cases h), rfl⟩
  · exact ⟨_, cap, rfl, h5, fun h => (by cases h), fun x hx => (by cases hx; exact ⟨h3, rfl, rfl⟩), rfl⟩
theorem OwnsS.nil (w : World) (B : Nat) : OwnsS w B (.slice none 0 0) [] := World.ownsRow_nil _ _ _ _
theorem OwnsS.alloc {w : World} {B : Nat} {v : Value} {l : List ByteArray} (h : OwnsS w B v l) (o : Obj) : OwnsS (w.alloc o) B v l := World.ownsRow.alloc h o
theorem OwnsS.drewN {w : World} {B : Nat} {v : Value} {l : List ByteArray} (h : OwnsS w B v l) (n : Nat) : OwnsS (w.drewN n) B v l := h
theorem OwnsS.below {w w' : World} {B : Nat} {v : Value} {l : List ByteArray} (h : OwnsS w B v l) (hb : Below w.heap.size w w') : OwnsS w' B v l := by
  obtain ⟨h1, h2⟩ := h
  refine ⟨h1, ?_⟩
  rcases h2 with h2 | ⟨g, cap, cur, h3, h4, h5, h6⟩
  · exact .inl h2
  · refine .inr ⟨g, cap, cur, h3, h4, (hb.block g ?_).trans h5, h6⟩
    exact (Array.getElem?_eq_some_iff.1 h5).1
/-- The texts that lie at a place. -/
def RowS (w : World) (a : Option Addr) (l : List ByteArray) : Prop := 0 < l.length → ∃ b off, a = some ⟨b, off, none⟩ ∧ ∀ i x, l[i]? = some x → w.cell? ⟨b, off + i, none⟩ = some (.string x)
theorem OwnsS.row {w : World} {B : Nat} {a : Option Addr} {c : Nat} {l : List ByteArray} (h : OwnsS w B (.slice a l.length c) l) : RowS w a l := by
  intro hp
  have h0 := h
  obtain ⟨h1, h2⟩ := h
  rcases h2 with ⟨h3, h4⟩ | ⟨g, cap, cur, h3, h4, h5, h6, h7, h8, h9⟩
  · omega
  · simp only [Value.slice.injEq] at h3
    obtain ⟨rfl, _, rfl⟩ := h3
    refine ⟨g, 0, rfl, fun i x hx => ?_⟩
    have hi : i < l.length := (List.getElem?_eq_some_iff.1 hx).1
    have hc := World.ownsRow.cellAt (e := 9) (size := 1) h0 i (by omega)
    rw [Nat.zero_add, hc]
    simp [hx]
theorem RowS.below {w w' : World} {a : Option Addr} {l : List ByteArray} (h : RowS w a l) (hb : Below w.heap.size w w') : RowS w' a l := fun hp => by
  obtain ⟨b, off, ha, hc⟩ := h hp
  exact ⟨b, off, ha, fun i x hx => (hb.cell (World.block_lt_of_cell? w _ (hc i x hx))).trans (hc i x hx)⟩
/-- append(v, x) of one text, which lies in a new block, on a slice of the call's own. -/
theorem wpList_appS {ops : Array Oper} {rest : List Oper} {o : Oper} {ac : Act} {Q : Exit → Act → World → Prop} (w : World) (hgd : o.guard = none) (s x : Operand)
    (ho : o.op = .call { callee := .builtin .append, args := #[s, x], argTypes := #[24, 24] })
    (B : Nat) (v : Value) (xs : List ByteArray) (hs : ac.eval s = v) (hown : OwnsS w B v xs)
    (ad : Addr) (c : Nat) (y : ByteArray) (hx : ac.eval x = .slice (some ad) 1 c) (hc : w.cell? ad = some (.string y))
    (r : List ByteArray) (hr : xs ++ [y] = r) (hsum : xs.length + 1 ≤ 8796093022208) (hbase : B ≤ w.heap.size)
    (h : ∀ a' c' w', OwnsS w' B (.slice a' r.length c') r → Below B w w' → wpList Tryd.prog ops Q rest (ac.put o.dst (.slice a' r.length c')) w') : wpList Tryd.prog ops Q (o :: rest) ac w := by
  subst hr
  obtain ⟨i0, hi, hz0, hz1, hz2⟩ := info_parts info_str
  refine wpList_append_own w hgd s x 24 ho B 9 i0 (.string ByteArray.empty) 1 16 Tryd.underlying24 hi hz0 hz1 hz2 rfl (by decide) v xs.length (xs.map Value.string) hs hown ad 1 c [Value.string y] hx (by simp) ?_ (by intro u hu; simp at hu; rw [hu]; rfl) (by unfold maxLen; omega) (by omega) hbase ?_
  · intro j u hj
    have hjl : j = 0 := by
      have := (List.getElem?_eq_some_iff.1 hj).1
      simp at this; omega
    subst hjl
    have e1 : Addr.add ad 0 = ad := by cases ad; rfl
    rw [e1, hc]
    simpa using hj
  · intro v' w' h1 h2 _
    have h1' : OwnsS w' B v' (xs ++ [y]) := by
      show w'.ownsRow B 9 1 v' (xs ++ [y]).length ((xs ++ [y]).map Value.string)
      rw [List.length_append, List.map_append]
      exact h1
    obtain ⟨a', c', rfl, _⟩ := h1'.form
    exact h a' c' w' h1' ((Below.refl _ _).grown h2 hbase fun k hk => (World.ownsRow.lt hown k hk).1)
end Go.Proofs.YtnadfacbfcdkgaaDoor
