/- Plain: without the hidden ones the same rule takes a key; slices of rules of one's own. -/
import Derived.Test.YtmlddgmkbbaccaaFrQ
import Derived.Deep.AppendLies
namespace Go.Proofs.Ytmlddgmkbbaccaa
open Go.RowKit
set_option linter.unusedVariables false
set_option linter.unusedSimpArgs false

theorem hasB_trans {a b c : Ad} {n m : Int} (hc : c.ok) (h1 : reachB a n b m = true) (h2 : hasB b m c = true) : hasB a n c = true := by
  simp only [reachB, hasB, Bool.or_eq_true, Bool.and_eq_true, decide_eq_true_eq] at h1 h2 ⊢
  rcases h1 with h1 | ⟨x1, x2, x3⟩
  · exact .inl h1
  · rcases h2 with h2 | h2
    · rw [zero_wrong h2] at x1
      cases x1
    · exact .inr (has_trans hc x3 h2 x2)
theorem takes_wider {q r : Rl} {k : Ky} (ko : k.ok) (h : q.hides r = true) (ht : r.takes k = true) : q.takes k = true := by
  simp only [Rl.hides, Rl.wider, Rl.takes, Rl.asks, inB, Bool.and_eq_true, Bool.or_eq_true, decide_eq_true_eq, beq_iff_eq] at h ht ⊢
  obtain ⟨h0, h1, h2, h3, h4, h5, h6, h7, h8, h9⟩ := h
  obtain ⟨_, t0, t1, t2, t3, t4, t5, t6, t7⟩ := ht
  exact ⟨h0, t0, by omega, by omega, hasB_trans ko.s h3 t3, hasB_trans ko.d h4 t4, by omega, by omega, by omega⟩
theorem keep_sorted (l : List Rl) (n : Nat) : (keepN l n).Pairwise (· < ·) := by
  unfold keepN
  exact List.Pairwise.filter _ List.pairwise_lt_range
theorem keep_mem {l : List Rl} {i : Nat} : i ∈ keepL l ↔ i < l.length ∧ hidB l i = false := by
  unfold keepL keepN
  simp
/-- The rules at the places. -/
def subL (l : List Rl) (K : List Nat) : List Rl := K.map fun i => (l[i]?).getD wideR
theorem find_none {l : List Rl} {k : Ky} (h : findL l k = none) : ∀ r ∈ l, r.takes k = false := fun r hr => by
  have := List.findIdx?_eq_none_iff.1 h r hr
  exact this
theorem find_some {l : List Rl} {k : Ky} {i : Nat} (h : findL l k = some i) : ∃ r, l[i]? = some r ∧ r.takes k = true ∧ ∀ (j : Nat) (q : Rl), j < i → l[j]? = some q → q.takes k = false := by
  obtain ⟨h1, h2, h3⟩ := List.findIdx?_eq_some_iff_getElem.1 h
  refine ⟨l[i], List.getElem?_eq_getElem h1, h2, fun j q hj hq => ?_⟩
  obtain ⟨hl, rfl⟩ := List.getElem?_eq_some_iff.1 hq
  simpa using h3 j hj
theorem sub_get {l : List Rl} {j i : Nat} {r : Rl} (h : (keepL l)[j]? = some i) (hr : l[i]? = some r) : (subL l (keepL l))[j]? = some r := by
  unfold subL
  rw [List.getElem?_map, h]
  simp [hr]
theorem sub_inv {l : List Rl} {j : Nat} {r : Rl} (h : (subL l (keepL l))[j]? = some r) : ∃ i, (keepL l)[j]? = some i ∧ l[i]? = some r := by
  unfold subL at h
  rw [List.getElem?_map] at h
  cases e : (keepL l)[j]? with
  | none => rw [e] at h; cases h
  | some i =>
    rw [e] at h
    have hi := (keep_mem.1 (List.mem_of_getElem? e)).1
    obtain ⟨q, hq⟩ : ∃ q, l[i]? = some q := ⟨_, List.getElem?_eq_getElem hi⟩
    simp only [Option.map_some, hq, Option.getD_some, Option.some.injEq] at h
    exact ⟨i, rfl, by rw [hq, h]⟩
theorem hidden_none {l : List Rl} {k : Ky} (h : findL l k = none) : findL (subL l (keepL l)) k = none :=
  findL_none fun j r hj => by
    obtain ⟨i, _, hi⟩ := sub_inv hj
    exact find_none h r (List.mem_of_getElem? hi)
theorem hidden_some {l : List Rl} {k : Ky} (ko : k.ok) {i : Nat} (h : findL l k = some i) : ∃ j, findL (subL l (keepL l)) k = some j ∧ (keepL l)[j]? = some i := by
  obtain ⟨r, hr, ht, hmin⟩ := find_some h
  have hi : i ∈ keepL l := by
    refine keep_mem.2 ⟨(List.getElem?_eq_some_iff.1 hr).1, ?_⟩
    cases hb : hidB l i with
    | false => rfl
    | true =>
      obtain ⟨j, q, hj, hq, hh⟩ := (hid_iff hr).1 hb
      have := hmin j q hj hq
      rw [takes_wider ko hh ht] at this
      cases this
  obtain ⟨j, hj⟩ := List.getElem?_of_mem hi
  refine ⟨j, findL_some (fun j' q hj' hq => ?_) (sub_get hj hr) ht, hj⟩
  obtain ⟨i', hi', hl'⟩ := sub_inv hq
  refine hmin i' q ?_ hl'
  obtain ⟨a1, e1⟩ := List.getElem?_eq_some_iff.1 hi'
  obtain ⟨a2, e2⟩ := List.getElem?_eq_some_iff.1 hj
  have := List.pairwise_iff_getElem.1 (keep_sorted l l.length) j' j a1 a2 hj'
  have e1' : (keepN l l.length)[j'] = i' := e1
  have e2' : (keepN l l.length)[j] = i := e2
  omega

theorem fl_len {α : Type} (f : α → List Value) (n : Nat) (hf : ∀ a, (f a).length = n) : ∀ L : List α, (L.flatMap f).length = L.length * n
  | [] => by simp
  | a :: r => by simp only [List.flatMap_cons, List.length_append, hf, fl_len f n hf r, List.length_cons, Nat.add_mul]; omega
theorem fl_get {α : Type} (f : α → List Value) (n : Nat) (hf : ∀ a, (f a).length = n) : ∀ (L : List α) (i j : Nat) (q : α), L[i]? = some q → j < n → (L.flatMap f)[i * n + j]? = (f q)[j]?
  | [], i, j, q, h, _ => by simp at h
  | a :: r, 0, j, q, h, hj => by
    obtain rfl : a = q := by simpa using h
    rw [List.flatMap_cons, Nat.zero_mul, Nat.zero_add, List.getElem?_append_left (by rw [hf]; exact hj)]
  | a :: r, i + 1, j, q, h, hj => by
    rw [List.flatMap_cons, List.getElem?_append_right (by rw [hf, Nat.add_mul]; omega), hf]
    have : (i + 1) * n + j - n = i * n + j := by rw [Nat.add_mul]; omega
    rw [this]
    exact fl_get f n hf r i j q (by simpa using h) hj
theorem info_rule : (Try.prog.info? 30).map (fun i => (i.zero, i.size, i.bytes)) = some (some (.agg z17), 17, 136) := by kernel_rfl
abbrev pc17 (L : List Rl) : List Value := L.flatMap fun q => q.v.toList
theorem rlv_len (q : Rl) : q.v.toList.length = 17 := rfl
/-- A slice of rules of one's own. -/
def OwnR (w : World) (B : Nat) (a : Option Addr) (c : Nat) (L : List Rl) : Prop := w.ownsRow B 30 17 (.slice a L.length c) L.length (pc17 L)
theorem OwnR.nil (w : World) (B : Nat) : OwnR w B none 0 [] := World.ownsRow_nil _ _ _ _
theorem OwnR.below {w w' : World} {B : Nat} {a : Option Addr} {c : Nat} {l : List Rl} (h : OwnR w B a c l) (hb : Below w.heap.size w w') : OwnR w' B a c l := by
  obtain ⟨h1, h2⟩ := h
  refine ⟨h1, ?_⟩
  rcases h2 with h2 | ⟨g, cap, cur, h3, h4, h5, h6⟩
  · exact .inl h2
  · refine .inr ⟨g, cap, cur, h3, h4, (hb.block g ?_).trans h5, h6⟩
    exact (Array.getElem?_eq_some_iff.1 h5).1
theorem OwnR.row {w : World} {B : Nat} {a : Option Addr} {c : Nat} {l : List Rl} (h : OwnR w B a c l) (hl : ∀ r ∈ l, r.ok) : RowR w a l := by
  refine ⟨hl, fun i q hi => ?_⟩
  have hlt : i < l.length := (List.getElem?_eq_some_iff.1 hi).1
  obtain ⟨h1, h2⟩ := h
  rcases h2 with ⟨h3, h4⟩ | ⟨g, cap, cur, h3, h4, h5, h6, h7, h8, h9⟩
  · omega
  · simp only [Value.slice.injEq] at h3
    obtain ⟨rfl, _, rfl⟩ := h3
    have B : Blk w g 30 cur := h5
    refine ⟨g, 0, rfl, B.lt, fun j v hj => B.cell _ v ?_⟩
    have hj' : j < 17 := (Array.getElem?_eq_some_iff.1 hj).1
    have h10 := fl_get (fun q : Rl => q.v.toList) 17 rlv_len l i j q hi hj'
    have h11 : (cur.toList.take (l.length * 17))[i * 17 + j]? = q.v.toList[j]? := by rw [h9]; exact h10
    rw [List.getElem?_take_of_lt (by omega)] at h11
    rw [Array.getElem?_toList] at h11
    rw [Nat.zero_add, h11]
    simpa using hj
theorem OwnR.lt {w : World} {B : Nat} {a : Option Addr} {c : Nat} {l : List Rl} (h : OwnR w B a c l) : ∀ y, a = some y → B ≤ y.block := by
  intro y hy
  obtain ⟨h1, h2⟩ := h
  rcases h2 with ⟨h2, _⟩ | ⟨g, cap, cur, h3, h4, h5, h6⟩
  · simp only [Value.slice.injEq] at h2
    rw [h2.1] at hy
    cases hy
  · simp only [Value.slice.injEq] at h3
    rw [h3.1] at hy
    cases hy
    exact h4
/-- append(v, x) of one rule, which lies in a new block. -/
theorem wpList_appR {ops : Array Oper} {rest : List Oper} {o : Oper} {ac : Act} {Q : Exit → Act → World → Prop} (w : World) (hgd : o.guard = none) (s x : Operand)
    (ho : o.op = .call { callee := .builtin .append, args := #[s, x], argTypes := #[37, 37] })
    (B : Nat) (a : Option Addr) (c : Nat) (xs : List Rl) (hs : ac.eval s = .slice a xs.length c) (hown : OwnR w B a c xs)
    (g0 cc : Nat) (y : Rl) (hx : ac.eval x = .slice (some ⟨g0, 0, none⟩) 1 cc) (hc : CellsAt w g0 0 y.v)
    (hsum : xs.length + 1 ≤ 1000000) (hbase : B ≤ w.heap.size)
    (h : ∀ g c' w', OwnR w' B (some ⟨g, 0, none⟩) c' (xs ++ [y]) → Below B w w' → wpList Try.prog ops Q rest (ac.put o.dst (.slice (some ⟨g, 0, none⟩) (xs.length + 1) c')) w') : wpList Try.prog ops Q (o :: rest) ac w := by
  obtain ⟨i0, hi, hz0, hz1, hz2⟩ := info_parts info_rule
  refine wpList_append_lies w hgd s x 37 ho B 30 i0 (.agg z17) 17 136 Try.underlying37 hi hz0 hz1 hz2 rfl (by decide) (.slice a xs.length c) xs.length (pc17 xs) hs hown ⟨g0, 0, none⟩ 1 cc y.v.toList hx (by simp) ?_ (by
      intro u hu
      simp only [List.mem_cons, List.not_mem_nil, or_false] at hu
      rcases hu with rfl | rfl | rfl | rfl | rfl | rfl | rfl | rfl | rfl | rfl | rfl | rfl | rfl | rfl | rfl | rfl | rfl <;> rfl) (by decide) (by unfold maxLen; omega) (by omega) hbase _ rfl ?_
  · intro j u hj
    have := hc.2 j u (by simpa using hj)
    rw [show (⟨g0, 0, none⟩ : Addr).add j = ⟨g0, 0 + j, none⟩ from Go.WideShapes.add_plain ..]
    exact this
  · intro g cap w' h1 h2 h3 h4
    refine h g cap w' ?_ ((Below.refl _ _).grown h2 hbase fun k hk => ?_)
    · show w'.ownsRow B 30 17 _ (xs ++ [y]).length (pc17 (xs ++ [y]))
      have e : pc17 (xs ++ [y]) = pc17 xs ++ y.v.toList := by simp [pc17]
      rw [List.length_append, e]
      exact h1
    · cases a with
      | none => cases hk
      | some ad' =>
        have e : ad'.block = k := by
          cases ad'
          simpa [Value.ownBlock] using hk
        rw [← e]
        exact OwnR.lt hown ad' rfl
end Go.Proofs.Ytmlddgmkbbaccaa
