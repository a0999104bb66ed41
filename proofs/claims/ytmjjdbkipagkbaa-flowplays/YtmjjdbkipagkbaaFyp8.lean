/- Texts joined: OwL -/
import Derived.Test.YtmjjdbkipagkbaaFyp3
import Derived.Test.YtmjjdbkipagkbaaFyp5
import Derived.Test.YtmjjdbkipagkbaaFyp7
import Derived.Deep.AppendLies
namespace Go.Proofs.Ytmjjdbkipagkbaa
open Go.RowKit
set_option linter.unusedVariables false
set_option linter.unusedSimpArgs false
theorem fl_len {α : Type} (f : α → List Value) (n : Nat) (hf : ∀ a, (f a).length = n) : ∀ L : List α, (L.flatMap f).length = L.length * n
  | [] => by simp
  | a :: r => by simp only [List.flatMap_cons, List.length_append, hf, fl_len f n hf r, List.length_cons, Nat.add_mul]; omega
theorem fl_get {α : Type} (f : α → List Value) (n : Nat) (hf : ∀ a, (f a).length = n) : ∀ (L : List α) (i j : Nat) (q : α), L[i]? = some q → j < n → (L.flatMap f)[i * n + j]? = (f q)[j]?
  | [], i, j, q, h, _ => by simp at h
  | a :: r, 0, j, q, h, hj => by
    obtain rfl : a = q := by simpa using h
    rw [List.flatMap_cons, Nat.zero_mul, Nat.zero_add, List.getElem?_append_left (by rw [hf]; exact hj)]
  | a :: r, i + 1, j, q, h, hj => by
    rw [List.flatMap_cons, List.getElem?_append_right (by rw [hf, Nat.add_mul]; omega), hf]
    have : (i + 1) * n + j - n = i * n + j := by rw [Nat.add_mul]; omega
    rw [this]
    exact fl_get f n hf r i j q (by simpa using h) hj
abbrev zflV : Array Value := #[.int .i64 0, .int .i64 0, .int .i64 0, .int .u64 0, .int .u64 0, .int .i64 0, .int .u64 0, .int .u64 0, .int .i64 0, .int .i64 0, .int .i64 0, .int .u32 0, .int .u32 0, .int .u32 0, .int .u32 0, .bool false, .bool false, .bool false, .bool false, .int .i64 0, .int .i64 0, .bool false]
theorem info_flow : (Try.prog.info? 33).map (fun i => (i.zero, i.size, i.bytes)) = some (some (.agg zflV), 22, 136) := by kernel_rfl
abbrev pc22 (L : List Fl) : List Value := L.flatMap fun q => q.v.toList
theorem flv_len (q : Fl) : q.v.toList.length = 22 := rfl
theorem flv_one (y : Fl) : ∀ u ∈ y.v.toList, u.oneCell' = true := by
  intro u hu
  simp only [List.mem_cons, List.not_mem_nil, or_false] at hu
  rcases hu with rfl | rfl | rfl | rfl | rfl | rfl | rfl | rfl | rfl | rfl | rfl | rfl | rfl | rfl | rfl | rfl | rfl | rfl | rfl | rfl | rfl | rfl <;> rfl
abbrev RowL (w : World) (a : Option Addr) (l : List Fl) : Prop := RowN 22 Fl.v (fun _ _ => True) w a l
theorem RowL.low {w w' : World} {a : Option Addr} {l : List Fl} (h : RowL w a l) (hb : Below w.heap.size w w') : RowL w' a l := RowN.below (fun h _ => h) h hb
/-- A slice of points of one's own. -/
def OwnL (w : World) (B : Nat) (a : Option Addr) (c : Nat) (L : List Fl) : Prop := w.ownsRow B 33 22 (.slice a L.length c) L.length (pc22 L)
theorem OwnL.below {w w' : World} {B : Nat} {a : Option Addr} {c : Nat} {l : List Fl} (h : OwnL w B a c l) (hb : Below w.heap.size w w') : OwnL w' B a c l := by
  obtain ⟨h1, h2⟩ := h
  refine ⟨h1, ?_⟩
  rcases h2 with h2 | ⟨g, cap, cur, h3, h4, h5, h6⟩
  · exact .inl h2
  · refine .inr ⟨g, cap, cur, h3, h4, (hb.block g ?_).trans h5, h6⟩
    exact (Array.getElem?_eq_some_iff.1 h5).1
theorem OwnL.base {w : World} {B B' : Nat} {a : Option Addr} {c : Nat} {l : List Fl} (h : OwnL w B a c l) (hb : B' ≤ B) : OwnL w B' a c l :=
  ⟨h.1, h.2.imp id fun ⟨g, cap, cur, h1, h2, h3⟩ => ⟨g, cap, cur, h1, Nat.le_trans hb h2, h3⟩⟩
theorem OwnL.row {w : World} {B : Nat} {a : Option Addr} {c : Nat} {l : List Fl} (h : OwnL w B a c l) (hl : ∀ r ∈ l, True) : RowL w a l := by
  refine ⟨hl, fun i q hi => ?_⟩
  have hlt : i < l.length := (List.getElem?_eq_some_iff.1 hi).1
  obtain ⟨h1, h2⟩ := h
  rcases h2 with ⟨h3, h4⟩ | ⟨g, cap, cur, h3, h4, h5, h6, h7, h8, h9⟩
  · omega
  · simp only [Value.slice.injEq] at h3
    obtain ⟨rfl, _, rfl⟩ := h3
    have B : Blk w g 33 cur := h5
    refine ⟨g, 0, rfl, B.lt, fun j v hj => B.cell _ v ?_⟩
    have hj' : j < 22 := (Array.getElem?_eq_some_iff.1 hj).1
    have h10 := fl_get (fun q : Fl => q.v.toList) 22 flv_len l i j q hi hj'
    have h11 : (cur.toList.take (l.length * 22))[i * 22 + j]? = q.v.toList[j]? := by rw [h9]; exact h10
    rw [List.getElem?_take_of_lt (by omega)] at h11
    rw [Array.getElem?_toList] at h11
    rw [Nat.zero_add, h11]
    simpa using hj
theorem OwnL.lt {w : World} {B : Nat} {a : Option Addr} {c : Nat} {l : List Fl} (h : OwnL w B a c l) : ∀ y, a = some y → B ≤ y.block := by
  intro y hy
  obtain ⟨h1, h2⟩ := h
  rcases h2 with ⟨h2, _⟩ | ⟨g, cap, cur, h3, h4, h5, h6⟩
  · simp only [Value.slice.injEq] at h2
    rw [h2.1] at hy
    cases hy
  · simp only [Value.slice.injEq] at h3
    rw [h3.1] at hy
    cases hy
    exact h4
/-- Its block, and what lies there. -/
theorem OwnL.blk {w : World} {B g c : Nat} {l : List Fl} (h : OwnL w B (some ⟨g, 0, none⟩) c l) : ∃ cur, Blk w g 33 cur ∧ cur.size = c * 22 ∧ B ≤ g ∧ l.length ≤ c ∧ c ≤ maxLen ∧ ∀ i q j, l[i]? = some q → j < 22 → cur[i * 22 + j]? = q.v[j]? := by
  obtain ⟨h1, h2⟩ := h
  rcases h2 with ⟨h3, h4⟩ | ⟨g', cap, cur, h3, h4, h5, h6, h7, h8, h9⟩
  · cases h3
  · simp only [Value.slice.injEq, Option.some.injEq, Addr.mk.injEq] at h3
    obtain ⟨⟨rfl, _, _⟩, _, rfl⟩ := h3
    refine ⟨cur, h5, h8, h4, h6, h7, fun i q j hi hj => ?_⟩
    have hlt : i < l.length := (List.getElem?_eq_some_iff.1 hi).1
    have h10 := fl_get (fun q : Fl => q.v.toList) 22 flv_len l i j q hi hj
    have h11 : (cur.toList.take (l.length * 22))[i * 22 + j]? = q.v.toList[j]? := by rw [h9]; exact h10
    rw [List.getElem?_take_of_lt (by omega)] at h11
    rw [Array.getElem?_toList] at h11
    rw [h11]
    simp
theorem take_fls {cur : Array Value} {l : List Fl} (hs : l.length * 22 ≤ cur.size) (h : ∀ i q j, l[i]? = some q → j < 22 → cur[i * 22 + j]? = q.v[j]?) : cur.toList.take (l.length * 22) = pc22 l := by
  have hlen : (pc22 l).length = l.length * 22 := fl_len _ 22 flv_len l
  apply List.ext_getElem?
  intro m
  by_cases hm : m < l.length * 22
  · rw [List.getElem?_take_of_lt hm, Array.getElem?_toList]
    obtain ⟨q, hq⟩ : ∃ q, l[m / 22]? = some q := ⟨_, List.getElem?_eq_getElem (by omega)⟩
    have h1 := h (m / 22) q (m % 22) hq (by omega)
    have h2 := fl_get (fun q : Fl => q.v.toList) 22 flv_len l (m / 22) (m % 22) q hq (by omega)
    rw [show m / 22 * 22 + m % 22 = m by omega] at h1 h2
    rw [h1, h2]
    simp
  · rw [List.getElem?_eq_none (by simp; omega), List.getElem?_eq_none (by rw [hlen]; omega)]
theorem OwnL.mk' {w : World} {B g c : Nat} {l : List Fl} {cur : Array Value} (hb : Blk w g 33 cur) (hs : cur.size = c * 22) (hB : B ≤ g) (hl : l.length ≤ c) (hc : c ≤ maxLen) (h : ∀ i q j, l[i]? = some q → j < 22 → cur[i * 22 + j]? = q.v[j]?) : OwnL w B (some ⟨g, 0, none⟩) c l :=
  ⟨fl_len _ 22 flv_len l, .inr ⟨g, c, cur, rfl, hB, hb, hl, hc, hs, take_fls (by omega) h⟩⟩
/-- append(v, x) of one point, which lies in a new block. -/
theorem wpList_appL {ops : Array Oper} {rest : List Oper} {o : Oper} {ac : Act} {Q : Exit → Act → World → Prop} (w : World) (hgd : o.guard = none) (s x : Operand)
    (ho : o.op = .call { callee := .builtin .append, args := #[s, x], argTypes := #[53, 53] })
    (B : Nat) (a : Option Addr) (c : Nat) (xs : List Fl) (hs : ac.eval s = .slice a xs.length c) (hown : OwnL w B a c xs)
    (g0 cc : Nat) (y : Fl) (hx : ac.eval x = .slice (some ⟨g0, 0, none⟩) 1 cc) (hc : CellsAt w g0 0 y.v)
    (hsum : xs.length + 1 ≤ 10000000) (hbase : B ≤ w.heap.size)
    (h : ∀ g c' w', OwnL w' B (some ⟨g, 0, none⟩) c' (xs ++ [y]) → Below B w w' → w.grownBy w' (a.map (·.block)) → wpList Try.prog ops Q rest (ac.put o.dst (.slice (some ⟨g, 0, none⟩) (xs.length + 1) c')) w') : wpList Try.prog ops Q (o :: rest) ac w := by
  obtain ⟨i0, hi, hz0, hz1, hz2⟩ := info_parts info_flow
  refine wpList_append_lies w hgd s x 53 ho B 33 i0 (.agg zflV) 22 136 Try.underlying53 hi hz0 hz1 hz2 rfl (by decide) (.slice a xs.length c) xs.length (pc22 xs) hs hown ⟨g0, 0, none⟩ 1 cc y.v.toList hx (by simp) ?_ (flv_one y) (by decide) (by unfold maxLen; omega) (by omega) hbase _ rfl ?_
  · intro j u hj
    have := hc.2 j u (by simpa using hj)
    rw [show (⟨g0, 0, none⟩ : Addr).add j = ⟨g0, 0 + j, none⟩ from Go.WideShapes.add_plain ..]
    exact this
  · intro g cap w' h1 h2 h3 h4
    have hbk : (Value.slice a xs.length c).ownBlock = a.map (·.block) := by
      cases a with
      | none => rfl
      | some ad' => cases ad'; rfl
    refine h g cap w' ?_ ((Below.refl _ _).grown h2 hbase fun k hk => ?_) (hbk ▸ h2)
    · show w'.ownsRow B 33 22 _ (xs ++ [y]).length (pc22 (xs ++ [y]))
      have e : pc22 (xs ++ [y]) = pc22 xs ++ y.v.toList := by simp [pc22]
      rw [List.length_append, e]
      exact h1
    · cases a with
      | none => cases hk
      | some ad' =>
        have e : ad'.block = k := by
          cases ad'
          simpa [Value.ownBlock] using hk
        rw [← e]
        exact OwnL.lt hown ad' rfl
theorem OwnL.at_ {w w' : World} {B : Nat} {a : Option Addr} {c : Nat} {l : List Fl} (h : OwnL w B a c l) (hb : ∀ y, a = some y → w'.heap[y.block]? = w.heap[y.block]?) : OwnL w' B a c l := by
  obtain ⟨h1, h2⟩ := h
  refine ⟨h1, ?_⟩
  rcases h2 with h2 | ⟨g, cap, cur, h3, h4, h5, h6⟩
  · exact .inl h2
  · have h3' := h3
    simp only [Value.slice.injEq] at h3'
    exact .inr ⟨g, cap, cur, h3, h4, (hb ⟨g, 0, none⟩ h3'.1).trans h5, h6⟩
theorem OwnL.lt_size {w : World} {B : Nat} {a : Option Addr} {c : Nat} {l : List Fl} (h : OwnL w B a c l) : ∀ y, a = some y → y.block < w.heap.size := by
  intro y hy
  obtain ⟨h1, h2⟩ := h
  rcases h2 with ⟨h2, _⟩ | ⟨g, cap, cur, h3, h4, h5, h6⟩
  · simp only [Value.slice.injEq] at h2
    rw [h2.1] at hy; cases hy
  · simp only [Value.slice.injEq] at h3
    rw [h3.1] at hy; cases hy
    exact (Array.getElem?_eq_some_iff.1 h5).1
theorem slice_blkL (a : Option Addr) (n c : Nat) : (Value.slice a n c).ownBlock = a.map (·.block) := by
  cases a with
  | none => rfl
  | some x => cases x; rfl
theorem step_rnL {ops : Array Oper} {o : Oper} {ac : Act} {K : Act → World → Prop} {Q : Exit → Act → World → Prop} {Z : Prop} {w : World} (hgd : o.guard = none) (t : TypeId) (s x : Operand)
    (ho : o.op = .call { callee := .builtin .append, args := #[s, x], argTypes := #[t, t] }) (v1 v2 : Value) (hs : ac.eval s = v1) (hx : ac.eval x = v2) (r : Value) (w' : World)
    (hrun : (Builtin.append_ #[t, t] o.type #[v1, v2]).run Try.prog w = .ok r w') (h : K (ac.put o.dst r) w') : if Region.wanted o (yielded ops ac.tmps) = true then Oper.wp Try.prog o ac w K Q else Z := by
  have hw : Region.wanted o (yielded ops ac.tmps) = true := by simp [Region.wanted, hgd]
  rw [if_pos hw]
  unfold Oper.wp execOp
  simp only [ho, resolve, invoke, builtin, Sem.run_bind, Sem.run_pure, Result.andThen_ok, List.map_toArray, List.map_cons, List.map_nil, hs, hx, hrun]
  exact h
theorem OwnL.le {w : World} {B : Nat} {a : Option Addr} {c : Nat} {l : List Fl} (h : OwnL w B a c l) : l.length ≤ c := by
  obtain ⟨h1, h2⟩ := h
  rcases h2 with ⟨h3, h4⟩ | ⟨g, cap, cur, h3, h4, h5, h6, h7⟩
  · omega
  · simp only [Value.slice.injEq] at h3
    obtain ⟨_, _, rfl⟩ := h3
    exact h6
theorem cells_pre {W : World} {b k : Nat} {f : Fl} (h : CellsAt W b k f.v) : CellsAt W b k f.w.v := ⟨h.1, fun j v hj => h.2 j v (by
  have hj' : j < 10 := (Array.getElem?_eq_some_iff.1 hj).1
  rw [← hj]
  match j, hj' with
  | 0, _ => rfl
  | 1, _ => rfl
  | 2, _ => rfl
  | 3, _ => rfl
  | 4, _ => rfl
  | 5, _ => rfl
  | 6, _ => rfl
  | 7, _ => rfl
  | 8, _ => rfl
  | 9, _ => rfl)⟩
end Go.Proofs.Ytmjjdbkipagkbaa
