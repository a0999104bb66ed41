/- Texts joined: FtO -/
import Derived.Test.YtnadfacbfcdkgaaDoorFsa36
import Derived.Deep.AppendLies
namespace Go.Proofs.YtnadfacbfcdkgaaDoor
open Go.RowKit
set_option linter.unusedVariables false
set_option linter.unusedSimpArgs false
theorem fl_get {α : Type} (f : α → List Value) (n : Nat) (hf : ∀ a, (f a).length = n) : ∀ (L : List α) (i j : Nat) (q : α), L[i]? = some q → j < n → (L.flatMap f)[i * n + j]? = (f q)[j]?
  | [], i, j, q, h, _ => by simp at h
  | a :: r, 0, j, q, h, hj => by
    obtain rfl : a = q := by simpa using h
    rw [List.flatMap_cons, Nat.zero_mul, Nat.zero_add, List.getElem?_append_left (by rw [hf]; exact hj)]
  | a :: r, i + 1, j, q, h, hj => by
    rw [List.flatMap_cons, List.getElem?_append_right (by rw [hf, Nat.add_mul]; omega), hf]
    have : (i + 1) * n + j - n = i * n + j := by rw [Nat.add_mul]; omega
    rw [this]
    exact fl_get f n hf r i j q (by simpa using h) hj
theorem slice_blkL (a : Option Addr) (n c : Nat) : (Value.slice a n c).ownBlock = a.map (·.block) := by
  cases a with
  | none => rfl
  | some x => cases x; rfl
abbrev zasV : Array Value := #[.int .i64 0, .int .i64 0, .int .u64 0, .int .u64 0, .int .i64 0]
theorem info_as5 : (Tryd.prog.info? 32).map (fun i => (i.zero, i.size, i.bytes)) = some (some (.agg zasV), 5, 40) := by kernel_rfl
abbrev pcAs (L : List As) : List Value := L.flatMap fun q => q.v.toList
theorem asv_len (q : As) : q.v.toList.length = 5 := rfl
theorem asv_one (y : As) : ∀ u ∈ y.v.toList, u.oneCell' = true := by
  intro u hu
  simp only [List.mem_cons, List.not_mem_nil, or_false] at hu
  rcases hu with rfl | rfl | rfl | rfl | rfl <;> rfl
/-- A slice of points of one's own. -/
def OwnAs (w : World) (B : Nat) (a : Option Addr) (c : Nat) (L : List As) : Prop := w.ownsRow B 32 5 (.slice a L.length c) L.length (pcAs L)
theorem OwnAs.below {w w' : World} {B : Nat} {a : Option Addr} {c : Nat} {l : List As} (h : OwnAs w B a c l) (hb : Below w.heap.size w w') : OwnAs w' B a c l := by
  obtain ⟨h1, h2⟩ := h
  refine ⟨h1, ?_⟩
  rcases h2 with h2 | ⟨g, cap, cur, h3, h4, h5, h6⟩
  · exact .inl h2
  · refine .inr ⟨g, cap, cur, h3, h4, (hb.block g ?_).trans h5, h6⟩
    exact (Array.getElem?_eq_some_iff.1 h5).1
theorem OwnAs.base {w : World} {B B' : Nat} {a : Option Addr} {c : Nat} {l : List As} (h : OwnAs w B a c l) (hb : B' ≤ B) : OwnAs w B' a c l :=
  ⟨h.1, h.2.imp id fun ⟨g, cap, cur, h1, h2, h3⟩ => ⟨g, cap, cur, h1, Nat.le_trans hb h2, h3⟩⟩
theorem OwnAs.row {w : World} {B : Nat} {a : Option Addr} {c : Nat} {l : List As} (h : OwnAs w B a c l) (hl : ∀ r ∈ l, True) : RowN 5 As.v (fun _ _ => True) w a l := by
  refine ⟨hl, fun i q hi => ?_⟩
  have hlt : i < l.length := (List.getElem?_eq_some_iff.1 hi).1
  obtain ⟨h1, h2⟩ := h
  rcases h2 with ⟨h3, h4⟩ | ⟨g, cap, cur, h3, h4, h5, h6, h7, h8, h9⟩
  · omega
  · simp only [Value.slice.injEq] at h3
    obtain ⟨rfl, _, rfl⟩ := h3
    have B : Blk w g 32 cur := h5
    refine ⟨g, 0, rfl, B.lt, fun j v hj => B.cell _ v ?_⟩
    have hj' : j < 5 := (Array.getElem?_eq_some_iff.1 hj).1
    have h10 := fl_get (fun q : As => q.v.toList) 5 asv_len l i j q hi hj'
    have h11 : (cur.toList.take (l.length * 5))[i * 5 + j]? = q.v.toList[j]? := by rw [h9]; exact h10
    rw [List.getElem?_take_of_lt (by omega)] at h11
    rw [Array.getElem?_toList] at h11
    rw [Nat.zero_add, h11]
    simpa using hj
theorem OwnAs.lt {w : World} {B : Nat} {a : Option Addr} {c : Nat} {l : List As} (h : OwnAs w B a c l) : ∀ y, a = some y → B ≤ y.block := by
  intro y hy
  obtain ⟨h1, h2⟩ := h
  rcases h2 with ⟨h2, _⟩ | ⟨g, cap, cur, h3, h4, h5, h6⟩
  · simp only [Value.slice.injEq] at h2
    rw [h2.1] at hy
    cases hy
  · simp only [Value.slice.injEq] at h3
    rw [h3.1] at hy
    cases hy
    exact h4
theorem run_appAs (w : World) (ty : TypeId) (B : Nat) (a : Option Addr) (c : Nat) (xs : List As) (hown : OwnAs w B a c xs) (g0 cc : Nat) (t0 : TypeId) (y : As) (hy : Blk w g0 t0 y.v) (hn : xs.length + 1 ≤ 1000000) (hB : B ≤ w.heap.size) :
    ∃ g c' w', (Builtin.append_ #[37, 37] ty #[.slice a xs.length c, .slice (some ⟨g0, 0, none⟩) 1 cc]).run Tryd.prog w = .ok (.slice (some ⟨g, 0, none⟩) (xs.length + 1) c') w' ∧ OwnAs w' B (some ⟨g, 0, none⟩) c' (xs ++ [y]) ∧ w.grownBy w' (a.map (·.block)) ∧ Below B w w' := by
  obtain ⟨i0, hi, hz0, hz1, hz2⟩ := info_parts info_as5
  obtain ⟨g, cap, w', h1, h2, h3, h4, h5⟩ := run_append_lies (P := Tryd.prog) w 37 ty B 32 i0 _ 5 40 Tryd.underlying37 hi hz0 hz1 hz2 rfl (by decide) (.slice a xs.length c) xs.length (pcAs xs) hown ⟨g0, 0, none⟩ 1 cc y.v.toList (by simp) (World.news_of_block hy) (asv_one y) (by decide) (by unfold maxLen; omega) (by omega) hB _ rfl
  rw [slice_blkL] at h3
  refine ⟨g, cap, w', h1, ?_, h3, (Below.refl _ _).grown h3 hB fun j hj => ?_⟩
  · show w'.ownsRow B 32 5 _ (xs ++ [y]).length (pcAs (xs ++ [y]))
    have e : pcAs (xs ++ [y]) = pcAs xs ++ y.v.toList := by simp [pcAs]
    rw [List.length_append, e]
    exact h2
  · cases a with
    | none => cases hj
    | some ad => simp only [Option.map_some, Option.some.injEq] at hj; rw [← hj]; exact OwnAs.lt hown ad rfl
theorem OwnAs.nil (w : World) (B : Nat) : OwnAs w B none 0 [] := World.ownsRow_nil _ _ _ _
theorem wpList_rnF {ops : Array Oper} {rest : List Oper} {o : Oper} {ac : Act} {Q : Exit → Act → World → Prop} {w : World} (hgd : o.guard = none) (t : TypeId) (s x : Operand)
    (ho : o.op = .call { callee := .builtin .append, args := #[s, x], argTypes := #[t, t] }) (v1 v2 : Value) (hs : ac.eval s = v1) (hx : ac.eval x = v2) (r : Value) (w' : World)
    (hrun : (Builtin.append_ #[t, t] o.type #[v1, v2]).run Tryd.prog w = .ok r w') (h : wpList Tryd.prog ops Q rest (ac.put o.dst r) w') : wpList Tryd.prog ops Q (o :: rest) ac w :=
  wpList_plain hgd fun K hK => by
    unfold Oper.wp execOp
    simp only [ho, resolve, invoke, builtin, Sem.run_bind, Sem.run_pure, Result.andThen_ok, List.map_toArray, List.map_cons, List.map_nil, hs, hx, hrun]
    exact hK _ _ h
/-- What bytes ask for: places of their own. -/
structure GotA (w : World) (L : List As) (w' : World) (a : Option Addr) (k : Nat) : Prop where
  owns : OwnAs w' w.heap.size a k L
  below : Below w.heap.size w w'
end Go.Proofs.YtnadfacbfcdkgaaDoor
