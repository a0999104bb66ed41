/- Texts joined: XpB -/
import Derived.Test.YtmflogmocgbmhaaXpa5
import Derived.Test.YtmflogmocgbmhaaXpa6
import Derived.Test.YtmflogmocgbmhaaXpa8
import Derived.Deep.AppendLies
namespace Go.Proofs.Ytmflogmocgbmhaa
open Go.RowKit
set_option linter.unusedVariables false
set_option linter.unusedSimpArgs false
theorem wt_info (r : Wt) : (Try.prog.info? 28).map (·.size) = some r.v.size := by kernel_rfl
theorem wt_len {α : Type} (f : α → List Value) (n : Nat) (hf : ∀ a, (f a).length = n) : ∀ L : List α, (L.flatMap f).length = L.length * n
  | [] => by simp
  | a :: r => by simp only [List.flatMap_cons, List.length_append, hf, wt_len f n hf r, List.length_cons, Nat.add_mul]; omega
theorem wt_get {α : Type} (f : α → List Value) (n : Nat) (hf : ∀ a, (f a).length = n) : ∀ (L : List α) (i j : Nat) (q : α), L[i]? = some q → j < n → (L.flatMap f)[i * n + j]? = (f q)[j]?
  | [], i, j, q, h, _ => by simp at h
  | a :: r, 0, j, q, h, hj => by
    obtain rfl : a = q := by simpa using h
    rw [List.flatMap_cons, Nat.zero_mul, Nat.zero_add, List.getElem?_append_left (by rw [hf]; exact hj)]
  | a :: r, i + 1, j, q, h, hj => by
    rw [List.flatMap_cons, List.getElem?_append_right (by rw [hf, Nat.add_mul]; omega), hf]
    have : (i + 1) * n + j - n = i * n + j := by rw [Nat.add_mul]; omega
    rw [this]
    exact wt_get f n hf r i j q (by simpa using h) hj
abbrev zwtV : Array Value := #[.int .i64 0, .int .i64 0, .int .i64 0, .int .u64 0, .int .u64 0, .int .i64 0, .int .u64 0, .int .u64 0, .int .i64 0, .int .i64 0, .int .i64 0, .int .i64 0, .int .i64 0, .int .u64 0, .int .u64 0, .int .i64 0, .int .u64 0, .int .u64 0, .int .i64 0, .int .i64 0, .int .i64 0, .int .i64 0]
theorem info_want : (Try.prog.info? 28).map (fun i => (i.zero, i.size, i.bytes)) = some (some (.agg zwtV), 22, 176) := by kernel_rfl
abbrev pcW (L : List Wt) : List Value := L.flatMap fun q => q.v.toList
theorem wtv_len (q : Wt) : q.v.toList.length = 22 := rfl
theorem wtv_one (y : Wt) : ∀ u ∈ y.v.toList, u.oneCell' = true := by
  intro u hu
  simp only [List.mem_cons, List.not_mem_nil, or_false] at hu
  rcases hu with rfl | rfl | rfl | rfl | rfl | rfl | rfl | rfl | rfl | rfl | rfl | rfl | rfl | rfl | rfl | rfl | rfl | rfl | rfl | rfl | rfl | rfl <;> rfl
abbrev RowW (w : World) (a : Option Addr) (l : List Wt) : Prop := RowN 22 Wt.v (fun _ _ => True) w a l
theorem RowW.low {w w' : World} {a : Option Addr} {l : List Wt} (h : RowW w a l) (hb : Below w.heap.size w w') : RowW w' a l := RowN.below (fun h _ => h) h hb
/-- A slice of points of one's own. -/
def OwnW (w : World) (B : Nat) (a : Option Addr) (c : Nat) (L : List Wt) : Prop := w.ownsRow B 28 22 (.slice a L.length c) L.length (pcW L)
theorem OwnW.below {w w' : World} {B : Nat} {a : Option Addr} {c : Nat} {l : List Wt} (h : OwnW w B a c l) (hb : Below w.heap.size w w') : OwnW w' B a c l := by
  obtain ⟨h1, h2⟩ := h
  refine ⟨h1, ?_⟩
  rcases h2 with h2 | ⟨g, cap, cur, h3, h4, h5, h6⟩
  · exact .inl h2
  · refine .inr ⟨g, cap, cur, h3, h4, (hb.block g ?_).trans h5, h6⟩
    exact (Array.getElem?_eq_some_iff.1 h5).1
theorem OwnW.base {w : World} {B B' : Nat} {a : Option Addr} {c : Nat} {l : List Wt} (h : OwnW w B a c l) (hb : B' ≤ B) : OwnW w B' a c l :=
  ⟨h.1, h.2.imp id fun ⟨g, cap, cur, h1, h2, h3⟩ => ⟨g, cap, cur, h1, Nat.le_trans hb h2, h3⟩⟩
theorem OwnW.row {w : World} {B : Nat} {a : Option Addr} {c : Nat} {l : List Wt} (h : OwnW w B a c l) (hl : ∀ r ∈ l, True) : RowW w a l := by
  refine ⟨hl, fun i q hi => ?_⟩
  have hlt : i < l.length := (List.getElem?_eq_some_iff.1 hi).1
  obtain ⟨h1, h2⟩ := h
  rcases h2 with ⟨h3, h4⟩ | ⟨g, cap, cur, h3, h4, h5, h6, h7, h8, h9⟩
  · omega
  · simp only [Value.slice.injEq] at h3
    obtain ⟨rfl, _, rfl⟩ := h3
    have B : Blk w g 28 cur := h5
    refine ⟨g, 0, rfl, B.lt, fun j v hj => B.cell _ v ?_⟩
    have hj' : j < 22 := (Array.getElem?_eq_some_iff.1 hj).1
    have h10 := wt_get (fun q : Wt => q.v.toList) 22 wtv_len l i j q hi hj'
    have h11 : (cur.toList.take (l.length * 22))[i * 22 + j]? = q.v.toList[j]? := by rw [h9]; exact h10
    rw [List.getElem?_take_of_lt (by omega)] at h11
    rw [Array.getElem?_toList] at h11
    rw [Nat.zero_add, h11]
    simpa using hj
theorem OwnW.lt {w : World} {B : Nat} {a : Option Addr} {c : Nat} {l : List Wt} (h : OwnW w B a c l) : ∀ y, a = some y → B ≤ y.block := by
  intro y hy
  obtain ⟨h1, h2⟩ := h
  rcases h2 with ⟨h2, _⟩ | ⟨g, cap, cur, h3, h4, h5, h6⟩
  · simp only [Value.slice.injEq] at h2
    rw [h2.1] at hy
    cases hy
  · simp only [Value.slice.injEq] at h3
    rw [h3.1] at hy
    cases hy
    exact h4
/-- Its block, and what lies there. -/
theorem OwnW.blk {w : World} {B g c : Nat} {l : List Wt} (h : OwnW w B (some ⟨g, 0, none⟩) c l) : ∃ cur, Blk w g 28 cur ∧ cur.size = c * 22 ∧ B ≤ g ∧ l.length ≤ c ∧ c ≤ maxLen ∧ ∀ i q j, l[i]? = some q → j < 22 → cur[i * 22 + j]? = q.v[j]? := by
  obtain ⟨h1, h2⟩ := h
  rcases h2 with ⟨h3, h4⟩ | ⟨g', cap, cur, h3, h4, h5, h6, h7, h8, h9⟩
  · cases h3
  · simp only [Value.slice.injEq, Option.some.injEq, Addr.mk.injEq] at h3
    obtain ⟨⟨rfl, _, _⟩, _, rfl⟩ := h3
    refine ⟨cur, h5, h8, h4, h6, h7, fun i q j hi hj => ?_⟩
    have hlt : i < l.length := (List.getElem?_eq_some_iff.1 hi).1
    have h10 := wt_get (fun q : Wt => q.v.toList) 22 wtv_len l i j q hi hj
    have h11 : (cur.toList.take (l.length * 22))[i * 22 + j]? = q.v.toList[j]? := by rw [h9]; exact h10
    rw [List.getElem?_take_of_lt (by omega)] at h11
    rw [Array.getElem?_toList] at h11
    rw [h11]
    simp
theorem take_wts {cur : Array Value} {l : List Wt} (hs : l.length * 22 ≤ cur.size) (h : ∀ i q j, l[i]? = some q → j < 22 → cur[i * 22 + j]? = q.v[j]?) : cur.toList.take (l.length * 22) = pcW l := by
  have hlen : (pcW l).length = l.length * 22 := wt_len _ 22 wtv_len l
  apply List.ext_getElem?
  intro m
  by_cases hm : m < l.length * 22
  · rw [List.getElem?_take_of_lt hm, Array.getElem?_toList]
    obtain ⟨q, hq⟩ : ∃ q, l[m / 22]? = some q := ⟨_, List.getElem?_eq_getElem (by omega)⟩
    have h1 := h (m / 22) q (m % 22) hq (by omega)
    have h2 := wt_get (fun q : Wt => q.v.toList) 22 wtv_len l (m / 22) (m % 22) q hq (by omega)
    rw [show m / 22 * 22 + m % 22 = m by omega] at h1 h2
    rw [h1, h2]
    simp
  · rw [List.getElem?_eq_none (by simp; omega), List.getElem?_eq_none (by rw [hlen]; omega)]
theorem OwnW.mk' {w : World} {B g c : Nat} {l : List Wt} {cur : Array Value} (hb : Blk w g 28 cur) (hs : cur.size = c * 22) (hB : B ≤ g) (hl : l.length ≤ c) (hc : c ≤ maxLen) (h : ∀ i q j, l[i]? = some q → j < 22 → cur[i * 22 + j]? = q.v[j]?) : OwnW w B (some ⟨g, 0, none⟩) c l :=
  ⟨wt_len _ 22 wtv_len l, .inr ⟨g, c, cur, rfl, hB, hb, hl, hc, hs, take_wts (by omega) h⟩⟩
theorem OwnW.le {w : World} {B : Nat} {a : Option Addr} {c : Nat} {l : List Wt} (h : OwnW w B a c l) : l.length ≤ c := by
  obtain ⟨h1, h2⟩ := h
  rcases h2 with ⟨h3, h4⟩ | ⟨g, cap, cur, h3, h4, h5, h6, h7⟩
  · omega
  · simp only [Value.slice.injEq] at h3
    obtain ⟨_, _, rfl⟩ := h3
    exact h6
theorem OwnW.at_ {w w' : World} {B : Nat} {a : Option Addr} {c : Nat} {l : List Wt} (h : OwnW w B a c l) (hb : ∀ y, a = some y → w'.heap[y.block]? = w.heap[y.block]?) : OwnW w' B a c l := by
  obtain ⟨h1, h2⟩ := h
  refine ⟨h1, ?_⟩
  rcases h2 with h2 | ⟨g, cap, cur, h3, h4, h5, h6⟩
  · exact .inl h2
  · have h3' := h3
    simp only [Value.slice.injEq] at h3'
    exact .inr ⟨g, cap, cur, h3, h4, (hb ⟨g, 0, none⟩ h3'.1).trans h5, h6⟩
theorem OwnW.lt_size {w : World} {B : Nat} {a : Option Addr} {c : Nat} {l : List Wt} (h : OwnW w B a c l) : ∀ y, a = some y → y.block < w.heap.size := by
  intro y hy
  obtain ⟨h1, h2⟩ := h
  rcases h2 with ⟨h2, _⟩ | ⟨g, cap, cur, h3, h4, h5, h6⟩
  · simp only [Value.slice.injEq] at h2
    rw [h2.1] at hy; cases hy
  · simp only [Value.slice.injEq] at h3
    rw [h3.1] at hy; cases hy
    exact (Array.getElem?_eq_some_iff.1 h5).1
theorem setMany_sizeW : ∀ (vs : List Value) (cur : Array Value) (j : Nat), (setMany cur j vs).size = cur.size
  | [], cur, j => rfl
  | v :: vs, cur, j => by rw [setMany, setMany_sizeW vs]; simp
theorem setMany_atW : ∀ (vs : List Value) (cur : Array Value) (j i : Nat), (setMany cur j vs)[i]? = if j ≤ i ∧ i < j + vs.length ∧ i < cur.size then vs[i - j]? else cur[i]?
  | [], cur, j, i => by
    rw [setMany, if_neg (by simp; omega)]
  | v :: vs, cur, j, i => by
    rw [setMany, setMany_atW vs, Array.size_setIfInBounds, Array.getElem?_setIfInBounds]
    by_cases h1 : j + 1 ≤ i ∧ i < j + 1 + vs.length ∧ i < cur.size
    · rw [if_pos h1, if_pos (by simp; omega), show i - j = (i - (j + 1)) + 1 by omega, List.getElem?_cons_succ]
    · rw [if_neg h1]
      by_cases h2 : j = i
      · subst h2
        rw [if_pos rfl]
        by_cases h3 : j < cur.size
        · rw [if_pos h3, if_pos (by simp; omega)]
          simp
        · rw [if_neg h3, if_neg (by omega)]
          exact (Array.getElem?_eq_none (by omega)).symm
      · rw [if_neg h2, if_neg (by simp only [List.length_cons]; omega)]
theorem OwnW.put {w : World} {B g c : Nat} {l : List Wt} (h : OwnW w B (some ⟨g, 0, none⟩) c l) (k : Nat) (p : Wt) (hk : k < l.length) : ∃ cur, Blk w g 28 cur ∧ k * 22 + 22 ≤ cur.size ∧ B ≤ g ∧ OwnW (w.setRow g (setMany cur (k * 22) p.v.toList)) B (some ⟨g, 0, none⟩) c (l.set k p) := by
  obtain ⟨cur, hb, hs, hBg, hlc, hcm, hel⟩ := h.blk
  refine ⟨cur, hb, by omega, hBg, OwnW.mk' (hb.set _) (by rw [setMany_sizeW]; exact hs) hBg (by simpa using hlc) hcm (fun i q j hi hj => ?_)⟩
  rw [setMany_atW]
  by_cases e : i = k
  · subst e
    rw [List.getElem?_set_self hk] at hi
    cases hi
    rw [if_pos (by simp; omega), show i * 22 + j - i * 22 = j by omega]
    simp
  · rw [List.getElem?_set_ne (fun x => e x.symm)] at hi
    rw [if_neg (by simp; omega)]
    exact hel i q j hi hj
theorem slice_blkW (a : Option Addr) (n c : Nat) : (Value.slice a n c).ownBlock = a.map (·.block) := by
  cases a with
  | none => rfl
  | some x => cases x; rfl
theorem run_appW1 (w : World) (ty : TypeId) (B : Nat) (a : Option Addr) (c : Nat) (xs : List Wt) (hown : OwnW w B a c xs) (g0 cc : Nat) (t0 : TypeId) (y : Wt) (hy : Blk w g0 t0 y.v) (hn : xs.length + 1 ≤ 1000000) (hB : B ≤ w.heap.size) :
    ∃ g c' w', (Builtin.append_ #[39, 39] ty #[.slice a xs.length c, .slice (some ⟨g0, 0, none⟩) 1 cc]).run Try.prog w = .ok (.slice (some ⟨g, 0, none⟩) (xs.length + 1) c') w' ∧ OwnW w' B (some ⟨g, 0, none⟩) c' (xs ++ [y]) ∧ w.grownBy w' (a.map (·.block)) ∧ Below B w w' := by
  obtain ⟨i0, hi, hz0, hz1, hz2⟩ := info_parts info_want
  obtain ⟨g, cap, w', h1, h2, h3, h4, h5⟩ := run_append_lies (P := Try.prog) w 39 ty B 28 i0 _ 22 176 Try.underlying39 hi hz0 hz1 hz2 rfl (by decide) (.slice a xs.length c) xs.length (pcW xs) hown ⟨g0, 0, none⟩ 1 cc y.v.toList (by simp) (World.news_of_block hy) (wtv_one y) (by decide) (by unfold maxLen; omega) (by omega) hB _ rfl
  rw [slice_blkW] at h3
  refine ⟨g, cap, w', h1, ?_, h3, (Below.refl _ _).grown h3 hB fun j hj => ?_⟩
  · show w'.ownsRow B 28 22 _ (xs ++ [y]).length (pcW (xs ++ [y]))
    have e : pcW (xs ++ [y]) = pcW xs ++ y.v.toList := by simp [pcW]
    rw [List.length_append, e]
    exact h2
  · cases a with
    | none => cases hj
    | some ad => simp only [Option.map_some, Option.some.injEq] at hj; rw [← hj]; exact OwnW.lt hown ad rfl
theorem step_rnW {ops : Array Oper} {o : Oper} {ac : Act} {K : Act → World → Prop} {Q : Exit → Act → World → Prop} {Z : Prop} {w : World} (hgd : o.guard = none) (t : TypeId) (s x : Operand)
    (ho : o.op = .call { callee := .builtin .append, args := #[s, x], argTypes := #[t, t] }) (v1 v2 : Value) (hs : ac.eval s = v1) (hx : ac.eval x = v2) (r : Value) (w' : World)
    (hrun : (Builtin.append_ #[t, t] o.type #[v1, v2]).run Try.prog w = .ok r w') (h : K (ac.put o.dst r) w') : if Region.wanted o (yielded ops ac.tmps) = true then Oper.wp Try.prog o ac w K Q else Z := by
  have hw : Region.wanted o (yielded ops ac.tmps) = true := by simp [Region.wanted, hgd]
  rw [if_pos hw]
  unfold Oper.wp execOp
  simp only [ho, resolve, invoke, builtin, Sem.run_bind, Sem.run_pure, Result.andThen_ok, List.map_toArray, List.map_cons, List.map_nil, hs, hx, hrun]
  exact h
end Go.Proofs.Ytmflogmocgbmhaa
