/- Texts joined: CkI CkJ -/
import Derived.Test.YtcoldgpnkdallaaDoorRxa12
import Derived.Test.YtcoldgpnkdallaaDoorShelf
import Derived.Sort.OwnSortedInts
namespace Go.Proofs.YtcoldgpnkdallaaDoor
open Go.RowKit
set_option linter.unusedVariables false
set_option linter.unusedSimpArgs false
theorem info_point : (Tryd.prog.info? 91).map (fun i => (i.zero, i.size, i.bytes)) = some (some (.agg z3), 3, 24) := by kernel_rfl
abbrev pc3 (L : List Pt) : List Value := L.flatMap fun q => q.v.toList
theorem ptv_len (q : Pt) : q.v.toList.length = 3 := rfl
theorem ptv_one (y : Pt) : ∀ u ∈ y.v.toList, u.oneCell' = true := by
  intro u hu
  simp only [List.mem_cons, List.not_mem_nil, or_false] at hu
  rcases hu with rfl | rfl | rfl <;> rfl
abbrev RowP (w : World) (a : Option Addr) (l : List Pt) : Prop := RowN 3 Pt.v (fun _ r => r.ok) w a l
theorem RowP.low {w w' : World} {a : Option Addr} {l : List Pt} (h : RowP w a l) (hb : Below w.heap.size w w') : RowP w' a l := RowN.below (fun h _ => h) h hb
/-- A slice of points of one's own. -/
def OwnP (w : World) (B : Nat) (a : Option Addr) (c : Nat) (L : List Pt) : Prop := w.ownsRow B 91 3 (.slice a L.length c) L.length (pc3 L)
theorem OwnP.below {w w' : World} {B : Nat} {a : Option Addr} {c : Nat} {l : List Pt} (h : OwnP w B a c l) (hb : Below w.heap.size w w') : OwnP w' B a c l := by
  obtain ⟨h1, h2⟩ := h
  refine ⟨h1, ?_⟩
  rcases h2 with h2 | ⟨g, cap, cur, h3, h4, h5, h6⟩
  · exact .inl h2
  · refine .inr ⟨g, cap, cur, h3, h4, (hb.block g ?_).trans h5, h6⟩
    exact (Array.getElem?_eq_some_iff.1 h5).1
theorem OwnP.base {w : World} {B B' : Nat} {a : Option Addr} {c : Nat} {l : List Pt} (h : OwnP w B a c l) (hb : B' ≤ B) : OwnP w B' a c l :=
  ⟨h.1, h.2.imp id fun ⟨g, cap, cur, h1, h2, h3⟩ => ⟨g, cap, cur, h1, Nat.le_trans hb h2, h3⟩⟩
theorem OwnP.row {w : World} {B : Nat} {a : Option Addr} {c : Nat} {l : List Pt} (h : OwnP w B a c l) (hl : ∀ r ∈ l, r.ok) : RowP w a l := by
  refine ⟨hl, fun i q hi => ?_⟩
  have hlt : i < l.length := (List.getElem?_eq_some_iff.1 hi).1
  obtain ⟨h1, h2⟩ := h
  rcases h2 with ⟨h3, h4⟩ | ⟨g, cap, cur, h3, h4, h5, h6, h7, h8, h9⟩
  · omega
  · simp only [Value.slice.injEq] at h3
    obtain ⟨rfl, _, rfl⟩ := h3
    have B : Blk w g 91 cur := h5
    refine ⟨g, 0, rfl, B.lt, fun j v hj => B.cell _ v ?_⟩
    have hj' : j < 3 := (Array.getElem?_eq_some_iff.1 hj).1
    have h10 := fl_get (fun q : Pt => q.v.toList) 3 ptv_len l i j q hi hj'
    have h11 : (cur.toList.take (l.length * 3))[i * 3 + j]? = q.v.toList[j]? := by rw [h9]; exact h10
    rw [List.getElem?_take_of_lt (by omega)] at h11
    rw [Array.getElem?_toList] at h11
    rw [Nat.zero_add, h11]
    simpa using hj
theorem OwnP.lt {w : World} {B : Nat} {a : Option Addr} {c : Nat} {l : List Pt} (h : OwnP w B a c l) : ∀ y, a = some y → B ≤ y.block := by
  intro y hy
  obtain ⟨h1, h2⟩ := h
  rcases h2 with ⟨h2, _⟩ | ⟨g, cap, cur, h3, h4, h5, h6⟩
  · simp only [Value.slice.injEq] at h2
    rw [h2.1] at hy
    cases hy
  · simp only [Value.slice.injEq] at h3
    rw [h3.1] at hy
    cases hy
    exact h4
/-- Its block, and what lies there. -/
theorem OwnP.blk {w : World} {B g c : Nat} {l : List Pt} (h : OwnP w B (some ⟨g, 0, none⟩) c l) : ∃ cur, Blk w g 91 cur ∧ cur.size = c * 3 ∧ B ≤ g ∧ l.length ≤ c ∧ c ≤ maxLen ∧ ∀ i q j, l[i]? = some q → j < 3 → cur[i * 3 + j]? = q.v[j]? := by
  obtain ⟨h1, h2⟩ := h
  rcases h2 with ⟨h3, h4⟩ | ⟨g', cap, cur, h3, h4, h5, h6, h7, h8, h9⟩
  · cases h3
  · simp only [Value.slice.injEq, Option.some.injEq, Addr.mk.injEq] at h3
    obtain ⟨⟨rfl, _, _⟩, _, rfl⟩ := h3
    refine ⟨cur, h5, h8, h4, h6, h7, fun i q j hi hj => ?_⟩
    have hlt : i < l.length := (List.getElem?_eq_some_iff.1 hi).1
    have h10 := fl_get (fun q : Pt => q.v.toList) 3 ptv_len l i j q hi hj
    have h11 : (cur.toList.take (l.length * 3))[i * 3 + j]? = q.v.toList[j]? := by rw [h9]; exact h10
    rw [List.getElem?_take_of_lt (by omega)] at h11
    rw [Array.getElem?_toList] at h11
    rw [h11]
    simp
theorem take_pts {cur : Array Value} {l : List Pt} (hs : l.length * 3 ≤ cur.size) (h : ∀ i q j, l[i]? = some q → j < 3 → cur[i * 3 + j]? = q.v[j]?) : cur.toList.take (l.length * 3) = pc3 l := by
  have hlen : (pc3 l).length = l.length * 3 := fl_len _ 3 ptv_len l
  apply List.ext_getElem?
  intro m
  by_cases hm : m < l.length * 3
  · rw [List.getElem?_take_of_lt hm, Array.getElem?_toList]
    obtain ⟨q, hq⟩ : ∃ q, l[m / 3]? = some q := ⟨_, List.getElem?_eq_getElem (by omega)⟩
    have h1 := h (m / 3) q (m % 3) hq (by omega)
    have h2 := fl_get (fun q : Pt => q.v.toList) 3 ptv_len l (m / 3) (m % 3) q hq (by omega)
    rw [show m / 3 * 3 + m % 3 = m by omega] at h1 h2
    rw [h1, h2]
    simp
  · rw [List.getElem?_eq_none (by simp; omega), List.getElem?_eq_none (by rw [hlen]; omega)]
theorem OwnP.mk' {w : World} {B g c : Nat} {l : List Pt} {cur : Array Value} (hb : Blk w g 91 cur) (hs : cur.size = c * 3) (hB : B ≤ g) (hl : l.length ≤ c) (hc : c ≤ maxLen) (h : ∀ i q j, l[i]? = some q → j < 3 → cur[i * 3 + j]? = q.v[j]?) : OwnP w B (some ⟨g, 0, none⟩) c l :=
  ⟨fl_len _ 3 ptv_len l, .inr ⟨g, c, cur, rfl, hB, hb, hl, hc, hs, take_pts (by omega) h⟩⟩
/-- append(v, x) of one point, which lies in a new block. -/
theorem wpList_appP {ops : Array Oper} {rest : List Oper} {o : Oper} {ac : Act} {Q : Exit → Act → World → Prop} (w : World) (hgd : o.guard = none) (s x : Operand)
    (ho : o.op = .call { callee := .builtin .append, args := #[s, x], argTypes := #[61, 61] })
    (B : Nat) (a : Option Addr) (c : Nat) (xs : List Pt) (hs : ac.eval s = .slice a xs.length c) (hown : OwnP w B a c xs)
    (g0 cc : Nat) (y : Pt) (hx : ac.eval x = .slice (some ⟨g0, 0, none⟩) 1 cc) (hc : CellsAt w g0 0 y.v)
    (hsum : xs.length + 1 ≤ 10000000) (hbase : B ≤ w.heap.size)
    (h : ∀ g c' w', OwnP w' B (some ⟨g, 0, none⟩) c' (xs ++ [y]) → Below B w w' → w.grownBy w' (a.map (·.block)) → wpList Tryd.prog ops Q rest (ac.put o.dst (.slice (some ⟨g, 0, none⟩) (xs.length + 1) c')) w') : wpList Tryd.prog ops Q (o :: rest) ac w := by
  obtain ⟨i0, hi, hz0, hz1, hz2⟩ := info_parts info_point
  refine wpList_append_lies w hgd s x 61 ho B 91 i0 (.agg z3) 3 24 Tryd.underlying61 hi hz0 hz1 hz2 rfl (by decide) (.slice a xs.length c) xs.length (pc3 xs) hs hown ⟨g0, 0, none⟩ 1 cc y.v.toList hx (by simp) ?_ (ptv_one y) (by decide) (by unfold maxLen; omega) (by omega) hbase _ rfl ?_
  · intro j u hj
    have := hc.2 j u (by simpa using hj)
    rw [show (⟨g0, 0, none⟩ : Addr).add j = ⟨g0, 0 + j, none⟩ from Go.WideShapes.add_plain ..]
    exact this
  · intro g cap w' h1 h2 h3 h4
    have hbk : (Value.slice a xs.length c).ownBlock = a.map (·.block) := by
      cases a with
      | none => rfl
      | some ad' => cases ad'; rfl
    refine h g cap w' ?_ ((Below.refl _ _).grown h2 hbase fun k hk => ?_) (hbk ▸ h2)
    · show w'.ownsRow B 91 3 _ (xs ++ [y]).length (pc3 (xs ++ [y]))
      have e : pc3 (xs ++ [y]) = pc3 xs ++ y.v.toList := by simp [pc3]
      rw [List.length_append, e]
      exact h1
    · cases a with
      | none => cases hk
      | some ad' =>
        have e : ad'.block = k := by
          cases ad'
          simpa [Value.ownBlock] using hk
        rw [← e]
        exact OwnP.lt hown ad' rfl
theorem Blk.far {w w' : World} {g : Nat} {t : TypeId} {cs : Array Value} {x : Option Nat} (h : Blk w g t cs) (hg : w.grownBy w' x) (hx : x ≠ some g) : Blk w' g t cs :=
  (hg.block g h.lt (fun e => hx e.symm)).trans h

/-! ### doubles struck -/
instance : DecidableEq Pt := fun p q => decidable_of_iff (p.same q = true) Pt.same_iff
def ddS (l : List Pt) (n : Nat) : List Pt := match l[n]? with
  | some p => if n = 0 ∨ l[n - 1]? ≠ some p then [p] else []
  | none => []
def ddN (l : List Pt) : Nat → List Pt
  | 0 => []
  | n + 1 => ddN l n ++ ddS l n
def ddL (l : List Pt) : List Pt := ddN l l.length
theorem ddS_new {l : List Pt} {n : Nat} {p : Pt} (h : l[n]? = some p) (h' : n = 0 ∨ l[n - 1]? ≠ some p) : ddS l n = [p] := by
  unfold ddS
  rw [h]
  simp only
  rw [if_pos h']
theorem ddS_old {l : List Pt} {n : Nat} {p : Pt} (h : l[n]? = some p) (hn : n ≠ 0) (h' : l[n - 1]? = some p) : ddS l n = [] := by
  unfold ddS
  rw [h]
  simp only
  rw [if_neg (by intro x; rcases x with x | x; exact hn x; exact x h')]
theorem ddN_mem (l : List Pt) : ∀ n, n ≤ l.length → ∀ p, p ∈ ddN l n ↔ p ∈ l.take n
  | 0, _, p => by simp [ddN]
  | n + 1, h, p => by
    obtain ⟨q, hq⟩ : ∃ q, l[n]? = some q := ⟨_, List.getElem?_eq_getElem (by omega)⟩
    have ht : l.take (n + 1) = l.take n ++ [q] := by rw [List.take_add_one, hq]; rfl
    rw [ddN, ht, List.mem_append, List.mem_append, ddN_mem l n (by omega) p]
    by_cases h' : n = 0 ∨ l[n - 1]? ≠ some q
    · rw [ddS_new hq h']
    · have h1 : n ≠ 0 := fun e => h' (.inl e)
      have h2 : l[n - 1]? = some q := by
        by_cases e : l[n - 1]? = some q
        · exact e
        · exact absurd (.inr e) h'
      rw [ddS_old hq h1 h2]
      have : q ∈ l.take n := List.mem_of_getElem? (i := n - 1) (by rw [List.getElem?_take_of_lt (by omega)]; exact h2)
      constructor
      · rintro (x | x)
        · exact .inl x
        · cases x
      · rintro (x | x)
        · exact .inl x
        · simp only [List.mem_singleton] at x
          subst x
          exact .inl this
theorem ddN_sorted (l : List Pt) (hok : ∀ p ∈ l, p.ok) (hs : l.Pairwise fun p q => p.n ≤ q.n) : ∀ n, n ≤ l.length → (ddN l n).Pairwise fun p q => p.n < q.n
  | 0, _ => by simp [ddN]
  | n + 1, h => by
    obtain ⟨q, hq⟩ : ∃ q, l[n]? = some q := ⟨_, List.getElem?_eq_getElem (by omega)⟩
    rw [ddN]
    by_cases h' : n = 0 ∨ l[n - 1]? ≠ some q
    · rw [ddS_new hq h', List.pairwise_append]
      refine ⟨ddN_sorted l hok hs n (by omega), by simp, fun p hp x hx => ?_⟩
      simp only [List.mem_singleton] at hx
      subst hx
      have hp' := (ddN_mem l n (by omega) p).1 hp
      obtain ⟨i, hi⟩ := List.getElem?_of_mem hp'
      have hin : i < n := by
        have := (List.getElem?_eq_some_iff.1 hi).1
        simp at this
        omega
      rw [List.getElem?_take_of_lt hin] at hi
      rcases h' with h' | h'
      · omega
      obtain ⟨y, hy⟩ : ∃ y, l[n - 1]? = some y := ⟨_, List.getElem?_eq_getElem (by omega)⟩
      have pw := List.pairwise_iff_getElem.1 hs
      obtain ⟨i1, i2⟩ := List.getElem?_eq_some_iff.1 hi
      obtain ⟨y1, y2⟩ := List.getElem?_eq_some_iff.1 hy
      obtain ⟨x1, x2⟩ := List.getElem?_eq_some_iff.1 hq
      have h1 : y.n ≤ x.n := by
        have := pw (n - 1) n y1 x1 (by omega)
        rw [y2, x2] at this
        exact this
      have h2 : p.n ≤ y.n := by
        by_cases e : i = n - 1
        · subst e
          rw [hi] at hy
          cases hy
          exact Int.le_refl _
        · have := pw i (n - 1) i1 y1 (by omega)
          rw [i2, y2] at this
          exact this
      have h3 : y.n ≠ x.n := fun e => h' (by rw [hy, Pt.n_inj (hok y (List.mem_of_getElem? hy)) (hok x (List.mem_of_getElem? hq)) e])
      omega
    · have h1 : n ≠ 0 := fun e => h' (.inl e)
      have h2 : l[n - 1]? = some q := by
        by_cases e : l[n - 1]? = some q
        · exact e
        · exact absurd (.inr e) h'
      rw [ddS_old hq h1 h2, List.append_nil]
      exact ddN_sorted l hok hs n (by omega)
theorem ddN_len (l : List Pt) : ∀ n, (ddN l n).length ≤ n
  | 0 => by simp [ddN]
  | n + 1 => by
    have := ddN_len l n
    have h : (ddS l n).length ≤ 1 := by
      unfold ddS
      split
      · split <;> simp
      · simp
    rw [ddN, List.length_append]
    omega
theorem ddN_take (l : List Pt) {n : Nat} (h : ddN l n = l.take n) {p : Pt} (hp : l[n]? = some p) (hn : n = 0 ∨ l[n - 1]? ≠ some p) : ddN l (n + 1) = l.take (n + 1) := by
  rw [ddN, h, ddS_new hp hn, List.take_add_one, hp]
  rfl
instance : Inhabited Pt := ⟨pt0⟩
abbrev encP (p : Pt) : List Value := p.v.toList
theorem ord_less (x y : Pt) : ltOf ordP x y = x.less y := by
  unfold ltOf ordP
  cases h : x.less y
  · cases h' : y.less x <;> simp
  · simp
theorem less_tt {x y : Pt} : x.less y = true ↔ x.a < y.a ∨ x.a = y.a ∧ (x.b < y.b ∨ x.b = y.b ∧ x.c < y.c) := by
  simp only [Pt.less, Bool.or_eq_true, Bool.and_eq_true, decide_eq_true_eq, beq_iff_eq]
theorem less_ff {x y : Pt} : x.less y = false ↔ ¬ (x.a < y.a ∨ x.a = y.a ∧ (x.b < y.b ∨ x.b = y.b ∧ x.c < y.c)) := by
  rw [← less_tt]
  simp
theorem swoP : Sort.SWO (ltOf ordP) where
  irrefl x := by rw [ord_less, less_ff]; omega
  trans x y z h1 h2 := by rw [ord_less, less_tt] at *; omega
  ntrans x y z h1 h2 := by rw [ord_less, less_ff] at *; omega
theorem flat_get (d : Array Pt) (i j : Nat) (hi : i < d.size) (hj : j < 3) : (Sort.flatK encP 3 d)[i * 3 + j]! = (d[i]!).v[j]! := by
  rw [Sort.get_flatK _ _ _ _ (by omega), show (i * 3 + j) / 3 = i by omega, show (i * 3 + j) % 3 = j by omega]
  simp [encP]
theorem heap_sortedP {w : World} {g n : Nat} {os : Array Obj} {cur : Array Value} {e : TypeId} (d : Array Pt) (hb : Blk w g e cur) :
    Blk (sortWorldK encP 3 w g 0 n d os) g e (Sort.putCells id 0 (Sort.flatK encP 3 d) cur) := by
  have hb' : w.heap[g]? = some (.cells cur e (0, 0)) := hb
  have hg : g < w.heap.size := hb.lt
  show (Sort.grow (Sort.putRow id (Sort.ahead w n) g 0 (Sort.flatK encP 3 d)) os).heap[g]? = _
  rw [Sort.heap_grow_old _ _ (by simpa using hg)]
  simp [Sort.putRow, Sort.mapBlock, Sort.ahead, Array.getElem?_modify, hb', Sort.onCells]
theorem grownBy_sortedP {w : World} {g n : Nat} {os : Array Obj} (d : Array Pt) : w.grownBy (sortWorldK encP 3 w g 0 n d os) (some g) := by
  show w.grownBy (Sort.grow (Sort.putRow id (Sort.ahead w n) g 0 (Sort.flatK encP 3 d)) os) (some g)
  refine ⟨rfl, rfl, rfl, by simp, fun k hk hne => ?_⟩
  rw [Sort.heap_grow_old _ _ (by simpa using hk)]
  have : g ≠ k := fun e => hne (by rw [e])
  simp [Sort.putRow, Sort.mapBlock, Sort.ahead, Array.getElem?_modify, this]
theorem cmpL (blk off size : Nat) (w : World) : CmpLays Tryd.prog 78 #[] encP 3 ordP blk off size w := fun m os dk hk x y => by
  have := order_any x y (sortWorldK encP 3 w blk off m dk os)
  exact this
theorem sort_pts (W : World) (B g c : Nat) (l : List Pt) (h : OwnP W B (some ⟨g, 0, none⟩) c l) (hB : B ≤ W.heap.size) (hok : ∀ p ∈ l, p.ok) (hll : l.length ≤ 1048576) :
    Calls Tryd.prog 77 #[.slice (some ⟨g, 0, none⟩) l.length c, .func (.func 78) #[] #[]] W fun e w' => e = .returned (.tuple #[]) ∧ ∃ l' : List Pt, l'.Perm l ∧ (l'.Pairwise fun p q => p.n ≤ q.n) ∧ OwnP w' B (some ⟨g, 0, none⟩) c l' ∧ Below B W w' := by
  obtain ⟨cur, hb, hs, hBg, hlc, hcm, hel⟩ := h.blk
  have hH : Sort.HoldsK encP 3 W g 0 l.toArray := fun t ht => by
    rw [Sort.size_flatK] at ht
    have hi : t / 3 < l.length := by simp at ht; omega
    have hq : l[t / 3]? = some l[t / 3] := List.getElem?_eq_getElem hi
    have h1 := hel (t / 3) _ (t % 3) hq (by omega)
    rw [show t / 3 * 3 + t % 3 = t by omega] at h1
    have h2 := flat_get l.toArray (t / 3) (t % 3) (by simpa using hi) (by omega)
    rw [show t / 3 * 3 + t % 3 = t by omega] at h2
    rw [Nat.zero_add, h2]
    have e1 : l.toArray[t / 3]! = l[t / 3] := by rw [getElem!_pos _ _ (by simpa using hi)]; simp
    rw [e1]
    refine ⟨?_, hb.frozen t⟩
    refine hb.cell t _ ?_
    rw [h1]
    rw [getElem!_pos _ _ (by show t % 3 < 3; omega)]
    exact Array.getElem?_eq_getElem _
  have K := Tryd.slices_SortFunc_Pt encP (fun _ => rfl) ptv_one ordP swoP 78 #[] g 0 c l.toArray W Tryd.call78 (cmpL g 0 _ W) hH hb.lt (by simp; omega)
  rw [show l.toArray.size = l.length by simp] at K
  refine Calls.mono K ?_
  rintro e w' ⟨rfl, d', n, os, hp, hso, rfl⟩
  have hsz : d'.size = l.length := by simpa using hp.1
  have hperm : d'.toList.Perm l := by
    have h2 := hp.2.2
    have e1 : d'.extract 0 l.length = d' := by rw [← hsz]; simp
    have e2 : l.toArray.extract 0 l.length = l.toArray := by simp
    rw [e1, e2] at h2
    simpa using h2
  refine ⟨rfl, d'.toList, hperm, ?_, ?_, ?_⟩
  · rw [List.pairwise_iff_getElem]
    intro i j hi hj hij
    have hi' : i < d'.size := by simpa using hi
    have hj' : j < d'.size := by simpa using hj
    have := hso i j (Nat.zero_le _) hij (by omega)
    rw [ord_less, getElem!_pos d' i hi', getElem!_pos d' j hj'] at this
    have o1 := hok _ (hperm.mem_iff.1 (by simp : d'[i] ∈ d'.toList))
    have o2 := hok _ (hperm.mem_iff.1 (by simp : d'[j] ∈ d'.toList))
    have h3 := Pt.less_iff o2 o1
    simp only [Array.getElem_toList]
    rw [this] at h3
    have : ¬ d'[j].n < d'[i].n := fun x => by simpa using h3.2 x
    omega
  · refine OwnP.mk' (heap_sortedP d' hb) (by simp [Sort.putCells, hs]) hBg (by simpa [hsz] using hlc) hcm (fun i q j hi hj => ?_)
    have hi' : i < d'.size := by simpa using (List.getElem?_eq_some_iff.1 hi).1
    have hq : d'[i]! = q := by
      rw [getElem!_pos d' i hi']
      have := (List.getElem?_eq_some_iff.1 hi).2
      simpa using this
    have hF := flat_get d' i j hi' hj
    have hlt : i * 3 + j < cur.size := by omega
    have hlt' : i * 3 + j < 0 + (Sort.flatK encP 3 d').size := by rw [Sort.size_flatK]; omega
    rw [hq] at hF
    have : (Sort.putCells id 0 (Sort.flatK encP 3 d') cur)[i * 3 + j]? = some (Sort.flatK encP 3 d')[i * 3 + j]! := by
      unfold Sort.putCells
      rw [Array.getElem?_mapIdx, Array.getElem?_eq_getElem hlt]
      simp only [Option.map_some, id]
      rw [if_pos ⟨Nat.zero_le _, hlt'⟩, Nat.sub_zero]
    rw [this, hF, getElem!_pos _ _ (by show j < 3; exact hj)]
    exact (Array.getElem?_eq_getElem _).symm
  · exact (Below.refl _ _).grown (grownBy_sortedP d') hB (fun k hk => by cases hk; exact hBg)
end Go.Proofs.YtcoldgpnkdallaaDoor
