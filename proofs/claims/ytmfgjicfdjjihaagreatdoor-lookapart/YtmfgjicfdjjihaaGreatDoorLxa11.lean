/- Texts joined: CkI CkJ CkK -/
import Derived.Test.YtmfgjicfdjjihaaGreatDoorLxa10
import Derived.Test.YtmfgjicfdjjihaaGreatDoorShelf
import Derived.Sort.OwnSortedInts
namespace Go.Proofs.YtmfgjicfdjjihaaGreatDoor
open Go.RowKit
set_option linter.unusedVariables false
set_option linter.unusedSimpArgs false
theorem info_point : (Tryz.prog.info? 86).map (fun i => (i.zero, i.size, i.bytes)) = some (some (.agg z3), 3, 24) := by kernel_rfl
abbrev pc3 (L : List Pt) : List Value := L.flatMap fun q => q.v.toList
theorem ptv_len (q : Pt) : q.v.toList.length = 3 := rfl
theorem ptv_one (y : Pt) : ∀ u ∈ y.v.toList, u.oneCell' = true := by
 intro u hu
 simp only [List.mem_cons, List.not_mem_nil, or_false] at hu
 rcases hu with rfl | rfl | rfl <;> rfl
abbrev RowP (w : World) (a : Option Addr) (l : List Pt) : Prop := RowN 3 Pt.v (fun _ r => r.ok) w a l
theorem RowP.low {w w' : World} {a : Option Addr} {l : List Pt} (h : RowP w a l) (hb : Below w.heap.size w w') : RowP w' a l := RowN.below (fun h _ => h) h hb
/-- A slice of points of one's own. -/
def OwnP (w : World) (B : Nat) (a : Option Addr) (c : Nat) (L : List Pt) : Prop := w.ownsRow B 86 3 (.slice a L.length c) L.length (pc3 L)
theorem OwnP.below {w w' : World} {B : Nat} {a : Option Addr} {c : Nat} {l : List Pt} (h : OwnP w B a c l) (hb : Below w.heap.size w w') : OwnP w' B a c l := by
 obtain ⟨h1, h2⟩ := h
 refine ⟨h1, ?_⟩
 rcases h2 with h2 | ⟨g, cap, cur, h3, h4, h5, h6⟩
 ·exact .inl h2
 ·refine .inr ⟨g, cap, cur, h3, h4, (hb.block g ?_).trans h5, h6⟩
  exact (Array.getElem?_eq_some_iff.1 h5).1
theorem OwnP.base {w : World} {B B' : Nat} {a : Option Addr} {c : Nat} {l : List Pt} (h : OwnP w B a c l) (hb : B' ≤ B) : OwnP w B' a c l :=
 ⟨h.1, h.2.imp id fun ⟨g, cap, cur, h1, h2, h3⟩ => ⟨g, cap, cur, h1, Nat.le_trans hb h2, h3⟩⟩
theorem OwnP.row {w : World} {B : Nat} {a : Option Addr} {c : Nat} {l : List Pt} (h : OwnP w B a c l) (hl : ∀ r ∈ l, r.ok) : RowP w a l := by
 refine ⟨hl, fun i q hi => ?_⟩
 have hlt : i < l.length := (List.getElem?_eq_some_iff.1 hi).1
 obtain ⟨h1, h2⟩ := h
 rcases h2 with ⟨h3, h4⟩ | ⟨g, cap, cur, h3, h4, h5, h6, h7, h8, h9⟩
 ·omega
 ·simp only [Value.slice.injEq] at h3
  obtain ⟨rfl, _, rfl⟩ := h3
  have B : Blk w g 86 cur := h5
  refine ⟨g, 0, rfl, B.lt, fun j v hj => B.cell _ v ?_⟩
  have hj' : j < 3 := (Array.getElem?_eq_some_iff.1 hj).1
  have h10 := fl_get (fun q : Pt => q.v.toList) 3 ptv_len l i j q hi hj'
  have h11 : (cur.toList.take (l.length * 3))[i * 3 + j]? = q.v.toList[j]? := by rw [h9]; exact h10
  rw [List.getElem?_take_of_lt (by omega)] at h11
  rw [Array.getElem?_toList] at h11
  rw [Nat.zero_add, h11]
  simpa using hj
theorem OwnP.lt {w : World} {B : Nat} {a : Option Addr} {c : Nat} {l : List Pt} (h : OwnP w B a c l) : ∀ y, a = some y → B ≤ y.block := by
 intro y hy
 obtain ⟨h1, h2⟩ := h
 rcases h2 with ⟨h2, _⟩ | ⟨g, cap, cur, h3, h4, h5, h6⟩
 ·simp only [Value.slice.injEq] at h2
  rw [h2.1] at hy
  cases hy
 ·simp only [Value.slice.injEq] at h3
  rw [h3.1] at hy
  cases hy
  exact h4
/-- Its block, and what lies there. -/
theorem OwnP.blk {w : World} {B g c : Nat} {l : List Pt} (h : OwnP w B (some ⟨g, 0, none⟩) c l) : ∃ cur, Blk w g 86 cur ∧ cur.size = c * 3 ∧ B ≤ g ∧ l.length ≤ c ∧ c ≤ maxLen ∧ ∀ i q j, l[i]? = some q → j < 3 → cur[i * 3 + j]? = q.v[j]? := by
 obtain ⟨h1, h2⟩ := h
 rcases h2 with ⟨h3, h4⟩ | ⟨g', cap, cur, h3, h4, h5, h6, h7, h8, h9⟩
 ·cases h3
 ·simp only [Value.slice.injEq, Option.some.injEq, Addr.mk.injEq] at h3
  obtain ⟨⟨rfl, _, _⟩, _, rfl⟩ := h3
  refine ⟨cur, h5, h8, h4, h6, h7, fun i q j hi hj => ?_⟩
  have hlt : i < l.length := (List.getElem?_eq_some_iff.1 hi).1
  have h10 := fl_get (fun q : Pt => q.v.toList) 3 ptv_len l i j q hi hj
  have h11 : (cur.toList.take (l.length * 3))[i * 3 + j]? = q.v.toList[j]? := by rw [h9]; exact h10
  rw [List.getElem?_take_of_lt (by omega)] at h11
  rw [Array.getElem?_toList] at h11
  rw [h11]
  simp
theorem take_pts {cur : Array Value} {l : List Pt} (hs : l.length * 3 ≤ cur.size) (h : ∀ i q j, l[i]? = some q → j < 3 → cur[i * 3 + j]? = q.v[j]?) : cur.toList.take (l.length * 3) = pc3 l := by
 have hlen : (pc3 l).length = l.length * 3 := fl_len _ 3 ptv_len l
 apply List.ext_getElem?
 intro m
 by_cases hm : m < l.length * 3
 ·rw [List.getElem?_take_of_lt hm, Array.getElem?_toList]
  obtain ⟨q, hq⟩ : ∃ q, l[m / 3]? = some q := ⟨_, List.getElem?_eq_getElem (by omega)⟩
  have h1 := h (m / 3) q (m % 3) hq (by omega)
  have h2 := fl_get (fun q : Pt => q.v.toList) 3 ptv_len l (m / 3) (m % 3) q hq (by omega)
  rw [show m / 3 * 3 + m % 3 = m by omega] at h1 h2
  rw [h1, h2]
  simp
 ·rw [List.getElem?_eq_none (by simp; omega), List.getElem?_eq_none (by rw [hlen]; omega)]
theorem OwnP.mk' {w : World} {B g c : Nat} {l : List Pt} {cur : Array Value} (hb : Blk w g 86 cur) (hs : cur.size = c * 3) (hB : B ≤ g) (hl : l.length ≤ c) (hc : c ≤ maxLen) (h : ∀ i q j, l[i]? = some q → j < 3 → cur[i * 3 + j]? = q.v[j]?) : OwnP w B (some ⟨g, 0, none⟩) c l :=
 ⟨fl_len _ 3 ptv_len l, .inr ⟨g, c, cur, rfl, hB, hb, hl, hc, hs, take_pts (by omega) h⟩⟩
/-- append(v, x) of one point, which lies in a new block. -/
theorem wpList_appP {ops : Array Oper} {rest : List Oper} {o : Oper} {ac : Act} {Q : Exit → Act → World → Prop} (w : World) (hgd : o.guard = none) (s x : Operand)
  (ho : o.op = .call { callee := .builtin .append, args := #[s, x], argTypes := #[61, 61] })
  (B : Nat) (a : Option Addr) (c : Nat) (xs : List Pt) (hs : ac.eval s = .slice a xs.length c) (hown : OwnP w B a c xs)
  (g0 cc : Nat) (y : Pt) (hx : ac.eval x = .slice (some ⟨g0, 0, none⟩) 1 cc) (hc : CellsAt w g0 0 y.v)
  (hsum : xs.length + 1 ≤ 10000000) (hbase : B ≤ w.heap.size)
  (h : ∀ g c' w', OwnP w' B (some ⟨g, 0, none⟩) c' (xs ++ [y]) → Below B w w' → w.grownBy w' (a.map (·.block)) → wpList Tryz.prog ops Q rest (ac.put o.dst (.slice (some ⟨g, 0, none⟩) (xs.length + 1) c')) w') : wpList Tryz.prog ops Q (o :: rest) ac w := by
 obtain ⟨i0, hi, hz0, hz1, hz2⟩ := info_parts info_point
 refine wpList_append_lies w hgd s x 61 ho B 86 i0 (.agg z3) 3 24 Tryz.underlying61 hi hz0 hz1 hz2 rfl (by decide) (.slice a xs.length c) xs.length (pc3 xs) hs hown ⟨g0, 0, none⟩ 1 cc y.v.toList hx (by simp) ?_ (ptv_one y) (by decide) (by unfold maxLen; omega) (by omega) hbase _ rfl ?_
 ·intro j u hj
  have := hc.2 j u (by simpa using hj)
  rw [show (⟨g0, 0, none⟩ : Addr).add j = ⟨g0, 0 + j, none⟩ from Go.WideShapes.add_plain ..]
  exact this
 ·intro g cap w' h1 h2 h3 h4
  have hbk : (Value.slice a xs.length c).ownBlock = a.map (·.block) := by
   cases a with
   | none => rfl
   | some ad' => cases ad'; rfl
  refine h g cap w' ?_ ((Below.refl _ _).grown h2 hbase fun k hk => ?_) (hbk ▸ h2)
  ·show w'.ownsRow B 86 3 _ (xs ++ [y]).length (pc3 (xs ++ [y]))
   have e : pc3 (xs ++ [y]) = pc3 xs ++ y.v.toList := by simp [pc3]
   rw [List.length_append, e]
   exact h1
  ·cases a with
   | none => cases hk
   | some ad' =>
    have e : ad'.block = k := by
     cases ad'
     simpa [Value.ownBlock] using hk
    rw [← e]
    exact OwnP.lt hown ad' rfl
theorem Blk.far {w w' : World} {g : Nat} {t : TypeId} {cs : Array Value} {x : Option Nat} (h : Blk w g t cs) (hg : w.grownBy w' x) (hx : x ≠ some g) : Blk w' g t cs :=
 (hg.block g h.lt (fun e => hx e.symm)).trans h

/-! ### doubles struck -/
instance : DecidableEq Pt := fun p q => decidable_of_iff (p.same q = true) Pt.same_iff
def ddS (l : List Pt) (n : Nat) : List Pt := match l[n]? with
 | some p => if n = 0 ∨ l[n - 1]? ≠ some p then [p] else []
 | none => []
def ddN (l : List Pt) : Nat → List Pt
 | 0 => []
 | n + 1 => ddN l n ++ ddS l n
def ddL (l : List Pt) : List Pt := ddN l l.length
theorem ddS_new {l : List Pt} {n : Nat} {p : Pt} (h : l[n]? = some p) (h' : n = 0 ∨ l[n - 1]? ≠ some p) : ddS l n = [p] := by
 unfold ddS
 rw [h]
 simp only
 rw [if_pos h']
theorem ddS_old {l : List Pt} {n : Nat} {p : Pt} (h : l[n]? = some p) (hn : n ≠ 0) (h' : l[n - 1]? = some p) : ddS l n = [] := by
 unfold ddS
 rw [h]
 simp only
 rw [if_neg (by intro x; rcases x with x | x; exact hn x; exact x h')]
theorem ddN_mem (l : List Pt) : ∀ n, n ≤ l.length → ∀ p, p ∈ ddN l n ↔ p ∈ l.take n
 | 0, _, p => by simp [ddN]
 | n + 1, h, p => by
  obtain ⟨q, hq⟩ : ∃ q, l[n]? = some q := ⟨_, List.getElem?_eq_getElem (by omega)⟩
  have ht : l.take (n + 1) = l.take n ++ [q] := by rw [List.take_add_one, hq]; rfl
  rw [ddN, ht, List.mem_append, List.mem_append, ddN_mem l n (by omega) p]
  by_cases h' : n = 0 ∨ l[n - 1]? ≠ some q
  ·rw [ddS_new hq h']
  ·have h1 : n ≠ 0 := fun e => h' (.inl e)
   have h2 : l[n - 1]? = some q := by
    by_cases e : l[n - 1]? = some q
    ·exact e
    ·exact absurd (.inr e) h'
   rw [ddS_old hq h1 h2]
   have : q ∈ l.take n := List.mem_of_getElem? (i := n - 1) (by rw [List.getElem?_take_of_lt (by omega)]; exact h2)
   constructor
   ·rintro (x | x)
    ·exact .inl x
    ·cases x
   ·rintro (x | x)
    ·exact .inl x
    ·simp only [List.mem_singleton] at x
     subst x
     exact .inl this
theorem ddN_sorted (l : List Pt) (hok : ∀ p ∈ l, p.ok) (hs : l.Pairwise fun p q => p.n ≤ q.n) : ∀ n, n ≤ l.length → (ddN l n).Pairwise fun p q => p.n < q.n
 | 0, _ => by simp [ddN]
 | n + 1, h => by
  obtain ⟨q, hq⟩ : ∃ q, l[n]? = some q := ⟨_, List.getElem?_eq_getElem (by omega)⟩
  rw [ddN]
  by_cases h' : n = 0 ∨ l[n - 1]? ≠ some q
  ·rw [ddS_new hq h', List.pairwise_append]
   refine ⟨ddN_sorted l hok hs n (by omega), by simp, fun p hp x hx => ?_⟩
   simp only [List.mem_singleton] at hx
   subst hx
   have hp' := (ddN_mem l n (by omega) p).1 hp
   obtain ⟨i, hi⟩ := List.getElem?_of_mem hp'
   have hin : i < n := by
    have := (List.getElem?_eq_some_iff.1 hi).1
    simp at this
    omega
   rw [List.getElem?_take_of_lt hin] at hi
   rcases h' with h' | h'
   ·omega
   obtain ⟨y, hy⟩ : ∃ y, l[n - 1]? = some y := ⟨_, List.getElem?_eq_getElem (by omega)⟩
   have pw := List.pairwise_iff_getElem.1 hs
   obtain ⟨i1, i2⟩ := List.getElem?_eq_some_iff.1 hi
   obtain ⟨y1, y2⟩ := List.getElem?_eq_some_iff.1 hy
   obtain ⟨x1, x2⟩ := List.getElem?_eq_some_iff.1 hq
   have h1 : y.n ≤ x.n := by
    have := pw (n - 1) n y1 x1 (by omega)
    rw [y2, x2] at this
    exact this
   have h2 : p.n ≤ y.n := by
    by_cases e : i = n - 1
    ·subst e
     rw [hi] at hy
     cases hy
     exact Int.le_refl _
    ·have := pw i (n - 1) i1 y1 (by omega)
     rw [i2, y2] at this
     exact this
   have h3 : y.n ≠ x.n := fun e => h' (by rw [hy, Pt.n_inj (hok y (List.mem_of_getElem? hy)) (hok x (List.mem_of_getElem? hq)) e])
   omega
  ·have h1 : n ≠ 0 := fun e => h' (.inl e)
   have h2 : l[n - 1]? = some q := by
    by_cases e : l[n - 1]? = some q
    ·exact e
    ·exact absurd (.inr e) h'
   rw [ddS_old hq h1 h2, List.append_nil]
   exact ddN_sorted l hok hs n (by omega)
theorem ddN_len (l : List Pt) : ∀ n, (ddN l n).length ≤ n
 | 0 => by simp [ddN]
 | n + 1 => by
  have := ddN_len l n
  have h : (ddS l n).length ≤ 1 := by
   unfold ddS
   split
   ·split <;> simp
   ·simp
  rw [ddN, List.length_append]
  omega
theorem ddN_take (l : List Pt) {n : Nat} (h : ddN l n = l.take n) {p : Pt} (hp : l[n]? = some p) (hn : n = 0 ∨ l[n - 1]? ≠ some p) : ddN l (n + 1) = l.take (n + 1) := by
 rw [ddN, h, ddS_new hp hn, List.take_add_one, hp]
 rfl
instance : Inhabited Pt := ⟨pt0⟩
abbrev encP (p : Pt) : List Value := p.v.toList
theorem ord_less (x y : Pt) : ltOf ordP x y = x.less y := by
 unfold ltOf ordP
 cases h : x.less y
 ·cases h' : y.less x <;> simp
 ·simp
theorem less_tt {x y : Pt} : x.less y = true ↔ x.a < y.a ∨ x.a = y.a ∧ (x.b < y.b ∨ x.b = y.b ∧ x.c < y.c) := by
 simp only [Pt.less, Bool.or_eq_true, Bool.and_eq_true, decide_eq_true_eq, beq_iff_eq]
theorem less_ff {x y : Pt} : x.less y = false ↔ ¬ (x.a < y.a ∨ x.a = y.a ∧ (x.b < y.b ∨ x.b = y.b ∧ x.c < y.c)) := by
 rw [← less_tt]
 simp
theorem swoP : Sort.SWO (ltOf ordP) where
 irrefl x := by rw [ord_less, less_ff]; omega
 trans x y z h1 h2 := by rw [ord_less, less_tt] at *; omega
 ntrans x y z h1 h2 := by rw [ord_less, less_ff] at *; omega
theorem flat_get (d : Array Pt) (i j : Nat) (hi : i < d.size) (hj : j < 3) : (Sort.flatK encP 3 d)[i * 3 + j]! = (d[i]!).v[j]! := by
 rw [Sort.get_flatK _ _ _ _ (by omega), show (i * 3 + j) / 3 = i by omega, show (i * 3 + j) % 3 = j by omega]
 simp [encP]
theorem heap_sortedP {w : World} {g n : Nat} {os : Array Obj} {cur : Array Value} {e : TypeId} (d : Array Pt) (hb : Blk w g e cur) :
  Blk (sortWorldK encP 3 w g 0 n d os) g e (Sort.putCells id 0 (Sort.flatK encP 3 d) cur) := by
 have hb' : w.heap[g]? = some (.cells cur e (0, 0)) := hb
 have hg : g < w.heap.size := hb.lt
 show (Sort.grow (Sort.putRow id (Sort.ahead w n) g 0 (Sort.flatK encP 3 d)) os).heap[g]? = _
 rw [Sort.heap_grow_old _ _ (by simpa using hg)]
 simp [Sort.putRow, Sort.mapBlock, Sort.ahead, Array.getElem?_modify, hb', Sort.onCells]
theorem grownBy_sortedP {w : World} {g n : Nat} {os : Array Obj} (d : Array Pt) : w.grownBy (sortWorldK encP 3 w g 0 n d os) (some g) := by
 show w.grownBy (Sort.grow (Sort.putRow id (Sort.ahead w n) g 0 (Sort.flatK encP 3 d)) os) (some g)
 refine ⟨rfl, rfl, rfl, by simp, fun k hk hne => ?_⟩
 rw [Sort.heap_grow_old _ _ (by simpa using hk)]
 have : g ≠ k := fun e => hne (by rw [e])
 simp [Sort.putRow, Sort.mapBlock, Sort.ahead, Array.getElem?_modify, this]
theorem cmpL (blk off size : Nat) (w : World) : CmpLays Tryz.prog 50 #[] encP 3 ordP blk off size w := fun m os dk hk x y => by
 have := order_any x y (sortWorldK encP 3 w blk off m dk os)
 exact this
theorem sort_pts (W : World) (B g c : Nat) (l : List Pt) (h : OwnP W B (some ⟨g, 0, none⟩) c l) (hB : B ≤ W.heap.size) (hok : ∀ p ∈ l, p.ok) (hll : l.length ≤ 1048576) :
  Calls Tryz.prog 94 #[.slice (some ⟨g, 0, none⟩) l.length c, .func (.func 50) #[] #[]] W fun e w' => e = .returned (.tuple #[]) ∧ ∃ l' : List Pt, l'.Perm l ∧ (l'.Pairwise fun p q => p.n ≤ q.n) ∧ OwnP w' B (some ⟨g, 0, none⟩) c l' ∧ Below B W w' := by
 obtain ⟨cur, hb, hs, hBg, hlc, hcm, hel⟩ := h.blk
 have hH : Sort.HoldsK encP 3 W g 0 l.toArray := fun t ht => by
  rw [Sort.size_flatK] at ht
  have hi : t / 3 < l.length := by simp at ht; omega
  have hq : l[t / 3]? = some l[t / 3] := List.getElem?_eq_getElem hi
  have h1 := hel (t / 3) _ (t % 3) hq (by omega)
  rw [show t / 3 * 3 + t % 3 = t by omega] at h1
  have h2 := flat_get l.toArray (t / 3) (t % 3) (by simpa using hi) (by omega)
  rw [show t / 3 * 3 + t % 3 = t by omega] at h2
  rw [Nat.zero_add, h2]
  have e1 : l.toArray[t / 3]! = l[t / 3] := by rw [getElem!_pos _ _ (by simpa using hi)]; simp
  rw [e1]
  refine ⟨?_, hb.frozen t⟩
  refine hb.cell t _ ?_
  rw [h1]
  rw [getElem!_pos _ _ (by show t % 3 < 3; omega)]
  exact Array.getElem?_eq_getElem _
 have K := Tryz.slices_SortFunc_Pt encP (fun _ => rfl) ptv_one ordP swoP 50 #[] g 0 c l.toArray W Tryz.call50 (cmpL g 0 _ W) hH hb.lt (by simp; omega)
 rw [show l.toArray.size = l.length by simp] at K
 refine Calls.mono K ?_
 rintro e w' ⟨rfl, d', n, os, hp, hso, rfl⟩
 have hsz : d'.size = l.length := by simpa using hp.1
 have hperm : d'.toList.Perm l := by
  have h2 := hp.2.2
  have e1 : d'.extract 0 l.length = d' := by rw [← hsz]; simp
  have e2 : l.toArray.extract 0 l.length = l.toArray := by simp
  rw [e1, e2] at h2
  simpa using h2
 refine ⟨rfl, d'.toList, hperm, ?_, ?_, ?_⟩
 ·rw [List.pairwise_iff_getElem]
  intro i j hi hj hij
  have hi' : i < d'.size := by simpa using hi
  have hj' : j < d'.size := by simpa using hj
  have := hso i j (Nat.zero_le _) hij (by omega)
  rw [ord_less, getElem!_pos d' i hi', getElem!_pos d' j hj'] at this
  have o1 := hok _ (hperm.mem_iff.1 (by simp : d'[i] ∈ d'.toList))
  have o2 := hok _ (hperm.mem_iff.1 (by simp : d'[j] ∈ d'.toList))
  have h3 := Pt.less_iff o2 o1
  simp only [Array.getElem_toList]
  rw [this] at h3
  have : ¬ d'[j].n < d'[i].n := fun x => by simpa using h3.2 x
  omega
 ·refine OwnP.mk' (heap_sortedP d' hb) (by simp [Sort.putCells, hs]) hBg (by simpa [hsz] using hlc) hcm (fun i q j hi hj => ?_)
  have hi' : i < d'.size := by simpa using (List.getElem?_eq_some_iff.1 hi).1
  have hq : d'[i]! = q := by
   rw [getElem!_pos d' i hi']
   have := (List.getElem?_eq_some_iff.1 hi).2
   simpa using this
  have hF := flat_get d' i j hi' hj
  have hlt : i * 3 + j < cur.size := by omega
  have hlt' : i * 3 + j < 0 + (Sort.flatK encP 3 d').size := by rw [Sort.size_flatK]; omega
  rw [hq] at hF
  have : (Sort.putCells id 0 (Sort.flatK encP 3 d') cur)[i * 3 + j]? = some (Sort.flatK encP 3 d')[i * 3 + j]! := by
   unfold Sort.putCells
   rw [Array.getElem?_mapIdx, Array.getElem?_eq_getElem hlt]
   simp only [Option.map_some, id]
   rw [if_pos ⟨Nat.zero_le _, hlt'⟩, Nat.sub_zero]
  rw [this, hF, getElem!_pos _ _ (by show j < 3; exact hj)]
  exact (Array.getElem?_eq_getElem _).symm
 ·exact (Below.refl _ _).grown (grownBy_sortedP d') hB (fun k hk => by cases hk; exact hBg)
theorem OwnP.cells {w : World} {B g c : Nat} {l : List Pt} (h : OwnP w B (some ⟨g, 0, none⟩) c l) {i : Nat} {p : Pt} (hi : l[i]? = some p) : w.cell? ⟨g, i * 3, none⟩ = some (.int .u64 p.a) ∧ w.cell? ⟨g, i * 3 + 1, none⟩ = some (.int .u64 p.b) ∧ w.cell? ⟨g, i * 3 + 2, none⟩ = some (.int .u64 p.c) := by
 obtain ⟨cur, hb, hs, hBg, hlc, hcm, hel⟩ := h.blk
 exact ⟨hb.cell _ _ (by have := hel i p 0 hi (by omega); simpa using this), hb.cell _ _ (by have := hel i p 1 hi (by omega); simpa using this), hb.cell _ _ (by have := hel i p 2 hi (by omega); simpa using this)⟩
theorem OwnP.drewN {w : World} {B : Nat} {a : Option Addr} {c : Nat} {l : List Pt} (h : OwnP w B a c l) (n : Nat) : OwnP (w.drewN n) B a c l := h.below (below_drewN (Below.refl _ _) n)
theorem pt_ne {p q : Pt} (h : p ≠ q) : (p.a == q.a) = false ∨ (p.a = q.a ∧ (p.b == q.b) = false) ∨ (p.a = q.a ∧ p.b = q.b ∧ (p.c == q.c) = false) := by
 obtain ⟨a, b, c⟩ := p
 obtain ⟨a', b', c'⟩ := q
 simp only [ne_eq, Pt.mk.injEq, not_and] at h
 simp only [beq_eq_false_iff_ne, ne_eq]
 by_cases h1 : a = a'
 ·by_cases h2 : b = b'
  ·exact .inr (.inr ⟨h1, h2, h h1 h2⟩)
  ·exact .inr (.inl ⟨h1, h2⟩)
 ·exact .inl h1
theorem setMany_size : ∀ (vs : List Value) (cur : Array Value) (j : Nat), (setMany cur j vs).size = cur.size
 | [], cur, j => rfl
 | v :: vs, cur, j => by rw [setMany, setMany_size vs]; simp
theorem setMany_at : ∀ (vs : List Value) (cur : Array Value) (j i : Nat), (setMany cur j vs)[i]? = if j ≤ i ∧ i < j + vs.length ∧ i < cur.size then vs[i - j]? else cur[i]?
 | [], cur, j, i => by
  rw [setMany, if_neg (by simp; omega)]
 | v :: vs, cur, j, i => by
  rw [setMany, setMany_at vs, Array.size_setIfInBounds, Array.getElem?_setIfInBounds]
  by_cases h1 : j + 1 ≤ i ∧ i < j + 1 + vs.length ∧ i < cur.size
  ·rw [if_pos h1, if_pos (by simp; omega), show i - j = (i - (j + 1)) + 1 by omega, List.getElem?_cons_succ]
  ·rw [if_neg h1]
   by_cases h2 : j = i
   ·subst h2
    rw [if_pos rfl]
    by_cases h3 : j < cur.size
    ·rw [if_pos h3, if_pos (by simp; omega)]
     simp
    ·rw [if_neg h3, if_neg (by omega)]
     exact (Array.getElem?_eq_none (by omega)).symm
   ·rw [if_neg h2, if_neg (by simp only [List.length_cons]; omega)]
/-- A point written into a slice of points. -/
theorem OwnP.put {w : World} {B g c : Nat} {l : List Pt} (h : OwnP w B (some ⟨g, 0, none⟩) c l) (k : Nat) (p : Pt) (hk : k < l.length) : ∃ cur, Blk w g 86 cur ∧ k * 3 + 3 ≤ cur.size ∧ B ≤ g ∧ OwnP (w.setRow g (setMany cur (k * 3) p.v.toList)) B (some ⟨g, 0, none⟩) c (l.set k p) := by
 obtain ⟨cur, hb, hs, hBg, hlc, hcm, hel⟩ := h.blk
 refine ⟨cur, hb, by omega, hBg, OwnP.mk' (hb.set _) (by rw [setMany_size]; exact hs) hBg (by simpa using hlc) hcm (fun i q j hi hj => ?_)⟩
 rw [setMany_at]
 by_cases e : i = k
 ·subst e
  rw [List.getElem?_set_self hk] at hi
  cases hi
  rw [if_pos (by simp; omega), show i * 3 + j - i * 3 = j by omega]
  simp
 ·rw [List.getElem?_set_ne (fun x => e x.symm)] at hi
  rw [if_neg (by simp; omega)]
  exact hel i q j hi hj
theorem zero3 (m : Nat) : ∀ v ∈ (Builtin.zeroCells z3 m).toList, v.oneCell' = true := by
 intro v hv
 simp only [Builtin.zeroCells, Array.toList_map, List.mem_map] at hv
 obtain ⟨i, _, rfl⟩ := hv
 have : i % 3 = 0 ∨ i % 3 = 1 ∨ i % 3 = 2 := by omega
 show (z3[i % 3]!).oneCell' = true
 rcases this with e | e | e <;> rw [e] <;> rfl
theorem zero3_len (m : Nat) : (Builtin.zeroCells z3 m).toList.length = m * 3 := by simp [Builtin.zeroCells]
/-- clear(s[k:]) of points. -/
theorem clear_pts {w : World} {B g c : Nat} {l : List Pt} (h : OwnP w B (some ⟨g, 0, none⟩) c l) (k m cc : Nat) (hm : m + k = l.length) (h0 : 0 < m) (ty : TypeId) : ∃ w', (Builtin.clear_ #[61] ty #[.slice (some ⟨g, k * 3, none⟩) m cc]).run Tryz.prog w = .ok (.tuple #[]) w' ∧ OwnP w' B (some ⟨g, 0, none⟩) c (l.take k) ∧ Below B w w' := by
 obtain ⟨cur, hb, hs, hBg, hlc, hcm, hel⟩ := h.blk
 have hst := run_storeCells_off g (k * 3) 86 (Builtin.zeroCells z3 m).toList 0 cur w hb (by rw [zero3_len]; omega) (zero3 m)
 refine ⟨_, ?_, OwnP.mk' (hb.set (setMany cur (k * 3) (Builtin.zeroCells z3 m).toList)) (by rw [setMany_size]; exact hs) hBg (by simp; omega) hcm (fun i q j hi hj => ?_), below_setRow (Below.refl _ _) hBg _⟩
 ·obtain ⟨m', rfl⟩ : ∃ m', m = m' + 1 := ⟨m - 1, by omega⟩
  have hz : (zeroValue 86).run Tryz.prog w = .ok (.agg z3) w := Tryz.zeroValue86 w
  simp only [Nat.add_zero] at hst
  simp [Builtin.clear_, run_underlying Tryz.underlying61, hz, Value.cells, hst]
 ·have hik : i < k := by
   have := (List.getElem?_eq_some_iff.1 hi).1
   simp at this
   omega
  rw [List.getElem?_take_of_lt hik] at hi
  rw [setMany_at, if_neg (by omega)]
  exact hel i q j hi hj
theorem wpList_clear {ops : Array Oper} {rest : List Oper} {o : Oper} {ac : Act} {Q : Exit → Act → World → Prop} {w : World} (hgd : o.guard = none) (t : TypeId) (s : Operand) (ho : o.op = .call { callee := .builtin .clear, args := #[s], argTypes := #[t] }) (v : Value) (hs : ac.eval s = v) (w' : World)
  (hrun : (Builtin.clear_ #[t] o.type #[v]).run Tryz.prog w = .ok (.tuple #[]) w') (h : wpList Tryz.prog ops Q rest (ac.put o.dst (.tuple #[])) w') : wpList Tryz.prog ops Q (o :: rest) ac w := by
 refine wpList_plain hgd fun K hK => ?_
 unfold Oper.wp execOp
 simp only [ho, resolve, invoke, builtin, Sem.run_bind, Sem.run_pure, Result.andThen_ok, List.map_toArray, List.map_cons, List.map_nil, hs, hrun]
 exact hK _ _ h
set_option maxRecDepth 100000 in
set_option maxHeartbeats 8000000 in
theorem compact_any (W : World) (B g c : Nat) (l : List Pt) (h : OwnP W B (some ⟨g, 0, none⟩) c l) (hB : B ≤ W.heap.size) (hl : l.length ≤ 1048576) :
  Calls Tryz.prog 95 #[.slice (some ⟨g, 0, none⟩) l.length c] W fun e w' => e = .returned (.slice (some ⟨g, 0, none⟩) (ddL l).length c) ∧ OwnP w' B (some ⟨g, 0, none⟩) c (ddL l) ∧ Below B W w' := by
 have HO : Hid (OwnP W B (some ⟨g, 0, none⟩) c l) := h
 have hlc : l.length ≤ c := by obtain ⟨cur, hb, hs, hBg, hlc, hcm, hel⟩ := h.blk; exact hlc
 have hcm : c ≤ 9223372036854775807 := by obtain ⟨cur, hb, hs, hBg, hlc, hcm, hel⟩ := h.blk; exact hcm
 obtain ⟨N, hN⟩ : ∃ N, l.length = N := ⟨_, rfl⟩
 have HN : Hid (l.length = N) := hN
 obtain ⟨D, hD⟩ : ∃ D, ddL l = D := ⟨_, rfl⟩
 have HD : Hid (ddN l N = D) := by show _ = _; rw [← hD, ← hN]; rfl
 rw [hN] at hl hlc ⊢
 rw [hD]
 clear h hN hD
 by_cases h2 : N < 2
 ·have ED : Hid (D = l) := by
   show D = l
   rw [← HD.out]
   rcases (show N = 0 ∨ N = 1 by omega) with e | e
   ·have hl0 : l = [] := List.length_eq_zero_iff.1 (by rw [HN.out, e])
    rw [e, hl0]; rfl
   ·have hl1 := HN.out
    rw [e] at hl1 ⊢
    obtain ⟨p, rfl⟩ := List.length_eq_one_iff.1 hl1
    rfl
  have hi : (N : Int) < 2 := by omega
  go_enter Tryz.func95, Tryz.ntmps95
  go_wp2
  go_ret
  rw [ED.out, HN.out]
  exact ⟨rfl, HO.out, Below.refl _ _⟩
 ·have hi : ¬ (N : Int) < 2 := by omega
  go_enter Tryz.func95, Tryz.ntmps95
  go_wp2
  go_loopw [3] (fun i wr => ∃ (k m : Nat), 1 ≤ k ∧ k ≤ N ∧ i = .int .i64 k ∧ wr = W.drewN m ∧ Hid (ddN l k = l.take k)) (fun i _ => N - (intOf i).toNat)
  case atStart =>
   refine ⟨1, 0, Nat.le_refl _, by omega, rfl, rfl, ?_⟩
   show ddN l 1 = l.take 1
   obtain ⟨p, hp⟩ : ∃ p, l[0]? = some p := ⟨_, List.getElem?_eq_getElem (by rw [HN.out]; omega)⟩
   exact ddN_take l (by simp [ddN]) hp (.inl rfl)
  case round =>
   obtain ⟨k, m, hk1, hk, rfl, rfl, HT⟩ := hrel
   by_cases hlt : k < N
   ·have hki : (k : Int) < (N : Int) := by omega
    obtain ⟨p, hp⟩ : ∃ p, l[k]? = some p := ⟨_, List.getElem?_eq_getElem (by rw [HN.out]; omega)⟩
    obtain ⟨q, hq⟩ : ∃ q, l[k - 1]? = some q := ⟨_, List.getElem?_eq_getElem (by rw [HN.out]; omega)⟩
    obtain ⟨WW, hWW⟩ : ∃ WW, W.drewN m = WW := ⟨_, rfl⟩
    have HWW : Hid (W.drewN m = WW) := hWW
    have O1 : Hid (OwnP WW B (some ⟨g, 0, none⟩) c l) := by rw [← hWW]; exact HO.out.drewN m
    obtain ⟨p0, p1, p2⟩ := O1.out.cells hp
    obtain ⟨q0, q1, q2⟩ := O1.out.cells hq
    have hw1 : IntKind.i64.wrap ((k : Int) - 1) = ((k - 1 : Nat) : Int) := by simp [IntKind.wrap, IntKind.bits, IntKind.signed]; omega
    have hw2 : IntKind.i64.wrap ((k : Int) + 1) = ((k + 1 : Nat) : Int) := by simp [IntKind.wrap, IntKind.bits, IntKind.signed]; omega
    have HP : Hid (l[k]? = some p) := hp
    have HQ : Hid (l[k - 1]? = some q) := hq
    rw [hWW]
    clear hp hq hWW
    have hk1' : (k - 1 : Nat) < N := by omega
    by_cases hpq : p = q
    ·subst hpq
     clear q0 q1 q2
     obtain ⟨q0, q1, q2⟩ := O1.out.cells HQ.out
     go_wp2
     go_quiet (fail)
     have O2 : Hid (OwnP (WW.drewN nq) B (some ⟨g, 0, none⟩) c l) := O1.out.drewN nq
     have bW : Below B W (WW.drewN nq) := by rw [← HWW.out]; exact below_drewN (below_drewN (Below.refl _ _) m) nq
     obtain ⟨W2, hW2⟩ : ∃ W2, WW.drewN nq = W2 := ⟨_, rfl⟩
     rw [hW2] at O2 bW ⊢
     clear p0 p1 p2 q0 q1 q2 hW2 O1 HWW
     have hkc : ¬ c = k := by omega
     have hkle : (k : Int) ≤ (N : Int) := by omega
     go_wp2
     go_loopw [3, 5] (fun i3 i5 wr => ∃ (kk k2 : Nat) (M : List Pt), 1 ≤ k2 ∧ k + k2 ≤ N ∧ kk + 1 ≤ k + k2 ∧ i3 = .int .i64 kk ∧ i5 = .int .i64 k2 ∧ Hid (OwnP wr B (some ⟨g, 0, none⟩) c M) ∧ Hid (M.length = N) ∧ Hid (M.take kk = ddN l (k + k2)) ∧ Hid (∀ i, k + k2 ≤ i + 1 → M[i]? = l[i]?) ∧ Below B W wr) (fun _ i5 _ => N - (intOf i5).toNat)
     case atStart =>
      refine ⟨k, 1, l, Nat.le_refl _, by omega, Nat.le_refl _, rfl, rfl, O2, HN, ?_, fun _ _ => rfl, bW⟩
      show l.take k = ddN l (k + 1)
      rw [ddN, HT.out, ddS_old HP.out (by omega) HQ.out, List.append_nil]
     case round =>
      obtain ⟨kk, k2, M, g1, g2, g3, rfl, rfl, OM, LM, TM, EM, bM⟩ := hrel
      by_cases hlt2 : k + k2 < N
      ·have hk2a : (k2 : Int) < ((N - k : Nat) : Int) := by omega
       have hk2b : k2 < N - k := by omega
       have hk2c : k2 - 1 < N - k := by omega
       obtain ⟨x, hx⟩ : ∃ x, l[k + k2]? = some x := ⟨_, List.getElem?_eq_getElem (by rw [HN.out]; omega)⟩
       obtain ⟨y, hy⟩ : ∃ y, l[k + k2 - 1]? = some y := ⟨_, List.getElem?_eq_getElem (by rw [HN.out]; omega)⟩
       have HX : Hid (l[k + k2]? = some x) := hx
       have HY : Hid (l[k + k2 - 1]? = some y) := hy
       have hMx : M[k + k2]? = some x := by rw [EM.out _ (by omega)]; exact hx
       have hMy : M[k + k2 - 1]? = some y := by rw [EM.out _ (by omega)]; exact hy
       have HMX : Hid (M[k + k2]? = some x) := hMx
       have e1 : (k + k2) * 3 = k * 3 + k2 * 3 := by omega
       have e2 : (k + k2 - 1) * 3 = k * 3 + (k2 - 1) * 3 := by omega
       have X := OM.out.cells hMx
       have Y := OM.out.cells hMy
       rw [e1] at X
       rw [e2] at Y
       obtain ⟨x0, x1, x2⟩ := X
       obtain ⟨y0, y1, y2⟩ := Y
       have v1 : IntKind.i64.wrap ((k2 : Int) - 1) = ((k2 - 1 : Nat) : Int) := by simp [IntKind.wrap, IntKind.bits, IntKind.signed]; omega
       have v2 : IntKind.i64.wrap ((k2 : Int) + 1) = ((k2 + 1 : Nat) : Int) := by simp [IntKind.wrap, IntKind.bits, IntKind.signed]; omega
       have v3 : IntKind.i64.wrap ((kk : Int) + 1) = ((kk + 1 : Nat) : Int) := by simp [IntKind.wrap, IntKind.bits, IntKind.signed]; omega
       have HE1 : Hid ((k + k2) * 3 = k * 3 + k2 * 3) := e1
       clear hx hy hMx hMy e1 e2
       by_cases hxy : x = y
       ·subst hxy
        go_wp2
        go_quiet (fail)
        go_wp2
        refine ⟨⟨kk, k2 + 1, M, by omega, by omega, by omega, rfl, by first | rfl | (congr 1), OM.out.drewN nq, LM, ?_, fun i hi => EM.out i (by omega), below_drewN bM nq⟩, by simp only [intOf]; omega⟩
        show M.take kk = ddN l (k + (k2 + 1))
        rw [show k + (k2 + 1) = k + k2 + 1 by omega, ddN, ddS_old HX.out (by omega) HY.out, List.append_nil]
        exact TM.out
       ·obtain ⟨xa, xb, xc⟩ := x
        obtain ⟨ya, yb, yc⟩ := y
        simp only at x0 x1 x2 y0 y1 y2
        have hne := pt_ne hxy
        simp only at hne
        have hkk : kk < N := by omega
        have hkk' : (kk : Int) < (N : Int) := by omega
        rcases hne with hne | ⟨rfl, hne⟩ | ⟨rfl, rfl, hne⟩
        all_goals (
         go_wp2
         go_quiet (fail)
         have O3 : Hid (OwnP (wr.drewN nq) B (some ⟨g, 0, none⟩) c M) := OM.out.drewN nq
         have b3 : Below B W (wr.drewN nq) := below_drewN bM nq
         obtain ⟨W3, hW3⟩ : ∃ W3, wr.drewN nq = W3 := ⟨_, rfl⟩
         rw [hW3] at O3 b3 ⊢
         clear x0 x1 x2 y0 y1 y2 hW3
         have X := O3.out.cells HMX.out
         rw [HE1.out] at X
         obtain ⟨x0, x1, x2⟩ := X
         obtain ⟨cur, hb, hsz, hBg, O4⟩ := O3.out.put kk ⟨xa, xb, xc⟩ (by rw [LM.out]; omega)
         have HO4 : Hid (OwnP (W3.setRow g (setMany cur (kk * 3) (Pt.v ⟨xa, xb, xc⟩).toList)) B (some ⟨g, 0, none⟩) c (M.set kk ⟨xa, xb, xc⟩)) := O4
         have HBg : Hid (B ≤ g) := hBg
         have hsz' : kk * 3 + (Pt.v ⟨xa, xb, xc⟩).size ≤ cur.size := hsz
         clear O4
         go_wp2_with (refine wpList_store_off rfl 86 _ _ rfl g (kk * 3) 86 (Pt.v ⟨xa, xb, xc⟩) cur _ (by rfl) (by rfl) hb (by kernel_rfl) hsz' (by kernel_rfl) rfl ?_)
         refine ⟨⟨kk + 1, k2 + 1, M.set kk ⟨xa, xb, xc⟩, by omega, by omega, by omega, by first | rfl | (congr 1), by first | rfl | (congr 1), HO4, by show _ = _; rw [List.length_set]; exact LM.out, ?_, fun i hi => ?_, below_setRow b3 HBg.out _⟩, by simp only [intOf]; omega⟩
         ·show (M.set kk ⟨xa, xb, xc⟩).take (kk + 1) = ddN l (k + (k2 + 1))
          rw [show k + (k2 + 1) = k + k2 + 1 by omega, ddN, ddS_new HX.out (.inr (by rw [HY.out]; intro e; cases e; simp at hne)), ← TM.out, List.take_add_one, List.take_set_of_le (Nat.le_refl _), List.getElem?_set_self (by rw [LM.out]; omega)]
          rfl
         ·rw [List.getElem?_set_ne (by omega)]
          exact EM.out i (by omega))
      ·have hend : k + k2 = N := by omega
       have hk2a : ¬ (k2 : Int) < ((N - k : Nat) : Int) := by omega
       have hk2b : k2 = N - k := by omega
       have hkkc : ¬ c = kk := by omega
       have hkkN : kk ≤ N := by omega
       have hkkI : (kk : Int) ≤ (N : Int) := by omega
       have hkkI2 : (kk : Int) ≤ (c : Int) := by omega
       have ED : Hid (M.take kk = D) := by show _ = _; rw [TM.out, hend, HD.out]
       obtain ⟨W4, hcl, O4, b4⟩ := clear_pts OM.out kk (N - kk) (c - kk) (by rw [LM.out]; omega) (by omega) 0
       have HO4 : Hid (OwnP W4 B (some ⟨g, 0, none⟩) c (M.take kk)) := O4
       have HLD : Hid (D.length = kk) := by show _ = _; rw [← ED.out, List.length_take, LM.out]; omega
       have HBD : Hid (Below B W W4) := bM.trans b4
       clear O4
       go_wp2_with (at_builtin; refine wpList_clear rfl 61 _ rfl _ (by rfl) W4 hcl ?_)
       go_ret
       rw [HLD.out, ← ED.out]
       exact ⟨rfl, HO4.out, HBD.out⟩
    ·obtain ⟨a, b, d⟩ := p
     obtain ⟨a', b', d'⟩ := q
     simp only at p0 p1 p2 q0 q1 q2
     have hne := pt_ne hpq
     simp only at hne
     rcases hne with hne | ⟨rfl, hne⟩ | ⟨rfl, rfl, hne⟩
     all_goals (
      go_wp2
      go_quiet (fail)
      go_wp2
      refine ⟨⟨k + 1, m + nq, by omega, by omega, by first | rfl | (congr 1), by rw [← HWW.out]; exact drewN_add W m nq, ddN_take l HT.out HP.out (.inr (by rw [HQ.out]; intro e; cases e; simp at hne))⟩, by simp only [intOf]; omega⟩)
   ·have hkN : k = N := by omega
    subst hkN
    have ED : Hid (D = l) := by
     show D = l
     rw [← HD.out, HT.out, ← HN.out, List.take_length]
    have O1 : Hid (OwnP (W.drewN m) B (some ⟨g, 0, none⟩) c l) := HO.out.drewN m
    go_wp2
    go_ret
    rw [ED.out, HN.out]
    exact ⟨rfl, O1.out, below_drewN (Below.refl _ _) m⟩
end Go.Proofs.YtmfgjicfdjjihaaGreatDoor
