/- Texts joined: RfL LkQ -/
import Derived.Test.YtmfgjicfdjjihaaGreatDoorLxa38
namespace Go.Proofs.YtmfgjicfdjjihaaGreatDoor
open Go.RowKit
set_option linter.unusedVariables false
set_option linter.unusedSimpArgs false
/-- The sets that a key comes to, side by side. -/
def tgN (l : List Rl) (k : Ky) : Nat → List (List Nat)
 | 0 => (List.range 7).map fun d => setOf (spns l d) (k.spot d).n
 | n + 1 => tgN l k n ++ [bothL ((tgN l k n).getD (sdL n) []) ((tgN l k n).getD (sdR n) [])]
theorem tg_len (l : List Rl) (k : Ky) : ∀ n, (tgN l k n).length = 7 + n
 | 0 => by simp [tgN]
 | n + 1 => by show (tgN l k n ++ [_]).length = _; rw [List.length_append, tg_len l k n]; simp; omega
theorem tg_low (l : List Rl) (k : Ky) (n : Nat) {j : Nat} (hj : j < 7 + n) : (tgN l k (n + 1)).getD j [] = (tgN l k n).getD j [] := by
 show (tgN l k n ++ [_]).getD j [] = _
 rw [List.getD_eq_getElem?_getD, List.getElem?_append_left (by rw [tg_len]; exact hj), ← List.getD_eq_getElem?_getD]
theorem tg_new (l : List Rl) (k : Ky) (n : Nat) : (tgN l k (n + 1)).getD (7 + n) [] = bothL ((tgN l k n).getD (sdL n) []) ((tgN l k n).getD (sdR n) []) := by
 show (tgN l k n ++ [_]).getD (7 + n) [] = _
 rw [List.getD_eq_getElem?_getD, List.getElem?_append_right (by rw [tg_len]; exact Nat.le_refl _), tg_len, Nat.sub_self]
 rfl
theorem tg_dim (l : List Rl) (k : Ky) {d : Nat} (hd : d < 7) : (tgN l k 0).getD d [] = setOf (spns l d) (k.spot d).n := by
 show (((List.range 7).map fun d => setOf (spns l d) (k.spot d).n)).getD d [] = _
 rw [List.getD_eq_getElem?_getD, List.getElem?_map, List.getElem?_range hd]; rfl
/-- The last of them has just the rules that take the key. -/
theorem tg_takes {l : List Rl} {k : Ky} (hl : ∀ r ∈ l, r.ok ∧ r.right = true) (ko : k.ok) (hk : k.right = true) : (tgN l k 6).getD 12 [] = ofB l (·.takes k) := by
 have e : ∀ d, d < 7 → (tgN l k 0).getD d [] = ofB l fun r => (r.piece d).holds (k.spot d).n := fun d hd => by rw [tg_dim l k hd]; exact setOf_of l d _
 have up : ∀ (n j : Nat), j < 7 → (tgN l k n).getD j [] = (tgN l k 0).getD j [] := by
  intro n j hj
  induction n with
  | zero => rfl
  | succ n ih => rw [tg_low l k n (by omega), ih]
 have t7 : ∀ n, 1 ≤ n → n ≤ 6 → (tgN l k n).getD 7 [] = bothL ((tgN l k 0).getD 0 []) ((tgN l k 0).getD 1 []) := by
  intro n h1 h6
  induction n with
  | zero => omega
  | succ n ih =>
   by_cases h : n = 0
   ·subst h; exact tg_new l k 0
   ·rw [tg_low l k n (by omega)]; exact ih (by omega) (by omega)
 have t8 : ∀ n, 2 ≤ n → n ≤ 6 → (tgN l k n).getD 8 [] = bothL ((tgN l k 0).getD 2 []) ((tgN l k 0).getD 3 []) := by
  intro n h1 h6
  induction n with
  | zero => omega
  | succ n ih =>
   by_cases h : n = 1
   ·subst h
    have := tg_new l k 1
    rw [show sdL 1 = 2 from rfl, show sdR 1 = 3 from rfl, up 1 2 (by omega), up 1 3 (by omega)] at this
    exact this
   ·rw [tg_low l k n (by omega)]; exact ih (by omega) (by omega)
 have t9 : ∀ n, 3 ≤ n → n ≤ 6 → (tgN l k n).getD 9 [] = bothL ((tgN l k 0).getD 5 []) ((tgN l k 0).getD 6 []) := by
  intro n h1 h6
  induction n with
  | zero => omega
  | succ n ih =>
   by_cases h : n = 2
   ·subst h
    have := tg_new l k 2
    rw [show sdL 2 = 5 from rfl, show sdR 2 = 6 from rfl, up 2 5 (by omega), up 2 6 (by omega)] at this
    exact this
   ·rw [tg_low l k n (by omega)]; exact ih (by omega) (by omega)
 have t10 : ∀ n, 4 ≤ n → n ≤ 6 → (tgN l k n).getD 10 [] = bothL (bothL ((tgN l k 0).getD 2 []) ((tgN l k 0).getD 3 [])) (bothL ((tgN l k 0).getD 5 []) ((tgN l k 0).getD 6 [])) := by
  intro n h1 h6
  induction n with
  | zero => omega
  | succ n ih =>
   by_cases h : n = 3
   ·subst h
    have := tg_new l k 3
    rw [show sdL 3 = 8 from rfl, show sdR 3 = 9 from rfl, t8 3 (by omega) (by omega), t9 3 (by omega) (by omega)] at this
    exact this
   ·rw [tg_low l k n (by omega)]; exact ih (by omega) (by omega)
 have t11 : (tgN l k 5).getD 11 [] = bothL (bothL (bothL ((tgN l k 0).getD 2 []) ((tgN l k 0).getD 3 [])) (bothL ((tgN l k 0).getD 5 []) ((tgN l k 0).getD 6 []))) ((tgN l k 0).getD 4 []) := by
  have := tg_new l k 4
  rw [show sdL 4 = 10 from rfl, show sdR 4 = 4 from rfl, t10 4 (by omega) (by omega), up 4 4 (by omega)] at this
  exact this
 have t12 := tg_new l k 5
 rw [show sdL 5 = 11 from rfl, show sdR 5 = 7 from rfl, t11, t7 5 (by omega) (by omega), e 0 (by omega), e 1 (by omega), e 2 (by omega), e 3 (by omega), e 4 (by omega), e 5 (by omega), e 6 (by omega), crossed l (fun d r => (r.piece d).holds (k.spot d).n)] at t12
 rw [← takes_crossed hl ko hk]
 exact t12
theorem cls_low (l : List Rl) (n : Nat) {j : Nat} (hj : j < 7 + n) : (clsN l (n + 1)).getD j [] = (clsN l n).getD j [] := by
 rw [cls_succ, List.getD_eq_getElem?_getD, List.getElem?_append_left (by rw [cls_len]; exact hj), ← List.getD_eq_getElem?_getD]
theorem cls_new (l : List Rl) (n : Nat) : (clsN l (n + 1)).getD (7 + n) [] = setsL (crossL (sA l n) (sB l n)) := by
 rw [cls_succ, List.getD_eq_getElem?_getD, List.getElem?_append_right (by rw [cls_len]; exact Nat.le_refl _), cls_len, Nat.sub_self]
 rfl
theorem cls_up (l : List Rl) {n j : Nat} (hj : j < 7 + n) : ∀ m, (clsN l (n + m)).getD j [] = (clsN l n).getD j []
 | 0 => rfl
 | m + 1 => by
  have := cls_low l (n + m) (j := j) (by omega)
  rw [show n + (m + 1) = n + m + 1 from rfl, this]
  exact cls_up l hj m
theorem cls_six (l : List Rl) {n j : Nat} (hn : n ≤ 6) (hj : j < 7 + n) : (clsN l 6).getD j [] = (clsN l n).getD j [] := by
 have := cls_up l hj (6 - n)
 rw [show n + (6 - n) = 6 from by omega] at this
 exact this
/-- How many sets a side has, of tables that were compiled. -/
theorem sz_is {l : List Rl} {D : List ChM} {X : List CrM} {F : List Int} (h : TabIs l D X F) (hl : l.length ≤ 64) {j : Nat} (hj : j < 13) : szN (D.map ChM.r) (X.map CrM.r) j = ((clsN l 6).getD j []).length := by
 by_cases h7 : j < 7
 ·have e := List.getElem?_eq_getElem (l := D) (i := j) (by rw [h.d7]; exact h7)
  rw [sz_dim (x := (D[j]'(by rw [h.d7]; exact h7)).r) h7 (by rw [List.getElem?_map, e]; rfl), cls_six l (n := 0) (by omega) (by omega)]
  have h1 := (cutP_rs (h.dim j _ e) hl).1
  show ((D[j]'(by rw [h.d7]; exact h7)).S.map ints).length = _
  rw [List.length_map, h1, List.getD_eq_getElem?_getD, cls_dim l h7]
  rfl
 ·obtain ⟨m, rfl⟩ : ∃ m, j = 7 + m := ⟨j - 7, by omega⟩
  have hm : m < X.length := by rw [h.x6]; omega
  have e := List.getElem?_eq_getElem hm
  rw [sz_crs (x := (X[m]).r) (by rw [List.getElem?_map, e]; rfl), cls_six l (n := m + 1) (by omega) (by omega), cls_new]
  obtain ⟨_, _, u3⟩ := h.crs m _ e
  show ((X[m]).S.map ints).length = _
  rw [List.length_map, u3]
theorem rs_rise {s : List Nat} (h : Rs s) : RiseI (ints s) := by
 refine ⟨fun x hx => ?_, fun i x y hx hy => ?_⟩
 ·unfold ints at hx
  rw [List.getElem?_map] at hx
  cases hs : s[0]? with
  | none => rw [hs] at hx; cases hx
  | some z => rw [hs] at hx; cases hx; exact Int.natCast_nonneg _
 ·unfold ints at hx hy
  rw [List.getElem?_map] at hx hy
  cases h1 : s[i]? with
  | none => rw [h1] at hx; cases hx
  | some a =>
   cases h2 : s[i + 1]? with
   | none => rw [h2] at hy; cases hy
   | some b =>
    rw [h1] at hx
    rw [h2] at hy
    cases hx
    cases hy
    obtain ⟨l1, e1⟩ := List.getElem?_eq_some_iff.1 h1
    obtain ⟨l2, e2⟩ := List.getElem?_eq_some_iff.1 h2
    have := List.pairwise_iff_getElem.1 h.1 i (i + 1) l1 l2 (by omega)
    rw [e1, e2] at this
    exact Int.ofNat_lt.2 this
/-- No side is without a set. -/
theorem cls_pos {l : List Rl} {D : List ChM} {X : List CrM} {F : List Int} (h : TabIs l D X F) (hl : l.length ≤ 64) : ∀ n, n ≤ 6 → ∀ j, j < 7 + n → 1 ≤ ((clsN l n).getD j []).length
 | 0, _ => fun j hj => by
  have hj7 : j < 7 := by omega
  have e := List.getElem?_eq_getElem (l := D) (i := j) (by rw [h.d7]; exact hj7)
  have hcp := h.dim j _ e
  have h1 := (cutP_rs hcp hl).1
  have hr := hcp.right
  have h0 := (List.getElem?_eq_some_iff.1 hr.1).1
  have hk : 0 < (ints (D[j]'(by rw [h.d7]; exact hj7)).K).length := by rw [hr.2.2.1]; exact h0
  have := hr.2.2.2.1 _ (List.getElem_mem hk)
  rw [List.length_map, h1] at this
  rw [List.getD_eq_getElem?_getD, cls_dim l hj7]
  show 1 ≤ (setsD l j).length
  omega
 | n + 1, hn => fun j hj => by
  by_cases e : j = 7 + n
  ·subst e
   rw [cls_new]
   have hs := sd_lt n (by omega)
   have a1 : 1 ≤ (sA l n).length := cls_pos h hl n (by omega) _ hs.1
   have a2 : 1 ≤ (sB l n).length := cls_pos h hl n (by omega) _ hs.2
   have hc : 0 < (classL (crossL (sA l n) (sB l n))).length := by rw [class_len, cross_len]; exact Nat.mul_pos a1 a2
   have := class_lt (List.getElem_mem hc)
   omega
  ·rw [cls_low l n (by omega)]
   exact cls_pos h hl n (by omega) j (by omega)
theorem firstN_ge (s : List Nat) : -1 ≤ firstN s := by
 cases s with
 | nil => exact Int.le_refl _
 | cons i s => show (-1 : Int) ≤ (i : Int); omega
/-- Tables that were compiled may be. -/
theorem tabR_of {l : List Rl} {D : List ChM} {X : List CrM} {F : List Int} (h : TabIs l D X F) (hl : l.length ≤ 64) : TabR (D.map ChM.r) (X.map CrM.r) F := by
 refine ⟨by rw [List.length_map, h.d7], by rw [List.length_map, h.x6], fun x hx => ?_, fun n x hx => ?_, ?_, fun n hn => ?_⟩
 ·obtain ⟨y, hy, rfl⟩ := List.mem_map.1 hx
  obtain ⟨d, hd⟩ := List.getElem?_of_mem hy
  exact (h.dim d y hd).right
 ·rw [List.getElem?_map] at hx
  cases hy : X[n]? with
  | none => rw [hy] at hx; cases hx
  | some y =>
   rw [hy] at hx
   cases hx
   have hn : n < 6 := by have := (List.getElem?_eq_some_iff.1 hy).1; rw [h.x6] at this; exact this
   have hs := sd_lt n hn
   obtain ⟨u1, u2, u3⟩ := h.crs n y hy
   rw [sz_is h hl (by omega), sz_is h hl (by omega), cls_six l (n := n) (by omega) hs.1, cls_six l (n := n) (by omega) hs.2]
   refine ⟨?_, cls_pos h hl n (by omega) _ hs.2, ?_, ?_, ?_⟩
   ·show ((y.wd : Nat) : Int) = _; rw [u1]; rfl
   ·show (ints y.K).length = _; rw [List.length_map, u2, class_len, cross_len]; rfl
   ·show RightK (ints y.K) (y.S.map ints).length
    rw [List.length_map, u3, u2]
    intro z hz
    obtain ⟨i, hi, rfl⟩ := List.mem_map.1 hz
    have := class_lt hi
    omega
   ·intro s hs'
    obtain ⟨s0, h0, rfl⟩ := List.mem_map.1 (show s ∈ y.S.map ints from hs')
    rw [u3] at h0
    exact rs_rise (sets_rs (cross_rs (cls_rs l hl n (by omega) _ (List.mem_of_getElem? (cls_L l hn))) (cls_rs l hl n (by omega) _ (List.mem_of_getElem? (cls_R l hn)))) s0 h0)
 ·rw [sz_is h hl (by omega), show (12 : Nat) = 7 + 5 from rfl, cls_six l (n := 6) (by omega) (by omega), show (6 : Nat) = 5 + 1 from rfl, cls_new, h.fst, List.length_map]
 ·rw [h.fst] at hn
  obtain ⟨s, _, rfl⟩ := List.mem_map.1 hn
  exact firstN_ge s
theorem last_le (L : List Pt) (p : Pt) : ∀ (m i : Nat) (s : Pt), L.length - i ≤ m → L[i]? = some s → s.n ≤ p.n → ∃ (i : Nat) (s : Pt), L[i]? = some s ∧ s.n ≤ p.n ∧ ∀ (j : Nat) (t : Pt), i < j → L[j]? = some t → p.n < t.n
 | 0, i, s, hm, hs, _ => by have := (List.getElem?_eq_some_iff.1 hs).1; omega
 | m + 1, i, s, hm, hs, hn => by
  by_cases hh : ∃ (j : Nat) (t : Pt), i < j ∧ L[j]? = some t ∧ t.n ≤ p.n
  ·obtain ⟨j, t, h1, h2, h3⟩ := hh
   have := (List.getElem?_eq_some_iff.1 h2).1
   exact last_le L p m j t (by omega) h2 h3
  ·refine ⟨i, s, hs, hn, fun j t hj ht => ?_⟩
   rcases Int.lt_or_le p.n t.n with h1 | h1
   ·exact h1
   ·exact absurd ⟨j, t, hj, ht, h1⟩ hh
theorem cls_there {L : List Pt} {K : List Int} {S : List (List Int)} (h : RightC L K S) {p : Pt} (hp : p.ok) : ∃ x, clsAt L K p x := by
 have h0 : (0 : Int) ≤ p.n := by
  obtain ⟨⟨q1, q2⟩, ⟨q3, q4⟩, q5, q6⟩ := hp
  unfold Pt.n
  omega
 have hz : pt0.n = 0 := by rfl
 obtain ⟨i, s, h1, h2, h3⟩ := last_le L p (L.length - 0) 0 pt0 (Nat.le_refl _) h.1 (by rw [hz]; exact h0)
 have hi := (List.getElem?_eq_some_iff.1 h1).1
 exact ⟨_, i, s, h1, h2, h3, List.getElem?_eq_getElem (by rw [h.2.2.1]; exact hi)⟩
/-- Where a key stands in the sides. -/
theorem cl_tg {l : List Rl} {D : List ChM} {X : List CrM} {F : List Int} {k : Ky} (h : TabIs l D X F) (ko : k.ok) (hk : k.right = true) : ∀ n, n ≤ 6 → ∀ j, j < 7 + n → ((clsN l n).getD j [])[clT (D.map ChM.r) (X.map CrM.r) k j]? = some ((tgN l k n).getD j [])
 | 0, _ => fun j hj => by
  have hj7 : j < 7 := by omega
  have e := List.getElem?_eq_getElem (l := D) (i := j) (by rw [h.d7]; exact hj7)
  have hcp := h.dim j _ e
  obtain ⟨x, hx⟩ := cls_there hcp.right (spot_ok ko hk j)
  have hxr : (D.map ChM.r)[j]? = some (D[j]'(by rw [h.d7]; exact hj7)).r := by rw [List.getElem?_map, e]; rfl
  obtain ⟨e1, _⟩ := cl_dim (k := k) (d := j) (x := (D[j]'(by rw [h.d7]; exact hj7)).r) hcp.right hxr hx
  obtain ⟨m, e2, hm⟩ := cls_set hcp hx
  have e3 : clD (D.map ChM.r) k j = m := by omega
  rw [clT_dim _ _ _ hj7, e3, tg_dim l k hj7, List.getD_eq_getElem?_getD, cls_dim l hj7]
  show (setsD l j)[m]? = _
  rw [setsD, ← hcp.set]
  exact hm
 | n + 1, hn => fun j hj => by
  by_cases e : j = 7 + n
  ·subst e
   have hn6 : n < 6 := by omega
   have hs := sd_lt n hn6
   have a1 : (sA l n)[clT (D.map ChM.r) (X.map CrM.r) k (sdL n)]? = some _ := cl_tg h ko hk n (by omega) _ hs.1
   have a2 : (sB l n)[clT (D.map ChM.r) (X.map CrM.r) k (sdR n)]? = some _ := cl_tg h ko hk n (by omega) _ hs.2
   obtain ⟨m, h5, h6⟩ := cross_class a1 a2
   have hx := List.getElem?_eq_getElem (l := X) (i := n) (by rw [h.x6]; exact hn6)
   obtain ⟨u1, u2, _⟩ := h.crs n _ hx
   have hcx : clT (D.map ChM.r) (X.map CrM.r) k (7 + n) = m := by
    rw [clT_crs _ _ _ hn6]
    unfold cX
    rw [List.getElem?_map, hx]
    show ((ints (X[n]'(by rw [h.x6]; exact hn6)).K).getD (clT (D.map ChM.r) (X.map CrM.r) k (sdL n) * (((X[n]'(by rw [h.x6]; exact hn6)).wd : Nat) : Int).toNat + clT (D.map ChM.r) (X.map CrM.r) k (sdR n)) 0).toNat = m
    rw [u1, u2, Int.toNat_natCast, List.getD_eq_getElem?_getD]
    unfold ints
    rw [List.getElem?_map, h5]
    rfl
   rw [cls_new, tg_new, hcx]
   exact h6
  ·rw [cls_low l n (by omega), tg_low l k n (by omega)]
   exact cl_tg h ko hk n (by omega) j (by omega)
/-- A key is found as the first rule that takes it. -/
theorem findT_of {l : List Rl} {D : List ChM} {X : List CrM} {F : List Int} {k : Ky} (h : TabIs l D X F) (hl : ∀ r ∈ l, r.ok ∧ r.right = true) (ko : k.ok) (hk : k.right = true) : findT (D.map ChM.r) (X.map CrM.r) F k = firstN (ofB l (·.takes k)) := by
 have h1 := cl_tg h ko hk 6 (by omega) 12 (by omega)
 rw [tg_takes hl ko hk, show (12 : Nat) = 7 + 5 from rfl, show (6 : Nat) = 5 + 1 from rfl, cls_new] at h1
 unfold findT
 rw [h.fst, List.getD_eq_getElem?_getD, List.getElem?_map]
 rw [show (7 + 5 : Nat) = 12 from rfl] at h1
 rw [h1]
 rfl
/-- Bounds of tables that were compiled. -/
theorem tab_bounds {l : List Rl} {D : List ChM} {X : List CrM} {F : List Int} (h : TabIs l D X F) (hl : l.length ≤ 64) (hc : costN l 6 ≤ 4096) : (∀ j, szN (D.map ChM.r) (X.map CrM.r) j ≤ 2147483648) ∧ ∀ n ∈ F, n ≤ 9223372036854775807 := by
 obtain ⟨s1, s2, s3⟩ := tab_small hl hc h
 refine ⟨fun j => ?_, fun n hn => ?_⟩
 ·unfold szN
  split
  ·cases hx : (D.map ChM.r)[j]? with
   | none => simp
   | some x =>
    obtain ⟨y, hy, rfl⟩ := List.mem_map.1 (List.mem_of_getElem? hx)
    have := (s1 y hy).2.2.1
    show (y.S.map ints).length ≤ _
    rw [List.length_map]
    omega
  ·cases hx : (X.map CrM.r)[j - 7]? with
   | none => simp
   | some x =>
    obtain ⟨y, hy, rfl⟩ := List.mem_map.1 (List.mem_of_getElem? hx)
    have := (s2 y hy).2.1
    show (y.S.map ints).length ≤ _
    rw [List.length_map]
    omega
 ·rw [h.fst] at hn
  obtain ⟨s, hs, rfl⟩ := List.mem_map.1 hn
  cases s with
  | nil => show (-1 : Int) ≤ _; omega
  | cons i s =>
   have hr := sets_rs (cross_rs (cls_rs l hl 5 (by omega) _ (List.mem_of_getElem? (cls_L l (by omega)))) (cls_rs l hl 5 (by omega) _ (List.mem_of_getElem? (cls_R l (by omega))))) _ hs
   have := hr.2 i (List.mem_cons_self ..)
   show (i : Int) ≤ _
   omega
end Go.Proofs.YtmfgjicfdjjihaaGreatDoor
