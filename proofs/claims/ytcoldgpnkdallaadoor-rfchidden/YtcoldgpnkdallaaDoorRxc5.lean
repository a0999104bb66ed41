/- Texts joined: RfL -/
import Derived.Test.YtcoldgpnkdallaaDoorRxa0
import Derived.Test.YtcoldgpnkdallaaDoorRxa1
import Derived.Test.YtcoldgpnkdallaaDoorRxa2
import Derived.Test.YtcoldgpnkdallaaDoorRxa3
import Derived.Test.YtcoldgpnkdallaaDoorRxa4
import Derived.Test.YtcoldgpnkdallaaDoorRxa5
import Derived.Test.YtcoldgpnkdallaaDoorRxa6
import Derived.Test.YtcoldgpnkdallaaDoorRxa7
import Derived.Test.YtcoldgpnkdallaaDoorRxa8
import Derived.Test.YtcoldgpnkdallaaDoorRxa9
import Derived.Test.YtcoldgpnkdallaaDoorRxa10
import Derived.Test.YtcoldgpnkdallaaDoorRxa11
import Derived.Test.YtcoldgpnkdallaaDoorRxa12
import Derived.Test.YtcoldgpnkdallaaDoorRxa13
import Derived.Test.YtcoldgpnkdallaaDoorRxa14
import Derived.Test.YtcoldgpnkdallaaDoorRxa15
import Derived.Test.YtcoldgpnkdallaaDoorRxa16
import Derived.Test.YtcoldgpnkdallaaDoorRxa17
import Derived.Test.YtcoldgpnkdallaaDoorRxa18
import Derived.Test.YtcoldgpnkdallaaDoorRxa19
import Derived.Test.YtcoldgpnkdallaaDoorRxa20
import Derived.Test.YtcoldgpnkdallaaDoorRxa21
import Derived.Test.YtcoldgpnkdallaaDoorRxa22
import Derived.Test.YtcoldgpnkdallaaDoorRxa23
import Derived.Test.YtcoldgpnkdallaaDoorRxa24
import Derived.Test.YtcoldgpnkdallaaDoorRxa25
import Derived.Test.YtcoldgpnkdallaaDoorRxa26
import Derived.Test.YtcoldgpnkdallaaDoorRxa27
import Derived.Test.YtcoldgpnkdallaaDoorRxa28
import Derived.Test.YtcoldgpnkdallaaDoorRxa29
import Derived.Test.YtcoldgpnkdallaaDoorRxa30
import Derived.Test.YtcoldgpnkdallaaDoorRxa31
import Derived.Test.YtcoldgpnkdallaaDoorRxa32
import Derived.Test.YtcoldgpnkdallaaDoorRxa33
import Derived.Test.YtcoldgpnkdallaaDoorRxa34
import Derived.Test.YtcoldgpnkdallaaDoorRxa35
import Derived.Test.YtcoldgpnkdallaaDoorRxa36
import Derived.Test.YtcoldgpnkdallaaDoorRxa37
import Derived.Test.YtcoldgpnkdallaaDoorRxa39
import Derived.Test.YtcoldgpnkdallaaDoorRxa41
import Derived.Test.YtcoldgpnkdallaaDoorRxc3
import Derived.Test.YtcoldgpnkdallaaDoorRxc4
import Derived.Deep.QuietTactic
import Derived.BigQuiet
import Derived.BigRegion
import Derived.Deep.RegionWith
import Derived.Deep.RegionHeld3
import Derived.Deep.AppendLies
import Derived.Test.YtcoldgpnkdallaaDoorShelf
import Derived.Sort.OwnSortedInts
import Derived.Deep.WholeRow
import Derived.Laws.BytesArg
import Derived.Laws.MakeOwn
import Derived.Test.YtcoldgpnkdallaaDoorRows
import Derived.WalkKit
import Derived.Laws.BitsAllLaws
import Derived.Laws.BitsLemmas
import Derived.Laws.Bits128
import Derived.Laws.AppendOwn
import Derived.Laws.AppendOwnNone
import Derived.Laws.OwnMore
import Derived.OwnWalk
import Derived.KernelRfl
import Derived.Below
import Derived.Deep.Draws
import Derived.Laws.World
import Derived.Laws.Shifts
import Derived.Laws.ShiftsVarLaws
import Derived.Laws.StructEq
import Derived.Deep.DeepCutAuto
import Derived.Sort.Grow
import Derived.RegionTactic
namespace Go.Proofs.YtcoldgpnkdallaaDoor
open Go.RowKit
set_option linter.unusedVariables false
set_option linter.unusedSimpArgs false
/-- The sets that a key comes to, side by side. -/
def tgN (l : List Rl) (k : Ky) : Nat → List (List Nat)
  | 0 => (List.range 7).map fun d => setOf (spns l d) (k.spot d).n
  | n + 1 => tgN l k n ++ [bothL ((tgN l k n).getD (sdL n) []) ((tgN l k n).getD (sdR n) [])]
theorem tg_len (l : List Rl) (k : Ky) : ∀ n, (tgN l k n).length = 7 + n
  | 0 => by simp [tgN]
  | n + 1 => by show (tgN l k n ++ [_]).length = _; rw [List.length_append, tg_len l k n]; simp; omega
theorem tg_low (l : List Rl) (k : Ky) (n : Nat) {j : Nat} (hj : j < 7 + n) : (tgN l k (n + 1)).getD j [] = (tgN l k n).getD j [] := by
  show (tgN l k n ++ [_]).getD j [] = _
  rw [List.getD_eq_getElem?_getD, List.getElem?_append_left (by rw [tg_len]; exact hj), ← List.getD_eq_getElem?_getD]
theorem tg_new (l : List Rl) (k : Ky) (n : Nat) : (tgN l k (n + 1)).getD (7 + n) [] = bothL ((tgN l k n).getD (sdL n) []) ((tgN l k n).getD (sdR n) []) := by
  show (tgN l k n ++ [_]).getD (7 + n) [] = _
  rw [List.getD_eq_getElem?_getD, List.getElem?_append_right (by rw [tg_len]; exact Nat.le_refl _), tg_len, Nat.sub_self]
  rfl
theorem tg_dim (l : List Rl) (k : Ky) {d : Nat} (hd : d < 7) : (tgN l k 0).getD d [] = setOf (spns l d) (k.spot d).n := by
  show (((List.range 7).map fun d => setOf (spns l d) (k.spot d).n)).getD d [] = _
  rw [List.getD_eq_getElem?_getD, List.getElem?_map, List.getElem?_range hd]; rfl
/-- The last of them has just the rules that take the key. -/
theorem tg_takes {l : List Rl} {k : Ky} (hl : ∀ r ∈ l, r.ok ∧ r.right = true) (ko : k.ok) (hk : k.right = true) : (tgN l k 6).getD 12 [] = ofB l (·.takes k) := by
  have e : ∀ d, d < 7 → (tgN l k 0).getD d [] = ofB l fun r => (r.piece d).holds (k.spot d).n := fun d hd => by rw [tg_dim l k hd]; exact setOf_of l d _
  have up : ∀ (n j : Nat), j < 7 → (tgN l k n).getD j [] = (tgN l k 0).getD j [] := by
    intro n j hj
    induction n with
    | zero => rfl
    | succ n ih => rw [tg_low l k n (by omega), ih]
  have t7 : ∀ n, 1 ≤ n → n ≤ 6 → (tgN l k n).getD 7 [] = bothL ((tgN l k 0).getD 0 []) ((tgN l k 0).getD 1 []) := by
    intro n h1 h6
    induction n with
    | zero => omega
    | succ n ih =>
      by_cases h : n = 0
      · subst h; exact tg_new l k 0
      · rw [tg_low l k n (by omega)]; exact ih (by omega) (by omega)
  have t8 : ∀ n, 2 ≤ n → n ≤ 6 → (tgN l k n).getD 8 [] = bothL ((tgN l k 0).getD 2 []) ((tgN l k 0).getD 3 []) := by
    intro n h1 h6
    induction n with
    | zero => omega
    | succ n ih =>
      by_cases h : n = 1
      · subst h
        have := tg_new l k 1
        rw [show sdL 1 = 2 from rfl, show sdR 1 = 3 from rfl, up 1 2 (by omega), up 1 3 (by omega)] at this
        exact this
      · rw [tg_low l k n (by omega)]; exact ih (by omega) (by omega)
  have t9 : ∀ n, 3 ≤ n → n ≤ 6 → (tgN l k n).getD 9 [] = bothL ((tgN l k 0).getD 5 []) ((tgN l k 0).getD 6 []) := by
    intro n h1 h6
    induction n with
    | zero => omega
    | succ n ih =>
      by_cases h : n = 2
      · subst h
        have := tg_new l k 2
        rw [show sdL 2 = 5 from rfl, show sdR 2 = 6 from rfl, up 2 5 (by omega), up 2 6 (by omega)] at this
        exact this
      · rw [tg_low l k n (by omega)]; exact ih (by omega) (by omega)
  have t10 : ∀ n, 4 ≤ n → n ≤ 6 → (tgN l k n).getD 10 [] = bothL (bothL ((tgN l k 0).getD 2 []) ((tgN l k 0).getD 3 [])) (bothL ((tgN l k 0).getD 5 []) ((tgN l k 0).getD 6 [])) := by
    intro n h1 h6
    induction n with
    | zero => omega
    | succ n ih =>
      by_cases h : n = 3
      · subst h
        have := tg_new l k 3
        rw [show sdL 3 = 8 from rfl, show sdR 3 = 9 from rfl, t8 3 (by omega) (by omega), t9 3 (by omega) (by omega)] at this
        exact this
      · rw [tg_low l k n (by omega)]; exact ih (by omega) (by omega)
  have t11 : (tgN l k 5).getD 11 [] = bothL (bothL (bothL ((tgN l k 0).getD 2 []) ((tgN l k 0).getD 3 [])) (bothL ((tgN l k 0).getD 5 []) ((tgN l k 0).getD 6 []))) ((tgN l k 0).getD 4 []) := by
    have := tg_new l k 4
    rw [show sdL 4 = 10 from rfl, show sdR 4 = 4 from rfl, t10 4 (by omega) (by omega), up 4 4 (by omega)] at this
    exact this
  have t12 := tg_new l k 5
  rw [show sdL 5 = 11 from rfl, show sdR 5 = 7 from rfl, t11, t7 5 (by omega) (by omega), e 0 (by omega), e 1 (by omega), e 2 (by omega), e 3 (by omega), e 4 (by omega), e 5 (by omega), e 6 (by omega), crossed l (fun d r => (r.piece d).holds (k.spot d).n)] at t12
  rw [← takes_crossed hl ko hk]
  exact t12
/-- Where a key stands in the sides so far. -/
def AtOk (l : List Rl) (k : Ky) (n : Nat) (M : List Int) : Prop := ∀ j, j < 7 + n → ∃ m : Nat, M[j]? = some (m : Int) ∧ ((clsN l n).getD j [])[m]? = some ((tgN l k n).getD j [])
theorem cls_low (l : List Rl) (n : Nat) {j : Nat} (hj : j < 7 + n) : (clsN l (n + 1)).getD j [] = (clsN l n).getD j [] := by
  rw [cls_succ, List.getD_eq_getElem?_getD, List.getElem?_append_left (by rw [cls_len]; exact hj), ← List.getD_eq_getElem?_getD]
theorem cls_new (l : List Rl) (n : Nat) : (clsN l (n + 1)).getD (7 + n) [] = setsL (crossL (sA l n) (sB l n)) := by
  rw [cls_succ, List.getD_eq_getElem?_getD, List.getElem?_append_right (by rw [cls_len]; exact Nat.le_refl _), cls_len, Nat.sub_self]
  rfl
theorem at_step {l : List Rl} {k : Ky} {n : Nat} (hn : n < 6) {M : List Int} (hM : M.length = 13) (h : AtOk l k n M) : ∃ mL mR : Nat, M[sdL n]? = some (mL : Int) ∧ M[sdR n]? = some (mR : Int) ∧ mL < (sA l n).length ∧ mR < (sB l n).length ∧ ∃ m : Nat, (classL (crossL (sA l n) (sB l n)))[mL * (sB l n).length + mR]? = some m ∧ AtOk l k (n + 1) (M.set (7 + n) (m : Int)) := by
  have hs := sd_lt n hn
  obtain ⟨mL, h1, h2⟩ := h (sdL n) hs.1
  obtain ⟨mR, h3, h4⟩ := h (sdR n) hs.2
  have h2' : (sA l n)[mL]? = some ((tgN l k n).getD (sdL n) []) := h2
  have h4' : (sB l n)[mR]? = some ((tgN l k n).getD (sdR n) []) := h4
  obtain ⟨m, h5, h6⟩ := cross_class h2' h4'
  refine ⟨mL, mR, h1, h3, (List.getElem?_eq_some_iff.1 h2').1, (List.getElem?_eq_some_iff.1 h4').1, m, h5, fun j hj => ?_⟩
  by_cases e : j = 7 + n
  · subst e
    refine ⟨m, ?_, ?_⟩
    · rw [List.getElem?_set_self (by omega)]
    · rw [cls_new, tg_new]; exact h6
  · obtain ⟨m', g1, g2⟩ := h j (by omega)
    refine ⟨m', ?_, ?_⟩
    · rw [List.getElem?_set_ne (by omega)]; exact g1
    · rw [cls_low l n (by omega), tg_low l k n (by omega)]; exact g2
theorem own_int {w : World} {B : Nat} {a : Option Addr} {c : Nat} {M : List Int} {n : Nat} (h : w.ownsRow B 3 1 (.slice a n c) n (M.map (Value.int .i64))) {i : Nat} (hi : i < n) {x : Int} (hx : M[i]? = some x) : ∃ g cur, a = some ⟨g, 0, none⟩ ∧ B ≤ g ∧ Blk w g 3 cur ∧ w.cell? ⟨g, i, none⟩ = some (.int .i64 x) ∧ ∀ y : Int, (w.setCell ⟨g, i, none⟩ (.int .i64 y)).ownsRow B 3 1 (.slice a n c) n ((M.set i y).map (Value.int .i64)) := by
  obtain ⟨g, cur, v, e1, e2, e3, e4, e5, e6⟩ := own_at h hi
  refine ⟨g, cur, e1, e2, e3, ?_, fun y => ?_⟩
  · rw [e5]
    rw [List.getElem?_map, hx] at e4
    exact e4.symm
  · rw [List.map_set]; exact e6 _
set_option maxRecDepth 100000 in
set_option maxHeartbeats 16000000 in
theorem class_any (t : TR) (k : Ky) (l : List Rl) (w : World) (hok : t.ok w) (htc : TabC l 0 t) (hl : l.length ≤ 64) (hr : ∀ r ∈ l, r.ok ∧ r.right = true) (hc4 : costN l 6 ≤ 4096) (ko : k.ok) (hk : k.right = true) :
    Calls Tryd.prog 17 #[.agg t.v, .agg k.v] w fun e w' => ∃ m : Nat, e = .returned (.tuple #[.int .i64 (m : Int), .bool true]) ∧ ((setsL (crossL (sA l 5) (sB l 5)))[m]? = some (ofB l (·.takes k))) ∧ Below w.heap.size w w' := by
  obtain ⟨i0, hi, hz0, hz1, hz2⟩ := info_parts info_int
  rcases htc with ⟨h0, _⟩ | ⟨_, D, X, hI, hD, hX⟩
  · exact absurd rfl h0
  have hd7 : t.D.length = 7 := by rw [hD, List.length_map, hI.d7]
  have hx6 : t.X.length = 6 := by rw [hX, List.length_map, hI.x6]
  have HOK : Hid (t.ok w) := hok
  have HCST : Hid (∀ n, n < 6 → (sA l n).length * (sB l n).length ≤ 4096 ∧ (sA l n).length ≤ 4096 ∧ (sB l n).length ≤ 4096) := fun n hn => by
    have h2 : costN l (n + 1) ≤ costN l 6 := cost_le l (n + 1) 6 (by omega)
    have h3 : costN l (n + 1) = costN l n + (sA l n).length * (sB l n).length := rfl
    have h4 := cls_le l n _ (List.mem_of_getElem? (cls_L l hn))
    have h5 := cls_le l n _ (List.mem_of_getElem? (cls_R l hn))
    omega
  have KSP : Hid (∀ (d : Nat), d < 7 → ∀ W, Calls Tryd.prog 41 #[.agg k.v, .int .i64 (d : Int)] W fun e w' => e = .returned (.tuple #[.agg (k.spot d).v, .bool true]) ∧ Below W.heap.size W w') := fun d hd W => by
    have := rspot_ck k (d : Int) W ko
    unfold spotR at this
    rw [if_pos ⟨hk, by omega, by omega⟩] at this
    simp only [Int.toNat_natCast] at this
    exact this
  have HSO : Hid (∀ d, d < 7 → (k.spot d).ok) := fun d hd => spot_ok ko hk d
  have HDX : Hid (∀ (d : Nat), d < 7 → ∃ x : ChR, t.D[d]? = some x ∧ ∀ W, Below w.heap.size w W → Calls Tryd.prog 42 #[.agg x.v, .agg (k.spot d).v] W fun e w' => ∃ m : Nat, e = .returned (.tuple #[.int .i64 (m : Int), .bool true]) ∧ (setsD l d)[m]? = some ((tgN l k 0).getD d []) ∧ Below W.heap.size W w') := fun d hd => by
    have e1 := List.getElem?_eq_getElem (l := D) (i := d) (by rw [hI.d7]; exact hd)
    have hcp := hI.dim d _ e1
    have hxr : t.D[d]? = some (D[d]'(by rw [hI.d7]; exact hd)).r := by rw [hD, List.getElem?_map, e1]; rfl
    refine ⟨_, hxr, fun W hb => ?_⟩
    have okx := hok.d.each _ (List.mem_of_getElem? hxr)
    have okw := okx.low hb
    refine (rfind_ck _ _ _ _ _ _ _ _ _ (k.spot d) W okx.small okw.p okw.i okw.s (HSO.out d hd)).mono ?_
    rintro e w' ⟨hf, hbb⟩
    rcases hf with ⟨hn, _⟩ | ⟨_, x, rfl, hcl⟩
    · exact absurd hcp.right hn
    · obtain ⟨m, rfl, hm⟩ := cls_set hcp hcl
      refine ⟨m, rfl, ?_, hbb⟩
      rw [tg_dim l k hd, setsD, ← hcp.set]
      exact hm
  have HCX : Hid (∀ (n : Nat), n < 6 → ∃ x : CrR, t.X[n]? = some x ∧ x.wd = ((sB l n).length : Int) ∧ x.K = ints (classL (crossL (sA l n) (sB l n)))) := fun n hn => by
    have e1 := List.getElem?_eq_getElem (l := X) (i := n) (by rw [hI.x6]; exact hn)
    obtain ⟨u1, u2, _⟩ := hI.crs n _ e1
    refine ⟨_, by rw [hX, List.getElem?_map, e1]; rfl, ?_, ?_⟩
    · show ((_ : Nat) : Int) = _; rw [u1]
    · show ints _ = _; rw [u2]
  have HTT : Hid ((tgN l k 6).getD 12 [] = ofB l (·.takes k)) := tg_takes hr ko hk
  have hv : t.v = #[.slice t.da 7 t.dc, .slice t.xa 6 t.xc, .slice t.fa t.F.length t.fc] := by show #[_, _, _] = _; rw [hd7, hx6]
  rw [hv]
  have hdn := hok.dn
  obtain ⟨fn, hfn⟩ : ∃ fn, t.F.length = fn := ⟨_, rfl⟩
  rw [hfn]
  have HTA : Hid (ofB l (·.takes k) = ofB l (·.takes k)) := rfl
  obtain ⟨TK, hTK⟩ : ∃ TK, ofB l (·.takes k) = TK := ⟨_, rfl⟩
  rw [hTK] at HTT ⊢
  obtain ⟨SL, hSL⟩ : ∃ SL, setsL (crossL (sA l 5) (sB l 5)) = SL := ⟨_, rfl⟩
  have HSL : Hid (setsL (crossL (sA l 5) (sB l 5)) = SL) := hSL
  rw [hSL]
  have hk11 : k.v.size = 11 := rfl
  obtain ⟨KV, hKV⟩ : ∃ KV, k.v = KV := ⟨_, rfl⟩
  have hsk : (Tryd.prog.info? 41).map (·.size) = some KV.size := by rw [← hKV]; show _ = some 11; kernel_rfl
  rw [hKV] at KSP ⊢
  obtain ⟨da, hda⟩ : ∃ da, t.da = da := ⟨_, rfl⟩
  obtain ⟨xa, hxa⟩ : ∃ xa, t.xa = xa := ⟨_, rfl⟩
  have HDA : Hid (t.da = da) := hda
  have HXA : Hid (t.xa = xa) := hxa
  rw [hda, hxa]
  generalize t.dc = dc
  generalize t.xc = xc
  generalize t.fa = fa
  generalize t.fc = fc
  obtain ⟨W1, hW1⟩ : ∃ W1, w.alloc (.cells #[.slice da 7 dc, .slice xa 6 xc, .slice fa fn fc] 27) = W1 := ⟨_, rfl⟩
  obtain ⟨W2, hW2⟩ : ∃ W2, W1.alloc (.cells KV 41) = W2 := ⟨_, rfl⟩
  have b2 := bel_al (bel_nw hW1) hW2
  have HB1 : Hid (Blk W2 w.heap.size 27 #[.slice da 7 dc, .slice xa 6 xc, .slice fa fn fc]) := (blk_nw hW1).al hW2
  have HBK : Hid (Blk W2 W1.heap.size 41 KV) := blk_nw hW2
  have c0 := HB1.out.cell 0 _ rfl
  have c1 := HB1.out.cell 1 _ rfl
  clear hok hI hD hX hd7 hx6 hfn hda hxa hTK hSL hKV hk11 hr ko hk hl hc4 hv
  go_enter Tryd.func17, Tryd.ntmps17
  go_wp2_with (first
    | (at_make; refine wpList_make_full _ rfl _ _ 25 rfl W2.heap.size 3 i0 (.int .i64 0) 1 Tryd.underlying25 hi hz0 hz1 _ _ _ _ 13 rfl rfl (by first | rfl | omega) (by first | rfl | omega) (by rw [hz2]; omega) (by unfold maxLen; omega) (Nat.le_refl _) ?_; intro W3 ho3 hg3))
  have q3 : Below W2.heap.size W2 W3 := (Below.refl _ _).grown hg3 (Nat.le_refl _) (fun k hk => by cases hk)
  have HO3 : Hid (W3.ownsRow W2.heap.size 3 1 (.slice (some ⟨W2.heap.size, 0, none⟩) 13 13) 13 ((List.replicate 13 (0 : Int)).map (Value.int .i64))) := by
    have e : (List.replicate 13 (0 : Int)).map (Value.int .i64) = (madeCells (Value.int .i64 0).cells (13 * 1)).toList := by
      show _ = (madeCells #[Value.int .i64 0] (13 * 1)).toList
      rw [toList_madeCells_one]
      rfl
    show W3.ownsRow _ _ _ _ _ _
    rw [e]
    exact ho3
  clear ho3 hg3 hi hz0 hz1 hz2 c0 c1 hW1 hW2
  go_wp2_with fail
  go_loopw [28] (fun i wr => ∃ (d : Nat) (M : List Int), d ≤ 7 ∧ i = .int .i64 d ∧ Hid (M.length = 13 ∧ ∀ j, j < d → ∃ m : Nat, M[j]? = some (m : Int) ∧ (setsD l j)[m]? = some ((tgN l k 0).getD j [])) ∧ Hid (wr.ownsRow W2.heap.size 3 1 (.slice (some ⟨W2.heap.size, 0, none⟩) 13 13) 13 (M.map (Value.int .i64))) ∧ Below W2.heap.size W2 wr) (fun i _ => 7 - (intOf i).toNat)
  case atStart => exact ⟨0, List.replicate 13 0, by omega, rfl, ⟨rfl, fun j hj => by omega⟩, HO3, q3⟩
  case round =>
    clear HO3 q3
    obtain ⟨d, M, hd, rfl, HM, HO, qw⟩ := hrel
    by_cases hlt : d < 7
    · have ik : (d : Int) < 7 := by omega
      have d0 : (0 : Int) ≤ (d : Int) := by omega
      have d13 : (d : Int) < 13 := by omega
      have hw1 : IntKind.i64.wrap ((d : Int) + 1) = ((d + 1 : Nat) : Int) := by simp [IntKind.wrap, IntKind.bits, IntKind.signed]; omega
      have K1 : Hid _ := KSP.out d hlt wr
      have HPO : Hid (k.spot d).ok := HSO.out d hlt
      obtain ⟨x, hx, hfx⟩ := HDX.out d hlt
      have bw : Below w.heap.size w wr := bel_tr b2 qw
      have HBKw : Hid (Blk wr W1.heap.size 41 KV) := HBK.out.kept qw
      have atk := HBKw.out.at_
      obtain ⟨⟨p0, p1, p2⟩, hp⟩ : ∃ p, k.spot d = p := ⟨_, rfl⟩
      rw [hp] at K1 hfx
      have HFX : Hid _ := hfx
      clear hfx hp
      go_wp2_with (first | (refine wpList_load_at rfl _ _ rfl W1.heap.size 0 (by rfl) _ atk Tryd.underlying41 hsk ?_))
      refine Calls.mono K1.out ?_
      rintro e V2 ⟨rfl, q2⟩
      obtain ⟨V3, hV3⟩ : ∃ V3, V2.alloc (.cells #[.int .u64 p0, .int .u64 p1, .int .u64 p2] 91) = V3 := ⟨_, rfl⟩
      have q3 := bel_al q2 hV3
      have bw3 := bel_tr bw q3
      have HP8 : Hid (Blk V3 V2.heap.size 91 #[.int .u64 p0, .int .u64 p1, .int .u64 p2]) := blk_nw hV3
      have HB13 : Hid (Blk V3 w.heap.size 27 #[.slice da 7 dc, .slice xa 6 xc, .slice fa fn fc]) := HB1.out.kept (bel_tr qw q3)
      obtain ⟨bx, ox, ex, cx⟩ := (HOK.out.low bw3).d.cells d x hx
      rw [HDA.out] at ex
      have HCX' : Hid (CellsAt V3 bx (ox + d * 3) x.v) := cx
      have hsx := info_chR x
      have hsp : (Tryd.prog.info? 91).map (·.size) = some 3 := by kernel_rfl
      obtain ⟨XV, hXV⟩ : ∃ XV, x.v = XV := ⟨_, rfl⟩
      rw [hXV] at HFX HCX' hsx
      have qw3 := bel_tr qw q3
      have HO3 : Hid (V3.ownsRow W2.heap.size 3 1 (.slice (some ⟨W2.heap.size, 0, none⟩) 13 13) 13 (M.map (Value.int .i64))) := ownsRow_low HO.out q3
      obtain ⟨dal, hdal⟩ : ∃ dal, da = some dal := ⟨_, ex⟩
      clear K1 cx hXV hx q2 q3 atk HO qw bw hdal
      subst ex
      go_wp2_with fail
      refine wp_region_noPanic ?_
      refine wp_region_held_drew (S := fun w'' => Below V3.heap.size V3 w'') (by kernel_rfl) (below_drew V3) (fun hHeld => ?_)
      refine wpAnyH_take (i := 0) (oi := { dst := some 38, op := Op.fieldAddr 27 (.tmp 2) 0, type := 0, pos := "law.go:40", after := #[], guard := none }) (v := (.pointer (some ⟨w.heap.size, 0, none⟩))) rfl (by kernel_rfl) (by kernel_rfl) (by kernel_rfl) (fun _ _ _ h => h) (Or.inl ⟨by rfl, ?_⟩) hHeld ?_
      · intro w9 hSw
        try dsimp only at hSw
        go_simp
      try simp only [Act.put, List.setIfInBounds_toArray, List.set_cons_zero, List.set_cons_succ]
      refine wpAnyH_take (i := 1) (oi := { dst := some 39, op := Op.load 23 (.tmp 38), type := 23, pos := "law.go:40", after := #[{ on := 0, ground := Ground.data }], guard := none }) (v := (.slice (some ⟨bx, ox, none⟩) 7 dc)) rfl (by kernel_rfl) (by kernel_rfl) (by kernel_rfl) (fun _ _ _ h => h) (Or.inl ⟨by rfl, ?_⟩) hHeld ?_
      · intro w9 hSw
        try dsimp only at hSw
        have hcc := (HB13.out.kept hSw).cell 0 _ rfl
        go_simp
      try simp only [Act.put, List.setIfInBounds_toArray, List.set_cons_zero, List.set_cons_succ]
      refine wpAnyH_take (i := 2) (oi := { dst := some 40, op := Op.move (.tmp 7), type := 3, pos := "law.go:40", after := #[], guard := none }) (v := (.int .i64 (d : Int))) rfl (by kernel_rfl) (by kernel_rfl) (by kernel_rfl) (fun _ _ _ h => h) (Or.inl ⟨by rfl, ?_⟩) hHeld ?_
      · intro w9 hSw
        try dsimp only at hSw
        go_simp
      try simp only [Act.put, List.setIfInBounds_toArray, List.set_cons_zero, List.set_cons_succ]
      refine wpAnyH_take (i := 3) (oi := { dst := some 41, op := Op.indexAddr 23 (.tmp 39) (.tmp 40), type := 0, pos := "law.go:40", after := #[{ on := 1, ground := Ground.data }, { on := 2, ground := Ground.data }], guard := none }) (v := (.pointer (some ⟨bx, ox + d * 3, none⟩))) rfl (by kernel_rfl) (by kernel_rfl) (by kernel_rfl) (fun _ _ _ h => h) (Or.inl ⟨by rfl, ?_⟩) hHeld ?_
      · intro w9 hSw
        try dsimp only at hSw
        go_simp
      try simp only [Act.put, List.setIfInBounds_toArray, List.set_cons_zero, List.set_cons_succ]
      refine wpAnyH_take (i := 4) (oi := { dst := some 42, op := Op.load 63 (.tmp 41), type := 63, pos := "law.go:40", after := #[{ on := 3, ground := Ground.data }], guard := none }) (v := (.agg XV)) rfl (by kernel_rfl) (by kernel_rfl) (by kernel_rfl) (fun _ _ _ h => h) (yieldsIf_at (by rfl) _ _ rfl bx (ox + d * 3) (by rfl) _ (fun _ h => HCX'.out.below h) Tryd.underlying63 hsx) hHeld ?_
      try simp only [Act.put, List.setIfInBounds_toArray, List.set_cons_zero, List.set_cons_succ]
      refine wpAnyH_take (i := 5) (oi := { dst := some 43, op := Op.load 91 (.tmp 8), type := 91, pos := "law.go:40", after := #[], guard := none }) (v := (.agg #[.int .u64 p0, .int .u64 p1, .int .u64 p2])) rfl (by kernel_rfl) (by kernel_rfl) (by kernel_rfl) (fun _ _ _ h => h) (yieldsIf_at (by rfl) _ _ rfl V2.heap.size 0 (by rfl) _ (fun _ h => (HP8.out.kept h).at_) Tryd.underlying91 hsp) hHeld ?_
      try simp only [Act.put, List.setIfInBounds_toArray, List.set_cons_zero, List.set_cons_succ]
      refine wpAnyH_ready (rs := [6]) (by kernel_rfl) (by simp) ?_
      refine AllReadyH.cons (o := { dst := some 44, op := Op.call { callee := Callee.value (.func 42), args := #[.tmp 42, .tmp 43], argTypes := #[63, 91] }, type := 43, pos := "law.go:40", after := #[{ on := 4, ground := Ground.data }, { on := 5, ground := Ground.data }], guard := none }) rfl (fun K hK => ?_) AllReadyH.nil
      go_simp
      refine Calls.mono (HFX.out _ (bel_tr bw3 (below_drew V3))) ?_
      rintro e V4 ⟨m, rfl, hm, q4⟩
      have HMM : Hid ((setsD l d)[m]? = some ((tgN l k 0).getD d [])) := hm
      have q4w := bel_tr (below_drew V3) q4
      refine hK.out _ _ q4w (fun hHeld => ?_)
      clear hK K hm q4
      try simp only [Act.put, List.setIfInBounds_toArray, List.set_cons_zero, List.set_cons_succ]
      refine wpAnyH_take (i := 7) (oi := { dst := some 37, op := Op.move (.tmp 44), type := 43, pos := "law.go:40", after := #[{ on := 6, ground := Ground.data }], guard := none }) (v := (.tuple #[.int .i64 (m : Int), .bool true])) rfl (by kernel_rfl) (by kernel_rfl) (by kernel_rfl) (fun _ _ _ h => h) (Or.inl ⟨by rfl, ?_⟩) hHeld ?_
      · intro w9 hSw
        try dsimp only at hSw
        go_simp
      try simp only [Act.put, List.setIfInBounds_toArray, List.set_cons_zero, List.set_cons_succ]
      refine wpAnyH_take (i := 8) (oi := { dst := some 45, op := Op.extract (.tmp 37) 0, type := 3, pos := "law.go:40", after := #[{ on := 7, ground := Ground.data }], guard := none }) (v := (.int .i64 (m : Int))) rfl (by kernel_rfl) (by kernel_rfl) (by kernel_rfl) (fun _ _ _ h => h) (Or.inl ⟨by rfl, ?_⟩) hHeld ?_
      · intro w9 hSw
        try dsimp only at hSw
        go_simp
      try simp only [Act.put, List.setIfInBounds_toArray, List.set_cons_zero, List.set_cons_succ]
      refine wpAnyH_take (i := 9) (oi := { dst := some 46, op := Op.extract (.tmp 37) 1, type := 4, pos := "law.go:40", after := #[{ on := 7, ground := Ground.data }, { on := 10, ground := Ground.gcOnly Departure.lateStores }], guard := none }) (v := (.bool true)) rfl (by kernel_rfl) (by kernel_rfl) (by kernel_rfl) (fun _ _ _ h => h) (Or.inl ⟨by rfl, ?_⟩) hHeld ?_
      · intro w9 hSw
        try dsimp only at hSw
        go_simp
      try simp only [Act.put, List.setIfInBounds_toArray, List.set_cons_zero, List.set_cons_succ]
      refine wpAnyH_take (i := 10) (oi := { dst := some 10, op := Op.assign (.tmp 45), type := 3, pos := "law.go:40", after := #[{ on := 8, ground := Ground.data }, { on := 6, ground := Ground.chain }, { on := 0, ground := Ground.phase }, { on := 1, ground := Ground.phase }, { on := 2, ground := Ground.phase }, { on := 3, ground := Ground.phase }, { on := 4, ground := Ground.phase }, { on := 5, ground := Ground.phase }, { on := 6, ground := Ground.phase }, { on := 7, ground := Ground.phase }, { on := 8, ground := Ground.phase }, { on := 9, ground := Ground.textOnly Departure.lateStores }], guard := none }) (v := (.int .i64 (m : Int))) rfl (by kernel_rfl) (by kernel_rfl) (by kernel_rfl) (fun _ _ _ h => h) (Or.inl ⟨by rfl, ?_⟩) hHeld ?_
      · intro w9 hSw
        try dsimp only at hSw
        go_simp
      try simp only [Act.put, List.setIfInBounds_toArray, List.set_cons_zero, List.set_cons_succ]
      refine wpAnyH_take (i := 11) (oi := { dst := some 11, op := Op.assign (.tmp 46), type := 4, pos := "law.go:40", after := #[{ on := 9, ground := Ground.data }, { on := 10, ground := Ground.chain }, { on := 0, ground := Ground.phase }, { on := 1, ground := Ground.phase }, { on := 2, ground := Ground.phase }, { on := 3, ground := Ground.phase }, { on := 4, ground := Ground.phase }, { on := 5, ground := Ground.phase }, { on := 6, ground := Ground.phase }, { on := 7, ground := Ground.phase }, { on := 8, ground := Ground.phase }, { on := 9, ground := Ground.phase }, { on := 10, ground := Ground.phase }], guard := none }) (v := (.bool true)) rfl (by kernel_rfl) (by kernel_rfl) (by kernel_rfl) (fun _ _ _ h => h) (Or.inl ⟨by rfl, ?_⟩) hHeld ?_
      · intro w9 hSw
        try dsimp only at hSw
        go_simp
      try simp only [Act.put, List.setIfInBounds_toArray, List.set_cons_zero, List.set_cons_succ]
      refine wpAnyH_done (by kernel_rfl) ?_ _
      refine NoPanic.normal ?_
      have qw4 := bel_tr qw3 q4w
      have ho4 := ownsRow_low HO3.out q4w
      obtain ⟨yd, hyd⟩ : ∃ y, M[d]? = some y := ⟨_, List.getElem?_eq_getElem (by rw [HM.out.1]; omega)⟩
      obtain ⟨g7, cur7, e7, _, bk7, f7, hset⟩ := own_int ho4 (by omega : d < 13) hyd
      cases e7
      have fz7 := bk7.frozen d
      have HO7 : Hid ((V4.setCell ⟨W2.heap.size, d, none⟩ (.int .i64 (m : Int))).ownsRow W2.heap.size 3 1 (.slice (some ⟨W2.heap.size, 0, none⟩) 13 13) 13 ((M.set d (m : Int)).map (Value.int .i64))) := hset _
      have qw7 : Below W2.heap.size W2 (V4.setCell ⟨W2.heap.size, d, none⟩ (.int .i64 (m : Int))) := qw4.setCell (Nat.le_refl _) _
      have HM7 : Hid ((M.set d (m : Int)).length = 13 ∧ ∀ j, j < d + 1 → ∃ m' : Nat, (M.set d (m : Int))[j]? = some (m' : Int) ∧ (setsD l j)[m']? = some ((tgN l k 0).getD j [])) := by
        refine ⟨by rw [List.length_set]; exact HM.out.1, fun j hj => ?_⟩
        by_cases e : j = d
        · subst e
          exact ⟨m, by rw [List.getElem?_set_self (by rw [HM.out.1]; omega)], HMM.out⟩
        · obtain ⟨m', h1, h2⟩ := HM.out.2 j (by omega)
          exact ⟨m', by rw [List.getElem?_set_ne (by omega)]; exact h1, h2⟩
      clear ho4 hyd hset HM HO3 qw3 qw4 q4w
      go_wp2
      exact ⟨⟨d + 1, M.set d (m : Int), by omega, by first | rfl | (congr 1), HM7, HO7, qw7⟩, by simp only [intOf]; omega⟩

    · have hd7 : d = 7 := by omega
      subst hd7
      have HA0 : Hid (AtOk l k 0 M) := fun j hj => by
        obtain ⟨m, h1, h2⟩ := HM.out.2 j (by omega)
        refine ⟨m, h1, ?_⟩
        have : (clsN l 0).getD j [] = setsD l j := by rw [List.getD_eq_getElem?_getD, cls_dim l (by omega)]; rfl
        rw [this]; exact h2
      have HML : Hid (M.length = 13) := HM.out.1
      have HB1w : Hid (Blk wr w.heap.size 27 #[.slice da 7 dc, .slice xa 6 xc, .slice fa fn fc]) := HB1.out.kept qw
      have c1 := HB1w.out.cell 1 _ rfl
      rw [show ((7 : Nat) : Int) = 7 from rfl]
      clear HM hlt KSP HDX HSO
      go_wp2_with fail
      clear c1
      go_loopw [61] (fun i wr => ∃ (n : Nat) (M : List Int), n ≤ 6 ∧ i = .int .i64 n ∧ Hid (M.length = 13) ∧ Hid (AtOk l k n M) ∧ Hid (wr.ownsRow W2.heap.size 3 1 (.slice (some ⟨W2.heap.size, 0, none⟩) 13 13) 13 (M.map (Value.int .i64))) ∧ Below W2.heap.size W2 wr) (fun i _ => 6 - (intOf i).toNat)
      case atStart => exact ⟨0, M, by omega, rfl, HML, HA0, HO, qw⟩
      case round =>
        clear HML HA0 HO qw HB1w
        obtain ⟨n, M, hn, rfl, HML, HA, HO, qw⟩ := hrel
        by_cases hlt : n < 6
        · have ik : (n : Int) < 6 := by omega
          have n0 : (0 : Int) ≤ (n : Int) := by omega
          have hw1 : IntKind.i64.wrap ((n : Int) + 1) = ((n + 1 : Nat) : Int) := by simp [IntKind.wrap, IntKind.bits, IntKind.signed]; omega
          have hw7 : IntKind.i64.wrap (7 + (n : Int)) = ((7 + n : Nat) : Int) := by simp [IntKind.wrap, IntKind.bits, IntKind.signed]; omega
          have bw : Below w.heap.size w wr := bel_tr b2 qw
          obtain ⟨x, hx, hwd, hK⟩ := HCX.out n hlt
          obtain ⟨mL, mR, hL, hR, lL, lR, m, hm, hat⟩ := at_step hlt HML.out HA.out
          have hcst := HCST.out n hlt
          have hsl := sd_lt n hlt
          obtain ⟨bx, ox, ex, cx⟩ := (HOK.out.low bw).x.cells n x hx
          rw [HXA.out] at ex
          have okx := HOK.out.x.each x (List.mem_of_getElem? hx)
          obtain ⟨xw, xa2, xc2, xa3, xc3, xK, xS⟩ := x
          simp only at hwd hK
          subst hwd
          have hxi : RowI w xa2 xK := okx.i
          rw [hK] at hxi
          have hvx : (⟨((sB l n).length : Int), xa2, xc2, xa3, xc3, xK, xS⟩ : CrR).v = #[.int .i64 ((sB l n).length : Int), .slice xa2 xK.length xc2, .slice xa3 xS.length xc3] := rfl
          rw [hvx, hK, List.length_map, class_len, cross_len] at cx
          obtain ⟨pb, hpb⟩ : ∃ pb, (sB l n).length = pb := ⟨_, rfl⟩
          obtain ⟨pa, hpa⟩ : ∃ pa, (sA l n).length = pa := ⟨_, rfl⟩
          rw [hpb] at cx lR hm hcst
          rw [hpa] at cx lL hcst
          obtain ⟨pp, hpp⟩ : ∃ pp, pa * pb = pp := ⟨_, rfl⟩
          rw [hpp] at cx hcst
          have hlt2 : mL * pb + mR < pp := by
            have h1 : (mL + 1) * pb ≤ pa * pb := Nat.mul_le_mul_right pb lL
            rw [Nat.add_mul, Nat.one_mul] at h1
            omega
          obtain ⟨mi, hmi⟩ : ∃ mi, mL * pb = mi := ⟨_, rfl⟩
          rw [hmi] at hm hlt2
          have hmul : IntKind.i64.wrap ((mL : Int) * (pb : Int)) = (mi : Int) := by
            have e : (mL : Int) * (pb : Int) = (mi : Int) := by rw [← hmi]; simp
            rw [e]
            exact wraps_i64 _ (by omega) (by omega)
          have hadd : IntKind.i64.wrap ((mi : Int) + (mR : Int)) = ((mi + mR : Nat) : Int) := by rw [wraps_i64 _ (by omega) (by omega)]; omega
          obtain ⟨bk, ok_, ek, hck⟩ := hxi.cells (by rw [List.length_map, class_len, cross_len, hpa, hpb, hpp]; omega)
          have hckm := hck (mi + mR) (by rw [List.length_map, class_len, cross_len, hpa, hpb, hpp]; omega)
          rw [List.getD_eq_getElem?_getD, List.getElem?_map, hm] at hckm
          simp only [Option.map_some, Option.getD_some] at hckm
          subst ek
          obtain ⟨P, hP⟩ : ∃ P, sdL n = P := ⟨_, rfl⟩
          obtain ⟨Q, hQ⟩ : ∃ Q, sdR n = Q := ⟨_, rfl⟩
          have K1 : Hid (∀ W, Calls Tryd.prog 28 #[.int .i64 (n : Int)] W fun e w' => e = .returned (.tuple #[.int .i64 (P : Int), .int .i64 (Q : Int)]) ∧ Below W.heap.size W w') := fun W => by rw [← hP, ← hQ]; exact rsides_any W n hlt
          rw [hP] at hL hsl
          rw [hQ] at hR hsl
          obtain ⟨ls, hls⟩ : ∃ ls, xS.length = ls := ⟨_, rfl⟩
          rw [hls] at cx
          have HL : Hid (M[P]? = some (mL : Int) ∧ M[Q]? = some (mR : Int)) := ⟨hL, hR⟩
          obtain ⟨V3, hV3⟩ : ∃ V3, wr.alloc (.cells #[.int .i64 (pb : Int), .slice (some ⟨bk, ok_, none⟩) pp xc2, .slice xa3 ls xc3] 47) = V3 := ⟨_, rfl⟩
          have q3 := bel_nw hV3
          have HX3 : Hid (Blk V3 wr.heap.size 47 #[.int .i64 (pb : Int), .slice (some ⟨bk, ok_, none⟩) pp xc2, .slice xa3 ls xc3]) := blk_nw hV3
          have HCK : Hid (w.cell? ⟨bk, ok_ + (mi + mR), none⟩ = some (.int .i64 (m : Int))) := hckm
          have HAT : Hid (AtOk l k (n + 1) (M.set (7 + n) (m : Int))) := hat
          have HML' : Hid ((M.set (7 + n) (m : Int)).length = 13) := by show _ = _; rw [List.length_set]; exact HML.out
          have hsz : (Tryd.prog.info? 47).map (·.size) = some 3 := by kernel_rfl
          have K1' : Hid _ := K1.out V3
          have hpP : (P : Int) < 13 := by omega
          have hpQ : (Q : Int) < 13 := by omega
          have hP0 : (0 : Int) ≤ (P : Int) := by omega
          have hQ0 : (0 : Int) ≤ (Q : Int) := by omega
          have hmR : (mR : Int) < (pb : Int) := by omega
          have hmiR : ((mi + mR : Nat) : Int) < (pp : Int) := by omega
          have hmi0 : (0 : Int) ≤ ((mi + mR : Nat) : Int) := by omega
          have n713 : ((7 + n : Nat) : Int) < 13 := by omega
          have n70 : (0 : Int) ≤ ((7 + n : Nat) : Int) := by omega
          have HC4 : Hid (pa ≤ 4096 ∧ pb ≤ 4096 ∧ pp ≤ 4096) := ⟨hcst.2.1, hcst.2.2, hcst.1⟩
          have HPQ13 : Hid (P < 13 ∧ Q < 13) := ⟨by omega, by omega⟩
          subst ex
          clear hK hxi hvx hpb hpa hpp hmi hm hat hckm hck hP hQ hL hR hls okx hx K1 hcst hsl lL
          go_wp2_with (first | (refine wpList_load_at rfl _ _ rfl bx (ox + n * 3) (by rfl) _ cx Tryd.underlying47 hsz ?_))
          refine Calls.mono K1'.out ?_
          rintro e V4 ⟨rfl, q4⟩
          have q34 := bel_tr q3 q4
          have qw4 := bel_tr qw q34
          have HO4 : Hid (V4.ownsRow W2.heap.size 3 1 (.slice (some ⟨W2.heap.size, 0, none⟩) 13 13) 13 (M.map (Value.int .i64))) := ownsRow_low HO.out q34
          have HX4 : Hid (Blk V4 wr.heap.size 47 #[.int .i64 (pb : Int), .slice (some ⟨bk, ok_, none⟩) pp xc2, .slice xa3 ls xc3]) := HX3.out.kept q4
          have f1 : V4.cell? ⟨W2.heap.size, P, none⟩ = some (.int .i64 (mL : Int)) := by
            obtain ⟨g, _, e1, _, _, e2, _⟩ := own_int HO4.out HPQ13.out.1 HL.out.1
            cases e1; exact e2
          have f2 : V4.cell? ⟨W2.heap.size, Q, none⟩ = some (.int .i64 (mR : Int)) := by
            obtain ⟨g, _, e1, _, _, e2, _⟩ := own_int HO4.out HPQ13.out.2 HL.out.2
            cases e1; exact e2
          have f3 := HX4.out.cell 0 _ rfl
          clear K1' cx q3 q4 HO qw bw hV3 HX3
          go_wp2_with fail
          go_quiet (fail)
          have q5 : Below V4.heap.size V4 (V4.drewN nq) := below_drewN (Below.refl _ _) nq
          obtain ⟨V5, hV5⟩ : ∃ V5, V4.drewN nq = V5 := ⟨_, rfl⟩
          rw [hV5] at q5
          try rw [hV5]
          have HO5 : Hid (V5.ownsRow W2.heap.size 3 1 (.slice (some ⟨W2.heap.size, 0, none⟩) 13 13) 13 (M.map (Value.int .i64))) := ownsRow_low HO4.out q5
          have HX5 : Hid (Blk V5 wr.heap.size 47 #[.int .i64 (pb : Int), .slice (some ⟨bk, ok_, none⟩) pp xc2, .slice xa3 ls xc3]) := HX4.out.kept q5
          have qw5 := bel_tr qw4 q5
          have f2' := kept q5 f2
          have f3' := HX5.out.cell 0 _ rfl
          have f4' := HX5.out.cell 1 _ rfl
          clear f1 f2 f3 q5 hV5 HO4 HX4 qw4
          go_wp2_with fail
          go_quiet (fail)
          have q6 : Below V5.heap.size V5 (V5.drewN nq) := below_drewN (Below.refl _ _) nq
          obtain ⟨V6, hV6⟩ : ∃ V6, V5.drewN nq = V6 := ⟨_, rfl⟩
          rw [hV6] at q6
          try rw [hV6]
          have HO6 : Hid (V6.ownsRow W2.heap.size 3 1 (.slice (some ⟨W2.heap.size, 0, none⟩) 13 13) 13 (M.map (Value.int .i64))) := ownsRow_low HO5.out q6
          have HX6 : Hid (Blk V6 wr.heap.size 47 #[.int .i64 (pb : Int), .slice (some ⟨bk, ok_, none⟩) pp xc2, .slice xa3 ls xc3]) := HX5.out.kept q6
          have qw6 := bel_tr qw5 q6
          have f5 := HX6.out.cell 1 _ rfl
          have f6 := kept (bel_tr b2 qw6) HCK.out
          obtain ⟨y7, hy7⟩ : ∃ y, M[7 + n]? = some y := ⟨_, List.getElem?_eq_getElem (by rw [HML.out]; omega)⟩
          obtain ⟨g7, cur7, e7, _, bk7, f7, hset⟩ := own_int HO6.out (by omega : 7 + n < 13) hy7
          cases e7
          have fz7 := bk7.frozen (7 + n)
          have HO7 : Hid ((V6.setCell ⟨W2.heap.size, 7 + n, none⟩ (.int .i64 (m : Int))).ownsRow W2.heap.size 3 1 (.slice (some ⟨W2.heap.size, 0, none⟩) 13 13) 13 ((M.set (7 + n) (m : Int)).map (Value.int .i64))) := hset _
          have qw7 : Below W2.heap.size W2 (V6.setCell ⟨W2.heap.size, 7 + n, none⟩ (.int .i64 (m : Int))) := qw6.setCell (Nat.le_refl _) _
          clear f2' f3' f4' q6 hV6 HO5 HX5 qw5 hset HO6 hy7 qw6
          go_wp2
          exact ⟨⟨n + 1, M.set (7 + n) (m : Int), by omega, by first | rfl | (congr 1), HML', HAT, HO7, qw7⟩, by simp only [intOf]; omega⟩
        · have hn6 : n = 6 := by omega
          subst hn6
          obtain ⟨m, h1, h2⟩ := HA.out 12 (by omega)
          have h3 : (clsN l 6).getD 12 [] = SL := by rw [← HSL.out, List.getD_eq_getElem?_getD, show (12 : Nat) = 7 + 5 from rfl, cls_crs l 6 (by omega)]; rfl
          rw [h3, HTT.out] at h2
          have HR : Hid (SL[m]? = some TK) := h2
          have f1 : wr.cell? ⟨W2.heap.size, 12, none⟩ = some (.int .i64 (m : Int)) := by
            obtain ⟨g, _, e1, _, _, e2, _⟩ := own_int HO.out (by omega : 12 < 13) h1
            cases e1; exact e2
          have b5 := bel_tr b2 qw
          clear h1 h2 h3 hlt
          go_wp2
          exact bodyPost_ret (results_tmp2 Tryd.results17 _ _ _) rfl ⟨m, rfl, HR.out, b5⟩
end Go.Proofs.YtcoldgpnkdallaaDoor
