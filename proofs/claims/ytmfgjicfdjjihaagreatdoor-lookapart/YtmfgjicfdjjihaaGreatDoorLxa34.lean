/- Texts joined: ChunkHoldsWalk LkP LkW Args CkZ RfM LkU -/
import Derived.Test.YtmfgjicfdjjihaaGreatDoorLxa30
import Derived.Test.YtmfgjicfdjjihaaGreatDoorLxa33
import Derived.ProofKit
import Derived.OpenShut
import Derived.SizedLaws
import Derived.Deep.Matrix
namespace Go.Proofs.YtmfgjicfdjjihaaGreatDoor
open Go.RowKit
set_option linter.unusedVariables false
set_option linter.unusedSimpArgs false
/-- The class of a point has just the pieces that hold it. -/
theorem cls_set {l : List Rl} {d : Nat} {L : List Pt} {K : List Nat} {S : List (List Nat)} (h : CutP l d L K S) {p : Pt} {x : Int} (hc : clsAt L (ints K) p x) : ∃ m : Nat, x = (m : Int) ∧ S[m]? = some (setOf (spns l d) p.n) := by
 obtain ⟨i, s, h1, h2, h3, h4⟩ := hc
 have hrow : (rowL (spns l d))[i]? = some (setOf (spns l d) s.n) := by
  unfold rowL
  rw [← h.stn, List.getElem?_map, List.getElem?_map, h1]
  rfl
 obtain ⟨m, hm1, hm2⟩ := class_get hrow
 rw [← h.cls] at hm1
 rw [← h.set] at hm2
 rw [List.getElem?_map, hm1] at h4
 refine ⟨m, by simpa using h4.symm, ?_⟩
 have hst : (startsL (spns l d))[i]? = some s.n := by rw [← h.stn, List.getElem?_map, h1]; rfl
 rw [hm2, set_at hst h2 (fun j t hj ht => ?_)]
 rw [← h.stn, List.getElem?_map, Option.map_eq_some_iff] at ht
 obtain ⟨q, hq, rfl⟩ := ht
 exact h3 j q hj hq
theorem spot_ok {k : Ky} (ho : k.ok) (hr : k.right = true) (d : Nat) : (k.spot d).ok := by
 obtain ⟨k1, k2, k3, k4, k5, k6, k7⟩ := Ky.right_all hr
 match d with
 | 0 => exact ptNum_ok (by omega) (by omega)
 | 1 => exact ptNum_ok (by omega) (by omega)
 | 2 => exact ptAd_ok ho.s k3
 | 3 => exact ptAd_ok ho.d k4
 | 4 => exact ptNum_ok (by omega) (by omega)
 | 5 => exact ptNum_ok (by omega) (by omega)
 | d + 6 => exact ptNum_ok (by omega) (by omega)
/-- How many sets a side has. -/
def szN (D : List ChR) (X : List CrR) (j : Nat) : Nat := if j < 7 then ((D[j]?).map (·.S.length)).getD 0 else ((X[j - 7]?).map (·.S.length)).getD 0
theorem sz_dim {D : List ChR} {X : List CrR} {n : Nat} {x : ChR} (hn : n < 7) (hx : D[n]? = some x) : szN D X n = x.S.length := by unfold szN; rw [if_pos hn, hx]; rfl
theorem sz_crs {D : List ChR} {X : List CrR} {n : Nat} {x : CrR} (hx : X[n]? = some x) : szN D X (7 + n) = x.S.length := by unfold szN; rw [if_neg (by omega), Nat.add_sub_cancel_left, hx]; rfl
/-- Tables may be. -/
structure TabR (D : List ChR) (X : List CrR) (F : List Int) : Prop where
 d7 : D.length = 7
 x6 : X.length = 6
 dim : ∀ x ∈ D, RightC x.L x.K x.S
 crs : ∀ (n : Nat) (x : CrR), X[n]? = some x → RightX (szN D X (sdL n)) (szN D X (sdR n)) x
 fl : F.length = szN D X 12
 fst : ∀ n ∈ F, -1 ≤ n
/-- The first n of thirteen numbers are how many sets the sides have. -/
def SzOk (D : List ChR) (X : List CrR) (n : Nat) (M : List Int) : Prop := M.length = 13 ∧ ∀ j, j < n → M[j]? = some (szN D X j : Int)
theorem SzOk.step {D : List ChR} {X : List CrR} {n m : Nat} {M : List Int} (h : SzOk D X n M) (hn : n < 13) (e : szN D X n = m) : SzOk D X (n + 1) (M.set n (m : Int)) := by
 refine ⟨by rw [List.length_set]; exact h.1, fun j hj => ?_⟩
 by_cases ej : j = n
 ·subst ej
  rw [List.getElem?_set_self (by rw [h.1]; omega), e]
 ·rw [List.getElem?_set_ne (by omega)]
  exact h.2 j (by omega)
abbrev z13 : Array Value := #[.int .i64 0, .int .i64 0, .int .i64 0, .int .i64 0, .int .i64 0, .int .i64 0, .int .i64 0, .int .i64 0, .int .i64 0, .int .i64 0, .int .i64 0, .int .i64 0, .int .i64 0]
/-- Thirteen numbers in a block of their own. -/
def Arr (w : World) (g : Nat) (M : List Int) : Prop := Blk w g 68 (M.map (Value.int .i64)).toArray
theorem arr_new {W W' : World} (e : W.alloc (.cells z13 68) = W') : Arr W' W.heap.size (List.replicate 13 0) := blk_nw e
theorem Arr.kept {w w' : World} {g : Nat} {M : List Int} (h : Arr w g M) (hb : Below w.heap.size w w') : Arr w' g M := Blk.kept h hb
theorem Arr.at_ {w : World} {g : Nat} {M : List Int} (h : Arr w g M) {i : Nat} {x : Int} (hx : M[i]? = some x) : w.cell? ⟨g, i, none⟩ = some (.int .i64 x) := Blk.cell h i _ (by simp [hx])
theorem Arr.frozen {w : World} {g : Nat} {M : List Int} (h : Arr w g M) (i : Nat) : w.frozen? ⟨g, i, none⟩ = false := Blk.frozen h i
theorem Arr.put {w : World} {g : Nat} {M : List Int} (h : Arr w g M) (i : Nat) (y : Int) : Arr (w.setCell ⟨g, i, none⟩ (.int .i64 y)) g (M.set i y) := by
 have := Blk.put h i (.int .i64 y)
 unfold Arr
 rw [List.map_set]
 simpa using this
/-- The sides, as look lays them. -/
def Lks (w : World) : Prop := CellsAt w 0 0 sdV
theorem Lks.below {w w' : World} (h : Lks w) (hb : Below w.heap.size w w') : Lks w' := CellsAt.below h hb
theorem Lks.at_ {w : World} (h : Lks w) {n : Nat} (hn : n < 6) : CellsAt w 0 (n * 2) #[.int .i64 (sdL n : Int), .int .i64 (sdR n : Int)] := by
 have h1 := h.2
 have key : ∀ n, n < 6 → sdV[n * 2]? = some (.int .i64 (sdL n : Int)) ∧ sdV[n * 2 + 1]? = some (.int .i64 (sdR n : Int)) := fun n hn =>
  match n, hn with
  | 0, _ => ⟨rfl, rfl⟩
  | 1, _ => ⟨rfl, rfl⟩
  | 2, _ => ⟨rfl, rfl⟩
  | 3, _ => ⟨rfl, rfl⟩
  | 4, _ => ⟨rfl, rfl⟩
  | 5, _ => ⟨rfl, rfl⟩
 obtain ⟨k0, k1⟩ := key n hn
 refine ⟨h.1, fun j v hj => ?_⟩
 have g0 := h1 _ _ k0
 have g1 := h1 _ _ k1
 rw [Nat.zero_add] at g0 g1
 match j, hj with
 | 0, hj =>
  obtain rfl := Option.some.inj (show some (Value.int .i64 (sdL n : Int)) = some v from hj)
  exact g0
 | 1, hj =>
  obtain rfl := Option.some.inj (show some (Value.int .i64 (sdR n : Int)) = some v from hj)
  exact g1
/-! ### The class that a key comes to -/
theorem clsAt_uniq {L : List Pt} {K : List Int} {p : Pt} {x y : Int} (h : clsAt L K p x) (h' : clsAt L K p y) : x = y := by
 obtain ⟨i, s, a1, a2, a3, a4⟩ := h
 obtain ⟨j, u, b1, b2, b3, b4⟩ := h'
 have e : i = j := by
  rcases Nat.lt_trichotomy i j with hh | hh | hh
  ·have := a3 j u hh b1; omega
  ·exact hh
  ·have := b3 i s hh a1; omega
 subst e
 rw [a4] at b4
 exact Option.some.inj b4
open Classical in
noncomputable def clD (D : List ChR) (k : Ky) (d : Nat) : Nat := if h : ∃ m : Nat, ∃ x, D[d]? = some x ∧ clsAt x.L x.K (k.spot d) (m : Int) then Classical.choose h else 0
theorem cl_dim {D : List ChR} {k : Ky} {d : Nat} {x : ChR} {v : Int} (hR : RightC x.L x.K x.S) (hx : D[d]? = some x) (hc : clsAt x.L x.K (k.spot d) v) : v = (clD D k d : Int) ∧ clD D k d < x.S.length := by
 have hv : 0 ≤ v ∧ v < (x.S.length : Int) := by
  obtain ⟨i, s, _, _, _, a4⟩ := hc
  exact hR.2.2.2.1 v (List.mem_of_getElem? a4)
 have h : ∃ m : Nat, ∃ x, D[d]? = some x ∧ clsAt x.L x.K (k.spot d) (m : Int) := ⟨v.toNat, x, hx, by rw [Int.toNat_of_nonneg hv.1]; exact hc⟩
 have e : clD D k d = Classical.choose h := by unfold clD; rw [dif_pos h]
 obtain ⟨x', h1, h2⟩ := Classical.choose_spec h
 rw [hx] at h1
 cases h1
 have := clsAt_uniq hc h2
 rw [e]
 exact ⟨this, by omega⟩
/-- The cell of a cross. -/
def cX (X : List CrR) (n a b : Nat) : Nat := match X[n]? with
 | some x => (x.K.getD (a * x.wd.toNat + b) 0).toNat
 | none => 0
noncomputable def clT (D : List ChR) (X : List CrR) (k : Ky) (j : Nat) : Nat :=
 match j with
 | 7 => cX X 0 (clD D k 0) (clD D k 1)
 | 8 => cX X 1 (clD D k 2) (clD D k 3)
 | 9 => cX X 2 (clD D k 5) (clD D k 6)
 | 10 => cX X 3 (cX X 1 (clD D k 2) (clD D k 3)) (cX X 2 (clD D k 5) (clD D k 6))
 | 11 => cX X 4 (cX X 3 (cX X 1 (clD D k 2) (clD D k 3)) (cX X 2 (clD D k 5) (clD D k 6))) (clD D k 4)
 | 12 => cX X 5 (cX X 4 (cX X 3 (cX X 1 (clD D k 2) (clD D k 3)) (cX X 2 (clD D k 5) (clD D k 6))) (clD D k 4)) (cX X 0 (clD D k 0) (clD D k 1))
 | j => clD D k j
theorem clT_dim (D : List ChR) (X : List CrR) (k : Ky) {d : Nat} (hd : d < 7) : clT D X k d = clD D k d :=
 match d, hd with
 | 0, _ => rfl
 | 1, _ => rfl
 | 2, _ => rfl
 | 3, _ => rfl
 | 4, _ => rfl
 | 5, _ => rfl
 | 6, _ => rfl
theorem clT_crs (D : List ChR) (X : List CrR) (k : Ky) {n : Nat} (hn : n < 6) : clT D X k (7 + n) = cX X n (clT D X k (sdL n)) (clT D X k (sdR n)) :=
 match n, hn with
 | 0, _ => rfl
 | 1, _ => rfl
 | 2, _ => rfl
 | 3, _ => rfl
 | 4, _ => rfl
 | 5, _ => rfl
/-- A step through a cross. -/
theorem cl_crs {D : List ChR} {X : List CrR} {F : List Int} {k : Ky} {n : Nat} {x : CrR} (hT : TabR D X F) (hn : n < 6) (hx : X[n]? = some x) (hb : ∀ j, j < 7 + n → clT D X k j < szN D X j) :
  x.wd = (szN D X (sdR n) : Int) ∧ clT D X k (sdL n) * szN D X (sdR n) + clT D X k (sdR n) < x.K.length ∧ x.K.getD (clT D X k (sdL n) * szN D X (sdR n) + clT D X k (sdR n)) 0 = (clT D X k (7 + n) : Int) ∧ clT D X k (7 + n) < szN D X (7 + n) := by
 obtain ⟨h1, h2, h3, h4, _⟩ := hT.crs n x hx
 have hs := sd_lt n hn
 have a1 := hb _ hs.1
 have a2 := hb _ hs.2
 have hlt : clT D X k (sdL n) * szN D X (sdR n) + clT D X k (sdR n) < x.K.length := by
  rw [h3]
  have : (clT D X k (sdL n) + 1) * szN D X (sdR n) ≤ szN D X (sdL n) * szN D X (sdR n) := Nat.mul_le_mul_right _ a1
  rw [Nat.add_mul, Nat.one_mul] at this
  omega
 have hg := List.getElem?_eq_getElem hlt
 have hk := h4 _ (List.getElem_mem hlt)
 have e : (clT D X k (7 + n) : Int) = x.K[clT D X k (sdL n) * szN D X (sdR n) + clT D X k (sdR n)] := by
  rw [clT_crs D X k hn]
  unfold cX
  rw [hx]
  simp only
  rw [h1, Int.toNat_natCast, List.getD_eq_getElem?_getD, hg, Option.getD_some, Int.toNat_of_nonneg hk.1]
 refine ⟨h1, hlt, ?_, ?_⟩
 ·rw [e, List.getD_eq_getElem?_getD, hg]; rfl
 ·rw [sz_crs hx]
  have := hk.2
  rw [← e] at this
  omega
/-- The first n of thirteen numbers are the classes that a key comes to. -/
def ClOk (D : List ChR) (X : List CrR) (k : Ky) (n : Nat) (M : List Int) : Prop := M.length = 13 ∧ ∀ j, j < n → M[j]? = some (clT D X k j : Int) ∧ clT D X k j < szN D X j
theorem ClOk.step {D : List ChR} {X : List CrR} {k : Ky} {n : Nat} {M : List Int} (h : ClOk D X k n M) (hn : n < 13) (e : clT D X k n < szN D X n) : ClOk D X k (n + 1) (M.set n (clT D X k n : Int)) := by
 refine ⟨by rw [List.length_set]; exact h.1, fun j hj => ?_⟩
 by_cases ej : j = n
 ·subst ej
  rw [List.getElem?_set_self (by rw [h.1]; omega)]
  exact ⟨rfl, e⟩
 ·rw [List.getElem?_set_ne (by omega)]
  exact h.2 j (by omega)
noncomputable def findT (D : List ChR) (X : List CrR) (F : List Int) (k : Ky) : Int := F.getD (clT D X k 12) 0
open Classical in
/-- What Find answers. -/
noncomputable def findA (D : List ChR) (X : List CrR) (F : List Int) (k : Ky) : Int × Int := if TabR D X F ∧ k.right = true then (findT D X F k, 0) else (0, 1)
theorem findA_yes {D : List ChR} {X : List CrR} {F : List Int} {k : Ky} (h : TabR D X F) (hk : k.right = true) : findA D X F k = (findT D X F k, 0) := by unfold findA; rw [if_pos ⟨h, hk⟩]
theorem findA_no {D : List ChR} {X : List CrR} {F : List Int} {k : Ky} (h : ¬ (TabR D X F ∧ k.right = true)) : findA D X F k = (0, 1) := by unfold findA; rw [if_neg h]
end Go.Proofs.YtmfgjicfdjjihaaGreatDoor
namespace Go.Proofs.YtmfgjicfdjjihaaGreatDoor
open Go.ChangeShapes Go.WideShapes Go.ChangeAt Go.RowKit
set_option linter.unusedVariables false
set_option linter.unusedSimpArgs false
theorem gLks : Tryz.prog.globalNamed "stockade/look.sides" = some 0 := by kernel_rfl
theorem gLksType : (Tryz.prog.globals[0]?).map (·.type) = some 71 := by kernel_rfl
set_option maxRecDepth 100000 in
theorem lks_of {W : World} {rest : List (String × DataW Unit)} (h : laidMet Tryz.prog (("stockade/look.sides", Rows.laid_stockade_look_sides) :: rest) W) : Lks W := by
 obtain ⟨ps, ⟨g', t', cs, fuel, p, q, hg', ht', hvar, hd, _, _⟩, _⟩ := h
 obtain rfl := Option.some.inj (gLks.symm.trans hg')
 obtain rfl := Option.some.inj (gLksType.symm.trans ht')
 obtain ⟨xs, m, rfl, hx, hl, hxl, hall⟩ := DataW.trod_array Tryz.underlying71 hd
 have c6 : Tryz.prog.cellsOf 71 = 12 := by kernel_rfl
 have c2 : Tryz.prog.cellsOf 70 = 2 := by kernel_rfl
 have c1 : Tryz.prog.cellsOf 3 = 1 := by kernel_rfl
 rw [c6] at hl
 rw [c2] at hall
 have hxs : xs.map (·.1) = [Lib.tabData .i64 [0, 1], Lib.tabData .i64 [2, 3], Lib.tabData .i64 [5, 6], Lib.tabData .i64 [8, 9], Lib.tabData .i64 [10, 4], Lib.tabData .i64 [11, 7]] := by
  have := congrArg Prod.fst hx
  simp only [Rows.laid_stockade_look_sides, DataW.agg.injEq] at this
  exact this.symm
 have hpair : ∀ (i : Nat) (a b : Int), i < 6 → (xs.map (·.1))[i]? = some (Lib.tabData .i64 [a, b]) → (cs.toList.drop (i * 2)).take 2 = [.int .i64 a, .int .i64 b] := fun i a b hi hd' => by
  rw [List.getElem?_map, Option.map_eq_some_iff] at hd'
  obtain ⟨⟨d, pp⟩, h1, h2⟩ := hd'
  have h3 := hall i hi
  rw [h1] at h3
  simp only at h2
  subst h2
  exact Lib.cells_of_tab Tryz.underlying70 Tryz.underlying3 c1 c2 h3
 rw [hxs] at hpair
 have p0 := hpair 0 0 1 (by omega) rfl
 have p1 := hpair 1 2 3 (by omega) rfl
 have p2 := hpair 2 5 6 (by omega) rfl
 have p3 := hpair 3 8 9 (by omega) rfl
 have p4 := hpair 4 10 4 (by omega) rfl
 have p5 := hpair 5 11 7 (by omega) rfl
 have hcs : cs = sdV := by
  refine Array.ext' ?_
  obtain ⟨v0, v1, v2, v3, v4, v5, v6, v7, v8, v9, va, vb, e⟩ : ∃ v0 v1 v2 v3 v4 v5 v6 v7 v8 v9 va vb, cs.toList = [v0, v1, v2, v3, v4, v5, v6, v7, v8, v9, va, vb] := by
   match cs.toList, hl with
   | [v0, v1, v2, v3, v4, v5, v6, v7, v8, v9, va, vb], _ => exact ⟨v0, v1, v2, v3, v4, v5, v6, v7, v8, v9, va, vb, rfl⟩
  rw [e] at p0 p1 p2 p3 p4 p5 ⊢
  simp only [Nat.zero_mul, Nat.one_mul, Nat.reduceMul, List.drop_zero, List.drop_succ_cons, List.take_succ_cons, List.take_zero, List.cons.injEq, and_true] at p0 p1 p2 p3 p4 p5
  obtain ⟨rfl, rfl⟩ := p0
  obtain ⟨rfl, rfl⟩ := p1
  obtain ⟨rfl, rfl⟩ := p2
  obtain ⟨rfl, rfl⟩ := p3
  obtain ⟨rfl, rfl⟩ := p4
  obtain ⟨rfl, rfl⟩ := p5
  rfl
 subst hcs
 have hc := fun i => World.var?_cell gLks hvar i
 exact ⟨World.block_lt_of_cell? W ⟨0, 0, none⟩ (hc 0), fun j v hv => by rw [Nat.zero_add, hc j]; exact hv⟩
theorem four_of {W : World} (h : laidMet Tryz.prog [("math/bits.deBruijn64tab", Rows.laid_math_bits_deBruijn64tab), ("stockade/chunk.greatest", Rows.laid_stockade_chunk_greatest), ("stockade/rfc.sides", Rows.laid_stockade_rfc_sides), ("stockade/look.sides", Rows.laid_stockade_look_sides)] W) : Top W ∧ Deb W ∧ Sds W ∧ Lks W :=
 ⟨top_of h.tail, deb_of h, sds_of h.tail.tail, lks_of h.tail.tail.tail⟩
end Go.Proofs.YtmfgjicfdjjihaaGreatDoor
namespace Go.Proofs.YtmfgjicfdjjihaaGreatDoor
open Go.ChangeShapes Go.WideShapes Go.ChangeAt Go.RowKit
set_option linter.unusedVariables false
theorem weightsAll_mem {H : Type} {P : Program} {e : TypeId} {n : Nat} : ∀ {ds : List (DataW H)} {d : DataW H}, d ∈ ds → n ∈ d.weights P e → n ∈ DataW.weightsAll P e ds
 | d0 :: ds, d, hd, hn => by
  rw [DataW.weightsAll, List.mem_append]
  rcases List.mem_cons.1 hd with rfl | hd
  ·exact Or.inl hn
  ·exact Or.inr (weightsAll_mem hd hn)
end Go.Proofs.YtmfgjicfdjjihaaGreatDoor
namespace Go.Proofs.YtmfgjicfdjjihaaGreatDoor
open Go.RowKit Go.ChangeShapes Go.WideShapes Go.ChangeAt
set_option linter.unusedVariables false
set_option linter.unusedSimpArgs false
set_option linter.constructorNameAsVariable false
set_option maxRecDepth 100000 in
theorem pts_open {H : Type} {enc : TypeId × Value → H} {W : World} {fuel : Nat} {cs : List Value} {y : DataW H × List MemPlace} (hlen : cs.length = 1)
  (hf : DataW.trod enc Tryz.prog W 0 (fun _ => true) true fuel 61 cs = some y) (hsz : ∀ n ∈ y.1.weights Tryz.prog 61, n ≤ reachBytes) :
  ∃ (a : Option Addr) (cap : Nat) (l : List Pt), cs = [.slice a l.length cap] ∧ l.length ≤ 17592186044416 ∧ RowP W a l := by
 rcases Deep.open_slice Tryz.underlying61 hf with ⟨hcs, _⟩ | ⟨x, len0, c, m, n, D, Pl, hcs, _, hl, hm, hmm, hx, hcell⟩
 ·exact ⟨none, 0, [], hcs, by simp, by simp, fun i q h => by simp at h⟩
 ·simp only [if_true] at hmm
  subst hmm
  obtain ⟨y1, y2⟩ := y
  simp only [Prod.mk.injEq] at hx
  obtain ⟨rfl, _⟩ := hx
  have hbe : Program.bytesOf Tryz.prog 86 = 24 := by kernel_rfl
  have hce : Program.cellsOf Tryz.prog 86 = 3 := by kernel_rfl
  have hn := hsz ((((List.range len0).map D).length + ((List.range (m - len0)).map fun j => D (len0 + j)).length) * 24) (by simp only [DataW.weights, Tryz.underlying61, hbe]; exact List.mem_cons_self ..)
  simp only [List.length_map, List.length_range, reachBytes] at hn
  have each : ∀ i, i < len0 → ∃ q : Pt, q.ok ∧ ∀ j v, q.v[j]? = some v → W.cell? ((x.add (i * 3)).add j) = some v := by
   intro i hi
   obtain ⟨cs', h1, h2⟩ := hcell i (by omega)
   rw [hce] at h1
   obtain ⟨_, hlen, hc⟩ := World.cells?_some h1
   obtain ⟨qa, qb, qc, e, hq, _⟩ := pt_cells h2
   refine ⟨⟨qa, qb, qc⟩, hq, fun j v hj => ?_⟩
   have hj' : j < 3 := by
    have := (Array.getElem?_eq_some_iff.1 hj).1
    simpa using this
   have h3 := hc j (by omega)
   rw [h3, e]
   have : (Pt.v ⟨qa, qb, qc⟩).toList[j]? = some v := by simpa using hj
   exact this
  obtain ⟨l, hl1, hl2⟩ := list_of len0 each
  refine ⟨some x, m, l, by rw [hl1]; exact hcs, by omega, fun q hq => ?_, fun i q hq => ?_⟩
  ·obtain ⟨i, hi⟩ := List.mem_iff_getElem?.1 hq
   exact (hl2 i q hi).1
  ·obtain ⟨_, c0⟩ := hl2 i q hq
   obtain ⟨b, off, spot⟩ := x
   have hil : i < l.length := (List.getElem?_eq_some_iff.1 hq).1
   obtain ⟨q0, hq0⟩ : ∃ q0, l[0]? = some q0 := ⟨_, List.getElem?_eq_getElem (by omega)⟩
   have hspot : spot = none := by simpa [Addr.add] using World.cell?_spot ((hl2 0 q0 hq0).2 0 _ rfl)
   subst hspot
   refine ⟨b, off, rfl, ?_, fun j v hj => ?_⟩
   ·have := c0 0 _ rfl
    rw [Go.WideShapes.add_plain, Go.WideShapes.add_plain] at this
    exact World.block_lt_of_cell? W _ this
   ·have := c0 j v hj
    rw [Go.WideShapes.add_plain, Go.WideShapes.add_plain] at this
    exact this
theorem ints_put {W : World} {x : Addr} {z : List Int} {n : Nat} (hn : n ≤ z.length) (hc : ∀ i, i < n → W.cell? (x.add i) = some (.int .i64 (z.getD i 0))) (hs : n ≤ 17592186044416) : RowI W (some x) (z.take n) := by
 have e1 : (z.take n).length = n := by simp; omega
 refine ⟨by omega, fun hp => ?_⟩
 rw [e1] at hp ⊢
 obtain ⟨b, off, spot⟩ := x
 have hspot : spot = none := by simpa [Addr.add] using World.cell?_spot (hc 0 hp)
 subst hspot
 refine ⟨b, off, rfl, fun i hi => ?_⟩
 have := hc i hi
 rw [Go.WideShapes.add_plain] at this
 rw [this]
 simp [hi]
set_option maxRecDepth 100000 in
theorem ints_open {H : Type} {enc : TypeId × Value → H} {W : World} {fuel : Nat} {cs : List Value} {y : DataW H × List MemPlace}
  (hf : DataW.trod enc Tryz.prog W 0 (fun _ => true) true fuel 24 cs = some y) (hsz : ∀ n ∈ y.1.weights Tryz.prog 24, n ≤ reachBytes) :
  ∃ (a : Option Addr) (cap : Nat) (l : List Int), cs = [.slice a l.length cap] ∧ RowI W a l := by
 rcases ChangeShapes.open_ints Tryz.underlying24 Tryz.underlying3 (by kernel_rfl) hf with ⟨hcs, _⟩ | ⟨x, l, c, zs, hcs, _, hl, hm, hz, hx, hcell, hwz⟩
 ·exact ⟨none, 0, [], hcs, ⟨by simp, fun h => by simp at h⟩⟩
 ·simp only [if_true] at hz
  obtain ⟨y1, y2⟩ := y
  simp only [Prod.mk.injEq] at hx
  obtain ⟨rfl, _⟩ := hx
  have hbe : Program.bytesOf Tryz.prog 3 = 8 := by kernel_rfl
  have hn := hsz (((lits .i64 (zs.take l)).length + (lits (H := H) .i64 (zs.drop l)).length) * 8) (by simp only [DataW.weights, Tryz.underlying24, hbe]; exact List.mem_cons_self ..)
  simp only [lits, List.length_map, List.length_take, List.length_drop, reachBytes] at hn
  have e1 : (zs.take l).length = l := by simp; omega
  exact ⟨some x, c, zs.take l, by rw [e1]; exact hcs, ints_put (by omega) (fun i hi => hcell i (by omega)) (by omega)⟩
theorem three_open {α : Type} {v : α → Array Value} (hv : ∀ x, (v x).size = 3) {ok : World → α → Prop} {W : World} {x : Addr} {len0 : Nat} (each : ∀ i, i < len0 → ∃ q : α, ok W q ∧ ∀ j u, (v q)[j]? = some u → W.cell? ((x.add (i * 3)).add j) = some u) : ∃ l : List α, l.length = len0 ∧ RowN 3 v ok W (some x) l := by
 obtain ⟨l, hl1, hl2⟩ := list_of len0 each
 refine ⟨l, hl1, fun q hq => ?_, fun i q hq => ?_⟩
 ·obtain ⟨i, hi⟩ := List.mem_iff_getElem?.1 hq
  exact (hl2 i q hi).1
 ·obtain ⟨_, c0⟩ := hl2 i q hq
  obtain ⟨b, off, spot⟩ := x
  have hil : i < l.length := (List.getElem?_eq_some_iff.1 hq).1
  obtain ⟨q0, hq0⟩ : ∃ q0, l[0]? = some q0 := ⟨_, List.getElem?_eq_getElem (by omega)⟩
  have g0 : ∀ q : α, (v q)[0]? = some ((v q)[0]'(by rw [hv]; omega)) := fun q => Array.getElem?_eq_getElem _
  have hspot : spot = none := by simpa [Addr.add] using World.cell?_spot ((hl2 0 q0 hq0).2 0 _ (g0 q0))
  subst hspot
  refine ⟨b, off, rfl, ?_, fun j u hj => ?_⟩
  ·have := c0 0 _ (g0 q)
   rw [Go.WideShapes.add_plain, Go.WideShapes.add_plain] at this
   exact World.block_lt_of_cell? W _ this
  ·have := c0 j u hj
   rw [Go.WideShapes.add_plain, Go.WideShapes.add_plain] at this
   exact this
theorem bulk_pos_u {H : Type} (d : DataW H) : 1 ≤ Rows.uptoBulk d := by
 cases d with
 | lit x => cases x <;> simp [Rows.uptoBulk]
 | _ => simp [Rows.uptoBulk]
theorem bulk_len_u {H : Type} : ∀ l : List (DataW H), l.length ≤ Rows.uptoBulkAll l
 | [] => by simp [Rows.uptoBulkAll]
 | d :: r => by
  have h1 := bulk_pos_u d
  have h2 := bulk_len_u r
  simp only [Rows.uptoBulkAll, List.length_cons]
  omega
theorem bulk_mem_u {H : Type} {d : DataW H} : ∀ {l : List (DataW H)}, d ∈ l → Rows.uptoBulk d ≤ Rows.uptoBulkAll l
 | [], h => by cases h
 | e :: r, h => by
  simp only [Rows.uptoBulkAll]
  rcases List.mem_cons.1 h with rfl | h
  ·omega
  ·have := bulk_mem_u h
   omega
set_option maxRecDepth 100000 in
theorem ints_open_u {H : Type} {enc : TypeId × Value → H} {W : World} {fuel : Nat} {cs : List Value} {y : DataW H × List MemPlace}
  (hf : DataW.trod enc Tryz.prog W 0 (fun _ => true) true fuel 24 cs = some y) (hsz : ∀ n ∈ y.1.weights Tryz.prog 24, n ≤ reachBytes) :
  ∃ (a : Option Addr) (cap : Nat) (l : List Int), cs = [.slice a l.length cap] ∧ (∀ n ∈ l, n ≤ 9223372036854775807) ∧ RowI W a l := by
 rcases ChangeShapes.open_ints Tryz.underlying24 Tryz.underlying3 (by kernel_rfl) hf with ⟨hcs, _⟩ | ⟨x, l, c, zs, hcs, _, hl, hm, hz, hx, hcell, hwz⟩
 ·exact ⟨none, 0, [], hcs, fun n hn => (by cases hn), ⟨by simp, fun h => by simp at h⟩⟩
 ·simp only [if_true] at hz
  obtain ⟨y1, y2⟩ := y
  simp only [Prod.mk.injEq] at hx
  obtain ⟨rfl, _⟩ := hx
  have hbe : Program.bytesOf Tryz.prog 3 = 8 := by kernel_rfl
  have hn := hsz (((lits .i64 (zs.take l)).length + (lits (H := H) .i64 (zs.drop l)).length) * 8) (by simp only [DataW.weights, Tryz.underlying24, hbe]; exact List.mem_cons_self ..)
  simp only [lits, List.length_map, List.length_take, List.length_drop, reachBytes] at hn
  have e1 : (zs.take l).length = l := by simp; omega
  exact ⟨some x, c, zs.take l, by rw [e1]; exact hcs, fun n hn => by have h9 := hwz n (List.mem_of_mem_take hn); have h8 : -9223372036854775808 ≤ n ∧ n ≤ 9223372036854775807 := (by simpa [Lit.wf, IntKind.min, IntKind.max, IntKind.signed, IntKind.bits] using h9); exact h8.2, ints_put (by omega) (fun i hi => hcell i (by omega)) (by omega)⟩
set_option maxRecDepth 100000 in
theorem sets_open_u {H : Type} {enc : TypeId × Value → H} {W : World} {fuel : Nat} {cs : List Value} {y : DataW H × List MemPlace}
  (hf : DataW.trod enc Tryz.prog W 0 (fun _ => true) true fuel 58 cs = some y) (hsz : ∀ n ∈ y.1.weights Tryz.prog 58, n ≤ reachBytes) :
  ∃ (a : Option Addr) (cap : Nat) (S : List (List Int)), cs = [.slice a S.length cap] ∧ S.length ≤ Rows.uptoBulk y.1 ∧ RowS W a S := by
 rcases Go.Deep.open_int_rows Tryz.underlying58 Tryz.underlying24 Tryz.underlying3 (by kernel_rfl) (by kernel_rfl) hf with ⟨hcs, _⟩ | ⟨x, len, cap, A, L, C, Z, hcs, _, hl, hm, hx, hrow⟩
 ·exact ⟨none, 0, [], hcs, by simp, ⟨by simp, fun i s h => by simp at h⟩⟩
 ·obtain ⟨y1, y2⟩ := y
  simp only [Prod.mk.injEq] at hx
  obtain ⟨rfl, _⟩ := hx
  have hbe : Program.bytesOf Tryz.prog 24 = 24 := by kernel_rfl
  have hbi : Program.bytesOf Tryz.prog 3 = 8 := by kernel_rfl
  have hn := hsz _ (by simp only [DataW.weights, Tryz.underlying58]; exact List.mem_cons_self ..)
  simp only [List.length_map, List.length_range, reachBytes, hbe] at hn
  obtain ⟨S, hS⟩ : ∃ S : List (List Int), S = (List.range len).map fun r => (Z r).take (L r) := ⟨_, rfl⟩
  have hls : S.length = len := by rw [hS]; simp
  have hget : ∀ i s, S[i]? = some s → i < len ∧ s = (Z i).take (L i) := fun i s hi => by
   have h1 := (List.getElem?_eq_some_iff.1 hi).1
   rw [hls] at h1
   refine ⟨h1, ?_⟩
   rw [hS] at hi
   simp [h1] at hi
   exact hi.symm
  have hbk : S.length ≤ Rows.uptoBulk (DataW.slice ((List.range len).map (fun r => Go.Deep.intRow (H := H) .i64 (A r) (L r) (Z r))) ((List.range (cap - len)).map fun j => Go.Deep.intRow (H := H) .i64 (A (len + j)) (L (len + j)) (Z (len + j)))) := by
   have := bulk_len_u ((List.range len).map (fun r => Go.Deep.intRow (H := H) .i64 (A r) (L r) (Z r)))
   simp only [List.length_map, List.length_range] at this
   simp only [Rows.uptoBulk]
   omega
  refine ⟨some x, cap, S, by rw [hls]; exact hcs, hbk, by omega, fun i s hs => ?_⟩
  obtain ⟨hi, rfl⟩ := hget i s hs
  obtain ⟨h1, h2, h3, h4, h5, h6, h7⟩ := hrow i (by omega)
  obtain ⟨b, off, spot⟩ := x
  have hspot : spot = none := by simpa [Addr.add] using World.cell?_spot (hrow 0 (by omega)).1
  subst hspot
  rw [Go.WideShapes.add_plain] at h1
  have e1 : ((Z i).take (L i)).length = L i := by simp; omega
  refine ⟨b, off, A i, C i, rfl, by rw [e1]; exact h1, ?_⟩
  cases ha : A i with
  | none =>
   have : C i = 0 := h6 ha
   have e2 : (Z i).take (L i) = [] := by rw [show L i = 0 by omega]; rfl
   rw [e2]
   exact ⟨by simp, fun h => by simp at h⟩
  | some a' =>
   have hw := hsz ((L i + (C i - L i)) * 8) (by
    simp only [DataW.weights, Tryz.underlying58]
    refine List.mem_cons_of_mem _ (List.mem_append_left _ (weightsAll_mem (d := Go.Deep.intRow .i64 (A i) (L i) (Z i)) (List.mem_map.2 ⟨i, List.mem_range.2 hi, rfl⟩) ?_))
    rw [ha]
    simp [Go.Deep.intRow, DataW.weights, Tryz.underlying24, hbi, lits, h4]
    left; omega)
   simp only [reachBytes] at hw
   exact ints_put (by omega) (fun c hc => (h7 a' ha).2 c (by omega)) (by omega)
set_option maxRecDepth 100000 in
theorem chunk_cells_u {H : Type} {enc : TypeId × Value → H} {W : World} {fuel : Nat} {cs : List Value} {y : DataW H × List MemPlace}
  (hf : DataW.trod enc Tryz.prog W 0 (fun _ => true) true fuel 63 cs = some y) (hsz : ∀ n ∈ y.1.weights Tryz.prog 63, n ≤ reachBytes) : ∃ x : ChR, cs = x.v.toList ∧ x.ok W ∧ x.S.length ≤ Rows.uptoBulk y.1 := by
 obtain ⟨y0, y1, y2, k, hy, hl, h0, h1, h2⟩ := Go.Deep.trod_struct3 Tryz.underlying63 hf
 have cc : Tryz.prog.cellsOf 63 = 3 := by kernel_rfl
 have cP : Tryz.prog.cellsOf 61 = 1 := by kernel_rfl
 have cI : Tryz.prog.cellsOf 24 = 1 := by kernel_rfl
 have cS : Tryz.prog.cellsOf 58 = 1 := by kernel_rfl
 rw [cc] at hl
 obtain ⟨v0, v1, v2, rfl⟩ := lst3 hl
 simp only [cP, cI, cS, List.drop_zero, List.drop_succ_cons, List.take_succ_cons, List.take_zero] at h0 h1 h2
 obtain ⟨y_1, y_2⟩ := y
 simp only [Prod.mk.injEq] at hy
 obtain ⟨rfl, _⟩ := hy
 obtain ⟨a1, c1, L, e0, hs, r0⟩ := pts_open rfl h0 (fun n hn => hsz n (by
  simp only [DataW.weights, Tryz.underlying63]
  exact DataW.weights_mem_each (j := 0) (t := 61) rfl rfl n hn))
 obtain ⟨a2, c2, K, e1, r1⟩ := ints_open h1 (fun n hn => hsz n (by
  simp only [DataW.weights, Tryz.underlying63]
  exact DataW.weights_mem_each (j := 1) (t := 24) rfl rfl n hn))
 obtain ⟨a3, c3, S, e2, k2, r2⟩ := sets_open_u h2 (fun n hn => hsz n (by
  simp only [DataW.weights, Tryz.underlying63]
  exact DataW.weights_mem_each (j := 2) (t := 58) rfl rfl n hn))
 obtain rfl := one_val e0
 obtain rfl := one_val e1
 obtain rfl := one_val e2
 exact ⟨⟨a1, c1, a2, c2, a3, c3, L, K, S⟩, rfl, ⟨hs, r0, r1, r2⟩, by simp only [Rows.uptoBulk, Rows.uptoBulkAll]; omega⟩
set_option maxRecDepth 100000 in
theorem cross_cells_u {H : Type} {enc : TypeId × Value → H} {W : World} {fuel : Nat} {cs : List Value} {y : DataW H × List MemPlace}
  (hf : DataW.trod enc Tryz.prog W 0 (fun _ => true) true fuel 60 cs = some y) (hsz : ∀ n ∈ y.1.weights Tryz.prog 60, n ≤ reachBytes) : ∃ x : CrR, cs = x.v.toList ∧ x.ok W ∧ x.S.length ≤ Rows.uptoBulk y.1 := by
 obtain ⟨y0, y1, y2, k, hy, hl, h0, h1, h2⟩ := Go.Deep.trod_struct3 Tryz.underlying60 hf
 have cc : Tryz.prog.cellsOf 60 = 3 := by kernel_rfl
 have cP : Tryz.prog.cellsOf 3 = 1 := by kernel_rfl
 have cI : Tryz.prog.cellsOf 24 = 1 := by kernel_rfl
 have cS : Tryz.prog.cellsOf 58 = 1 := by kernel_rfl
 rw [cc] at hl
 obtain ⟨v0, v1, v2, rfl⟩ := lst3 hl
 simp only [cP, cI, cS, List.drop_zero, List.drop_succ_cons, List.take_succ_cons, List.take_zero] at h0 h1 h2
 obtain ⟨y_1, y_2⟩ := y
 simp only [Prod.mk.injEq] at hy
 obtain ⟨rfl, _⟩ := hy
 obtain ⟨f, e0, q0, w0⟩ := DataW.trod_int Tryz.underlying3 h0
 obtain ⟨a2, c2, K, e1, r1⟩ := ints_open h1 (fun n hn => hsz n (by
  simp only [DataW.weights, Tryz.underlying60]
  exact DataW.weights_mem_each (j := 1) (t := 24) rfl rfl n hn))
 obtain ⟨a3, c3, S, e2, k2, r2⟩ := sets_open_u h2 (fun n hn => hsz n (by
  simp only [DataW.weights, Tryz.underlying60]
  exact DataW.weights_mem_each (j := 2) (t := 58) rfl rfl n hn))
 obtain rfl := one_val e0
 obtain rfl := one_val e1
 obtain rfl := one_val e2
 exact ⟨⟨f, a2, c2, a3, c3, K, S⟩, rfl, ⟨r1, r2⟩, by simp only [Rows.uptoBulk, Rows.uptoBulkAll]; omega⟩
set_option maxRecDepth 100000 in
theorem chunks_open_u {H : Type} {enc : TypeId × Value → H} {W : World} {fuel : Nat} {cs : List Value} {y : DataW H × List MemPlace}
  (hf : DataW.trod enc Tryz.prog W 0 (fun _ => true) true fuel 22 cs = some y) (hsz : ∀ n ∈ y.1.weights Tryz.prog 22, n ≤ reachBytes) :
  ∃ (a : Option Addr) (cap : Nat) (l : List ChR), cs = [.slice a l.length cap] ∧ l.length ≤ 17592186044416 ∧ (∀ q ∈ l, q.S.length ≤ Rows.uptoBulk y.1) ∧ RowD W a l := by
 rcases Deep.open_slice Tryz.underlying22 hf with ⟨hcs, _⟩ | ⟨x, len0, c, m, n, D, Pl, hcs, _, hl, hm, hmm, hx, hcell⟩
 ·exact ⟨none, 0, [], hcs, by simp, fun q hq => (by cases hq), fun q hq => (by cases hq), fun i q h => (by simp at h)⟩
 ·simp only [if_true] at hmm
  subst hmm
  obtain ⟨y1, y2⟩ := y
  simp only [Prod.mk.injEq] at hx
  obtain ⟨rfl, _⟩ := hx
  have hbe : Program.bytesOf Tryz.prog 63 = 72 := by kernel_rfl
  have hce : Program.cellsOf Tryz.prog 63 = 3 := by kernel_rfl
  have hn := hsz ((((List.range len0).map D).length + ((List.range (m - len0)).map fun j => D (len0 + j)).length) * 72) (by simp only [DataW.weights, Tryz.underlying22, hbe]; exact List.mem_cons_self ..)
  simp only [List.length_map, List.length_range, reachBytes] at hn
  have each : ∀ i, i < len0 → ∃ q : ChR, (q.ok W ∧ q.S.length ≤ Rows.uptoBulk (D i)) ∧ ∀ j u, q.v[j]? = some u → W.cell? ((x.add (i * 3)).add j) = some u := by
   intro i hi
   obtain ⟨cs', h1, h2⟩ := hcell i (by omega)
   rw [hce] at h1
   obtain ⟨_, hlen, hc⟩ := World.cells?_some h1
   obtain ⟨q, e, hq, hk⟩ := chunk_cells_u h2 (fun n hn => hsz n (by
    simp only [DataW.weights, Tryz.underlying22]
    exact List.mem_cons_of_mem _ (List.mem_append_left _ (weightsAll_mem (d := D i) (List.mem_map.2 ⟨i, List.mem_range.2 hi, rfl⟩) hn))))
   refine ⟨q, ⟨hq, hk⟩, fun j u hj => ?_⟩
   have hj' : j < 3 := (Array.getElem?_eq_some_iff.1 hj).1
   have h3 := hc j (by omega)
   rw [h3, e]
   simpa using hj
  have each' : ∀ i, i < len0 → ∃ q : ChR, (q.ok W ∧ q.S.length ≤ Rows.uptoBulkAll ((List.range len0).map D)) ∧ ∀ j u, q.v[j]? = some u → W.cell? ((x.add (i * 3)).add j) = some u := fun i hi => by
   obtain ⟨q, ⟨h1, h2⟩, h3⟩ := each i hi
   exact ⟨q, ⟨h1, Nat.le_trans h2 (bulk_mem_u (List.mem_map.2 ⟨i, List.mem_range.2 hi, rfl⟩))⟩, h3⟩
  obtain ⟨l, hl1, hl2⟩ := three_open (v := ChR.v) (fun _ => rfl) (ok := fun W q => ChR.ok W q ∧ q.S.length ≤ Rows.uptoBulkAll ((List.range len0).map D)) each'
  exact ⟨some x, m, l, by rw [hl1]; exact hcs, by omega, fun q hq => by have := (hl2.each q hq).2; simp only [Rows.uptoBulk]; omega, fun q hq => (hl2.each q hq).1, hl2.cells⟩
set_option maxRecDepth 100000 in
theorem crosses_open_u {H : Type} {enc : TypeId × Value → H} {W : World} {fuel : Nat} {cs : List Value} {y : DataW H × List MemPlace}
  (hf : DataW.trod enc Tryz.prog W 0 (fun _ => true) true fuel 23 cs = some y) (hsz : ∀ n ∈ y.1.weights Tryz.prog 23, n ≤ reachBytes) :
  ∃ (a : Option Addr) (cap : Nat) (l : List CrR), cs = [.slice a l.length cap] ∧ l.length ≤ 17592186044416 ∧ (∀ q ∈ l, q.S.length ≤ Rows.uptoBulk y.1) ∧ RowX W a l := by
 rcases Deep.open_slice Tryz.underlying23 hf with ⟨hcs, _⟩ | ⟨x, len0, c, m, n, D, Pl, hcs, _, hl, hm, hmm, hx, hcell⟩
 ·exact ⟨none, 0, [], hcs, by simp, fun q hq => (by cases hq), fun q hq => (by cases hq), fun i q h => (by simp at h)⟩
 ·simp only [if_true] at hmm
  subst hmm
  obtain ⟨y1, y2⟩ := y
  simp only [Prod.mk.injEq] at hx
  obtain ⟨rfl, _⟩ := hx
  have hbe : Program.bytesOf Tryz.prog 60 = 56 := by kernel_rfl
  have hce : Program.cellsOf Tryz.prog 60 = 3 := by kernel_rfl
  have hn := hsz ((((List.range len0).map D).length + ((List.range (m - len0)).map fun j => D (len0 + j)).length) * 56) (by simp only [DataW.weights, Tryz.underlying23, hbe]; exact List.mem_cons_self ..)
  simp only [List.length_map, List.length_range, reachBytes] at hn
  have each : ∀ i, i < len0 → ∃ q : CrR, (q.ok W ∧ q.S.length ≤ Rows.uptoBulk (D i)) ∧ ∀ j u, q.v[j]? = some u → W.cell? ((x.add (i * 3)).add j) = some u := by
   intro i hi
   obtain ⟨cs', h1, h2⟩ := hcell i (by omega)
   rw [hce] at h1
   obtain ⟨_, hlen, hc⟩ := World.cells?_some h1
   obtain ⟨q, e, hq, hk⟩ := cross_cells_u h2 (fun n hn => hsz n (by
    simp only [DataW.weights, Tryz.underlying23]
    exact List.mem_cons_of_mem _ (List.mem_append_left _ (weightsAll_mem (d := D i) (List.mem_map.2 ⟨i, List.mem_range.2 hi, rfl⟩) hn))))
   refine ⟨q, ⟨hq, hk⟩, fun j u hj => ?_⟩
   have hj' : j < 3 := (Array.getElem?_eq_some_iff.1 hj).1
   have h3 := hc j (by omega)
   rw [h3, e]
   simpa using hj
  have each' : ∀ i, i < len0 → ∃ q : CrR, (q.ok W ∧ q.S.length ≤ Rows.uptoBulkAll ((List.range len0).map D)) ∧ ∀ j u, q.v[j]? = some u → W.cell? ((x.add (i * 3)).add j) = some u := fun i hi => by
   obtain ⟨q, ⟨h1, h2⟩, h3⟩ := each i hi
   exact ⟨q, ⟨h1, Nat.le_trans h2 (bulk_mem_u (List.mem_map.2 ⟨i, List.mem_range.2 hi, rfl⟩))⟩, h3⟩
  obtain ⟨l, hl1, hl2⟩ := three_open (v := CrR.v) (fun _ => rfl) (ok := fun W q => CrR.ok W q ∧ q.S.length ≤ Rows.uptoBulkAll ((List.range len0).map D)) each'
  exact ⟨some x, m, l, by rw [hl1]; exact hcs, by omega, fun q hq => by have := (hl2.each q hq).2; simp only [Rows.uptoBulk]; omega, fun q hq => (hl2.each q hq).1, hl2.cells⟩
set_option maxRecDepth 100000 in
theorem open_tables_u {H : Type} {enc : TypeId × Value → H} {W : World} {base : Nat} {v : Value} {d : DataW H} {p : List MemPlace}
  (hv : Value.okWide Tryz.prog W .any base 26 v) (h : DataW.Trod enc Tryz.prog W 0 (fun _ => true) true 26 v d p) (hsz : ∀ n ∈ d.weights Tryz.prog 26, n ≤ reachBytes) :
  ∃ t : TR, v = .agg t.v ∧ t.ok W ∧ (∀ j, szN t.D t.X j ≤ Rows.uptoBulk d) ∧ ∀ n ∈ t.F, n ≤ 9223372036854775807 := by
 obtain ⟨cs, rfl, _⟩ := okWide_struct Tryz.underlying26 hv
 obtain ⟨fuel, hf⟩ := h
 obtain ⟨y0, y1, y2, k, hy, hl, h0, h1, h2⟩ := Go.Deep.trod_struct3 Tryz.underlying26 hf
 have cc : Tryz.prog.cellsOf 26 = 3 := by kernel_rfl
 have cP : Tryz.prog.cellsOf 22 = 1 := by kernel_rfl
 have cI : Tryz.prog.cellsOf 24 = 1 := by kernel_rfl
 have cS : Tryz.prog.cellsOf 23 = 1 := by kernel_rfl
 rw [cc] at hl
 simp only [Value.cells] at hl h0 h1 h2
 obtain ⟨v0, v1, v2, e⟩ := lst3 hl
 rw [e] at h0 h1 h2
 simp only [cP, cI, cS, List.drop_zero, List.drop_succ_cons, List.take_succ_cons, List.take_zero] at h0 h1 h2
 simp only [Prod.mk.injEq] at hy
 obtain ⟨rfl, _⟩ := hy
 obtain ⟨a1, c1, D, e0, hs0, k0, r0⟩ := chunks_open_u h0 (fun n hn => hsz n (by
  simp only [DataW.weights, Tryz.underlying26]
  exact DataW.weights_mem_each (j := 0) (t := 22) rfl rfl n hn))
 obtain ⟨a2, c2, X, e1, hs1, k1, r1⟩ := crosses_open_u h1 (fun n hn => hsz n (by
  simp only [DataW.weights, Tryz.underlying26]
  exact DataW.weights_mem_each (j := 1) (t := 23) rfl rfl n hn))
 obtain ⟨a3, c3, F, e2, k2, r2⟩ := ints_open_u h2 (fun n hn => hsz n (by
  simp only [DataW.weights, Tryz.underlying26]
  exact DataW.weights_mem_each (j := 2) (t := 24) rfl rfl n hn))
 obtain rfl := one_val e0
 obtain rfl := one_val e1
 obtain rfl := one_val e2
 refine ⟨⟨a1, c1, D, a2, c2, X, a3, c3, F⟩, ?_, ⟨hs0, hs1, r0, r1, r2⟩, fun j => ?_, k2⟩
 ·congr 1
  exact Array.ext' e
 ·simp only [Rows.uptoBulk, Rows.uptoBulkAll]
  unfold szN
  split
  ·cases hx : D[j]? with
   | none => simp
   | some x => have := k0 x (List.mem_of_getElem? hx); simp only [Option.map_some, Option.getD_some]; omega
  ·cases hx : X[j - 7]? with
   | none => simp
   | some x => have := k1 x (List.mem_of_getElem? hx); simp only [Option.map_some, Option.getD_some]; omega
end Go.Proofs.YtmfgjicfdjjihaaGreatDoor
