/- Texts joined: RfG -/
import Derived.Test.YtmfgjicfdjjihaaGreatDoorLxa28
namespace Go.Proofs.YtmfgjicfdjjihaaGreatDoor
abbrev lxa29o0 : Oper := { dst := none, op := Op.store 23 (.tmp 96) (.tmp 95), type := 0, pos := "rfc.go:49", after := #[{ on := 10, ground := Ground.data }, { on := 9, ground := Ground.data }, { on := 9, ground := Ground.chain }, { on := 0, ground := Ground.phase }, { on := 1, ground := Ground.phase }, { on := 2, ground := Ground.phase }, { on := 3, ground := Ground.phase }, { on := 4, ground := Ground.phase }, { on := 5, ground := Ground.phase }, { on := 6, ground := Ground.phase }, { on := 7, ground := Ground.phase }, { on := 8, ground := Ground.phase }, { on := 9, ground := Ground.phase }], guard := none }
abbrev lxa29o1 : Oper := { dst := some 96, op := Op.fieldAddr 26 (.tmp 6) 1, type := 0, pos := "rfc.go:49", after := #[{ on := 0, ground := Ground.phase }, { on := 1, ground := Ground.phase }, { on := 2, ground := Ground.phase }, { on := 3, ground := Ground.phase }, { on := 4, ground := Ground.phase }, { on := 5, ground := Ground.phase }, { on := 6, ground := Ground.phase }, { on := 7, ground := Ground.phase }, { on := 8, ground := Ground.phase }, { on := 9, ground := Ground.phase }], guard := none }
abbrev lxa29o2 : Oper := { dst := none, op := Op.store 24 (.tmp 119) (.tmp 118), type := 0, pos := "rfc.go:53", after := #[{ on := 6, ground := Ground.data }, { on := 5, ground := Ground.data }, { on := 5, ground := Ground.chain }, { on := 0, ground := Ground.phase }, { on := 1, ground := Ground.phase }, { on := 2, ground := Ground.phase }, { on := 3, ground := Ground.phase }, { on := 4, ground := Ground.phase }, { on := 5, ground := Ground.phase }], guard := none }
abbrev lxa29o3 : Oper := { dst := some 119, op := Op.fieldAddr 26 (.tmp 6) 2, type := 0, pos := "rfc.go:53", after := #[{ on := 0, ground := Ground.phase }, { on := 1, ground := Ground.phase }, { on := 2, ground := Ground.phase }, { on := 3, ground := Ground.phase }, { on := 4, ground := Ground.phase }, { on := 5, ground := Ground.phase }], guard := none }
abbrev lxa29o4 : Oper := { dst := some 95, op := Op.call { callee := Callee.builtin Builtin.append, args := #[.tmp 87, .tmp 94], argTypes := #[23, 23] }, type := 23, pos := "rfc.go:49", after := #[{ on := 1, ground := Ground.data }, { on := 8, ground := Ground.data }, { on := 6, ground := Ground.chain }], guard := none }
abbrev lxa29o5 : Oper := { dst := some 118, op := Op.call { callee := Callee.builtin Builtin.append, args := #[.tmp 114, .tmp 117], argTypes := #[24, 24] }, type := 24, pos := "rfc.go:53", after := #[{ on := 1, ground := Ground.data }, { on := 4, ground := Ground.data }, { on := 3, ground := Ground.chain }], guard := none }
abbrev lxa29o6 : Oper := { dst := some 94, op := Op.buildSlice 23 1 #[(0, .tmp 93)], type := 23, pos := "rfc.go:49", after := #[{ on := 7, ground := Ground.data }], guard := none }
abbrev lxa29o7 : Oper := { dst := some 93, op := Op.build 60 #[(0, .tmp 89), (1, .tmp 90), (2, .tmp 92)], type := 60, pos := "rfc.go:49", after := #[{ on := 3, ground := Ground.data }, { on := 4, ground := Ground.data }, { on := 6, ground := Ground.data }], guard := none }
abbrev lxa29o8 : Oper := { dst := some 117, op := Op.buildSlice 24 1 #[(0, .tmp 116)], type := 24, pos := "rfc.go:53", after := #[{ on := 3, ground := Ground.data }], guard := none }
abbrev lxa29o9 : Oper := { dst := some 87, op := Op.load 23 (.tmp 86), type := 23, pos := "rfc.go:49", after := #[{ on := 0, ground := Ground.data }], guard := none }
abbrev lxa29o10 : Oper := { dst := some 116, op := Op.call { callee := Callee.value (.func 39), args := #[.tmp 115], argTypes := #[99] }, type := 3, pos := "rfc.go:53", after := #[{ on := 2, ground := Ground.data }], guard := none }
abbrev lxa29o11 : Oper := { dst := some 92, op := Op.call { callee := Callee.value (.func 38), args := #[.tmp 91], argTypes := #[93] }, type := 58, pos := "rfc.go:49", after := #[{ on := 5, ground := Ground.data }], guard := none }
abbrev lxa29o12 : Oper := { dst := some 114, op := Op.load 24 (.tmp 113), type := 24, pos := "rfc.go:53", after := #[{ on := 0, ground := Ground.data }], guard := none }
end Go.Proofs.YtmfgjicfdjjihaaGreatDoor
namespace Go.Proofs.YtmfgjicfdjjihaaGreatDoor
open Go.RowKit
set_option linter.unusedVariables false
set_option linter.unusedSimpArgs false
/-- What the tables of a rule list are. -/
structure TabIs (l : List Rl) (D : List ChM) (X : List CrM) (F : List Int) : Prop where
 d7 : D.length = 7
 dim : ∀ (d : Nat) (x : ChM), D[d]? = some x → CutP l d x.L x.K x.S
 x6 : X.length = 6
 crs : ∀ (n : Nat) (x : CrM), X[n]? = some x → x.wd = (sB l n).length ∧ x.K = classL (crossL (sA l n) (sB l n)) ∧ x.S = setsL (crossL (sA l n) (sB l n))
 fst : F = (setsL (crossL (sA l 5) (sB l 5))).map firstN
/-- What Compile answers. -/
def CompGot (l : List Rl) (E : Int) (B : Nat) (e : Ending) (w : World) : Prop :=
 (E ≠ 0 ∧ e = .returned (.tuple #[.agg zc3, .int .i64 E])) ∨
 (E = 0 ∧ ∃ da dc D xa xc X fa fc F, e = .returned (.tuple #[.agg #[.slice da 7 dc, .slice xa 6 xc, .slice fa (F : List Int).length fc], .int .i64 0]) ∧ OwnD w B da dc D ∧ OwnX w B xa xc X ∧ OwnJ w B fa fc F ∧ TabIs l D X F)
theorem errC_dim (l : List Rl) {d : Nat} (hd : d < 7) : errC l (d : Int) = errC l 0 := by
 unfold errC
 have h1 : (0 : Int) ≤ (d : Int) ∧ (d : Int) < 7 := by omega
 have h2 : (0 : Int) ≤ 0 ∧ (0 : Int) < 7 := by omega
 rw [if_pos h1, if_pos h2]
/-- The sides of the crosses, as the program lays them. -/
def sdV : Array Value := #[.int .i64 0, .int .i64 1, .int .i64 2, .int .i64 3, .int .i64 5, .int .i64 6, .int .i64 8, .int .i64 9, .int .i64 10, .int .i64 4, .int .i64 11, .int .i64 7]
def Sds (w : World) : Prop := CellsAt w 1 0 sdV
theorem Sds.below {w w' : World} (h : Sds w) (hb : Below w.heap.size w w') : Sds w' := CellsAt.below h hb
theorem cutP_small {l : List Rl} {d : Nat} {L : List Pt} {K : List Nat} {S : List (List Nat)} (h : CutP l d L K S) (hl : l.length ≤ 64) : L.length ≤ 1000 ∧ K.length = L.length ∧ S.length ≤ 1000 ∧ (∀ s ∈ S, s.length ≤ 1000) ∧ ∀ p ∈ L, p.ok := by
 have := h.few
 have := h.num
 exact ⟨by omega, h.len, by omega, fun s hs => by have := h.each s hs; omega, h.ok⟩
theorem cutP_rs {l : List Rl} {d : Nat} {L : List Pt} {K : List Nat} {S : List (List Nat)} (h : CutP l d L K S) (hl : l.length ≤ 64) : S = setsD l d ∧ Rs2 S ∧ L.length = lenD l d := by
 refine ⟨h.set, ?_, ?_⟩
 ·rw [h.set]; exact setsD_rs l d hl
 ·have := congrArg List.length h.stn
  rw [List.length_map] at this
  exact this
theorem Tc.grown_new {T : TypeId → Bool} {a b c : World} {x : Option Nat} (h : Tc T a b) (hg : b.grownBy c x) (hx : ∀ g, x = some g → a.heap.size ≤ g) : Tc T a c :=
 ⟨Nat.le_trans h.size hg.size, fun g cs t fz hgb ht => by
  have hlt := (Array.getElem?_eq_some_iff.1 hgb).1
  rw [hg.block g (Nat.lt_of_lt_of_le hlt h.size) (fun e => by have := hx g e.symm; omega)]
  exact h.block g cs t fz hgb ht⟩
/-- A whole array, loaded. -/
theorem wpList_load_arr {ops : Array Oper} {rest : List Oper} {o : Oper} {ac : Act} {w : World} {Q : Exit → Act → World → Prop} (hgd : o.guard = none) (ty : TypeId) (p : Operand) (ho : o.op = Op.load ty p) (g k : Nat) (hp : ac.eval p = .pointer (some ⟨g, k, none⟩)) (sub : Array Value)
  (hb : CellsAt w g k sub) (hagg : ∀ W, (isAgg ty).run Tryz.prog W = .ok true W) (hi : (Tryz.prog.info? ty).map (·.size) = some sub.size) (h : wpList Tryz.prog ops Q rest (ac.put o.dst (.agg sub)) w) : wpList Tryz.prog ops Q (o :: rest) ac w := by
 refine wpList_plain hgd fun K hK => ?_
 have hl : (loadVar ty ⟨g, k, none⟩).run Tryz.prog w = .ok (.agg sub) w := by
  have hl : (loadCells ⟨g, k, none⟩ sub.toList.length).run Tryz.prog w = .ok sub.toList.toArray w :=
   run_loadCells_list (P := Tryz.prog) w ⟨g, k, none⟩ sub.toList (fun j v hv => by
    have hadd : (⟨g, k, none⟩ : Addr).add j = ⟨g, k + j, none⟩ := Go.WideShapes.add_plain ..
    rw [hadd]
    exact hb.2 j v (by simpa using hv))
  cases hq : Tryz.prog.info? ty with
  | none => simp [hq] at hi
  | some i =>
   have hs' : i.size = sub.size := by simpa [hq] using hi
   simp only [Array.length_toList, Array.toArray_toList] at hl
   simp [loadVar, Sem.run_bind, hagg, sizeOf, typeInfo, hq, hs', hl]
 unfold Oper.wp
 simp [execOp, ho, hp, Instr.loadAt, Instr.sureAddr, hl, Result.andThen]
 exact hK _ _ h
set_option maxRecDepth 100000 in
theorem side_index (w : World) : ∀ n : Nat, n < 6 → (Instr.index 71 (.agg sdV) (.int .i64 (n : Int))).run Tryz.prog w = .ok (.agg #[.int .i64 (sdL n : Int), .int .i64 (sdR n : Int)]) w
 | 0, _ => by kernel_rfl
 | 1, _ => by kernel_rfl
 | 2, _ => by kernel_rfl
 | 3, _ => by kernel_rfl
 | 4, _ => by kernel_rfl
 | 5, _ => by kernel_rfl
 | n + 6, h => by omega
theorem wpList_ix {ops : Array Oper} {rest : List Oper} {o : Oper} {ac : Act} {w : World} {Q : Exit → Act → World → Prop} (hgd : o.guard = none) (t : TypeId) (x ix : Operand) (ho : o.op = Op.index t x ix) (v1 v2 r : Value) (hx : ac.eval x = v1) (hi : ac.eval ix = v2)
  (hrun : (Instr.index t v1 v2).run Tryz.prog w = .ok r w) (h : wpList Tryz.prog ops Q rest (ac.put o.dst r) w) : wpList Tryz.prog ops Q (o :: rest) ac w := by
 refine wpList_plain hgd fun K hK => ?_
 unfold Oper.wp
 simp [execOp, ho, hx, hi, hrun, Result.andThen]
 exact hK _ _ h
theorem side_of {C : List ClM} {P : List (List (List Nat))} (h : C.map (·.A) = P) {i : Nat} {A : List (List Nat)} (hi : P[i]? = some A) : ∃ ua uc, C[i]? = some ⟨ua, uc, A⟩ := by
 rw [← h, List.getElem?_map, Option.map_eq_some_iff] at hi
 obtain ⟨⟨ua, uc, A'⟩, h1, h2⟩ := hi
 cases h2
 exact ⟨ua, uc, h1⟩
/-- Small sums are not wrapped. -/
theorem wsum_nat : ∀ (l : List Nat), l.sum ≤ 1000000 → wsum l = (l.sum : Int) := by
 intro l
 have key : ∀ (l : List Nat) (a : Nat), a + l.sum ≤ 1000000 → l.foldl (fun (n : Int) (k : Nat) => wrap64 (n + (k : Int))) (a : Int) = ((a + l.sum : Nat) : Int) := by
  intro l
  induction l with
  | nil => intro a _; simp
  | cons k l ih =>
   intro a h
   rw [List.sum_cons] at h
   rw [List.foldl_cons]
   have e : wrap64 ((a : Int) + (k : Int)) = ((a + k : Nat) : Int) := by
    unfold wrap64
    omega
   rw [e, ih (a + k) (by omega), List.sum_cons]
   congr 1
   omega
 intro h
 have := key l 0 (by omega)
 rw [Nat.zero_add] at this
 exact this
theorem lens_sum {l : List Rl} {D : List ChM} (h7 : D.length = 7) (hd : ∀ (d : Nat) (x : ChM), D[d]? = some x → x.L.length = lenD l d) : (D.map fun x => x.L.length).sum = costD l 7 := by
 obtain ⟨x0, x1, x2, x3, x4, x5, x6, rfl⟩ : ∃ x0 x1 x2 x3 x4 x5 x6, D = [x0, x1, x2, x3, x4, x5, x6] := by
  match D, h7 with
  | [x0, x1, x2, x3, x4, x5, x6], _ => exact ⟨x0, x1, x2, x3, x4, x5, x6, rfl⟩
 simp only [List.map_cons, List.map_nil, List.sum_cons, List.sum_nil, costD]
 rw [hd 0 x0 rfl, hd 1 x1 rfl, hd 2 x2 rfl, hd 3 x3 rfl, hd 4 x4 rfl, hd 5 x5 rfl, hd 6 x6 rfl]
 omega
set_option maxRecDepth 100000 in
set_option maxHeartbeats 16000000 in
theorem compile_main (a : Option Addr) (c : Nat) (l : List Rl) (budget : Int) (w : World) (hT : Top w) (hDb : Deb w) (hSd : Sds w) (hrow : RowR w a l) (he : errC l 0 = 0) (hbg : 0 ≤ budget) (hbg' : budget ≤ 4096) :
  Calls Tryz.prog 14 #[.slice a l.length c, .int .i64 budget] w fun e w' => CompGot l (if budget < (costN l 6 : Int) then 18 else 0) w.heap.size e w' ∧ Below w.heap.size w w' := by
 have hl : l.length ≤ 64 := by obtain ⟨_, _, _, h, _⟩ := err_ok he; exact h
 have HL : Hid (l.length ≤ 64) := hl
 have HT : Hid (Top w) := hT
 have HDB : Hid (Deb w) := hDb
 have HSD : Hid (Sds w) := hSd
 have HRow : Hid (RowR w a l) := hrow
 have KC : Hid (∀ (d : Nat), d < 7 → ∀ W, Below w.heap.size w W → Calls Tryz.prog 34 #[.slice a l.length c, .int .i64 (d : Int)] W fun e w' => ∃ x : ChM, e = .returned (.tuple #[.agg x.v, .int .i64 0]) ∧ x.own w' w.heap.size ∧ CutP l d x.L x.K x.S ∧ Below W.heap.size W w') := fun d hd W hb => by
  refine (cut_ok a c l (d : Int) W (hT.below hb) (hrow.low hb) (by rw [errC_dim l hd]; exact he)).mono ?_
  rintro e w' ⟨g1, c1, ka, kc, sa, sc, vs, L, K, S, rfl, hc, hp, hb'⟩
  rw [Int.toNat_natCast] at hp
  exact ⟨⟨g1, c1, ka, kc, sa, sc, vs, L, K, S⟩, rfl, hc.base hb.size, hp, hb'⟩
 have KS : Hid (∀ (a : Option Addr) (c : Nat) (A : List (List Nat)) W, RowS W a (A.map ints) → Rs2 A → A.length ≤ 10000 → Calls Tryz.prog 35 #[.slice a A.length c] W fun e w' => ∃ a' c', e = .returned (.slice a' A.length c') ∧ OwnU w' W.heap.size a' c' (A.map bitsN) ∧ Below W.heap.size W w') := fun a c A W h hA hN => setsOf_any a c A W h hA hN
 obtain ⟨N, hN⟩ : ∃ N, l.length = N := ⟨_, rfl⟩
 rw [hN] at KC hl ⊢
 obtain ⟨E, hE⟩ : ∃ E, (if budget < (costN l 6 : Int) then (18 : Int) else 0) = E := ⟨_, rfl⟩
 have HE : Hid ((if budget < (costN l 6 : Int) then (18 : Int) else 0) = E) := hE
 rw [hE]
 obtain ⟨W1, hW1⟩ : ∃ W1, w.alloc (.cells zc3 26) = W1 := ⟨_, rfl⟩
 obtain ⟨W2, hW2⟩ : ∃ W2, W1.alloc (.cells zc3 26) = W2 := ⟨_, rfl⟩
 have b1 := bel_nw hW1
 have b2 := bel_al b1 hW2
 have HG4 : Hid (Blk W2 w.heap.size 26 zc3) := (blk_nw hW1).al hW2
 have HG6 : Hid (Blk W2 W1.heap.size 26 zc3) := blk_nw hW2
 have HLT : Hid (w.heap.size < W1.heap.size) := (blk_nw hW1).lt
 have d1 : decide (budget < 0) = false := by simp; omega
 have d2 : decide (budget > 4096) = false := by simp; omega
 clear hT hDb hSd hrow he hN hE
 go_enter Tryz.func14, Tryz.ntmps14
 go_wp2_with fail
 clear d1 d2 hW1 hW2
 go_loopw [7, 27] (fun v7 i wr => ∃ (d : Nat) (ca : Option Addr) (cc : Nat) (C : List ClM) (da : Option Addr) (dc : Nat) (D : List ChM), d ≤ 7 ∧ v7 = .slice ca d cc ∧ i = .int .i64 d ∧ Hid (OwnC wr w.heap.size ca cc C) ∧ Hid (OwnD wr w.heap.size da dc D) ∧ Hid (Blk wr W1.heap.size 26 #[.slice da d dc, .slice none 0 0, .slice none 0 0]) ∧ Hid (Blk wr w.heap.size 26 zc3) ∧ Hid (D.length = d ∧ C.length = d ∧ ∀ (j : Nat) (x : ChM), D[j]? = some x → CutP l j x.L x.K x.S) ∧ Hid (C.map (·.A) = (List.range d).map (setsD l)) ∧ Below w.heap.size w wr) (fun _ i _ => 7 - (intOf i).toNat)
 case atStart => exact ⟨0, none, 0, [], none, 0, [], by omega, rfl, rfl, OwnC.nil _ _, OwnD.nil _ _, HG6, HG4, ⟨rfl, rfl, fun j x h => by simp at h⟩, Eq.refl ([] : List (List (List Nat))), b2⟩
 case round =>
  clear HG4 HG6 b1 b2
  obtain ⟨d, ca, cc, C, da, dc, D, hd, rfl, rfl, HOC, HOD, HG6, HG4, HDL, HCM, bw⟩ := hrel
  by_cases hlt : d < 7
  ·have ik : (d : Int) < 7 := by omega
   have hw1 : IntKind.i64.wrap ((d : Int) + 1) = ((d + 1 : Nat) : Int) := by simp [IntKind.wrap, IntKind.bits, IntKind.signed]; omega
   have K1 : Hid _ := KC.out d hlt wr bw
   go_wp2_with fail
   refine Calls.mono K1.out ?_
   rintro e V2 ⟨x, rfl, hx, hp, q2⟩
   have bw2 := bel_tr bw q2
   have HXO : Hid (x.own V2 w.heap.size) := hx
   have HXP : Hid (CutP l d x.L x.K x.S) := hp
   obtain ⟨V3, hV3⟩ : ∃ V3, V2.alloc (.cells x.v 63) = V3 := ⟨_, rfl⟩
   have q3 := bel_nw hV3
   have q23 := bel_tr q2 q3
   have bw3 := bel_tr bw2 q3
   have HB9 : Hid (Blk V3 V2.heap.size 63 x.v) := blk_nw hV3
   have HG6b : Hid (Blk V3 W1.heap.size 26 #[.slice da d dc, .slice none 0 0, .slice none 0 0]) := HG6.out.kept q23
   have HG4b : Hid (Blk V3 w.heap.size 26 zc3) := HG4.out.kept q23
   have HOCb : Hid (OwnC V3 w.heap.size ca cc C) := HOC.out.below q23
   have HODb : Hid (OwnD V3 w.heap.size da dc D) := HOD.out.below q23
   have HXOb : Hid (x.own V3 w.heap.size) := CutIn.below HXO.out q3
   obtain ⟨V4, hV4⟩ : ∃ V4, V3.alloc (.cells x.v 63) = V4 := ⟨_, rfl⟩
   have q4 := bel_nw hV4
   have bw4 := bel_tr bw3 q4
   obtain ⟨gd, dc', V5, hrun, hod5, htc5, hgr5, q5⟩ := run_appD1 V4 22 w.heap.size da dc D (HODb.out.below q4) x (CutIn.below HXOb.out q4) V3.heap.size 1 63 (blk_nw hV4) (by have := HDL.out.1; omega) bw4.size
   rw [HDL.out.1] at hrun
   have bw5 : Below w.heap.size w V5 := bw4.trans q5
   have HR5 : Hid _ := hrun
   have hg65 : Blk V5 W1.heap.size 26 #[.slice da d dc, .slice none 0 0, .slice none 0 0] := (HG6b.out.kept q4).tc htc5 (by rfl)
   have hg45 : Blk V5 w.heap.size 26 zc3 := (HG4b.out.kept q4).tc htc5 (by rfl)
   have hb95 : Blk V5 V2.heap.size 63 x.v := (HB9.out.kept q4).far hgr5 (fun e => by
    have := (own_lt HOD.out.row _ e).2
    have := q2.size
    omega)
   obtain ⟨V6, hV6⟩ : ∃ V6, V5.setCell ⟨W1.heap.size, 0, none⟩ (.slice (some ⟨gd, 0, none⟩) (d + 1) dc') = V6 := ⟨_, rfl⟩
   have htc6 : Tc (· == 26) V5 V6 := by rw [← hV6]; exact Tc.put hg65 (by rfl) _ _
   have bw6 : Below w.heap.size w V6 := by rw [← hV6]; exact bw5.setCell (Nat.le_of_lt HLT.out) _
   have HG66 : Hid (Blk V6 W1.heap.size 26 #[.slice (some ⟨gd, 0, none⟩) (d + 1) dc', .slice none 0 0, .slice none 0 0]) := by
    have := hg65.put 0 (.slice (some ⟨gd, 0, none⟩) (d + 1) dc')
    rw [hV6] at this
    exact this
   have HG46 : Hid (Blk V6 w.heap.size 26 zc3) := by
    have := hg45.put_other hg65 (Nat.ne_of_lt HLT.out) 0 (.slice (some ⟨gd, 0, none⟩) (d + 1) dc')
    rw [hV6] at this
    exact this
   have hb96 : Blk V6 V2.heap.size 63 x.v := hb95.tc htc6 (by rfl)
   have HOD6 : Hid (OwnD V6 w.heap.size (some ⟨gd, 0, none⟩) dc' (D ++ [x])) := hod5.tc htc6 (by rfl) (by rfl) (by rfl) (by rfl)
   have HOC6 : Hid (OwnC V6 w.heap.size ca cc C) := ((HOCb.out.below q4).tc htc5 (by rfl) (by rfl)).tc htc6 (by rfl) (by rfl)
   have hxo6 : x.own V6 w.heap.size := CutIn.tc (CutIn.tc (CutIn.below HXOb.out q4) htc5 (by rfl) (by rfl) (by rfl)) htc6 (by rfl) (by rfl) (by rfl)
   have hs1 : (Tryz.prog.info? 63).map (·.size) = some x.v.size := info_chR x.r
   have hps := cutP_small HXP.out HL.out
   have hrs := cutP_rs HXP.out HL.out
   have K2 : Hid _ := KS.out x.sa x.sc x.S V6 (hxo6.set.rows (by omega) (fun s hs => by have := hps.2.2.2.1 s hs; omega)) hrs.2.1 (by omega)
   have c60 := (HG6b.out.kept q4).cell 0 _ rfl
   have c60' := HG6b.out.cell 0 _ rfl
   have c65 := hg65.cell 0 _ rfl
   have f65 := hg65.frozen 0
   have at9 := HB9.out.at_
   have c92 := hb96.cell 2 _ rfl
   clear K1 hx hp hrun HOC HOD HG6 HG4 hg65 hg45 hb95 hb96 hod5 htc5 hgr5 htc6 hxo6 hps hrs HXOb HXO HOCb HODb HG6b HG4b HB9
   go_wp2_with (first
    | (refine wpList_load_at rfl _ _ rfl V2.heap.size 0 (by rfl) _ at9 Tryz.underlying63 hs1 ?_)
    | (refine wpList_rn rfl 22 _ _ rfl _ _ rfl rfl _ _ HR5.out ?_))
   refine Calls.mono K2.out ?_
   rintro e V7 ⟨ua, uc, rfl, hou, q7⟩
   have bw7 := bel_tr bw6 q7
   obtain ⟨V8, hV8⟩ : ∃ V8, V7.alloc (.cells #[.slice ua x.S.length uc] 93) = V8 := ⟨_, rfl⟩
   have q8 := bel_nw hV8
   have q68 := bel_tr q7 q8
   have bw8 := bel_tr bw7 q8
   obtain ⟨gc, cc', V9, hrun9, hoc9, htc9, _, q9⟩ := run_appC1 V8 90 w.heap.size ca cc C (HOC6.out.below q68) ⟨ua, uc, x.S⟩ (OwnU.below (ownsRow_base hou bw6.size) q8) V7.heap.size 1 93 (blk_nw hV8) (by have := HDL.out.2.1; omega) bw8.size
   rw [HDL.out.2.1] at hrun9
   have HR9 : Hid _ := hrun9
   have bw9 : Below w.heap.size w V9 := bw8.trans q9
   have HG69 : Hid (Blk V9 W1.heap.size 26 #[.slice (some ⟨gd, 0, none⟩) (d + 1) dc', .slice none 0 0, .slice none 0 0]) := (HG66.out.kept q68).tc htc9 (by rfl)
   have HG49 : Hid (Blk V9 w.heap.size 26 zc3) := (HG46.out.kept q68).tc htc9 (by rfl)
   have HOD9 : Hid (OwnD V9 w.heap.size (some ⟨gd, 0, none⟩) dc' (D ++ [x])) := (HOD6.out.below q68).tc htc9 (by rfl) (by rfl) (by rfl) (by rfl)
   have HOC9 : Hid (OwnC V9 w.heap.size (some ⟨gc, 0, none⟩) cc' (C ++ [⟨ua, uc, x.S⟩])) := hoc9
   have HDL9 : Hid ((D ++ [x]).length = d + 1 ∧ (C ++ [(⟨ua, uc, x.S⟩ : ClM)]).length = d + 1 ∧ ∀ (j : Nat) (z : ChM), (D ++ [x])[j]? = some z → CutP l j z.L z.K z.S) := by
    refine ⟨by rw [List.length_append, HDL.out.1]; rfl, by rw [List.length_append, HDL.out.2.1]; rfl, fun j z hz => ?_⟩
    by_cases hj : j < d
    ·rw [List.getElem?_append_left (by rw [HDL.out.1]; exact hj)] at hz
     exact HDL.out.2.2 j z hz
    ·rw [List.getElem?_append_right (by rw [HDL.out.1]; omega), HDL.out.1] at hz
     have hj0 : j - d = 0 := by
      have := (List.getElem?_eq_some_iff.1 hz).1
      simp at this
      omega
     rw [hj0] at hz
     cases hz
     rw [show j = d by omega]
     exact HXP.out
   have HCM9 : Hid ((C ++ [(⟨ua, uc, x.S⟩ : ClM)]).map (·.A) = (List.range (d + 1)).map (setsD l)) := by
    show _ = _
    rw [List.map_append, HCM.out, List.range_succ, List.map_append]
    have := (cutP_rs HXP.out HL.out).1
    simp [this]
   clear hou hrun9 hoc9 htc9 q9 q8 q68 q7 bw7 bw8 HOC6 HOD6 HG66 HG46 HDL HCM K2 c60 c60' c65 f65 at9 c92
   go_wp2_with (refine wpList_rn rfl 90 _ _ rfl _ _ rfl rfl _ _ HR9.out ?_)
   exact ⟨⟨d + 1, some ⟨gc, 0, none⟩, cc', C ++ [⟨ua, uc, x.S⟩], some ⟨gd, 0, none⟩, dc', D ++ [x], by omega, rfl, by first | rfl | (congr 1), HOC9, HOD9, HG69, HG49, HDL9, HCM9, bw9⟩, by simp only [intOf]; omega⟩
  ·have hd7 : d = 7 := by omega
   subst hd7
   clear KC KS
   have hrd : RowD wr da (D.map ChM.r) := HOD.out.rows fun x hx => by
    obtain ⟨j, hj⟩ := List.getElem?_of_mem hx
    exact cutP_small (HDL.out.2.2 j x hj) HL.out
   have K1 : Hid (Calls Tryz.prog 36 #[.agg #[.slice da 7 dc, .slice none 0 0, .slice none 0 0]] wr fun e w' => e = .returned (.int .i64 (costN l 0 : Int)) ∧ Below wr.heap.size wr w') := by
    have := cost_any da none none dc 0 0 0 (D.map ChM.r) [] wr (by rw [List.length_map, HDL.out.1]; omega) (by simp) hrd ⟨fun q hq => (by cases hq), fun i q hq => (by simp at hq)⟩
    rw [List.length_map, HDL.out.1, List.map_nil, List.append_nil] at this
    have e1 : (D.map ChM.r).map (fun x => x.L.length) = D.map fun x => x.L.length := by rw [List.map_map]; rfl
    have e2 := lens_sum (l := l) HDL.out.1 (fun j x hj => (cutP_rs (HDL.out.2.2 j x hj) HL.out).2.2)
    have e3 := costD_bound l HL.out 7
    rw [e1, wsum_nat _ (by rw [e2]; omega), e2] at this
    exact this
   have hst : (Tryz.prog.info? 26).map (·.size) = some 3 := by kernel_rfl
   have at6 := HG6.out.at_
   have HCM0 : Hid (C.map (·.A) = clsN l 0) := HCM.out
   clear hrd HCM
   go_wp2_with (first
    | (refine wpList_load_at rfl _ _ rfl W1.heap.size 0 (by rfl) _ at6 Tryz.underlying26 hst ?_))
   refine Calls.mono K1.out ?_
   rintro e V2 ⟨rfl, q2⟩
   have bw2 := bel_tr bw q2
   have HG62 : Hid (Blk V2 W1.heap.size 26 #[.slice da 7 dc, .slice none 0 0, .slice none 0 0]) := HG6.out.kept q2
   have HG42 : Hid (Blk V2 w.heap.size 26 zc3) := HG4.out.kept q2
   have HOD2 : Hid (OwnD V2 w.heap.size da dc D) := HOD.out.below q2
   have HOC2 : Hid (OwnC V2 w.heap.size ca cc C) := HOC.out.below q2
   have hsd2 : CellsAt V2 1 0 sdV := HSD.out.below bw2
   have hs69 : (Tryz.prog.info? 71).map (·.size) = some sdV.size := by kernel_rfl
   clear K1 q2 at6 HG6 HG4 HOD HOC bw
   go_wp2_with (first
    | (refine wpList_load_arr rfl _ _ rfl 1 0 (by rfl) _ hsd2 (fun W => by rfl) hs69 ?_))
   clear hsd2 hs69
   go_loopw [7, 11, 56] (fun v7 v11 i wr => ∃ (n M : Nat) (ca : Option Addr) (cc : Nat) (C : List ClM) (xa : Option Addr) (xc : Nat) (X : List CrM) (q : Nat), n ≤ 6 ∧ v7 = .slice ca M cc ∧ v11 = .int .i64 (q : Int) ∧ i = .int .i64 n ∧ q ≤ 5000 ∧ Hid (costN l n = q) ∧ Hid (n = 0 ∨ (q : Int) ≤ budget) ∧ Hid (M = 7 + n) ∧ Hid (OwnC wr w.heap.size ca cc C) ∧ Hid (OwnD wr w.heap.size da dc D) ∧ Hid (OwnX wr w.heap.size xa xc X) ∧ Hid (Blk wr W1.heap.size 26 #[.slice da 7 dc, .slice xa n xc, .slice none 0 0]) ∧ Hid (Blk wr w.heap.size 26 zc3) ∧ Hid (X.length = n ∧ ∀ (j : Nat) (x : CrM), X[j]? = some x → x.wd = (sB l j).length ∧ x.K = classL (crossL (sA l j) (sB l j)) ∧ x.S = setsL (crossL (sA l j) (sB l j))) ∧ Hid (C.length = M) ∧ Hid (C.map (·.A) = clsN l n) ∧ Below w.heap.size w wr) (fun _ _ i _ => 6 - (intOf i).toNat)
   case atStart =>
    exact ⟨0, 7, ca, cc, C, none, 0, [], costN l 0, by omega, rfl, rfl, rfl, by have := costD_bound l HL.out 7; show costD l 7 ≤ 5000; omega, Eq.refl (costN l 0), Or.inl rfl, Eq.refl 7, HOC2, HOD2, OwnX.nil _ _, HG62, HG42, ⟨rfl, fun j x h => by simp at h⟩, HDL.out.2.1, HCM0, bw2⟩
   case round =>
    clear HOC2 HOD2 HG62 HG42 HCM0 bw2
    obtain ⟨n, M, ca, cc, C, xa, xc, X, q, hn, rfl, rfl, rfl, hq, HQ, HNB, HMN, HOC, HOD, HOX, HG6, HG4, HXL, HCL, HCM, bw⟩ := hrel
    by_cases hlt : n < 6
    ·have ik : (n : Int) < 6 := by omega
     have in0 : (0 : Int) ≤ (n : Int) := by omega
     have hw1 : IntKind.i64.wrap ((n : Int) + 1) = ((n + 1 : Nat) : Int) := by simp [IntKind.wrap, IntKind.bits, IntKind.signed]; omega
     have hsl := sd_lt n hlt
     obtain ⟨u1, v1, hC1⟩ := side_of HCM.out (cls_L l hlt)
     obtain ⟨u2, v2, hC2⟩ := side_of HCM.out (cls_R l hlt)
     have hA1 : Rs2 (sA l n) ∧ (sA l n).length ≤ 5000 := ⟨cls_rs l HL.out n (by omega) _ (List.mem_of_getElem? (cls_L l hlt)), by have := cls_le l n _ (List.mem_of_getElem? (cls_L l hlt)); rw [HQ.out] at this; omega⟩
     have hA2 : Rs2 (sB l n) ∧ (sB l n).length ≤ 5000 := ⟨cls_rs l HL.out n (by omega) _ (List.mem_of_getElem? (cls_R l hlt)), by have := cls_le l n _ (List.mem_of_getElem? (cls_R l hlt)); rw [HQ.out] at this; omega⟩
     have hcost : costN l (n + 1) = q + (sA l n).length * (sB l n).length := by rw [← HQ.out]; rfl
     have hcls := cls_succ l n
     have hix := side_index wr n hlt
     obtain ⟨A, hA⟩ : ∃ A, sA l n = A := ⟨_, rfl⟩
     obtain ⟨B, hB⟩ : ∃ B, sB l n = B := ⟨_, rfl⟩
     obtain ⟨P, hP⟩ : ∃ P, sdL n = P := ⟨_, rfl⟩
     obtain ⟨Q, hQ⟩ : ∃ Q, sdR n = Q := ⟨_, rfl⟩
     rw [hA] at hC1 hA1 hcost hcls
     rw [hB] at hC2 hA2 hcost hcls
     rw [hP] at hC1 hsl hix
     rw [hQ] at hC2 hsl hix
     have HAB : Hid (sA l n = A ∧ sB l n = B) := ⟨hA, hB⟩
     obtain ⟨V3, hV3⟩ : ∃ V3, wr.alloc (.cells #[.int .i64 (P : Int), .int .i64 (Q : Int)] 70) = V3 := ⟨_, rfl⟩
     have q3 := bel_nw hV3
     have bw3 := bel_tr bw q3
     have hb3 := blk_nw hV3
     have s0 := hb3.cell 0 _ rfl
     have s1 := hb3.cell 1 _ rfl
     have HOC3 : Hid (OwnC V3 w.heap.size ca cc C) := HOC.out.below q3
     have HOD3 : Hid (OwnD V3 w.heap.size da dc D) := HOD.out.below q3
     have HOX3 : Hid (OwnX V3 w.heap.size xa xc X) := HOX.out.below q3
     have HG63 : Hid (Blk V3 W1.heap.size 26 #[.slice da 7 dc, .slice xa n xc, .slice none 0 0]) := HG6.out.kept q3
     have HG43 : Hid (Blk V3 w.heap.size 26 zc3) := HG4.out.kept q3
     obtain ⟨gc, eca, k1, o1⟩ := HOC3.out.at_ hC1
     obtain ⟨gc2, eca2, k2, o2⟩ := HOC3.out.at_ hC2
     rw [eca] at eca2
     cases eca2
     subst eca
     obtain ⟨pa, hpa⟩ : ∃ pa, A.length = pa := ⟨_, rfl⟩
     obtain ⟨pb, hpb⟩ : ∃ pb, B.length = pb := ⟨_, rfl⟩
     have HPA : Hid (A.length = pa ∧ B.length = pb) := ⟨hpa, hpb⟩
     replace k1 : V3.cell? ⟨gc, P, none⟩ = some (.slice u1 pa v1) := by rw [← hpa]; exact k1
     replace k2 : V3.cell? ⟨gc, Q, none⟩ = some (.slice u2 pb v2) := by rw [← hpb]; exact k2
     rw [hpa] at hA1 hcost
     rw [hpb] at hA2 hcost
     obtain ⟨m, hm⟩ : ∃ m, pa * pb = m := ⟨_, rfl⟩
     have hmle : m ≤ 25000000 := by rw [← hm]; exact Nat.le_trans (Nat.mul_le_mul hA1.2 hA2.2) (by decide)
     have hmul : IntKind.i64.wrap ((pa : Int) * (pb : Int)) = (m : Int) := by
      have e : (pa : Int) * (pb : Int) = (m : Int) := by rw [← hm]; simp
      rw [e]
      exact wraps_i64 _ (by omega) (by omega)
     have HMM0 : Hid (pa * pb = m) := hm
     rw [hm] at hcost
     have HCO : Hid (costN l (n + 1) = q + m) := hcost
     have HRS : Hid (Rs2 A ∧ Rs2 B) := ⟨hA1.1, hA2.1⟩
     have HO12 : Hid (OwnU V3 w.heap.size u1 v1 (A.map bitsN) ∧ OwnU V3 w.heap.size u2 v2 (B.map bitsN)) := ⟨o1, o2⟩
     have hPM : (P : Int) < (M : Int) := by have := HMN.out; omega
     have hQM : (Q : Int) < (M : Int) := by have := HMN.out; omega
     have hP0 : (0 : Int) ≤ (P : Int) := by omega
     have hQ0 : (0 : Int) ≤ (Q : Int) := by omega
     have HPA5 : Hid (pa ≤ 5000 ∧ pb ≤ 5000) := ⟨hA1.2, hA2.2⟩
     have HCLS : Hid (clsN l (n + 1) = clsN l n ++ [setsL (crossL A B)]) := hcls
     clear hcost hm hpa hpb hA1 hA2 hC1 hC2 o1 o2 hcls hA hB hP hQ HOC HOD HOX HG6 HG4 hsl hb3 bw
     go_wp2_with (first
      | (refine wpList_ix rfl _ _ _ rfl _ _ _ rfl rfl hix ?_))
     go_quiet (fail)
     have q4 : Below V3.heap.size V3 (V3.drewN nq) := below_drewN (Below.refl _ _) nq
     obtain ⟨V4, hV4⟩ : ∃ V4, V3.drewN nq = V4 := ⟨_, rfl⟩
     rw [hV4] at q4
     try rw [hV4]
     have bw4 := bel_tr bw3 q4
     have HOC4 : Hid (OwnC V4 w.heap.size (some ⟨gc, 0, none⟩) cc C) := HOC3.out.below q4
     have HOD4 : Hid (OwnD V4 w.heap.size da dc D) := HOD3.out.below q4
     have HOX4 : Hid (OwnX V4 w.heap.size xa xc X) := HOX3.out.below q4
     have HG64 : Hid (Blk V4 W1.heap.size 26 #[.slice da 7 dc, .slice xa n xc, .slice none 0 0]) := HG63.out.kept q4
     have HG44 : Hid (Blk V4 w.heap.size 26 zc3) := HG43.out.kept q4
     have HO4 : Hid (OwnU V4 w.heap.size u1 v1 (A.map bitsN) ∧ OwnU V4 w.heap.size u2 v2 (B.map bitsN)) := ⟨HO12.out.1.below q4, HO12.out.2.below q4⟩
     have hq0 : (0 : Int) ≤ (q : Int) := by omega
     have hm0 : (0 : Int) ≤ (m : Int) := by omega
     clear HOC3 HOD3 HOX3 HG63 HG43 HO12 q3 q4 s0 s1 k1 k2 hix hP0 hQ0 hPM hQM hV4 bw3 hV3
     by_cases hbd : budget < (q : Int) + (m : Int)
     ·have HE18 : Hid (E = 18) := by
       show _ = _
       have h1 := cost_le l (n + 1) 6 (by omega)
       rw [HCO.out] at h1
       rw [← HE.out, if_pos (by omega)]
      have RB := HG44.out
      go_wp2_with (refine wpList_st rfl 26 _ _ rfl w.heap.size zc3 zc3 (by rfl) (by rfl) RB (by kernel_rfl) rfl (by kernel_rfl) ?_)
      exact ret_cell_tmp (k := 4) (j := 5) Tryz.f14 (by kernel_rfl) (RB.set _) Tryz.underlying26 (by kernel_rfl) (by rfl) (by rfl) rfl ⟨Or.inl ⟨by rw [HE18.out]; decide, by rw [HE18.out]; rfl⟩, below_setRow bw4 (Nat.le_refl _) _⟩
     ·have hbd' : (q : Int) + (m : Int) ≤ budget := by omega
      have HQM : Hid (q + m ≤ 5000) := by show _ ≤ _; omega
      have HQE : Hid (costN l (n + 1) = q + m) := HCO
      have HQB : Hid (n + 1 = 0 ∨ ((q + m : Nat) : Int) ≤ budget) := Or.inr (by omega)
      have HMM : Hid (M + 1 = 7 + (n + 1)) := by show _ = _; have := HMN.out; omega
      have KM : Hid _ := meet_any u1 u2 v1 v2 A B V4 (HO4.out.1.row (by rw [List.length_map, HPA.out.1]; have := HPA5.out; omega)) (HO4.out.2.row (by rw [List.length_map, HPA.out.2]; have := HPA5.out; omega)) HRS.out.1 HRS.out.2 (by rw [HPA.out.1, HPA.out.2, HMM0.out]; omega)
      rw [HPA.out.1, HPA.out.2] at KM
      have HSRS : Hid (Rs2 (setsL (crossL A B)) ∧ (setsL (crossL A B)).length ≤ 5000 ∧ (classL (crossL A B)).length ≤ 5000) := by
       refine ⟨sets_rs (cross_rs HRS.out.1 HRS.out.2), ?_, ?_⟩
       ·have h1 : (setsL (crossL A B)).length ≤ (crossL A B).length := sets_len _
        rw [cross_len, HPA.out.1, HPA.out.2, HMM0.out] at h1
        omega
       ·rw [class_len, cross_len, HPA.out.1, HPA.out.2, HMM0.out]
        omega
      obtain ⟨K0, hK0⟩ : ∃ K0, classL (crossL A B) = K0 := ⟨_, rfl⟩
      obtain ⟨S0, hS0⟩ : ∃ S0, setsL (crossL A B) = S0 := ⟨_, rfl⟩
      have HKS : Hid (classL (crossL A B) = K0 ∧ setsL (crossL A B) = S0) := ⟨hK0, hS0⟩
      rw [hK0, hS0] at KM HSRS
      obtain ⟨kn, hkn⟩ : ∃ kn, K0.length = kn := ⟨_, rfl⟩
      obtain ⟨sn, hsn⟩ : ∃ sn, S0.length = sn := ⟨_, rfl⟩
      have HKN : Hid (K0.length = kn) := hkn
      have HSN : Hid (S0.length = sn) := hsn
      rw [hkn, hsn] at KM
      clear hK0 hS0 hkn hsn hbd
      go_wp2_with fail
      refine Calls.mono KM.out ?_
      rintro e V5 ⟨ka, kc, ua, uc, rfl, hoi, hou, q5⟩
      have bw5 := bel_tr bw4 q5
      have q5d : Below V4.heap.size V4 V5.drew := bel_tr q5 (below_drew V5)
      have bwd : Below w.heap.size w V5.drew := bel_tr bw4 q5d
      have HOCd : Hid (OwnC V5.drew w.heap.size (some ⟨gc, 0, none⟩) cc C) := HOC4.out.below q5d
      have HODd : Hid (OwnD V5.drew w.heap.size da dc D) := HOD4.out.below q5d
      have HOXd : Hid (OwnX V5.drew w.heap.size xa xc X) := HOX4.out.below q5d
      have HGd : Hid (Blk V5.drew W1.heap.size 26 #[.slice da 7 dc, .slice xa n xc, .slice none 0 0]) := HG64.out.kept q5d
      have HG4d : Hid (Blk V5.drew w.heap.size 26 zc3) := HG44.out.kept q5d
      have HOId : Hid (OwnI V5.drew w.heap.size ka kc K0) := OwnI.below (ownsRow_base hoi bw4.size) (below_drew V5)
      have HOUd : Hid (OwnU V5.drew w.heap.size ua uc (S0.map bitsN)) := OwnU.below (ownsRow_base hou bw4.size) (below_drew V5)
      have KLd : Hid _ := lists_any ua uc S0 V5.drew (HOUd.out.row (by rw [List.length_map]; have := HSRS.out.2.1; omega)) HSRS.out.1 (by have := HSRS.out.2.1; omega) (HDB.out.below bwd)
      rw [HSN.out] at KLd
      have HXLN : Hid (∀ la lc lv, Hid ((X ++ [(⟨pb, ka, kc, la, lc, lv, K0, S0⟩ : CrM)]).length = n + 1 ∧ ∀ (j : Nat) (x : CrM), (X ++ [(⟨pb, ka, kc, la, lc, lv, K0, S0⟩ : CrM)])[j]? = some x → x.wd = (sB l j).length ∧ x.K = classL (crossL (sA l j) (sB l j)) ∧ x.S = setsL (crossL (sA l j) (sB l j)))) := fun la lc lv => by
       refine ⟨by rw [List.length_append, HXL.out.1]; rfl, fun j x hx => ?_⟩
       by_cases hj : j < n
       ·rw [List.getElem?_append_left (by rw [HXL.out.1]; exact hj)] at hx
        exact HXL.out.2 j x hx
       ·rw [List.getElem?_append_right (by rw [HXL.out.1]; omega), HXL.out.1] at hx
        have hj0 : j - n = 0 := by
         have := (List.getElem?_eq_some_iff.1 hx).1
         simp at this
         omega
        rw [hj0] at hx
        cases hx
        rw [show j = n by omega, HAB.out.1, HAB.out.2]
        exact ⟨HPA.out.2.symm, HKS.out.1.symm, HKS.out.2.symm⟩
      have HCLN : Hid (∀ ua uc, Hid ((C ++ [(⟨ua, uc, S0⟩ : ClM)]).length = M + 1)) := fun ua uc => by show _ = _; rw [List.length_append, HCL.out]; rfl
      have HCMN : Hid (∀ ua uc, Hid ((C ++ [(⟨ua, uc, S0⟩ : ClM)]).map (·.A) = clsN l (n + 1))) := fun ua uc => by show _ = _; rw [List.map_append, HCM.out, HCLS.out, HKS.out.2]; rfl
      clear hoi hou q5 q5d bw5 bw4 KM HOC4 HOD4 HOX4 HG64 HG44 HO4 HE HQ HNB HRS HPA HPA5 HCLS HKS HAB HCM HMM0 HCO
      go_wp2_with fail
      refine wp_region_noPanic ?_
      refine wp_region_held_drew (S := fun _ => True) (by kernel_rfl) trivial (fun hHeld => ?_)
      refine qtk (i := 0) (oi := { dst := some 86, op := Op.fieldAddr 26 (.tmp 6) 1, type := 0, pos := "rfc.go:49", after := #[], guard := none }) (v := (.pointer (some ⟨W1.heap.size, 1, none⟩))) hHeld ?_ ?_
      ·intro w9 hSw
       try dsimp only at hSw
       go_simp
      try simp only [qpu]
      refine qtk (i := 2) (oi := { dst := some 88, op := Op.move (.tmp 15), type := 93, pos := "rfc.go:49", after := #[], guard := none }) (v := (.slice u2 pb v2)) hHeld ?_ ?_
      ·intro w9 hSw
       try dsimp only at hSw
       go_simp
      try simp only [qpu]
      refine qtk (i := 3) (oi := { dst := some 89, op := Op.call { callee := Callee.builtin Builtin.len, args := #[.tmp 88], argTypes := #[93] }, type := 3, pos := "rfc.go:49", after := #[{ on := 2, ground := Ground.data }], guard := none }) (v := (.int .i64 (pb : Int))) hHeld ?_ ?_
      ·intro w9 hSw
       try dsimp only at hSw
       go_simp
      try simp only [qpu]
      refine qtk (i := 4) (oi := { dst := some 90, op := Op.move (.tmp 16), type := 24, pos := "rfc.go:49", after := #[], guard := none }) (v := (.slice ka kn kc)) hHeld ?_ ?_
      ·intro w9 hSw
       try dsimp only at hSw
       go_simp
      try simp only [qpu]
      refine qtk (i := 5) (oi := { dst := some 91, op := Op.move (.tmp 17), type := 93, pos := "rfc.go:49", after := #[], guard := none }) (v := (.slice ua sn uc)) hHeld ?_ ?_
      ·intro w9 hSw
       try dsimp only at hSw
       go_simp
      try simp only [qpu]
      refine wpAnyH_ready (rs := [1, 6]) (by kernel_rfl) (by simp) ?_
      refine AllReadyH.cons (o := lxa29o9) rfl (fun K hK => ?_) (AllReadyH.cons (o := lxa29o11) rfl (fun K hK => ?_) AllReadyH.nil)
      ·have c6 := HGd.out.cell 1 (.slice xa n xc) rfl
       go_simp
       clear c6
       refine hK.out _ _ trivial (fun hHeld => ?_)
       clear hK K
       try simp only [qpu]
       refine wpAnyH_ready (rs := [6]) (by kernel_rfl) (by simp) ?_
       refine AllReadyH.cons (o := lxa29o11) rfl (fun K hK => ?_) AllReadyH.nil
       go_simp
       refine Calls.mono KLd.out ?_
       rintro e V7 ⟨la, lc, lv, rfl, hls, q7⟩
       have bw7 := bel_tr bwd q7
       have HG67 : Hid (Blk V7 W1.heap.size 26 #[.slice da 7 dc, .slice xa n xc, .slice none 0 0]) := HGd.out.kept q7
       have HG47 : Hid (Blk V7 w.heap.size 26 zc3) := HG4d.out.kept q7
       have HOD7 : Hid (OwnD V7 w.heap.size da dc D) := HODd.out.below q7
       have HOC7 : Hid (OwnC V7 w.heap.size (some ⟨gc, 0, none⟩) cc C) := HOCd.out.below q7
       have HOX7 : Hid (OwnX V7 w.heap.size xa xc X) := HOXd.out.below q7
       have HOI7 : Hid (OwnI V7 w.heap.size ka kc K0) := HOId.out.below q7
       have HOU7 : Hid (OwnU V7 w.heap.size ua uc (S0.map bitsN)) := HOUd.out.below q7
       have HLS7 : Hid (SetsO V7 w.heap.size la lc S0 lv) := hls.base bwd.size
       obtain ⟨V8, hV8⟩ : ∃ V8, V7.alloc (.cells #[.int .i64 (pb : Int), .slice ka kn kc, .slice la sn lc] 60) = V8 := ⟨_, rfl⟩
       have q8 := bel_nw hV8
       have bw8 := bel_tr bw7 q8
       obtain ⟨gx, xc', V9, hrun9, hox9, htc9, hgr9, q9⟩ := run_appX1 V8 23 w.heap.size xa xc X (HOX7.out.below q8) ⟨pb, ka, kc, la, lc, lv, K0, S0⟩ ⟨HOI7.out.below q8, HLS7.out.below q8⟩ V7.heap.size 1 60 (by have := blk_nw hV8; rw [← HKN.out, ← HSN.out] at this; exact this) (by have := HXL.out.1; omega) bw8.size
       rw [HXL.out.1] at hrun9
       have HRx : Hid _ := hrun9
       have bw9 : Below w.heap.size w V9 := bw8.trans q9
       have HG68 : Hid (Blk V8 W1.heap.size 26 #[.slice da 7 dc, .slice xa n xc, .slice none 0 0]) := HG67.out.kept q8
       have hg69 : Blk V9 W1.heap.size 26 #[.slice da 7 dc, .slice xa n xc, .slice none 0 0] := (HG67.out.kept q8).tc htc9 (by rfl)
       have hg49 : Blk V9 w.heap.size 26 zc3 := (HG47.out.kept q8).tc htc9 (by rfl)
       obtain ⟨VA, hVA⟩ : ∃ VA, V9.setCell ⟨W1.heap.size, 1, none⟩ (.slice (some ⟨gx, 0, none⟩) (n + 1) xc') = VA := ⟨_, rfl⟩
       have htcA : Tc (· == 26) V9 VA := by rw [← hVA]; exact Tc.put hg69 (by rfl) _ _
       have bwA : Below w.heap.size w VA := by rw [← hVA]; exact bw9.setCell (Nat.le_of_lt HLT.out) _
       have HG6A : Hid (Blk VA W1.heap.size 26 #[.slice da 7 dc, .slice (some ⟨gx, 0, none⟩) (n + 1) xc', .slice none 0 0]) := by
        have := hg69.put 1 (.slice (some ⟨gx, 0, none⟩) (n + 1) xc')
        rw [hVA] at this
        exact this
       have HG4A : Hid (Blk VA w.heap.size 26 zc3) := by
        have := hg49.put_other hg69 (Nat.ne_of_lt HLT.out) 1 (.slice (some ⟨gx, 0, none⟩) (n + 1) xc')
        rw [hVA] at this
        exact this
       have HODA : Hid (OwnD VA w.heap.size da dc D) := ((HOD7.out.below q8).tc htc9 (by rfl) (by rfl) (by rfl) (by rfl)).tc htcA (by rfl) (by rfl) (by rfl) (by rfl)
       have HOCA : Hid (OwnC VA w.heap.size (some ⟨gc, 0, none⟩) cc C) := ((HOC7.out.below q8).tc htc9 (by rfl) (by rfl)).tc htcA (by rfl) (by rfl)
       have HOXA : Hid (OwnX VA w.heap.size (some ⟨gx, 0, none⟩) xc' (X ++ [⟨pb, ka, kc, la, lc, lv, K0, S0⟩])) := hox9.tc htcA (by rfl) (by rfl) (by rfl)
       have HOUA : Hid (OwnU VA w.heap.size ua uc (S0.map bitsN)) := ((HOU7.out.below q8).tc htc9 (by rfl)).tc htcA (by rfl)
       have c69 := hg69.cell 1 _ rfl
       have f69 := hg69.frozen 1
       obtain ⟨VB, hVB⟩ : ∃ VB, VA.alloc (.cells #[.slice ua sn uc] 93) = VB := ⟨_, rfl⟩
       have qB := bel_nw hVB
       have bwB := bel_tr bwA qB
       obtain ⟨gc', cc', VC, hrunC, hocC, htcC, _, qC⟩ := run_appC1 VB 90 w.heap.size (some ⟨gc, 0, none⟩) cc C (HOCA.out.below qB) ⟨ua, uc, S0⟩ (OwnU.below HOUA.out qB) VA.heap.size 1 93 (by have := blk_nw hVB; rw [← HSN.out] at this; exact this) (by have := HCL.out; have := HMN.out; omega) bwB.size
       rw [HCL.out] at hrunC
       have HRC : Hid _ := hrunC
       have bwC : Below w.heap.size w VC := bwB.trans qC
       have HG6C : Hid (Blk VC W1.heap.size 26 #[.slice da 7 dc, .slice (some ⟨gx, 0, none⟩) (n + 1) xc', .slice none 0 0]) := (HG6A.out.kept qB).tc htcC (by rfl)
       have HG4C : Hid (Blk VC w.heap.size 26 zc3) := (HG4A.out.kept qB).tc htcC (by rfl)
       have HODC : Hid (OwnD VC w.heap.size da dc D) := (HODA.out.below qB).tc htcC (by rfl) (by rfl) (by rfl) (by rfl)
       have HOXC : Hid (OwnX VC w.heap.size (some ⟨gx, 0, none⟩) xc' (X ++ [⟨pb, ka, kc, la, lc, lv, K0, S0⟩])) := (HOXA.out.below qB).tc htcC (by rfl) (by rfl) (by rfl)
       have HOCC : Hid (OwnC VC w.heap.size (some ⟨gc', 0, none⟩) cc' (C ++ [⟨ua, uc, S0⟩])) := hocC
       clear hls q7 hrun9 hox9 htc9 hgr9 q9 hg69 hg49 htcA hrunC hocC htcC qC qB q8 HG47 HOD7 HOC7 HOX7 HOI7 HOU7 HLS7 HODA HOCA HOXA HOUA HG6A HG4A bw7 bw8 bw9 bwA bwB
       refine hK.out _ _ trivial (fun hHeld => ?_)
       clear hK K
       try simp only [qpu]
       refine qtk (i := 7) (oi := lxa29o7) (v := (.agg #[.int .i64 (pb : Int), .slice ka kn kc, .slice la sn lc])) hHeld ?_ ?_
       ·intro w9 hSw
        try dsimp only at hSw
        go_simp
       try simp only [qpu]
       refine wpAnyH_ready (rs := [8]) (by kernel_rfl) (by simp) ?_
       refine AllReadyH.cons (o := lxa29o6) rfl (fun K hK => ?_) AllReadyH.nil
       go_simp
       refine hK.out _ _ trivial (fun hHeld => ?_)
       clear hK K
       try simp only [qpu]
       refine wpAnyH_ready (rs := [9]) (by kernel_rfl) (by simp) ?_
       refine AllReadyH.cons (o := lxa29o4) rfl (fun K hK => ?_) AllReadyH.nil
       refine step_rn rfl 23 _ _ rfl _ _ rfl rfl _ _ HRx.out ?_
       refine hK.out _ _ trivial (fun hHeld => ?_)
       clear hK K
       try simp only [qpu]
       refine qtk (i := 10) (oi := lxa29o1) (v := (.pointer (some ⟨W1.heap.size, 1, none⟩))) hHeld ?_ ?_
       ·intro w9 hSw
        try dsimp only at hSw
        go_simp
       try simp only [qpu]
       refine wpAnyH_ready (rs := [11]) (by kernel_rfl) (by simp) ?_
       refine AllReadyH.cons (o := lxa29o0) rfl (fun K hK => ?_) AllReadyH.nil
       go_simp
       refine hK.out _ _ trivial (fun hHeld => ?_)
       clear hK K
       try simp only [qpu]
       refine wpAnyH_done (by kernel_rfl) ?_ _
       refine NoPanic.normal ?_
       go_wp2_with (refine wpList_rn rfl 90 _ _ rfl _ _ rfl rfl _ _ HRC.out ?_)
       exact ⟨⟨n + 1, M + 1, some ⟨gc', 0, none⟩, cc', C ++ [⟨ua, uc, S0⟩], some ⟨gx, 0, none⟩, xc', X ++ [⟨pb, ka, kc, la, lc, lv, K0, S0⟩], q + m, by omega, rfl, by first | rfl | (congr 1), by first | rfl | (congr 1), HQM.out, HQE, HQB, HMM, HOCC, HODC, HOXC, HG6C, HG4C, HXLN.out la lc lv, HCLN.out ua uc, HCMN.out ua uc, bwC⟩, by simp only [intOf]; omega⟩
      ·go_simp
       refine Calls.mono KLd.out ?_
       rintro e V7 ⟨la, lc, lv, rfl, hls, q7⟩
       have bw7 := bel_tr bwd q7
       have HG67 : Hid (Blk V7 W1.heap.size 26 #[.slice da 7 dc, .slice xa n xc, .slice none 0 0]) := HGd.out.kept q7
       have HG47 : Hid (Blk V7 w.heap.size 26 zc3) := HG4d.out.kept q7
       have HOD7 : Hid (OwnD V7 w.heap.size da dc D) := HODd.out.below q7
       have HOC7 : Hid (OwnC V7 w.heap.size (some ⟨gc, 0, none⟩) cc C) := HOCd.out.below q7
       have HOX7 : Hid (OwnX V7 w.heap.size xa xc X) := HOXd.out.below q7
       have HOI7 : Hid (OwnI V7 w.heap.size ka kc K0) := HOId.out.below q7
       have HOU7 : Hid (OwnU V7 w.heap.size ua uc (S0.map bitsN)) := HOUd.out.below q7
       have HLS7 : Hid (SetsO V7 w.heap.size la lc S0 lv) := hls.base bwd.size
       obtain ⟨V8, hV8⟩ : ∃ V8, V7.alloc (.cells #[.int .i64 (pb : Int), .slice ka kn kc, .slice la sn lc] 60) = V8 := ⟨_, rfl⟩
       have q8 := bel_nw hV8
       have bw8 := bel_tr bw7 q8
       obtain ⟨gx, xc', V9, hrun9, hox9, htc9, hgr9, q9⟩ := run_appX1 V8 23 w.heap.size xa xc X (HOX7.out.below q8) ⟨pb, ka, kc, la, lc, lv, K0, S0⟩ ⟨HOI7.out.below q8, HLS7.out.below q8⟩ V7.heap.size 1 60 (by have := blk_nw hV8; rw [← HKN.out, ← HSN.out] at this; exact this) (by have := HXL.out.1; omega) bw8.size
       rw [HXL.out.1] at hrun9
       have HRx : Hid _ := hrun9
       have bw9 : Below w.heap.size w V9 := bw8.trans q9
       have HG68 : Hid (Blk V8 W1.heap.size 26 #[.slice da 7 dc, .slice xa n xc, .slice none 0 0]) := HG67.out.kept q8
       have hg69 : Blk V9 W1.heap.size 26 #[.slice da 7 dc, .slice xa n xc, .slice none 0 0] := (HG67.out.kept q8).tc htc9 (by rfl)
       have hg49 : Blk V9 w.heap.size 26 zc3 := (HG47.out.kept q8).tc htc9 (by rfl)
       obtain ⟨VA, hVA⟩ : ∃ VA, V9.setCell ⟨W1.heap.size, 1, none⟩ (.slice (some ⟨gx, 0, none⟩) (n + 1) xc') = VA := ⟨_, rfl⟩
       have htcA : Tc (· == 26) V9 VA := by rw [← hVA]; exact Tc.put hg69 (by rfl) _ _
       have bwA : Below w.heap.size w VA := by rw [← hVA]; exact bw9.setCell (Nat.le_of_lt HLT.out) _
       have HG6A : Hid (Blk VA W1.heap.size 26 #[.slice da 7 dc, .slice (some ⟨gx, 0, none⟩) (n + 1) xc', .slice none 0 0]) := by
        have := hg69.put 1 (.slice (some ⟨gx, 0, none⟩) (n + 1) xc')
        rw [hVA] at this
        exact this
       have HG4A : Hid (Blk VA w.heap.size 26 zc3) := by
        have := hg49.put_other hg69 (Nat.ne_of_lt HLT.out) 1 (.slice (some ⟨gx, 0, none⟩) (n + 1) xc')
        rw [hVA] at this
        exact this
       have HODA : Hid (OwnD VA w.heap.size da dc D) := ((HOD7.out.below q8).tc htc9 (by rfl) (by rfl) (by rfl) (by rfl)).tc htcA (by rfl) (by rfl) (by rfl) (by rfl)
       have HOCA : Hid (OwnC VA w.heap.size (some ⟨gc, 0, none⟩) cc C) := ((HOC7.out.below q8).tc htc9 (by rfl) (by rfl)).tc htcA (by rfl) (by rfl)
       have HOXA : Hid (OwnX VA w.heap.size (some ⟨gx, 0, none⟩) xc' (X ++ [⟨pb, ka, kc, la, lc, lv, K0, S0⟩])) := hox9.tc htcA (by rfl) (by rfl) (by rfl)
       have HOUA : Hid (OwnU VA w.heap.size ua uc (S0.map bitsN)) := ((HOU7.out.below q8).tc htc9 (by rfl)).tc htcA (by rfl)
       have c69 := hg69.cell 1 _ rfl
       have f69 := hg69.frozen 1
       obtain ⟨VB, hVB⟩ : ∃ VB, VA.alloc (.cells #[.slice ua sn uc] 93) = VB := ⟨_, rfl⟩
       have qB := bel_nw hVB
       have bwB := bel_tr bwA qB
       obtain ⟨gc', cc', VC, hrunC, hocC, htcC, _, qC⟩ := run_appC1 VB 90 w.heap.size (some ⟨gc, 0, none⟩) cc C (HOCA.out.below qB) ⟨ua, uc, S0⟩ (OwnU.below HOUA.out qB) VA.heap.size 1 93 (by have := blk_nw hVB; rw [← HSN.out] at this; exact this) (by have := HCL.out; have := HMN.out; omega) bwB.size
       rw [HCL.out] at hrunC
       have HRC : Hid _ := hrunC
       have bwC : Below w.heap.size w VC := bwB.trans qC
       have HG6C : Hid (Blk VC W1.heap.size 26 #[.slice da 7 dc, .slice (some ⟨gx, 0, none⟩) (n + 1) xc', .slice none 0 0]) := (HG6A.out.kept qB).tc htcC (by rfl)
       have HG4C : Hid (Blk VC w.heap.size 26 zc3) := (HG4A.out.kept qB).tc htcC (by rfl)
       have HODC : Hid (OwnD VC w.heap.size da dc D) := (HODA.out.below qB).tc htcC (by rfl) (by rfl) (by rfl) (by rfl)
       have HOXC : Hid (OwnX VC w.heap.size (some ⟨gx, 0, none⟩) xc' (X ++ [⟨pb, ka, kc, la, lc, lv, K0, S0⟩])) := (HOXA.out.below qB).tc htcC (by rfl) (by rfl) (by rfl)
       have HOCC : Hid (OwnC VC w.heap.size (some ⟨gc', 0, none⟩) cc' (C ++ [⟨ua, uc, S0⟩])) := hocC
       clear hls q7 hrun9 hox9 htc9 hgr9 q9 hg69 hg49 htcA hrunC hocC htcC qC qB q8 HG47 HOD7 HOC7 HOX7 HOI7 HOU7 HLS7 HODA HOCA HOXA HOUA HG6A HG4A bw7 bw8 bw9 bwA bwB
       refine hK.out _ _ trivial (fun hHeld => ?_)
       clear hK K
       try simp only [qpu]
       refine qtk (i := 7) (oi := lxa29o7) (v := (.agg #[.int .i64 (pb : Int), .slice ka kn kc, .slice la sn lc])) hHeld ?_ ?_
       ·intro w9 hSw
        try dsimp only at hSw
        go_simp
       try simp only [qpu]
       refine wpAnyH_ready (rs := [1, 8]) (by kernel_rfl) (by simp) ?_
       refine AllReadyH.cons (o := lxa29o9) rfl (fun K hK => ?_) (AllReadyH.cons (o := lxa29o6) rfl (fun K hK => ?_) AllReadyH.nil)
       ·have c6 := HG67.out.cell 1 (.slice xa n xc) rfl
        go_simp
        clear c6
        refine hK.out _ _ trivial (fun hHeld => ?_)
        clear hK K
        try simp only [qpu]
        refine wpAnyH_ready (rs := [8]) (by kernel_rfl) (by simp) ?_
        refine AllReadyH.cons (o := lxa29o6) rfl (fun K hK => ?_) AllReadyH.nil
        go_simp
        refine hK.out _ _ trivial (fun hHeld => ?_)
        clear hK K
        try simp only [qpu]
        refine wpAnyH_ready (rs := [9]) (by kernel_rfl) (by simp) ?_
        refine AllReadyH.cons (o := lxa29o4) rfl (fun K hK => ?_) AllReadyH.nil
        refine step_rn rfl 23 _ _ rfl _ _ rfl rfl _ _ HRx.out ?_
        refine hK.out _ _ trivial (fun hHeld => ?_)
        clear hK K
        try simp only [qpu]
        refine qtk (i := 10) (oi := lxa29o1) (v := (.pointer (some ⟨W1.heap.size, 1, none⟩))) hHeld ?_ ?_
        ·intro w9 hSw
         try dsimp only at hSw
         go_simp
        try simp only [qpu]
        refine wpAnyH_ready (rs := [11]) (by kernel_rfl) (by simp) ?_
        refine AllReadyH.cons (o := lxa29o0) rfl (fun K hK => ?_) AllReadyH.nil
        go_simp
        refine hK.out _ _ trivial (fun hHeld => ?_)
        clear hK K
        try simp only [qpu]
        refine wpAnyH_done (by kernel_rfl) ?_ _
        refine NoPanic.normal ?_
        go_wp2_with (refine wpList_rn rfl 90 _ _ rfl _ _ rfl rfl _ _ HRC.out ?_)
        exact ⟨⟨n + 1, M + 1, some ⟨gc', 0, none⟩, cc', C ++ [⟨ua, uc, S0⟩], some ⟨gx, 0, none⟩, xc', X ++ [⟨pb, ka, kc, la, lc, lv, K0, S0⟩], q + m, by omega, rfl, by first | rfl | (congr 1), by first | rfl | (congr 1), HQM.out, HQE, HQB, HMM, HOCC, HODC, HOXC, HG6C, HG4C, HXLN.out la lc lv, HCLN.out ua uc, HCMN.out ua uc, bwC⟩, by simp only [intOf]; omega⟩
       ·go_simp
        refine hK.out _ _ trivial (fun hHeld => ?_)
        clear hK K
        try simp only [qpu]
        refine wpAnyH_ready (rs := [1]) (by kernel_rfl) (by simp) ?_
        refine AllReadyH.cons (o := lxa29o9) rfl (fun K hK => ?_) AllReadyH.nil
        have c6 := HG68.out.cell 1 (.slice xa n xc) rfl
        go_simp
        clear c6
        refine hK.out _ _ trivial (fun hHeld => ?_)
        clear hK K
        try simp only [qpu]
        refine wpAnyH_ready (rs := [9]) (by kernel_rfl) (by simp) ?_
        refine AllReadyH.cons (o := lxa29o4) rfl (fun K hK => ?_) AllReadyH.nil
        refine step_rn rfl 23 _ _ rfl _ _ rfl rfl _ _ HRx.out ?_
        refine hK.out _ _ trivial (fun hHeld => ?_)
        clear hK K
        try simp only [qpu]
        refine qtk (i := 10) (oi := lxa29o1) (v := (.pointer (some ⟨W1.heap.size, 1, none⟩))) hHeld ?_ ?_
        ·intro w9 hSw
         try dsimp only at hSw
         go_simp
        try simp only [qpu]
        refine wpAnyH_ready (rs := [11]) (by kernel_rfl) (by simp) ?_
        refine AllReadyH.cons (o := lxa29o0) rfl (fun K hK => ?_) AllReadyH.nil
        go_simp
        refine hK.out _ _ trivial (fun hHeld => ?_)
        clear hK K
        try simp only [qpu]
        refine wpAnyH_done (by kernel_rfl) ?_ _
        refine NoPanic.normal ?_
        go_wp2_with (refine wpList_rn rfl 90 _ _ rfl _ _ rfl rfl _ _ HRC.out ?_)
        exact ⟨⟨n + 1, M + 1, some ⟨gc', 0, none⟩, cc', C ++ [⟨ua, uc, S0⟩], some ⟨gx, 0, none⟩, xc', X ++ [⟨pb, ka, kc, la, lc, lv, K0, S0⟩], q + m, by omega, rfl, by first | rfl | (congr 1), by first | rfl | (congr 1), HQM.out, HQE, HQB, HMM, HOCC, HODC, HOXC, HG6C, HG4C, HXLN.out la lc lv, HCLN.out ua uc, HCMN.out ua uc, bwC⟩, by simp only [intOf]; omega⟩

    ·have hn6 : n = 6 := by omega
     have hM13 : M = 13 := by have := HMN.out; omega
     subst hn6
     subst hM13
     have HE0 : Hid (E = 0) := by
      show _ = _
      rcases HNB.out with h | h
      ·omega
      ·rw [← HQ.out] at h
       rw [← HE.out, if_neg (by omega)]
     have hlast : (clsN l 6)[12]? = some (setsL (crossL (sA l 5) (sB l 5))) := by
      rw [cls_succ, List.getElem?_append_right (by rw [cls_len]; omega), cls_len]
      rfl
     have hS1 : Rs2 (setsL (crossL (sA l 5) (sB l 5))) ∧ (setsL (crossL (sA l 5) (sB l 5))).length ≤ 5000 := ⟨cls_rs l HL.out 6 (by omega) _ (List.mem_of_getElem? hlast), by have := cls_le l 6 _ (List.mem_of_getElem? hlast); rw [HQ.out] at this; omega⟩
     obtain ⟨ua, uc, hC⟩ := side_of HCM.out hlast
     obtain ⟨S0, hS0⟩ : ∃ S0, setsL (crossL (sA l 5) (sB l 5)) = S0 := ⟨_, rfl⟩
     have HS0 : Hid (setsL (crossL (sA l 5) (sB l 5)) = S0) := hS0
     rw [hS0] at hC hS1
     obtain ⟨gc, eca, k1, o1⟩ := HOC.out.at_ hC
     subst eca
     obtain ⟨sn, hsn⟩ : ∃ sn, S0.length = sn := ⟨_, rfl⟩
     have HSN : Hid (S0.length = sn) := hsn
     have HSR : Hid (Rs2 S0) := hS1.1
     have hsn5 : sn ≤ 5000 := by rw [← hsn]; exact hS1.2
     replace k1 : wr.cell? ⟨gc, 12, none⟩ = some (.slice ua sn uc) := by rw [← hsn]; exact k1
     obtain ⟨V0, rfl⟩ : ∃ V0, V0 = wr := ⟨_, rfl⟩
     have HOU0 : Hid (OwnU V0 w.heap.size ua uc (S0.map bitsN)) := o1
     have HXL0 : Hid (X.length = 6 ∧ ∀ (j : Nat) (x : CrM), X[j]? = some x → x.wd = (sB l j).length ∧ x.K = classL (crossL (sA l j) (sB l j)) ∧ x.S = setsL (crossL (sA l j) (sB l j))) := HXL
     have HB0 : Hid (Below w.heap.size w V0) := bw
     have HGL : Hid (W1.heap.size < V0.heap.size) := HG6.out.lt
     clear hlast hC hS0 hsn hS1 o1 HOC HCM HCL HXL HQ HNB HMN HE hlt
     rw [show ((6 : Nat) : Int) = 6 from rfl]
     go_wp2_with fail
     clear k1
     go_loopw [109] (fun i wr => ∃ (k : Nat) (fa : Option Addr) (fc : Nat), k ≤ sn ∧ i = .int .i64 k ∧ Hid (Blk wr W1.heap.size 26 #[.slice da 7 dc, .slice xa 6 xc, .slice fa k fc]) ∧ Hid (Blk wr w.heap.size 26 zc3) ∧ Hid (OwnJ wr V0.heap.size fa fc ((S0.take k).map firstN)) ∧ Hid (Tc (· == 26) V0 wr) ∧ Below w.heap.size w wr) (fun i _ => sn - (intOf i).toNat)
     case atStart => exact ⟨0, none, 0, Nat.zero_le _, rfl, HG6, HG4, OwnJ.nil _ _, Tc.refl _ _, bw⟩
     case round =>
      clear HG6 HG4 bw
      obtain ⟨k, fa, fc, hk, rfl, HG6, HG4, HOJ, HTC, bw⟩ := hrel
      by_cases hks : k < sn
      ·have ik : (k : Int) < (sn : Int) := by omega
       have hw1 : IntKind.i64.wrap ((k : Int) + 1) = ((k + 1 : Nat) : Int) := by simp [IntKind.wrap, IntKind.bits, IntKind.signed]; omega
       obtain ⟨s, hs⟩ : ∃ s, S0[k]? = some s := ⟨_, List.getElem?_eq_getElem (by rw [HSN.out]; exact hks)⟩
       have HSK : Hid (S0[k]? = some s) := hs
       have HRS : Hid (Rs s) := HSR.out s (List.mem_of_getElem? hs)
       have hru : RowU wr ua (S0.map bitsN) := (HOU0.out.tc HTC.out (by rfl)).row (by rw [List.length_map, HSN.out]; omega)
       obtain ⟨b, off, ha, hc⟩ := hru.cells (by rw [List.length_map, HSN.out]; omega)
       replace hc := hc k (by rw [List.length_map, HSN.out]; exact hks)
       rw [List.getD_eq_getElem?_getD, List.getElem?_map, hs] at hc
       simp only [Option.map_some, Option.getD_some] at hc
       subst ha
       have bwd : Below w.heap.size w wr.drew := bel_tr bw (below_drew wr)
       have K1 : Hid _ := least_any s HRS.out wr.drew (HDB.out.below bwd)
       have HTK : Hid ((S0.take (k + 1)).map firstN = (S0.take k).map firstN ++ [firstN s]) := by show _ = _; rw [List.take_add_one, hs, List.map_append]; rfl
       obtain ⟨Z, hZ⟩ : ∃ Z, bitsN s = Z := ⟨_, rfl⟩
       obtain ⟨Y, hY⟩ : ∃ Y, firstN s = Y := ⟨_, rfl⟩
       rw [hZ] at hc K1
       rw [hY] at K1 HTK
       obtain ⟨F0, hF0⟩ : ∃ F0, (S0.take k).map firstN = F0 := ⟨_, rfl⟩
       rw [hF0] at HOJ HTK
       have HFL : Hid (F0.length = k) := by show _ = _; rw [← hF0, List.length_map, List.length_take, HSN.out]; omega
       have HGd : Hid (Blk wr.drew W1.heap.size 26 #[.slice da 7 dc, .slice xa 6 xc, .slice fa k fc]) := HG6.out.kept (below_drew wr)
       have HG4d : Hid (Blk wr.drew w.heap.size 26 zc3) := HG4.out.kept (below_drew wr)
       have HOJd : Hid (OwnJ wr.drew V0.heap.size fa fc F0) := ownsRow_low HOJ.out (below_drew wr)
       have HTCd : Hid (Tc (· == 26) V0 wr.drew) := HTC.out.trans (Tc.of_below _ (below_drew wr))
       clear hs hru hZ hY hF0 HG6 HG4 HOJ HTC HSK HRS
       go_wp2_with fail
       refine wp_region_noPanic ?_
       refine wp_region_held_drew (S := fun _ => True) (by kernel_rfl) trivial (fun hHeld => ?_)
       refine qtk (i := 0) (oi := { dst := some 113, op := Op.fieldAddr 26 (.tmp 6) 2, type := 0, pos := "rfc.go:53", after := #[], guard := none }) (v := (.pointer (some ⟨W1.heap.size, 2, none⟩))) hHeld ?_ ?_
       ·intro w9 hSw
        try dsimp only at hSw
        go_simp
       try simp only [qpu]
       refine qtk (i := 2) (oi := { dst := some 115, op := Op.move (.tmp 19), type := 99, pos := "rfc.go:53", after := #[], guard := none }) (v := (.int .u64 (Z : Int))) hHeld ?_ ?_
       ·intro w9 hSw
        try dsimp only at hSw
        go_simp
       try simp only [qpu]
       refine wpAnyH_ready (rs := [1, 3]) (by kernel_rfl) (by simp) ?_
       refine AllReadyH.cons (o := lxa29o12) rfl (fun K hK => ?_) (AllReadyH.cons (o := lxa29o10) rfl (fun K hK => ?_) AllReadyH.nil)
       ·have c6 := HGd.out.cell 2 (.slice fa k fc) rfl
        go_simp
        clear c6
        refine hK.out _ _ trivial (fun hHeld => ?_)
        clear hK K
        try simp only [qpu]
        refine wpAnyH_ready (rs := [3]) (by kernel_rfl) (by simp) ?_
        refine AllReadyH.cons (o := lxa29o10) rfl (fun K hK => ?_) AllReadyH.nil
        go_simp
        refine Calls.mono K1.out ?_
        rintro e V7 ⟨rfl, q7⟩
        have bw7 := bel_tr bwd q7
        have HG67 : Hid (Blk V7 W1.heap.size 26 #[.slice da 7 dc, .slice xa 6 xc, .slice fa k fc]) := HGd.out.kept q7
        have HG47 : Hid (Blk V7 w.heap.size 26 zc3) := HG4d.out.kept q7
        have HOJ7 : Hid (OwnJ V7 V0.heap.size fa fc F0) := ownsRow_low HOJd.out q7
        have HTC7 : Hid (Tc (· == 26) V0 V7) := HTCd.out.trans (Tc.of_below _ q7)
        obtain ⟨V8, hV8⟩ : ∃ V8, V7.alloc (.cells #[.int .i64 Y] 3) = V8 := ⟨_, rfl⟩
        have q8 := bel_nw hV8
        have bw8 := bel_tr bw7 q8
        have htc8 : Tc (· == 26) V0 V8 := HTC7.out.trans (Tc.of_below _ q8)
        obtain ⟨gf, fc', V9, hrun9, hoj9, hgr9, q9⟩ := run_appJ1 V8 24 V0.heap.size fa fc F0 (ownsRow_low HOJ7.out q8) V7.heap.size 1 Y 3 (blk_nw hV8) (by have := HFL.out; omega) htc8.size
        rw [HFL.out] at hrun9
        have HRx : Hid _ := hrun9
        have bw9 : Below w.heap.size w V9 := bw8.trans (q9.mono HB0.out.size)
        have hfa : ∀ g, fa.map (·.block) = some g → V0.heap.size ≤ g := fun g hg => (own_lt HOJ7.out g hg).1
        have htc9 : Tc (· == 26) V0 V9 := htc8.grown_new hgr9 hfa
        have HG68 : Hid (Blk V8 W1.heap.size 26 #[.slice da 7 dc, .slice xa 6 xc, .slice fa k fc]) := HG67.out.kept q8
        have hg69 : Blk V9 W1.heap.size 26 #[.slice da 7 dc, .slice xa 6 xc, .slice fa k fc] := (HG67.out.kept q8).far hgr9 (fun e => by have := hfa _ e; have := HGL.out; omega)
        have hg49 : Blk V9 w.heap.size 26 zc3 := (HG47.out.kept q8).far hgr9 (fun e => by have := hfa _ e; have := HGL.out; have := HLT.out; omega)
        obtain ⟨VA, hVA⟩ : ∃ VA, V9.setCell ⟨W1.heap.size, 2, none⟩ (.slice (some ⟨gf, 0, none⟩) (k + 1) fc') = VA := ⟨_, rfl⟩
        have htcA : Tc (· == 26) V9 VA := by rw [← hVA]; exact Tc.put hg69 (by rfl) _ _
        have bwA : Below w.heap.size w VA := by rw [← hVA]; exact bw9.setCell (Nat.le_of_lt HLT.out) _
        have HG6A : Hid (Blk VA W1.heap.size 26 #[.slice da 7 dc, .slice xa 6 xc, .slice (some ⟨gf, 0, none⟩) (k + 1) fc']) := by
         have := hg69.put 2 (.slice (some ⟨gf, 0, none⟩) (k + 1) fc')
         rw [hVA] at this
         exact this
        have HG4A : Hid (Blk VA w.heap.size 26 zc3) := by
         have := hg49.put_other hg69 (Nat.ne_of_lt HLT.out) 2 (.slice (some ⟨gf, 0, none⟩) (k + 1) fc')
         rw [hVA] at this
         exact this
        have HOJA : Hid (OwnJ VA V0.heap.size (some ⟨gf, 0, none⟩) fc' ((S0.take (k + 1)).map firstN)) := by rw [HTK.out]; exact ownsRow_tc hoj9 htcA (by rfl)
        have HTCA : Hid (Tc (· == 26) V0 VA) := htc9.trans htcA
        have c69 := hg69.cell 2 _ rfl
        have f69 := hg69.frozen 2
        clear q7 hrun9 hoj9 hgr9 q9 hfa htc8 htc9 hg69 hg49 htcA q8 HG47 HOJ7 HTC7 bw7 bw8 bw9
        refine hK.out _ _ trivial (fun hHeld => ?_)
        clear hK K
        try simp only [qpu]
        refine wpAnyH_ready (rs := [4]) (by kernel_rfl) (by simp) ?_
        refine AllReadyH.cons (o := lxa29o8) rfl (fun K hK => ?_) AllReadyH.nil
        go_simp
        refine hK.out _ _ trivial (fun hHeld => ?_)
        clear hK K
        try simp only [qpu]
        refine wpAnyH_ready (rs := [5]) (by kernel_rfl) (by simp) ?_
        refine AllReadyH.cons (o := lxa29o5) rfl (fun K hK => ?_) AllReadyH.nil
        refine step_rn rfl 24 _ _ rfl _ _ rfl rfl _ _ HRx.out ?_
        refine hK.out _ _ trivial (fun hHeld => ?_)
        clear hK K
        try simp only [qpu]
        refine qtk (i := 6) (oi := lxa29o3) (v := (.pointer (some ⟨W1.heap.size, 2, none⟩))) hHeld ?_ ?_
        ·intro w9 hSw
         try dsimp only at hSw
         go_simp
        try simp only [qpu]
        refine wpAnyH_ready (rs := [7]) (by kernel_rfl) (by simp) ?_
        refine AllReadyH.cons (o := lxa29o2) rfl (fun K hK => ?_) AllReadyH.nil
        go_simp
        refine hK.out _ _ trivial (fun hHeld => ?_)
        clear hK K
        try simp only [qpu]
        refine wpAnyH_done (by kernel_rfl) ?_ _
        refine NoPanic.normal ?_
        go_wp2
        exact ⟨⟨k + 1, some ⟨gf, 0, none⟩, fc', by omega, by first | rfl | (congr 1), HG6A, HG4A, HOJA, HTCA, bwA⟩, by simp only [intOf]; omega⟩
       ·go_simp
        refine Calls.mono K1.out ?_
        rintro e V7 ⟨rfl, q7⟩
        have bw7 := bel_tr bwd q7
        have HG67 : Hid (Blk V7 W1.heap.size 26 #[.slice da 7 dc, .slice xa 6 xc, .slice fa k fc]) := HGd.out.kept q7
        have HG47 : Hid (Blk V7 w.heap.size 26 zc3) := HG4d.out.kept q7
        have HOJ7 : Hid (OwnJ V7 V0.heap.size fa fc F0) := ownsRow_low HOJd.out q7
        have HTC7 : Hid (Tc (· == 26) V0 V7) := HTCd.out.trans (Tc.of_below _ q7)
        obtain ⟨V8, hV8⟩ : ∃ V8, V7.alloc (.cells #[.int .i64 Y] 3) = V8 := ⟨_, rfl⟩
        have q8 := bel_nw hV8
        have bw8 := bel_tr bw7 q8
        have htc8 : Tc (· == 26) V0 V8 := HTC7.out.trans (Tc.of_below _ q8)
        obtain ⟨gf, fc', V9, hrun9, hoj9, hgr9, q9⟩ := run_appJ1 V8 24 V0.heap.size fa fc F0 (ownsRow_low HOJ7.out q8) V7.heap.size 1 Y 3 (blk_nw hV8) (by have := HFL.out; omega) htc8.size
        rw [HFL.out] at hrun9
        have HRx : Hid _ := hrun9
        have bw9 : Below w.heap.size w V9 := bw8.trans (q9.mono HB0.out.size)
        have hfa : ∀ g, fa.map (·.block) = some g → V0.heap.size ≤ g := fun g hg => (own_lt HOJ7.out g hg).1
        have htc9 : Tc (· == 26) V0 V9 := htc8.grown_new hgr9 hfa
        have HG68 : Hid (Blk V8 W1.heap.size 26 #[.slice da 7 dc, .slice xa 6 xc, .slice fa k fc]) := HG67.out.kept q8
        have hg69 : Blk V9 W1.heap.size 26 #[.slice da 7 dc, .slice xa 6 xc, .slice fa k fc] := (HG67.out.kept q8).far hgr9 (fun e => by have := hfa _ e; have := HGL.out; omega)
        have hg49 : Blk V9 w.heap.size 26 zc3 := (HG47.out.kept q8).far hgr9 (fun e => by have := hfa _ e; have := HGL.out; have := HLT.out; omega)
        obtain ⟨VA, hVA⟩ : ∃ VA, V9.setCell ⟨W1.heap.size, 2, none⟩ (.slice (some ⟨gf, 0, none⟩) (k + 1) fc') = VA := ⟨_, rfl⟩
        have htcA : Tc (· == 26) V9 VA := by rw [← hVA]; exact Tc.put hg69 (by rfl) _ _
        have bwA : Below w.heap.size w VA := by rw [← hVA]; exact bw9.setCell (Nat.le_of_lt HLT.out) _
        have HG6A : Hid (Blk VA W1.heap.size 26 #[.slice da 7 dc, .slice xa 6 xc, .slice (some ⟨gf, 0, none⟩) (k + 1) fc']) := by
         have := hg69.put 2 (.slice (some ⟨gf, 0, none⟩) (k + 1) fc')
         rw [hVA] at this
         exact this
        have HG4A : Hid (Blk VA w.heap.size 26 zc3) := by
         have := hg49.put_other hg69 (Nat.ne_of_lt HLT.out) 2 (.slice (some ⟨gf, 0, none⟩) (k + 1) fc')
         rw [hVA] at this
         exact this
        have HOJA : Hid (OwnJ VA V0.heap.size (some ⟨gf, 0, none⟩) fc' ((S0.take (k + 1)).map firstN)) := by rw [HTK.out]; exact ownsRow_tc hoj9 htcA (by rfl)
        have HTCA : Hid (Tc (· == 26) V0 VA) := htc9.trans htcA
        have c69 := hg69.cell 2 _ rfl
        have f69 := hg69.frozen 2
        clear q7 hrun9 hoj9 hgr9 q9 hfa htc8 htc9 hg69 hg49 htcA q8 HG47 HOJ7 HTC7 bw7 bw8 bw9
        refine hK.out _ _ trivial (fun hHeld => ?_)
        clear hK K
        try simp only [qpu]
        refine wpAnyH_ready (rs := [1, 4]) (by kernel_rfl) (by simp) ?_
        refine AllReadyH.cons (o := lxa29o12) rfl (fun K hK => ?_) (AllReadyH.cons (o := lxa29o8) rfl (fun K hK => ?_) AllReadyH.nil)
        ·have c6 := HG67.out.cell 2 (.slice fa k fc) rfl
         go_simp
         clear c6
         refine hK.out _ _ trivial (fun hHeld => ?_)
         clear hK K
         try simp only [qpu]
         refine wpAnyH_ready (rs := [4]) (by kernel_rfl) (by simp) ?_
         refine AllReadyH.cons (o := lxa29o8) rfl (fun K hK => ?_) AllReadyH.nil
         go_simp
         refine hK.out _ _ trivial (fun hHeld => ?_)
         clear hK K
         try simp only [qpu]
         refine wpAnyH_ready (rs := [5]) (by kernel_rfl) (by simp) ?_
         refine AllReadyH.cons (o := lxa29o5) rfl (fun K hK => ?_) AllReadyH.nil
         refine step_rn rfl 24 _ _ rfl _ _ rfl rfl _ _ HRx.out ?_
         refine hK.out _ _ trivial (fun hHeld => ?_)
         clear hK K
         try simp only [qpu]
         refine qtk (i := 6) (oi := lxa29o3) (v := (.pointer (some ⟨W1.heap.size, 2, none⟩))) hHeld ?_ ?_
         ·intro w9 hSw
          try dsimp only at hSw
          go_simp
         try simp only [qpu]
         refine wpAnyH_ready (rs := [7]) (by kernel_rfl) (by simp) ?_
         refine AllReadyH.cons (o := lxa29o2) rfl (fun K hK => ?_) AllReadyH.nil
         go_simp
         refine hK.out _ _ trivial (fun hHeld => ?_)
         clear hK K
         try simp only [qpu]
         refine wpAnyH_done (by kernel_rfl) ?_ _
         refine NoPanic.normal ?_
         go_wp2
         exact ⟨⟨k + 1, some ⟨gf, 0, none⟩, fc', by omega, by first | rfl | (congr 1), HG6A, HG4A, HOJA, HTCA, bwA⟩, by simp only [intOf]; omega⟩
        ·go_simp
         refine hK.out _ _ trivial (fun hHeld => ?_)
         clear hK K
         try simp only [qpu]
         refine wpAnyH_ready (rs := [1]) (by kernel_rfl) (by simp) ?_
         refine AllReadyH.cons (o := lxa29o12) rfl (fun K hK => ?_) AllReadyH.nil
         have c6 := HG68.out.cell 2 (.slice fa k fc) rfl
         go_simp
         clear c6
         refine hK.out _ _ trivial (fun hHeld => ?_)
         clear hK K
         try simp only [qpu]
         refine wpAnyH_ready (rs := [5]) (by kernel_rfl) (by simp) ?_
         refine AllReadyH.cons (o := lxa29o5) rfl (fun K hK => ?_) AllReadyH.nil
         refine step_rn rfl 24 _ _ rfl _ _ rfl rfl _ _ HRx.out ?_
         refine hK.out _ _ trivial (fun hHeld => ?_)
         clear hK K
         try simp only [qpu]
         refine qtk (i := 6) (oi := lxa29o3) (v := (.pointer (some ⟨W1.heap.size, 2, none⟩))) hHeld ?_ ?_
         ·intro w9 hSw
          try dsimp only at hSw
          go_simp
         try simp only [qpu]
         refine wpAnyH_ready (rs := [7]) (by kernel_rfl) (by simp) ?_
         refine AllReadyH.cons (o := lxa29o2) rfl (fun K hK => ?_) AllReadyH.nil
         go_simp
         refine hK.out _ _ trivial (fun hHeld => ?_)
         clear hK K
         try simp only [qpu]
         refine wpAnyH_done (by kernel_rfl) ?_ _
         refine NoPanic.normal ?_
         go_wp2
         exact ⟨⟨k + 1, some ⟨gf, 0, none⟩, fc', by omega, by first | rfl | (congr 1), HG6A, HG4A, HOJA, HTCA, bwA⟩, by simp only [intOf]; omega⟩

      ·have ik : ¬ (k : Int) < (sn : Int) := by omega
       have hksn : k = sn := by omega
       have HOJ' : Hid (OwnJ wr w.heap.size fa fc (S0.map firstN)) := by
        have := HOJ.out
        rw [List.take_of_length_le (by rw [HSN.out]; omega)] at this
        exact ownsRow_base this HB0.out.size
       have HOD' : Hid (OwnD wr w.heap.size da dc D) := HOD.out.tc HTC.out (by rfl) (by rfl) (by rfl) (by rfl)
       have HOX' : Hid (OwnX wr w.heap.size xa xc X) := HOX.out.tc HTC.out (by rfl) (by rfl) (by rfl)
       have hst : (Tryz.prog.info? 26).map (·.size) = some 3 := by kernel_rfl
       have at6 := HG6.out.at_
       have RB := HG4.out
       obtain ⟨V5, hV5⟩ : ∃ V5, wr.setRow w.heap.size #[.slice da 7 dc, .slice xa 6 xc, .slice fa k fc] = V5 := ⟨_, rfl⟩
       have RB5 : Blk V5 w.heap.size 26 #[.slice da 7 dc, .slice xa 6 xc, .slice fa k fc] := by rw [← hV5]; exact RB.set _
       have htc5 : Tc (· == 26) wr V5 := by rw [← hV5]; exact Tc.set RB (by rfl) _
       have bw5 : Below w.heap.size w V5 := by rw [← hV5]; exact below_setRow bw (Nat.le_refl _) _
       have hgot : CompGot l E w.heap.size (.returned (.tuple #[.agg #[.slice da 7 dc, .slice xa 6 xc, .slice fa k fc], .int .i64 0])) V5 := by
        refine Or.inr ⟨HE0.out, da, dc, D, xa, xc, X, fa, fc, S0.map firstN, by rw [List.length_map, HSN.out, hksn], HOD'.out.tc htc5 (by rfl) (by rfl) (by rfl) (by rfl), HOX'.out.tc htc5 (by rfl) (by rfl) (by rfl), ownsRow_tc HOJ'.out htc5 (by rfl), ⟨HDL.out.1, HDL.out.2.2, HXL0.out.1, HXL0.out.2, by rw [HS0.out]⟩⟩
       have HGOT : Hid _ := hgot
       clear hgot htc5 hksn
       go_wp2_with (first
        | (refine wpList_load_at rfl _ _ rfl W1.heap.size 0 (by rfl) _ at6 Tryz.underlying26 hst ?_)
        | (refine wpList_st rfl 26 _ _ rfl w.heap.size #[.slice da 7 dc, .slice xa 6 xc, .slice fa k fc] zc3 (by rfl) (by rfl) RB (by kernel_rfl) rfl (by kernel_rfl) ?_))
       try rw [hV5]
       exact ret_cell_tmp (k := 4) (j := 5) Tryz.f14 (by kernel_rfl) RB5 Tryz.underlying26 (by kernel_rfl) (by rfl) (by rfl) rfl ⟨HGOT.out, bw5⟩
end Go.Proofs.YtmfgjicfdjjihaaGreatDoor
