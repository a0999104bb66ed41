/- Texts joined: Arg9 -/
import Derived.Test.YtkeeidfpgfdldaaFpz18
import Derived.Deep.Slices
namespace Go.Proofs.Ytkeeidfpgfdldaa
open Go.RowKit Go.ChangeShapes Go.WideShapes Go.ChangeAt
set_option linter.unusedVariables false
set_option linter.unusedSimpArgs false
set_option linter.constructorNameAsVariable false
/-- These cells lie from k on in the block b. -/
def CellsAt (W : World) (b k : Nat) (sub : Array Value) : Prop := b < W.heap.size ∧ ∀ j v, sub[j]? = some v → W.cell? ⟨b, k + j, none⟩ = some v
theorem CellsAt.but {F : Nat → Prop} {w w' : World} {b k : Nat} {sub : Array Value} (h : CellsAt w b k sub) (hb : But F w w') (hn : ¬ F b) : CellsAt w' b k sub :=
 ⟨Nat.lt_of_lt_of_le h.1 hb.size, fun j v hv => hb.cell hn (h.2 j v hv)⟩
theorem CellsAt.below {w w' : World} {b k : Nat} {sub : Array Value} (h : CellsAt w b k sub) (hb : Below w.heap.size w w') : CellsAt w' b k sub :=
 h.but (But.of_below hb (fun _ => False)) (fun x => x)
theorem load_at {W : World} {g k : Nat} {ty : TypeId} {sub : Array Value} (h : CellsAt W g k sub) {fs : _} (hu : Try.prog.underlying ty = some (.struct fs)) (hi : (Try.prog.info? ty).map (·.size) = some sub.size) :
  (loadVar ty ⟨g, k, none⟩).run Try.prog W = .ok (.agg sub) W := by
 have hl : (loadCells ⟨g, k, none⟩ sub.toList.length).run Try.prog W = .ok sub.toList.toArray W :=
  run_loadCells_list (P := Try.prog) W ⟨g, k, none⟩ sub.toList (fun j v hv => by
   have hadd : (⟨g, k, none⟩ : Addr).add j = ⟨g, k + j, none⟩ := Go.WideShapes.add_plain ..
   rw [hadd]
   exact h.2 j v (by simpa using hv))
 cases hq : Try.prog.info? ty with
 | none => simp [hq] at hi
 | some i =>
  have hs' : i.size = sub.size := by simpa [hq] using hi
  have hagg : (isAgg ty).run Try.prog W = .ok true W := by
   unfold isAgg
   rw [Sem.run_bind, run_underlying hu W]
   rfl
  simp only [Array.length_toList, Array.toArray_toList] at hl
  simp [loadVar, Sem.run_bind, hagg, sizeOf, typeInfo, hq, hs', hl]
theorem wpList_load_at {ops : Array Oper} {rest : List Oper} {o : Oper} {ac : Act} {w : World} {Q : Exit → Act → World → Prop} (hgd : o.guard = none) (ty : TypeId) (p : Operand) (ho : o.op = Op.load ty p) (g k : Nat) (hp : ac.eval p = .pointer (some ⟨g, k, none⟩)) (sub : Array Value)
  (hb : CellsAt w g k sub) {fs : _} (hu : Try.prog.underlying ty = some (.struct fs)) (hi : (Try.prog.info? ty).map (·.size) = some sub.size) (h : wpList Try.prog ops Q rest (ac.put o.dst (.agg sub)) w) : wpList Try.prog ops Q (o :: rest) ac w := by
 refine wpList_plain hgd fun K hK => ?_
 have hl := load_at hb hu hi
 unfold Oper.wp
 simp [execOp, ho, hp, Instr.loadAt, Instr.sureAddr, hl, Result.andThen]
 exact hK _ _ h
/-- A packet that came in, and where its slices lie. -/
structure PkIn where
 p : Pkt
 xa : Option Addr
 xc : Nat
 da : Option Addr
 dc : Nat
abbrev PkIn.v (q : PkIn) : Array Value := pkV q.p q.xa q.xc q.da q.dc
structure PkIn.ok (W : World) (q : PkIn) : Prop where
 p : PktOk q.p
 exts : RowI W q.xa q.p.X
 xnil : q.xa = none → q.xc = 0
 data : Row W q.da q.p.dat
 dnil : q.da = none → q.dc = 0
theorem PkIn.ok.below {w w' : World} {q : PkIn} (h : q.ok w) (hb : Below w.heap.size w w') : q.ok w' := ⟨h.p, h.exts.below hb, h.xnil, h.data.below hb, h.dnil⟩
theorem wf_of_i64 {x : Int} (h : -9223372036854775808 ≤ x ∧ x ≤ 9223372036854775807) : (Lit.int .i64 x).wf = true := by
 simp [Lit.wf, IntKind.min, IntKind.max, IntKind.signed, IntKind.bits]; omega
theorem wf_of_u64 {x : Int} (h : 0 ≤ x ∧ x ≤ 18446744073709551615) : (Lit.int .u64 x).wf = true := by
 simp [Lit.wf, IntKind.min, IntKind.max, IntKind.signed, IntKind.bits]; omega
set_option maxRecDepth 100000 in
theorem ip_full {H : Type} {enc : TypeId × Value → H} {W : World} {fuel : Nat} {cs : List Value} {y : DataW H × List MemPlace} (hf0 : DataW.trod enc Try.prog W 0 (fun _ => true) true fuel 42 cs = some y) (hsz : ∀ n ∈ y.1.weights Try.prog 42, n ≤ reachBytes) :
  ∃ q : PkIn, cs = q.v.toList ∧ q.ok W := by
 have c29 : Try.prog.cellsOf 42 = 15 := by kernel_rfl
 have cA : Try.prog.cellsOf 37 = 3 := by kernel_rfl
 have cI : Try.prog.cellsOf 3 = 1 := by kernel_rfl
 have cB : Try.prog.cellsOf 4 = 1 := by kernel_rfl
 have cU : Try.prog.cellsOf 38 = 1 := by kernel_rfl
 have cX : Try.prog.cellsOf 39 = 1 := by kernel_rfl
 have cY : Try.prog.cellsOf 40 = 1 := by kernel_rfl
 obtain ⟨xs, n, _, hx, hl, hlen, hf⟩ := DataW.trod_struct Try.underlying42 hf0
 obtain ⟨v0, v1, v2, v3, v4, v5, v6, v7, v8, v9, v10, v11, v12, v13, v14, rfl⟩ := lst15 (hl.trans c29)
 obtain ⟨y0, y1, y2, y3, y4, y5, y6, y7, y8, y9, y10, rfl⟩ : ∃ y0 y1 y2 y3 y4 y5 y6 y7 y8 y9 y10, xs = [y0, y1, y2, y3, y4, y5, y6, y7, y8, y9, y10] := by
  match xs, hlen with
  | [y0, y1, y2, y3, y4, y5, y6, y7, y8, y9, y10], _ => exact ⟨y0, y1, y2, y3, y4, y5, y6, y7, y8, y9, y10, rfl⟩
 have h0 : DataW.trod enc Try.prog W 0 (fun _ => true) true n 3 ((([v0, v1, v2, v3, v4, v5, v6, v7, v8, v9, v10, v11, v12, v13, v14] : List Value).drop 0).take (Try.prog.cellsOf 3)) = some y0 := hf 0 _ rfl
 have h1 : DataW.trod enc Try.prog W 0 (fun _ => true) true n 37 ((([v0, v1, v2, v3, v4, v5, v6, v7, v8, v9, v10, v11, v12, v13, v14] : List Value).drop 1).take (Try.prog.cellsOf 37)) = some y1 := hf 1 _ rfl
 have h2 : DataW.trod enc Try.prog W 0 (fun _ => true) true n 37 ((([v0, v1, v2, v3, v4, v5, v6, v7, v8, v9, v10, v11, v12, v13, v14] : List Value).drop 4).take (Try.prog.cellsOf 37)) = some y2 := hf 2 _ rfl
 have h3 : DataW.trod enc Try.prog W 0 (fun _ => true) true n 3 ((([v0, v1, v2, v3, v4, v5, v6, v7, v8, v9, v10, v11, v12, v13, v14] : List Value).drop 7).take (Try.prog.cellsOf 3)) = some y3 := hf 3 _ rfl
 have h4 : DataW.trod enc Try.prog W 0 (fun _ => true) true n 3 ((([v0, v1, v2, v3, v4, v5, v6, v7, v8, v9, v10, v11, v12, v13, v14] : List Value).drop 8).take (Try.prog.cellsOf 3)) = some y4 := hf 4 _ rfl
 have h5 : DataW.trod enc Try.prog W 0 (fun _ => true) true n 4 ((([v0, v1, v2, v3, v4, v5, v6, v7, v8, v9, v10, v11, v12, v13, v14] : List Value).drop 9).take (Try.prog.cellsOf 4)) = some y5 := hf 5 _ rfl
 have h6 : DataW.trod enc Try.prog W 0 (fun _ => true) true n 38 ((([v0, v1, v2, v3, v4, v5, v6, v7, v8, v9, v10, v11, v12, v13, v14] : List Value).drop 10).take (Try.prog.cellsOf 38)) = some y6 := hf 6 _ rfl
 have h7 : DataW.trod enc Try.prog W 0 (fun _ => true) true n 3 ((([v0, v1, v2, v3, v4, v5, v6, v7, v8, v9, v10, v11, v12, v13, v14] : List Value).drop 11).take (Try.prog.cellsOf 3)) = some y7 := hf 7 _ rfl
 have h8 : DataW.trod enc Try.prog W 0 (fun _ => true) true n 4 ((([v0, v1, v2, v3, v4, v5, v6, v7, v8, v9, v10, v11, v12, v13, v14] : List Value).drop 12).take (Try.prog.cellsOf 4)) = some y8 := hf 8 _ rfl
 have h9 : DataW.trod enc Try.prog W 0 (fun _ => true) true n 39 ((([v0, v1, v2, v3, v4, v5, v6, v7, v8, v9, v10, v11, v12, v13, v14] : List Value).drop 13).take (Try.prog.cellsOf 39)) = some y9 := hf 9 _ rfl
 have h10 : DataW.trod enc Try.prog W 0 (fun _ => true) true n 40 ((([v0, v1, v2, v3, v4, v5, v6, v7, v8, v9, v10, v11, v12, v13, v14] : List Value).drop 14).take (Try.prog.cellsOf 40)) = some y10 := hf 10 _ rfl
 simp only [cA, cI, cB, cU, cX, cY, List.drop_zero, List.drop_succ_cons, List.take_succ_cons, List.take_zero] at h0 h1 h2 h3 h4 h5 h6 h7 h8 h9 h10
 obtain ⟨f, e0, _, w0⟩ := DataW.trod_int Try.underlying3 h0
 obtain ⟨sf, sh, sl, e1, ok1⟩ := adr_cells h1
 obtain ⟨df, dh, dl, e2, ok2⟩ := adr_cells h2
 obtain ⟨pr, e3, _, w3⟩ := DataW.trod_int Try.underlying3 h3
 obtain ⟨ho, e4, _, w4⟩ := DataW.trod_int Try.underlying3 h4
 obtain ⟨fg, e5, _⟩ := DataW.trod_bool Try.underlying4 h5
 obtain ⟨id, e6, _, w6⟩ := DataW.trod_int Try.underlying38 h6
 obtain ⟨of, e7, _, w7⟩ := DataW.trod_int Try.underlying3 h7
 obtain ⟨mo, e8, _⟩ := DataW.trod_bool Try.underlying4 h8
 have hd : y.1 = .agg [y0.1, y1.1, y2.1, y3.1, y4.1, y5.1, y6.1, y7.1, y8.1, y9.1, y10.1] := by simpa using congrArg Prod.fst hx
 obtain ⟨xa, xc, X, e9, x1, x2, x3⟩ := ints_cells6 h9 (fun m hm => hsz m (by
  rw [hd]
  simp only [DataW.weights, Try.underlying42]
  exact DataW.weights_mem_each (j := 9) (t := 39) rfl rfl m hm))
 obtain ⟨da, dc, dat, e10, g1, g2, g3, g4⟩ := bytes_cells h10 (fun m hm => hsz m (by
  rw [hd]
  simp only [DataW.weights, Try.underlying42]
  exact DataW.weights_mem_each (j := 10) (t := 40) rfl rfl m hm))
 simp only [List.cons.injEq, and_true] at e1
 simp only [List.cons.injEq, and_true] at e2
 obtain ⟨rfl, rfl, rfl⟩ := e1
 obtain ⟨rfl, rfl, rfl⟩ := e2
 have one : ∀ {x y : Value}, [x] = [y] → x = y := fun h => (List.cons.inj h).1
 obtain rfl := one e0
 obtain rfl := one e3
 obtain rfl := one e4
 obtain rfl := one e5
 obtain rfl := one e6
 obtain rfl := one e7
 obtain rfl := one e8
 obtain rfl := one e9
 obtain rfl := one e10
 exact ⟨⟨⟨f, ⟨sf, sh, sl⟩, ⟨df, dh, dl⟩, pr, ho, fg, id, of, mo, X, dat⟩, xa, xc, da, dc⟩, rfl, ⟨⟨wf_of_i64 ok1.1, wf_of_u64 ok1.2.1, wf_of_u64 ok1.2.2, wf_of_i64 ok2.1, wf_of_u64 ok2.2.1, wf_of_u64 ok2.2.2, w3, w6⟩, x3, x2, g4, g3⟩⟩
/-- A call of a script. -/
structure Ac6 where
 tk : Bool
 nw : Int
 q : PkIn
abbrev Ac6.v (a : Ac6) : Array Value := #[.bool a.tk, .int .i64 a.nw, .int .i64 a.q.p.f, .int .i64 a.q.p.s.fam, .int .u64 a.q.p.s.hi, .int .u64 a.q.p.s.lo, .int .i64 a.q.p.d.fam, .int .u64 a.q.p.d.hi, .int .u64 a.q.p.d.lo, .int .i64 a.q.p.pr, .int .i64 a.q.p.ho, .bool a.q.p.fg, .int .u32 a.q.p.id, .int .i64 a.q.p.of, .bool a.q.p.mo, .slice a.q.xa a.q.p.X.length a.q.xc, .slice a.q.da a.q.p.dat.length a.q.dc]
structure Ac6.ok (W : World) (a : Ac6) : Prop where
 now : (Lit.int .i64 a.nw).wf = true
 q : a.q.ok W
theorem Ac6.ok.below {w w' : World} {q : Ac6} (h : q.ok w) (hb : Below w.heap.size w w') : q.ok w' := ⟨h.now, h.q.below hb⟩
theorem act_full {H : Type} {enc : TypeId × Value → H} {W : World} {fuel : Nat} {cs : List Value} {y : DataW H × List MemPlace} (hf0 : DataW.trod enc Try.prog W 0 (fun _ => true) true fuel 44 cs = some y) (hl : cs.length = 17) (hsz : ∀ n ∈ y.1.weights Try.prog 44, n ≤ reachBytes) :
  ∃ q : Ac6, cs = q.v.toList ∧ q.ok W := by
 have c29 : Try.prog.cellsOf 42 = 15 := by kernel_rfl
 have cI : Try.prog.cellsOf 3 = 1 := by kernel_rfl
 have cB : Try.prog.cellsOf 4 = 1 := by kernel_rfl
 obtain ⟨a, b, l, e, hl⟩ := arr17 (cs := cs.toArray) (by simpa using hl)
 have e : cs = a :: b :: l := by simpa using congrArg Array.toList e
 subst e
 obtain ⟨y0, y1, y2, k, hy, _, h0, h1, h2⟩ := Go.Deep.trod_struct3 Try.underlying44 hf0
 have h0 : DataW.trod enc Try.prog W 0 (fun _ => true) true k 4 (((a :: b :: l).drop 0).take (Try.prog.cellsOf 4)) = some y0 := h0
 have h1 : DataW.trod enc Try.prog W 0 (fun _ => true) true k 3 (((a :: b :: l).drop 1).take (Try.prog.cellsOf 3)) = some y1 := h1
 have h2 : DataW.trod enc Try.prog W 0 (fun _ => true) true k 42 (((a :: b :: l).drop 2).take (Try.prog.cellsOf 42)) = some y2 := h2
 simp only [cI, cB, List.drop_zero, List.drop_succ_cons, List.take_succ_cons, List.take_zero] at h0 h1
 rw [c29, List.drop_succ_cons, List.drop_succ_cons, List.drop_zero, List.take_of_length_le (by omega)] at h2
 obtain ⟨tk, e0, _⟩ := DataW.trod_bool Try.underlying4 h0
 obtain ⟨nw, e1, _, w1⟩ := DataW.trod_int Try.underlying3 h1
 have hd : y.1 = .agg [y0.1, y1.1, y2.1] := by simpa using congrArg Prod.fst hy
 obtain ⟨q, e2, hq⟩ := ip_full h2 (fun m hm => hsz m (by
  rw [hd]
  simp only [DataW.weights, Try.underlying44]
  exact DataW.weights_mem_each (j := 2) (t := 42) rfl rfl m hm))
 have one : ∀ {x y : Value}, [x] = [y] → x = y := fun h => (List.cons.inj h).1
 obtain rfl := one e0
 obtain rfl := one e1
 subst e2
 exact ⟨⟨tk, nw, q⟩, rfl, w1, hq⟩
theorem list_of {α : Type} {P : Nat → α → Prop} : ∀ m, (∀ i, i < m → ∃ q, P i q) → ∃ l : List α, l.length = m ∧ ∀ (i : Nat) (q : α), l[i]? = some q → P i q
 | 0, _ => ⟨[], rfl, fun i q h => by simp at h⟩
 | m + 1, h => by
  obtain ⟨l, h1, h2⟩ := list_of m (fun i hi => h i (by omega))
  obtain ⟨q, hq⟩ := h m (by omega)
  refine ⟨l ++ [q], by simp [h1], fun i q' hi => ?_⟩
  rcases Nat.lt_or_ge i m with x | x
  ·rw [List.getElem?_append_left (by omega)] at hi
   exact h2 i q' hi
  ·have hl := (List.getElem?_eq_some_iff.1 hi).1
   simp [h1] at hl
   have : i = m := by omega
   subst this
   rw [List.getElem?_append_right (by omega)] at hi
   simp [h1] at hi
   rw [← hi]
   exact hq
/-- A slice of things of n cells each, as it is read. -/
structure RowN {α : Type} (n : Nat) (v : α → Array Value) (ok : World → α → Prop) (w : World) (a : Option Addr) (l : List α) : Prop where
 each : ∀ q ∈ l, ok w q
 cells : ∀ (i : Nat) (q : α), l[i]? = some q → ∃ b off, a = some ⟨b, off, none⟩ ∧ CellsAt w b (off + i * n) (v q)
theorem RowN.below {α : Type} {n : Nat} {v : α → Array Value} {ok : World → α → Prop} (hok : ∀ {w w' : World} {q : α}, ok w q → Below w.heap.size w w' → ok w' q) {w w' : World} {a : Option Addr} {l : List α} (h : RowN n v ok w a l) (hb : Below w.heap.size w w') : RowN n v ok w' a l :=
 ⟨fun q hq => hok (h.each q hq) hb, fun i q hq => by
  obtain ⟨b, off, h1, h2⟩ := h.cells i q hq
  exact ⟨b, off, h1, h2.below hb⟩⟩
set_option maxRecDepth 100000 in
theorem open_acts6 {H : Type} {enc : TypeId × Value → H} {W : World} {base : Nat} {v : Value} {d : DataW H} {p : List MemPlace}
  (hv : Value.okWide Try.prog W .any base 24 v) (h : DataW.Trod enc Try.prog W 0 (fun _ => true) true 24 v d p) (hsz : ∀ n ∈ d.weights Try.prog 24, n ≤ reachBytes) :
  ∃ (a : Option Addr) (cap : Nat) (l : List Ac6), v = .slice a l.length cap ∧ l.length ≤ cap ∧ cap ≤ 17592186044416 ∧ RowN 17 Ac6.v Ac6.ok W a l := by
 obtain ⟨a0, len0, cap0, rfl⟩ := okWide_slice Try.underlying24 hv
 obtain ⟨fuel, hf⟩ := h
 rcases Deep.open_slice Try.underlying24 hf with ⟨hcs, _⟩ | ⟨x, l, c, m, n, D, Pl, hcs, _, hl, hm, hmm, hx, hcell⟩
 ·simp [Value.cells] at hcs
  obtain ⟨rfl, rfl, rfl⟩ := hcs
  exact ⟨none, 0, [], rfl, Nat.le_refl _, by omega, by simp, fun i q h => by simp at h⟩
 ·simp [Value.cells] at hcs
  obtain ⟨rfl, rfl, rfl⟩ := hcs
  simp only [if_true] at hmm
  subst hmm
  simp only [Prod.mk.injEq] at hx
  obtain ⟨rfl, _⟩ := hx
  have hbe : Program.bytesOf Try.prog 44 = 160 := by kernel_rfl
  have hce : Program.cellsOf Try.prog 44 = 17 := by kernel_rfl
  have hn := hsz ((((List.range len0).map D).length + ((List.range (m - len0)).map fun j => D (len0 + j)).length) * 160) (by simp only [DataW.weights, Try.underlying24, hbe]; exact List.mem_cons_self ..)
  simp only [List.length_map, List.length_range, reachBytes] at hn
  have each : ∀ i, i < len0 → ∃ q : Ac6, q.ok W ∧ ∀ j v, q.v[j]? = some v → W.cell? ((x.add (i * 17)).add j) = some v := by
   intro i hi
   obtain ⟨cs', h1, h2⟩ := hcell i (by omega)
   rw [hce] at h1
   obtain ⟨_, hlen, hc⟩ := World.cells?_some h1
   obtain ⟨q, e, hq⟩ := act_full h2 hlen (fun n hn => hsz n (by
    simp only [DataW.weights, Try.underlying24]
    exact List.mem_cons_of_mem _ (List.mem_append_left _ (weightsAll_mem (d := D i) (List.mem_map.2 ⟨i, List.mem_range.2 hi, rfl⟩) hn))))
   refine ⟨q, hq, fun j v hj => ?_⟩
   have hj' : j < 17 := by
    have := (Array.getElem?_eq_some_iff.1 hj).1
    simpa using this
   have h3 := hc j (by omega)
   rw [h3, e]
   have : q.v.toList[j]? = some v := by simpa using hj
   exact this
  obtain ⟨l, hl1, hl2⟩ := list_of len0 each
  refine ⟨some x, m, l, by rw [hl1], by omega, by omega, fun q hq => ?_, fun i q hq => ?_⟩
  ·obtain ⟨i, hi⟩ := List.mem_iff_getElem?.1 hq
   exact (hl2 i q hi).1
  ·obtain ⟨_, c0⟩ := hl2 i q hq
   obtain ⟨b, off, spot⟩ := x
   have hil : i < l.length := (List.getElem?_eq_some_iff.1 hq).1
   obtain ⟨q0, hq0⟩ : ∃ q0, l[0]? = some q0 := ⟨_, List.getElem?_eq_getElem (by omega)⟩
   have hspot : spot = none := by simpa [Addr.add] using World.cell?_spot ((hl2 0 q0 hq0).2 0 _ rfl)
   subst hspot
   refine ⟨b, off, rfl, ?_, fun j v hj => ?_⟩
   ·have := c0 0 _ rfl
    rw [Go.WideShapes.add_plain, Go.WideShapes.add_plain] at this
    exact World.block_lt_of_cell? W _ this
   ·have := c0 j v hj
    rw [Go.WideShapes.add_plain, Go.WideShapes.add_plain] at this
    exact this
/-- A table's bounds that came in. -/
theorem sz3 {L : List Value} {n : Nat} (h : L.toArray.size = n) (h' : n = 3) : L.length = 3 := by simpa using h.trans h'
set_option maxRecDepth 100000 in
theorem open_caps {H : Type} {enc : TypeId × Value → H} {W : World} {base : Nat} {v : Value} {d : DataW H} {p : List MemPlace}
  (hv : Value.okWide Try.prog W .any base 23 v) (h : DataW.Trod enc Try.prog W 0 (fun _ => true) true 23 v d p) :
  ∃ gr by_ lf : Int, v = .agg #[.int .i64 gr, .int .i64 by_, .int .i64 lf] := by
 have cc : Try.prog.cellsOf 23 = 3 := by kernel_rfl
 have cI : Try.prog.cellsOf 3 = 1 := by kernel_rfl
 obtain ⟨cs, rfl, hs⟩ := okWide_struct Try.underlying23 hv
 obtain ⟨L⟩ := cs
 obtain ⟨a, b, c, rfl⟩ := lsK3 (cs := L) (sz3 hs cc)
 obtain ⟨fuel, hf0⟩ := h
 obtain ⟨y0, y1, y2, k, _, _, h0, h1, h2⟩ := Go.Deep.trod_struct3 Try.underlying23 hf0
 have h0 : DataW.trod enc Try.prog W 0 (fun _ => true) true k 3 (([a, b, c].drop 0).take (Try.prog.cellsOf 3)) = some y0 := h0
 have h1 : DataW.trod enc Try.prog W 0 (fun _ => true) true k 3 (([a, b, c].drop 1).take (Try.prog.cellsOf 3)) = some y1 := h1
 have h2 : DataW.trod enc Try.prog W 0 (fun _ => true) true k 3 (([a, b, c].drop 2).take (Try.prog.cellsOf 3)) = some y2 := h2
 simp only [cI, List.drop_zero, List.drop_succ_cons, List.take_succ_cons, List.take_zero] at h0 h1 h2
 obtain ⟨x, e0, _, _⟩ := DataW.trod_int Try.underlying3 h0
 obtain ⟨y, e1, _, _⟩ := DataW.trod_int Try.underlying3 h1
 obtain ⟨z, e2, _, _⟩ := DataW.trod_int Try.underlying3 h2
 have one : ∀ {x y : Value}, [x] = [y] → x = y := fun h => (List.cons.inj h).1
 obtain rfl := one e0
 obtain rfl := one e1
 obtain rfl := one e2
 exact ⟨x, y, z, rfl⟩
end Go.Proofs.Ytkeeidfpgfdldaa
