/- Texts joined: XpQ -/
import Derived.Test.YtmflogmocgbmhaaXpa5
import Derived.Test.YtmflogmocgbmhaaXpa6
namespace Go.Proofs.Ytmflogmocgbmhaa
open Go.RowKit Go.ChangeShapes Go.WideShapes Go.ChangeAt
set_option linter.unusedVariables false
set_option linter.unusedSimpArgs false
set_option linter.constructorNameAsVariable false
theorem one_xp {x y : Value} (h : [x] = [y]) : x = y := (List.cons.inj h).1
/-- A call of a table. -/
structure Ax where
  kd : Int
  pt : Int
  nw : Int
  f : Wt
abbrev Ax.v (q : Ax) : Array Value := #[.int .i64 q.kd, .int .i64 q.pt, .int .i64 q.nw, .int .i64 q.f.w.fam, .int .i64 q.f.w.pr, .int .i64 q.f.w.s.fam, .int .u64 q.f.w.s.hi, .int .u64 q.f.w.s.lo, .int .i64 q.f.w.d.fam, .int .u64 q.f.w.d.hi, .int .u64 q.f.w.d.lo, .int .i64 q.f.w.sp, .int .i64 q.f.w.dp, .int .i64 q.f.m.fam, .int .i64 q.f.m.pr, .int .i64 q.f.m.s.fam, .int .u64 q.f.m.s.hi, .int .u64 q.f.m.s.lo, .int .i64 q.f.m.d.fam, .int .u64 q.f.m.d.hi, .int .u64 q.f.m.d.lo, .int .i64 q.f.m.sp, .int .i64 q.f.m.dp, .int .i64 q.f.ends, .int .i64 q.f.help]
structure Cx where
  mo : Int
  qu : Int
abbrev Cx.v (q : Cx) : Array Value := #[.int .i64 q.mo, .int .i64 q.qu]
theorem ls_wayX {cs : List Value} (h : cs.length = 10) : ∃ v0 v1 v2 v3 v4 v5 v6 v7 v8 v9, cs = [v0, v1, v2, v3, v4, v5, v6, v7, v8, v9] := by
  match cs, h with
  | [v0, v1, v2, v3, v4, v5, v6, v7, v8, v9], _ => exact ⟨v0, v1, v2, v3, v4, v5, v6, v7, v8, v9, rfl⟩
theorem ly_wayX {α : Type} {cs : List α} (h : cs.length = 6) : ∃ y0 y1 y2 y3 y4 y5, cs = [y0, y1, y2, y3, y4, y5] := by
  match cs, h with
  | [y0, y1, y2, y3, y4, y5], _ => exact ⟨y0, y1, y2, y3, y4, y5, rfl⟩
set_option maxRecDepth 100000 in
set_option maxHeartbeats 4000000 in
theorem wayX_cells {H : Type} {enc : TypeId × Value → H} {W : World} {fuel : Nat} {cs : List Value} {y : DataW H × List MemPlace} (hf0 : DataW.trod enc Try.prog W 0 (fun _ => true) true fuel 26 cs = some y) :
    ∃ q : Wy, cs = q.v.toList ∧ q.ok := by
  have cc : Try.prog.cellsOf 26 = 10 := by kernel_rfl
  have c_0 : Try.prog.cellsOf 3 = 1 := by kernel_rfl
  have c_1 : Try.prog.cellsOf 24 = 3 := by kernel_rfl
  obtain ⟨xs, n, _, hx, hl, hlen, hf⟩ := DataW.trod_struct Try.underlying26 hf0
  obtain ⟨v0, v1, v2, v3, v4, v5, v6, v7, v8, v9, rfl⟩ := ls_wayX (hl.trans cc)
  obtain ⟨y0, y1, y2, y3, y4, y5, rfl⟩ := ly_wayX hlen
  have h0 : DataW.trod enc Try.prog W 0 (fun _ => true) true n 3 ((([v0, v1, v2, v3, v4, v5, v6, v7, v8, v9] : List Value).drop 0).take (Try.prog.cellsOf 3)) = some y0 := hf 0 _ rfl
  have h1 : DataW.trod enc Try.prog W 0 (fun _ => true) true n 3 ((([v0, v1, v2, v3, v4, v5, v6, v7, v8, v9] : List Value).drop 1).take (Try.prog.cellsOf 3)) = some y1 := hf 1 _ rfl
  have h2 : DataW.trod enc Try.prog W 0 (fun _ => true) true n 24 ((([v0, v1, v2, v3, v4, v5, v6, v7, v8, v9] : List Value).drop 2).take (Try.prog.cellsOf 24)) = some y2 := hf 2 _ rfl
  have h3 : DataW.trod enc Try.prog W 0 (fun _ => true) true n 24 ((([v0, v1, v2, v3, v4, v5, v6, v7, v8, v9] : List Value).drop 5).take (Try.prog.cellsOf 24)) = some y3 := hf 3 _ rfl
  have h4 : DataW.trod enc Try.prog W 0 (fun _ => true) true n 3 ((([v0, v1, v2, v3, v4, v5, v6, v7, v8, v9] : List Value).drop 8).take (Try.prog.cellsOf 3)) = some y4 := hf 4 _ rfl
  have h5 : DataW.trod enc Try.prog W 0 (fun _ => true) true n 3 ((([v0, v1, v2, v3, v4, v5, v6, v7, v8, v9] : List Value).drop 9).take (Try.prog.cellsOf 3)) = some y5 := hf 5 _ rfl
  simp only [c_0, c_1, List.drop_zero, List.drop_succ_cons, List.take_succ_cons, List.take_zero] at h0 h1 h2 h3 h4 h5
  obtain ⟨a0, e0, _, w0⟩ := DataW.trod_int Try.underlying3 h0
  obtain rfl := one_xp e0
  obtain ⟨a1, e1, _, w1⟩ := DataW.trod_int Try.underlying3 h1
  obtain rfl := one_xp e1
  obtain ⟨f2, g2, l2, e2, k2⟩ := addr_cells h2
  simp only [List.cons.injEq, and_true] at e2
  obtain ⟨rfl, rfl, rfl⟩ := e2
  obtain ⟨f3, g3, l3, e3, k3⟩ := addr_cells h3
  simp only [List.cons.injEq, and_true] at e3
  obtain ⟨rfl, rfl, rfl⟩ := e3
  obtain ⟨a4, e4, _, w4⟩ := DataW.trod_int Try.underlying3 h4
  obtain rfl := one_xp e4
  obtain ⟨a5, e5, _, w5⟩ := DataW.trod_int Try.underlying3 h5
  obtain rfl := one_xp e5
  exact ⟨⟨a0, a1, ⟨f2, g2, l2⟩, ⟨f3, g3, l3⟩, a4, a5⟩, rfl, ⟨k2, k3⟩⟩
set_option maxRecDepth 100000 in
theorem open_wayX {H : Type} {enc : TypeId × Value → H} {W : World} {base : Nat} {v : Value} {d : DataW H} {p : List MemPlace}
    (hv : Value.okWide Try.prog W .any base 26 v) (h : DataW.Trod enc Try.prog W 0 (fun _ => true) true 26 v d p) :
    ∃ q : Wy, v = .agg q.v ∧ q.ok := by
  obtain ⟨cs, rfl, _⟩ := okWide_struct Try.underlying26 hv
  obtain ⟨fuel, hf⟩ := h
  obtain ⟨q, e, ok⟩ := wayX_cells hf
  refine ⟨q, ?_, ok⟩
  simp only [Value.cells] at e
  congr 1
  exact Array.ext' e
theorem ls_want {cs : List Value} (h : cs.length = 22) : ∃ v0 v1 v2 v3 v4 v5 v6 v7 v8 v9 v10 v11 v12 v13 v14 v15 v16 v17 v18 v19 v20 v21, cs = [v0, v1, v2, v3, v4, v5, v6, v7, v8, v9, v10, v11, v12, v13, v14, v15, v16, v17, v18, v19, v20, v21] := by
  match cs, h with
  | [v0, v1, v2, v3, v4, v5, v6, v7, v8, v9, v10, v11, v12, v13, v14, v15, v16, v17, v18, v19, v20, v21], _ => exact ⟨v0, v1, v2, v3, v4, v5, v6, v7, v8, v9, v10, v11, v12, v13, v14, v15, v16, v17, v18, v19, v20, v21, rfl⟩
theorem ly_want {α : Type} {cs : List α} (h : cs.length = 4) : ∃ y0 y1 y2 y3, cs = [y0, y1, y2, y3] := by
  match cs, h with
  | [y0, y1, y2, y3], _ => exact ⟨y0, y1, y2, y3, rfl⟩
set_option maxRecDepth 100000 in
set_option maxHeartbeats 4000000 in
theorem want_cells {H : Type} {enc : TypeId × Value → H} {W : World} {fuel : Nat} {cs : List Value} {y : DataW H × List MemPlace} (hf0 : DataW.trod enc Try.prog W 0 (fun _ => true) true fuel 28 cs = some y) :
    ∃ q : Wt, cs = q.v.toList ∧ q.ok := by
  have cc : Try.prog.cellsOf 28 = 22 := by kernel_rfl
  have c_0 : Try.prog.cellsOf 26 = 10 := by kernel_rfl
  have c_1 : Try.prog.cellsOf 3 = 1 := by kernel_rfl
  obtain ⟨xs, n, _, hx, hl, hlen, hf⟩ := DataW.trod_struct Try.underlying28 hf0
  obtain ⟨v0, v1, v2, v3, v4, v5, v6, v7, v8, v9, v10, v11, v12, v13, v14, v15, v16, v17, v18, v19, v20, v21, rfl⟩ := ls_want (hl.trans cc)
  obtain ⟨y0, y1, y2, y3, rfl⟩ := ly_want hlen
  have h0 : DataW.trod enc Try.prog W 0 (fun _ => true) true n 26 ((([v0, v1, v2, v3, v4, v5, v6, v7, v8, v9, v10, v11, v12, v13, v14, v15, v16, v17, v18, v19, v20, v21] : List Value).drop 0).take (Try.prog.cellsOf 26)) = some y0 := hf 0 _ rfl
  have h1 : DataW.trod enc Try.prog W 0 (fun _ => true) true n 26 ((([v0, v1, v2, v3, v4, v5, v6, v7, v8, v9, v10, v11, v12, v13, v14, v15, v16, v17, v18, v19, v20, v21] : List Value).drop 10).take (Try.prog.cellsOf 26)) = some y1 := hf 1 _ rfl
  have h2 : DataW.trod enc Try.prog W 0 (fun _ => true) true n 3 ((([v0, v1, v2, v3, v4, v5, v6, v7, v8, v9, v10, v11, v12, v13, v14, v15, v16, v17, v18, v19, v20, v21] : List Value).drop 20).take (Try.prog.cellsOf 3)) = some y2 := hf 2 _ rfl
  have h3 : DataW.trod enc Try.prog W 0 (fun _ => true) true n 3 ((([v0, v1, v2, v3, v4, v5, v6, v7, v8, v9, v10, v11, v12, v13, v14, v15, v16, v17, v18, v19, v20, v21] : List Value).drop 21).take (Try.prog.cellsOf 3)) = some y3 := hf 3 _ rfl
  simp only [c_0, c_1, List.drop_zero, List.drop_succ_cons, List.take_succ_cons, List.take_zero] at h0 h1 h2 h3
  obtain ⟨q0, e0, k0⟩ := wayX_cells h0
  simp only [List.cons.injEq, and_true] at e0
  obtain ⟨rfl, rfl, rfl, rfl, rfl, rfl, rfl, rfl, rfl, rfl⟩ := e0
  obtain ⟨q1, e1, k1⟩ := wayX_cells h1
  simp only [List.cons.injEq, and_true] at e1
  obtain ⟨rfl, rfl, rfl, rfl, rfl, rfl, rfl, rfl, rfl, rfl⟩ := e1
  obtain ⟨a2, e2, _, w2⟩ := DataW.trod_int Try.underlying3 h2
  obtain rfl := one_xp e2
  obtain ⟨a3, e3, _, w3⟩ := DataW.trod_int Try.underlying3 h3
  obtain rfl := one_xp e3
  exact ⟨⟨q0, q1, a2, a3⟩, rfl, ⟨k0, k1⟩⟩
set_option maxRecDepth 100000 in
theorem open_want {H : Type} {enc : TypeId × Value → H} {W : World} {base : Nat} {v : Value} {d : DataW H} {p : List MemPlace}
    (hv : Value.okWide Try.prog W .any base 28 v) (h : DataW.Trod enc Try.prog W 0 (fun _ => true) true 28 v d p) :
    ∃ q : Wt, v = .agg q.v ∧ q.ok := by
  obtain ⟨cs, rfl, _⟩ := okWide_struct Try.underlying28 hv
  obtain ⟨fuel, hf⟩ := h
  obtain ⟨q, e, ok⟩ := want_cells hf
  refine ⟨q, ?_, ok⟩
  simp only [Value.cells] at e
  congr 1
  exact Array.ext' e
theorem ls_act17 {cs : List Value} (h : cs.length = 25) : ∃ v0 v1 v2 v3 v4 v5 v6 v7 v8 v9 v10 v11 v12 v13 v14 v15 v16 v17 v18 v19 v20 v21 v22 v23 v24, cs = [v0, v1, v2, v3, v4, v5, v6, v7, v8, v9, v10, v11, v12, v13, v14, v15, v16, v17, v18, v19, v20, v21, v22, v23, v24] := by
  match cs, h with
  | [v0, v1, v2, v3, v4, v5, v6, v7, v8, v9, v10, v11, v12, v13, v14, v15, v16, v17, v18, v19, v20, v21, v22, v23, v24], _ => exact ⟨v0, v1, v2, v3, v4, v5, v6, v7, v8, v9, v10, v11, v12, v13, v14, v15, v16, v17, v18, v19, v20, v21, v22, v23, v24, rfl⟩
theorem ly_act17 {α : Type} {cs : List α} (h : cs.length = 4) : ∃ y0 y1 y2 y3, cs = [y0, y1, y2, y3] := by
  match cs, h with
  | [y0, y1, y2, y3], _ => exact ⟨y0, y1, y2, y3, rfl⟩
set_option maxRecDepth 100000 in
set_option maxHeartbeats 4000000 in
theorem act17_cells {H : Type} {enc : TypeId × Value → H} {W : World} {fuel : Nat} {cs : List Value} {y : DataW H × List MemPlace} (hf0 : DataW.trod enc Try.prog W 0 (fun _ => true) true fuel 45 cs = some y) :
    ∃ q : Ax, cs = q.v.toList ∧ q.f.ok := by
  have cc : Try.prog.cellsOf 45 = 25 := by kernel_rfl
  have c_0 : Try.prog.cellsOf 3 = 1 := by kernel_rfl
  have c_1 : Try.prog.cellsOf 28 = 22 := by kernel_rfl
  obtain ⟨xs, n, _, hx, hl, hlen, hf⟩ := DataW.trod_struct Try.underlying45 hf0
  obtain ⟨v0, v1, v2, v3, v4, v5, v6, v7, v8, v9, v10, v11, v12, v13, v14, v15, v16, v17, v18, v19, v20, v21, v22, v23, v24, rfl⟩ := ls_act17 (hl.trans cc)
  obtain ⟨y0, y1, y2, y3, rfl⟩ := ly_act17 hlen
  have h0 : DataW.trod enc Try.prog W 0 (fun _ => true) true n 3 ((([v0, v1, v2, v3, v4, v5, v6, v7, v8, v9, v10, v11, v12, v13, v14, v15, v16, v17, v18, v19, v20, v21, v22, v23, v24] : List Value).drop 0).take (Try.prog.cellsOf 3)) = some y0 := hf 0 _ rfl
  have h1 : DataW.trod enc Try.prog W 0 (fun _ => true) true n 3 ((([v0, v1, v2, v3, v4, v5, v6, v7, v8, v9, v10, v11, v12, v13, v14, v15, v16, v17, v18, v19, v20, v21, v22, v23, v24] : List Value).drop 1).take (Try.prog.cellsOf 3)) = some y1 := hf 1 _ rfl
  have h2 : DataW.trod enc Try.prog W 0 (fun _ => true) true n 3 ((([v0, v1, v2, v3, v4, v5, v6, v7, v8, v9, v10, v11, v12, v13, v14, v15, v16, v17, v18, v19, v20, v21, v22, v23, v24] : List Value).drop 2).take (Try.prog.cellsOf 3)) = some y2 := hf 2 _ rfl
  have h3 : DataW.trod enc Try.prog W 0 (fun _ => true) true n 28 ((([v0, v1, v2, v3, v4, v5, v6, v7, v8, v9, v10, v11, v12, v13, v14, v15, v16, v17, v18, v19, v20, v21, v22, v23, v24] : List Value).drop 3).take (Try.prog.cellsOf 28)) = some y3 := hf 3 _ rfl
  simp only [c_0, c_1, List.drop_zero, List.drop_succ_cons, List.take_succ_cons, List.take_zero] at h0 h1 h2 h3
  obtain ⟨a0, e0, _, w0⟩ := DataW.trod_int Try.underlying3 h0
  obtain rfl := one_xp e0
  obtain ⟨a1, e1, _, w1⟩ := DataW.trod_int Try.underlying3 h1
  obtain rfl := one_xp e1
  obtain ⟨a2, e2, _, w2⟩ := DataW.trod_int Try.underlying3 h2
  obtain rfl := one_xp e2
  obtain ⟨q3, e3, k3⟩ := want_cells h3
  simp only [List.cons.injEq, and_true] at e3
  obtain ⟨rfl, rfl, rfl, rfl, rfl, rfl, rfl, rfl, rfl, rfl, rfl, rfl, rfl, rfl, rfl, rfl, rfl, rfl, rfl, rfl, rfl, rfl⟩ := e3
  exact ⟨⟨a0, a1, a2, q3⟩, rfl, k3⟩
theorem ls_caps17 {cs : List Value} (h : cs.length = 2) : ∃ v0 v1, cs = [v0, v1] := by
  match cs, h with
  | [v0, v1], _ => exact ⟨v0, v1, rfl⟩
theorem ly_caps17 {α : Type} {cs : List α} (h : cs.length = 2) : ∃ y0 y1, cs = [y0, y1] := by
  match cs, h with
  | [y0, y1], _ => exact ⟨y0, y1, rfl⟩
set_option maxRecDepth 100000 in
set_option maxHeartbeats 4000000 in
theorem caps17_cells {H : Type} {enc : TypeId × Value → H} {W : World} {fuel : Nat} {cs : List Value} {y : DataW H × List MemPlace} (hf0 : DataW.trod enc Try.prog W 0 (fun _ => true) true fuel 33 cs = some y) :
    ∃ q : Cx, cs = q.v.toList ∧ True := by
  have cc : Try.prog.cellsOf 33 = 2 := by kernel_rfl
  have c_0 : Try.prog.cellsOf 3 = 1 := by kernel_rfl
  obtain ⟨xs, n, _, hx, hl, hlen, hf⟩ := DataW.trod_struct Try.underlying33 hf0
  obtain ⟨v0, v1, rfl⟩ := ls_caps17 (hl.trans cc)
  obtain ⟨y0, y1, rfl⟩ := ly_caps17 hlen
  have h0 : DataW.trod enc Try.prog W 0 (fun _ => true) true n 3 ((([v0, v1] : List Value).drop 0).take (Try.prog.cellsOf 3)) = some y0 := hf 0 _ rfl
  have h1 : DataW.trod enc Try.prog W 0 (fun _ => true) true n 3 ((([v0, v1] : List Value).drop 1).take (Try.prog.cellsOf 3)) = some y1 := hf 1 _ rfl
  simp only [c_0, List.drop_zero, List.drop_succ_cons, List.take_succ_cons, List.take_zero] at h0 h1
  obtain ⟨a0, e0, _, w0⟩ := DataW.trod_int Try.underlying3 h0
  obtain rfl := one_xp e0
  obtain ⟨a1, e1, _, w1⟩ := DataW.trod_int Try.underlying3 h1
  obtain rfl := one_xp e1
  exact ⟨⟨a0, a1⟩, rfl, trivial⟩
set_option maxRecDepth 100000 in
theorem open_caps17 {H : Type} {enc : TypeId × Value → H} {W : World} {base : Nat} {v : Value} {d : DataW H} {p : List MemPlace}
    (hv : Value.okWide Try.prog W .any base 33 v) (h : DataW.Trod enc Try.prog W 0 (fun _ => true) true 33 v d p) :
    ∃ q : Cx, v = .agg q.v ∧ True := by
  obtain ⟨cs, rfl, _⟩ := okWide_struct Try.underlying33 hv
  obtain ⟨fuel, hf⟩ := h
  obtain ⟨q, e, ok⟩ := caps17_cells hf
  refine ⟨q, ?_, ok⟩
  simp only [Value.cells] at e
  congr 1
  exact Array.ext' e
set_option maxRecDepth 100000 in
set_option maxHeartbeats 1000000 in
theorem open_wants {H : Type} {enc : TypeId × Value → H} {W : World} {base : Nat} {v : Value} {d : DataW H} {p : List MemPlace}
    (hv : Value.okWide Try.prog W .any base 39 v) (h : DataW.Trod enc Try.prog W 0 (fun _ => true) true 39 v d p) (hsz : ∀ n ∈ d.weights Try.prog 39, n ≤ reachBytes) :
    ∃ (a : Option Addr) (cap : Nat) (l : List Wt), v = .slice a l.length cap ∧ l.length ≤ cap ∧ (cap * 176 ≤ 140737488351232 ∧ (a = none → cap = 0)) ∧ RowN 22 Wt.v (fun _ q => q.ok) W a l := by
  obtain ⟨a0, len0, cap0, rfl⟩ := okWide_slice Try.underlying39 hv
  obtain ⟨fuel, hf⟩ := h
  rcases Deep.open_slice Try.underlying39 hf with ⟨hcs, _⟩ | ⟨x, l, c, m, n, D, Pl, hcs, _, hl, hm, hmm, hx, hcell⟩
  · simp [Value.cells] at hcs
    obtain ⟨rfl, rfl, rfl⟩ := hcs
    exact ⟨none, 0, [], rfl, Nat.le_refl _, ⟨by omega, fun _ => rfl⟩, by simp, fun i q h => by simp at h⟩
  · simp [Value.cells] at hcs
    obtain ⟨rfl, rfl, rfl⟩ := hcs
    simp only [if_true] at hmm
    subst hmm
    simp only [Prod.mk.injEq] at hx
    obtain ⟨rfl, _⟩ := hx
    have hbe : Program.bytesOf Try.prog 28 = 176 := by kernel_rfl
    have hce : Program.cellsOf Try.prog 28 = 22 := by kernel_rfl
    have hn := hsz ((((List.range len0).map D).length + ((List.range (m - len0)).map fun j => D (len0 + j)).length) * 176) (by simp only [DataW.weights, Try.underlying39, hbe]; exact List.mem_cons_self ..)
    simp only [List.length_map, List.length_range, reachBytes] at hn
    have each : ∀ i, i < len0 → ∃ q : Wt, (fun _ q => q.ok) W q ∧ ∀ j v, q.v[j]? = some v → W.cell? ((x.add (i * 22)).add j) = some v := by
      intro i hi
      obtain ⟨cs', h1, h2⟩ := hcell i (by omega)
      rw [hce] at h1
      obtain ⟨_, hlen, hc⟩ := World.cells?_some h1
      obtain ⟨q, e, hq⟩ := want_cells h2
      refine ⟨q, hq, fun j v hj => ?_⟩
      have hj' : j < 22 := by
        have := (Array.getElem?_eq_some_iff.1 hj).1
        simpa using this
      have h3 := hc j (by omega)
      rw [h3, e]
      have : q.v.toList[j]? = some v := by simpa using hj
      exact this
    obtain ⟨l, hl1, hl2⟩ := list_of len0 each
    refine ⟨some x, m, l, by rw [hl1], by omega, ⟨by omega, fun h => by cases h⟩, fun q hq => ?_, fun i q hq => ?_⟩
    · obtain ⟨i, hi⟩ := List.mem_iff_getElem?.1 hq
      exact (hl2 i q hi).1
    · obtain ⟨_, c0⟩ := hl2 i q hq
      obtain ⟨b, off, spot⟩ := x
      have hil : i < l.length := (List.getElem?_eq_some_iff.1 hq).1
      obtain ⟨q0, hq0⟩ : ∃ q0, l[0]? = some q0 := ⟨_, List.getElem?_eq_getElem (by omega)⟩
      have hspot : spot = none := by simpa [Addr.add] using World.cell?_spot ((hl2 0 q0 hq0).2 0 _ rfl)
      subst hspot
      refine ⟨b, off, rfl, ?_, fun j v hj => ?_⟩
      · have := c0 0 _ rfl
        rw [Go.WideShapes.add_plain, Go.WideShapes.add_plain] at this
        exact World.block_lt_of_cell? W _ this
      · have := c0 j v hj
        rw [Go.WideShapes.add_plain, Go.WideShapes.add_plain] at this
        exact this
set_option maxRecDepth 100000 in
set_option maxHeartbeats 1000000 in
theorem open_acts17 {H : Type} {enc : TypeId × Value → H} {W : World} {base : Nat} {v : Value} {d : DataW H} {p : List MemPlace}
    (hv : Value.okWide Try.prog W .any base 34 v) (h : DataW.Trod enc Try.prog W 0 (fun _ => true) true 34 v d p) (hsz : ∀ n ∈ d.weights Try.prog 34, n ≤ reachBytes) :
    ∃ (a : Option Addr) (cap : Nat) (l : List Ax), v = .slice a l.length cap ∧ l.length ≤ cap ∧ (cap * 200 ≤ 140737488351232 ∧ (a = none → cap = 0)) ∧ RowN 25 Ax.v (fun _ q => q.f.ok) W a l := by
  obtain ⟨a0, len0, cap0, rfl⟩ := okWide_slice Try.underlying34 hv
  obtain ⟨fuel, hf⟩ := h
  rcases Deep.open_slice Try.underlying34 hf with ⟨hcs, _⟩ | ⟨x, l, c, m, n, D, Pl, hcs, _, hl, hm, hmm, hx, hcell⟩
  · simp [Value.cells] at hcs
    obtain ⟨rfl, rfl, rfl⟩ := hcs
    exact ⟨none, 0, [], rfl, Nat.le_refl _, ⟨by omega, fun _ => rfl⟩, by simp, fun i q h => by simp at h⟩
  · simp [Value.cells] at hcs
    obtain ⟨rfl, rfl, rfl⟩ := hcs
    simp only [if_true] at hmm
    subst hmm
    simp only [Prod.mk.injEq] at hx
    obtain ⟨rfl, _⟩ := hx
    have hbe : Program.bytesOf Try.prog 45 = 200 := by kernel_rfl
    have hce : Program.cellsOf Try.prog 45 = 25 := by kernel_rfl
    have hn := hsz ((((List.range len0).map D).length + ((List.range (m - len0)).map fun j => D (len0 + j)).length) * 200) (by simp only [DataW.weights, Try.underlying34, hbe]; exact List.mem_cons_self ..)
    simp only [List.length_map, List.length_range, reachBytes] at hn
    have each : ∀ i, i < len0 → ∃ q : Ax, (fun _ q => q.f.ok) W q ∧ ∀ j v, q.v[j]? = some v → W.cell? ((x.add (i * 25)).add j) = some v := by
      intro i hi
      obtain ⟨cs', h1, h2⟩ := hcell i (by omega)
      rw [hce] at h1
      obtain ⟨_, hlen, hc⟩ := World.cells?_some h1
      obtain ⟨q, e, hq⟩ := act17_cells h2
      refine ⟨q, hq, fun j v hj => ?_⟩
      have hj' : j < 25 := by
        have := (Array.getElem?_eq_some_iff.1 hj).1
        simpa using this
      have h3 := hc j (by omega)
      rw [h3, e]
      have : q.v.toList[j]? = some v := by simpa using hj
      exact this
    obtain ⟨l, hl1, hl2⟩ := list_of len0 each
    refine ⟨some x, m, l, by rw [hl1], by omega, ⟨by omega, fun h => by cases h⟩, fun q hq => ?_, fun i q hq => ?_⟩
    · obtain ⟨i, hi⟩ := List.mem_iff_getElem?.1 hq
      exact (hl2 i q hi).1
    · obtain ⟨_, c0⟩ := hl2 i q hq
      obtain ⟨b, off, spot⟩ := x
      have hil : i < l.length := (List.getElem?_eq_some_iff.1 hq).1
      obtain ⟨q0, hq0⟩ : ∃ q0, l[0]? = some q0 := ⟨_, List.getElem?_eq_getElem (by omega)⟩
      have hspot : spot = none := by simpa [Addr.add] using World.cell?_spot ((hl2 0 q0 hq0).2 0 _ rfl)
      subst hspot
      refine ⟨b, off, rfl, ?_, fun j v hj => ?_⟩
      · have := c0 0 _ rfl
        rw [Go.WideShapes.add_plain, Go.WideShapes.add_plain] at this
        exact World.block_lt_of_cell? W _ this
      · have := c0 j v hj
        rw [Go.WideShapes.add_plain, Go.WideShapes.add_plain] at this
        exact this
end Go.Proofs.Ytmflogmocgbmhaa
