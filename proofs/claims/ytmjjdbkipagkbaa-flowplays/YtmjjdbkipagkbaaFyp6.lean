/- Texts joined: FwJ -/
import Derived.Test.YtmjjdbkipagkbaaFyp3
import Derived.Test.YtmjjdbkipagkbaaFyp5
namespace Go.Proofs.Ytmjjdbkipagkbaa
open Go.RowKit Go.ChangeShapes Go.WideShapes Go.ChangeAt
set_option linter.unusedVariables false
set_option linter.unusedSimpArgs false
set_option linter.constructorNameAsVariable false
/-- All numbers of a flow lie in their kinds. -/
structure Fl.kf (f : Fl) : Prop where
  w : f.w.kf
  ends : -9223372036854775808 ≤ f.ends ∧ f.ends ≤ 9223372036854775807
structure Ac where
  kd : Int
  nw : Int
  f : Fl
abbrev Ac.v (q : Ac) : Array Value := #[.int .i64 q.kd, .int .i64 q.nw, .int .i64 q.f.w.fam, .int .i64 q.f.w.pr, .int .i64 q.f.w.s.fam, .int .u64 q.f.w.s.hi, .int .u64 q.f.w.s.lo, .int .i64 q.f.w.d.fam, .int .u64 q.f.w.d.hi, .int .u64 q.f.w.d.lo, .int .i64 q.f.w.sp, .int .i64 q.f.w.dp, .int .i64 q.f.c.st, .int .u32 q.f.c.n0, .int .u32 q.f.c.n1, .int .u32 q.f.c.e0, .int .u32 q.f.c.e1, .bool q.f.c.k0, .bool q.f.c.k1, .bool q.f.c.d0, .bool q.f.c.d1, .int .i64 q.f.ends, .int .i64 q.f.help, .bool q.f.both]
structure Ac.ok (q : Ac) : Prop where
  kd : -9223372036854775808 ≤ q.kd ∧ q.kd ≤ 9223372036854775807
  nw : -9223372036854775808 ≤ q.nw ∧ q.nw ≤ 9223372036854775807
  f : q.f.kf
theorem ls_wayK {cs : List Value} (h : cs.length = 10) : ∃ v0 v1 v2 v3 v4 v5 v6 v7 v8 v9, cs = [v0, v1, v2, v3, v4, v5, v6, v7, v8, v9] := by
  match cs, h with
  | [v0, v1, v2, v3, v4, v5, v6, v7, v8, v9], _ => exact ⟨v0, v1, v2, v3, v4, v5, v6, v7, v8, v9, rfl⟩
theorem ly_wayK {α : Type} {cs : List α} (h : cs.length = 6) : ∃ y0 y1 y2 y3 y4 y5, cs = [y0, y1, y2, y3, y4, y5] := by
  match cs, h with
  | [y0, y1, y2, y3, y4, y5], _ => exact ⟨y0, y1, y2, y3, y4, y5, rfl⟩
set_option maxRecDepth 100000 in
set_option maxHeartbeats 4000000 in
theorem wayK_cells {H : Type} {enc : TypeId × Value → H} {W : World} {fuel : Nat} {cs : List Value} {y : DataW H × List MemPlace} (hf0 : DataW.trod enc Try.prog W 0 (fun _ => true) true fuel 26 cs = some y) :
    ∃ q : Wy, cs = q.v.toList ∧ q.kf := by
  have cc : Try.prog.cellsOf 26 = 10 := by kernel_rfl
  have c_0 : Try.prog.cellsOf 3 = 1 := by kernel_rfl
  have c_1 : Try.prog.cellsOf 24 = 3 := by kernel_rfl
  obtain ⟨xs, n, _, hx, hl, hlen, hf⟩ := DataW.trod_struct Try.underlying26 hf0
  obtain ⟨v0, v1, v2, v3, v4, v5, v6, v7, v8, v9, rfl⟩ := ls_wayK (hl.trans cc)
  obtain ⟨y0, y1, y2, y3, y4, y5, rfl⟩ := ly_wayK hlen
  have h0 : DataW.trod enc Try.prog W 0 (fun _ => true) true n 3 ((([v0, v1, v2, v3, v4, v5, v6, v7, v8, v9] : List Value).drop 0).take (Try.prog.cellsOf 3)) = some y0 := hf 0 _ rfl
  have h1 : DataW.trod enc Try.prog W 0 (fun _ => true) true n 3 ((([v0, v1, v2, v3, v4, v5, v6, v7, v8, v9] : List Value).drop 1).take (Try.prog.cellsOf 3)) = some y1 := hf 1 _ rfl
  have h2 : DataW.trod enc Try.prog W 0 (fun _ => true) true n 24 ((([v0, v1, v2, v3, v4, v5, v6, v7, v8, v9] : List Value).drop 2).take (Try.prog.cellsOf 24)) = some y2 := hf 2 _ rfl
  have h3 : DataW.trod enc Try.prog W 0 (fun _ => true) true n 24 ((([v0, v1, v2, v3, v4, v5, v6, v7, v8, v9] : List Value).drop 5).take (Try.prog.cellsOf 24)) = some y3 := hf 3 _ rfl
  have h4 : DataW.trod enc Try.prog W 0 (fun _ => true) true n 3 ((([v0, v1, v2, v3, v4, v5, v6, v7, v8, v9] : List Value).drop 8).take (Try.prog.cellsOf 3)) = some y4 := hf 4 _ rfl
  have h5 : DataW.trod enc Try.prog W 0 (fun _ => true) true n 3 ((([v0, v1, v2, v3, v4, v5, v6, v7, v8, v9] : List Value).drop 9).take (Try.prog.cellsOf 3)) = some y5 := hf 5 _ rfl
  simp only [c_0, c_1, List.drop_zero, List.drop_succ_cons, List.take_succ_cons, List.take_zero] at h0 h1 h2 h3 h4 h5
  obtain ⟨a0, e0, _, w0⟩ := DataW.trod_int Try.underlying3 h0
  obtain rfl := one_tc e0
  obtain ⟨a1, e1, _, w1⟩ := DataW.trod_int Try.underlying3 h1
  obtain rfl := one_tc e1
  obtain ⟨f2, g2, l2, e2, k2⟩ := addr_cells h2
  simp only [List.cons.injEq, and_true] at e2
  obtain ⟨rfl, rfl, rfl⟩ := e2
  obtain ⟨f3, g3, l3, e3, k3⟩ := addr_cells h3
  simp only [List.cons.injEq, and_true] at e3
  obtain ⟨rfl, rfl, rfl⟩ := e3
  obtain ⟨a4, e4, _, w4⟩ := DataW.trod_int Try.underlying3 h4
  obtain rfl := one_tc e4
  obtain ⟨a5, e5, _, w5⟩ := DataW.trod_int Try.underlying3 h5
  obtain rfl := one_tc e5
  exact ⟨⟨a0, a1, ⟨f2, g2, l2⟩, ⟨f3, g3, l3⟩, a4, a5⟩, rfl, ⟨⟨k2, k3⟩, i64_tc w0, i64_tc w1, i64_tc w4, i64_tc w5⟩⟩
theorem ls_flow {cs : List Value} (h : cs.length = 22) : ∃ v0 v1 v2 v3 v4 v5 v6 v7 v8 v9 v10 v11 v12 v13 v14 v15 v16 v17 v18 v19 v20 v21, cs = [v0, v1, v2, v3, v4, v5, v6, v7, v8, v9, v10, v11, v12, v13, v14, v15, v16, v17, v18, v19, v20, v21] := by
  match cs, h with
  | [v0, v1, v2, v3, v4, v5, v6, v7, v8, v9, v10, v11, v12, v13, v14, v15, v16, v17, v18, v19, v20, v21], _ => exact ⟨v0, v1, v2, v3, v4, v5, v6, v7, v8, v9, v10, v11, v12, v13, v14, v15, v16, v17, v18, v19, v20, v21, rfl⟩
theorem ly_flow {α : Type} {cs : List α} (h : cs.length = 5) : ∃ y0 y1 y2 y3 y4, cs = [y0, y1, y2, y3, y4] := by
  match cs, h with
  | [y0, y1, y2, y3, y4], _ => exact ⟨y0, y1, y2, y3, y4, rfl⟩
set_option maxRecDepth 100000 in
set_option maxHeartbeats 4000000 in
theorem flow_cells {H : Type} {enc : TypeId × Value → H} {W : World} {fuel : Nat} {cs : List Value} {y : DataW H × List MemPlace} (hf0 : DataW.trod enc Try.prog W 0 (fun _ => true) true fuel 33 cs = some y) :
    ∃ q : Fl, cs = q.v.toList ∧ q.kf := by
  have cc : Try.prog.cellsOf 33 = 22 := by kernel_rfl
  have c_0 : Try.prog.cellsOf 26 = 10 := by kernel_rfl
  have c_1 : Try.prog.cellsOf 31 = 9 := by kernel_rfl
  have c_2 : Try.prog.cellsOf 3 = 1 := by kernel_rfl
  have c_3 : Try.prog.cellsOf 4 = 1 := by kernel_rfl
  obtain ⟨xs, n, _, hx, hl, hlen, hf⟩ := DataW.trod_struct Try.underlying33 hf0
  obtain ⟨v0, v1, v2, v3, v4, v5, v6, v7, v8, v9, v10, v11, v12, v13, v14, v15, v16, v17, v18, v19, v20, v21, rfl⟩ := ls_flow (hl.trans cc)
  obtain ⟨y0, y1, y2, y3, y4, rfl⟩ := ly_flow hlen
  have h0 : DataW.trod enc Try.prog W 0 (fun _ => true) true n 26 ((([v0, v1, v2, v3, v4, v5, v6, v7, v8, v9, v10, v11, v12, v13, v14, v15, v16, v17, v18, v19, v20, v21] : List Value).drop 0).take (Try.prog.cellsOf 26)) = some y0 := hf 0 _ rfl
  have h1 : DataW.trod enc Try.prog W 0 (fun _ => true) true n 31 ((([v0, v1, v2, v3, v4, v5, v6, v7, v8, v9, v10, v11, v12, v13, v14, v15, v16, v17, v18, v19, v20, v21] : List Value).drop 10).take (Try.prog.cellsOf 31)) = some y1 := hf 1 _ rfl
  have h2 : DataW.trod enc Try.prog W 0 (fun _ => true) true n 3 ((([v0, v1, v2, v3, v4, v5, v6, v7, v8, v9, v10, v11, v12, v13, v14, v15, v16, v17, v18, v19, v20, v21] : List Value).drop 19).take (Try.prog.cellsOf 3)) = some y2 := hf 2 _ rfl
  have h3 : DataW.trod enc Try.prog W 0 (fun _ => true) true n 3 ((([v0, v1, v2, v3, v4, v5, v6, v7, v8, v9, v10, v11, v12, v13, v14, v15, v16, v17, v18, v19, v20, v21] : List Value).drop 20).take (Try.prog.cellsOf 3)) = some y3 := hf 3 _ rfl
  have h4 : DataW.trod enc Try.prog W 0 (fun _ => true) true n 4 ((([v0, v1, v2, v3, v4, v5, v6, v7, v8, v9, v10, v11, v12, v13, v14, v15, v16, v17, v18, v19, v20, v21] : List Value).drop 21).take (Try.prog.cellsOf 4)) = some y4 := hf 4 _ rfl
  simp only [c_0, c_1, c_2, c_3, List.drop_zero, List.drop_succ_cons, List.take_succ_cons, List.take_zero] at h0 h1 h2 h3 h4
  obtain ⟨q0, e0, k0⟩ := wayK_cells h0
  simp only [List.cons.injEq, and_true] at e0
  obtain ⟨rfl, rfl, rfl, rfl, rfl, rfl, rfl, rfl, rfl, rfl⟩ := e0
  obtain ⟨q1, e1, k1⟩ := conn_cells h1
  simp only [List.cons.injEq, and_true] at e1
  obtain ⟨rfl, rfl, rfl, rfl, rfl, rfl, rfl, rfl, rfl⟩ := e1
  obtain ⟨a2, e2, _, w2⟩ := DataW.trod_int Try.underlying3 h2
  obtain rfl := one_tc e2
  obtain ⟨a3, e3, _, w3⟩ := DataW.trod_int Try.underlying3 h3
  obtain rfl := one_tc e3
  obtain ⟨a4, e4, _⟩ := DataW.trod_bool Try.underlying4 h4
  obtain rfl := one_tc e4
  exact ⟨⟨q0, q1, a2, a3, a4⟩, rfl, ⟨k0, i64_tc w2⟩⟩
theorem ls_act16 {cs : List Value} (h : cs.length = 24) : ∃ v0 v1 v2 v3 v4 v5 v6 v7 v8 v9 v10 v11 v12 v13 v14 v15 v16 v17 v18 v19 v20 v21 v22 v23, cs = [v0, v1, v2, v3, v4, v5, v6, v7, v8, v9, v10, v11, v12, v13, v14, v15, v16, v17, v18, v19, v20, v21, v22, v23] := by
  match cs, h with
  | [v0, v1, v2, v3, v4, v5, v6, v7, v8, v9, v10, v11, v12, v13, v14, v15, v16, v17, v18, v19, v20, v21, v22, v23], _ => exact ⟨v0, v1, v2, v3, v4, v5, v6, v7, v8, v9, v10, v11, v12, v13, v14, v15, v16, v17, v18, v19, v20, v21, v22, v23, rfl⟩
theorem ly_act16 {α : Type} {cs : List α} (h : cs.length = 3) : ∃ y0 y1 y2, cs = [y0, y1, y2] := by
  match cs, h with
  | [y0, y1, y2], _ => exact ⟨y0, y1, y2, rfl⟩
set_option maxRecDepth 100000 in
set_option maxHeartbeats 4000000 in
theorem act16_cells {H : Type} {enc : TypeId × Value → H} {W : World} {fuel : Nat} {cs : List Value} {y : DataW H × List MemPlace} (hf0 : DataW.trod enc Try.prog W 0 (fun _ => true) true fuel 59 cs = some y) :
    ∃ q : Ac, cs = q.v.toList ∧ q.ok := by
  have cc : Try.prog.cellsOf 59 = 24 := by kernel_rfl
  have c_0 : Try.prog.cellsOf 3 = 1 := by kernel_rfl
  have c_1 : Try.prog.cellsOf 33 = 22 := by kernel_rfl
  obtain ⟨xs, n, _, hx, hl, hlen, hf⟩ := DataW.trod_struct Try.underlying59 hf0
  obtain ⟨v0, v1, v2, v3, v4, v5, v6, v7, v8, v9, v10, v11, v12, v13, v14, v15, v16, v17, v18, v19, v20, v21, v22, v23, rfl⟩ := ls_act16 (hl.trans cc)
  obtain ⟨y0, y1, y2, rfl⟩ := ly_act16 hlen
  have h0 : DataW.trod enc Try.prog W 0 (fun _ => true) true n 3 ((([v0, v1, v2, v3, v4, v5, v6, v7, v8, v9, v10, v11, v12, v13, v14, v15, v16, v17, v18, v19, v20, v21, v22, v23] : List Value).drop 0).take (Try.prog.cellsOf 3)) = some y0 := hf 0 _ rfl
  have h1 : DataW.trod enc Try.prog W 0 (fun _ => true) true n 3 ((([v0, v1, v2, v3, v4, v5, v6, v7, v8, v9, v10, v11, v12, v13, v14, v15, v16, v17, v18, v19, v20, v21, v22, v23] : List Value).drop 1).take (Try.prog.cellsOf 3)) = some y1 := hf 1 _ rfl
  have h2 : DataW.trod enc Try.prog W 0 (fun _ => true) true n 33 ((([v0, v1, v2, v3, v4, v5, v6, v7, v8, v9, v10, v11, v12, v13, v14, v15, v16, v17, v18, v19, v20, v21, v22, v23] : List Value).drop 2).take (Try.prog.cellsOf 33)) = some y2 := hf 2 _ rfl
  simp only [c_0, c_1, List.drop_zero, List.drop_succ_cons, List.take_succ_cons, List.take_zero] at h0 h1 h2
  obtain ⟨a0, e0, _, w0⟩ := DataW.trod_int Try.underlying3 h0
  obtain rfl := one_tc e0
  obtain ⟨a1, e1, _, w1⟩ := DataW.trod_int Try.underlying3 h1
  obtain rfl := one_tc e1
  obtain ⟨q2, e2, k2⟩ := flow_cells h2
  simp only [List.cons.injEq, and_true] at e2
  obtain ⟨rfl, rfl, rfl, rfl, rfl, rfl, rfl, rfl, rfl, rfl, rfl, rfl, rfl, rfl, rfl, rfl, rfl, rfl, rfl, rfl, rfl, rfl⟩ := e2
  exact ⟨⟨a0, a1, q2⟩, rfl, ⟨i64_tc w0, i64_tc w1, k2⟩⟩
set_option maxRecDepth 100000 in
set_option maxHeartbeats 1000000 in
theorem open_acts16 {H : Type} {enc : TypeId × Value → H} {W : World} {base : Nat} {v : Value} {d : DataW H} {p : List MemPlace}
    (hv : Value.okWide Try.prog W .any base 49 v) (h : DataW.Trod enc Try.prog W 0 (fun _ => true) true 49 v d p) (hsz : ∀ n ∈ d.weights Try.prog 49, n ≤ reachBytes) :
    ∃ (a : Option Addr) (cap : Nat) (l : List Ac), v = .slice a l.length cap ∧ l.length ≤ cap ∧ (cap * 152 ≤ 140737488351232 ∧ (a = none → cap = 0)) ∧ RowN 24 Ac.v (fun _ q => q.ok) W a l := by
  obtain ⟨a0, len0, cap0, rfl⟩ := okWide_slice Try.underlying49 hv
  obtain ⟨fuel, hf⟩ := h
  rcases Deep.open_slice Try.underlying49 hf with ⟨hcs, _⟩ | ⟨x, l, c, m, n, D, Pl, hcs, _, hl, hm, hmm, hx, hcell⟩
  · simp [Value.cells] at hcs
    obtain ⟨rfl, rfl, rfl⟩ := hcs
    exact ⟨none, 0, [], rfl, Nat.le_refl _, ⟨by omega, fun _ => rfl⟩, by simp, fun i q h => by simp at h⟩
  · simp [Value.cells] at hcs
    obtain ⟨rfl, rfl, rfl⟩ := hcs
    simp only [if_true] at hmm
    subst hmm
    simp only [Prod.mk.injEq] at hx
    obtain ⟨rfl, _⟩ := hx
    have hbe : Program.bytesOf Try.prog 59 = 152 := by kernel_rfl
    have hce : Program.cellsOf Try.prog 59 = 24 := by kernel_rfl
    have hn := hsz ((((List.range len0).map D).length + ((List.range (m - len0)).map fun j => D (len0 + j)).length) * 152) (by simp only [DataW.weights, Try.underlying49, hbe]; exact List.mem_cons_self ..)
    simp only [List.length_map, List.length_range, reachBytes] at hn
    have each : ∀ i, i < len0 → ∃ q : Ac, (fun _ q => q.ok) W q ∧ ∀ j v, q.v[j]? = some v → W.cell? ((x.add (i * 24)).add j) = some v := by
      intro i hi
      obtain ⟨cs', h1, h2⟩ := hcell i (by omega)
      rw [hce] at h1
      obtain ⟨_, hlen, hc⟩ := World.cells?_some h1
      obtain ⟨q, e, hq⟩ := act16_cells h2
      refine ⟨q, hq, fun j v hj => ?_⟩
      have hj' : j < 24 := by
        have := (Array.getElem?_eq_some_iff.1 hj).1
        simpa using this
      have h3 := hc j (by omega)
      rw [h3, e]
      have : q.v.toList[j]? = some v := by simpa using hj
      exact this
    obtain ⟨l, hl1, hl2⟩ := list_of len0 each
    refine ⟨some x, m, l, by rw [hl1], by omega, ⟨by omega, fun h => by cases h⟩, fun q hq => ?_, fun i q hq => ?_⟩
    · obtain ⟨i, hi⟩ := List.mem_iff_getElem?.1 hq
      exact (hl2 i q hi).1
    · obtain ⟨_, c0⟩ := hl2 i q hq
      obtain ⟨b, off, spot⟩ := x
      have hil : i < l.length := (List.getElem?_eq_some_iff.1 hq).1
      obtain ⟨q0, hq0⟩ : ∃ q0, l[0]? = some q0 := ⟨_, List.getElem?_eq_getElem (by omega)⟩
      have hspot : spot = none := by simpa [Addr.add] using World.cell?_spot ((hl2 0 q0 hq0).2 0 _ rfl)
      subst hspot
      refine ⟨b, off, rfl, ?_, fun j v hj => ?_⟩
      · have := c0 0 _ rfl
        rw [Go.WideShapes.add_plain, Go.WideShapes.add_plain] at this
        exact World.block_lt_of_cell? W _ this
      · have := c0 j v hj
        rw [Go.WideShapes.add_plain, Go.WideShapes.add_plain] at this
        exact this
end Go.Proofs.Ytmjjdbkipagkbaa
