/- Texts joined: TcN -/
import Derived.Test.YtmmnjjcopdabcaaTcx10
import Derived.Test.YtmmnjjcopdabcaaTcx13
import Derived.ProofKit
import Derived.OpenShut
import Derived.Deep.DeepHandedRow
import Derived.Deep.Slices
import Derived.Deep.Strs
import Derived.ChangeSlices
import Derived.ChangeSame
namespace Go.Proofs.Ytmmnjjcopdabcaa
open Go.RowKit Go.ChangeShapes Go.WideShapes Go.ChangeAt
set_option linter.unusedVariables false
set_option linter.unusedSimpArgs false
set_option linter.constructorNameAsVariable false
theorem one_tc {x y : Value} (h : [x] = [y]) : x = y := (List.cons.inj h).1
theorem three_tc {cs : List Value} (h : cs.length = 3) : ∃ a b c, cs = [a, b, c] := by
 match cs, h with
 | [a, b, c], _ => exact ⟨a, b, c, rfl⟩
theorem five_tc {cs : List Value} (h : cs.length = 5) : ∃ a b c d e, cs = [a, b, c, d, e] := by
 match cs, h with
 | [a, b, c, d, e], _ => exact ⟨a, b, c, d, e, rfl⟩
theorem six_tc {cs : List Value} (h : cs.length = 6) : ∃ a b c d e f, cs = [a, b, c, d, e, f] := by
 match cs, h with
 | [a, b, c, d, e, f], _ => exact ⟨a, b, c, d, e, f, rfl⟩
theorem nine_tc {cs : List Value} (h : cs.length = 9) : ∃ a b c d e f g i j, cs = [a, b, c, d, e, f, g, i, j] := by
 match cs, h with
 | [a, b, c, d, e, f, g, i, j], _ => exact ⟨a, b, c, d, e, f, g, i, j, rfl⟩
theorem u32_tc {x : Int} (w : (Lit.int .u32 x).wf = true) : 0 ≤ x ∧ x < 4294967296 := by
 simp [Lit.wf, IntKind.min, IntKind.max, IntKind.signed, IntKind.bits] at w; omega
theorem u16_tc {x : Int} (w : (Lit.int .u16 x).wf = true) : 0 ≤ x ∧ x < 65536 := by
 simp [Lit.wf, IntKind.min, IntKind.max, IntKind.signed, IntKind.bits] at w; omega
theorem i64_tc {x : Int} (w : (Lit.int .i64 x).wf = true) : -9223372036854775808 ≤ x ∧ x ≤ 9223372036854775807 := by
 simp [Lit.wf, IntKind.min, IntKind.max, IntKind.signed, IntKind.bits] at w; omega
theorem pairU_tc {H : Type} {enc : TypeId × Value → H} {W : World} {n : Nat} {x y : Value} {d : DataW H × List MemPlace}
  (h : DataW.trod enc Try.prog W 0 (fun _ => true) true n 25 [x, y] = some d) : ∃ a b, x = .int .u32 a ∧ y = .int .u32 b ∧ (0 ≤ a ∧ a < 4294967296) ∧ (0 ≤ b ∧ b < 4294967296) := by
 have cI : Try.prog.cellsOf 22 = 1 := by kernel_rfl
 obtain ⟨xs, m, _, hx, _, hlen, hf⟩ := DataW.trod_array Try.underlying25 h
 obtain ⟨y0, y1, rfl⟩ : ∃ y0 y1, xs = [y0, y1] := by
  match xs, hlen with
  | [y0, y1], _ => exact ⟨y0, y1, rfl⟩
 have h0 : DataW.trod enc Try.prog W 0 (fun _ => true) true m 22 (([x, y].drop (0 * Try.prog.cellsOf 22)).take (Try.prog.cellsOf 22)) = some y0 := hf 0 (by decide)
 have h1 : DataW.trod enc Try.prog W 0 (fun _ => true) true m 22 (([x, y].drop (1 * Try.prog.cellsOf 22)).take (Try.prog.cellsOf 22)) = some y1 := hf 1 (by decide)
 rw [cI] at h0 h1
 obtain ⟨a, e0, _, w0⟩ := DataW.trod_int Try.underlying22 (show DataW.trod enc Try.prog W 0 (fun _ => true) true m 22 [x] = some y0 from h0)
 obtain ⟨b, e1, _, w1⟩ := DataW.trod_int Try.underlying22 (show DataW.trod enc Try.prog W 0 (fun _ => true) true m 22 [y] = some y1 from h1)
 exact ⟨a, b, one_tc e0, one_tc e1, u32_tc w0, u32_tc w1⟩
theorem pairB_tc {H : Type} {enc : TypeId × Value → H} {W : World} {n : Nat} {x y : Value} {d : DataW H × List MemPlace}
  (h : DataW.trod enc Try.prog W 0 (fun _ => true) true n 26 [x, y] = some d) : ∃ a b, x = .bool a ∧ y = .bool b := by
 have cI : Try.prog.cellsOf 4 = 1 := by kernel_rfl
 obtain ⟨xs, m, _, hx, _, hlen, hf⟩ := DataW.trod_array Try.underlying26 h
 obtain ⟨y0, y1, rfl⟩ : ∃ y0 y1, xs = [y0, y1] := by
  match xs, hlen with
  | [y0, y1], _ => exact ⟨y0, y1, rfl⟩
 have h0 : DataW.trod enc Try.prog W 0 (fun _ => true) true m 4 (([x, y].drop (0 * Try.prog.cellsOf 4)).take (Try.prog.cellsOf 4)) = some y0 := hf 0 (by decide)
 have h1 : DataW.trod enc Try.prog W 0 (fun _ => true) true m 4 (([x, y].drop (1 * Try.prog.cellsOf 4)).take (Try.prog.cellsOf 4)) = some y1 := hf 1 (by decide)
 rw [cI] at h0 h1
 obtain ⟨a, e0, _⟩ := DataW.trod_bool Try.underlying4 (show DataW.trod enc Try.prog W 0 (fun _ => true) true m 4 [x] = some y0 from h0)
 obtain ⟨b, e1, _⟩ := DataW.trod_bool Try.underlying4 (show DataW.trod enc Try.prog W 0 (fun _ => true) true m 4 [y] = some y1 from h1)
 exact ⟨a, b, one_tc e0, one_tc e1⟩
set_option maxRecDepth 100000 in
theorem conn_cells {H : Type} {enc : TypeId × Value → H} {W : World} {fuel : Nat} {cs : List Value} {y : DataW H × List MemPlace} (hf0 : DataW.trod enc Try.prog W 0 (fun _ => true) true fuel 28 cs = some y) :
  ∃ q : Cn, cs = q.v.toList ∧ q.in32 := by
 have cc : Try.prog.cellsOf 28 = 9 := by kernel_rfl
 have cI : Try.prog.cellsOf 3 = 1 := by kernel_rfl
 have cU : Try.prog.cellsOf 25 = 2 := by kernel_rfl
 have cB : Try.prog.cellsOf 26 = 2 := by kernel_rfl
 obtain ⟨xs, n, _, hx, hl, hlen, hf⟩ := DataW.trod_struct Try.underlying28 hf0
 obtain ⟨v0, v1, v2, v3, v4, v5, v6, v7, v8, rfl⟩ := nine_tc (hl.trans cc)
 obtain ⟨y0, y1, y2, y3, y4, rfl⟩ : ∃ y0 y1 y2 y3 y4, xs = [y0, y1, y2, y3, y4] := by
  match xs, hlen with
  | [y0, y1, y2, y3, y4], _ => exact ⟨y0, y1, y2, y3, y4, rfl⟩
 have h0 : DataW.trod enc Try.prog W 0 (fun _ => true) true n 3 ((([v0, v1, v2, v3, v4, v5, v6, v7, v8] : List Value).drop 0).take (Try.prog.cellsOf 3)) = some y0 := hf 0 _ rfl
 have h1 : DataW.trod enc Try.prog W 0 (fun _ => true) true n 25 ((([v0, v1, v2, v3, v4, v5, v6, v7, v8] : List Value).drop 1).take (Try.prog.cellsOf 25)) = some y1 := hf 1 _ rfl
 have h2 : DataW.trod enc Try.prog W 0 (fun _ => true) true n 25 ((([v0, v1, v2, v3, v4, v5, v6, v7, v8] : List Value).drop 3).take (Try.prog.cellsOf 25)) = some y2 := hf 2 _ rfl
 have h3 : DataW.trod enc Try.prog W 0 (fun _ => true) true n 26 ((([v0, v1, v2, v3, v4, v5, v6, v7, v8] : List Value).drop 5).take (Try.prog.cellsOf 26)) = some y3 := hf 3 _ rfl
 have h4 : DataW.trod enc Try.prog W 0 (fun _ => true) true n 26 ((([v0, v1, v2, v3, v4, v5, v6, v7, v8] : List Value).drop 7).take (Try.prog.cellsOf 26)) = some y4 := hf 4 _ rfl
 simp only [cI, cU, cB, List.drop_zero, List.drop_succ_cons, List.take_succ_cons, List.take_zero] at h0 h1 h2 h3 h4
 obtain ⟨st, e0, _, _⟩ := DataW.trod_int Try.underlying3 h0
 obtain rfl := one_tc e0
 obtain ⟨a, b, rfl, rfl, r1, r2⟩ := pairU_tc h1
 obtain ⟨c, d, rfl, rfl, r3, r4⟩ := pairU_tc h2
 obtain ⟨p, q, rfl, rfl⟩ := pairB_tc h3
 obtain ⟨s, t, rfl, rfl⟩ := pairB_tc h4
 exact ⟨⟨st, a, b, c, d, p, q, s, t⟩, rfl, r1, r2, r3, r4⟩
set_option maxRecDepth 100000 in
theorem open_cn {H : Type} {enc : TypeId × Value → H} {W : World} {base : Nat} {v : Value} {d : DataW H} {p : List MemPlace}
  (hv : Value.okWide Try.prog W .any base 28 v) (h : DataW.Trod enc Try.prog W 0 (fun _ => true) true 28 v d p) :
  ∃ q : Cn, v = .agg q.v ∧ q.in32 := by
 obtain ⟨cs, rfl, _⟩ := okWide_struct Try.underlying28 hv
 obtain ⟨fuel, hf⟩ := h
 obtain ⟨q, e, ok⟩ := conn_cells hf
 refine ⟨q, ?_, ok⟩
 simp only [Value.cells] at e
 congr 1
 exact Array.ext' e
theorem Gt.in32_of {fl win sz sq ak : Int} (w3 : (Lit.int .u32 sq).wf = true) (w4 : (Lit.int .u32 ak).wf = true) : Gt.in32 ⟨fl, win, sz, sq, ak⟩ := ⟨u32_tc w3, u32_tc w4⟩
set_option maxRecDepth 100000 in
theorem segm_cells {H : Type} {enc : TypeId × Value → H} {W : World} {fuel : Nat} {cs : List Value} {y : DataW H × List MemPlace} (hf0 : DataW.trod enc Try.prog W 0 (fun _ => true) true fuel 24 cs = some y) :
  ∃ q : Gt, cs = q.v.toList ∧ q.in32 := by
 have cc : Try.prog.cellsOf 24 = 5 := by kernel_rfl
 have cI : Try.prog.cellsOf 3 = 1 := by kernel_rfl
 have cU : Try.prog.cellsOf 22 = 1 := by kernel_rfl
 obtain ⟨xs, n, _, hx, hl, hlen, hf⟩ := DataW.trod_struct Try.underlying24 hf0
 obtain ⟨v0, v1, v2, v3, v4, rfl⟩ := five_tc (hl.trans cc)
 obtain ⟨y0, y1, y2, y3, y4, rfl⟩ : ∃ y0 y1 y2 y3 y4, xs = [y0, y1, y2, y3, y4] := by
  match xs, hlen with
  | [y0, y1, y2, y3, y4], _ => exact ⟨y0, y1, y2, y3, y4, rfl⟩
 have h0 : DataW.trod enc Try.prog W 0 (fun _ => true) true n 3 ((([v0, v1, v2, v3, v4] : List Value).drop 0).take (Try.prog.cellsOf 3)) = some y0 := hf 0 _ rfl
 have h1 : DataW.trod enc Try.prog W 0 (fun _ => true) true n 3 ((([v0, v1, v2, v3, v4] : List Value).drop 1).take (Try.prog.cellsOf 3)) = some y1 := hf 1 _ rfl
 have h2 : DataW.trod enc Try.prog W 0 (fun _ => true) true n 3 ((([v0, v1, v2, v3, v4] : List Value).drop 2).take (Try.prog.cellsOf 3)) = some y2 := hf 2 _ rfl
 have h3 : DataW.trod enc Try.prog W 0 (fun _ => true) true n 22 ((([v0, v1, v2, v3, v4] : List Value).drop 3).take (Try.prog.cellsOf 22)) = some y3 := hf 3 _ rfl
 have h4 : DataW.trod enc Try.prog W 0 (fun _ => true) true n 22 ((([v0, v1, v2, v3, v4] : List Value).drop 4).take (Try.prog.cellsOf 22)) = some y4 := hf 4 _ rfl
 simp only [cI, cU, List.drop_zero, List.drop_succ_cons, List.take_succ_cons, List.take_zero] at h0 h1 h2 h3 h4
 obtain ⟨a, e0, _, _⟩ := DataW.trod_int Try.underlying3 h0
 obtain ⟨b, e1, _, _⟩ := DataW.trod_int Try.underlying3 h1
 obtain ⟨c, e2, _, _⟩ := DataW.trod_int Try.underlying3 h2
 obtain ⟨d, e3, _, w3⟩ := DataW.trod_int Try.underlying22 h3
 obtain ⟨e, e4, _, w4⟩ := DataW.trod_int Try.underlying22 h4
 obtain rfl := one_tc e0
 obtain rfl := one_tc e1
 obtain rfl := one_tc e2
 obtain rfl := one_tc e3
 obtain rfl := one_tc e4
 exact ⟨⟨a, b, c, d, e⟩, rfl, Gt.in32_of w3 w4⟩
set_option maxRecDepth 100000 in
theorem open_gt {H : Type} {enc : TypeId × Value → H} {W : World} {base : Nat} {v : Value} {d : DataW H} {p : List MemPlace}
  (hv : Value.okWide Try.prog W .any base 24 v) (h : DataW.Trod enc Try.prog W 0 (fun _ => true) true 24 v d p) :
  ∃ q : Gt, v = .agg q.v ∧ q.in32 := by
 obtain ⟨cs, rfl, _⟩ := okWide_struct Try.underlying24 hv
 obtain ⟨fuel, hf⟩ := h
 obtain ⟨q, e, ok⟩ := segm_cells hf
 refine ⟨q, ?_, ok⟩
 simp only [Value.cells] at e
 congr 1
 exact Array.ext' e
/-- A segment of a side. -/
structure Tlk where
 i : Int
 g : Gt
abbrev Tlk.v (q : Tlk) : Array Value := #[.int .i64 q.i, .int .i64 q.g.fl, .int .i64 q.g.win, .int .i64 q.g.sz, .int .u32 q.g.sq, .int .u32 q.g.ak]
structure Tlk.ok (w : World) (q : Tlk) : Prop where
 i : -9223372036854775808 ≤ q.i ∧ q.i ≤ 9223372036854775807
 g : q.g.in32
theorem Tlk.ok.below {w w' : World} {q : Tlk} (h : q.ok w) (_ : Below w.heap.size w w') : q.ok w' := ⟨h.i, h.g⟩
abbrev RowT (w : World) (a : Option Addr) (l : List Tlk) : Prop := RowN 6 Tlk.v Tlk.ok w a l
theorem RowT.low {w w' : World} {a : Option Addr} {l : List Tlk} (h : RowT w a l) (hb : Below w.heap.size w w') : RowT w' a l := RowN.below (ok := Tlk.ok) (fun {w w'} {q} h b => Tlk.ok.below h b) h hb
theorem info_tlk (r : Tlk) : (Try.prog.info? 45).map (·.size) = some r.v.size := by kernel_rfl
set_option maxRecDepth 100000 in
theorem talk_cells {H : Type} {enc : TypeId × Value → H} {W : World} {fuel : Nat} {cs : List Value} {y : DataW H × List MemPlace} (hf0 : DataW.trod enc Try.prog W 0 (fun _ => true) true fuel 45 cs = some y) :
  ∃ q : Tlk, cs = q.v.toList ∧ q.ok W := by
 have cc : Try.prog.cellsOf 45 = 6 := by kernel_rfl
 have cI : Try.prog.cellsOf 3 = 1 := by kernel_rfl
 have cG : Try.prog.cellsOf 24 = 5 := by kernel_rfl
 obtain ⟨xs, n, _, hx, hl, hlen, hf⟩ := DataW.trod_struct Try.underlying45 hf0
 obtain ⟨v0, v1, v2, v3, v4, v5, rfl⟩ := six_tc (hl.trans cc)
 obtain ⟨y0, y1, rfl⟩ : ∃ y0 y1, xs = [y0, y1] := by
  match xs, hlen with
  | [y0, y1], _ => exact ⟨y0, y1, rfl⟩
 have h0 : DataW.trod enc Try.prog W 0 (fun _ => true) true n 3 ((([v0, v1, v2, v3, v4, v5] : List Value).drop 0).take (Try.prog.cellsOf 3)) = some y0 := hf 0 _ rfl
 have h1 : DataW.trod enc Try.prog W 0 (fun _ => true) true n 24 ((([v0, v1, v2, v3, v4, v5] : List Value).drop 1).take (Try.prog.cellsOf 24)) = some y1 := hf 1 _ rfl
 simp only [cI, cG, List.drop_zero, List.drop_succ_cons, List.take_succ_cons, List.take_zero] at h0 h1
 obtain ⟨a, e0, _, w0⟩ := DataW.trod_int Try.underlying3 h0
 obtain rfl := one_tc e0
 obtain ⟨q, e, ok⟩ := segm_cells h1
 simp only [List.cons.injEq, and_true] at e
 obtain ⟨rfl, rfl, rfl, rfl, rfl⟩ := e
 exact ⟨⟨a, q⟩, rfl, i64_tc w0, ok⟩
set_option maxRecDepth 100000 in
theorem open_talks {H : Type} {enc : TypeId × Value → H} {W : World} {base : Nat} {v : Value} {d : DataW H} {p : List MemPlace}
  (hv : Value.okWide Try.prog W .any base 43 v) (h : DataW.Trod enc Try.prog W 0 (fun _ => true) true 43 v d p) (hsz : ∀ n ∈ d.weights Try.prog 43, n ≤ reachBytes) :
  ∃ (a : Option Addr) (cap : Nat) (l : List Tlk), v = .slice a l.length cap ∧ l.length ≤ cap ∧ (cap * 40 ≤ 140737488351232 ∧ (a = none → cap = 0)) ∧ RowT W a l := by
 obtain ⟨a0, len0, cap0, rfl⟩ := okWide_slice Try.underlying43 hv
 obtain ⟨fuel, hf⟩ := h
 rcases Deep.open_slice Try.underlying43 hf with ⟨hcs, _⟩ | ⟨x, l, c, m, n, D, Pl, hcs, _, hl, hm, hmm, hx, hcell⟩
 ·simp [Value.cells] at hcs
  obtain ⟨rfl, rfl, rfl⟩ := hcs
  exact ⟨none, 0, [], rfl, Nat.le_refl _, ⟨by omega, fun _ => rfl⟩, by simp, fun i q h => by simp at h⟩
 ·simp [Value.cells] at hcs
  obtain ⟨rfl, rfl, rfl⟩ := hcs
  simp only [if_true] at hmm
  subst hmm
  simp only [Prod.mk.injEq] at hx
  obtain ⟨rfl, _⟩ := hx
  have hbe : Program.bytesOf Try.prog 45 = 40 := by kernel_rfl
  have hce : Program.cellsOf Try.prog 45 = 6 := by kernel_rfl
  have hn := hsz ((((List.range len0).map D).length + ((List.range (m - len0)).map fun j => D (len0 + j)).length) * 40) (by simp only [DataW.weights, Try.underlying43, hbe]; exact List.mem_cons_self ..)
  simp only [List.length_map, List.length_range, reachBytes] at hn
  have each : ∀ i, i < len0 → ∃ q : Tlk, q.ok W ∧ ∀ j v, q.v[j]? = some v → W.cell? ((x.add (i * 6)).add j) = some v := by
   intro i hi
   obtain ⟨cs', h1, h2⟩ := hcell i (by omega)
   rw [hce] at h1
   obtain ⟨_, hlen, hc⟩ := World.cells?_some h1
   obtain ⟨q, e, hq⟩ := talk_cells h2
   refine ⟨q, hq, fun j v hj => ?_⟩
   have hj' : j < 6 := by
    have := (Array.getElem?_eq_some_iff.1 hj).1
    simpa using this
   have h3 := hc j (by omega)
   rw [h3, e]
   have : q.v.toList[j]? = some v := by simpa using hj
   exact this
  obtain ⟨l, hl1, hl2⟩ := list_of len0 each
  refine ⟨some x, m, l, by rw [hl1], by omega, ⟨by omega, fun h => by cases h⟩, fun q hq => ?_, fun i q hq => ?_⟩
  ·obtain ⟨i, hi⟩ := List.mem_iff_getElem?.1 hq
   exact (hl2 i q hi).1
  ·obtain ⟨_, c0⟩ := hl2 i q hq
   obtain ⟨b, off, spot⟩ := x
   have hil : i < l.length := (List.getElem?_eq_some_iff.1 hq).1
   obtain ⟨q0, hq0⟩ : ∃ q0, l[0]? = some q0 := ⟨_, List.getElem?_eq_getElem (by omega)⟩
   have hspot : spot = none := by simpa [Addr.add] using World.cell?_spot ((hl2 0 q0 hq0).2 0 _ rfl)
   subst hspot
   refine ⟨b, off, rfl, ?_, fun j v hj => ?_⟩
   ·have := c0 0 _ rfl
    rw [Go.WideShapes.add_plain, Go.WideShapes.add_plain] at this
    exact World.block_lt_of_cell? W _ this
   ·have := c0 j v hj
    rw [Go.WideShapes.add_plain, Go.WideShapes.add_plain] at this
    exact this
/-- A slice of numbers of 16 bits, as it is read. -/
structure RowH (w : World) (a : Option Addr) (l : List Int) : Prop where
 each : ∀ x ∈ l, 0 ≤ x ∧ x < 65536
 cells : ∀ i, i < l.length → ∃ b off, a = some ⟨b, off, none⟩ ∧ w.cell? ⟨b, off + i, none⟩ = some (.int .u16 (l.getD i 0))
theorem RowH.low {w w' : World} {a : Option Addr} {l : List Int} (h : RowH w a l) (hb : Below w.heap.size w w') : RowH w' a l :=
 ⟨h.each, fun i hi => by
  obtain ⟨b, off, h1, h2⟩ := h.cells i hi
  exact ⟨b, off, h1, kept hb h2⟩⟩
set_option maxRecDepth 100000 in
theorem open_u16s {H : Type} {enc : TypeId × Value → H} {W : World} {base : Nat} {v : Value} {d : DataW H} {p : List MemPlace}
  (hv : Value.okWide Try.prog W .any base 48 v) (h : DataW.Trod enc Try.prog W 0 (fun _ => true) true 48 v d p) (hsz : ∀ n ∈ d.weights Try.prog 48, n ≤ reachBytes) :
  ∃ (a : Option Addr) (cap : Nat) (l : List Int), v = .slice a l.length cap ∧ l.length ≤ cap ∧ (cap ≤ 140737488355328 ∧ l.length ≤ 140737488351232) ∧ RowH W a l := by
 obtain ⟨a0, len0, cap0, rfl⟩ := okWide_slice Try.underlying48 hv
 obtain ⟨fuel, hf⟩ := h
 rcases ChangeShapes.open_ints Try.underlying48 Try.underlying52 (by kernel_rfl) hf with ⟨hcs, _⟩ | ⟨x, l, c, zs, hcs, _, hl, hm, hz, hx, hcell, hwz⟩
 ·simp [Value.cells] at hcs
  obtain ⟨rfl, rfl, rfl⟩ := hcs
  exact ⟨none, 0, [], rfl, Nat.le_refl _, ⟨by omega, by simp⟩, by simp, fun i h => by simp at h⟩
 ·simp [Value.cells] at hcs
  obtain ⟨rfl, rfl, rfl⟩ := hcs
  simp only [if_true] at hz
  simp only [Prod.mk.injEq] at hx
  obtain ⟨rfl, _⟩ := hx
  have hbe : Program.bytesOf Try.prog 52 = 2 := by kernel_rfl
  have hn := hsz (((lits .u16 (zs.take len0)).length + (lits (H := H) .u16 (zs.drop len0)).length) * 2) (by simp only [DataW.weights, Try.underlying48, hbe]; exact List.mem_cons_self ..)
  simp only [lits, List.length_map, List.length_take, List.length_drop, reachBytes] at hn
  have e1 : len0 = (zs.take len0).length := by simp; omega
  refine ⟨some x, cap0, zs.take len0, by rw [← e1], by omega, ⟨by omega, by rw [← e1]; omega⟩, fun y hy => u16_tc (hwz y (List.mem_of_mem_take hy)), fun i hi => ?_⟩
  obtain ⟨b, off, rfl, hc'⟩ := ints_at hcell (by omega)
  refine ⟨b, off, rfl, ?_⟩
  rw [hc' i (by omega)]
  have : i < len0 := by omega
  simp [this]
theorem okWide_arr_tc {W : World} {base : Nat} {v : Value} {P : Program} {t e : TypeId} {n : Nat} (ht : P.underlying t = some (.array n e)) (h : Value.okWide P W .any base t v) : ∃ cs, v = .agg cs ∧ cs.size = P.cellsOf t := by
 simp only [Value.okWide, ht] at h
 obtain ⟨cs, h1, h2, _⟩ := h
 exact ⟨cs, h1, h2⟩
set_option maxRecDepth 100000 in
theorem open_u3 {H : Type} {enc : TypeId × Value → H} {W : World} {base : Nat} {v : Value} {d : DataW H} {p : List MemPlace}
  (hv : Value.okWide Try.prog W .any base 55 v) (h : DataW.Trod enc Try.prog W 0 (fun _ => true) true 55 v d p) :
  ∃ (a b c : Int), v = .agg #[.int .u32 a, .int .u32 b, .int .u32 c] ∧ (0 ≤ a ∧ a < 4294967296) ∧ (0 ≤ b ∧ b < 4294967296) ∧ (0 ≤ c ∧ c < 4294967296) := by
 have cc : Try.prog.cellsOf 55 = 3 := by kernel_rfl
 have cI : Try.prog.cellsOf 22 = 1 := by kernel_rfl
 obtain ⟨cs, rfl, hs⟩ := okWide_arr_tc Try.underlying55 hv
 obtain ⟨L⟩ := cs
 obtain ⟨x, y, z, rfl⟩ := three_tc (show L.length = 3 by simpa using hs.trans cc)
 obtain ⟨fuel, hf0⟩ := h
 obtain ⟨xs, m, _, hx, _, hlen, hf⟩ := DataW.trod_array Try.underlying55 hf0
 obtain ⟨y0, y1, y2, rfl⟩ : ∃ y0 y1 y2, xs = [y0, y1, y2] := by
  match xs, hlen with
  | [y0, y1, y2], _ => exact ⟨y0, y1, y2, rfl⟩
 have h0 : DataW.trod enc Try.prog W 0 (fun _ => true) true m 22 (([x, y, z].drop (0 * Try.prog.cellsOf 22)).take (Try.prog.cellsOf 22)) = some y0 := hf 0 (by decide)
 have h1 : DataW.trod enc Try.prog W 0 (fun _ => true) true m 22 (([x, y, z].drop (1 * Try.prog.cellsOf 22)).take (Try.prog.cellsOf 22)) = some y1 := hf 1 (by decide)
 have h2 : DataW.trod enc Try.prog W 0 (fun _ => true) true m 22 (([x, y, z].drop (2 * Try.prog.cellsOf 22)).take (Try.prog.cellsOf 22)) = some y2 := hf 2 (by decide)
 rw [cI] at h0 h1 h2
 obtain ⟨a, e0, _, w0⟩ := DataW.trod_int Try.underlying22 (show DataW.trod enc Try.prog W 0 (fun _ => true) true m 22 [x] = some y0 from h0)
 obtain ⟨b, e1, _, w1⟩ := DataW.trod_int Try.underlying22 (show DataW.trod enc Try.prog W 0 (fun _ => true) true m 22 [y] = some y1 from h1)
 obtain ⟨c, e2, _, w2⟩ := DataW.trod_int Try.underlying22 (show DataW.trod enc Try.prog W 0 (fun _ => true) true m 22 [z] = some y2 from h2)
 obtain rfl := one_tc e0
 obtain rfl := one_tc e1
 obtain rfl := one_tc e2
 exact ⟨a, b, c, rfl, u32_tc w0, u32_tc w1, u32_tc w2⟩
end Go.Proofs.Ytmmnjjcopdabcaa
