/- Texts joined: FrR CkW RfW -/
import Derived.Test.YtcoldgpnkdallaaDoorRxa33
import Derived.ProofKit
import Derived.OpenShut
import Derived.Lib.SmallJoins
import Derived.Deep.DeepHandedRow
import Derived.Deep.Slices
import Derived.Deep.Strs
import Derived.ChangeSame
import Derived.Test.YtcoldgpnkdallaaDoorRows
import Derived.Lib.LaidTab
import Derived.Stop.LaidErr
namespace Go.Proofs.YtcoldgpnkdallaaDoor
open Go.RowKit Go.ChangeShapes Go.WideShapes Go.ChangeAt
set_option linter.unusedVariables false
set_option linter.unusedSimpArgs false
set_option linter.constructorNameAsVariable false
theorem ad_ok {f h l : Int} (w0 : (Lit.int .i64 f).wf = true) (w1 : (Lit.int .u64 h).wf = true) (w2 : (Lit.int .u64 l).wf = true) : Ad.ok ⟨f, h, l⟩ := by
  refine ⟨?_, ?_, ?_⟩
  · simpa [Lit.wf, IntKind.min, IntKind.max, IntKind.signed, IntKind.bits] using w0
  · simpa [Lit.wf, IntKind.min, IntKind.max, IntKind.signed, IntKind.bits] using w1
  · simpa [Lit.wf, IntKind.min, IntKind.max, IntKind.signed, IntKind.bits] using w2
theorem lst3 {cs : List Value} (h : cs.length = 3) : ∃ a b c, cs = [a, b, c] := by
  match cs, h with
  | [a, b, c], _ => exact ⟨a, b, c, rfl⟩
theorem lst4 {cs : List Value} (h : cs.length = 4) : ∃ a b c d, cs = [a, b, c, d] := by
  match cs, h with
  | [a, b, c, d], _ => exact ⟨a, b, c, d, rfl⟩
theorem lst2 {cs : List Value} (h : cs.length = 2) : ∃ a b, cs = [a, b] := by
  match cs, h with
  | [a, b], _ => exact ⟨a, b, rfl⟩
theorem one_val {x y : Value} (h : [x] = [y]) : x = y := (List.cons.inj h).1
theorem adr_cells {H : Type} {enc : TypeId × Value → H} {W : World} {n : Nat} {cs : List Value} {y : DataW H × List MemPlace}
    (h : DataW.trod enc Tryd.prog W 0 (fun _ => true) true n 39 cs = some y) : ∃ f h l, cs = [.int .i64 f, .int .u64 h, .int .u64 l] ∧ Ad.ok ⟨f, h, l⟩ := by
  obtain ⟨y0, y1, y2, k, _, hl, h0, h1, h2⟩ := Go.Deep.trod_struct3 Tryd.underlying39 h
  have c24 : Tryd.prog.cellsOf 39 = 3 := by kernel_rfl
  have c3 : Tryd.prog.cellsOf 3 = 1 := by kernel_rfl
  have c22 : Tryd.prog.cellsOf 37 = 1 := by kernel_rfl
  rw [c24] at hl
  obtain ⟨v0, v1, v2, rfl⟩ := lst3 hl
  simp only [c3, c22] at h0 h1 h2
  obtain ⟨f, e0, _, w0⟩ := DataW.trod_int Tryd.underlying3 h0
  obtain ⟨h, e1, _, w1⟩ := DataW.trod_int Tryd.underlying37 h1
  obtain ⟨l, e2, _, w2⟩ := DataW.trod_int Tryd.underlying37 h2
  simp only [List.drop_zero, List.drop_succ_cons, List.take_succ_cons, List.take_zero, List.cons.injEq, and_true] at e0 e1 e2
  subst e0 e1 e2
  exact ⟨_, _, _, rfl, ad_ok w0 w1 w2⟩
theorem pfx_cells {H : Type} {enc : TypeId × Value → H} {W : World} {n : Nat} {cs : List Value} {y : DataW H × List MemPlace}
    (h : DataW.trod enc Tryd.prog W 0 (fun _ => true) true n 49 cs = some y) : ∃ f h l b, cs = [.int .i64 f, .int .u64 h, .int .u64 l, .int .i64 b] ∧ Ad.ok ⟨f, h, l⟩ := by
  obtain ⟨xs, n', _, hx, hl, hlen, hf⟩ := DataW.trod_struct Tryd.underlying49 h
  have c26 : Tryd.prog.cellsOf 49 = 4 := by kernel_rfl
  have cA : Tryd.prog.cellsOf 39 = 3 := by kernel_rfl
  have cI : Tryd.prog.cellsOf 3 = 1 := by kernel_rfl
  obtain ⟨v0, v1, v2, v3, rfl⟩ := lst4 (hl.trans c26)
  obtain ⟨y0, y1, rfl⟩ : ∃ y0 y1, xs = [y0, y1] := by
    match xs, hlen with
    | [y0, y1], _ => exact ⟨y0, y1, rfl⟩
  have h0 : DataW.trod enc Tryd.prog W 0 (fun _ => true) true n' 39 ((([v0, v1, v2, v3] : List Value).drop 0).take (Tryd.prog.cellsOf 39)) = some y0 := hf 0 _ rfl
  have h1 : DataW.trod enc Tryd.prog W 0 (fun _ => true) true n' 3 ((([v0, v1, v2, v3] : List Value).drop 3).take (Tryd.prog.cellsOf 3)) = some y1 := hf 1 _ rfl
  simp only [cA, cI, List.drop_zero, List.drop_succ_cons, List.take_succ_cons, List.take_zero] at h0 h1
  obtain ⟨f, h, l, e, ok⟩ := adr_cells h0
  obtain ⟨b, eb, _, wb⟩ := DataW.trod_int Tryd.underlying3 h1
  simp only [List.cons.injEq, and_true] at e
  obtain ⟨rfl, rfl, rfl⟩ := e
  obtain rfl := one_val eb
  exact ⟨_, _, _, _, rfl, ok⟩
theorem prt_cells {H : Type} {enc : TypeId × Value → H} {W : World} {n : Nat} {cs : List Value} {y : DataW H × List MemPlace}
    (h : DataW.trod enc Tryd.prog W 0 (fun _ => true) true n 51 cs = some y) : ∃ a b, cs = [.int .i64 a, .int .i64 b] := by
  obtain ⟨xs, n', _, hx, hl, hlen, hf⟩ := DataW.trod_struct Tryd.underlying51 h
  have c28 : Tryd.prog.cellsOf 51 = 2 := by kernel_rfl
  have cI : Tryd.prog.cellsOf 3 = 1 := by kernel_rfl
  obtain ⟨v0, v1, rfl⟩ := lst2 (hl.trans c28)
  obtain ⟨y0, y1, rfl⟩ : ∃ y0 y1, xs = [y0, y1] := by
    match xs, hlen with
    | [y0, y1], _ => exact ⟨y0, y1, rfl⟩
  have h0 : DataW.trod enc Tryd.prog W 0 (fun _ => true) true n' 3 ((([v0, v1] : List Value).drop 0).take (Tryd.prog.cellsOf 3)) = some y0 := hf 0 _ rfl
  have h1 : DataW.trod enc Tryd.prog W 0 (fun _ => true) true n' 3 ((([v0, v1] : List Value).drop 1).take (Tryd.prog.cellsOf 3)) = some y1 := hf 1 _ rfl
  simp only [cI, List.drop_zero, List.drop_succ_cons, List.take_succ_cons, List.take_zero] at h0 h1
  obtain ⟨a, ea, _, _⟩ := DataW.trod_int Tryd.underlying3 h0
  obtain ⟨b, eb, _, _⟩ := DataW.trod_int Tryd.underlying3 h1
  obtain rfl := one_val ea
  obtain rfl := one_val eb
  exact ⟨_, _, rfl⟩
theorem ls17 {cs : List Value} (h : cs.length = 17) : ∃ v0 v1 v2 v3 v4 v5 v6 v7 v8 v9 v10 v11 v12 v13 v14 v15 v16, cs = [v0, v1, v2, v3, v4, v5, v6, v7, v8, v9, v10, v11, v12, v13, v14, v15, v16] := by
  match cs, h with
  | [v0, v1, v2, v3, v4, v5, v6, v7, v8, v9, v10, v11, v12, v13, v14, v15, v16], _ => exact ⟨v0, v1, v2, v3, v4, v5, v6, v7, v8, v9, v10, v11, v12, v13, v14, v15, v16, rfl⟩
set_option maxRecDepth 100000 in
theorem rule_cells {H : Type} {enc : TypeId × Value → H} {W : World} {fuel : Nat} {cs : List Value} {y : DataW H × List MemPlace} (hf0 : DataW.trod enc Tryd.prog W 0 (fun _ => true) true fuel 53 cs = some y) :
    ∃ q : Rl, cs = q.v.toList ∧ q.ok := by
  have cc : Tryd.prog.cellsOf 53 = 17 := by kernel_rfl
  have cA : Tryd.prog.cellsOf 39 = 3 := by kernel_rfl
  have cP : Tryd.prog.cellsOf 49 = 4 := by kernel_rfl
  have cQ : Tryd.prog.cellsOf 51 = 2 := by kernel_rfl
  have cI : Tryd.prog.cellsOf 3 = 1 := by kernel_rfl
  obtain ⟨xs, n, _, hx, hl, hlen, hf⟩ := DataW.trod_struct Tryd.underlying53 hf0
  obtain ⟨v0, v1, v2, v3, v4, v5, v6, v7, v8, v9, v10, v11, v12, v13, v14, v15, v16, rfl⟩ := ls17 (hl.trans cc)
  obtain ⟨y0, y1, y2, y3, y4, y5, y6, y7, y8, rfl⟩ : ∃ y0 y1 y2 y3 y4 y5 y6 y7 y8, xs = [y0, y1, y2, y3, y4, y5, y6, y7, y8] := by
    match xs, hlen with
    | [y0, y1, y2, y3, y4, y5, y6, y7, y8], _ => exact ⟨y0, y1, y2, y3, y4, y5, y6, y7, y8, rfl⟩
  have h0 : DataW.trod enc Tryd.prog W 0 (fun _ => true) true n 3 ((([v0, v1, v2, v3, v4, v5, v6, v7, v8, v9, v10, v11, v12, v13, v14, v15, v16] : List Value).drop 0).take (Tryd.prog.cellsOf 3)) = some y0 := hf 0 _ rfl
  have h1 : DataW.trod enc Tryd.prog W 0 (fun _ => true) true n 3 ((([v0, v1, v2, v3, v4, v5, v6, v7, v8, v9, v10, v11, v12, v13, v14, v15, v16] : List Value).drop 1).take (Tryd.prog.cellsOf 3)) = some y1 := hf 1 _ rfl
  have h2 : DataW.trod enc Tryd.prog W 0 (fun _ => true) true n 49 ((([v0, v1, v2, v3, v4, v5, v6, v7, v8, v9, v10, v11, v12, v13, v14, v15, v16] : List Value).drop 2).take (Tryd.prog.cellsOf 49)) = some y2 := hf 2 _ rfl
  have h3 : DataW.trod enc Tryd.prog W 0 (fun _ => true) true n 49 ((([v0, v1, v2, v3, v4, v5, v6, v7, v8, v9, v10, v11, v12, v13, v14, v15, v16] : List Value).drop 6).take (Tryd.prog.cellsOf 49)) = some y3 := hf 3 _ rfl
  have h4 : DataW.trod enc Tryd.prog W 0 (fun _ => true) true n 3 ((([v0, v1, v2, v3, v4, v5, v6, v7, v8, v9, v10, v11, v12, v13, v14, v15, v16] : List Value).drop 10).take (Tryd.prog.cellsOf 3)) = some y4 := hf 4 _ rfl
  have h5 : DataW.trod enc Tryd.prog W 0 (fun _ => true) true n 51 ((([v0, v1, v2, v3, v4, v5, v6, v7, v8, v9, v10, v11, v12, v13, v14, v15, v16] : List Value).drop 11).take (Tryd.prog.cellsOf 51)) = some y5 := hf 5 _ rfl
  have h6 : DataW.trod enc Tryd.prog W 0 (fun _ => true) true n 51 ((([v0, v1, v2, v3, v4, v5, v6, v7, v8, v9, v10, v11, v12, v13, v14, v15, v16] : List Value).drop 13).take (Tryd.prog.cellsOf 51)) = some y6 := hf 6 _ rfl
  have h7 : DataW.trod enc Tryd.prog W 0 (fun _ => true) true n 3 ((([v0, v1, v2, v3, v4, v5, v6, v7, v8, v9, v10, v11, v12, v13, v14, v15, v16] : List Value).drop 15).take (Tryd.prog.cellsOf 3)) = some y7 := hf 7 _ rfl
  have h8 : DataW.trod enc Tryd.prog W 0 (fun _ => true) true n 3 ((([v0, v1, v2, v3, v4, v5, v6, v7, v8, v9, v10, v11, v12, v13, v14, v15, v16] : List Value).drop 16).take (Tryd.prog.cellsOf 3)) = some y8 := hf 8 _ rfl
  simp only [cA, cP, cQ, cI, List.drop_zero, List.drop_succ_cons, List.take_succ_cons, List.take_zero] at h0 h1 h2 h3 h4 h5 h6 h7 h8
  obtain ⟨fr, e0, _, _⟩ := DataW.trod_int Tryd.underlying3 h0
  obtain rfl := one_val e0
  obtain ⟨tz, e1, _, _⟩ := DataW.trod_int Tryd.underlying3 h1
  obtain rfl := one_val e1
  obtain ⟨sf, sh, sl, sn, e2, ok2⟩ := pfx_cells h2
  simp only [List.cons.injEq, and_true] at e2
  obtain ⟨rfl, rfl, rfl, rfl⟩ := e2
  obtain ⟨df, dh, dl, dn, e3, ok3⟩ := pfx_cells h3
  simp only [List.cons.injEq, and_true] at e3
  obtain ⟨rfl, rfl, rfl, rfl⟩ := e3
  obtain ⟨pr, e4, _, _⟩ := DataW.trod_int Tryd.underlying3 h4
  obtain rfl := one_val e4
  obtain ⟨pa, pb, e5⟩ := prt_cells h5
  simp only [List.cons.injEq, and_true] at e5
  obtain ⟨rfl, rfl⟩ := e5
  obtain ⟨qa, qb, e6⟩ := prt_cells h6
  simp only [List.cons.injEq, and_true] at e6
  obtain ⟨rfl, rfl⟩ := e6
  obtain ⟨ac, e7, _, _⟩ := DataW.trod_int Tryd.underlying3 h7
  obtain rfl := one_val e7
  obtain ⟨he, e8, _, _⟩ := DataW.trod_int Tryd.underlying3 h8
  obtain rfl := one_val e8
  exact ⟨⟨fr, tz, ⟨sf, sh, sl⟩, sn, ⟨df, dh, dl⟩, dn, pr, pa, pb, qa, qb, ac, he⟩, rfl, ok2, ok3⟩
theorem ls11 {cs : List Value} (h : cs.length = 11) : ∃ v0 v1 v2 v3 v4 v5 v6 v7 v8 v9 v10, cs = [v0, v1, v2, v3, v4, v5, v6, v7, v8, v9, v10] := by
  match cs, h with
  | [v0, v1, v2, v3, v4, v5, v6, v7, v8, v9, v10], _ => exact ⟨v0, v1, v2, v3, v4, v5, v6, v7, v8, v9, v10, rfl⟩
set_option maxRecDepth 100000 in
theorem key_cells {H : Type} {enc : TypeId × Value → H} {W : World} {fuel : Nat} {cs : List Value} {y : DataW H × List MemPlace} (hf0 : DataW.trod enc Tryd.prog W 0 (fun _ => true) true fuel 41 cs = some y) :
    ∃ q : Ky, cs = q.v.toList ∧ q.ok := by
  have cc : Tryd.prog.cellsOf 41 = 11 := by kernel_rfl
  have cA : Tryd.prog.cellsOf 39 = 3 := by kernel_rfl
  have cP : Tryd.prog.cellsOf 49 = 4 := by kernel_rfl
  have cQ : Tryd.prog.cellsOf 51 = 2 := by kernel_rfl
  have cI : Tryd.prog.cellsOf 3 = 1 := by kernel_rfl
  obtain ⟨xs, n, _, hx, hl, hlen, hf⟩ := DataW.trod_struct Tryd.underlying41 hf0
  obtain ⟨v0, v1, v2, v3, v4, v5, v6, v7, v8, v9, v10, rfl⟩ := ls11 (hl.trans cc)
  obtain ⟨y0, y1, y2, y3, y4, y5, y6, rfl⟩ : ∃ y0 y1 y2 y3 y4 y5 y6, xs = [y0, y1, y2, y3, y4, y5, y6] := by
    match xs, hlen with
    | [y0, y1, y2, y3, y4, y5, y6], _ => exact ⟨y0, y1, y2, y3, y4, y5, y6, rfl⟩
  have h0 : DataW.trod enc Tryd.prog W 0 (fun _ => true) true n 3 ((([v0, v1, v2, v3, v4, v5, v6, v7, v8, v9, v10] : List Value).drop 0).take (Tryd.prog.cellsOf 3)) = some y0 := hf 0 _ rfl
  have h1 : DataW.trod enc Tryd.prog W 0 (fun _ => true) true n 3 ((([v0, v1, v2, v3, v4, v5, v6, v7, v8, v9, v10] : List Value).drop 1).take (Tryd.prog.cellsOf 3)) = some y1 := hf 1 _ rfl
  have h2 : DataW.trod enc Tryd.prog W 0 (fun _ => true) true n 39 ((([v0, v1, v2, v3, v4, v5, v6, v7, v8, v9, v10] : List Value).drop 2).take (Tryd.prog.cellsOf 39)) = some y2 := hf 2 _ rfl
  have h3 : DataW.trod enc Tryd.prog W 0 (fun _ => true) true n 39 ((([v0, v1, v2, v3, v4, v5, v6, v7, v8, v9, v10] : List Value).drop 5).take (Tryd.prog.cellsOf 39)) = some y3 := hf 3 _ rfl
  have h4 : DataW.trod enc Tryd.prog W 0 (fun _ => true) true n 3 ((([v0, v1, v2, v3, v4, v5, v6, v7, v8, v9, v10] : List Value).drop 8).take (Tryd.prog.cellsOf 3)) = some y4 := hf 4 _ rfl
  have h5 : DataW.trod enc Tryd.prog W 0 (fun _ => true) true n 3 ((([v0, v1, v2, v3, v4, v5, v6, v7, v8, v9, v10] : List Value).drop 9).take (Tryd.prog.cellsOf 3)) = some y5 := hf 5 _ rfl
  have h6 : DataW.trod enc Tryd.prog W 0 (fun _ => true) true n 3 ((([v0, v1, v2, v3, v4, v5, v6, v7, v8, v9, v10] : List Value).drop 10).take (Tryd.prog.cellsOf 3)) = some y6 := hf 6 _ rfl
  simp only [cA, cP, cQ, cI, List.drop_zero, List.drop_succ_cons, List.take_succ_cons, List.take_zero] at h0 h1 h2 h3 h4 h5 h6
  obtain ⟨fr, e0, _, _⟩ := DataW.trod_int Tryd.underlying3 h0
  obtain rfl := one_val e0
  obtain ⟨tz, e1, _, _⟩ := DataW.trod_int Tryd.underlying3 h1
  obtain rfl := one_val e1
  obtain ⟨sf, sh, sl, e2, ok2⟩ := adr_cells h2
  simp only [List.cons.injEq, and_true] at e2
  obtain ⟨rfl, rfl, rfl⟩ := e2
  obtain ⟨df, dh, dl, e3, ok3⟩ := adr_cells h3
  simp only [List.cons.injEq, and_true] at e3
  obtain ⟨rfl, rfl, rfl⟩ := e3
  obtain ⟨pr, e4, _, _⟩ := DataW.trod_int Tryd.underlying3 h4
  obtain rfl := one_val e4
  obtain ⟨sp, e5, _, _⟩ := DataW.trod_int Tryd.underlying3 h5
  obtain rfl := one_val e5
  obtain ⟨dp, e6, _, _⟩ := DataW.trod_int Tryd.underlying3 h6
  obtain rfl := one_val e6
  exact ⟨⟨fr, tz, ⟨sf, sh, sl⟩, ⟨df, dh, dl⟩, pr, sp, dp⟩, rfl, ok2, ok3⟩
set_option maxRecDepth 100000 in
theorem open_key {H : Type} {enc : TypeId × Value → H} {W : World} {base : Nat} {v : Value} {d : DataW H} {p : List MemPlace}
    (hv : Value.okWide Tryd.prog W .any base 41 v) (h : DataW.Trod enc Tryd.prog W 0 (fun _ => true) true 41 v d p) :
    ∃ q : Ky, v = .agg q.v ∧ q.ok := by
  obtain ⟨cs, rfl, _⟩ := okWide_struct Tryd.underlying41 hv
  obtain ⟨fuel, hf⟩ := h
  obtain ⟨q, e, ok⟩ := key_cells hf
  refine ⟨q, ?_, ok⟩
  simp only [Value.cells] at e
  congr 1
  exact Array.ext' e
set_option maxRecDepth 100000 in
theorem open_rules {H : Type} {enc : TypeId × Value → H} {W : World} {base : Nat} {v : Value} {d : DataW H} {p : List MemPlace}
    (hv : Value.okWide Tryd.prog W .any base 22 v) (h : DataW.Trod enc Tryd.prog W 0 (fun _ => true) true 22 v d p) (hsz : ∀ n ∈ d.weights Tryd.prog 22, n ≤ reachBytes) :
    ∃ (a : Option Addr) (cap : Nat) (l : List Rl), v = .slice a l.length cap ∧ l.length ≤ cap ∧ (cap * 136 ≤ 140737488351232 ∧ (a = none → cap = 0)) ∧ RowR W a l := by
  obtain ⟨a0, len0, cap0, rfl⟩ := okWide_slice Tryd.underlying22 hv
  obtain ⟨fuel, hf⟩ := h
  rcases Deep.open_slice Tryd.underlying22 hf with ⟨hcs, _⟩ | ⟨x, l, c, m, n, D, Pl, hcs, _, hl, hm, hmm, hx, hcell⟩
  · simp [Value.cells] at hcs
    obtain ⟨rfl, rfl, rfl⟩ := hcs
    exact ⟨none, 0, [], rfl, Nat.le_refl _, ⟨by omega, fun _ => rfl⟩, by simp, fun i q h => by simp at h⟩
  · simp [Value.cells] at hcs
    obtain ⟨rfl, rfl, rfl⟩ := hcs
    simp only [if_true] at hmm
    subst hmm
    simp only [Prod.mk.injEq] at hx
    obtain ⟨rfl, _⟩ := hx
    have hbe : Program.bytesOf Tryd.prog 53 = 136 := by kernel_rfl
    have hce : Program.cellsOf Tryd.prog 53 = 17 := by kernel_rfl
    have hn := hsz ((((List.range len0).map D).length + ((List.range (m - len0)).map fun j => D (len0 + j)).length) * 136) (by simp only [DataW.weights, Tryd.underlying22, hbe]; exact List.mem_cons_self ..)
    simp only [List.length_map, List.length_range, reachBytes] at hn
    have each : ∀ i, i < len0 → ∃ q : Rl, q.ok ∧ ∀ j v, q.v[j]? = some v → W.cell? ((x.add (i * 17)).add j) = some v := by
      intro i hi
      obtain ⟨cs', h1, h2⟩ := hcell i (by omega)
      rw [hce] at h1
      obtain ⟨_, hlen, hc⟩ := World.cells?_some h1
      obtain ⟨q, e, hq⟩ := rule_cells h2
      refine ⟨q, hq, fun j v hj => ?_⟩
      have hj' : j < 17 := by
        have := (Array.getElem?_eq_some_iff.1 hj).1
        simpa using this
      have h3 := hc j (by omega)
      rw [h3, e]
      have : q.v.toList[j]? = some v := by simpa using hj
      exact this
    obtain ⟨l, hl1, hl2⟩ := list_of len0 each
    refine ⟨some x, m, l, by rw [hl1], by omega, ⟨by omega, fun h => by cases h⟩, fun q hq => ?_, fun i q hq => ?_⟩
    · obtain ⟨i, hi⟩ := List.mem_iff_getElem?.1 hq
      exact (hl2 i q hi).1
    · obtain ⟨_, c0⟩ := hl2 i q hq
      obtain ⟨b, off, spot⟩ := x
      have hil : i < l.length := (List.getElem?_eq_some_iff.1 hq).1
      obtain ⟨q0, hq0⟩ : ∃ q0, l[0]? = some q0 := ⟨_, List.getElem?_eq_getElem (by omega)⟩
      have hspot : spot = none := by simpa [Addr.add] using World.cell?_spot ((hl2 0 q0 hq0).2 0 _ rfl)
      subst hspot
      refine ⟨b, off, rfl, ?_, fun j v hj => ?_⟩
      · have := c0 0 _ rfl
        rw [Go.WideShapes.add_plain, Go.WideShapes.add_plain] at this
        exact World.block_lt_of_cell? W _ this
      · have := c0 j v hj
        rw [Go.WideShapes.add_plain, Go.WideShapes.add_plain] at this
        exact this
end Go.Proofs.YtcoldgpnkdallaaDoor
namespace Go.Proofs.YtcoldgpnkdallaaDoor
open Go.ChangeShapes Go.WideShapes Go.ChangeAt Go.RowKit
set_option linter.unusedVariables false
set_option linter.unusedSimpArgs false
theorem gTop : Tryd.prog.globalNamed "stockade/chunk.greatest" = some 1 := by kernel_rfl
theorem gTopType : (Tryd.prog.globals[1]?).map (·.type) = some 91 := by kernel_rfl
theorem pt_cells {H : Type} {enc : TypeId × Value → H} {W : World} {base : Nat} {spare : TypeId → Bool} {held : Bool} {n : Nat} {cs : List Value} {y : DataW H × List MemPlace}
    (h : DataW.trod enc Tryd.prog W base spare held n 91 cs = some y) : ∃ a b c, cs = [.int .u64 a, .int .u64 b, .int .u64 c] ∧ Pt.ok ⟨a, b, c⟩ ∧ y.1 = .agg [.lit (.int .u64 a), .lit (.int .u64 b), .lit (.int .u64 c)] := by
  obtain ⟨y0, y1, y2, k, hy, hl, h0, h1, h2⟩ := Go.Deep.trod_struct3 Tryd.underlying91 h
  have c24 : Tryd.prog.cellsOf 91 = 3 := by kernel_rfl
  have c22 : Tryd.prog.cellsOf 37 = 1 := by kernel_rfl
  rw [c24] at hl
  obtain ⟨v0, v1, v2, rfl⟩ := lst3 hl
  simp only [c22] at h0 h1 h2
  obtain ⟨f, e0, q0, w0⟩ := DataW.trod_int Tryd.underlying37 h0
  obtain ⟨g, e1, q1, w1⟩ := DataW.trod_int Tryd.underlying37 h1
  obtain ⟨l, e2, q2, w2⟩ := DataW.trod_int Tryd.underlying37 h2
  simp only [List.drop_zero, List.drop_succ_cons, List.take_succ_cons, List.take_zero, List.cons.injEq, and_true] at e0 e1 e2
  subst e0 e1 e2
  refine ⟨_, _, _, rfl, ?_, ?_⟩
  · refine ⟨?_, ?_, ?_⟩
    · simpa [Lit.wf, IntKind.min, IntKind.max, IntKind.signed, IntKind.bits] using w0
    · simpa [Lit.wf, IntKind.min, IntKind.max, IntKind.signed, IntKind.bits] using w1
    · simpa [Lit.wf, IntKind.min, IntKind.max, IntKind.signed, IntKind.bits] using w2
  · rw [hy, q0, q1, q2]
theorem top_of {W : World} {rest : List (String × DataW Unit)} (h : laidMet Tryd.prog (("stockade/chunk.greatest", Rows.laid_stockade_chunk_greatest) :: rest) W) : Top W := by
  obtain ⟨ps, ⟨g', t', cs, fuel, p, q, hg', ht', hvar, hd, _, _⟩, _⟩ := h
  obtain rfl := Option.some.inj (gTop.symm.trans hg')
  obtain rfl := Option.some.inj (gTopType.symm.trans ht')
  obtain ⟨a, b, c, e, _, he⟩ := pt_cells hd
  simp only [Rows.laid_stockade_chunk_greatest, DataW.agg.injEq, List.cons.injEq, DataW.lit.injEq, Lit.int.injEq, and_true, true_and] at he
  obtain ⟨rfl, rfl, rfl⟩ := he
  have hcs : cs = ptTop.v := Array.ext' e
  subst hcs
  have hc := fun i => World.var?_cell gTop hvar i
  exact ⟨World.block_lt_of_cell? W ⟨1, 0, none⟩ (hc 0), fun j v hv => by rw [Nat.zero_add, hc j]; exact hv⟩
/-- What a flat datum lays, cell by cell. -/
def lay1 : DataW Unit → Value
  | .lit (.int k n) => .int k n
  | _ => .bool false
def layA : DataW Unit → List Value
  | .agg ds => ds.map lay1
  | _ => []
def layOne (vs : List Value) : Obj → Obj
  | .cells _ t frozen => .cells vs.toArray t frozen
  | o => o
theorem gDeb : Tryd.prog.globalNamed "math/bits.deBruijn64tab" = some 2 := by kernel_rfl
theorem gDebType : (Tryd.prog.globals[2]?).map (·.type) = some 131 := by kernel_rfl
theorem gSds : Tryd.prog.globalNamed "stockade/rfc.sides" = some 0 := by kernel_rfl
theorem gSdsType : (Tryd.prog.globals[0]?).map (·.type) = some 69 := by kernel_rfl
set_option maxRecDepth 100000 in
theorem deb_of {W : World} {rest : List (String × DataW Unit)} (h : laidMet Tryd.prog (("math/bits.deBruijn64tab", Rows.laid_math_bits_deBruijn64tab) :: rest) W) : Deb W := by
  have h1 : laidMet Tryd.prog (("math/bits.deBruijn64tab", Lib.tabData .u8 (debT.map fun n : Nat => (n : Int))) :: rest) W := h
  have h2 := Lib.tabIs_of_head gDeb gDebType Tryd.underlying131 Tryd.underlying5 (by kernel_rfl) (by kernel_rfl) h1
  have hc := fun i => World.var?_cell gDeb h2 i
  have ev : ((debT.map fun n : Nat => (n : Int)).map fun z => Value.int .u8 z).toArray = debV := by unfold debV; rw [List.map_map]; rfl
  rw [ev] at hc
  exact ⟨World.block_lt_of_cell? W ⟨2, 0, none⟩ (hc 0), fun j v hv => by rw [Nat.zero_add, hc j]; exact hv⟩
set_option maxRecDepth 100000 in
theorem sds_of {W : World} {rest : List (String × DataW Unit)} (h : laidMet Tryd.prog (("stockade/rfc.sides", Rows.laid_stockade_rfc_sides) :: rest) W) : Sds W := by
  obtain ⟨ps, ⟨g', t', cs, fuel, p, q, hg', ht', hvar, hd, _, _⟩, _⟩ := h
  obtain rfl := Option.some.inj (gSds.symm.trans hg')
  obtain rfl := Option.some.inj (gSdsType.symm.trans ht')
  obtain ⟨xs, m, rfl, hx, hl, hxl, hall⟩ := DataW.trod_array Tryd.underlying69 hd
  have c6 : Tryd.prog.cellsOf 69 = 12 := by kernel_rfl
  have c2 : Tryd.prog.cellsOf 68 = 2 := by kernel_rfl
  have c1 : Tryd.prog.cellsOf 3 = 1 := by kernel_rfl
  rw [c6] at hl
  rw [c2] at hall
  have hxs : xs.map (·.1) = [Lib.tabData .i64 [0, 1], Lib.tabData .i64 [2, 3], Lib.tabData .i64 [5, 6], Lib.tabData .i64 [8, 9], Lib.tabData .i64 [10, 4], Lib.tabData .i64 [11, 7]] := by
    have := congrArg Prod.fst hx
    simp only [Rows.laid_stockade_rfc_sides, DataW.agg.injEq] at this
    exact this.symm
  have hpair : ∀ (i : Nat) (a b : Int), i < 6 → (xs.map (·.1))[i]? = some (Lib.tabData .i64 [a, b]) → (cs.toList.drop (i * 2)).take 2 = [.int .i64 a, .int .i64 b] := fun i a b hi hd' => by
    rw [List.getElem?_map, Option.map_eq_some_iff] at hd'
    obtain ⟨⟨d, pp⟩, h1, h2⟩ := hd'
    have h3 := hall i hi
    rw [h1] at h3
    simp only at h2
    subst h2
    exact Lib.cells_of_tab Tryd.underlying68 Tryd.underlying3 c1 c2 h3
  rw [hxs] at hpair
  have p0 := hpair 0 0 1 (by omega) rfl
  have p1 := hpair 1 2 3 (by omega) rfl
  have p2 := hpair 2 5 6 (by omega) rfl
  have p3 := hpair 3 8 9 (by omega) rfl
  have p4 := hpair 4 10 4 (by omega) rfl
  have p5 := hpair 5 11 7 (by omega) rfl
  have hcs : cs = sdV := by
    refine Array.ext' ?_
    obtain ⟨v0, v1, v2, v3, v4, v5, v6, v7, v8, v9, va, vb, e⟩ : ∃ v0 v1 v2 v3 v4 v5 v6 v7 v8 v9 va vb, cs.toList = [v0, v1, v2, v3, v4, v5, v6, v7, v8, v9, va, vb] := by
      match cs.toList, hl with
      | [v0, v1, v2, v3, v4, v5, v6, v7, v8, v9, va, vb], _ => exact ⟨v0, v1, v2, v3, v4, v5, v6, v7, v8, v9, va, vb, rfl⟩
    rw [e] at p0 p1 p2 p3 p4 p5 ⊢
    simp only [Nat.zero_mul, Nat.one_mul, Nat.reduceMul, List.drop_zero, List.drop_succ_cons, List.take_succ_cons, List.take_zero, List.cons.injEq, and_true] at p0 p1 p2 p3 p4 p5
    obtain ⟨rfl, rfl⟩ := p0
    obtain ⟨rfl, rfl⟩ := p1
    obtain ⟨rfl, rfl⟩ := p2
    obtain ⟨rfl, rfl⟩ := p3
    obtain ⟨rfl, rfl⟩ := p4
    obtain ⟨rfl, rfl⟩ := p5
    rfl
  subst hcs
  have hc := fun i => World.var?_cell gSds hvar i
  exact ⟨World.block_lt_of_cell? W ⟨0, 0, none⟩ (hc 0), fun j v hv => by rw [Nat.zero_add, hc j]; exact hv⟩
theorem three_of {W : World} (h : laidMet Tryd.prog [("math/bits.deBruijn64tab", Rows.laid_math_bits_deBruijn64tab), ("stockade/chunk.greatest", Rows.laid_stockade_chunk_greatest), ("stockade/rfc.sides", Rows.laid_stockade_rfc_sides)] W) : Top W ∧ Deb W ∧ Sds W :=
  ⟨top_of h.tail, deb_of h, sds_of h.tail.tail⟩
/-- What a datum of arrays lays, cell by cell. -/
def layB : DataW Unit → List Value
  | .agg ds => ds.flatMap layA
  | _ => []
end Go.Proofs.YtcoldgpnkdallaaDoor
