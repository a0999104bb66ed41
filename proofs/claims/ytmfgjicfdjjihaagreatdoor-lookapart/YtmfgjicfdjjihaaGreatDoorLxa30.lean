/- Texts joined: FrR CkW RfW LkA -/
import Derived.Test.YtmfgjicfdjjihaaGreatDoorLxa29
import Derived.ProofKit
import Derived.OpenShut
import Derived.Lib.SmallJoins
import Derived.Deep.DeepHandedRow
import Derived.Deep.Slices
import Derived.Deep.Strs
import Derived.ChangeSame
import Derived.Test.YtmfgjicfdjjihaaGreatDoorRows
import Derived.Lib.LaidTab
import Derived.Stop.LaidErr
namespace Go.Proofs.YtmfgjicfdjjihaaGreatDoor
open Go.RowKit Go.ChangeShapes Go.WideShapes Go.ChangeAt
set_option linter.unusedVariables false
set_option linter.unusedSimpArgs false
set_option linter.constructorNameAsVariable false
theorem ad_ok {f h l : Int} (w0 : (Lit.int .i64 f).wf = true) (w1 : (Lit.int .u64 h).wf = true) (w2 : (Lit.int .u64 l).wf = true) : Ad.ok ⟨f, h, l⟩ := by
 refine ⟨?_, ?_, ?_⟩
 ·simpa [Lit.wf, IntKind.min, IntKind.max, IntKind.signed, IntKind.bits] using w0
 ·simpa [Lit.wf, IntKind.min, IntKind.max, IntKind.signed, IntKind.bits] using w1
 ·simpa [Lit.wf, IntKind.min, IntKind.max, IntKind.signed, IntKind.bits] using w2
theorem lst3 {cs : List Value} (h : cs.length = 3) : ∃ a b c, cs = [a, b, c] := by
 match cs, h with
 | [a, b, c], _ => exact ⟨a, b, c, rfl⟩
theorem lst4 {cs : List Value} (h : cs.length = 4) : ∃ a b c d, cs = [a, b, c, d] := by
 match cs, h with
 | [a, b, c, d], _ => exact ⟨a, b, c, d, rfl⟩
theorem lst2 {cs : List Value} (h : cs.length = 2) : ∃ a b, cs = [a, b] := by
 match cs, h with
 | [a, b], _ => exact ⟨a, b, rfl⟩
theorem one_val {x y : Value} (h : [x] = [y]) : x = y := (List.cons.inj h).1
theorem adr_cells {H : Type} {enc : TypeId × Value → H} {W : World} {n : Nat} {cs : List Value} {y : DataW H × List MemPlace}
  (h : DataW.trod enc Tryz.prog W 0 (fun _ => true) true n 31 cs = some y) : ∃ f h l, cs = [.int .i64 f, .int .u64 h, .int .u64 l] ∧ Ad.ok ⟨f, h, l⟩ := by
 obtain ⟨y0, y1, y2, k, _, hl, h0, h1, h2⟩ := Go.Deep.trod_struct3 Tryz.underlying31 h
 have c24 : Tryz.prog.cellsOf 31 = 3 := by kernel_rfl
 have c3 : Tryz.prog.cellsOf 3 = 1 := by kernel_rfl
 have c22 : Tryz.prog.cellsOf 29 = 1 := by kernel_rfl
 rw [c24] at hl
 obtain ⟨v0, v1, v2, rfl⟩ := lst3 hl
 simp only [c3, c22] at h0 h1 h2
 obtain ⟨f, e0, _, w0⟩ := DataW.trod_int Tryz.underlying3 h0
 obtain ⟨h, e1, _, w1⟩ := DataW.trod_int Tryz.underlying29 h1
 obtain ⟨l, e2, _, w2⟩ := DataW.trod_int Tryz.underlying29 h2
 simp only [List.drop_zero, List.drop_succ_cons, List.take_succ_cons, List.take_zero, List.cons.injEq, and_true] at e0 e1 e2
 subst e0 e1 e2
 exact ⟨_, _, _, rfl, ad_ok w0 w1 w2⟩
theorem pfx_cells {H : Type} {enc : TypeId × Value → H} {W : World} {n : Nat} {cs : List Value} {y : DataW H × List MemPlace}
  (h : DataW.trod enc Tryz.prog W 0 (fun _ => true) true n 78 cs = some y) : ∃ f h l b, cs = [.int .i64 f, .int .u64 h, .int .u64 l, .int .i64 b] ∧ Ad.ok ⟨f, h, l⟩ := by
 obtain ⟨xs, n', _, hx, hl, hlen, hf⟩ := DataW.trod_struct Tryz.underlying78 h
 have c26 : Tryz.prog.cellsOf 78 = 4 := by kernel_rfl
 have cA : Tryz.prog.cellsOf 31 = 3 := by kernel_rfl
 have cI : Tryz.prog.cellsOf 3 = 1 := by kernel_rfl
 obtain ⟨v0, v1, v2, v3, rfl⟩ := lst4 (hl.trans c26)
 obtain ⟨y0, y1, rfl⟩ : ∃ y0 y1, xs = [y0, y1] := by
  match xs, hlen with
  | [y0, y1], _ => exact ⟨y0, y1, rfl⟩
 have h0 : DataW.trod enc Tryz.prog W 0 (fun _ => true) true n' 31 ((([v0, v1, v2, v3] : List Value).drop 0).take (Tryz.prog.cellsOf 31)) = some y0 := hf 0 _ rfl
 have h1 : DataW.trod enc Tryz.prog W 0 (fun _ => true) true n' 3 ((([v0, v1, v2, v3] : List Value).drop 3).take (Tryz.prog.cellsOf 3)) = some y1 := hf 1 _ rfl
 simp only [cA, cI, List.drop_zero, List.drop_succ_cons, List.take_succ_cons, List.take_zero] at h0 h1
 obtain ⟨f, h, l, e, ok⟩ := adr_cells h0
 obtain ⟨b, eb, _, wb⟩ := DataW.trod_int Tryz.underlying3 h1
 simp only [List.cons.injEq, and_true] at e
 obtain ⟨rfl, rfl, rfl⟩ := e
 obtain rfl := one_val eb
 exact ⟨_, _, _, _, rfl, ok⟩
theorem prt_cells {H : Type} {enc : TypeId × Value → H} {W : World} {n : Nat} {cs : List Value} {y : DataW H × List MemPlace}
  (h : DataW.trod enc Tryz.prog W 0 (fun _ => true) true n 80 cs = some y) : ∃ a b, cs = [.int .i64 a, .int .i64 b] := by
 obtain ⟨xs, n', _, hx, hl, hlen, hf⟩ := DataW.trod_struct Tryz.underlying80 h
 have c28 : Tryz.prog.cellsOf 80 = 2 := by kernel_rfl
 have cI : Tryz.prog.cellsOf 3 = 1 := by kernel_rfl
 obtain ⟨v0, v1, rfl⟩ := lst2 (hl.trans c28)
 obtain ⟨y0, y1, rfl⟩ : ∃ y0 y1, xs = [y0, y1] := by
  match xs, hlen with
  | [y0, y1], _ => exact ⟨y0, y1, rfl⟩
 have h0 : DataW.trod enc Tryz.prog W 0 (fun _ => true) true n' 3 ((([v0, v1] : List Value).drop 0).take (Tryz.prog.cellsOf 3)) = some y0 := hf 0 _ rfl
 have h1 : DataW.trod enc Tryz.prog W 0 (fun _ => true) true n' 3 ((([v0, v1] : List Value).drop 1).take (Tryz.prog.cellsOf 3)) = some y1 := hf 1 _ rfl
 simp only [cI, List.drop_zero, List.drop_succ_cons, List.take_succ_cons, List.take_zero] at h0 h1
 obtain ⟨a, ea, _, _⟩ := DataW.trod_int Tryz.underlying3 h0
 obtain ⟨b, eb, _, _⟩ := DataW.trod_int Tryz.underlying3 h1
 obtain rfl := one_val ea
 obtain rfl := one_val eb
 exact ⟨_, _, rfl⟩
theorem ls17 {cs : List Value} (h : cs.length = 17) : ∃ v0 v1 v2 v3 v4 v5 v6 v7 v8 v9 v10 v11 v12 v13 v14 v15 v16, cs = [v0, v1, v2, v3, v4, v5, v6, v7, v8, v9, v10, v11, v12, v13, v14, v15, v16] := by
 match cs, h with
 | [v0, v1, v2, v3, v4, v5, v6, v7, v8, v9, v10, v11, v12, v13, v14, v15, v16], _ => exact ⟨v0, v1, v2, v3, v4, v5, v6, v7, v8, v9, v10, v11, v12, v13, v14, v15, v16, rfl⟩
set_option maxRecDepth 100000 in
theorem rule_cells {H : Type} {enc : TypeId × Value → H} {W : World} {fuel : Nat} {cs : List Value} {y : DataW H × List MemPlace} (hf0 : DataW.trod enc Tryz.prog W 0 (fun _ => true) true fuel 82 cs = some y) :
  ∃ q : Rl, cs = q.v.toList ∧ q.ok := by
 have cc : Tryz.prog.cellsOf 82 = 17 := by kernel_rfl
 have cA : Tryz.prog.cellsOf 31 = 3 := by kernel_rfl
 have cP : Tryz.prog.cellsOf 78 = 4 := by kernel_rfl
 have cQ : Tryz.prog.cellsOf 80 = 2 := by kernel_rfl
 have cI : Tryz.prog.cellsOf 3 = 1 := by kernel_rfl
 obtain ⟨xs, n, _, hx, hl, hlen, hf⟩ := DataW.trod_struct Tryz.underlying82 hf0
 obtain ⟨v0, v1, v2, v3, v4, v5, v6, v7, v8, v9, v10, v11, v12, v13, v14, v15, v16, rfl⟩ := ls17 (hl.trans cc)
 obtain ⟨y0, y1, y2, y3, y4, y5, y6, y7, y8, rfl⟩ : ∃ y0 y1 y2 y3 y4 y5 y6 y7 y8, xs = [y0, y1, y2, y3, y4, y5, y6, y7, y8] := by
  match xs, hlen with
  | [y0, y1, y2, y3, y4, y5, y6, y7, y8], _ => exact ⟨y0, y1, y2, y3, y4, y5, y6, y7, y8, rfl⟩
 have h0 : DataW.trod enc Tryz.prog W 0 (fun _ => true) true n 3 ((([v0, v1, v2, v3, v4, v5, v6, v7, v8, v9, v10, v11, v12, v13, v14, v15, v16] : List Value).drop 0).take (Tryz.prog.cellsOf 3)) = some y0 := hf 0 _ rfl
 have h1 : DataW.trod enc Tryz.prog W 0 (fun _ => true) true n 3 ((([v0, v1, v2, v3, v4, v5, v6, v7, v8, v9, v10, v11, v12, v13, v14, v15, v16] : List Value).drop 1).take (Tryz.prog.cellsOf 3)) = some y1 := hf 1 _ rfl
 have h2 : DataW.trod enc Tryz.prog W 0 (fun _ => true) true n 78 ((([v0, v1, v2, v3, v4, v5, v6, v7, v8, v9, v10, v11, v12, v13, v14, v15, v16] : List Value).drop 2).take (Tryz.prog.cellsOf 78)) = some y2 := hf 2 _ rfl
 have h3 : DataW.trod enc Tryz.prog W 0 (fun _ => true) true n 78 ((([v0, v1, v2, v3, v4, v5, v6, v7, v8, v9, v10, v11, v12, v13, v14, v15, v16] : List Value).drop 6).take (Tryz.prog.cellsOf 78)) = some y3 := hf 3 _ rfl
 have h4 : DataW.trod enc Tryz.prog W 0 (fun _ => true) true n 3 ((([v0, v1, v2, v3, v4, v5, v6, v7, v8, v9, v10, v11, v12, v13, v14, v15, v16] : List Value).drop 10).take (Tryz.prog.cellsOf 3)) = some y4 := hf 4 _ rfl
 have h5 : DataW.trod enc Tryz.prog W 0 (fun _ => true) true n 80 ((([v0, v1, v2, v3, v4, v5, v6, v7, v8, v9, v10, v11, v12, v13, v14, v15, v16] : List Value).drop 11).take (Tryz.prog.cellsOf 80)) = some y5 := hf 5 _ rfl
 have h6 : DataW.trod enc Tryz.prog W 0 (fun _ => true) true n 80 ((([v0, v1, v2, v3, v4, v5, v6, v7, v8, v9, v10, v11, v12, v13, v14, v15, v16] : List Value).drop 13).take (Tryz.prog.cellsOf 80)) = some y6 := hf 6 _ rfl
 have h7 : DataW.trod enc Tryz.prog W 0 (fun _ => true) true n 3 ((([v0, v1, v2, v3, v4, v5, v6, v7, v8, v9, v10, v11, v12, v13, v14, v15, v16] : List Value).drop 15).take (Tryz.prog.cellsOf 3)) = some y7 := hf 7 _ rfl
 have h8 : DataW.trod enc Tryz.prog W 0 (fun _ => true) true n 3 ((([v0, v1, v2, v3, v4, v5, v6, v7, v8, v9, v10, v11, v12, v13, v14, v15, v16] : List Value).drop 16).take (Tryz.prog.cellsOf 3)) = some y8 := hf 8 _ rfl
 simp only [cA, cP, cQ, cI, List.drop_zero, List.drop_succ_cons, List.take_succ_cons, List.take_zero] at h0 h1 h2 h3 h4 h5 h6 h7 h8
 obtain ⟨fr, e0, _, _⟩ := DataW.trod_int Tryz.underlying3 h0
 obtain rfl := one_val e0
 obtain ⟨tz, e1, _, _⟩ := DataW.trod_int Tryz.underlying3 h1
 obtain rfl := one_val e1
 obtain ⟨sf, sh, sl, sn, e2, ok2⟩ := pfx_cells h2
 simp only [List.cons.injEq, and_true] at e2
 obtain ⟨rfl, rfl, rfl, rfl⟩ := e2
 obtain ⟨df, dh, dl, dn, e3, ok3⟩ := pfx_cells h3
 simp only [List.cons.injEq, and_true] at e3
 obtain ⟨rfl, rfl, rfl, rfl⟩ := e3
 obtain ⟨pr, e4, _, _⟩ := DataW.trod_int Tryz.underlying3 h4
 obtain rfl := one_val e4
 obtain ⟨pa, pb, e5⟩ := prt_cells h5
 simp only [List.cons.injEq, and_true] at e5
 obtain ⟨rfl, rfl⟩ := e5
 obtain ⟨qa, qb, e6⟩ := prt_cells h6
 simp only [List.cons.injEq, and_true] at e6
 obtain ⟨rfl, rfl⟩ := e6
 obtain ⟨ac, e7, _, _⟩ := DataW.trod_int Tryz.underlying3 h7
 obtain rfl := one_val e7
 obtain ⟨he, e8, _, _⟩ := DataW.trod_int Tryz.underlying3 h8
 obtain rfl := one_val e8
 exact ⟨⟨fr, tz, ⟨sf, sh, sl⟩, sn, ⟨df, dh, dl⟩, dn, pr, pa, pb, qa, qb, ac, he⟩, rfl, ok2, ok3⟩
theorem ls11 {cs : List Value} (h : cs.length = 11) : ∃ v0 v1 v2 v3 v4 v5 v6 v7 v8 v9 v10, cs = [v0, v1, v2, v3, v4, v5, v6, v7, v8, v9, v10] := by
 match cs, h with
 | [v0, v1, v2, v3, v4, v5, v6, v7, v8, v9, v10], _ => exact ⟨v0, v1, v2, v3, v4, v5, v6, v7, v8, v9, v10, rfl⟩
set_option maxRecDepth 100000 in
theorem key_cells {H : Type} {enc : TypeId × Value → H} {W : World} {fuel : Nat} {cs : List Value} {y : DataW H × List MemPlace} (hf0 : DataW.trod enc Tryz.prog W 0 (fun _ => true) true fuel 33 cs = some y) :
  ∃ q : Ky, cs = q.v.toList ∧ q.ok := by
 have cc : Tryz.prog.cellsOf 33 = 11 := by kernel_rfl
 have cA : Tryz.prog.cellsOf 31 = 3 := by kernel_rfl
 have cP : Tryz.prog.cellsOf 78 = 4 := by kernel_rfl
 have cQ : Tryz.prog.cellsOf 80 = 2 := by kernel_rfl
 have cI : Tryz.prog.cellsOf 3 = 1 := by kernel_rfl
 obtain ⟨xs, n, _, hx, hl, hlen, hf⟩ := DataW.trod_struct Tryz.underlying33 hf0
 obtain ⟨v0, v1, v2, v3, v4, v5, v6, v7, v8, v9, v10, rfl⟩ := ls11 (hl.trans cc)
 obtain ⟨y0, y1, y2, y3, y4, y5, y6, rfl⟩ : ∃ y0 y1 y2 y3 y4 y5 y6, xs = [y0, y1, y2, y3, y4, y5, y6] := by
  match xs, hlen with
  | [y0, y1, y2, y3, y4, y5, y6], _ => exact ⟨y0, y1, y2, y3, y4, y5, y6, rfl⟩
 have h0 : DataW.trod enc Tryz.prog W 0 (fun _ => true) true n 3 ((([v0, v1, v2, v3, v4, v5, v6, v7, v8, v9, v10] : List Value).drop 0).take (Tryz.prog.cellsOf 3)) = some y0 := hf 0 _ rfl
 have h1 : DataW.trod enc Tryz.prog W 0 (fun _ => true) true n 3 ((([v0, v1, v2, v3, v4, v5, v6, v7, v8, v9, v10] : List Value).drop 1).take (Tryz.prog.cellsOf 3)) = some y1 := hf 1 _ rfl
 have h2 : DataW.trod enc Tryz.prog W 0 (fun _ => true) true n 31 ((([v0, v1, v2, v3, v4, v5, v6, v7, v8, v9, v10] : List Value).drop 2).take (Tryz.prog.cellsOf 31)) = some y2 := hf 2 _ rfl
 have h3 : DataW.trod enc Tryz.prog W 0 (fun _ => true) true n 31 ((([v0, v1, v2, v3, v4, v5, v6, v7, v8, v9, v10] : List Value).drop 5).take (Tryz.prog.cellsOf 31)) = some y3 := hf 3 _ rfl
 have h4 : DataW.trod enc Tryz.prog W 0 (fun _ => true) true n 3 ((([v0, v1, v2, v3, v4, v5, v6, v7, v8, v9, v10] : List Value).drop 8).take (Tryz.prog.cellsOf 3)) = some y4 := hf 4 _ rfl
 have h5 : DataW.trod enc Tryz.prog W 0 (fun _ => true) true n 3 ((([v0, v1, v2, v3, v4, v5, v6, v7, v8, v9, v10] : List Value).drop 9).take (Tryz.prog.cellsOf 3)) = some y5 := hf 5 _ rfl
 have h6 : DataW.trod enc Tryz.prog W 0 (fun _ => true) true n 3 ((([v0, v1, v2, v3, v4, v5, v6, v7, v8, v9, v10] : List Value).drop 10).take (Tryz.prog.cellsOf 3)) = some y6 := hf 6 _ rfl
 simp only [cA, cP, cQ, cI, List.drop_zero, List.drop_succ_cons, List.take_succ_cons, List.take_zero] at h0 h1 h2 h3 h4 h5 h6
 obtain ⟨fr, e0, _, _⟩ := DataW.trod_int Tryz.underlying3 h0
 obtain rfl := one_val e0
 obtain ⟨tz, e1, _, _⟩ := DataW.trod_int Tryz.underlying3 h1
 obtain rfl := one_val e1
 obtain ⟨sf, sh, sl, e2, ok2⟩ := adr_cells h2
 simp only [List.cons.injEq, and_true] at e2
 obtain ⟨rfl, rfl, rfl⟩ := e2
 obtain ⟨df, dh, dl, e3, ok3⟩ := adr_cells h3
 simp only [List.cons.injEq, and_true] at e3
 obtain ⟨rfl, rfl, rfl⟩ := e3
 obtain ⟨pr, e4, _, _⟩ := DataW.trod_int Tryz.underlying3 h4
 obtain rfl := one_val e4
 obtain ⟨sp, e5, _, _⟩ := DataW.trod_int Tryz.underlying3 h5
 obtain rfl := one_val e5
 obtain ⟨dp, e6, _, _⟩ := DataW.trod_int Tryz.underlying3 h6
 obtain rfl := one_val e6
 exact ⟨⟨fr, tz, ⟨sf, sh, sl⟩, ⟨df, dh, dl⟩, pr, sp, dp⟩, rfl, ok2, ok3⟩
set_option maxRecDepth 100000 in
theorem open_key {H : Type} {enc : TypeId × Value → H} {W : World} {base : Nat} {v : Value} {d : DataW H} {p : List MemPlace}
  (hv : Value.okWide Tryz.prog W .any base 33 v) (h : DataW.Trod enc Tryz.prog W 0 (fun _ => true) true 33 v d p) :
  ∃ q : Ky, v = .agg q.v ∧ q.ok := by
 obtain ⟨cs, rfl, _⟩ := okWide_struct Tryz.underlying33 hv
 obtain ⟨fuel, hf⟩ := h
 obtain ⟨q, e, ok⟩ := key_cells hf
 refine ⟨q, ?_, ok⟩
 simp only [Value.cells] at e
 congr 1
 exact Array.ext' e
set_option maxRecDepth 100000 in
theorem open_rules {H : Type} {enc : TypeId × Value → H} {W : World} {base : Nat} {v : Value} {d : DataW H} {p : List MemPlace}
  (hv : Value.okWide Tryz.prog W .any base 40 v) (h : DataW.Trod enc Tryz.prog W 0 (fun _ => true) true 40 v d p) (hsz : ∀ n ∈ d.weights Tryz.prog 40, n ≤ reachBytes) :
  ∃ (a : Option Addr) (cap : Nat) (l : List Rl), v = .slice a l.length cap ∧ l.length ≤ cap ∧ (cap * 136 ≤ 140737488351232 ∧ (a = none → cap = 0)) ∧ RowR W a l := by
 obtain ⟨a0, len0, cap0, rfl⟩ := okWide_slice Tryz.underlying40 hv
 obtain ⟨fuel, hf⟩ := h
 rcases Deep.open_slice Tryz.underlying40 hf with ⟨hcs, _⟩ | ⟨x, l, c, m, n, D, Pl, hcs, _, hl, hm, hmm, hx, hcell⟩
 ·simp [Value.cells] at hcs
  obtain ⟨rfl, rfl, rfl⟩ := hcs
  exact ⟨none, 0, [], rfl, Nat.le_refl _, ⟨by omega, fun _ => rfl⟩, by simp, fun i q h => by simp at h⟩
 ·simp [Value.cells] at hcs
  obtain ⟨rfl, rfl, rfl⟩ := hcs
  simp only [if_true] at hmm
  subst hmm
  simp only [Prod.mk.injEq] at hx
  obtain ⟨rfl, _⟩ := hx
  have hbe : Program.bytesOf Tryz.prog 82 = 136 := by kernel_rfl
  have hce : Program.cellsOf Tryz.prog 82 = 17 := by kernel_rfl
  have hn := hsz ((((List.range len0).map D).length + ((List.range (m - len0)).map fun j => D (len0 + j)).length) * 136) (by simp only [DataW.weights, Tryz.underlying40, hbe]; exact List.mem_cons_self ..)
  simp only [List.length_map, List.length_range, reachBytes] at hn
  have each : ∀ i, i < len0 → ∃ q : Rl, q.ok ∧ ∀ j v, q.v[j]? = some v → W.cell? ((x.add (i * 17)).add j) = some v := by
   intro i hi
   obtain ⟨cs', h1, h2⟩ := hcell i (by omega)
   rw [hce] at h1
   obtain ⟨_, hlen, hc⟩ := World.cells?_some h1
   obtain ⟨q, e, hq⟩ := rule_cells h2
   refine ⟨q, hq, fun j v hj => ?_⟩
   have hj' : j < 17 := by
    have := (Array.getElem?_eq_some_iff.1 hj).1
    simpa using this
   have h3 := hc j (by omega)
   rw [h3, e]
   have : q.v.toList[j]? = some v := by simpa using hj
   exact this
  obtain ⟨l, hl1, hl2⟩ := list_of len0 each
  refine ⟨some x, m, l, by rw [hl1], by omega, ⟨by omega, fun h => by cases h⟩, fun q hq => ?_, fun i q hq => ?_⟩
  ·obtain ⟨i, hi⟩ := List.mem_iff_getElem?.1 hq
   exact (hl2 i q hi).1
  ·obtain ⟨_, c0⟩ := hl2 i q hq
   obtain ⟨b, off, spot⟩ := x
   have hil : i < l.length := (List.getElem?_eq_some_iff.1 hq).1
   obtain ⟨q0, hq0⟩ : ∃ q0, l[0]? = some q0 := ⟨_, List.getElem?_eq_getElem (by omega)⟩
   have hspot : spot = none := by simpa [Addr.add] using World.cell?_spot ((hl2 0 q0 hq0).2 0 _ rfl)
   subst hspot
   refine ⟨b, off, rfl, ?_, fun j v hj => ?_⟩
   ·have := c0 0 _ rfl
    rw [Go.WideShapes.add_plain, Go.WideShapes.add_plain] at this
    exact World.block_lt_of_cell? W _ this
   ·have := c0 j v hj
    rw [Go.WideShapes.add_plain, Go.WideShapes.add_plain] at this
    exact this
end Go.Proofs.YtmfgjicfdjjihaaGreatDoor
namespace Go.Proofs.YtmfgjicfdjjihaaGreatDoor
open Go.ChangeShapes Go.WideShapes Go.ChangeAt Go.RowKit
set_option linter.unusedVariables false
set_option linter.unusedSimpArgs false
theorem gTop : Tryz.prog.globalNamed "stockade/chunk.greatest" = some 2 := by kernel_rfl
theorem gTopType : (Tryz.prog.globals[2]?).map (·.type) = some 86 := by kernel_rfl
theorem pt_cells {H : Type} {enc : TypeId × Value → H} {W : World} {base : Nat} {spare : TypeId → Bool} {held : Bool} {n : Nat} {cs : List Value} {y : DataW H × List MemPlace}
  (h : DataW.trod enc Tryz.prog W base spare held n 86 cs = some y) : ∃ a b c, cs = [.int .u64 a, .int .u64 b, .int .u64 c] ∧ Pt.ok ⟨a, b, c⟩ ∧ y.1 = .agg [.lit (.int .u64 a), .lit (.int .u64 b), .lit (.int .u64 c)] := by
 obtain ⟨y0, y1, y2, k, hy, hl, h0, h1, h2⟩ := Go.Deep.trod_struct3 Tryz.underlying86 h
 have c24 : Tryz.prog.cellsOf 86 = 3 := by kernel_rfl
 have c22 : Tryz.prog.cellsOf 29 = 1 := by kernel_rfl
 rw [c24] at hl
 obtain ⟨v0, v1, v2, rfl⟩ := lst3 hl
 simp only [c22] at h0 h1 h2
 obtain ⟨f, e0, q0, w0⟩ := DataW.trod_int Tryz.underlying29 h0
 obtain ⟨g, e1, q1, w1⟩ := DataW.trod_int Tryz.underlying29 h1
 obtain ⟨l, e2, q2, w2⟩ := DataW.trod_int Tryz.underlying29 h2
 simp only [List.drop_zero, List.drop_succ_cons, List.take_succ_cons, List.take_zero, List.cons.injEq, and_true] at e0 e1 e2
 subst e0 e1 e2
 refine ⟨_, _, _, rfl, ?_, ?_⟩
 ·refine ⟨?_, ?_, ?_⟩
  ·simpa [Lit.wf, IntKind.min, IntKind.max, IntKind.signed, IntKind.bits] using w0
  ·simpa [Lit.wf, IntKind.min, IntKind.max, IntKind.signed, IntKind.bits] using w1
  ·simpa [Lit.wf, IntKind.min, IntKind.max, IntKind.signed, IntKind.bits] using w2
 ·rw [hy, q0, q1, q2]
theorem top_of {W : World} {rest : List (String × DataW Unit)} (h : laidMet Tryz.prog (("stockade/chunk.greatest", Rows.laid_stockade_chunk_greatest) :: rest) W) : Top W := by
 obtain ⟨ps, ⟨g', t', cs, fuel, p, q, hg', ht', hvar, hd, _, _⟩, _⟩ := h
 obtain rfl := Option.some.inj (gTop.symm.trans hg')
 obtain rfl := Option.some.inj (gTopType.symm.trans ht')
 obtain ⟨a, b, c, e, _, he⟩ := pt_cells hd
 simp only [Rows.laid_stockade_chunk_greatest, DataW.agg.injEq, List.cons.injEq, DataW.lit.injEq, Lit.int.injEq, and_true, true_and] at he
 obtain ⟨rfl, rfl, rfl⟩ := he
 have hcs : cs = ptTop.v := Array.ext' e
 subst hcs
 have hc := fun i => World.var?_cell gTop hvar i
 exact ⟨World.block_lt_of_cell? W ⟨2, 0, none⟩ (hc 0), fun j v hv => by rw [Nat.zero_add, hc j]; exact hv⟩
/-- What a flat datum lays, cell by cell. -/
def lay1 : DataW Unit → Value
 | .lit (.int k n) => .int k n
 | _ => .bool false
def layA : DataW Unit → List Value
 | .agg ds => ds.map lay1
 | _ => []
def layOne (vs : List Value) : Obj → Obj
 | .cells _ t frozen => .cells vs.toArray t frozen
 | o => o
theorem gDeb : Tryz.prog.globalNamed "math/bits.deBruijn64tab" = some 3 := by kernel_rfl
theorem gDebType : (Tryz.prog.globals[3]?).map (·.type) = some 152 := by kernel_rfl
theorem gSds : Tryz.prog.globalNamed "stockade/rfc.sides" = some 1 := by kernel_rfl
theorem gSdsType : (Tryz.prog.globals[1]?).map (·.type) = some 71 := by kernel_rfl
set_option maxRecDepth 100000 in
theorem deb_of {W : World} {rest : List (String × DataW Unit)} (h : laidMet Tryz.prog (("math/bits.deBruijn64tab", Rows.laid_math_bits_deBruijn64tab) :: rest) W) : Deb W := by
 have h1 : laidMet Tryz.prog (("math/bits.deBruijn64tab", Lib.tabData .u8 (debT.map fun n : Nat => (n : Int))) :: rest) W := h
 have h2 := Lib.tabIs_of_head gDeb gDebType Tryz.underlying152 Tryz.underlying5 (by kernel_rfl) (by kernel_rfl) h1
 have hc := fun i => World.var?_cell gDeb h2 i
 have ev : ((debT.map fun n : Nat => (n : Int)).map fun z => Value.int .u8 z).toArray = debV := by unfold debV; rw [List.map_map]; rfl
 rw [ev] at hc
 exact ⟨World.block_lt_of_cell? W ⟨3, 0, none⟩ (hc 0), fun j v hv => by rw [Nat.zero_add, hc j]; exact hv⟩
set_option maxRecDepth 100000 in
theorem sds_of {W : World} {rest : List (String × DataW Unit)} (h : laidMet Tryz.prog (("stockade/rfc.sides", Rows.laid_stockade_rfc_sides) :: rest) W) : Sds W := by
 obtain ⟨ps, ⟨g', t', cs, fuel, p, q, hg', ht', hvar, hd, _, _⟩, _⟩ := h
 obtain rfl := Option.some.inj (gSds.symm.trans hg')
 obtain rfl := Option.some.inj (gSdsType.symm.trans ht')
 obtain ⟨xs, m, rfl, hx, hl, hxl, hall⟩ := DataW.trod_array Tryz.underlying71 hd
 have c6 : Tryz.prog.cellsOf 71 = 12 := by kernel_rfl
 have c2 : Tryz.prog.cellsOf 70 = 2 := by kernel_rfl
 have c1 : Tryz.prog.cellsOf 3 = 1 := by kernel_rfl
 rw [c6] at hl
 rw [c2] at hall
 have hxs : xs.map (·.1) = [Lib.tabData .i64 [0, 1], Lib.tabData .i64 [2, 3], Lib.tabData .i64 [5, 6], Lib.tabData .i64 [8, 9], Lib.tabData .i64 [10, 4], Lib.tabData .i64 [11, 7]] := by
  have := congrArg Prod.fst hx
  simp only [Rows.laid_stockade_rfc_sides, DataW.agg.injEq] at this
  exact this.symm
 have hpair : ∀ (i : Nat) (a b : Int), i < 6 → (xs.map (·.1))[i]? = some (Lib.tabData .i64 [a, b]) → (cs.toList.drop (i * 2)).take 2 = [.int .i64 a, .int .i64 b] := fun i a b hi hd' => by
  rw [List.getElem?_map, Option.map_eq_some_iff] at hd'
  obtain ⟨⟨d, pp⟩, h1, h2⟩ := hd'
  have h3 := hall i hi
  rw [h1] at h3
  simp only at h2
  subst h2
  exact Lib.cells_of_tab Tryz.underlying70 Tryz.underlying3 c1 c2 h3
 rw [hxs] at hpair
 have p0 := hpair 0 0 1 (by omega) rfl
 have p1 := hpair 1 2 3 (by omega) rfl
 have p2 := hpair 2 5 6 (by omega) rfl
 have p3 := hpair 3 8 9 (by omega) rfl
 have p4 := hpair 4 10 4 (by omega) rfl
 have p5 := hpair 5 11 7 (by omega) rfl
 have hcs : cs = sdV := by
  refine Array.ext' ?_
  obtain ⟨v0, v1, v2, v3, v4, v5, v6, v7, v8, v9, va, vb, e⟩ : ∃ v0 v1 v2 v3 v4 v5 v6 v7 v8 v9 va vb, cs.toList = [v0, v1, v2, v3, v4, v5, v6, v7, v8, v9, va, vb] := by
   match cs.toList, hl with
   | [v0, v1, v2, v3, v4, v5, v6, v7, v8, v9, va, vb], _ => exact ⟨v0, v1, v2, v3, v4, v5, v6, v7, v8, v9, va, vb, rfl⟩
  rw [e] at p0 p1 p2 p3 p4 p5 ⊢
  simp only [Nat.zero_mul, Nat.one_mul, Nat.reduceMul, List.drop_zero, List.drop_succ_cons, List.take_succ_cons, List.take_zero, List.cons.injEq, and_true] at p0 p1 p2 p3 p4 p5
  obtain ⟨rfl, rfl⟩ := p0
  obtain ⟨rfl, rfl⟩ := p1
  obtain ⟨rfl, rfl⟩ := p2
  obtain ⟨rfl, rfl⟩ := p3
  obtain ⟨rfl, rfl⟩ := p4
  obtain ⟨rfl, rfl⟩ := p5
  rfl
 subst hcs
 have hc := fun i => World.var?_cell gSds hvar i
 exact ⟨World.block_lt_of_cell? W ⟨1, 0, none⟩ (hc 0), fun j v hv => by rw [Nat.zero_add, hc j]; exact hv⟩
/-- What a datum of arrays lays, cell by cell. -/
def layB : DataW Unit → List Value
 | .agg ds => ds.flatMap layA
 | _ => []
end Go.Proofs.YtmfgjicfdjjihaaGreatDoor
namespace Go.Proofs.YtmfgjicfdjjihaaGreatDoor
open Go.RowKit
set_option linter.unusedVariables false
set_option linter.unusedSimpArgs false
/-- A cross may be, whose sides have a and b sets. -/
def RightX (a b : Nat) (x : CrR) : Prop := x.wd = (b : Int) ∧ 1 ≤ b ∧ x.K.length = a * b ∧ RightK x.K x.S.length ∧ ∀ s ∈ x.S, RiseI s
set_option maxRecDepth 100000 in
set_option maxHeartbeats 4000000 in
theorem within_lk (a : Option Addr) (c : Nat) (l : List Int) (lo hi : Int) (w : World) (h : RowI w a l) :
  Calls Tryz.prog 24 #[.slice a l.length c, .int .i64 lo, .int .i64 hi] w fun e w' => Tells e (∀ x ∈ l, lo ≤ x ∧ x ≤ hi) ∧ Below w.heap.size w w' := by
 have hs := h.small
 obtain ⟨N, hN⟩ : ∃ N, l.length = N := ⟨_, rfl⟩
 have HN : Hid (l.length = N) := hN
 have HR : Hid (RowI w a l) := h
 rw [hN] at hs ⊢
 clear h hN
 go_enter Tryz.func24, Tryz.ntmps24
 go_wp2_with fail
 go_loopw [11] (fun i wr => ∃ (k : Nat), k ≤ N ∧ i = .int .i64 k ∧ Below w.heap.size w wr ∧ Hid (∀ (j : Nat) (x : Int), j < k → l[j]? = some x → lo ≤ x ∧ x ≤ hi)) (fun i _ => N - (intOf i).toNat)
 case atStart => exact ⟨0, Nat.zero_le _, rfl, Below.refl _ _, fun j p hj => by omega⟩
 case round =>
  obtain ⟨k, hk, rfl, qb, qe⟩ := hrel
  by_cases hlt : k < N
  ·have ik : (k : Int) < (N : Int) := by omega
   obtain ⟨x, hx⟩ : ∃ x, l[k]? = some x := ⟨_, List.getElem?_eq_getElem (by rw [HN.out]; exact hlt)⟩
   have HX : Hid (l[k]? = some x) := hx
   obtain ⟨b, off, ha, hcs⟩ := (HR.out.below qb).cells (by rw [HN.out]; omega)
   have q0 := hcs k (by rw [HN.out]; omega)
   rw [show l.getD k 0 = x by simp [hx]] at q0
   subst ha
   clear hcs hx
   by_cases h0 : x < lo
   ·have HF : Hid (¬ ∀ x ∈ l, lo ≤ x ∧ x ≤ hi) := fun hh => by
     have := hh x (List.mem_of_getElem? HX.out)
     omega
    clear qe
    go_wp2
    go_ret
    exact ⟨Tells.no HF.out, qb⟩
   ·by_cases h1 : hi < x
    ·have HF : Hid (¬ ∀ x ∈ l, lo ≤ x ∧ x ≤ hi) := fun hh => by
      have := hh x (List.mem_of_getElem? HX.out)
      omega
     clear qe
     go_wp2
     go_ret
     exact ⟨Tells.no HF.out, qb⟩
    ·have qe' : Hid (∀ (j : Nat) (x : Int), j < k + 1 → l[j]? = some x → lo ≤ x ∧ x ≤ hi) := fun j y hj hy => by
      by_cases e : j = k
      ·subst e
       rw [HX.out] at hy
       cases hy
       omega
      ·exact qe.out j y (by omega) hy
     clear qe
     go_wp2
     exact ⟨⟨k + 1, by omega, by go_num, qb, qe'⟩, by simp [intOf]; omega⟩
  ·have ik : ¬ (k : Int) < (N : Int) := by omega
   have HT : Hid (∀ x ∈ l, lo ≤ x ∧ x ≤ hi) := fun x hx => by
    obtain ⟨j, hj⟩ := List.getElem?_of_mem hx
    have h1 := (List.getElem?_eq_some_iff.1 hj).1
    have h2 := HN.out
    exact qe.out j x (by omega) hj
   clear qe
   go_wp2
   go_ret
   exact ⟨Tells.yes HT.out, qb⟩
/-- The last of the first k. -/
def lastK (l : List Int) : Nat → Int
 | 0 => -1
 | k + 1 => l.getD k 0
/-- The first k are rising, and from 0 on. -/
def RiseK (l : List Int) (k : Nat) : Prop := ∀ j, j < k → lastK l j < l.getD j 0
theorem riseK_all {l : List Int} (h : RiseK l l.length) : RiseI l := by
 refine ⟨fun x hx => ?_, fun i x y hx hy => ?_⟩
 ·have h0 := (List.getElem?_eq_some_iff.1 hx).1
  have := h 0 h0
  rw [List.getD_eq_getElem?_getD, hx] at this
  simp only [lastK, Option.getD_some] at this
  omega
 ·have h0 := (List.getElem?_eq_some_iff.1 hy).1
  have := h (i + 1) h0
  rw [List.getD_eq_getElem?_getD, hy] at this
  simp only [lastK, Option.getD_some] at this
  rw [List.getD_eq_getElem?_getD, hx] at this
  exact this
theorem rise_not {l : List Int} {k : Nat} {x : Int} (hx : l[k]? = some x) (h : x ≤ lastK l k) : ¬ RiseI l := fun ⟨h1, h2⟩ => by
 cases k with
 | zero => have := h1 x hx; simp only [lastK] at h; omega
 | succ k =>
  have h0 := (List.getElem?_eq_some_iff.1 hx).1
  obtain ⟨y, hy⟩ : ∃ y, l[k]? = some y := ⟨_, List.getElem?_eq_getElem (by omega)⟩
  have := h2 k y x hy hx
  simp only [lastK, List.getD_eq_getElem?_getD, hy, Option.getD_some] at h
  omega
set_option maxRecDepth 100000 in
set_option maxHeartbeats 8000000 in
theorem rightSets_lk (a : Option Addr) (c : Nat) (S : List (List Int)) (w : World) (h : RowS w a S) :
  Calls Tryz.prog 53 #[.slice a S.length c] w fun e w' => Tells e (∀ s ∈ S, RiseI s) ∧ Below w.heap.size w w' := by
 have hs := h.small
 obtain ⟨N, hN⟩ : ∃ N, S.length = N := ⟨_, rfl⟩
 have HN : Hid (S.length = N) := hN
 have HR : Hid (RowS w a S) := h
 rw [hN] at hs ⊢
 clear h hN
 go_enter Tryz.func53, Tryz.ntmps53
 go_wp2_with fail
 go_loopw [10] (fun i wr => ∃ (k : Nat), k ≤ N ∧ i = .int .i64 k ∧ Below w.heap.size w wr ∧ Hid (∀ (j : Nat) (s : List Int), j < k → S[j]? = some s → RiseI s)) (fun i _ => N - (intOf i).toNat)
 case atStart => exact ⟨0, Nat.zero_le _, rfl, Below.refl _ _, fun j p hj => by omega⟩
 case round =>
  obtain ⟨k, hk, rfl, qb, qe⟩ := hrel
  by_cases hlt : k < N
  ·have ik : (k : Int) < (N : Int) := by omega
   obtain ⟨s, hs⟩ : ∃ s, S[k]? = some s := ⟨_, List.getElem?_eq_getElem (by rw [HN.out]; exact hlt)⟩
   have HX : Hid (S[k]? = some s) := hs
   obtain ⟨b, off, ai, ci, ha, q0, hri⟩ := (HR.out.below qb).cells k s hs
   subst ha
   have HF : Hid (¬ RiseI s → ¬ ∀ s ∈ S, RiseI s) := fun h1 h2 => h1 (h2 s (List.mem_of_getElem? HX.out))
   have HG : Hid (RiseI s → ∀ (j : Nat) (t : List Int), j < k + 1 → S[j]? = some t → RiseI t) := fun hr j y hj hy => by
    by_cases e : j = k
    ·subst e
     rw [HX.out] at hy
     cases hy
     exact hr
    ·exact qe.out j y (by omega) hy
   have hsm := hri.small
   obtain ⟨M, hM⟩ : ∃ M, s.length = M := ⟨_, rfl⟩
   have HM : Hid (s.length = M) := hM
   have HRI : Hid (RowI wr ai s) := hri
   rw [hM] at q0 hsm
   obtain ⟨Wr, hWr⟩ : ∃ Wr, Wr = wr := ⟨_, rfl⟩
   clear hs qe hM hri
   go_wp2_with fail
   clear q0
   go_loopw [5, 16] (fun v i wq => ∃ (m : Nat), m ≤ M ∧ v = .int .i64 (lastK s m) ∧ i = .int .i64 m ∧ Below w.heap.size w wq ∧ Below wr.heap.size wr wq ∧ Hid (RiseK s m)) (fun _ i _ => M - (intOf i).toNat)
   case atStart => exact ⟨0, Nat.zero_le _, rfl, rfl, qb, Below.refl _ _, fun j hj => by omega⟩
   case round =>
    obtain ⟨m, hm, rfl, rfl, qb2, qq, qe⟩ := hrel
    by_cases hlt2 : m < M
    ·have im : (m : Int) < (M : Int) := by omega
     obtain ⟨x, hx⟩ : ∃ x, s[m]? = some x := ⟨_, List.getElem?_eq_getElem (by rw [HM.out]; exact hlt2)⟩
     have HXm : Hid (s[m]? = some x) := hx
     obtain ⟨b', off', ha', hcs⟩ := (HRI.out.below qq).cells (by rw [HM.out]; omega)
     have q0 := hcs m (by rw [HM.out]; omega)
     rw [show s.getD m 0 = x by simp [hx]] at q0
     obtain ⟨Y, hY⟩ : ∃ Y, lastK s m = Y := ⟨_, rfl⟩
     have HY : Hid (lastK s m = Y) := hY
     rw [hY]
     subst ha'
     clear hcs hx hY
     by_cases h0 : x ≤ Y
     ·have HF' : Hid (¬ ∀ s ∈ S, RiseI s) := HF.out (rise_not HXm.out (by rw [HY.out]; exact h0))
      clear qe
      go_wp2
      go_ret
      exact ⟨Tells.no HF'.out, qb2⟩
     ·have qe' : Hid (RiseK s (m + 1)) := fun j hj => by
       by_cases e : j = m
       ·subst e
        rw [HY.out, List.getD_eq_getElem?_getD, HXm.out]
        simp only [Option.getD_some]
        omega
       ·exact qe.out j (by omega)
      have HL : Hid (lastK s (m + 1) = x) := by show s.getD m 0 = x; rw [List.getD_eq_getElem?_getD, HXm.out]; rfl
      clear qe
      go_wp2
      exact ⟨⟨m + 1, by omega, by rw [HL.out], by go_num, qb2, qq, qe'⟩, by simp [intOf]; omega⟩
    ·have im : ¬ (m : Int) < (M : Int) := by omega
     have hmM : m = M := by omega
     have hg : Hid _ := HG.out (riseK_all (by rw [HM.out, ← hmM]; exact qe.out))
     clear qe
     go_wp2
     exact ⟨⟨k + 1, by omega, by go_num, qb2, hg⟩, by simp [intOf]; omega⟩
  ·have ik : ¬ (k : Int) < (N : Int) := by omega
   have HT : Hid (∀ s ∈ S, RiseI s) := fun x hx => by
    obtain ⟨j, hj⟩ := List.getElem?_of_mem hx
    have h1 := (List.getElem?_eq_some_iff.1 hj).1
    have h2 := HN.out
    exact qe.out j x (by omega) hj
   clear qe
   go_wp2
   go_ret
   exact ⟨Tells.yes HT.out, qb⟩
set_option maxRecDepth 100000 in
set_option maxHeartbeats 8000000 in
theorem rightCross_lk (x : CrR) (a b : Nat) (w : World) (hok : x.ok w) (ha : a ≤ 2147483648) (hb : b ≤ 2147483648) :
  Calls Tryz.prog 23 #[.agg x.v, .int .i64 (a : Int), .int .i64 (b : Int)] w fun e w' => Tells e (RightX a b x) ∧ Below w.heap.size w w' := by
 have hk := hok.i.small
 have hS := hok.s.small
 have HI : Hid (RowI w x.a2 x.K) := hok.i
 have HS : Hid (RowS w x.a3 x.S) := hok.s
 obtain ⟨xw, xa2, xc2, xa3, xc3, xK, xS⟩ := x
 simp only at hk hS HI HS
 have hv : (⟨xw, xa2, xc2, xa3, xc3, xK, xS⟩ : CrR).v = #[.int .i64 xw, .slice xa2 xK.length xc2, .slice xa3 xS.length xc3] := rfl
 rw [hv]
 have HE : Hid (RightX a b ⟨xw, xa2, xc2, xa3, xc3, xK, xS⟩ ↔ xw = (b : Int) ∧ 1 ≤ b ∧ xK.length = a * b ∧ RightK xK xS.length ∧ ∀ s ∈ xS, RiseI s) := Iff.rfl
 obtain ⟨P, hP⟩ : ∃ P, RightX a b ⟨xw, xa2, xc2, xa3, xc3, xK, xS⟩ = P := ⟨_, rfl⟩
 rw [hP] at HE ⊢
 obtain ⟨lk, hlk⟩ : ∃ lk, xK.length = lk := ⟨_, rfl⟩
 obtain ⟨ls, hls⟩ : ∃ ls, xS.length = ls := ⟨_, rfl⟩
 have KW : Hid (∀ W, Below w.heap.size w W → Calls Tryz.prog 24 #[.slice xa2 lk xc2, .int .i64 0, .int .i64 ((ls : Int) - 1)] W fun e w' => Tells e (RightK xK ls) ∧ Below W.heap.size W w') := fun W hb => by
  rw [← hlk]
  refine (within_lk xa2 xc2 xK 0 ((ls : Int) - 1) W (HI.out.below hb)).mono ?_
  rintro e w' ⟨⟨r, rfl, hr⟩, hb'⟩
  refine ⟨⟨r, rfl, ?_⟩, hb'⟩
  rw [hr]
  exact ⟨fun h y hy => by have := h y hy; omega, fun h y hy => by have := h y hy; omega⟩
 have KS : Hid (∀ W, Below w.heap.size w W → Calls Tryz.prog 53 #[.slice xa3 ls xc3] W fun e w' => Tells e (∀ s ∈ xS, RiseI s) ∧ Below W.heap.size W w') := fun W hb => by
  rw [← hls]
  exact rightSets_lk xa3 xc3 xS W (HS.out.below hb)
 rw [hlk] at hk HE ⊢
 rw [hls] at hS HE ⊢
 obtain ⟨pp, hpp⟩ : ∃ pp, a * b = pp := ⟨_, rfl⟩
 have hmul : IntKind.i64.wrap ((a : Int) * (b : Int)) = (pp : Int) := by
  have e : (a : Int) * (b : Int) = (pp : Int) := by rw [← hpp]; simp
  have h1 : pp ≤ 2147483648 * 2147483648 := by rw [← hpp]; exact Nat.mul_le_mul ha hb
  rw [e]
  exact wraps_i64 _ (by omega) (by omega)
 have hsub : IntKind.i64.wrap ((ls : Int) - 1) = (ls : Int) - 1 := by rw [IntKind.wrap_i64]; omega
 rw [hpp] at HE
 obtain ⟨W1, hW1⟩ : ∃ W1, w.alloc (.cells #[.int .i64 xw, .slice xa2 lk xc2, .slice xa3 ls xc3] 60) = W1 := ⟨_, rfl⟩
 have b1 := bel_nw hW1
 have HB1 : Hid (Blk W1 w.heap.size 60 #[.int .i64 xw, .slice xa2 lk xc2, .slice xa3 ls xc3]) := blk_nw hW1
 have c0 := HB1.out.cell 0 _ rfl
 have c1 := HB1.out.cell 1 _ rfl
 have c2 := HB1.out.cell 2 _ rfl
 clear hv hP hlk hls hpp HI HS
 by_cases e1 : xw = (b : Int)
 ·subst e1
  by_cases e2 : 1 ≤ b
  ·have e2' : (1 : Int) ≤ (b : Int) := by omega
   by_cases e3 : lk = pp
   ·subst e3
    have KW' : Hid _ := KW.out W1 b1
    go_enter Tryz.func23, Tryz.ntmps23
    go_wp2_with fail
    refine Calls.mono KW'.out ?_
    rintro e W2 ⟨⟨r, rfl, hr⟩, q2⟩
    have b2 := bel_tr b1 q2
    have c2' := (HB1.out.kept q2).cell 2 _ rfl
    clear c0 c1 c2 KW'
    cases r
    ·have HF : Hid (¬ P) := fun h => by have := hr.2 (HE.out.1 h).2.2.2.1; cases this
     clear hr
     go_wp2
     go_ret
     exact ⟨Tells.no HF.out, b2⟩
    ·have HRK : Hid (RightK xK ls) := hr.1 rfl
     have KS' : Hid _ := KS.out W2 b2
     clear hr
     go_wp2_with fail
     refine Calls.mono KS'.out ?_
     rintro e W3 ⟨⟨r, rfl, hr⟩, q3⟩
     have b3 := bel_tr b2 q3
     clear c2' KS'
     cases r
     ·have HF : Hid (¬ P) := fun h => by have := hr.2 (HE.out.1 h).2.2.2.2; cases this
      clear hr
      go_wp2
      go_ret
      exact ⟨Tells.no HF.out, b3⟩
     ·have HT : Hid P := HE.out.2 ⟨by first | rfl | trivial, e2, by first | rfl | trivial, HRK.out, hr.1 rfl⟩
      clear hr
      go_wp2
      go_ret
      exact ⟨Tells.yes HT.out, b3⟩
   ·have HF : Hid (¬ P) := fun h => e3 (HE.out.1 h).2.2.1
    have e3' : ((lk : Int) == (pp : Int)) = false := by rw [beq_eq_false_iff_ne]; omega
    go_enter Tryz.func23, Tryz.ntmps23
    go_wp2
    go_ret
    exact ⟨Tells.no HF.out, b1⟩
  ·have HF : Hid (¬ P) := fun h => e2 (HE.out.1 h).2.1
   have e2' : ¬ (1 : Int) ≤ (b : Int) := by omega
   go_enter Tryz.func23, Tryz.ntmps23
   go_wp2
   go_ret
   exact ⟨Tells.no HF.out, b1⟩
 ·have HF : Hid (¬ P) := fun h => e1 (HE.out.1 h).1
  have e1' : (xw == (b : Int)) = false := by rw [beq_eq_false_iff_ne]; exact e1
  go_enter Tryz.func23, Tryz.ntmps23
  go_wp2
  go_ret
  exact ⟨Tells.no HF.out, b1⟩
end Go.Proofs.YtmfgjicfdjjihaaGreatDoor
