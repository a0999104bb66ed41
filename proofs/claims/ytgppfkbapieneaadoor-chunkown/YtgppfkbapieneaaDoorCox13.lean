/- Texts joined: CkC FrF FrG FrR -/
import Derived.Test.YtgppfkbapieneaaDoorCox12
import Derived.Deep.QuietTactic
import Derived.BigQuiet
import Derived.BigRegion
import Derived.Deep.RegionWith
import Derived.Deep.RegionHeld3
import Derived.ProofKit
import Derived.OpenShut
import Derived.Lib.SmallJoins
import Derived.Deep.DeepHandedRow
import Derived.Deep.Slices
import Derived.Deep.Strs
import Derived.ChangeSame
namespace Go.Proofs.YtgppfkbapieneaaDoor
open Go.RowKit
set_option linter.unusedVariables false
set_option linter.unusedSimpArgs false
/-- The program's greatest point lies where it was laid. -/
def Top (w : World) : Prop := CellsAt w 0 0 ptTop.v
theorem Top.below {w w' : World} (h : Top w) (hb : Below w.heap.size w w') : Top w' := CellsAt.below h hb
theorem Top.c0 {w : World} (h : Top w) : w.cell? ⟨0, 0, none⟩ = some (.int .u64 18446744073709551615) := h.2 0 _ rfl
theorem Top.c1 {w : World} (h : Top w) : w.cell? ⟨0, 1, none⟩ = some (.int .u64 18446744073709551615) := h.2 1 _ rfl
theorem Top.c2 {w : World} (h : Top w) : w.cell? ⟨0, 2, none⟩ = some (.int .u64 18446744073709551615) := h.2 2 _ rfl
set_option maxRecDepth 100000 in
set_option maxHeartbeats 4000000 in
theorem whole_pc (w : World) (hT : Top w) : Calls Tryd.prog 78 #[] w fun e w' => e = .returned (.agg (pcv pt0 ptTop)) ∧ Below w.heap.size w w' := by
  have hT' := Top.below hT (bel_nw rfl : Below w.heap.size w (w.alloc (.cells z6 65)))
  have c0 := hT'.c0
  have c1 := hT'.c1
  have c2 := hT'.c2
  have d0 := hT.c0
  have d1 := hT.c1
  have d2 := hT.c2
  have hpos := hT.1
  have hne : ¬ 0 = w.heap.size := by omega
  clear hT hT'
  go_enter Tryd.func78, Tryd.ntmps78
  go_wp2
  exact ret_cell (k := 0) Tryd.f78 (by kernel_rfl) (blk_new w (pcv pt0 ptTop) 65) Tryd.underlying65 (by kernel_rfl) (by rfl) rfl ⟨rfl, bel_nw rfl⟩
set_option maxRecDepth 100000 in
set_option maxHeartbeats 4000000 in
theorem behind_pt (p : Pt) (w : World) (hp : p.ok) (ha : p.a < 18446744073709551615) : Calls Tryd.prog 62 #[.agg p.v] w fun e w' => e = .returned (.agg p.next.v) ∧ Below w.heap.size w w' := by
  obtain ⟨a, b, c⟩ := p
  obtain ⟨⟨a0, a1⟩, ⟨b0, b1⟩, ⟨c0, c1⟩⟩ := hp
  simp only at *
  unfold Pt.next
  simp only
  by_cases hc : c < 18446744073709551615
  · rw [if_pos hc]
    have hw : IntKind.u64.wrap (c + 1) = c + 1 := wraps_u64 _ (by omega) (by omega)
    have hne : ¬ c + 1 = 0 := by omega
    go_enter Tryd.func62, Tryd.ntmps62
    go_wp2
    exact ret_cell (k := 2) (g := w.heap.size + 1) Tryd.f62 (by kernel_rfl) (blk1 w _ (Pt.v ⟨a, b, c + 1⟩) 42) Tryd.underlying42 (by kernel_rfl) (by rfl) rfl ⟨rfl, bel_al (bel_nw rfl) rfl⟩
  · rw [if_neg hc]
    have ec : c = 18446744073709551615 := by omega
    subst ec
    clear hc
    have hw0 : IntKind.u64.wrap (18446744073709551615 + 1) = 0 := by kernel_rfl
    by_cases hb : b < 18446744073709551615
    · rw [if_pos hb]
      have hw : IntKind.u64.wrap (b + 1) = b + 1 := wraps_u64 _ (by omega) (by omega)
      have hne : ¬ b + 1 = 0 := by omega
      go_enter Tryd.func62, Tryd.ntmps62
      go_wp2
      exact ret_cell (k := 2) (g := w.heap.size + 1) Tryd.f62 (by kernel_rfl) (blk1 w _ (Pt.v ⟨a, b + 1, 0⟩) 42) Tryd.underlying42 (by kernel_rfl) (by rfl) rfl ⟨rfl, bel_al (bel_nw rfl) rfl⟩
    · rw [if_neg hb]
      have eb : b = 18446744073709551615 := by omega
      subst eb
      clear hb
      have hw : IntKind.u64.wrap (a + 1) = a + 1 := wraps_u64 _ (by omega) (by omega)
      go_enter Tryd.func62, Tryd.ntmps62
      go_wp2
      exact ret_cell (k := 2) (g := w.heap.size + 1) Tryd.f62 (by kernel_rfl) (blk1 w _ (Pt.v ⟨a + 1, 0, 0⟩) 42) Tryd.underlying42 (by kernel_rfl) (by rfl) rfl ⟨rfl, bel_al (bel_nw rfl) rfl⟩
theorem wpList_st {ops : Array Oper} {rest : List Oper} {o : Oper} {ac : Act} {w : World} {Q : Exit → Act → World → Prop} (hgd : o.guard = none) (t : TypeId) (p x : Operand) (ho : o.op = Op.store t p x) (g : Nat) (cs old : Array Value)
    (hp : ac.eval p = .pointer (some ⟨g, 0, none⟩)) (hx : ac.eval x = .agg cs) (hb : Blk w g t old) (hi : (Tryd.prog.info? t).map (·.size) = some cs.size) (ho' : old.size = cs.size) (h1 : cs.all (·.oneCell') = true) (h : wpList Tryd.prog ops Q rest (ac.put o.dst undef) (w.setRow g cs)) : wpList Tryd.prog ops Q (o :: rest) ac w :=
  wpList_plain hgd fun K hK => wp_store_row t p x ho g cs hp hx t old hb hi ho' h1 (hK _ _ h)
set_option maxRecDepth 100000 in
set_option maxHeartbeats 4000000 in
theorem numberPiece_any (n e : Int) (p q : Pt) (w : World) (hT : Top w) (hn : n ≠ e → 0 ≤ n ∧ n ≤ 65535) (hp : (if n = e then pt0 else ptNum n) = p) (hq : (if n = e then ptTop else ptNum n) = q) :
    Calls Tryd.prog 59 #[.int .i64 n, .int .i64 e] w fun e w' => e = .returned (.agg (pcv p q)) ∧ Below w.heap.size w w' := by
  have hb0 : Below w.heap.size w (w.alloc (.cells z6 65)) := bel_nw rfl
  have B0 := blk_new w z6 65
  obtain ⟨W, hW⟩ : ∃ W, w.alloc (.cells z6 65) = W := ⟨_, rfl⟩
  rw [hW] at hb0 B0
  by_cases h : n = e
  · subst h
    rw [if_pos rfl] at hp hq
    subst hp hq
    have K := whole_pc W (hT.below hb0)
    clear hn hT
    go_enter Tryd.func59, Tryd.ntmps59
    go_wp2_with fail
    refine K.mono ?_
    rintro e' W1 ⟨rfl, bb⟩
    have B1 := B0.kept bb
    have b1 := bel_tr hb0 bb
    clear K bb B0 hW hb0
    go_wp2_with (refine wpList_st rfl 65 _ _ rfl w.heap.size (pcv pt0 ptTop) z6 (by rfl) (by rfl) B1 (by kernel_rfl) rfl (by kernel_rfl) ?_)
    exact ret_cell (k := 4) Tryd.f59 (by kernel_rfl) (B1.set _) Tryd.underlying65 (by kernel_rfl) (by rfl) rfl ⟨rfl, below_setRow b1 (Nat.le_refl _) _⟩
  · rw [if_neg h] at hp hq
    subst hp hq
    have K := fun W => number_pt n W (by have := hn h; omega)
    clear hn hT
    go_enter Tryd.func59, Tryd.ntmps59
    go_wp2_with fail
    refine (K _).mono ?_
    rintro e' W1 ⟨rfl, bb⟩
    have B1 := B0.kept bb
    have b1 := bel_tr hb0 bb
    clear bb B0 hW hb0
    go_wp2_with fail
    refine (K _).mono ?_
    rintro e' W2 ⟨rfl, bb⟩
    have B2 := B1.kept bb
    have b2 := bel_tr b1 bb
    clear bb B1 b1
    go_wp2_with (refine wpList_st rfl 65 _ _ rfl w.heap.size (pcv (ptNum n) (ptNum n)) z6 (by rfl) (by rfl) B2 (by kernel_rfl) rfl (by kernel_rfl) ?_)
    exact ret_cell (k := 4) Tryd.f59 (by kernel_rfl) (B2.set _) Tryd.underlying65 (by kernel_rfl) (by rfl) rfl ⟨rfl, below_setRow b2 (Nat.le_refl _) _⟩
abbrev RowR (w : World) (a : Option Addr) (l : List Rl) : Prop := RowN 17 Rl.v (fun _ r => r.ok) w a l
theorem RowR.low {w w' : World} {a : Option Addr} {l : List Rl} (h : RowR w a l) (hb : Below w.heap.size w w') : RowR w' a l := RowN.below (fun h _ => h) h hb
end Go.Proofs.YtgppfkbapieneaaDoor
namespace Go.Proofs.YtgppfkbapieneaaDoor
open Go.RowKit Go.ChangeShapes Go.WideShapes Go.ChangeAt
set_option linter.unusedVariables false
set_option linter.unusedSimpArgs false
set_option linter.constructorNameAsVariable false
theorem ad_ok {f h l : Int} (w0 : (Lit.int .i64 f).wf = true) (w1 : (Lit.int .u64 h).wf = true) (w2 : (Lit.int .u64 l).wf = true) : Ad.ok ⟨f, h, l⟩ := by
  refine ⟨?_, ?_, ?_⟩
  · simpa [Lit.wf, IntKind.min, IntKind.max, IntKind.signed, IntKind.bits] using w0
  · simpa [Lit.wf, IntKind.min, IntKind.max, IntKind.signed, IntKind.bits] using w1
  · simpa [Lit.wf, IntKind.min, IntKind.max, IntKind.signed, IntKind.bits] using w2
theorem lst3 {cs : List Value} (h : cs.length = 3) : ∃ a b c, cs = [a, b, c] := by
  match cs, h with
  | [a, b, c], _ => exact ⟨a, b, c, rfl⟩
theorem lst4 {cs : List Value} (h : cs.length = 4) : ∃ a b c d, cs = [a, b, c, d] := by
  match cs, h with
  | [a, b, c, d], _ => exact ⟨a, b, c, d, rfl⟩
theorem lst2 {cs : List Value} (h : cs.length = 2) : ∃ a b, cs = [a, b] := by
  match cs, h with
  | [a, b], _ => exact ⟨a, b, rfl⟩
theorem one_val {x y : Value} (h : [x] = [y]) : x = y := (List.cons.inj h).1
theorem adr_cells {H : Type} {enc : TypeId × Value → H} {W : World} {n : Nat} {cs : List Value} {y : DataW H × List MemPlace}
    (h : DataW.trod enc Tryd.prog W 0 (fun _ => true) true n 38 cs = some y) : ∃ f h l, cs = [.int .i64 f, .int .u64 h, .int .u64 l] ∧ Ad.ok ⟨f, h, l⟩ := by
  obtain ⟨y0, y1, y2, k, _, hl, h0, h1, h2⟩ := Go.Deep.trod_struct3 Tryd.underlying38 h
  have c24 : Tryd.prog.cellsOf 38 = 3 := by kernel_rfl
  have c3 : Tryd.prog.cellsOf 3 = 1 := by kernel_rfl
  have c22 : Tryd.prog.cellsOf 36 = 1 := by kernel_rfl
  rw [c24] at hl
  obtain ⟨v0, v1, v2, rfl⟩ := lst3 hl
  simp only [c3, c22] at h0 h1 h2
  obtain ⟨f, e0, _, w0⟩ := DataW.trod_int Tryd.underlying3 h0
  obtain ⟨h, e1, _, w1⟩ := DataW.trod_int Tryd.underlying36 h1
  obtain ⟨l, e2, _, w2⟩ := DataW.trod_int Tryd.underlying36 h2
  simp only [List.drop_zero, List.drop_succ_cons, List.take_succ_cons, List.take_zero, List.cons.injEq, and_true] at e0 e1 e2
  subst e0 e1 e2
  exact ⟨_, _, _, rfl, ad_ok w0 w1 w2⟩
theorem pfx_cells {H : Type} {enc : TypeId × Value → H} {W : World} {n : Nat} {cs : List Value} {y : DataW H × List MemPlace}
    (h : DataW.trod enc Tryd.prog W 0 (fun _ => true) true n 51 cs = some y) : ∃ f h l b, cs = [.int .i64 f, .int .u64 h, .int .u64 l, .int .i64 b] ∧ Ad.ok ⟨f, h, l⟩ := by
  obtain ⟨xs, n', _, hx, hl, hlen, hf⟩ := DataW.trod_struct Tryd.underlying51 h
  have c26 : Tryd.prog.cellsOf 51 = 4 := by kernel_rfl
  have cA : Tryd.prog.cellsOf 38 = 3 := by kernel_rfl
  have cI : Tryd.prog.cellsOf 3 = 1 := by kernel_rfl
  obtain ⟨v0, v1, v2, v3, rfl⟩ := lst4 (hl.trans c26)
  obtain ⟨y0, y1, rfl⟩ : ∃ y0 y1, xs = [y0, y1] := by
    match xs, hlen with
    | [y0, y1], _ => exact ⟨y0, y1, rfl⟩
  have h0 : DataW.trod enc Tryd.prog W 0 (fun _ => true) true n' 38 ((([v0, v1, v2, v3] : List Value).drop 0).take (Tryd.prog.cellsOf 38)) = some y0 := hf 0 _ rfl
  have h1 : DataW.trod enc Tryd.prog W 0 (fun _ => true) true n' 3 ((([v0, v1, v2, v3] : List Value).drop 3).take (Tryd.prog.cellsOf 3)) = some y1 := hf 1 _ rfl
  simp only [cA, cI, List.drop_zero, List.drop_succ_cons, List.take_succ_cons, List.take_zero] at h0 h1
  obtain ⟨f, h, l, e, ok⟩ := adr_cells h0
  obtain ⟨b, eb, _, wb⟩ := DataW.trod_int Tryd.underlying3 h1
  simp only [List.cons.injEq, and_true] at e
  obtain ⟨rfl, rfl, rfl⟩ := e
  obtain rfl := one_val eb
  exact ⟨_, _, _, _, rfl, ok⟩
theorem prt_cells {H : Type} {enc : TypeId × Value → H} {W : World} {n : Nat} {cs : List Value} {y : DataW H × List MemPlace}
    (h : DataW.trod enc Tryd.prog W 0 (fun _ => true) true n 53 cs = some y) : ∃ a b, cs = [.int .i64 a, .int .i64 b] := by
  obtain ⟨xs, n', _, hx, hl, hlen, hf⟩ := DataW.trod_struct Tryd.underlying53 h
  have c28 : Tryd.prog.cellsOf 53 = 2 := by kernel_rfl
  have cI : Tryd.prog.cellsOf 3 = 1 := by kernel_rfl
  obtain ⟨v0, v1, rfl⟩ := lst2 (hl.trans c28)
  obtain ⟨y0, y1, rfl⟩ : ∃ y0 y1, xs = [y0, y1] := by
    match xs, hlen with
    | [y0, y1], _ => exact ⟨y0, y1, rfl⟩
  have h0 : DataW.trod enc Tryd.prog W 0 (fun _ => true) true n' 3 ((([v0, v1] : List Value).drop 0).take (Tryd.prog.cellsOf 3)) = some y0 := hf 0 _ rfl
  have h1 : DataW.trod enc Tryd.prog W 0 (fun _ => true) true n' 3 ((([v0, v1] : List Value).drop 1).take (Tryd.prog.cellsOf 3)) = some y1 := hf 1 _ rfl
  simp only [cI, List.drop_zero, List.drop_succ_cons, List.take_succ_cons, List.take_zero] at h0 h1
  obtain ⟨a, ea, _, _⟩ := DataW.trod_int Tryd.underlying3 h0
  obtain ⟨b, eb, _, _⟩ := DataW.trod_int Tryd.underlying3 h1
  obtain rfl := one_val ea
  obtain rfl := one_val eb
  exact ⟨_, _, rfl⟩
theorem ls17 {cs : List Value} (h : cs.length = 17) : ∃ v0 v1 v2 v3 v4 v5 v6 v7 v8 v9 v10 v11 v12 v13 v14 v15 v16, cs = [v0, v1, v2, v3, v4, v5, v6, v7, v8, v9, v10, v11, v12, v13, v14, v15, v16] := by
  match cs, h with
  | [v0, v1, v2, v3, v4, v5, v6, v7, v8, v9, v10, v11, v12, v13, v14, v15, v16], _ => exact ⟨v0, v1, v2, v3, v4, v5, v6, v7, v8, v9, v10, v11, v12, v13, v14, v15, v16, rfl⟩
set_option maxRecDepth 100000 in
theorem rule_cells {H : Type} {enc : TypeId × Value → H} {W : World} {fuel : Nat} {cs : List Value} {y : DataW H × List MemPlace} (hf0 : DataW.trod enc Tryd.prog W 0 (fun _ => true) true fuel 55 cs = some y) :
    ∃ q : Rl, cs = q.v.toList ∧ q.ok := by
  have cc : Tryd.prog.cellsOf 55 = 17 := by kernel_rfl
  have cA : Tryd.prog.cellsOf 38 = 3 := by kernel_rfl
  have cP : Tryd.prog.cellsOf 51 = 4 := by kernel_rfl
  have cQ : Tryd.prog.cellsOf 53 = 2 := by kernel_rfl
  have cI : Tryd.prog.cellsOf 3 = 1 := by kernel_rfl
  obtain ⟨xs, n, _, hx, hl, hlen, hf⟩ := DataW.trod_struct Tryd.underlying55 hf0
  obtain ⟨v0, v1, v2, v3, v4, v5, v6, v7, v8, v9, v10, v11, v12, v13, v14, v15, v16, rfl⟩ := ls17 (hl.trans cc)
  obtain ⟨y0, y1, y2, y3, y4, y5, y6, y7, y8, rfl⟩ : ∃ y0 y1 y2 y3 y4 y5 y6 y7 y8, xs = [y0, y1, y2, y3, y4, y5, y6, y7, y8] := by
    match xs, hlen with
    | [y0, y1, y2, y3, y4, y5, y6, y7, y8], _ => exact ⟨y0, y1, y2, y3, y4, y5, y6, y7, y8, rfl⟩
  have h0 : DataW.trod enc Tryd.prog W 0 (fun _ => true) true n 3 ((([v0, v1, v2, v3, v4, v5, v6, v7, v8, v9, v10, v11, v12, v13, v14, v15, v16] : List Value).drop 0).take (Tryd.prog.cellsOf 3)) = some y0 := hf 0 _ rfl
  have h1 : DataW.trod enc Tryd.prog W 0 (fun _ => true) true n 3 ((([v0, v1, v2, v3, v4, v5, v6, v7, v8, v9, v10, v11, v12, v13, v14, v15, v16] : List Value).drop 1).take (Tryd.prog.cellsOf 3)) = some y1 := hf 1 _ rfl
  have h2 : DataW.trod enc Tryd.prog W 0 (fun _ => true) true n 51 ((([v0, v1, v2, v3, v4, v5, v6, v7, v8, v9, v10, v11, v12, v13, v14, v15, v16] : List Value).drop 2).take (Tryd.prog.cellsOf 51)) = some y2 := hf 2 _ rfl
  have h3 : DataW.trod enc Tryd.prog W 0 (fun _ => true) true n 51 ((([v0, v1, v2, v3, v4, v5, v6, v7, v8, v9, v10, v11, v12, v13, v14, v15, v16] : List Value).drop 6).take (Tryd.prog.cellsOf 51)) = some y3 := hf 3 _ rfl
  have h4 : DataW.trod enc Tryd.prog W 0 (fun _ => true) true n 3 ((([v0, v1, v2, v3, v4, v5, v6, v7, v8, v9, v10, v11, v12, v13, v14, v15, v16] : List Value).drop 10).take (Tryd.prog.cellsOf 3)) = some y4 := hf 4 _ rfl
  have h5 : DataW.trod enc Tryd.prog W 0 (fun _ => true) true n 53 ((([v0, v1, v2, v3, v4, v5, v6, v7, v8, v9, v10, v11, v12, v13, v14, v15, v16] : List Value).drop 11).take (Tryd.prog.cellsOf 53)) = some y5 := hf 5 _ rfl
  have h6 : DataW.trod enc Tryd.prog W 0 (fun _ => true) true n 53 ((([v0, v1, v2, v3, v4, v5, v6, v7, v8, v9, v10, v11, v12, v13, v14, v15, v16] : List Value).drop 13).take (Tryd.prog.cellsOf 53)) = some y6 := hf 6 _ rfl
  have h7 : DataW.trod enc Tryd.prog W 0 (fun _ => true) true n 3 ((([v0, v1, v2, v3, v4, v5, v6, v7, v8, v9, v10, v11, v12, v13, v14, v15, v16] : List Value).drop 15).take (Tryd.prog.cellsOf 3)) = some y7 := hf 7 _ rfl
  have h8 : DataW.trod enc Tryd.prog W 0 (fun _ => true) true n 3 ((([v0, v1, v2, v3, v4, v5, v6, v7, v8, v9, v10, v11, v12, v13, v14, v15, v16] : List Value).drop 16).take (Tryd.prog.cellsOf 3)) = some y8 := hf 8 _ rfl
  simp only [cA, cP, cQ, cI, List.drop_zero, List.drop_succ_cons, List.take_succ_cons, List.take_zero] at h0 h1 h2 h3 h4 h5 h6 h7 h8
  obtain ⟨fr, e0, _, _⟩ := DataW.trod_int Tryd.underlying3 h0
  obtain rfl := one_val e0
  obtain ⟨tz, e1, _, _⟩ := DataW.trod_int Tryd.underlying3 h1
  obtain rfl := one_val e1
  obtain ⟨sf, sh, sl, sn, e2, ok2⟩ := pfx_cells h2
  simp only [List.cons.injEq, and_true] at e2
  obtain ⟨rfl, rfl, rfl, rfl⟩ := e2
  obtain ⟨df, dh, dl, dn, e3, ok3⟩ := pfx_cells h3
  simp only [List.cons.injEq, and_true] at e3
  obtain ⟨rfl, rfl, rfl, rfl⟩ := e3
  obtain ⟨pr, e4, _, _⟩ := DataW.trod_int Tryd.underlying3 h4
  obtain rfl := one_val e4
  obtain ⟨pa, pb, e5⟩ := prt_cells h5
  simp only [List.cons.injEq, and_true] at e5
  obtain ⟨rfl, rfl⟩ := e5
  obtain ⟨qa, qb, e6⟩ := prt_cells h6
  simp only [List.cons.injEq, and_true] at e6
  obtain ⟨rfl, rfl⟩ := e6
  obtain ⟨ac, e7, _, _⟩ := DataW.trod_int Tryd.underlying3 h7
  obtain rfl := one_val e7
  obtain ⟨he, e8, _, _⟩ := DataW.trod_int Tryd.underlying3 h8
  obtain rfl := one_val e8
  exact ⟨⟨fr, tz, ⟨sf, sh, sl⟩, sn, ⟨df, dh, dl⟩, dn, pr, pa, pb, qa, qb, ac, he⟩, rfl, ok2, ok3⟩
set_option maxRecDepth 100000 in
theorem open_rules {H : Type} {enc : TypeId × Value → H} {W : World} {base : Nat} {v : Value} {d : DataW H} {p : List MemPlace}
    (hv : Value.okWide Tryd.prog W .any base 22 v) (h : DataW.Trod enc Tryd.prog W 0 (fun _ => true) true 22 v d p) (hsz : ∀ n ∈ d.weights Tryd.prog 22, n ≤ reachBytes) :
    ∃ (a : Option Addr) (cap : Nat) (l : List Rl), v = .slice a l.length cap ∧ l.length ≤ cap ∧ (cap * 136 ≤ 140737488351232 ∧ (a = none → cap = 0)) ∧ RowR W a l := by
  obtain ⟨a0, len0, cap0, rfl⟩ := okWide_slice Tryd.underlying22 hv
  obtain ⟨fuel, hf⟩ := h
  rcases Deep.open_slice Tryd.underlying22 hf with ⟨hcs, _⟩ | ⟨x, l, c, m, n, D, Pl, hcs, _, hl, hm, hmm, hx, hcell⟩
  · simp [Value.cells] at hcs
    obtain ⟨rfl, rfl, rfl⟩ := hcs
    exact ⟨none, 0, [], rfl, Nat.le_refl _, ⟨by omega, fun _ => rfl⟩, by simp, fun i q h => by simp at h⟩
  · simp [Value.cells] at hcs
    obtain ⟨rfl, rfl, rfl⟩ := hcs
    simp only [if_true] at hmm
    subst hmm
    simp only [Prod.mk.injEq] at hx
    obtain ⟨rfl, _⟩ := hx
    have hbe : Program.bytesOf Tryd.prog 55 = 136 := by kernel_rfl
    have hce : Program.cellsOf Tryd.prog 55 = 17 := by kernel_rfl
    have hn := hsz ((((List.range len0).map D).length + ((List.range (m - len0)).map fun j => D (len0 + j)).length) * 136) (by simp only [DataW.weights, Tryd.underlying22, hbe]; exact List.mem_cons_self ..)
    simp only [List.length_map, List.length_range, reachBytes] at hn
    have each : ∀ i, i < len0 → ∃ q : Rl, q.ok ∧ ∀ j v, q.v[j]? = some v → W.cell? ((x.add (i * 17)).add j) = some v := by
      intro i hi
      obtain ⟨cs', h1, h2⟩ := hcell i (by omega)
      rw [hce] at h1
      obtain ⟨_, hlen, hc⟩ := World.cells?_some h1
      obtain ⟨q, e, hq⟩ := rule_cells h2
      refine ⟨q, hq, fun j v hj => ?_⟩
      have hj' : j < 17 := by
        have := (Array.getElem?_eq_some_iff.1 hj).1
        simpa using this
      have h3 := hc j (by omega)
      rw [h3, e]
      have : q.v.toList[j]? = some v := by simpa using hj
      exact this
    obtain ⟨l, hl1, hl2⟩ := list_of len0 each
    refine ⟨some x, m, l, by rw [hl1], by omega, ⟨by omega, fun h => by cases h⟩, fun q hq => ?_, fun i q hq => ?_⟩
    · obtain ⟨i, hi⟩ := List.mem_iff_getElem?.1 hq
      exact (hl2 i q hi).1
    · obtain ⟨_, c0⟩ := hl2 i q hq
      obtain ⟨b, off, spot⟩ := x
      have hil : i < l.length := (List.getElem?_eq_some_iff.1 hq).1
      obtain ⟨q0, hq0⟩ : ∃ q0, l[0]? = some q0 := ⟨_, List.getElem?_eq_getElem (by omega)⟩
      have hspot : spot = none := by simpa [Addr.add] using World.cell?_spot ((hl2 0 q0 hq0).2 0 _ rfl)
      subst hspot
      refine ⟨b, off, rfl, ?_, fun j v hj => ?_⟩
      · have := c0 0 _ rfl
        rw [Go.WideShapes.add_plain, Go.WideShapes.add_plain] at this
        exact World.block_lt_of_cell? W _ this
      · have := c0 j v hj
        rw [Go.WideShapes.add_plain, Go.WideShapes.add_plain] at this
        exact this
end Go.Proofs.YtgppfkbapieneaaDoor
