/- Texts joined: CkW CkD CkE -/
import Derived.Test.YtgppfkbapieneaaDoorCox13
import Derived.Test.YtgppfkbapieneaaDoorRows
import Derived.Lib.LaidTab
namespace Go.Proofs.YtgppfkbapieneaaDoor
open Go.ChangeShapes Go.WideShapes Go.ChangeAt Go.RowKit
set_option linter.unusedVariables false
set_option linter.unusedSimpArgs false
theorem gTop : Tryd.prog.globalNamed "stockade/chunk.greatest" = some 0 := by kernel_rfl
theorem gTopType : (Tryd.prog.globals[0]?).map (·.type) = some 42 := by kernel_rfl
theorem pt_cells {H : Type} {enc : TypeId × Value → H} {W : World} {base : Nat} {spare : TypeId → Bool} {held : Bool} {n : Nat} {cs : List Value} {y : DataW H × List MemPlace}
    (h : DataW.trod enc Tryd.prog W base spare held n 42 cs = some y) : ∃ a b c, cs = [.int .u64 a, .int .u64 b, .int .u64 c] ∧ Pt.ok ⟨a, b, c⟩ ∧ y.1 = .agg [.lit (.int .u64 a), .lit (.int .u64 b), .lit (.int .u64 c)] := by
  obtain ⟨y0, y1, y2, k, hy, hl, h0, h1, h2⟩ := Go.Deep.trod_struct3 Tryd.underlying42 h
  have c24 : Tryd.prog.cellsOf 42 = 3 := by kernel_rfl
  have c22 : Tryd.prog.cellsOf 36 = 1 := by kernel_rfl
  rw [c24] at hl
  obtain ⟨v0, v1, v2, rfl⟩ := lst3 hl
  simp only [c22] at h0 h1 h2
  obtain ⟨f, e0, q0, w0⟩ := DataW.trod_int Tryd.underlying36 h0
  obtain ⟨g, e1, q1, w1⟩ := DataW.trod_int Tryd.underlying36 h1
  obtain ⟨l, e2, q2, w2⟩ := DataW.trod_int Tryd.underlying36 h2
  simp only [List.drop_zero, List.drop_succ_cons, List.take_succ_cons, List.take_zero, List.cons.injEq, and_true] at e0 e1 e2
  subst e0 e1 e2
  refine ⟨_, _, _, rfl, ?_, ?_⟩
  · refine ⟨?_, ?_, ?_⟩
    · simpa [Lit.wf, IntKind.min, IntKind.max, IntKind.signed, IntKind.bits] using w0
    · simpa [Lit.wf, IntKind.min, IntKind.max, IntKind.signed, IntKind.bits] using w1
    · simpa [Lit.wf, IntKind.min, IntKind.max, IntKind.signed, IntKind.bits] using w2
  · rw [hy, q0, q1, q2]
theorem top_of {W : World} (h : laidMet Tryd.prog [("stockade/chunk.greatest", Rows.laid_stockade_chunk_greatest)] W) : Top W := by
  obtain ⟨ps, ⟨g', t', cs, fuel, p, q, hg', ht', hvar, hd, _, _⟩, _⟩ := h
  obtain rfl := Option.some.inj (gTop.symm.trans hg')
  obtain rfl := Option.some.inj (gTopType.symm.trans ht')
  obtain ⟨a, b, c, e, _, he⟩ := pt_cells hd
  simp only [Rows.laid_stockade_chunk_greatest, DataW.agg.injEq, List.cons.injEq, DataW.lit.injEq, Lit.int.injEq, and_true, true_and] at he
  obtain ⟨rfl, rfl, rfl⟩ := he
  have hcs : cs = ptTop.v := Array.ext' e
  subst hcs
  have hc := fun i => World.var?_cell gTop hvar i
  exact ⟨World.block_lt_of_cell? W ⟨0, 0, none⟩ (hc 0), fun j v hv => by rw [Nat.zero_add, hc j]; exact hv⟩
/-- What a flat datum lays, cell by cell. -/
def lay1 : DataW Unit → Value
  | .lit (.int k n) => .int k n
  | _ => .bool false
def layA : DataW Unit → List Value
  | .agg ds => ds.map lay1
  | _ => []
def layOne (vs : List Value) : Obj → Obj
  | .cells _ t frozen => .cells vs.toArray t frozen
  | o => o
end Go.Proofs.YtgppfkbapieneaaDoor
namespace Go.Proofs.YtgppfkbapieneaaDoor
open Go.RowKit
set_option linter.unusedVariables false
set_option linter.unusedSimpArgs false
set_option maxRecDepth 100000 in
set_option maxHeartbeats 4000000 in
theorem portsPiece_any (lo hi : Int) (w : World) (h1 : 0 ≤ lo ∧ lo ≤ 65535) (h2 : 0 ≤ hi ∧ hi ≤ 65535) :
    Calls Tryd.prog 61 #[.agg #[.int .i64 lo, .int .i64 hi]] w fun e w' => e = .returned (.agg (pcv (ptNum lo) (ptNum hi))) ∧ Below w.heap.size w w' := by
  have K1 := hidW (fun W => number_pt lo W (by omega))
  have K2 := hidW (fun W => number_pt hi W (by omega))
  obtain ⟨W1, hW1⟩ : ∃ W1, w.alloc (.cells #[.int .i64 lo, .int .i64 hi] 53) = W1 := ⟨_, rfl⟩
  obtain ⟨W2, hW2⟩ : ∃ W2, W1.alloc (.cells z6 65) = W2 := ⟨_, rfl⟩
  have b1 := bel_nw hW1
  have b2 := bel_al b1 hW2
  have B1' := blk_nw hW1
  have B1 := B1'.al hW2
  have B2 := blk_nw hW2
  have g1 := B1'.lt
  have gw : w.heap.size ≤ W1.heap.size := Nat.le_of_lt g1
  clear B1' b1
  go_enter Tryd.func61, Tryd.ntmps61
  go_wp2
  refine wp_region_noPanic ?_
  refine wp_region_held_drew (S := fun w'' => Blk w'' w.heap.size 53 #[.int .i64 lo, .int .i64 hi]) (by kernel_rfl) (by exact B1.drew) (fun hHeld => ?_)
  refine wpAnyH_take (i := 0) (oi := { dst := some 3, op := Op.fieldAddr 53 (.tmp 1) 0, type := 0, pos := "piece.go:57", after := #[], guard := none }) (v := (.pointer (some ⟨w.heap.size, 0, none⟩))) rfl (by kernel_rfl) (by kernel_rfl) (by kernel_rfl) (fun _ _ _ h => h) (Or.inl ⟨by rfl, ?_⟩) hHeld ?_
  · intro w9 hSw
    try dsimp only at hSw
    go_simp
  try simp only [Act.put, List.setIfInBounds_toArray, List.set_cons_zero, List.set_cons_succ]
  refine wpAnyH_take (i := 1) (oi := { dst := some 4, op := Op.load 3 (.tmp 3), type := 3, pos := "piece.go:57", after := #[{ on := 0, ground := Ground.data }], guard := none }) (v := (.int .i64 lo)) rfl (by kernel_rfl) (by kernel_rfl) (by kernel_rfl) (fun _ _ _ h => h) (Or.inl ⟨by rfl, fun w9 hSw => by have hc := Blk.cell hSw 0 _ rfl; go_simp⟩) hHeld ?_
  try simp only [Act.put, List.setIfInBounds_toArray, List.set_cons_zero, List.set_cons_succ]
  refine wpAnyH_take (i := 3) (oi := { dst := some 6, op := Op.fieldAddr 53 (.tmp 1) 1, type := 0, pos := "piece.go:57", after := #[], guard := none }) (v := (.pointer (some ⟨w.heap.size, 1, none⟩))) rfl (by kernel_rfl) (by kernel_rfl) (by kernel_rfl) (fun _ _ _ h => h) (Or.inl ⟨by rfl, ?_⟩) hHeld ?_
  · intro w9 hSw
    try dsimp only at hSw
    go_simp
  try simp only [Act.put, List.setIfInBounds_toArray, List.set_cons_zero, List.set_cons_succ]
  refine wpAnyH_take (i := 4) (oi := { dst := some 7, op := Op.load 3 (.tmp 6), type := 3, pos := "piece.go:57", after := #[{ on := 3, ground := Ground.data }], guard := none }) (v := (.int .i64 hi)) rfl (by kernel_rfl) (by kernel_rfl) (by kernel_rfl) (fun _ _ _ h => h) (Or.inl ⟨by rfl, fun w9 hSw => by have hc := Blk.cell hSw 1 _ rfl; go_simp⟩) hHeld ?_
  try simp only [Act.put, List.setIfInBounds_toArray, List.set_cons_zero, List.set_cons_succ]
  refine wpAnyH_ready (rs := [2]) (by kernel_rfl) (by simp) ?_
  refine AllReadyH.cons (o := { dst := some 5, op := Op.call { callee := Callee.value (.func 68), args := #[.tmp 4], argTypes := #[3] }, type := 42, pos := "piece.go:57", after := #[{ on := 1, ground := Ground.data }], guard := none }) rfl (fun K hK => ?_) AllReadyH.nil
  go_simp
  refine Calls.mono (K1.out _) ?_
  rintro e W3 ⟨rfl, bb⟩
  have B13 := B1.drew.kept bb
  have B23 := B2.drew.kept bb
  have b3 := bel_tr b2.drew bb
  refine hK.out _ _ ?_ (fun hHeld => ?_)
  · exact B13
  clear hK K
  try simp only [Act.put, List.setIfInBounds_toArray, List.set_cons_zero, List.set_cons_succ]
  refine wpAnyH_ready (rs := [5]) (by kernel_rfl) (by simp) ?_
  refine AllReadyH.cons (o := { dst := some 8, op := Op.call { callee := Callee.value (.func 68), args := #[.tmp 7], argTypes := #[3] }, type := 42, pos := "piece.go:57", after := #[{ on := 4, ground := Ground.data }, { on := 2, ground := Ground.chain }], guard := none }) rfl (fun K hK => ?_) AllReadyH.nil
  go_simp
  refine Calls.mono (K2.out _) ?_
  rintro e W4 ⟨rfl, bb'⟩
  have B14 := B13.kept bb'
  have B24 := B23.kept bb'
  have b4 := bel_tr b3 bb'
  refine hK.out _ _ ?_ (fun hHeld => ?_)
  · exact B14
  clear hK K
  try simp only [Act.put, List.setIfInBounds_toArray, List.set_cons_zero, List.set_cons_succ]
  refine wpAnyH_take (i := 6) (oi := { dst := some 9, op := Op.build 65 #[(0, .tmp 5), (1, .tmp 8)], type := 65, pos := "piece.go:57", after := #[{ on := 2, ground := Ground.data }, { on := 5, ground := Ground.data }], guard := none }) (v := (.agg (pcv (ptNum lo) (ptNum hi)))) rfl (by kernel_rfl) (by kernel_rfl) (by kernel_rfl) (fun _ _ _ h => h) (Or.inl ⟨by rfl, ?_⟩) hHeld ?_
  · intro w9 hSw
    try dsimp only at hSw
    go_simp
  try simp only [Act.put, List.setIfInBounds_toArray, List.set_cons_zero, List.set_cons_succ]
  refine wpAnyH_ready (rs := [7]) (by kernel_rfl) (by simp) ?_
  refine AllReadyH.cons (o := { dst := none, op := Op.store 65 (.tmp 2) (.tmp 9), type := 0, pos := "piece.go:57", after := #[{ on := 6, ground := Ground.data }, { on := 5, ground := Ground.chain }, { on := 0, ground := Ground.phase }, { on := 1, ground := Ground.phase }, { on := 2, ground := Ground.phase }, { on := 3, ground := Ground.phase }, { on := 4, ground := Ground.phase }, { on := 5, ground := Ground.phase }, { on := 6, ground := Ground.phase }], guard := none }) rfl (fun K hK => ?_) AllReadyH.nil
  refine step_store_blk rfl _ _ _ rfl W1.heap.size (pcv (ptNum lo) (ptNum hi)) _ (by rfl) (by rfl) B24 (by kernel_rfl) (by rfl) (by kernel_rfl) ?_
  refine hK.out _ _ ?_ (fun hHeld => ?_)
  · exact B14.other (Nat.ne_of_lt g1) _
  clear hK K
  try simp only [Act.put, List.setIfInBounds_toArray, List.set_cons_zero, List.set_cons_succ]
  refine wpAnyH_done (by kernel_rfl) ?_ _
  refine NoPanic.normal ?_
  go_wp2
  exact ret_cell (k := 2) Tryd.f61 (by kernel_rfl) (B24.set _) Tryd.underlying65 (by kernel_rfl) (by rfl) rfl ⟨rfl, below_setRow b4 gw _⟩
theorem lastAd_fam (a : Ad) (n : Int) : (lastAd a n).fam = a.fam := rfl
set_option maxRecDepth 100000 in
set_option maxHeartbeats 4000000 in
theorem netPiece_zero (w : World) (hT : Top w) :
    Calls Tryd.prog 60 #[.agg #[.int .i64 0, .int .u64 0, .int .u64 0, .int .i64 0]] w fun e w' => e = .returned (.agg (pcv pt0 ptTop)) ∧ Below w.heap.size w w' := by
  obtain ⟨W1, hW1⟩ : ∃ W1, w.alloc (.cells #[.int .i64 0, .int .u64 0, .int .u64 0, .int .i64 0] 51) = W1 := ⟨_, rfl⟩
  obtain ⟨W2, hW2⟩ : ∃ W2, W1.alloc (.cells z6 65) = W2 := ⟨_, rfl⟩
  have b1 := bel_nw hW1
  have b2 := bel_al b1 hW2
  have B1' := blk_nw hW1
  have B1 := B1'.al hW2
  have B2 := blk_nw hW2
  have gw : w.heap.size ≤ W1.heap.size := Nat.le_of_lt B1'.lt
  have K := whole_pc W2 (hT.below b2)
  have c0 := B1.cell 0 _ rfl
  have c1 := B1.cell 1 _ rfl
  have c2 := B1.cell 2 _ rfl
  have c3 := B1.cell 3 _ rfl
  clear B1' b1 hT B1
  go_enter Tryd.func60, Tryd.ntmps60
  go_wp2_with fail
  refine K.mono ?_
  rintro e' W3 ⟨rfl, bb⟩
  have B3 := B2.kept bb
  have b3 := bel_tr b2 bb
  clear K bb B2 hW1 hW2 b2 c0 c1 c2 c3
  go_wp2_with (refine wpList_st rfl 65 _ _ rfl W1.heap.size (pcv pt0 ptTop) z6 (by rfl) (by rfl) B3 (by kernel_rfl) rfl (by kernel_rfl) ?_)
  exact ret_cell (k := 2) Tryd.f60 (by kernel_rfl) (B3.set _) Tryd.underlying65 (by kernel_rfl) (by rfl) rfl ⟨rfl, below_setRow b3 gw _⟩
set_option maxRecDepth 100000 in
set_option maxHeartbeats 4000000 in
theorem netPiece_some (a : Ad) (n : Int) (w : World) (ho : a.ok) (hp : a.rightPrefix n = true) :
    Calls Tryd.prog 60 #[.agg #[.int .i64 a.fam, .int .u64 a.hi, .int .u64 a.lo, .int .i64 n]] w fun e w' => e = .returned (.agg (pcv (ptAd a) (ptAd (lastAd a n)))) ∧ Below w.heap.size w w' := by
  have hf := right_fam (right_of_prefix hp).1
  have K1 := hidW (fun W => address_pt a W (by omega))
  have K2 := hidW (fun W => last_any a n W ho hp)
  have K3 := hidW (fun W => address_pt (lastAd a n) W (by rw [lastAd_fam]; omega))
  have hne : (a.fam == 0) = false := by rw [beq_eq_false_iff_ne]; omega
  clear ho hp hf
  obtain ⟨f, h, l⟩ := a
  simp only at *
  generalize ptAd (lastAd ⟨f, h, l⟩ n) = P2 at *
  generalize lastAd ⟨f, h, l⟩ n = A2 at *
  generalize ptAd ⟨f, h, l⟩ = P1 at *
  obtain ⟨W1, hW1⟩ : ∃ W1, w.alloc (.cells #[.int .i64 f, .int .u64 h, .int .u64 l, .int .i64 n] 51) = W1 := ⟨_, rfl⟩
  obtain ⟨W2, hW2⟩ : ∃ W2, W1.alloc (.cells z6 65) = W2 := ⟨_, rfl⟩
  have b1 := bel_nw hW1
  have b2 := bel_al b1 hW2
  have B1' := blk_nw hW1
  have B1 := B1'.al hW2
  have B2 := blk_nw hW2
  have g1 := B1'.lt
  have gw : w.heap.size ≤ W1.heap.size := Nat.le_of_lt g1
  have c0 := B1.cell 0 _ rfl
  have c1 := B1.cell 1 _ rfl
  have c2 := B1.cell 2 _ rfl
  have c3 := B1.cell 3 _ rfl
  clear B1' b1
  go_enter Tryd.func60, Tryd.ntmps60
  go_wp2
  refine wp_region_noPanic ?_
  refine wp_region_held_drew (S := fun w'' => Blk w'' w.heap.size 51 #[.int .i64 f, .int .u64 h, .int .u64 l, .int .i64 n]) (by kernel_rfl) (by exact B1.drew) (fun hHeld => ?_)
  refine wpAnyH_take (i := 0) (oi := { dst := some 7, op := Op.fieldAddr 51 (.tmp 1) 0, type := 0, pos := "piece.go:64", after := #[], guard := none }) (v := (.pointer (some ⟨w.heap.size, 0, none⟩))) rfl (by kernel_rfl) (by kernel_rfl) (by kernel_rfl) (fun _ _ _ h => h) (Or.inl ⟨by rfl, ?_⟩) hHeld ?_
  · intro w9 hSw
    try dsimp only at hSw
    go_simp
  try simp only [Act.put, List.setIfInBounds_toArray, List.set_cons_zero, List.set_cons_succ]
  refine wpAnyH_take (i := 1) (oi := { dst := some 8, op := Op.load 38 (.tmp 7), type := 38, pos := "piece.go:64", after := #[{ on := 0, ground := Ground.data }], guard := none }) (v := (.agg #[.int .i64 f, .int .u64 h, .int .u64 l])) rfl (by kernel_rfl) (by kernel_rfl) (by kernel_rfl) (fun _ _ _ h => h) (yieldsIf_sub rfl _ _ rfl w.heap.size 0 51 (by rfl) _ _ (fun _ hSw => hSw) (by rfl) Tryd.underlying38 (by kernel_rfl)) hHeld ?_
  try simp only [Act.put, List.setIfInBounds_toArray, List.set_cons_zero, List.set_cons_succ]
  refine wpAnyH_take (i := 3) (oi := { dst := some 10, op := Op.load 51 (.tmp 1), type := 51, pos := "piece.go:64", after := #[], guard := none }) (v := (.agg #[.int .i64 f, .int .u64 h, .int .u64 l, .int .i64 n])) rfl (by kernel_rfl) (by kernel_rfl) (by kernel_rfl) (fun _ _ _ h => h) (yieldsIf_blk rfl _ _ rfl w.heap.size (by rfl) _ (fun _ hSw => hSw) Tryd.underlying51 (by kernel_rfl)) hHeld ?_
  try simp only [Act.put, List.setIfInBounds_toArray, List.set_cons_zero, List.set_cons_succ]
  refine wpAnyH_ready (rs := [2]) (by kernel_rfl) (by simp) ?_
  refine AllReadyH.cons (o := { dst := some 9, op := Op.call { callee := Callee.value (.func 69), args := #[.tmp 8], argTypes := #[38] }, type := 42, pos := "piece.go:64", after := #[{ on := 1, ground := Ground.data }], guard := none }) rfl (fun K hK => ?_) AllReadyH.nil
  go_simp
  refine Calls.mono (K1.out _) ?_
  rintro e W3 ⟨rfl, bb3⟩
  have B13 := B1.drew.kept bb3
  have B23 := B2.drew.kept bb3
  have b3 := bel_tr b2.drew bb3
  refine hK.out _ _ ?_ (fun hHeld => ?_)
  · exact B13
  clear hK K
  try simp only [Act.put, List.setIfInBounds_toArray, List.set_cons_zero, List.set_cons_succ]
  refine wpAnyH_ready (rs := [4]) (by kernel_rfl) (by simp) ?_
  refine AllReadyH.cons (o := { dst := some 11, op := Op.call { callee := Callee.value (.func 79), args := #[.tmp 10], argTypes := #[51] }, type := 38, pos := "piece.go:64", after := #[{ on := 3, ground := Ground.data }, { on := 2, ground := Ground.chain }], guard := none }) rfl (fun K hK => ?_) AllReadyH.nil
  go_simp
  refine Calls.mono (K2.out _) ?_
  rintro e W4 ⟨rfl, bb4⟩
  have B14 := B13.kept bb4
  have B24 := B23.kept bb4
  have b4 := bel_tr b3 bb4
  refine hK.out _ _ ?_ (fun hHeld => ?_)
  · exact B14
  clear hK K
  try simp only [Act.put, List.setIfInBounds_toArray, List.set_cons_zero, List.set_cons_succ]
  refine wpAnyH_ready (rs := [5]) (by kernel_rfl) (by simp) ?_
  refine AllReadyH.cons (o := { dst := some 12, op := Op.call { callee := Callee.value (.func 69), args := #[.tmp 11], argTypes := #[38] }, type := 42, pos := "piece.go:64", after := #[{ on := 4, ground := Ground.data }, { on := 4, ground := Ground.chain }], guard := none }) rfl (fun K hK => ?_) AllReadyH.nil
  go_simp
  refine Calls.mono (K3.out _) ?_
  rintro e W5 ⟨rfl, bb5⟩
  have B15 := B14.kept bb5
  have B25 := B24.kept bb5
  have b5 := bel_tr b4 bb5
  refine hK.out _ _ ?_ (fun hHeld => ?_)
  · exact B15
  clear hK K
  try simp only [Act.put, List.setIfInBounds_toArray, List.set_cons_zero, List.set_cons_succ]
  refine wpAnyH_take (i := 6) (oi := { dst := some 13, op := Op.build 65 #[(0, .tmp 9), (1, .tmp 12)], type := 65, pos := "piece.go:64", after := #[{ on := 2, ground := Ground.data }, { on := 5, ground := Ground.data }], guard := none }) (v := (.agg (pcv P1 P2))) rfl (by kernel_rfl) (by kernel_rfl) (by kernel_rfl) (fun _ _ _ h => h) (Or.inl ⟨by rfl, ?_⟩) hHeld ?_
  · intro w9 hSw
    try dsimp only at hSw
    go_simp
  try simp only [Act.put, List.setIfInBounds_toArray, List.set_cons_zero, List.set_cons_succ]
  refine wpAnyH_ready (rs := [7]) (by kernel_rfl) (by simp) ?_
  refine AllReadyH.cons (o := { dst := none, op := Op.store 65 (.tmp 2) (.tmp 13), type := 0, pos := "piece.go:64", after := #[{ on := 6, ground := Ground.data }, { on := 5, ground := Ground.chain }, { on := 0, ground := Ground.phase }, { on := 1, ground := Ground.phase }, { on := 2, ground := Ground.phase }, { on := 3, ground := Ground.phase }, { on := 4, ground := Ground.phase }, { on := 5, ground := Ground.phase }, { on := 6, ground := Ground.phase }], guard := none }) rfl (fun K hK => ?_) AllReadyH.nil
  refine step_store_blk rfl _ _ _ rfl W1.heap.size (pcv P1 P2) _ (by rfl) (by rfl) B25 (by kernel_rfl) (by rfl) (by kernel_rfl) ?_
  refine hK.out _ _ ?_ (fun hHeld => ?_)
  · exact B15.other (Nat.ne_of_lt g1) _
  clear hK K
  try simp only [Act.put, List.setIfInBounds_toArray, List.set_cons_zero, List.set_cons_succ]
  refine wpAnyH_done (by kernel_rfl) ?_ _
  refine NoPanic.normal ?_
  go_wp2
  exact ret_cell (k := 2) Tryd.f60 (by kernel_rfl) (B25.set _) Tryd.underlying65 (by kernel_rfl) (by rfl) rfl ⟨rfl, below_setRow b5 gw _⟩
theorem netPiece_any (a : Ad) (n : Int) (w : World) (hT : Top w) (ho : a.ok) (hn : netB a n = true) :
    Calls Tryd.prog 60 #[.agg #[.int .i64 a.fam, .int .u64 a.hi, .int .u64 a.lo, .int .i64 n]] w fun e w' => e = .returned (.agg (pcv (if zeroP a n then pt0 else ptAd a) (if zeroP a n then ptTop else ptAd (lastAd a n)))) ∧ Below w.heap.size w w' := by
  cases hz : zeroP a n with
  | true =>
    have h := hz
    simp only [zeroP, Bool.and_eq_true, beq_iff_eq] at h
    rw [h.1, h.2.1, h.2.2.1, h.2.2.2]
    exact netPiece_zero w hT
  | false => exact netPiece_some a n w ho (net_right hn hz)
end Go.Proofs.YtgppfkbapieneaaDoor
