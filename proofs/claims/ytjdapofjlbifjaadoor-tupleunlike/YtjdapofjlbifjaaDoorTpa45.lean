/- For every input the law TupleUnlike returns true and leaves its arguments as they were; the tables of Go's library that its row lists hold what they are listed with (the card ties them). -/
import Derived.Test.YtjdapofjlbifjaaDoorTpa30
import Derived.Test.YtjdapofjlbifjaaDoorTpa39
import Derived.Test.YtjdapofjlbifjaaDoorCards
import Derived.Test.YtjdapofjlbifjaaDoorTie
import Derived.WalkKit
import Derived.ProofKit
import Derived.OpenShut
import Derived.ChangeOld
import Derived.Below
import Derived.Carry
import Derived.SizedLaws
import Derived.Deep.DeepHandedRow
import Derived.SevenTiedAt
namespace Go.Proofs.YtjdapofjlbifjaaDoor
open Go.RowKit
set_option linter.unusedVariables false
set_option linter.unusedSimpArgs false
set_option maxRecDepth 100000 in
set_option maxHeartbeats 4000000 in
theorem tupleUnlike_walk (a b : Wy) (w : World) (oka : a.ok) (okb : b.ok) (ht : w.cell? ⟨3, 15, none⟩ = some (.int .u8 4)) (htab : Lib.TabIs Tryd.prog w "internal/strconv.uint64pow10" .u64 Lib.pow10Tab) :
    Calls Tryd.prog 8 #[.agg a.v, .agg b.v] w fun e w' => e = .returned (.bool true) ∧ Below w.heap.size w w' := by
  have gp : Tryd.prog.globalNamed "internal/strconv.uint64pow10" = some 0 := by kernel_rfl
  have cells : ∀ W, Below w.heap.size w W → W.cell? ⟨3, 15, none⟩ = some (.int .u8 4) ∧ Lib.TabIs Tryd.prog W "internal/strconv.uint64pow10" .u64 Lib.pow10Tab := fun W hW => ⟨kept hW ht, Go.Joins.tab_stays gp htab hW (Nat.le_refl _)⟩
  have KL : Hid (∀ W, Below w.heap.size w W → Calls Tryd.prog 15 #[] W fun e w' => e = .returned (.bool true) ∧ Below W.heap.size W w') := fun W hb => alive_t W (cells W hb).1 (cells W hb).2
  have K1 : Hid (∀ W, Below w.heap.size w W → Calls Tryd.prog 9 #[.agg a.v] W fun e w' => e = .returned (.bool a.right) ∧ Below W.heap.size W w') := fun W hb => right_t a W
  have K2 : Hid (∀ W, Below w.heap.size w W → Calls Tryd.prog 9 #[.agg b.v] W fun e w' => e = .returned (.bool b.right) ∧ Below W.heap.size W w') := fun W hb => right_t b W
  have K3 : Hid (∀ W, Below w.heap.size w W → Calls Tryd.prog 16 #[.agg a.v] W fun e w' => e = .returned (.string (ByteArray.mk a.text.toArray)) ∧ Below W.heap.size W w') := fun W hb => text_t a W oka (cells W hb).1 (cells W hb).2
  have K4 : Hid (∀ W, Below w.heap.size w W → Calls Tryd.prog 16 #[.agg b.v] W fun e w' => e = .returned (.string (ByteArray.mk b.text.toArray)) ∧ Below W.heap.size W w') := fun W hb => text_t b W okb (cells W hb).1 (cells W hb).2
  have hU : Hid (a.right = true → b.right = true → (a.text == b.text) = a.eqB b) := fun ha hb => by
    rw [Bool.eq_iff_iff, Wy.eqB_iff, beq_iff_eq]
    constructor
    · exact Wy.text_inj oka okb ha hb
    · rintro rfl; rfl
  have hE := eql_way a b
  generalize a.right = R at *
  generalize b.right = Q at *
  generalize a.text = X at *
  generalize b.text = Y at *
  generalize a.eqB b = E at *
  clear oka okb ht htab gp cells
  obtain ⟨W1, hW1⟩ : ∃ W, w.alloc (.cells a.v 26) = W := ⟨_, rfl⟩
  have b1 := bel_nw hW1
  have A1 := blk_nw hW1
  obtain ⟨W2, hW2⟩ : ∃ W, W1.alloc (.cells b.v 26) = W := ⟨_, rfl⟩
  have b2 := bel_al b1 hW2
  have A2 := A1.al hW2
  have B2 := blk_nw hW2
  clear b1 A1
  go_enter Tryd.func8, Tryd.ntmps8
  obtain ⟨k0, k1, k2, k3, k4, k5, k6, k7, k8, k9⟩ := A2.wy
  go_wp2_with fail
  clear k0 k1 k2 k3 k4 k5 k6 k7 k8 k9
  refine Calls.mono (K1.out _ b2) ?_
  rintro e W3 ⟨rfl, bb⟩
  have A3 := A2.kept bb
  have B3 := B2.kept bb
  have b3 := bel_tr b2 bb
  clear bb A2 B2 b2 K1 hW1 hW2
  cases R with
  | false =>
    go_wp2_with fail
    refine Calls.mono (KL.out _ b3) ?_
    rintro e W4 ⟨rfl, bb⟩
    go_wp2_with fail
    go_ret
    exact ⟨rfl, bel_tr b3 bb⟩
  | true =>
  obtain ⟨k0, k1, k2, k3, k4, k5, k6, k7, k8, k9⟩ := B3.wy
  go_wp2_with fail
  clear k0 k1 k2 k3 k4 k5 k6 k7 k8 k9
  refine Calls.mono (K2.out _ b3) ?_
  rintro e W4 ⟨rfl, bb⟩
  have A4 := A3.kept bb
  have B4 := B3.kept bb
  have b4 := bel_tr b3 bb
  clear bb A3 B3 b3 K2
  cases Q with
  | false =>
    go_wp2_with fail
    refine Calls.mono (KL.out _ b4) ?_
    rintro e W5 ⟨rfl, bb⟩
    go_wp2_with fail
    go_ret
    exact ⟨rfl, bel_tr b4 bb⟩
  | true =>
  have hS := hU.out (by trivial) (by trivial)
  clear hU
  go_wp2_with fail
  have Ad := A4.drew
  have Bd := B4.drew
  have bd := b4.drew
  refine wp_region_noPanic ?_
  refine wp_region_held_drew (S := fun w' => Blk w' w.heap.size 26 a.v ∧ Blk w' W1.heap.size 26 b.v) (by kernel_rfl) (by exact ⟨Ad, Bd⟩) (fun hHeld => ?_)
  refine wpAnyH_take (i := 0) (oi := { dst := some 14, op := Op.load 26 (.tmp 2), type := 26, pos := "law.go:52", after := #[], guard := none }) (v := (.agg a.v)) rfl (by kernel_rfl) (by kernel_rfl) (by kernel_rfl) (fun _ _ _ h => h) (yieldsIf_blk_w (by kernel_rfl) _ _ rfl w.heap.size (by rfl) _ (fun _ hSw => hSw.1) Tryd.underlying26 (by kernel_rfl)) hHeld ?_
  try simp only [Act.put, List.setIfInBounds_toArray, List.set_cons_zero, List.set_cons_succ]
  refine wpAnyH_take (i := 2) (oi := { dst := some 16, op := Op.load 26 (.tmp 3), type := 26, pos := "law.go:52", after := #[], guard := none }) (v := (.agg b.v)) rfl (by kernel_rfl) (by kernel_rfl) (by kernel_rfl) (fun _ _ _ h => h) (yieldsIf_blk_w (by kernel_rfl) _ _ rfl W1.heap.size (by rfl) _ (fun _ hSw => hSw.2) Tryd.underlying26 (by kernel_rfl)) hHeld ?_
  try simp only [Act.put, List.setIfInBounds_toArray, List.set_cons_zero, List.set_cons_succ]
  refine wpAnyH_take (i := 5) (oi := { dst := some 19, op := Op.load 26 (.tmp 2), type := 26, pos := "law.go:52", after := #[], guard := none }) (v := (.agg a.v)) rfl (by kernel_rfl) (by kernel_rfl) (by kernel_rfl) (fun _ _ _ h => h) (yieldsIf_blk_w (by kernel_rfl) _ _ rfl w.heap.size (by rfl) _ (fun _ hSw => hSw.1) Tryd.underlying26 (by kernel_rfl)) hHeld ?_
  try simp only [Act.put, List.setIfInBounds_toArray, List.set_cons_zero, List.set_cons_succ]
  refine wpAnyH_take (i := 6) (oi := { dst := some 20, op := Op.load 26 (.tmp 3), type := 26, pos := "law.go:52", after := #[], guard := none }) (v := (.agg b.v)) rfl (by kernel_rfl) (by kernel_rfl) (by kernel_rfl) (fun _ _ _ h => h) (yieldsIf_blk_w (by kernel_rfl) _ _ rfl W1.heap.size (by rfl) _ (fun _ hSw => hSw.2) Tryd.underlying26 (by kernel_rfl)) hHeld ?_
  try simp only [Act.put, List.setIfInBounds_toArray, List.set_cons_zero, List.set_cons_succ]
  refine wpAnyH_take (i := 7) (oi := { dst := some 21, op := Op.binOp BinOp.eql 26 (.tmp 19) (.tmp 20) 26, type := 4, pos := "law.go:52", after := #[{ on := 5, ground := Ground.data }, { on := 6, ground := Ground.data }], guard := none }) (v := (.bool E)) rfl (by kernel_rfl) (by kernel_rfl) (by kernel_rfl) (fun _ _ _ h => h) (Or.inl ⟨by rfl, ?_⟩) hHeld ?_
  · intro w9 hSw
    try dsimp only at hSw
    go_simp
  try simp only [Act.put, List.setIfInBounds_toArray, List.set_cons_zero, List.set_cons_succ]
  refine wpAnyH_ready (rs := [1]) (by kernel_rfl) (by simp) ?_
  refine AllReadyH.cons (o := { dst := some 15, op := Op.call { callee := Callee.value (.func 16), args := #[.tmp 14], argTypes := #[26] }, type := 9, pos := "law.go:52", after := #[{ on := 0, ground := Ground.data }], guard := none }) rfl (fun K hK => ?_) AllReadyH.nil
  go_simp
  refine Calls.mono (K3.out _ bd) ?_
  rintro e Wx0 ⟨rfl, bb⟩
  have Ax0 := Ad.kept bb
  have Bx0 := Bd.kept bb
  have bx0 := bel_tr bd bb
  clear bb
  refine hK.out _ _ (by exact ⟨Ax0, Bx0⟩) (fun hHeld => ?_)
  clear hK K
  try simp only [Act.put, List.setIfInBounds_toArray, List.set_cons_zero, List.set_cons_succ]
  refine wpAnyH_ready (rs := [3]) (by kernel_rfl) (by simp) ?_
  refine AllReadyH.cons (o := { dst := some 17, op := Op.call { callee := Callee.value (.func 16), args := #[.tmp 16], argTypes := #[26] }, type := 9, pos := "law.go:52", after := #[{ on := 2, ground := Ground.data }, { on := 1, ground := Ground.chain }], guard := none }) rfl (fun K hK => ?_) AllReadyH.nil
  go_simp
  refine Calls.mono (K4.out _ bx0) ?_
  rintro e Wx1 ⟨rfl, bb⟩
  have Ax1 := Ax0.kept bb
  have Bx1 := Bx0.kept bb
  have bx1 := bel_tr bx0 bb
  clear bb
  refine hK.out _ _ (by exact ⟨Ax1, Bx1⟩) (fun hHeld => ?_)
  clear hK K
  try simp only [Act.put, List.setIfInBounds_toArray, List.set_cons_zero, List.set_cons_succ]
  refine wpAnyH_take (i := 4) (oi := { dst := some 18, op := Op.binOp BinOp.eql 9 (.tmp 15) (.tmp 17) 9, type := 4, pos := "law.go:52", after := #[{ on := 1, ground := Ground.data }, { on := 3, ground := Ground.data }], guard := none }) (v := (.bool E)) rfl (by kernel_rfl) (by kernel_rfl) (by kernel_rfl) (fun _ _ _ h => h) (Or.inl ⟨by rfl, ?_⟩) hHeld ?_
  · intro w9 hSw
    try dsimp only at hSw
    go_simp
  try simp only [Act.put, List.setIfInBounds_toArray, List.set_cons_zero, List.set_cons_succ]
  refine wpAnyH_take (i := 8) (oi := { dst := some 22, op := Op.binOp BinOp.eql 4 (.tmp 18) (.tmp 21) 4, type := 4, pos := "law.go:52", after := #[{ on := 4, ground := Ground.data }, { on := 7, ground := Ground.data }], guard := none }) (v := (.bool true)) rfl (by kernel_rfl) (by kernel_rfl) (by kernel_rfl) (fun _ _ _ h => h) (Or.inl ⟨by rfl, ?_⟩) hHeld ?_
  · intro w9 hSw
    try dsimp only at hSw
    go_simp
  try simp only [Act.put, List.setIfInBounds_toArray, List.set_cons_zero, List.set_cons_succ]
  refine wpAnyH_take (i := 9) (oi := { dst := some 23, op := Op.move (.tmp 22), type := 4, pos := "law.go:52", after := #[{ on := 8, ground := Ground.data }, { on := 3, ground := Ground.chain }], guard := none }) (v := (.bool true)) rfl (by kernel_rfl) (by kernel_rfl) (by kernel_rfl) (fun _ _ _ h => h) (Or.inl ⟨by rfl, ?_⟩) hHeld ?_
  · intro w9 hSw
    try dsimp only at hSw
    go_simp
  try simp only [Act.put, List.setIfInBounds_toArray, List.set_cons_zero, List.set_cons_succ]
  refine wpAnyH_ready (rs := [10]) (by kernel_rfl) (by simp) ?_
  refine AllReadyH.cons (o := { dst := some 24, op := Op.call { callee := Callee.value (.func 15), args := #[], argTypes := #[] }, type := 4, pos := "law.go:52", after := #[{ on := 9, ground := Ground.chain }, { on := 9, ground := Ground.guard }], guard := some (9, true) }) rfl (fun K hK => ?_) AllReadyH.nil
  go_simp
  refine Calls.mono (KL.out _ bx1) ?_
  rintro e Wx2 ⟨rfl, bb⟩
  have Ax2 := Ax1.kept bb
  have Bx2 := Bx1.kept bb
  have bx2 := bel_tr bx1 bb
  clear bb
  refine hK.out _ _ (by exact ⟨Ax2, Bx2⟩) (fun hHeld => ?_)
  clear hK K
  try simp only [Act.put, List.setIfInBounds_toArray, List.set_cons_zero, List.set_cons_succ]
  refine wpAnyH_take (i := 11) (oi := { dst := some 25, op := Op.pick (.tmp 23) (.tmp 24) (.const (.bool false)), type := 4, pos := "law.go:52", after := #[{ on := 9, ground := Ground.data }, { on := 10, ground := Ground.data }], guard := none }) (v := (.bool true)) rfl (by kernel_rfl) (by kernel_rfl) (by kernel_rfl) (fun _ _ _ h => h) (Or.inl ⟨by rfl, ?_⟩) hHeld ?_
  · intro w9 hSw
    try dsimp only at hSw
    go_simp
  try simp only [Act.put, List.setIfInBounds_toArray, List.set_cons_zero, List.set_cons_succ]
  refine wpAnyH_take (i := 12) (oi := { dst := some 4, op := Op.assign (.tmp 25), type := 4, pos := "law.go:52", after := #[{ on := 11, ground := Ground.data }, { on := 10, ground := Ground.chain }, { on := 0, ground := Ground.phase }, { on := 1, ground := Ground.phase }, { on := 2, ground := Ground.phase }, { on := 3, ground := Ground.phase }, { on := 4, ground := Ground.phase }, { on := 5, ground := Ground.phase }, { on := 6, ground := Ground.phase }, { on := 7, ground := Ground.phase }, { on := 8, ground := Ground.phase }, { on := 9, ground := Ground.phase }, { on := 10, ground := Ground.phase }, { on := 11, ground := Ground.phase }], guard := none }) (v := (.bool true)) rfl (by kernel_rfl) (by kernel_rfl) (by kernel_rfl) (fun _ _ _ h => h) (Or.inl ⟨by rfl, ?_⟩) hHeld ?_
  · intro w9 hSw
    try dsimp only at hSw
    go_simp
  try simp only [Act.put, List.setIfInBounds_toArray, List.set_cons_zero, List.set_cons_succ]
  refine wpAnyH_done (by kernel_rfl) ?_ _
  refine NoPanic.normal ?_
  go_wp2
  go_ret
  exact ⟨rfl, bx2⟩
end Go.Proofs.YtjdapofjlbifjaaDoor
namespace Go.Proofs.YtjdapofjlbifjaaDoor.tupleUnlike
open Go.ChangeShapes Go.WideShapes Go.ChangeAt Go.RowKit
set_option linter.unusedVariables false
set_option linter.unusedSimpArgs false
theorem own : ownKnob Tryd.prog.godebug = none := by kernel_rfl
theorem laidOut : laidOutB Tryd.prog = true := by kernel_rfl
set_option maxRecDepth 100000 in
theorem contract (H : Type) (enc : TypeId × Value → H) (W : World) (base : Nat) (args : Array Value) (ds gs : List (DataW H)) (before : List MemPlace)
    (hval : ∀ (j : Nat) t v, Tryd.f8.params[j]? = some t → args[j]? = some v → Value.okWide Tryd.prog W .any base t v)
    (hW : DataW.Whole enc Tryd.prog Tryd.f8.params.toList Rows.tupleUnlikeSpec.vars false W args.toList ds gs before)
    (hsz : (DataW.weightsEach Tryd.prog (Tryd.f8.params.toList ++ Rows.tupleUnlikeSpec.plain.varTypes Tryd.prog) (ds ++ gs)).all (· ≤ reachBytes) = true)
    (hL : laidMetH Tryd.prog Rows.tupleUnlikeRow.laid W) (hsh : W.ShapedOpen Tryd.prog) :
    Calls Tryd.prog 8 args W fun e W' => ∃ v, e = .returned v ∧ Rows.tupleUnlikeSpec.post enc Tryd.prog Tryd.f8 false true false false W args v W' := by
  have hW' := hW
  obtain ⟨p, q, hA0, hV, rfl, hfz, hnd⟩ := hW
  have hA : DataW.TrodAll enc Tryd.prog W 0 (fun _ => true) true Tryd.f8.params.toList args.toList ds p := hA0
  rw [Tryd.params8] at hA hval hsz
  obtain ⟨v0, vs0, d0, ds0, p0, q0, hargs, rfl, rfl, h0, r0⟩ := trodAll_cons hA
  obtain ⟨v1, vs1, d1, ds1, p1, q1, rfl, rfl, rfl, h1, r1⟩ := trodAll_cons r0
  obtain ⟨rfl, rfl, rfl⟩ := trodAll_nil r1
  obtain rfl : args = #[v0, v1] := by cases args; simp_all
  obtain ⟨rfl, rfl⟩ := trodVars_none hV
  have lt0 : ∀ x ∈ p0, x.block < W.heap.size := by obtain ⟨m, hm⟩ := h0; exact DataW.trod_lt m _ _ _ hm
  obtain ⟨t0, rfl, ok0⟩ := open_way (hval 0 26 v0 rfl rfl) h0
  have lt1 : ∀ x ∈ p1, x.block < W.heap.size := by obtain ⟨m, hm⟩ := h1; exact DataW.trod_lt m _ _ _ hm
  obtain ⟨t1, rfl, ok1⟩ := open_way (hval 1 26 v1 rfl rfl) h1
  have ht : W.cell? ⟨3, 15, none⟩ = some (.int .u8 4) := db_cell (show laidMet Tryd.prog Rows.tupleUnlikeRow.laid W from hL)
  have htab := ten_tab (show laidMet Tryd.prog Rows.tupleUnlikeRow.laid W from hL)
  clear hA0 hval
  refine (tupleUnlike_walk t0 t1 W ok0 ok1 ht htab).mono fun e W' ⟨he, bel⟩ => ?_
  subst he
  exact ⟨_, rfl, _, _, _, [], _, [], hW', trodAll_mk1 (shut_bool Tryd.underlying4 _), (trodAll_cons_mk (Below.trod laidOut (by kernel_rfl) (of_decide_eq_true (by kernel_rfl)) h0 bel lt0) (trodAll_cons_mk (Below.trod laidOut (by kernel_rfl) (of_decide_eq_true (by kernel_rfl)) h1 bel lt1) trodAll_mk0)), rfl, bel.frame _, fun h => by cases h⟩
theorem laid_met (os : Os) : laidMet Tryd.prog Rows.tupleUnlikeRow.laid (({ World.holding Tryd.prog os ⟨#[], #[], []⟩ with heap := (((World.holding Tryd.prog os ⟨#[], #[], []⟩).heap.modify 0 (laidOne (cellsA Rows.laid_internal_strconv_uint64pow10))).modify 2 (laidOne (cellsA Rows.laid_math_bits_deBruijn32tab))).modify 3 (laidOne (cellsA Rows.laid_math_bits_deBruijn64tab)) } : World).forCall (fun _ _ => 0) ⟨#[], #[.agg #[.int .i64 0, .int .i64 0, .int .i64 0, .int .u64 0, .int .u64 0, .int .i64 0, .int .u64 0, .int .u64 0, .int .i64 0, .int .i64 0], .agg #[.int .i64 0, .int .i64 0, .int .i64 0, .int .u64 0, .int .u64 0, .int .i64 0, .int .u64 0, .int .u64 0, .int .i64 0, .int .i64 0]], []⟩).memory :=
  laidMet_of_run' 8 (by kernel_rfl) (by kernel_rfl)
theorem reads (os : Os) {H : Type} (enc : TypeId × Value → H) : ∃ places, DataW.whole enc Tryd.prog (({ World.holding Tryd.prog os ⟨#[], #[], []⟩ with heap := (((World.holding Tryd.prog os ⟨#[], #[], []⟩).heap.modify 0 (laidOne (cellsA Rows.laid_internal_strconv_uint64pow10))).modify 2 (laidOne (cellsA Rows.laid_math_bits_deBruijn32tab))).modify 3 (laidOne (cellsA Rows.laid_math_bits_deBruijn64tab)) } : World).forCall (fun _ _ => 0) ⟨#[], #[.agg #[.int .i64 0, .int .i64 0, .int .i64 0, .int .u64 0, .int .u64 0, .int .i64 0, .int .u64 0, .int .u64 0, .int .i64 0, .int .i64 0], .agg #[.int .i64 0, .int .i64 0, .int .i64 0, .int .u64 0, .int .u64 0, .int .i64 0, .int .u64 0, .int .u64 0, .int .i64 0, .int .i64 0]], []⟩).memory Tryd.f8.params.toList Rows.tupleUnlikeSpec.vars false (#[.agg #[.int .i64 0, .int .i64 0, .int .i64 0, .int .u64 0, .int .u64 0, .int .i64 0, .int .u64 0, .int .u64 0, .int .i64 0, .int .i64 0], .agg #[.int .i64 0, .int .i64 0, .int .i64 0, .int .u64 0, .int .u64 0, .int .i64 0, .int .u64 0, .int .u64 0, .int .i64 0, .int .i64 0]] : Array Value).toList 8 = some ([.agg [.lit (.int .i64 0), .lit (.int .i64 0), .agg [.lit (.int .i64 0), .lit (.int .u64 0), .lit (.int .u64 0)], .agg [.lit (.int .i64 0), .lit (.int .u64 0), .lit (.int .u64 0)], .lit (.int .i64 0), .lit (.int .i64 0)], .agg [.lit (.int .i64 0), .lit (.int .i64 0), .agg [.lit (.int .i64 0), .lit (.int .u64 0), .lit (.int .u64 0)], .agg [.lit (.int .i64 0), .lit (.int .u64 0), .lit (.int .u64 0)], .lit (.int .i64 0), .lit (.int .i64 0)]], [], places) :=
  ⟨[], by kernel_rfl⟩
set_option maxRecDepth 100000 in
theorem lifted (os : Os) (started : os.Started) (H : Type) (enc : TypeId × Value → H) (F : Stop.Interp) :
    ReturnsInHanded {} Tryd.checked os 8 .any ((OpenSpec.ofChange Rows.tupleUnlikeSpec).preRow enc Tryd.prog Tryd.f8 Rows.tupleUnlikeRow.domain false Rows.tupleUnlikeRow.laid) (((OpenSpec.ofChange Rows.tupleUnlikeSpec).at F).post enc Tryd.prog Tryd.f8 false true false false) := by
  obtain ⟨places, hx⟩ := reads os enc
  refine returnsInHanded_of_row (C := Tryd.checked) (s := (OpenSpec.ofChange Rows.tupleUnlikeSpec)) own started (by kernel_rfl) Tryd.func8
    (witness_row_at (enc := enc) (C := Tryd.checked) false ({ World.holding Tryd.prog os ⟨#[], #[], []⟩ with heap := (((World.holding Tryd.prog os ⟨#[], #[], []⟩).heap.modify 0 (laidOne (cellsA Rows.laid_internal_strconv_uint64pow10))).modify 2 (laidOne (cellsA Rows.laid_math_bits_deBruijn32tab))).modify 3 (laidOne (cellsA Rows.laid_math_bits_deBruijn64tab)) } : World) #[.agg #[.int .i64 0, .int .i64 0, .int .i64 0, .int .u64 0, .int .u64 0, .int .i64 0, .int .u64 0, .int .u64 0, .int .i64 0, .int .i64 0], .agg #[.int .i64 0, .int .i64 0, .int .i64 0, .int .u64 0, .int .u64 0, .int .i64 0, .int .u64 0, .int .u64 0, .int .i64 0, .int .i64 0]] rfl (by kernel_rfl) (by kernel_rfl) (by kernel_rfl)
      (OpenSpec.preRow_of_cond 8 hx (by kernel_rfl) (fun k hk => by cases hk) (by kernel_rfl) (laid_met os))) ?_
  intro W base args ds gs before hval hW _ _ hsz hL hsh _
  exact contract H enc W base args ds gs before hval hW hsz hL hsh
theorem said : Rows.TupleUnlikeSaid :=
  OpenClaim.holds_of_cond 8 Tryd.f8 rfl rfl rfl rfl rfl rfl rfl ⟨rfl, rfl, rfl, rfl, rfl⟩ rfl rfl rfl rfl rfl (by kernel_rfl) Tryd.func8 (by kernel_rfl)
    (of_decide_eq_true (by kernel_rfl)) (by unfold Func.isWrapper; first | (rw [if_pos (by decide +kernel)]; kernel_rfl) | (rw [if_neg (by decide +kernel)]; exact ⟨rfl, rfl⟩))
    (fun os started H enc _ F => by rw [OpenClaim.pre_eq_preRow]; exact lifted os started H enc F)
theorem plain (f : FuncId) (fn : Func) (hf : Tryd.pinned.checked.prog.funcNamed "stockade/stockadelaw14.TupleUnlike" = some f) (hfn : Tryd.pinned.checked.prog.funcs[f]? = some fn) :
    false = Tryd.pinned.checked.prog.looks [] ∧ ∀ (j : Nat) t, fn.params[j]? = some t → Tryd.pinned.checked.prog.wantsStandIn t = false := by
  obtain rfl : f = 8 := Option.some.inj ((show Tryd.prog.funcNamed "stockade/stockadelaw14.TupleUnlike" = some 8 by kernel_rfl).symm.trans hf) |>.symm
  obtain rfl : fn = Tryd.f8 := (Option.some.inj (Tryd.func8.symm.trans hfn)).symm
  refine ⟨by kernel_rfl, fun j t ht => ?_⟩
  rw [Tryd.params8] at ht
  have hm : t ∈ [26, 26] := by simpa using Array.mem_of_getElem? ht
  have hall : ([26, 26].all fun u => !Tryd.prog.wantsStandIn u) = true := by kernel_rfl
  exact (show Tryd.prog.wantsStandIn t = false by simpa using List.all_eq_true.1 hall t hm)
end Go.Proofs.YtjdapofjlbifjaaDoor.tupleUnlike
namespace Go.Proofs.YtjdapofjlbifjaaDoor
theorem tupleUnlike_holds : Rows.TupleUnlikeCardSaid :=
  Claim7.holds_tied_plain_at .later [] _ _ _ _ tupleUnlike.said (fun _ h => by cases h) (by kernel_rfl) (fun _ h => by cases h) tupleUnlike_row_tie rfl ⟨rfl, rfl⟩ (by kernel_rfl) rfl tupleUnlike.plain (by kernel_rfl)
end Go.Proofs.YtjdapofjlbifjaaDoor
