/- For every input the law ExpectRights returns true and leaves its arguments as they were. -/
import Derived.Test.YtmflogmocgbmhaaXpa30
import Derived.Test.YtmflogmocgbmhaaRows
import Derived.WalkKit
import Derived.ProofKit
import Derived.OpenShut
import Derived.ShutString
import Derived.ChangeOld
import Derived.Below
import Derived.SizedLaws
namespace Go.Proofs.Ytmflogmocgbmhaa
open Go.RowKit
set_option linter.unusedVariables false
set_option linter.unusedSimpArgs false
set_option maxRecDepth 100000 in
set_option maxHeartbeats 4000000 in
theorem expectRights_walk (f : Wt) (t : Wy) (w : World) (hok : f.ok) (hokx : t.ok) :
    Calls Try.prog 3 #[.agg f.v, .agg t.v] w fun e w' => e = .returned (.bool true) ∧ Below w.heap.size w w' := by
  obtain ⟨R, hR⟩ : ∃ R, true = R := ⟨_, rfl⟩
  have HR : Hid (true = R) := hR
  try rw [hR]
  clear hR
  have b := Below.refl w.heap.size w
  go_enter Try.func3, Try.ntmps3
  obtain ⟨Wm1, hWm1⟩ : ∃ W, w.alloc (.cells f.v 28) = W := ⟨_, rfl⟩
  have bm1 := bel_al b hWm1
  have Am1 := blk_nw hWm1
  have gA : w.heap.size ≤ w.heap.size := b.size
  obtain ⟨Wm2, hWm2⟩ : ∃ W, Wm1.alloc (.cells t.v 26) = W := ⟨_, rfl⟩
  have bm2 := bel_al bm1 hWm2
  have Am2 := Am1.al hWm2
  have Bm2 := blk_nw hWm2
  have gB : w.heap.size ≤ Wm1.heap.size := bm1.size
  have nAB : w.heap.size ≠ Wm1.heap.size := by have := Am1.lt; omega
  have nBA : Wm1.heap.size ≠ w.heap.size := fun e => nAB e.symm
  go_wp2_with fail
  obtain ⟨Wdq3, hWdq3⟩ : ∃ W, Wm2.drew = W := ⟨_, rfl⟩
  have Adq3 := hWdq3 ▸ Am2.drew
  have Bdq3 := hWdq3 ▸ Bm2.drew
  have bdq3 := hWdq3 ▸ bm2.drew
  refine wp_region_noPanic ?_
  refine wp_region_held_drew (S := fun w' => Blk w' w.heap.size 28 f.v ∧ Blk w' Wm1.heap.size 26 t.v) (by kernel_rfl) (by rw [hWdq3]; exact ⟨Adq3, Bdq3⟩) (fun hHeld => ?_)
  rw [hWdq3] at hHeld ⊢
  refine qty (i := 0) (oi := { dst := some 5, op := Op.load 28 (.tmp 2), type := 28, pos := "law.go:33", after := #[], guard := none }) (v := (.agg f.v)) (yieldsIf_blk_w (by kernel_rfl) _ _ rfl w.heap.size (by rfl) _ (fun _ hSw => hSw.1) Try.underlying28 (by kernel_rfl)) hHeld ?_
  try simp only [qpu]
  refine qty (i := 2) (oi := { dst := some 7, op := Op.load 28 (.tmp 2), type := 28, pos := "law.go:33", after := #[], guard := none }) (v := (.agg f.v)) (yieldsIf_blk_w (by kernel_rfl) _ _ rfl w.heap.size (by rfl) _ (fun _ hSw => hSw.1) Try.underlying28 (by kernel_rfl)) hHeld ?_
  try simp only [qpu]
  refine wpAnyH_ready (rs := [1]) (by kernel_rfl) (by simp) ?_
  refine AllReadyH.cons (o := { dst := some 6, op := Op.call { callee := Callee.value (.func 10), args := #[.tmp 5], argTypes := #[28] }, type := 4, pos := "law.go:33", after := #[{ on := 0, ground := Ground.data }], guard := none }) rfl (fun K hK => ?_) AllReadyH.nil
  go_simp
  refine Calls.mono (right_xp f _) ?_
  rintro e Wx4 ⟨rfl, bb⟩
  have Ax4 := Adq3.kept bb
  have Bx4 := Bdq3.kept bb
  have bx4 := bel_tr bdq3 bb
  clear bb
  refine hK.out _ _ (by exact ⟨Ax4, Bx4⟩) (fun hHeld => ?_)
  clear hK K
  try simp only [qpu]
  refine wpAnyH_ready (rs := [3]) (by kernel_rfl) (by simp) ?_
  refine AllReadyH.cons (o := { dst := some 8, op := Op.call { callee := Callee.value (.func 11), args := #[.tmp 7], argTypes := #[28] }, type := 4, pos := "law.go:33", after := #[{ on := 2, ground := Ground.data }, { on := 1, ground := Ground.chain }], guard := none }) rfl (fun K hK => ?_) AllReadyH.nil
  go_simp
  refine Calls.mono (rright_xp f _ (by first | assumption | exact hok)) ?_
  rintro e Wx5 ⟨rfl, bb⟩
  have Ax5 := Ax4.kept bb
  have Bx5 := Bx4.kept bb
  have bx5 := bel_tr bx4 bb
  clear bb
  refine hK.out _ _ (by exact ⟨Ax5, Bx5⟩) (fun hHeld => ?_)
  clear hK K
  try simp only [qpu]
  refine qtk (i := 4) (oi := { dst := some 9, op := Op.binOp BinOp.eql 4 (.tmp 6) (.tmp 8) 4, type := 4, pos := "law.go:33", after := #[{ on := 1, ground := Ground.data }, { on := 3, ground := Ground.data }], guard := none }) (v := (.bool true)) hHeld ?_ ?_
  · intro w9 hSw
    try dsimp only at hSw
    go_simp
  try simp only [qpu]
  refine qtk (i := 5) (oi := { dst := some 10, op := Op.move (.tmp 9), type := 4, pos := "law.go:33", after := #[{ on := 4, ground := Ground.data }, { on := 3, ground := Ground.chain }], guard := none }) (v := (.bool true)) hHeld ?_ ?_
  · intro w9 hSw
    try dsimp only at hSw
    go_simp
  try simp only [qpu]
  refine qty (i := 6) (oi := { dst := some 11, op := Op.load 28 (.tmp 2), type := 28, pos := "law.go:33", after := #[{ on := 5, ground := Ground.guard }], guard := some (5, true) }) (v := (.agg f.v)) (yieldsIf_blk_w (by kernel_rfl) _ _ rfl w.heap.size (by rfl) _ (fun _ hSw => hSw.1) Try.underlying28 (by kernel_rfl)) hHeld ?_
  try simp only [qpu]
  refine qty (i := 7) (oi := { dst := some 12, op := Op.load 26 (.tmp 3), type := 26, pos := "law.go:33", after := #[{ on := 5, ground := Ground.guard }], guard := some (5, true) }) (v := (.agg t.v)) (yieldsIf_blk_w (by kernel_rfl) _ _ rfl Wm1.heap.size (by rfl) _ (fun _ hSw => hSw.2) Try.underlying26 (by kernel_rfl)) hHeld ?_
  try simp only [qpu]
  refine qty (i := 9) (oi := { dst := some 14, op := Op.load 28 (.tmp 2), type := 28, pos := "law.go:33", after := #[{ on := 5, ground := Ground.guard }], guard := some (5, true) }) (v := (.agg f.v)) (yieldsIf_blk_w (by kernel_rfl) _ _ rfl w.heap.size (by rfl) _ (fun _ hSw => hSw.1) Try.underlying28 (by kernel_rfl)) hHeld ?_
  try simp only [qpu]
  refine qty (i := 10) (oi := { dst := some 15, op := Op.load 26 (.tmp 3), type := 26, pos := "law.go:33", after := #[{ on := 5, ground := Ground.guard }], guard := some (5, true) }) (v := (.agg t.v)) (yieldsIf_blk_w (by kernel_rfl) _ _ rfl Wm1.heap.size (by rfl) _ (fun _ hSw => hSw.2) Try.underlying26 (by kernel_rfl)) hHeld ?_
  try simp only [qpu]
  refine wpAnyH_ready (rs := [8]) (by kernel_rfl) (by simp) ?_
  refine AllReadyH.cons (o := { dst := some 13, op := Op.call { callee := Callee.value (.func 12), args := #[.tmp 11, .tmp 12], argTypes := #[28, 26] }, type := 4, pos := "law.go:33", after := #[{ on := 6, ground := Ground.data }, { on := 7, ground := Ground.data }, { on := 5, ground := Ground.chain }, { on := 5, ground := Ground.guard }], guard := some (5, true) }) rfl (fun K hK => ?_) AllReadyH.nil
  go_simp
  refine Calls.mono (waits_xp f t _) ?_
  rintro e Wx6 ⟨rfl, bb⟩
  have Ax6 := Ax5.kept bb
  have Bx6 := Bx5.kept bb
  have bx6 := bel_tr bx5 bb
  clear bb
  refine hK.out _ _ (by exact ⟨Ax6, Bx6⟩) (fun hHeld => ?_)
  clear hK K
  try simp only [qpu]
  refine wpAnyH_ready (rs := [11]) (by kernel_rfl) (by simp) ?_
  refine AllReadyH.cons (o := { dst := some 16, op := Op.call { callee := Callee.value (.func 13), args := #[.tmp 14, .tmp 15], argTypes := #[28, 26] }, type := 4, pos := "law.go:33", after := #[{ on := 9, ground := Ground.data }, { on := 10, ground := Ground.data }, { on := 8, ground := Ground.chain }, { on := 5, ground := Ground.guard }], guard := some (5, true) }) rfl (fun K hK => ?_) AllReadyH.nil
  go_simp
  refine Calls.mono (rwaits_xp f t _ (by first | assumption | exact hok) (by first | assumption | exact hokx)) ?_
  rintro e Wx7 ⟨rfl, bb⟩
  have Ax7 := Ax6.kept bb
  have Bx7 := Bx6.kept bb
  have bx7 := bel_tr bx6 bb
  clear bb
  refine hK.out _ _ (by exact ⟨Ax7, Bx7⟩) (fun hHeld => ?_)
  clear hK K
  try simp only [qpu]
  refine qtk (i := 12) (oi := { dst := some 17, op := Op.binOp BinOp.eql 4 (.tmp 13) (.tmp 16) 4, type := 4, pos := "law.go:33", after := #[{ on := 8, ground := Ground.data }, { on := 11, ground := Ground.data }, { on := 5, ground := Ground.guard }], guard := some (5, true) }) (v := (.bool true)) hHeld ?_ ?_
  · intro w9 hSw
    try dsimp only at hSw
    go_simp
  try simp only [qpu]
  refine qtk (i := 13) (oi := { dst := some 18, op := Op.pick (.tmp 10) (.tmp 17) (.const (.bool false)), type := 4, pos := "law.go:33", after := #[{ on := 5, ground := Ground.data }, { on := 12, ground := Ground.data }], guard := none }) (v := (.bool true)) hHeld ?_ ?_
  · intro w9 hSw
    try dsimp only at hSw
    go_simp
  try simp only [qpu]
  refine qtk (i := 14) (oi := { dst := some 19, op := Op.move (.tmp 18), type := 4, pos := "law.go:33", after := #[{ on := 13, ground := Ground.data }, { on := 11, ground := Ground.chain }], guard := none }) (v := (.bool true)) hHeld ?_ ?_
  · intro w9 hSw
    try dsimp only at hSw
    go_simp
  try simp only [qpu]
  refine wpAnyH_ready (rs := [15]) (by kernel_rfl) (by simp) ?_
  refine AllReadyH.cons (o := { dst := some 20, op := Op.call { callee := Callee.value (.func 14), args := #[], argTypes := #[] }, type := 4, pos := "law.go:33", after := #[{ on := 14, ground := Ground.chain }, { on := 14, ground := Ground.guard }], guard := some (14, true) }) rfl (fun K hK => ?_) AllReadyH.nil
  go_simp
  refine Calls.mono (alive_xp _) ?_
  rintro e Wx8 ⟨rfl, bb⟩
  have Ax8 := Ax7.kept bb
  have Bx8 := Bx7.kept bb
  have bx8 := bel_tr bx7 bb
  clear bb
  refine hK.out _ _ (by exact ⟨Ax8, Bx8⟩) (fun hHeld => ?_)
  clear hK K
  try simp only [qpu]
  refine qtk (i := 16) (oi := { dst := some 21, op := Op.pick (.tmp 19) (.tmp 20) (.const (.bool false)), type := 4, pos := "law.go:33", after := #[{ on := 14, ground := Ground.data }, { on := 15, ground := Ground.data }], guard := none }) (v := (.bool true)) hHeld ?_ ?_
  · intro w9 hSw
    try dsimp only at hSw
    go_simp
  try simp only [qpu]
  refine qtk (i := 17) (oi := { dst := some 4, op := Op.assign (.tmp 21), type := 4, pos := "law.go:33", after := #[{ on := 16, ground := Ground.data }, { on := 15, ground := Ground.chain }, { on := 0, ground := Ground.phase }, { on := 1, ground := Ground.phase }, { on := 2, ground := Ground.phase }, { on := 3, ground := Ground.phase }, { on := 4, ground := Ground.phase }, { on := 5, ground := Ground.phase }, { on := 6, ground := Ground.phase }, { on := 7, ground := Ground.phase }, { on := 8, ground := Ground.phase }, { on := 9, ground := Ground.phase }, { on := 10, ground := Ground.phase }, { on := 11, ground := Ground.phase }, { on := 12, ground := Ground.phase }, { on := 13, ground := Ground.phase }, { on := 14, ground := Ground.phase }, { on := 15, ground := Ground.phase }, { on := 16, ground := Ground.phase }], guard := none }) (v := (.bool true)) hHeld ?_ ?_
  · intro w9 hSw
    try dsimp only at hSw
    go_simp
  try simp only [qpu]
  refine wpAnyH_done (by kernel_rfl) ?_ _
  refine NoPanic.normal ?_
  go_wp2_with fail
  go_ret
  exact ⟨retB_fw (by (try rw [← HR.out]) <;> first | rfl | (simp []; done) | (simp []; rfl)), bx8⟩
end Go.Proofs.Ytmflogmocgbmhaa
namespace Go.Proofs.Ytmflogmocgbmhaa.expectRights
open Go.ChangeShapes Go.WideShapes Go.ChangeAt Go.RowKit
open Go.ChangeMaps (open_string shut_string)
set_option linter.unusedVariables false
theorem own : ownKnob Try.prog.godebug = none := by kernel_rfl
theorem laidOut : laidOutB Try.prog = true := by kernel_rfl
set_option maxRecDepth 100000 in
theorem lifted (os : Os) (started : os.Started) (H : Type) (enc : TypeId × Value → H) :
    ReturnsInHanded {} Try.checked os 3 .any (Rows.expectRightsSpec.pre6 enc Try.prog Try.f3 Rows.expectRightsRow.domain false) (Rows.expectRightsSpec.post enc Try.prog Try.f3 false true false false) := by
  refine returnsInHanded_of_change_sized (C := Try.checked) own started (by kernel_rfl) Try.func3
    (ChangeSpec.witness6 (enc := enc) (C := Try.checked) false ⟨#[], #[.agg #[.int .i64 0, .int .i64 0, .int .i64 0, .int .u64 0, .int .u64 0, .int .i64 0, .int .u64 0, .int .u64 0, .int .i64 0, .int .i64 0, .int .i64 0, .int .i64 0, .int .i64 0, .int .u64 0, .int .u64 0, .int .i64 0, .int .u64 0, .int .u64 0, .int .i64 0, .int .i64 0, .int .i64 0, .int .i64 0], .agg #[.int .i64 0, .int .i64 0, .int .i64 0, .int .u64 0, .int .u64 0, .int .i64 0, .int .u64 0, .int .u64 0, .int .i64 0, .int .i64 0]], []⟩ 8 (by kernel_rfl) (by kernel_rfl) (by kernel_rfl) (by kernel_rfl)) ?_
  intro W base args ds gs before hval0 hW hcnd hsz0 _
  have hval : ∀ (j : Nat) t v, Try.f3.params[j]? = some t → args[j]? = some v → Value.okWide Try.prog W .any base t v := hval0
  have hW' := hW
  obtain ⟨p, q, hA0, hV, rfl, hfz, hnd⟩ := hW
  have hA : DataW.TrodAll enc Try.prog W 0 (fun _ => true) true Try.f3.params.toList args.toList ds p := hA0
  have hsz : (DataW.weightsEach Try.prog (Try.f3.params.toList ++ Rows.expectRightsSpec.plain.varTypes Try.prog) (ds ++ gs)).all (· ≤ reachBytes) = true := hsz0
  rw [Try.params3] at hA hval hsz
  obtain ⟨v0, vs0, d0, ds0, p0, q0, hargs, rfl, rfl, h0, r0⟩ := trodAll_cons hA
  obtain ⟨v1, vs1, d1, ds1, p1, q1, rfl, rfl, rfl, h1, r1⟩ := trodAll_cons r0
  obtain ⟨rfl, rfl, rfl⟩ := trodAll_nil r1
  obtain rfl : args = #[v0, v1] := by cases args; simp_all
  obtain ⟨rfl, rfl⟩ := trodVars_none hV
  have lt0 : ∀ x ∈ p0, x.block < W.heap.size := by obtain ⟨m, hm⟩ := h0; exact DataW.trod_lt m _ _ _ hm
  have s0 : ∀ n ∈ d0.weights Try.prog 28, n ≤ reachBytes := fun n hn => by simpa using List.all_eq_true.1 hsz n (DataW.weights_mem_each (j := 0) (t := 28) rfl rfl n hn)
  obtain ⟨q0, rfl, ok0⟩ := open_want (hval 0 28 v0 rfl rfl) h0
  have lt1 : ∀ x ∈ p1, x.block < W.heap.size := by obtain ⟨m, hm⟩ := h1; exact DataW.trod_lt m _ _ _ hm
  have s1 : ∀ n ∈ d1.weights Try.prog 26, n ≤ reachBytes := fun n hn => by simpa using List.all_eq_true.1 hsz n (DataW.weights_mem_each (j := 1) (t := 26) rfl rfl n hn)
  obtain ⟨q1, rfl, ok1⟩ := open_wayX (hval 1 26 v1 rfl rfl) h1
  clear hA0 hval0 hsz0
  refine (expectRights_walk q0 q1 W ok0 ok1).mono fun e W' ⟨he, bel⟩ => ?_
  subst he
  exact ⟨_, rfl, _, _, _, [], _, [], hW', trodAll_mk1 (shut_bool Try.underlying4 _), (trodAll_cons_mk (Below.trod laidOut (by kernel_rfl) (of_decide_eq_true (by kernel_rfl)) h0 bel lt0) (trodAll_cons_mk (Below.trod laidOut (by kernel_rfl) (of_decide_eq_true (by kernel_rfl)) h1 bel lt1) trodAll_mk0)), rfl, bel.frame _, fun h => by cases h⟩
theorem over : Rows.expectRightsRow.holds Try.pinned (OpenSpec.ofChange Rows.expectRightsSpec) :=
  OpenClaim.holds_of_wide 3 Try.f3 rfl rfl rfl rfl rfl rfl rfl ⟨rfl, rfl, rfl, rfl, rfl⟩ rfl rfl rfl rfl rfl (by kernel_rfl) Try.func3 (by kernel_rfl)
    (of_decide_eq_true (by kernel_rfl)) (by unfold Func.isWrapper; first | (rw [if_pos (by decide +kernel)]; kernel_rfl) | (rw [if_neg (by decide +kernel)]; exact ⟨rfl, rfl⟩))
    (fun os started H enc _ => lifted os started H enc)
end Go.Proofs.Ytmflogmocgbmhaa.expectRights
namespace Go.Proofs.Ytmflogmocgbmhaa
theorem expectRights_holds : Rows.ExpectRightsSaid := expectRights.over
end Go.Proofs.Ytmflogmocgbmhaa
