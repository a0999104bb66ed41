/- For every input the law TcpRights returns true and leaves its arguments as they were. -/
import Derived.Test.YtmmnjjcopdabcaaTcx14
import Derived.Test.YtmmnjjcopdabcaaTcx26
import Derived.Test.YtmmnjjcopdabcaaTcx27
import Derived.Test.YtmmnjjcopdabcaaRows
import Derived.WalkKit
import Derived.ProofKit
import Derived.OpenShut
import Derived.ShutString
import Derived.ChangeOld
import Derived.Below
import Derived.SizedLaws
namespace Go.Proofs.Ytmmnjjcopdabcaa
open Go.RowKit
set_option linter.unusedVariables false
set_option linter.unusedSimpArgs false
set_option maxRecDepth 100000 in
set_option maxHeartbeats 4000000 in
theorem tcpRights_walk (c : Cn) (w : World) :
  Calls Try.prog 4 #[.agg c.v] w fun e w' => e = .returned (.bool true) ∧ Below w.heap.size w w' := by
 have K1 : Hid (∀ W, Calls Try.prog 13 #[.agg c.v] W fun e w' => e = .returned (.bool c.right) ∧ Below W.heap.size W w') := fun W => right_tc c W
 have K2 : Hid (∀ W, Calls Try.prog 14 #[.agg c.v] W fun e w' => e = .returned (.bool c.right) ∧ Below W.heap.size W w') := fun W => rright_tc c W
 have K3 : Hid (∀ W, Calls Try.prog 15 #[.agg c.v] W fun e w' => e = .returned (.int .i64 c.life) ∧ Below W.heap.size W w') := fun W => life_tc c W
 have K4 : Hid (∀ W, Calls Try.prog 16 #[.agg c.v] W fun e w' => e = .returned (.int .i64 c.life) ∧ Below W.heap.size W w') := fun W => rlife_tc c W
 have KL : Hid (∀ W, Calls Try.prog 12 #[] W fun e w' => e = .returned (.bool true) ∧ Below W.heap.size W w') := fun W => alive_tc W
 generalize c.right = R at *
 generalize c.life = L at *
 obtain ⟨Wk1, hWk1⟩ : ∃ W, w.alloc (.cells c.v 28) = W := ⟨_, rfl⟩
 have bk1 := bel_nw hWk1
 have Ck1 := blk_nw hWk1
 go_enter Try.func4, Try.ntmps4
 go_wp2_with (refine wpList_load_blk_w (by rfl) _ _ rfl w.heap.size (by rfl) _ Ck1 Try.underlying28 (by kernel_rfl) ?_)
 have Cd := Ck1.drew
 have bd := bk1.drew
 refine wp_region_noPanic ?_
 refine wp_region_held_drew (S := fun w' => Blk w' w.heap.size 28 c.v) (by kernel_rfl) (by exact Cd) (fun hHeld => ?_)
 refine qty (i := 0) (oi := { dst := some 3, op := Op.load 28 (.tmp 1), type := 28, pos := "law.go:32", after := #[], guard := none }) (v := (.agg c.v)) (yieldsIf_blk_w (by kernel_rfl) _ _ rfl w.heap.size (by rfl) _ (fun _ hSw => hSw) Try.underlying28 (by kernel_rfl)) hHeld ?_
 try simp only [qpu]
 refine qty (i := 2) (oi := { dst := some 5, op := Op.load 28 (.tmp 1), type := 28, pos := "law.go:32", after := #[], guard := none }) (v := (.agg c.v)) (yieldsIf_blk_w (by kernel_rfl) _ _ rfl w.heap.size (by rfl) _ (fun _ hSw => hSw) Try.underlying28 (by kernel_rfl)) hHeld ?_
 try simp only [qpu]
 refine wpAnyH_ready (rs := [1]) (by kernel_rfl) (by simp) ?_
 refine AllReadyH.cons (o := { dst := some 4, op := Op.call { callee := Callee.value (.func 13), args := #[.tmp 3], argTypes := #[28] }, type := 4, pos := "law.go:32", after := #[{ on := 0, ground := Ground.data }], guard := none }) rfl (fun K hK => ?_) AllReadyH.nil
 go_simp
 refine Calls.mono (K1.out _) ?_
 rintro e Wx1 ⟨rfl, bb⟩
 have Cx1 := Cd.kept bb
 have bx1 := bel_tr bd bb
 clear bb
 refine hK.out _ _ (by exact Cx1) (fun hHeld => ?_)
 clear hK K
 try simp only [qpu]
 refine wpAnyH_ready (rs := [3]) (by kernel_rfl) (by simp) ?_
 refine AllReadyH.cons (o := { dst := some 6, op := Op.call { callee := Callee.value (.func 14), args := #[.tmp 5], argTypes := #[28] }, type := 4, pos := "law.go:32", after := #[{ on := 2, ground := Ground.data }, { on := 1, ground := Ground.chain }], guard := none }) rfl (fun K hK => ?_) AllReadyH.nil
 go_simp
 refine Calls.mono (K2.out _) ?_
 rintro e Wx2 ⟨rfl, bb⟩
 have Cx2 := Cx1.kept bb
 have bx2 := bel_tr bx1 bb
 clear bb
 refine hK.out _ _ (by exact Cx2) (fun hHeld => ?_)
 clear hK K
 try simp only [qpu]
 refine qtk (i := 4) (oi := { dst := some 7, op := Op.binOp BinOp.eql 4 (.tmp 4) (.tmp 6) 4, type := 4, pos := "law.go:32", after := #[{ on := 1, ground := Ground.data }, { on := 3, ground := Ground.data }], guard := none }) (v := (.bool true)) hHeld ?_ ?_
 ·intro w9 hSw
  try dsimp only at hSw
  go_simp
 try simp only [qpu]
 refine qtk (i := 5) (oi := { dst := some 8, op := Op.move (.tmp 7), type := 4, pos := "law.go:32", after := #[{ on := 4, ground := Ground.data }, { on := 3, ground := Ground.chain }], guard := none }) (v := (.bool true)) hHeld ?_ ?_
 ·intro w9 hSw
  try dsimp only at hSw
  go_simp
 try simp only [qpu]
 refine qty (i := 6) (oi := { dst := some 9, op := Op.load 28 (.tmp 1), type := 28, pos := "law.go:32", after := #[{ on := 5, ground := Ground.guard }], guard := some (5, true) }) (v := (.agg c.v)) (yieldsIf_blk_w (by kernel_rfl) _ _ rfl w.heap.size (by rfl) _ (fun _ hSw => hSw) Try.underlying28 (by kernel_rfl)) hHeld ?_
 try simp only [qpu]
 refine qty (i := 8) (oi := { dst := some 11, op := Op.load 28 (.tmp 1), type := 28, pos := "law.go:32", after := #[{ on := 5, ground := Ground.guard }], guard := some (5, true) }) (v := (.agg c.v)) (yieldsIf_blk_w (by kernel_rfl) _ _ rfl w.heap.size (by rfl) _ (fun _ hSw => hSw) Try.underlying28 (by kernel_rfl)) hHeld ?_
 try simp only [qpu]
 refine wpAnyH_ready (rs := [7]) (by kernel_rfl) (by simp) ?_
 refine AllReadyH.cons (o := { dst := some 10, op := Op.call { callee := Callee.value (.func 15), args := #[.tmp 9], argTypes := #[28] }, type := 3, pos := "law.go:32", after := #[{ on := 6, ground := Ground.data }, { on := 5, ground := Ground.chain }, { on := 5, ground := Ground.guard }], guard := some (5, true) }) rfl (fun K hK => ?_) AllReadyH.nil
 go_simp
 refine Calls.mono (K3.out _) ?_
 rintro e Wx3 ⟨rfl, bb⟩
 have Cx3 := Cx2.kept bb
 have bx3 := bel_tr bx2 bb
 clear bb
 refine hK.out _ _ (by exact Cx3) (fun hHeld => ?_)
 clear hK K
 try simp only [qpu]
 refine wpAnyH_ready (rs := [9]) (by kernel_rfl) (by simp) ?_
 refine AllReadyH.cons (o := { dst := some 12, op := Op.call { callee := Callee.value (.func 16), args := #[.tmp 11], argTypes := #[28] }, type := 3, pos := "law.go:32", after := #[{ on := 8, ground := Ground.data }, { on := 7, ground := Ground.chain }, { on := 5, ground := Ground.guard }], guard := some (5, true) }) rfl (fun K hK => ?_) AllReadyH.nil
 go_simp
 refine Calls.mono (K4.out _) ?_
 rintro e Wx4 ⟨rfl, bb⟩
 have Cx4 := Cx3.kept bb
 have bx4 := bel_tr bx3 bb
 clear bb
 refine hK.out _ _ (by exact Cx4) (fun hHeld => ?_)
 clear hK K
 try simp only [qpu]
 refine qtk (i := 10) (oi := { dst := some 13, op := Op.binOp BinOp.eql 3 (.tmp 10) (.tmp 12) 3, type := 4, pos := "law.go:32", after := #[{ on := 7, ground := Ground.data }, { on := 9, ground := Ground.data }, { on := 5, ground := Ground.guard }], guard := some (5, true) }) (v := (.bool true)) hHeld ?_ ?_
 ·intro w9 hSw
  try dsimp only at hSw
  go_simp
 try simp only [qpu]
 refine qtk (i := 11) (oi := { dst := some 14, op := Op.pick (.tmp 8) (.tmp 13) (.const (.bool false)), type := 4, pos := "law.go:32", after := #[{ on := 5, ground := Ground.data }, { on := 10, ground := Ground.data }], guard := none }) (v := (.bool true)) hHeld ?_ ?_
 ·intro w9 hSw
  try dsimp only at hSw
  go_simp
 try simp only [qpu]
 refine qtk (i := 12) (oi := { dst := some 15, op := Op.move (.tmp 14), type := 4, pos := "law.go:32", after := #[{ on := 11, ground := Ground.data }, { on := 9, ground := Ground.chain }], guard := none }) (v := (.bool true)) hHeld ?_ ?_
 ·intro w9 hSw
  try dsimp only at hSw
  go_simp
 try simp only [qpu]
 refine wpAnyH_ready (rs := [13]) (by kernel_rfl) (by simp) ?_
 refine AllReadyH.cons (o := { dst := some 16, op := Op.call { callee := Callee.value (.func 12), args := #[], argTypes := #[] }, type := 4, pos := "law.go:32", after := #[{ on := 12, ground := Ground.chain }, { on := 12, ground := Ground.guard }], guard := some (12, true) }) rfl (fun K hK => ?_) AllReadyH.nil
 go_simp
 refine Calls.mono (KL.out _) ?_
 rintro e Wx5 ⟨rfl, bb⟩
 have Cx5 := Cx4.kept bb
 have bx5 := bel_tr bx4 bb
 clear bb
 refine hK.out _ _ (by exact Cx5) (fun hHeld => ?_)
 clear hK K
 try simp only [qpu]
 refine qtk (i := 14) (oi := { dst := some 17, op := Op.pick (.tmp 15) (.tmp 16) (.const (.bool false)), type := 4, pos := "law.go:32", after := #[{ on := 12, ground := Ground.data }, { on := 13, ground := Ground.data }], guard := none }) (v := (.bool true)) hHeld ?_ ?_
 ·intro w9 hSw
  try dsimp only at hSw
  go_simp
 try simp only [qpu]
 refine qtk (i := 15) (oi := { dst := some 2, op := Op.assign (.tmp 17), type := 4, pos := "law.go:32", after := #[{ on := 14, ground := Ground.data }, { on := 13, ground := Ground.chain }, { on := 0, ground := Ground.phase }, { on := 1, ground := Ground.phase }, { on := 2, ground := Ground.phase }, { on := 3, ground := Ground.phase }, { on := 4, ground := Ground.phase }, { on := 5, ground := Ground.phase }, { on := 6, ground := Ground.phase }, { on := 7, ground := Ground.phase }, { on := 8, ground := Ground.phase }, { on := 9, ground := Ground.phase }, { on := 10, ground := Ground.phase }, { on := 11, ground := Ground.phase }, { on := 12, ground := Ground.phase }, { on := 13, ground := Ground.phase }, { on := 14, ground := Ground.phase }], guard := none }) (v := (.bool true)) hHeld ?_ ?_
 ·intro w9 hSw
  try dsimp only at hSw
  go_simp
 try simp only [qpu]
 refine wpAnyH_done (by kernel_rfl) ?_ _
 refine NoPanic.normal ?_
 go_wp2
 go_ret
 exact ⟨rfl, bx5⟩
end Go.Proofs.Ytmmnjjcopdabcaa
namespace Go.Proofs.Ytmmnjjcopdabcaa.tcpRights
open Go.ChangeShapes Go.WideShapes Go.ChangeAt Go.RowKit
open Go.ChangeMaps (open_string shut_string)
set_option linter.unusedVariables false
theorem own : ownKnob Try.prog.godebug = none := by kernel_rfl
theorem laidOut : laidOutB Try.prog = true := by kernel_rfl
set_option maxRecDepth 100000 in
theorem lifted (os : Os) (started : os.Started) (H : Type) (enc : TypeId × Value → H) :
  ReturnsInHanded {} Try.checked os 4 .any (Rows.tcpRightsSpec.pre6 enc Try.prog Try.f4 Rows.tcpRightsRow.domain false) (Rows.tcpRightsSpec.post enc Try.prog Try.f4 false true false false) := by
 refine returnsInHanded_of_change_sized (C := Try.checked) own started (by kernel_rfl) Try.func4
  (ChangeSpec.witness6 (enc := enc) (C := Try.checked) false ⟨#[], #[.agg #[.int .i64 0, .int .u32 0, .int .u32 0, .int .u32 0, .int .u32 0, .bool false, .bool false, .bool false, .bool false]], []⟩ 8 (by kernel_rfl) (by kernel_rfl) (by kernel_rfl) (by kernel_rfl)) ?_
 intro W base args ds gs before hval0 hW hcnd hsz0 _
 have hval : ∀ (j : Nat) t v, Try.f4.params[j]? = some t → args[j]? = some v → Value.okWide Try.prog W .any base t v := hval0
 have hW' := hW
 obtain ⟨p, q, hA0, hV, rfl, hfz, hnd⟩ := hW
 have hA : DataW.TrodAll enc Try.prog W 0 (fun _ => true) true Try.f4.params.toList args.toList ds p := hA0
 have hsz : (DataW.weightsEach Try.prog (Try.f4.params.toList ++ Rows.tcpRightsSpec.plain.varTypes Try.prog) (ds ++ gs)).all (· ≤ reachBytes) = true := hsz0
 rw [Try.params4] at hA hval hsz
 obtain ⟨v0, vs0, d0, ds0, p0, q0, hargs, rfl, rfl, h0, r0⟩ := trodAll_cons hA
 obtain ⟨rfl, rfl, rfl⟩ := trodAll_nil r0
 obtain rfl : args = #[v0] := by cases args; simp_all
 obtain ⟨rfl, rfl⟩ := trodVars_none hV
 have lt0 : ∀ x ∈ p0, x.block < W.heap.size := by obtain ⟨m, hm⟩ := h0; exact DataW.trod_lt m _ _ _ hm
 have s0 : ∀ n ∈ d0.weights Try.prog 28, n ≤ reachBytes := fun n hn => by simpa using List.all_eq_true.1 hsz n (DataW.weights_mem_each (j := 0) (t := 28) rfl rfl n hn)
 obtain ⟨q0, rfl, ok0⟩ := open_cn (hval 0 28 v0 rfl rfl) h0
 clear hA0 hval0 hsz0
 refine (tcpRights_walk q0 W ).mono fun e W' ⟨he, bel⟩ => ?_
 subst he
 exact ⟨_, rfl, _, _, _, [], _, [], hW', trodAll_mk1 (shut_bool Try.underlying4 _), (trodAll_cons_mk (Below.trod laidOut (by kernel_rfl) (of_decide_eq_true (by kernel_rfl)) h0 bel lt0) trodAll_mk0), rfl, bel.frame _, fun h => by cases h⟩
theorem over : Rows.tcpRightsRow.holds Try.pinned (OpenSpec.ofChange Rows.tcpRightsSpec) :=
 OpenClaim.holds_of_wide 4 Try.f4 rfl rfl rfl rfl rfl rfl rfl ⟨rfl, rfl, rfl, rfl, rfl⟩ rfl rfl rfl rfl rfl (by kernel_rfl) Try.func4 (by kernel_rfl)
  (of_decide_eq_true (by kernel_rfl)) (by unfold Func.isWrapper; first | (rw [if_pos (by decide +kernel)]; kernel_rfl) | (rw [if_neg (by decide +kernel)]; exact ⟨rfl, rfl⟩))
  (fun os started H enc _ => lifted os started H enc)
end Go.Proofs.Ytmmnjjcopdabcaa.tcpRights
namespace Go.Proofs.Ytmmnjjcopdabcaa
theorem tcpRights_holds : Rows.TcpRightsSaid := tcpRights.over
end Go.Proofs.Ytmmnjjcopdabcaa
