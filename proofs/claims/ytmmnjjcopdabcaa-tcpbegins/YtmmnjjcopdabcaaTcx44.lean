/- For every input the law TcpBegins returns true and leaves its arguments as they were. -/
import Derived.Test.YtmmnjjcopdabcaaTcx14
import Derived.Test.YtmmnjjcopdabcaaTcx26
import Derived.Test.YtmmnjjcopdabcaaTcx27
import Derived.Test.YtmmnjjcopdabcaaRows
import Derived.WalkKit
import Derived.ProofKit
import Derived.OpenShut
import Derived.ShutString
import Derived.ChangeOld
import Derived.Below
import Derived.SizedLaws
namespace Go.Proofs.Ytmmnjjcopdabcaa
open Go.RowKit
set_option linter.unusedVariables false
set_option linter.unusedSimpArgs false
set_option maxRecDepth 100000 in
set_option maxHeartbeats 4000000 in
theorem tcpBegins_walk (g : Gt) (w : World) :
  Calls Try.prog 3 #[.agg g.v] w fun e w' => e = .returned (.bool true) ∧ Below w.heap.size w w' := by
 have K1 : Hid (∀ W, Calls Try.prog 10 #[.int .i64 g.fl, .int .u32 g.sq, .int .i64 g.win, .int .i64 g.sz] W fun e w' => e = .returned (.tuple #[.agg (beg g.fl g.sq g.win g.sz).1.v, .int .i64 (beg g.fl g.sq g.win g.sz).2]) ∧ Below W.heap.size W w') := fun W => begin_tc _ _ _ _ W
 have K2 : Hid (∀ W, Calls Try.prog 11 #[.int .i64 g.fl, .int .u32 g.sq, .int .i64 g.win, .int .i64 g.sz] W fun e w' => e = .returned (.tuple #[.agg (beg g.fl g.sq g.win g.sz).1.v, .int .i64 (beg g.fl g.sq g.win g.sz).2]) ∧ Below W.heap.size W w') := fun W => rbegin_tc _ _ _ _ W
 have KL : Hid (∀ W, Calls Try.prog 12 #[] W fun e w' => e = .returned (.bool true) ∧ Below W.heap.size W w') := fun W => alive_tc W
 generalize beg g.fl g.sq g.win g.sz = R at *
 obtain ⟨D, e⟩ := R
 dsimp only at *
 have hE := eql_cn D
 obtain ⟨Wk1, hWk1⟩ : ∃ W, w.alloc (.cells g.v 24) = W := ⟨_, rfl⟩
 have bk1 := bel_nw hWk1
 have Gk1 := blk_nw hWk1
 have g0 := Gk1.cell 0 (.int .i64 g.fl) rfl
 have g1 := Gk1.cell 1 (.int .i64 g.win) rfl
 have g2 := Gk1.cell 2 (.int .i64 g.sz) rfl
 have g3 := Gk1.cell 3 (.int .u32 g.sq) rfl
 go_enter Try.func3, Try.ntmps3
 go_wp2_with (refine wpList_load_blk_w (by rfl) _ _ rfl w.heap.size (by rfl) _ Gk1 Try.underlying24 (by kernel_rfl) ?_)
 clear g0 g1 g2 g3
 refine Calls.mono (K1.out _) ?_
 rintro e Wk2 ⟨rfl, bb⟩
 have Gk2 := Gk1.kept bb
 have bk2 := bel_tr bk1 bb
 clear bb
 clear Gk1 bk1
 obtain ⟨Wyk3, hWyk3⟩ : ∃ W, Wk2.alloc (.cells #[.int .i64 0, .int .u32 0, .int .u32 0, .int .u32 0, .int .u32 0, .bool false, .bool false, .bool false, .bool false] 28) = W := ⟨_, rfl⟩
 have Bbyk3 := blk_nw hWyk3
 have Gyk3 := Gk2.al hWyk3
 have byk3 := bel_al bk2 hWyk3
 have gC : w.heap.size ≤ Wk2.heap.size := bk2.size
 have nGC : w.heap.size ≠ Wk2.heap.size := by have := Gk2.lt; omega
 have nCG : Wk2.heap.size ≠ w.heap.size := fun e => nGC e.symm
 obtain ⟨Wk3, hWk3⟩ : ∃ W, Wyk3.setRow Wk2.heap.size D.v = W := ⟨_, rfl⟩
 have Ck3 : Blk Wk3 Wk2.heap.size 28 D.v := hWk3 ▸ Bbyk3.set _
 have Gk3 := hWk3 ▸ Gyk3.other nGC D.v
 have bk3 := hWk3 ▸ below_setRow byk3 gC D.v
 clear Gyk3 byk3
 clear Gk2 bk2
 have g0 := Gk3.cell 0 (.int .i64 g.fl) rfl
 have g1 := Gk3.cell 1 (.int .i64 g.win) rfl
 have g2 := Gk3.cell 2 (.int .i64 g.sz) rfl
 have g3 := Gk3.cell 3 (.int .u32 g.sq) rfl
 go_wp2_with (first | (refine wpList_load_blk_w (by rfl) _ _ rfl w.heap.size (by rfl) _ Gk3 Try.underlying24 (by kernel_rfl) ?_) | (refine wpList_load_blk_w (by rfl) _ _ rfl Wk2.heap.size (by rfl) _ Ck3 Try.underlying28 (by kernel_rfl) ?_) | (refine wpList_store_row rfl _ _ _ rfl Wk2.heap.size D.v (by rfl) (by rfl) _ _ Bbyk3 (by kernel_rfl) (by rfl) (by kernel_rfl) ?_; rw [hWk3]))
 clear g0 g1 g2 g3
 refine Calls.mono (K2.out _) ?_
 rintro e Wk4 ⟨rfl, bb⟩
 have Gk4 := Gk3.kept bb
 have Ck4 := Ck3.kept bb
 have bk4 := bel_tr bk3 bb
 clear bb
 clear Gk3 Ck3 bk3
 obtain ⟨Wyk5, hWyk5⟩ : ∃ W, Wk4.alloc (.cells #[.int .i64 0, .int .u32 0, .int .u32 0, .int .u32 0, .int .u32 0, .bool false, .bool false, .bool false, .bool false] 28) = W := ⟨_, rfl⟩
 have Bbyk5 := blk_nw hWyk5
 have Gyk5 := Gk4.al hWyk5
 have Cyk5 := Ck4.al hWyk5
 have byk5 := bel_al bk4 hWyk5
 have gE : w.heap.size ≤ Wk4.heap.size := bk4.size
 have nGE : w.heap.size ≠ Wk4.heap.size := by have := Gk4.lt; omega
 have nEG : Wk4.heap.size ≠ w.heap.size := fun e => nGE e.symm
 have nCE : Wk2.heap.size ≠ Wk4.heap.size := by have := Ck4.lt; omega
 have nEC : Wk4.heap.size ≠ Wk2.heap.size := fun e => nCE e.symm
 obtain ⟨Wk5, hWk5⟩ : ∃ W, Wyk5.setRow Wk4.heap.size D.v = W := ⟨_, rfl⟩
 have Ek5 : Blk Wk5 Wk4.heap.size 28 D.v := hWk5 ▸ Bbyk5.set _
 have Gk5 := hWk5 ▸ Gyk5.other nGE D.v
 have Ck5 := hWk5 ▸ Cyk5.other nCE D.v
 have bk5 := hWk5 ▸ below_setRow byk5 gE D.v
 clear Gyk5 Cyk5 byk5
 clear Gk4 Ck4 bk4
 go_wp2_with (first | (refine wpList_load_blk_w (by rfl) _ _ rfl w.heap.size (by rfl) _ Gk5 Try.underlying24 (by kernel_rfl) ?_) | (refine wpList_load_blk_w (by rfl) _ _ rfl Wk2.heap.size (by rfl) _ Ck5 Try.underlying28 (by kernel_rfl) ?_) | (refine wpList_load_blk_w (by rfl) _ _ rfl Wk4.heap.size (by rfl) _ Ek5 Try.underlying28 (by kernel_rfl) ?_) | (refine wpList_store_row rfl _ _ _ rfl Wk4.heap.size D.v (by rfl) (by rfl) _ _ Bbyk5 (by kernel_rfl) (by rfl) (by kernel_rfl) ?_; rw [hWk5]))
 refine Calls.mono (KL.out _) ?_
 rintro e Wk6 ⟨rfl, bb⟩
 have Gk6 := Gk5.kept bb
 have Ck6 := Ck5.kept bb
 have Ek6 := Ek5.kept bb
 have bk6 := bel_tr bk5 bb
 clear bb
 clear Gk5 Ck5 Ek5 bk5
 go_wp2
 go_ret
 exact ⟨rfl, bk6⟩
end Go.Proofs.Ytmmnjjcopdabcaa
namespace Go.Proofs.Ytmmnjjcopdabcaa.tcpBegins
open Go.ChangeShapes Go.WideShapes Go.ChangeAt Go.RowKit
open Go.ChangeMaps (open_string shut_string)
set_option linter.unusedVariables false
theorem own : ownKnob Try.prog.godebug = none := by kernel_rfl
theorem laidOut : laidOutB Try.prog = true := by kernel_rfl
set_option maxRecDepth 100000 in
theorem lifted (os : Os) (started : os.Started) (H : Type) (enc : TypeId × Value → H) :
  ReturnsInHanded {} Try.checked os 3 .any (Rows.tcpBeginsSpec.pre6 enc Try.prog Try.f3 Rows.tcpBeginsRow.domain false) (Rows.tcpBeginsSpec.post enc Try.prog Try.f3 false true false false) := by
 refine returnsInHanded_of_change_sized (C := Try.checked) own started (by kernel_rfl) Try.func3
  (ChangeSpec.witness6 (enc := enc) (C := Try.checked) false ⟨#[], #[.agg #[.int .i64 0, .int .i64 0, .int .i64 0, .int .u32 0, .int .u32 0]], []⟩ 8 (by kernel_rfl) (by kernel_rfl) (by kernel_rfl) (by kernel_rfl)) ?_
 intro W base args ds gs before hval0 hW hcnd hsz0 _
 have hval : ∀ (j : Nat) t v, Try.f3.params[j]? = some t → args[j]? = some v → Value.okWide Try.prog W .any base t v := hval0
 have hW' := hW
 obtain ⟨p, q, hA0, hV, rfl, hfz, hnd⟩ := hW
 have hA : DataW.TrodAll enc Try.prog W 0 (fun _ => true) true Try.f3.params.toList args.toList ds p := hA0
 have hsz : (DataW.weightsEach Try.prog (Try.f3.params.toList ++ Rows.tcpBeginsSpec.plain.varTypes Try.prog) (ds ++ gs)).all (· ≤ reachBytes) = true := hsz0
 rw [Try.params3] at hA hval hsz
 obtain ⟨v0, vs0, d0, ds0, p0, q0, hargs, rfl, rfl, h0, r0⟩ := trodAll_cons hA
 obtain ⟨rfl, rfl, rfl⟩ := trodAll_nil r0
 obtain rfl : args = #[v0] := by cases args; simp_all
 obtain ⟨rfl, rfl⟩ := trodVars_none hV
 have lt0 : ∀ x ∈ p0, x.block < W.heap.size := by obtain ⟨m, hm⟩ := h0; exact DataW.trod_lt m _ _ _ hm
 have s0 : ∀ n ∈ d0.weights Try.prog 24, n ≤ reachBytes := fun n hn => by simpa using List.all_eq_true.1 hsz n (DataW.weights_mem_each (j := 0) (t := 24) rfl rfl n hn)
 obtain ⟨q0, rfl, ok0⟩ := open_gt (hval 0 24 v0 rfl rfl) h0
 clear hA0 hval0 hsz0
 refine (tcpBegins_walk q0 W ).mono fun e W' ⟨he, bel⟩ => ?_
 subst he
 exact ⟨_, rfl, _, _, _, [], _, [], hW', trodAll_mk1 (shut_bool Try.underlying4 _), (trodAll_cons_mk (Below.trod laidOut (by kernel_rfl) (of_decide_eq_true (by kernel_rfl)) h0 bel lt0) trodAll_mk0), rfl, bel.frame _, fun h => by cases h⟩
theorem over : Rows.tcpBeginsRow.holds Try.pinned (OpenSpec.ofChange Rows.tcpBeginsSpec) :=
 OpenClaim.holds_of_wide 3 Try.f3 rfl rfl rfl rfl rfl rfl rfl ⟨rfl, rfl, rfl, rfl, rfl⟩ rfl rfl rfl rfl rfl (by kernel_rfl) Try.func3 (by kernel_rfl)
  (of_decide_eq_true (by kernel_rfl)) (by unfold Func.isWrapper; first | (rw [if_pos (by decide +kernel)]; kernel_rfl) | (rw [if_neg (by decide +kernel)]; exact ⟨rfl, rfl⟩))
  (fun os started H enc _ => lifted os started H enc)
end Go.Proofs.Ytmmnjjcopdabcaa.tcpBegins
namespace Go.Proofs.Ytmmnjjcopdabcaa
theorem tcpBegins_holds : Rows.TcpBeginsSaid := tcpBegins.over
end Go.Proofs.Ytmmnjjcopdabcaa
