/- For every input the law TcpSteps returns true and leaves its arguments as they were. -/
import Derived.Test.YtmmnjjcopdabcaaTcx14
import Derived.Test.YtmmnjjcopdabcaaTcx26
import Derived.Test.YtmmnjjcopdabcaaTcx34
import Derived.Test.YtmmnjjcopdabcaaTcx40
import Derived.Test.YtmmnjjcopdabcaaTcx41
import Derived.Test.YtmmnjjcopdabcaaRows
import Derived.WalkKit
import Derived.ProofKit
import Derived.OpenShut
import Derived.ShutString
import Derived.ChangeOld
import Derived.Below
import Derived.SizedLaws
namespace Go.Proofs.Ytmmnjjcopdabcaa
abbrev tcx46o0 : Oper := { dst := none, op := Op.store 28 (.tmp 7) (.tmp 17), type := 0, pos := "law.go:37", after := #[{ on := 8, ground := Ground.data }, { on := 6, ground := Ground.data }, { on := 4, ground := Ground.chain }, { on := 0, ground := Ground.phase }, { on := 1, ground := Ground.phase }, { on := 2, ground := Ground.phase }, { on := 3, ground := Ground.phase }, { on := 4, ground := Ground.phase }, { on := 5, ground := Ground.phase }, { on := 6, ground := Ground.phase }, { on := 7, ground := Ground.textOnly Departure.lateStores }, { on := 8, ground := Ground.phase }], guard := none }
abbrev tcx46o1 : Oper := { dst := some 8, op := Op.assign (.tmp 18), type := 29, pos := "law.go:37", after := #[{ on := 7, ground := Ground.data }, { on := 9, ground := Ground.chain }, { on := 0, ground := Ground.phase }, { on := 1, ground := Ground.phase }, { on := 2, ground := Ground.phase }, { on := 3, ground := Ground.phase }, { on := 4, ground := Ground.phase }, { on := 5, ground := Ground.phase }, { on := 6, ground := Ground.phase }, { on := 7, ground := Ground.phase }, { on := 8, ground := Ground.phase }, { on := 9, ground := Ground.phase }], guard := none }
abbrev tcx46o2 : Oper := { dst := some 16, op := Op.call { callee := Callee.value (.func 17), args := #[.tmp 12, .tmp 13, .tmp 15], argTypes := #[28, 3, 39] }, type := 30, pos := "law.go:37", after := #[{ on := 0, ground := Ground.data }, { on := 1, ground := Ground.data }, { on := 3, ground := Ground.data }, { on := 3, ground := Ground.chain }], guard := none }
abbrev tcx46o3 : Oper := { dst := some 18, op := Op.extract (.tmp 11) 1, type := 29, pos := "law.go:37", after := #[{ on := 5, ground := Ground.data }, { on := 9, ground := Ground.gcOnly Departure.lateStores }], guard := none }
abbrev tcx46o4 : Oper := { dst := some 15, op := Op.call { callee := Callee.value (.func 18), args := #[.tmp 14], argTypes := #[24] }, type := 39, pos := "law.go:37", after := #[{ on := 2, ground := Ground.data }], guard := none }
abbrev tcx46o5 : Oper := { dst := some 11, op := Op.move (.tmp 16), type := 30, pos := "law.go:37", after := #[{ on := 4, ground := Ground.data }], guard := none }
abbrev tcx46o6 : Oper := { dst := some 17, op := Op.extract (.tmp 11) 0, type := 28, pos := "law.go:37", after := #[{ on := 5, ground := Ground.data }], guard := none }
abbrev tcx46o7 : Oper := { dst := some 7, op := Op.alloc 28, type := 0, pos := "law.go:37", after := #[], guard := none }
end Go.Proofs.Ytmmnjjcopdabcaa
namespace Go.Proofs.Ytmmnjjcopdabcaa
open Go.RowKit
set_option linter.unusedVariables false
set_option linter.unusedSimpArgs false
theorem rstep_tc (c : Cn) (i : Int) (g : Gt) (w : World) : Calls Try.prog 19 #[.agg c.v, .int .i64 i, .agg g.v] w fun e w' => e = .returned (.tuple #[.agg (c.step i g).1.v, .int .i64 (c.step i g).2]) ∧ Below w.heap.size w w' := by
 by_cases h0 : i = 0
 ·subst h0; exact rstep0_tc c g w
 by_cases h1 : i = 1
 ·subst h1; exact rstep1_tc c g w
 exact rstepB_tc c i g w h0 h1
set_option maxRecDepth 100000 in
set_option maxHeartbeats 4000000 in
theorem tcpSteps_walk (c : Cn) (i : Int) (g : Gt) (w : World) :
  Calls Try.prog 5 #[.agg c.v, .int .i64 i, .agg g.v] w fun e w' => e = .returned (.bool true) ∧ Below w.heap.size w w' := by
 have K1 : Hid (∀ W, Calls Try.prog 17 #[.agg c.v, .int .i64 i, .agg g.v] W fun e w' => e = .returned (.tuple #[.agg (c.step i g).1.v, .int .i64 (c.step i g).2]) ∧ Below W.heap.size W w') := fun W => step_tc c i g W
 have K2 : Hid (∀ W, Calls Try.prog 19 #[.agg c.v, .int .i64 i, .agg g.v] W fun e w' => e = .returned (.tuple #[.agg (c.step i g).1.v, .int .i64 (c.step i g).2]) ∧ Below W.heap.size W w') := fun W => rstep_tc c i g W
 have KG : Hid (∀ W, Calls Try.prog 18 #[.agg g.v] W fun e w' => e = .returned (.agg g.v) ∧ Below W.heap.size W w') := fun W => seg_tc g W
 have KL : Hid (∀ W, Calls Try.prog 12 #[] W fun e w' => e = .returned (.bool true) ∧ Below W.heap.size W w') := fun W => alive_tc W
 generalize c.step i g = R at *
 obtain ⟨D, e⟩ := R
 dsimp only at *
 have hE := eql_cn D
 obtain ⟨Wk1, hWk1⟩ : ∃ W, w.alloc (.cells c.v 28) = W := ⟨_, rfl⟩
 have bk1 := bel_nw hWk1
 have Ck1 := blk_nw hWk1
 obtain ⟨Wk2, hWk2⟩ : ∃ W, Wk1.alloc (.cells g.v 24) = W := ⟨_, rfl⟩
 have bk2 := bel_al bk1 hWk2
 have Ck2 := Ck1.al hWk2
 have Gk2 := blk_nw hWk2
 have gG : w.heap.size ≤ Wk1.heap.size := bk1.size
 clear Ck1 bk1
 go_enter Try.func5, Try.ntmps5
 go_wp2_with (first | (refine wpList_load_blk_w (by rfl) _ _ rfl w.heap.size (by rfl) _ Ck2 Try.underlying28 (by kernel_rfl) ?_) | (refine wpList_load_blk_w (by rfl) _ _ rfl Wk1.heap.size (by rfl) _ Gk2 Try.underlying24 (by kernel_rfl) ?_))
 have Cd := Ck2.drew
 have Gd := Gk2.drew
 have bd := bk2.drew
 refine wp_region_noPanic ?_
 refine wp_region_held_drew (S := fun w' => Blk w' w.heap.size 28 c.v ∧ Blk w' Wk1.heap.size 24 g.v) (by kernel_rfl) (by exact ⟨Cd, Gd⟩) (fun hHeld => ?_)
 obtain ⟨Wdk2, hWdk2⟩ : ∃ W, Wk2.drew = W := ⟨_, rfl⟩
 rw [hWdk2] at hHeld Cd Gd bd ⊢
 refine qty (i := 0) (oi := { dst := some 12, op := Op.load 28 (.tmp 3), type := 28, pos := "law.go:37", after := #[], guard := none }) (v := (.agg c.v)) (yieldsIf_blk_w (by kernel_rfl) _ _ rfl w.heap.size (by rfl) _ (fun _ hSw => hSw.1) Try.underlying28 (by kernel_rfl)) hHeld ?_
 try simp only [qpu]
 refine qtk (i := 1) (oi := { dst := some 13, op := Op.move (.tmp 1), type := 3, pos := "law.go:37", after := #[], guard := none }) (v := (.int .i64 i)) hHeld ?_ ?_
 ·intro w9 hSw
  try dsimp only at hSw
  go_simp
 try simp only [qpu]
 refine qty (i := 2) (oi := { dst := some 14, op := Op.load 24 (.tmp 5), type := 24, pos := "law.go:37", after := #[], guard := none }) (v := (.agg g.v)) (yieldsIf_blk_w (by kernel_rfl) _ _ rfl Wk1.heap.size (by rfl) _ (fun _ hSw => hSw.2) Try.underlying24 (by kernel_rfl)) hHeld ?_
 try simp only [qpu]
 refine wpAnyH_ready (rs := [3, 8]) (by kernel_rfl) (by simp) ?_
 refine AllReadyH.cons (o := tcx46o4) rfl (fun K hK => ?_) (AllReadyH.cons (o := tcx46o7) rfl (fun K hK => ?_) AllReadyH.nil)
 ·go_simp
  refine Calls.mono (KG.out _) ?_
  rintro e Wx1 ⟨rfl, bb⟩
  have Cx1 := Cd.kept bb
  have Gx1 := Gd.kept bb
  have bx1 := bel_tr bd bb
  clear bb
  refine hK.out _ _ (by exact ⟨Cx1, Gx1⟩) (fun hHeld => ?_)
  clear hK K
  try simp only [qpu]
  refine wpAnyH_ready (rs := [4, 8]) (by kernel_rfl) (by simp) ?_
  refine AllReadyH.cons (o := tcx46o2) rfl (fun K hK => ?_) (AllReadyH.cons (o := tcx46o7) rfl (fun K hK => ?_) AllReadyH.nil)
  ·go_simp
   refine Calls.mono (K1.out _) ?_
   rintro e Wx2 ⟨rfl, bb⟩
   have Cx2 := Cx1.kept bb
   have Gx2 := Gx1.kept bb
   have bx2 := bel_tr bx1 bb
   clear bb
   refine hK.out _ _ (by exact ⟨Cx2, Gx2⟩) (fun hHeld => ?_)
   clear hK K
   try simp only [qpu]
   refine qtk (i := 5) (oi := tcx46o5) (v := (.tuple #[.agg D.v, .int .i64 e])) hHeld ?_ ?_
   ·intro w9 hSw
    try dsimp only at hSw
    go_simp
   try simp only [qpu]
   refine qtk (i := 6) (oi := tcx46o6) (v := (.agg D.v)) hHeld ?_ ?_
   ·intro w9 hSw
    try dsimp only at hSw
    go_simp
   try simp only [qpu]
   refine qtk (i := 7) (oi := tcx46o3) (v := (.int .i64 e)) hHeld ?_ ?_
   ·intro w9 hSw
    try dsimp only at hSw
    go_simp
   try simp only [qpu]
   refine wpAnyH_ready (rs := [8]) (by kernel_rfl) (by simp) ?_
   refine AllReadyH.cons (o := tcx46o7) rfl (fun K hK => ?_) AllReadyH.nil
   go_simp
   obtain ⟨Wx3, hWx3⟩ : ∃ W, Wx2.alloc (.cells #[.int .i64 0, .int .u32 0, .int .u32 0, .int .u32 0, .int .u32 0, .bool false, .bool false, .bool false, .bool false] 28) = W := ⟨_, rfl⟩
   rw [hWx3]
   have Cx3 := Cx2.al hWx3
   have Gx3 := Gx2.al hWx3
   have Yx3 := blk_nw hWx3
   have bx3 := bel_al bx2 hWx3
   have gY : w.heap.size ≤ Wx2.heap.size := bx2.size
   have nCY : w.heap.size ≠ Wx2.heap.size := by have := Cx2.lt; omega
   have nGY : Wk1.heap.size ≠ Wx2.heap.size := by have := Gx2.lt; omega
   refine hK.out _ _ (by exact ⟨Cx3, Gx3⟩) (fun hHeld => ?_)
   clear hK K
   try simp only [qpu]
   refine wpAnyH_ready (rs := [9]) (by kernel_rfl) (by simp) ?_
   refine AllReadyH.cons (o := tcx46o0) rfl (fun K hK => ?_) AllReadyH.nil
   refine step_store_blk rfl _ _ _ rfl Wx2.heap.size D.v _ (by rfl) (by rfl) Yx3 (by kernel_rfl) (by rfl) (by kernel_rfl) ?_
   have Cx4 := Cx3.other nCY D.v
   have Gx4 := Gx3.other nGY D.v
   have Yx4 := Yx3.set D.v
   have bx4 := below_setRow bx3 gY D.v
   refine hK.out _ _ (by exact ⟨Cx4, Gx4⟩) (fun hHeld => ?_)
   clear hK K
   try simp only [qpu]
   refine qtk (i := 10) (oi := tcx46o1) (v := (.int .i64 e)) hHeld ?_ ?_
   ·intro w9 hSw
    try dsimp only at hSw
    go_simp
   try simp only [qpu]
   refine wpAnyH_done (by kernel_rfl) ?_ _
   refine NoPanic.normal ?_
   go_wp2_with (first | (refine wpList_load_blk_w (by rfl) _ _ rfl w.heap.size (by rfl) _ Cx4 Try.underlying28 (by kernel_rfl) ?_) | (refine wpList_load_blk_w (by rfl) _ _ rfl Wk1.heap.size (by rfl) _ Gx4 Try.underlying24 (by kernel_rfl) ?_) | (refine wpList_load_blk_w (by rfl) _ _ rfl Wx2.heap.size (by rfl) _ Yx4 Try.underlying28 (by kernel_rfl) ?_))
   refine Calls.mono (K2.out _) ?_
   rintro e Wm1 ⟨rfl, bb⟩
   have Cm1 := Cx4.kept bb
   have Gm1 := Gx4.kept bb
   have Ym1 := Yx4.kept bb
   have bm1 := bel_tr bx4 bb
   clear bb
   clear Cx4 Gx4 Yx4 bx4
   obtain ⟨Wym2, hWym2⟩ : ∃ W, Wm1.alloc (.cells #[.int .i64 0, .int .u32 0, .int .u32 0, .int .u32 0, .int .u32 0, .bool false, .bool false, .bool false, .bool false] 28) = W := ⟨_, rfl⟩
   have Bbym2 := blk_nw hWym2
   have Cym2 := Cm1.al hWym2
   have Gym2 := Gm1.al hWym2
   have Yym2 := Ym1.al hWym2
   have bym2 := bel_al bm1 hWym2
   have gE : w.heap.size ≤ Wm1.heap.size := bm1.size
   have nCE : w.heap.size ≠ Wm1.heap.size := by have := Cm1.lt; omega
   have nEC : Wm1.heap.size ≠ w.heap.size := fun e => nCE e.symm
   have nGE : Wk1.heap.size ≠ Wm1.heap.size := by have := Gm1.lt; omega
   have nEG : Wm1.heap.size ≠ Wk1.heap.size := fun e => nGE e.symm
   have nYE : Wx2.heap.size ≠ Wm1.heap.size := by have := Ym1.lt; omega
   have nEY : Wm1.heap.size ≠ Wx2.heap.size := fun e => nYE e.symm
   obtain ⟨Wm2, hWm2⟩ : ∃ W, Wym2.setRow Wm1.heap.size D.v = W := ⟨_, rfl⟩
   have Em2 : Blk Wm2 Wm1.heap.size 28 D.v := hWm2 ▸ Bbym2.set _
   have Cm2 := hWm2 ▸ Cym2.other nCE D.v
   have Gm2 := hWm2 ▸ Gym2.other nGE D.v
   have Ym2 := hWm2 ▸ Yym2.other nYE D.v
   have bm2 := hWm2 ▸ below_setRow bym2 gE D.v
   clear Cym2 Gym2 Yym2 bym2
   clear Cm1 Gm1 Ym1 bm1
   go_wp2_with (first | (refine wpList_load_blk_w (by rfl) _ _ rfl w.heap.size (by rfl) _ Cm2 Try.underlying28 (by kernel_rfl) ?_) | (refine wpList_load_blk_w (by rfl) _ _ rfl Wk1.heap.size (by rfl) _ Gm2 Try.underlying24 (by kernel_rfl) ?_) | (refine wpList_load_blk_w (by rfl) _ _ rfl Wx2.heap.size (by rfl) _ Ym2 Try.underlying28 (by kernel_rfl) ?_) | (refine wpList_load_blk_w (by rfl) _ _ rfl Wm1.heap.size (by rfl) _ Em2 Try.underlying28 (by kernel_rfl) ?_) | (refine wpList_store_row rfl _ _ _ rfl Wm1.heap.size D.v (by rfl) (by rfl) _ _ Bbym2 (by kernel_rfl) (by rfl) (by kernel_rfl) ?_; rw [hWm2]))
   refine Calls.mono (KL.out _) ?_
   rintro e Wm3 ⟨rfl, bb⟩
   have Cm3 := Cm2.kept bb
   have Gm3 := Gm2.kept bb
   have Ym3 := Ym2.kept bb
   have Em3 := Em2.kept bb
   have bm3 := bel_tr bm2 bb
   clear bb
   clear Cm2 Gm2 Ym2 Em2 bm2
   go_wp2
   go_ret
   exact ⟨rfl, bm3⟩
  ·go_simp
   obtain ⟨Wx5, hWx5⟩ : ∃ W, Wx1.alloc (.cells #[.int .i64 0, .int .u32 0, .int .u32 0, .int .u32 0, .int .u32 0, .bool false, .bool false, .bool false, .bool false] 28) = W := ⟨_, rfl⟩
   rw [hWx5]
   have Cx5 := Cx1.al hWx5
   have Gx5 := Gx1.al hWx5
   have Y2_x5 := blk_nw hWx5
   have bx5 := bel_al bx1 hWx5
   have gY2_ : w.heap.size ≤ Wx1.heap.size := bx1.size
   have nCY2_ : w.heap.size ≠ Wx1.heap.size := by have := Cx1.lt; omega
   have nGY2_ : Wk1.heap.size ≠ Wx1.heap.size := by have := Gx1.lt; omega
   refine hK.out _ _ (by exact ⟨Cx5, Gx5⟩) (fun hHeld => ?_)
   clear hK K
   try simp only [qpu]
   refine wpAnyH_ready (rs := [4]) (by kernel_rfl) (by simp) ?_
   refine AllReadyH.cons (o := tcx46o2) rfl (fun K hK => ?_) AllReadyH.nil
   go_simp
   refine Calls.mono (K1.out _) ?_
   rintro e Wx6 ⟨rfl, bb⟩
   have Cx6 := Cx5.kept bb
   have Gx6 := Gx5.kept bb
   have Y2_x6 := Y2_x5.kept bb
   have bx6 := bel_tr bx5 bb
   clear bb
   refine hK.out _ _ (by exact ⟨Cx6, Gx6⟩) (fun hHeld => ?_)
   clear hK K
   try simp only [qpu]
   refine qtk (i := 5) (oi := tcx46o5) (v := (.tuple #[.agg D.v, .int .i64 e])) hHeld ?_ ?_
   ·intro w9 hSw
    try dsimp only at hSw
    go_simp
   try simp only [qpu]
   refine qtk (i := 6) (oi := tcx46o6) (v := (.agg D.v)) hHeld ?_ ?_
   ·intro w9 hSw
    try dsimp only at hSw
    go_simp
   try simp only [qpu]
   refine qtk (i := 7) (oi := tcx46o3) (v := (.int .i64 e)) hHeld ?_ ?_
   ·intro w9 hSw
    try dsimp only at hSw
    go_simp
   try simp only [qpu]
   refine wpAnyH_ready (rs := [9]) (by kernel_rfl) (by simp) ?_
   refine AllReadyH.cons (o := tcx46o0) rfl (fun K hK => ?_) AllReadyH.nil
   refine step_store_blk rfl _ _ _ rfl Wx1.heap.size D.v _ (by rfl) (by rfl) Y2_x6 (by kernel_rfl) (by rfl) (by kernel_rfl) ?_
   have Cx7 := Cx6.other nCY2_ D.v
   have Gx7 := Gx6.other nGY2_ D.v
   have Y2_x7 := Y2_x6.set D.v
   have bx7 := below_setRow bx6 gY2_ D.v
   refine hK.out _ _ (by exact ⟨Cx7, Gx7⟩) (fun hHeld => ?_)
   clear hK K
   try simp only [qpu]
   refine qtk (i := 10) (oi := tcx46o1) (v := (.int .i64 e)) hHeld ?_ ?_
   ·intro w9 hSw
    try dsimp only at hSw
    go_simp
   try simp only [qpu]
   refine wpAnyH_done (by kernel_rfl) ?_ _
   refine NoPanic.normal ?_
   go_wp2_with (first | (refine wpList_load_blk_w (by rfl) _ _ rfl w.heap.size (by rfl) _ Cx7 Try.underlying28 (by kernel_rfl) ?_) | (refine wpList_load_blk_w (by rfl) _ _ rfl Wk1.heap.size (by rfl) _ Gx7 Try.underlying24 (by kernel_rfl) ?_) | (refine wpList_load_blk_w (by rfl) _ _ rfl Wx1.heap.size (by rfl) _ Y2_x7 Try.underlying28 (by kernel_rfl) ?_))
   refine Calls.mono (K2.out _) ?_
   rintro e Wm1 ⟨rfl, bb⟩
   have Cm1 := Cx7.kept bb
   have Gm1 := Gx7.kept bb
   have Y2_m1 := Y2_x7.kept bb
   have bm1 := bel_tr bx7 bb
   clear bb
   clear Cx7 Gx7 Y2_x7 bx7
   obtain ⟨Wym2, hWym2⟩ : ∃ W, Wm1.alloc (.cells #[.int .i64 0, .int .u32 0, .int .u32 0, .int .u32 0, .int .u32 0, .bool false, .bool false, .bool false, .bool false] 28) = W := ⟨_, rfl⟩
   have Bbym2 := blk_nw hWym2
   have Cym2 := Cm1.al hWym2
   have Gym2 := Gm1.al hWym2
   have Y2_ym2 := Y2_m1.al hWym2
   have bym2 := bel_al bm1 hWym2
   have gE : w.heap.size ≤ Wm1.heap.size := bm1.size
   have nCE : w.heap.size ≠ Wm1.heap.size := by have := Cm1.lt; omega
   have nEC : Wm1.heap.size ≠ w.heap.size := fun e => nCE e.symm
   have nGE : Wk1.heap.size ≠ Wm1.heap.size := by have := Gm1.lt; omega
   have nEG : Wm1.heap.size ≠ Wk1.heap.size := fun e => nGE e.symm
   have nY2_E : Wx1.heap.size ≠ Wm1.heap.size := by have := Y2_m1.lt; omega
   have nEY2_ : Wm1.heap.size ≠ Wx1.heap.size := fun e => nY2_E e.symm
   obtain ⟨Wm2, hWm2⟩ : ∃ W, Wym2.setRow Wm1.heap.size D.v = W := ⟨_, rfl⟩
   have Em2 : Blk Wm2 Wm1.heap.size 28 D.v := hWm2 ▸ Bbym2.set _
   have Cm2 := hWm2 ▸ Cym2.other nCE D.v
   have Gm2 := hWm2 ▸ Gym2.other nGE D.v
   have Y2_m2 := hWm2 ▸ Y2_ym2.other nY2_E D.v
   have bm2 := hWm2 ▸ below_setRow bym2 gE D.v
   clear Cym2 Gym2 Y2_ym2 bym2
   clear Cm1 Gm1 Y2_m1 bm1
   go_wp2_with (first | (refine wpList_load_blk_w (by rfl) _ _ rfl w.heap.size (by rfl) _ Cm2 Try.underlying28 (by kernel_rfl) ?_) | (refine wpList_load_blk_w (by rfl) _ _ rfl Wk1.heap.size (by rfl) _ Gm2 Try.underlying24 (by kernel_rfl) ?_) | (refine wpList_load_blk_w (by rfl) _ _ rfl Wx1.heap.size (by rfl) _ Y2_m2 Try.underlying28 (by kernel_rfl) ?_) | (refine wpList_load_blk_w (by rfl) _ _ rfl Wm1.heap.size (by rfl) _ Em2 Try.underlying28 (by kernel_rfl) ?_) | (refine wpList_store_row rfl _ _ _ rfl Wm1.heap.size D.v (by rfl) (by rfl) _ _ Bbym2 (by kernel_rfl) (by rfl) (by kernel_rfl) ?_; rw [hWm2]))
   refine Calls.mono (KL.out _) ?_
   rintro e Wm3 ⟨rfl, bb⟩
   have Cm3 := Cm2.kept bb
   have Gm3 := Gm2.kept bb
   have Y2_m3 := Y2_m2.kept bb
   have Em3 := Em2.kept bb
   have bm3 := bel_tr bm2 bb
   clear bb
   clear Cm2 Gm2 Y2_m2 Em2 bm2
   go_wp2
   go_ret
   exact ⟨rfl, bm3⟩
 ·go_simp
  obtain ⟨Wx8, hWx8⟩ : ∃ W, Wdk2.alloc (.cells #[.int .i64 0, .int .u32 0, .int .u32 0, .int .u32 0, .int .u32 0, .bool false, .bool false, .bool false, .bool false] 28) = W := ⟨_, rfl⟩
  rw [hWx8]
  have Cx8 := Cd.al hWx8
  have Gx8 := Gd.al hWx8
  have Y3_x8 := blk_nw hWx8
  have bx8 := bel_al bd hWx8
  have gY3_ : w.heap.size ≤ Wdk2.heap.size := bd.size
  have nCY3_ : w.heap.size ≠ Wdk2.heap.size := by have := Cd.lt; omega
  have nGY3_ : Wk1.heap.size ≠ Wdk2.heap.size := by have := Gd.lt; omega
  refine hK.out _ _ (by exact ⟨Cx8, Gx8⟩) (fun hHeld => ?_)
  clear hK K
  try simp only [qpu]
  refine wpAnyH_ready (rs := [3]) (by kernel_rfl) (by simp) ?_
  refine AllReadyH.cons (o := tcx46o4) rfl (fun K hK => ?_) AllReadyH.nil
  go_simp
  refine Calls.mono (KG.out _) ?_
  rintro e Wx9 ⟨rfl, bb⟩
  have Cx9 := Cx8.kept bb
  have Gx9 := Gx8.kept bb
  have Y3_x9 := Y3_x8.kept bb
  have bx9 := bel_tr bx8 bb
  clear bb
  refine hK.out _ _ (by exact ⟨Cx9, Gx9⟩) (fun hHeld => ?_)
  clear hK K
  try simp only [qpu]
  refine wpAnyH_ready (rs := [4]) (by kernel_rfl) (by simp) ?_
  refine AllReadyH.cons (o := tcx46o2) rfl (fun K hK => ?_) AllReadyH.nil
  go_simp
  refine Calls.mono (K1.out _) ?_
  rintro e Wx10 ⟨rfl, bb⟩
  have Cx10 := Cx9.kept bb
  have Gx10 := Gx9.kept bb
  have Y3_x10 := Y3_x9.kept bb
  have bx10 := bel_tr bx9 bb
  clear bb
  refine hK.out _ _ (by exact ⟨Cx10, Gx10⟩) (fun hHeld => ?_)
  clear hK K
  try simp only [qpu]
  refine qtk (i := 5) (oi := tcx46o5) (v := (.tuple #[.agg D.v, .int .i64 e])) hHeld ?_ ?_
  ·intro w9 hSw
   try dsimp only at hSw
   go_simp
  try simp only [qpu]
  refine qtk (i := 6) (oi := tcx46o6) (v := (.agg D.v)) hHeld ?_ ?_
  ·intro w9 hSw
   try dsimp only at hSw
   go_simp
  try simp only [qpu]
  refine qtk (i := 7) (oi := tcx46o3) (v := (.int .i64 e)) hHeld ?_ ?_
  ·intro w9 hSw
   try dsimp only at hSw
   go_simp
  try simp only [qpu]
  refine wpAnyH_ready (rs := [9]) (by kernel_rfl) (by simp) ?_
  refine AllReadyH.cons (o := tcx46o0) rfl (fun K hK => ?_) AllReadyH.nil
  refine step_store_blk rfl _ _ _ rfl Wdk2.heap.size D.v _ (by rfl) (by rfl) Y3_x10 (by kernel_rfl) (by rfl) (by kernel_rfl) ?_
  have Cx11 := Cx10.other nCY3_ D.v
  have Gx11 := Gx10.other nGY3_ D.v
  have Y3_x11 := Y3_x10.set D.v
  have bx11 := below_setRow bx10 gY3_ D.v
  refine hK.out _ _ (by exact ⟨Cx11, Gx11⟩) (fun hHeld => ?_)
  clear hK K
  try simp only [qpu]
  refine qtk (i := 10) (oi := tcx46o1) (v := (.int .i64 e)) hHeld ?_ ?_
  ·intro w9 hSw
   try dsimp only at hSw
   go_simp
  try simp only [qpu]
  refine wpAnyH_done (by kernel_rfl) ?_ _
  refine NoPanic.normal ?_
  go_wp2_with (first | (refine wpList_load_blk_w (by rfl) _ _ rfl w.heap.size (by rfl) _ Cx11 Try.underlying28 (by kernel_rfl) ?_) | (refine wpList_load_blk_w (by rfl) _ _ rfl Wk1.heap.size (by rfl) _ Gx11 Try.underlying24 (by kernel_rfl) ?_) | (refine wpList_load_blk_w (by rfl) _ _ rfl Wdk2.heap.size (by rfl) _ Y3_x11 Try.underlying28 (by kernel_rfl) ?_))
  refine Calls.mono (K2.out _) ?_
  rintro e Wm1 ⟨rfl, bb⟩
  have Cm1 := Cx11.kept bb
  have Gm1 := Gx11.kept bb
  have Y3_m1 := Y3_x11.kept bb
  have bm1 := bel_tr bx11 bb
  clear bb
  clear Cx11 Gx11 Y3_x11 bx11
  obtain ⟨Wym2, hWym2⟩ : ∃ W, Wm1.alloc (.cells #[.int .i64 0, .int .u32 0, .int .u32 0, .int .u32 0, .int .u32 0, .bool false, .bool false, .bool false, .bool false] 28) = W := ⟨_, rfl⟩
  have Bbym2 := blk_nw hWym2
  have Cym2 := Cm1.al hWym2
  have Gym2 := Gm1.al hWym2
  have Y3_ym2 := Y3_m1.al hWym2
  have bym2 := bel_al bm1 hWym2
  have gE : w.heap.size ≤ Wm1.heap.size := bm1.size
  have nCE : w.heap.size ≠ Wm1.heap.size := by have := Cm1.lt; omega
  have nEC : Wm1.heap.size ≠ w.heap.size := fun e => nCE e.symm
  have nGE : Wk1.heap.size ≠ Wm1.heap.size := by have := Gm1.lt; omega
  have nEG : Wm1.heap.size ≠ Wk1.heap.size := fun e => nGE e.symm
  have nY3_E : Wdk2.heap.size ≠ Wm1.heap.size := by have := Y3_m1.lt; omega
  have nEY3_ : Wm1.heap.size ≠ Wdk2.heap.size := fun e => nY3_E e.symm
  obtain ⟨Wm2, hWm2⟩ : ∃ W, Wym2.setRow Wm1.heap.size D.v = W := ⟨_, rfl⟩
  have Em2 : Blk Wm2 Wm1.heap.size 28 D.v := hWm2 ▸ Bbym2.set _
  have Cm2 := hWm2 ▸ Cym2.other nCE D.v
  have Gm2 := hWm2 ▸ Gym2.other nGE D.v
  have Y3_m2 := hWm2 ▸ Y3_ym2.other nY3_E D.v
  have bm2 := hWm2 ▸ below_setRow bym2 gE D.v
  clear Cym2 Gym2 Y3_ym2 bym2
  clear Cm1 Gm1 Y3_m1 bm1
  go_wp2_with (first | (refine wpList_load_blk_w (by rfl) _ _ rfl w.heap.size (by rfl) _ Cm2 Try.underlying28 (by kernel_rfl) ?_) | (refine wpList_load_blk_w (by rfl) _ _ rfl Wk1.heap.size (by rfl) _ Gm2 Try.underlying24 (by kernel_rfl) ?_) | (refine wpList_load_blk_w (by rfl) _ _ rfl Wdk2.heap.size (by rfl) _ Y3_m2 Try.underlying28 (by kernel_rfl) ?_) | (refine wpList_load_blk_w (by rfl) _ _ rfl Wm1.heap.size (by rfl) _ Em2 Try.underlying28 (by kernel_rfl) ?_) | (refine wpList_store_row rfl _ _ _ rfl Wm1.heap.size D.v (by rfl) (by rfl) _ _ Bbym2 (by kernel_rfl) (by rfl) (by kernel_rfl) ?_; rw [hWm2]))
  refine Calls.mono (KL.out _) ?_
  rintro e Wm3 ⟨rfl, bb⟩
  have Cm3 := Cm2.kept bb
  have Gm3 := Gm2.kept bb
  have Y3_m3 := Y3_m2.kept bb
  have Em3 := Em2.kept bb
  have bm3 := bel_tr bm2 bb
  clear bb
  clear Cm2 Gm2 Y3_m2 Em2 bm2
  go_wp2
  go_ret
  exact ⟨rfl, bm3⟩
end Go.Proofs.Ytmmnjjcopdabcaa
namespace Go.Proofs.Ytmmnjjcopdabcaa.tcpSteps
open Go.ChangeShapes Go.WideShapes Go.ChangeAt Go.RowKit
open Go.ChangeMaps (open_string shut_string)
set_option linter.unusedVariables false
theorem own : ownKnob Try.prog.godebug = none := by kernel_rfl
theorem laidOut : laidOutB Try.prog = true := by kernel_rfl
set_option maxRecDepth 100000 in
theorem lifted (os : Os) (started : os.Started) (H : Type) (enc : TypeId × Value → H) :
  ReturnsInHanded {} Try.checked os 5 .any (Rows.tcpStepsSpec.pre6 enc Try.prog Try.f5 Rows.tcpStepsRow.domain false) (Rows.tcpStepsSpec.post enc Try.prog Try.f5 false true false false) := by
 refine returnsInHanded_of_change_sized (C := Try.checked) own started (by kernel_rfl) Try.func5
  (ChangeSpec.witness6 (enc := enc) (C := Try.checked) false ⟨#[], #[.agg #[.int .i64 0, .int .u32 0, .int .u32 0, .int .u32 0, .int .u32 0, .bool false, .bool false, .bool false, .bool false], .int .i64 0, .agg #[.int .i64 0, .int .i64 0, .int .i64 0, .int .u32 0, .int .u32 0]], []⟩ 8 (by kernel_rfl) (by kernel_rfl) (by kernel_rfl) (by kernel_rfl)) ?_
 intro W base args ds gs before hval0 hW hcnd hsz0 _
 have hval : ∀ (j : Nat) t v, Try.f5.params[j]? = some t → args[j]? = some v → Value.okWide Try.prog W .any base t v := hval0
 have hW' := hW
 obtain ⟨p, q, hA0, hV, rfl, hfz, hnd⟩ := hW
 have hA : DataW.TrodAll enc Try.prog W 0 (fun _ => true) true Try.f5.params.toList args.toList ds p := hA0
 have hsz : (DataW.weightsEach Try.prog (Try.f5.params.toList ++ Rows.tcpStepsSpec.plain.varTypes Try.prog) (ds ++ gs)).all (· ≤ reachBytes) = true := hsz0
 rw [Try.params5] at hA hval hsz
 obtain ⟨v0, vs0, d0, ds0, p0, q0, hargs, rfl, rfl, h0, r0⟩ := trodAll_cons hA
 obtain ⟨v1, vs1, d1, ds1, p1, q1, rfl, rfl, rfl, h1, r1⟩ := trodAll_cons r0
 obtain ⟨v2, vs2, d2, ds2, p2, q2, rfl, rfl, rfl, h2, r2⟩ := trodAll_cons r1
 obtain ⟨rfl, rfl, rfl⟩ := trodAll_nil r2
 obtain rfl : args = #[v0, v1, v2] := by cases args; simp_all
 obtain ⟨rfl, rfl⟩ := trodVars_none hV
 have lt0 : ∀ x ∈ p0, x.block < W.heap.size := by obtain ⟨m, hm⟩ := h0; exact DataW.trod_lt m _ _ _ hm
 have s0 : ∀ n ∈ d0.weights Try.prog 28, n ≤ reachBytes := fun n hn => by simpa using List.all_eq_true.1 hsz n (DataW.weights_mem_each (j := 0) (t := 28) rfl rfl n hn)
 obtain ⟨q0, rfl, ok0⟩ := open_cn (hval 0 28 v0 rfl rfl) h0
 obtain ⟨x1, rfl, rfl, rfl, w1⟩ := open_int Try.underlying3 (hval 1 3 v1 rfl rfl) h1
 have lt2 : ∀ x ∈ p2, x.block < W.heap.size := by obtain ⟨m, hm⟩ := h2; exact DataW.trod_lt m _ _ _ hm
 have s2 : ∀ n ∈ d2.weights Try.prog 24, n ≤ reachBytes := fun n hn => by simpa using List.all_eq_true.1 hsz n (DataW.weights_mem_each (j := 2) (t := 24) rfl rfl n hn)
 obtain ⟨q2, rfl, ok2⟩ := open_gt (hval 2 24 v2 rfl rfl) h2
 clear hA0 hval0 hsz0
 refine (tcpSteps_walk q0 x1 q2 W ).mono fun e W' ⟨he, bel⟩ => ?_
 subst he
 exact ⟨_, rfl, _, _, _, [], _, [], hW', trodAll_mk1 (shut_bool Try.underlying4 _), (trodAll_cons_mk (Below.trod laidOut (by kernel_rfl) (of_decide_eq_true (by kernel_rfl)) h0 bel lt0) (trodAll_cons_mk (shut_int Try.underlying3 w1) (trodAll_cons_mk (Below.trod laidOut (by kernel_rfl) (of_decide_eq_true (by kernel_rfl)) h2 bel lt2) trodAll_mk0))), rfl, bel.frame _, fun h => by cases h⟩
theorem over : Rows.tcpStepsRow.holds Try.pinned (OpenSpec.ofChange Rows.tcpStepsSpec) :=
 OpenClaim.holds_of_wide 5 Try.f5 rfl rfl rfl rfl rfl rfl rfl ⟨rfl, rfl, rfl, rfl, rfl⟩ rfl rfl rfl rfl rfl (by kernel_rfl) Try.func5 (by kernel_rfl)
  (of_decide_eq_true (by kernel_rfl)) (by unfold Func.isWrapper; first | (rw [if_pos (by decide +kernel)]; kernel_rfl) | (rw [if_neg (by decide +kernel)]; exact ⟨rfl, rfl⟩))
  (fun os started H enc _ => lifted os started H enc)
end Go.Proofs.Ytmmnjjcopdabcaa.tcpSteps
namespace Go.Proofs.Ytmmnjjcopdabcaa
theorem tcpSteps_holds : Rows.TcpStepsSaid := tcpSteps.over
end Go.Proofs.Ytmmnjjcopdabcaa
