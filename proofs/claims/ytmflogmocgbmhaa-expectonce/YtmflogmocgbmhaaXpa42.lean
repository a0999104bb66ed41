/- For every input the law ExpectOnce returns true and leaves its arguments as they were. -/
import Derived.Test.YtmflogmocgbmhaaXpa32
import Derived.Test.YtmflogmocgbmhaaRows
import Derived.WalkKit
import Derived.ProofKit
import Derived.OpenShut
import Derived.ShutString
import Derived.ChangeOld
import Derived.Below
import Derived.SizedLaws
namespace Go.Proofs.Ytmflogmocgbmhaa
abbrev xpa42o0 : Oper := { dst := some 80, op := Op.call { callee := Callee.value (.func 13), args := #[.tmp 77, .tmp 79], argTypes := #[28, 26] }, type := 4, pos := "law.go:95", after := #[{ on := 20, ground := Ground.data }, { on := 22, ground := Ground.data }, { on := 22, ground := Ground.chain }, { on := 19, ground := Ground.guard }], guard := some (19, true) }
abbrev xpa42o1 : Oper := { dst := some 79, op := Op.call { callee := Callee.value (.func 23), args := #[.tmp 78], argTypes := #[45] }, type := 26, pos := "law.go:95", after := #[{ on := 21, ground := Ground.data }, { on := 19, ground := Ground.chain }, { on := 19, ground := Ground.guard }], guard := some (19, true) }
abbrev xpa42o2 : Oper := { dst := some 69, op := Op.call { callee := Callee.value (.func 20), args := #[.tmp 68], argTypes := #[35] }, type := 3, pos := "law.go:95", after := #[{ on := 11, ground := Ground.data }, { on := 10, ground := Ground.chain }, { on := 10, ground := Ground.guard }], guard := some (10, true) }
abbrev xpa42o3 : Oper := { dst := some 71, op := Op.binOp BinOp.neq 3 (.tmp 69) (.tmp 70) 3, type := 4, pos := "law.go:95", after := #[{ on := 12, ground := Ground.data }, { on := 13, ground := Ground.data }, { on := 10, ground := Ground.guard }], guard := some (10, true) }
abbrev xpa42o4 : Oper := { dst := some 82, op := Op.pick (.tmp 76) (.tmp 81) (.const (.bool false)), type := 4, pos := "law.go:95", after := #[{ on := 19, ground := Ground.data }, { on := 24, ground := Ground.data }, { on := 17, ground := Ground.guard }], guard := some (17, false) }
abbrev xpa42o5 : Oper := { dst := some 72, op := Op.pick (.tmp 67) (.tmp 71) (.const (.bool false)), type := 4, pos := "law.go:95", after := #[{ on := 10, ground := Ground.data }, { on := 14, ground := Ground.data }, { on := 7, ground := Ground.guard }], guard := some (7, false) }
abbrev xpa42o6 : Oper := { dst := some 59, op := Op.call { callee := Callee.value (.func 20), args := #[.tmp 58], argTypes := #[35] }, type := 3, pos := "law.go:95", after := #[{ on := 1, ground := Ground.data }], guard := none }
abbrev xpa42o7 : Oper := { dst := some 76, op := Op.move (.tmp 75), type := 4, pos := "law.go:95", after := #[{ on := 18, ground := Ground.data }, { on := 17, ground := Ground.chain }, { on := 17, ground := Ground.guard }], guard := some (17, false) }
abbrev xpa42o8 : Oper := { dst := some 67, op := Op.move (.tmp 66), type := 4, pos := "law.go:95", after := #[{ on := 9, ground := Ground.data }, { on := 7, ground := Ground.chain }, { on := 7, ground := Ground.guard }], guard := some (7, false) }
abbrev xpa42o9 : Oper := { dst := some 63, op := Op.binOp BinOp.neq 4 (.tmp 57) (.tmp 62) 4, type := 4, pos := "law.go:95", after := #[{ on := 0, ground := Ground.data }, { on := 5, ground := Ground.data }], guard := none }
abbrev xpa42o10 : Oper := { dst := some 62, op := Op.binOp BinOp.eql 3 (.tmp 59) (.tmp 61) 3, type := 4, pos := "law.go:95", after := #[{ on := 2, ground := Ground.data }, { on := 4, ground := Ground.data }], guard := none }
abbrev xpa42o11 : Oper := { dst := some 83, op := Op.pick (.tmp 74) (.const (.bool true)) (.tmp 82), type := 4, pos := "law.go:95", after := #[{ on := 17, ground := Ground.data }, { on := 25, ground := Ground.data }], guard := none }
abbrev xpa42o12 : Oper := { dst := some 73, op := Op.pick (.tmp 64) (.const (.bool true)) (.tmp 72), type := 4, pos := "law.go:95", after := #[{ on := 7, ground := Ground.data }, { on := 15, ground := Ground.data }], guard := none }
abbrev xpa42o13 : Oper := { dst := some 81, op := Op.unOp UnOp.not 4 (.tmp 80), type := 4, pos := "law.go:95", after := #[{ on := 23, ground := Ground.data }, { on := 19, ground := Ground.guard }], guard := some (19, true) }
abbrev xpa42o14 : Oper := { dst := some 66, op := Op.unOp UnOp.not 4 (.tmp 65), type := 4, pos := "law.go:95", after := #[{ on := 8, ground := Ground.data }, { on := 7, ground := Ground.guard }], guard := some (7, false) }
abbrev xpa42o15 : Oper := { dst := some 61, op := Op.binOp BinOp.sub 3 (.tmp 60) (.const (.int .i64 1)) 3, type := 3, pos := "law.go:95", after := #[{ on := 3, ground := Ground.data }], guard := none }
abbrev xpa42o16 : Oper := { dst := some 78, op := Op.load 45 (.tmp 8), type := 45, pos := "law.go:95", after := #[{ on := 19, ground := Ground.guard }], guard := some (19, true) }
abbrev xpa42o17 : Oper := { dst := some 74, op := Op.move (.tmp 73), type := 4, pos := "law.go:95", after := #[{ on := 16, ground := Ground.data }, { on := 12, ground := Ground.chain }], guard := none }
abbrev xpa42o18 : Oper := { dst := some 64, op := Op.move (.tmp 63), type := 4, pos := "law.go:95", after := #[{ on := 6, ground := Ground.data }, { on := 2, ground := Ground.chain }], guard := none }
abbrev xpa42o19 : Oper := { dst := some 77, op := Op.load 28 (.tmp 10), type := 28, pos := "law.go:95", after := #[{ on := 19, ground := Ground.guard }], guard := some (19, true) }
abbrev xpa42o20 : Oper := { dst := some 68, op := Op.move (.tmp 5), type := 35, pos := "law.go:95", after := #[{ on := 10, ground := Ground.guard }], guard := some (10, true) }
abbrev xpa42o21 : Oper := { dst := some 75, op := Op.move (.tmp 11), type := 4, pos := "law.go:95", after := #[{ on := 17, ground := Ground.guard }], guard := some (17, false) }
abbrev xpa42o22 : Oper := { dst := some 65, op := Op.move (.tmp 11), type := 4, pos := "law.go:95", after := #[{ on := 7, ground := Ground.guard }], guard := some (7, false) }
abbrev xpa42o23 : Oper := { dst := some 70, op := Op.move (.tmp 9), type := 3, pos := "law.go:95", after := #[{ on := 10, ground := Ground.guard }], guard := some (10, true) }
abbrev xpa42o24 : Oper := { dst := some 58, op := Op.move (.tmp 5), type := 35, pos := "law.go:95", after := #[], guard := none }
abbrev xpa42o25 : Oper := { dst := some 57, op := Op.move (.tmp 11), type := 4, pos := "law.go:95", after := #[], guard := none }
abbrev xpa42o26 : Oper := { dst := some 60, op := Op.move (.tmp 9), type := 3, pos := "law.go:95", after := #[], guard := none }
end Go.Proofs.Ytmflogmocgbmhaa
namespace Go.Proofs.Ytmflogmocgbmhaa
open Go.RowKit
set_option linter.unusedVariables false
set_option linter.unusedSimpArgs false
set_option maxRecDepth 100000 in
set_option maxHeartbeats 16000000 in
theorem expectOnce_walk (cx : Cx) (la : Option Addr) (lc : Nat) (l : List Ax) (w : World) (hlc : l.length ≤ lc) (hcm : lc * 200 ≤ 140737488351232 ∧ (la = none → lc = 0)) (hrow : RowN 25 Ax.v (fun _ q => q.f.ok) w la l) :
    Calls Try.prog 5 #[.agg cx.v, .slice la l.length lc] w fun e w' => e = .returned (.bool true) ∧ Below w.heap.size w w' := by
  have HRow : Hid (RowN 25 Ax.v (fun _ q => q.f.ok) w la l) := hrow
  obtain ⟨N, hN⟩ : ∃ N, l.length = N := ⟨_, rfl⟩
  have HN : Hid (l.length = N) := hN
  have hNl : N ≤ 140737488355328 := by omega
  rw [hN]
  clear hN hrow hlc hcm
  have b := Below.refl w.heap.size w
  by_cases hc : capX cx.mo = true ∧ capX cx.qu = true
  · go_enter Try.func5, Try.ntmps5
    obtain ⟨Wm1, hWm1⟩ : ∃ W, w.alloc (.cells cx.v 33) = W := ⟨_, rfl⟩
    have bm1 := bel_al b hWm1
    have Am1 := blk_nw hWm1
    have gA : w.heap.size ≤ w.heap.size := b.size
    have c2 := Am1.cell 0 (.int .i64 cx.mo) rfl
    have c3 := Am1.cell 1 (.int .i64 cx.qu) rfl
    go_wp2_with fail
    clear c2 c3
    refine Calls.mono (newX cx.mo cx.qu (hc.1) (hc.2) _) ?_
    rintro e Wm4 ⟨tb, rfl, Xm4, gtb, bb⟩
    have Am4 := Am1.kept bb
    have bm4 := bel_tr bm1 bb
    clear bb
    have gwb : w.heap.size ≤ tb := Nat.le_trans bm1.size gtb
    have gwm := gwb
    have nXA : tb ≠ w.heap.size ∧ tb ≠ w.heap.size := by have := Am1.lt; omega
    clear Am1 bm1
    go_wp2_with fail
    refine Calls.mono (alive_xp _) ?_
    rintro e Wm5 ⟨rfl, bb⟩
    have Am5 := Am4.kept bb
    have Xm5 := Xm4.kept bb
    have bm5 := bel_tr bm4 bb
    clear bb
    clear Am4 Xm4 bm4
    go_wp2_with fail
    go_loopw [35] (fun i wr => ∃ (j : Nat) (s : Xt) (lb : Nat), j ≤ N ∧ i = .int .i64 j ∧ Hid (s.most = cx.mo ∧ s.quota = cx.qu) ∧ w.heap.size ≤ lb ∧ TabX wr tb lb s ∧ Below w.heap.size w wr) (fun i _ => N - (intOf i).toNat)
    case atStart => exact ⟨0, ⟨cx.mo, cx.qu, 0, []⟩, tb, Nat.zero_le _, rfl, ⟨rfl, rfl⟩, gwb, Xm5, bm5⟩
    case round =>
      obtain ⟨j, s, lb, hj, rfl, hI, gwm, Xr, br⟩ := hrel
      obtain ⟨Wr, rfl⟩ : ∃ W, W = wr := ⟨_, rfl⟩
      have HOK : Hid (XtOk s) := Xr.ok
      have HLN : s.L.length ≤ 1000000 := Xr.len
      have in0 : (0 : Int) ≤ (j : Int) := by omega
      by_cases hlt : j < N
      · have ik : (j : Int) < (N : Int) := by omega
        have ik' : decide ((j : Int) < (N : Int)) = true := by simpa using ik
        obtain ⟨qa, hq⟩ : ∃ q, l[j]? = some q := ⟨_, List.getElem?_eq_getElem (by rw [HN.out]; exact hlt)⟩
        have hok : qa.f.ok := HRow.out.each qa (List.mem_of_getElem? hq)
        obtain ⟨p, off, rfl, hcells⟩ := HRow.out.cells j qa hq
        have hca := hcells.below br
        clear hcells
        cases hq9 : ((bits .and .i64 qa.kd 3) == 1) with
        | false =>
          cases hq13 : ((bits .and .i64 qa.kd 3) == 3) with
          | false =>
            obtain ⟨Wm14, hWm14⟩ : ∃ W, Wr.alloc (.cells #[.int .i64 0, .int .i64 0, .int .i64 0, .int .i64 0, .int .i64 0, .int .i64 0, .int .u64 0, .int .u64 0, .int .i64 0, .int .u64 0, .int .u64 0, .int .i64 0, .int .i64 0, .int .i64 0, .int .i64 0, .int .i64 0, .int .u64 0, .int .u64 0, .int .i64 0, .int .u64 0, .int .u64 0, .int .i64 0, .int .i64 0, .int .i64 0, .int .i64 0] 45) = W := ⟨_, rfl⟩
            have bm14 := bel_al br hWm14
            have Xm14 := Xr.al hWm14
            have Am14 := blk_nw hWm14
            have gA : w.heap.size ≤ Wr.heap.size := br.size
            have nXA : tb ≠ Wr.heap.size ∧ lb ≠ Wr.heap.size := by have := Xr.lt; omega
            obtain ⟨Wm15, hWm15⟩ : ∃ W, Wm14.setRow Wr.heap.size qa.v = W := ⟨_, rfl⟩
            have Am15 : Blk Wm15 Wr.heap.size 45 qa.v := hWm15 ▸ Am14.set qa.v
            have Xm15 := hWm15 ▸ Xm14.other nXA qa.v
            have bm15 := hWm15 ▸ below_setRow bm14 gA qa.v
            have c16 := Am15.cell 0 (.int .i64 qa.kd) rfl
            go_wp2_with (first | (refine wpList_load_at_w (by rfl) _ _ rfl p (off + j * 25) (by rfl) _ hca Try.underlying45 (by kernel_rfl) ?_) | (refine wpList_store_row rfl _ _ _ rfl Wr.heap.size qa.v (by rfl) (by rfl) _ _ Am14 (by kernel_rfl) (by rfl) (by kernel_rfl) ?_; rw [hWm15]) | (refine wpList_load_sub_w (by rfl) _ _ rfl Wr.heap.size 3 _ (by rfl) _ qa.f.v Am15 (by rfl) Try.underlying28 (by kernel_rfl) ?_))
            clear c16
            refine Calls.mono (addX tb lb s qa.f _ Xm15 (by first | assumption | exact hok)) ?_
            rintro e Wm17 ⟨lb17, rfl, Xm17, hlm17, bb⟩
            have Am17 := Am15.but bb (by have := nXA; omega)
            have bm17 := bel_but bm15 bb gwb gwm
            clear bb
            have nXA : tb ≠ Wr.heap.size ∧ lb17 ≠ Wr.heap.size := by have h8 := Am15.lt; have h9 := nXA; rcases hlm17 with h | h <;> omega
            have gwm : w.heap.size ≤ lb17 := by have h9 := bm15.size; rcases hlm17 with h | h <;> omega
            clear Xm15 Am15 bm15
            go_wp2_with fail
            exact ⟨⟨j + 1, (Xt.add s qa.f).1, lb17, by omega, by go_num, ⟨(add_most s _).1.trans hI.out.1, (add_most s _).2.1.trans hI.out.2⟩, gwm, Xm17, bm17⟩, by simp [intOf]; omega⟩

          | true =>
            obtain ⟨Wm18, hWm18⟩ : ∃ W, Wr.alloc (.cells #[.int .i64 0, .int .i64 0, .int .i64 0, .int .i64 0, .int .i64 0, .int .i64 0, .int .u64 0, .int .u64 0, .int .i64 0, .int .u64 0, .int .u64 0, .int .i64 0, .int .i64 0, .int .i64 0, .int .i64 0, .int .i64 0, .int .u64 0, .int .u64 0, .int .i64 0, .int .u64 0, .int .u64 0, .int .i64 0, .int .i64 0, .int .i64 0, .int .i64 0] 45) = W := ⟨_, rfl⟩
            have bm18 := bel_al br hWm18
            have Xm18 := Xr.al hWm18
            have Am18 := blk_nw hWm18
            have gA : w.heap.size ≤ Wr.heap.size := br.size
            have nXA : tb ≠ Wr.heap.size ∧ lb ≠ Wr.heap.size := by have := Xr.lt; omega
            obtain ⟨Wm19, hWm19⟩ : ∃ W, Wm18.setRow Wr.heap.size qa.v = W := ⟨_, rfl⟩
            have Am19 : Blk Wm19 Wr.heap.size 45 qa.v := hWm19 ▸ Am18.set qa.v
            have Xm19 := hWm19 ▸ Xm18.other nXA qa.v
            have bm19 := hWm19 ▸ below_setRow bm18 gA qa.v
            have c20 := Am19.cell 0 (.int .i64 qa.kd) rfl
            have c21 := Am19.cell 2 (.int .i64 qa.nw) rfl
            go_wp2_with (first | (refine wpList_load_at_w (by rfl) _ _ rfl p (off + j * 25) (by rfl) _ hca Try.underlying45 (by kernel_rfl) ?_) | (refine wpList_store_row rfl _ _ _ rfl Wr.heap.size qa.v (by rfl) (by rfl) _ _ Am18 (by kernel_rfl) (by rfl) (by kernel_rfl) ?_; rw [hWm19]))
            clear c20 c21
            refine Calls.mono (tickX tb lb s qa.nw _ Xm19) ?_
            rintro e Wm22 ⟨rfl, Xm22, bb⟩
            have Am22 := Am19.but bb (by have := nXA; omega)
            have bm22 := bel_but bm19 bb gwb gwm
            clear bb
            clear Xm19 Am19 bm19
            go_wp2_with fail
            exact ⟨⟨j + 1, (Xt.tick s qa.nw).1, lb, by omega, by go_num, ⟨(tick_most s _).1.trans hI.out.1, (tick_most s _).2.trans hI.out.2⟩, gwm, Xm22, bm22⟩, by simp [intOf]; omega⟩


        | true =>
          obtain ⟨Wm23, hWm23⟩ : ∃ W, Wr.alloc (.cells #[.int .i64 0, .int .i64 0, .int .i64 0, .int .i64 0, .int .i64 0, .int .i64 0, .int .u64 0, .int .u64 0, .int .i64 0, .int .u64 0, .int .u64 0, .int .i64 0, .int .i64 0, .int .i64 0, .int .i64 0, .int .i64 0, .int .u64 0, .int .u64 0, .int .i64 0, .int .u64 0, .int .u64 0, .int .i64 0, .int .i64 0, .int .i64 0, .int .i64 0] 45) = W := ⟨_, rfl⟩
          have bm23 := bel_al br hWm23
          have Xm23 := Xr.al hWm23
          have Am23 := blk_nw hWm23
          have gA : w.heap.size ≤ Wr.heap.size := br.size
          have nXA : tb ≠ Wr.heap.size ∧ lb ≠ Wr.heap.size := by have := Xr.lt; omega
          obtain ⟨Wm24, hWm24⟩ : ∃ W, Wm23.setRow Wr.heap.size qa.v = W := ⟨_, rfl⟩
          have Am24 : Blk Wm24 Wr.heap.size 45 qa.v := hWm24 ▸ Am23.set qa.v
          have Xm24 := hWm24 ▸ Xm23.other nXA qa.v
          have bm24 := hWm24 ▸ below_setRow bm23 gA qa.v
          have c25 := Am24.cell 0 (.int .i64 qa.kd) rfl
          go_wp2_with (first | (refine wpList_load_at_w (by rfl) _ _ rfl p (off + j * 25) (by rfl) _ hca Try.underlying45 (by kernel_rfl) ?_) | (refine wpList_store_row rfl _ _ _ rfl Wr.heap.size qa.v (by rfl) (by rfl) _ _ Am23 (by kernel_rfl) (by rfl) (by kernel_rfl) ?_; rw [hWm24]))
          clear c25
          refine Calls.mono (lenX tb lb s _ Xm24) ?_
          rintro e Wm26 ⟨rfl, bb⟩
          have Xm26 := Xm24.kept bb
          have Am26 := Am24.kept bb
          have bm26 := bel_tr bm24 bb
          clear bb
          clear Xm24 Am24 bm24
          go_wp2_with (refine wpList_load_blk_w (by rfl) _ _ rfl Wr.heap.size (by rfl) _ Am26 Try.underlying45 (by kernel_rfl) ?_)
          refine Calls.mono (taken_xp qa _) ?_
          rintro e Wm27 ⟨rfl, bb⟩
          have Xm27 := Xm26.kept bb
          have Am27 := Am26.kept bb
          have bm27 := bel_tr bm26 bb
          clear bb
          clear Xm26 Am26 bm26
          go_wp2_with fail
          refine Calls.mono (takeX tb lb s (Ax.tk qa) _ Xm27) ?_
          rintro e Wm28 ⟨rfl, Xm28, bb⟩
          have Am28 := Am27.but bb (by have := nXA; omega)
          have bm28 := bel_but bm27 bb gwb gwm
          clear bb
          clear Xm27 Am27 bm27
          cases hq31 : (Xt.take s (Ax.tk qa)).2.2 with
          | false =>
            obtain ⟨Wm32, hWm32⟩ : ∃ W, Wm28.alloc (.cells #[.int .i64 0, .int .i64 0, .int .i64 0, .int .u64 0, .int .u64 0, .int .i64 0, .int .u64 0, .int .u64 0, .int .i64 0, .int .i64 0, .int .i64 0, .int .i64 0, .int .i64 0, .int .u64 0, .int .u64 0, .int .i64 0, .int .u64 0, .int .u64 0, .int .i64 0, .int .i64 0, .int .i64 0, .int .i64 0] 28) = W := ⟨_, rfl⟩
            have bm32 := bel_al bm28 hWm32
            have Xm32 := Xm28.al hWm32
            have Am32 := Am28.al hWm32
            have Bm32 := blk_nw hWm32
            have gB : w.heap.size ≤ Wm28.heap.size := bm28.size
            have nXB : tb ≠ Wm28.heap.size ∧ lb ≠ Wm28.heap.size := by have := Xm28.lt; omega
            have nAB : Wr.heap.size ≠ Wm28.heap.size := by have := Am28.lt; omega
            have nBA : Wm28.heap.size ≠ Wr.heap.size := fun e => nAB e.symm
            obtain ⟨Wm33, hWm33⟩ : ∃ W, Wm32.setRow Wm28.heap.size (Xt.take s (Ax.tk qa)).2.1.v = W := ⟨_, rfl⟩
            have Bm33 : Blk Wm33 Wm28.heap.size 28 (Xt.take s (Ax.tk qa)).2.1.v := hWm33 ▸ Bm32.set (Xt.take s (Ax.tk qa)).2.1.v
            have Xm33 := hWm33 ▸ Xm32.other nXB (Xt.take s (Ax.tk qa)).2.1.v
            have Am33 := hWm33 ▸ Am32.other nAB (Xt.take s (Ax.tk qa)).2.1.v
            have bm33 := hWm33 ▸ below_setRow bm32 gB (Xt.take s (Ax.tk qa)).2.1.v
            obtain ⟨s1, hs1⟩ : ∃ t, (Xt.take s (Ax.tk qa)).1 = t := ⟨_, rfl⟩
            rw [hs1] at Xm33
            have hI1 : Hid (s1.most = cx.mo ∧ s1.quota = cx.qu) := by rw [← hs1]; exact ⟨(take_most s _).1.trans hI.out.1, (take_most s _).2.1.trans hI.out.2⟩
            have HOK1 : Hid (XtOk s1) := Xm33.ok
            have HLN1 : s1.L.length ≤ 1000000 := Xm33.len
            have hnn : s1 = s := by rw [← hs1]; exact take_none hq31
            have hl1 : ((s1.L.length : Int) == ((s.L.length : Int) - 1)) = false := by
              rw [hnn]
              exact beq_false_of_ne (by omega)
            have hl2 : ((s1.L.length : Int) != (s.L.length : Int)) = false := by rw [hnn]; simp
            clear hs1 hnn
            go_wp2_with (refine wpList_store_row rfl _ _ _ rfl Wm28.heap.size (Xt.take s (Ax.tk qa)).2.1.v (by rfl) (by rfl) _ _ Bm32 (by kernel_rfl) (by rfl) (by kernel_rfl) ?_; rw [hWm33])
            obtain ⟨Wdq34, hWdq34⟩ : ∃ W, Wm33.drew = W := ⟨_, rfl⟩
            have Xdq34 := hWdq34 ▸ Xm33.drew
            have Adq34 := hWdq34 ▸ Am33.drew
            have Bdq34 := hWdq34 ▸ Bm33.drew
            have bdq34 := hWdq34 ▸ bm33.drew
            refine wp_region_noPanic ?_
            refine wp_region_held_drew (S := fun w' => TabX w' tb lb s1 ∧ Blk w' Wr.heap.size 45 qa.v ∧ Blk w' Wm28.heap.size 28 (Xt.take s (Ax.tk qa)).2.1.v) (by kernel_rfl) (by rw [hWdq34]; exact ⟨Xdq34, Adq34, Bdq34⟩) (fun hHeld => ?_)
            rw [hWdq34] at hHeld ⊢
            refine qtk (i := 0) (oi := xpa42o25) (v := (.bool false)) hHeld ?_ ?_
            · intro w9 hSw
              try dsimp only at hSw
              go_simp
            try simp only [qpu]
            refine qtk (i := 1) (oi := xpa42o24) (v := (.pointer (some ⟨tb, 0, none⟩))) hHeld ?_ ?_
            · intro w9 hSw
              try dsimp only at hSw
              go_simp
            try simp only [qpu]
            refine qtk (i := 3) (oi := xpa42o26) (v := (.int .i64 (s.L.length : Int))) hHeld ?_ ?_
            · intro w9 hSw
              try dsimp only at hSw
              go_simp
            try simp only [qpu]
            refine qtk (i := 4) (oi := xpa42o15) (v := (.int .i64 ((s.L.length : Int) - 1))) hHeld ?_ ?_
            · intro w9 hSw
              try dsimp only at hSw
              go_simp
              try decide
              try (rw [IntKind.wrap_i64]; omega)
            try simp only [qpu]
            refine wpAnyH_ready (rs := [2]) (by kernel_rfl) (by simp) ?_
            refine AllReadyH.cons (o := xpa42o6) rfl (fun K hK => ?_) AllReadyH.nil
            go_simp
            refine Calls.mono (lenX tb lb s1 _ Xdq34) ?_
            rintro e Wx35 ⟨rfl, bb⟩
            have Xx35 := Xdq34.kept bb
            have Ax35 := Adq34.kept bb
            have Bx35 := Bdq34.kept bb
            have bx35 := bel_tr bdq34 bb
            clear bb
            refine hK.out _ _ (by exact ⟨Xx35, Ax35, Bx35⟩) (fun hHeld => ?_)
            clear hK K
            try simp only [qpu]
            refine qtk (i := 5) (oi := xpa42o10) (v := (.bool ((s1.L.length : Int) == ((s.L.length : Int) - 1)))) hHeld ?_ ?_
            · intro w9 hSw
              try dsimp only at hSw
              go_simp
            try simp only [qpu]
            refine qtk (i := 6) (oi := xpa42o9) (v := (.bool false)) hHeld ?_ ?_
            · intro w9 hSw
              try dsimp only at hSw
              go_simp
            try simp only [qpu]
            refine qtk (i := 7) (oi := xpa42o18) (v := (.bool false)) hHeld ?_ ?_
            · intro w9 hSw
              try dsimp only at hSw
              go_simp
            try simp only [qpu]
            refine qtk (i := 8) (oi := xpa42o22) (v := (.bool false)) hHeld ?_ ?_
            · intro w9 hSw
              try dsimp only at hSw
              go_simp
            try simp only [qpu]
            refine qtk (i := 9) (oi := xpa42o14) (v := (.bool true)) hHeld ?_ ?_
            · intro w9 hSw
              try dsimp only at hSw
              go_simp
            try simp only [qpu]
            refine qtk (i := 10) (oi := xpa42o8) (v := (.bool true)) hHeld ?_ ?_
            · intro w9 hSw
              try dsimp only at hSw
              go_simp
            try simp only [qpu]
            refine qtk (i := 11) (oi := xpa42o20) (v := (.pointer (some ⟨tb, 0, none⟩))) hHeld ?_ ?_
            · intro w9 hSw
              try dsimp only at hSw
              go_simp
            try simp only [qpu]
            refine qtk (i := 13) (oi := xpa42o23) (v := (.int .i64 (s.L.length : Int))) hHeld ?_ ?_
            · intro w9 hSw
              try dsimp only at hSw
              go_simp
            try simp only [qpu]
            refine wpAnyH_ready (rs := [12]) (by kernel_rfl) (by simp) ?_
            refine AllReadyH.cons (o := xpa42o2) rfl (fun K hK => ?_) AllReadyH.nil
            go_simp
            refine Calls.mono (lenX tb lb s1 _ Xx35) ?_
            rintro e Wx36 ⟨rfl, bb⟩
            have Xx36 := Xx35.kept bb
            have Ax36 := Ax35.kept bb
            have Bx36 := Bx35.kept bb
            have bx36 := bel_tr bx35 bb
            clear bb
            refine hK.out _ _ (by exact ⟨Xx36, Ax36, Bx36⟩) (fun hHeld => ?_)
            clear hK K
            try simp only [qpu]
            refine qtk (i := 14) (oi := xpa42o3) (v := (.bool ((s1.L.length : Int) != (s.L.length : Int)))) hHeld ?_ ?_
            · intro w9 hSw
              try dsimp only at hSw
              go_simp
            try simp only [qpu]
            refine qtk (i := 15) (oi := xpa42o5) (v := (.bool false)) hHeld ?_ ?_
            · intro w9 hSw
              try dsimp only at hSw
              go_simp
            try simp only [qpu]
            refine qtk (i := 16) (oi := xpa42o12) (v := (.bool false)) hHeld ?_ ?_
            · intro w9 hSw
              try dsimp only at hSw
              go_simp
            try simp only [qpu]
            refine qtk (i := 17) (oi := xpa42o17) (v := (.bool false)) hHeld ?_ ?_
            · intro w9 hSw
              try dsimp only at hSw
              go_simp
            try simp only [qpu]
            refine qtk (i := 18) (oi := xpa42o21) (v := (.bool false)) hHeld ?_ ?_
            · intro w9 hSw
              try dsimp only at hSw
              go_simp
            try simp only [qpu]
            refine qtk (i := 19) (oi := xpa42o7) (v := (.bool false)) hHeld ?_ ?_
            · intro w9 hSw
              try dsimp only at hSw
              go_simp
            try simp only [qpu]
            refine qtn (i := 20) (oi := xpa42o19) hHeld ?_
            try simp only [qpu]
            refine qtn (i := 21) (oi := xpa42o16) hHeld ?_
            try simp only [qpu]
            refine qtn (i := 22) (oi := xpa42o1) hHeld ?_
            try simp only [qpu]
            refine qtn (i := 23) (oi := xpa42o0) hHeld ?_
            try simp only [qpu]
            refine qtn (i := 24) (oi := xpa42o13) hHeld ?_
            try simp only [qpu]
            refine qtk (i := 25) (oi := xpa42o4) (v := (.bool false)) hHeld ?_ ?_
            · intro w9 hSw
              try dsimp only at hSw
              go_simp
            try simp only [qpu]
            refine qtk (i := 26) (oi := xpa42o11) (v := (.bool false)) hHeld ?_ ?_
            · intro w9 hSw
              try dsimp only at hSw
              go_simp
            try simp only [qpu]
            refine wpAnyH_done (by kernel_rfl) ?_ _
            refine NoPanic.normal ?_
            go_wp2_with fail
            refine Calls.mono (allX tb lb s1 _ Xx36) ?_
            rintro e Wm37 ⟨aa, ca, rfl, OAm37, bb⟩
            have Xm37 := Xx36.kept bb
            have Am37 := Ax36.kept bb
            have Bm37 := Bx36.kept bb
            have bm37 := bel_tr bx36 bb
            clear bb
            have HRW : Hid (RowW Wm37 aa s1.L) := OAm37.row (fun _ _ => trivial)
            have HCA : Hid (s1.L.length ≤ ca) := OAm37.le
            have Qm37 : But (fun _ => False) Wm37 Wm37 := But.refl _ _
            clear Xx36 Ax36 Bx36 bx36
            go_wp2_with fail
            obtain ⟨M, hM⟩ : ∃ M, s1.L.length = M := ⟨_, rfl⟩
            have HM : Hid (s1.L.length = M) := hM
            have hM0 : M ≤ 1000000 := by
              have h8 := HOK1.out.len
              omega
            rw [hM]
            clear hM
            go_loopw [87] (fun i wr => ∃ k : Nat, k ≤ M ∧ i = .int .i64 k ∧ Blk wr Wm28.heap.size 28 (Xt.take s (Ax.tk qa)).2.1.v ∧ TabX wr tb lb s1 ∧ But (fun _ => False) Wm37 wr ∧ Below w.heap.size w wr) (fun i _ => M - (intOf i).toNat)
            case atStart => exact ⟨0, Nat.zero_le _, rfl, Bm37, Xm37, Qm37, bm37⟩
            case round =>
              obtain ⟨k, hkk, rfl, Bv, Xv, Qv, bv⟩ := hrel
              obtain ⟨Wv, rfl⟩ : ∃ W, W = wr := ⟨_, rfl⟩
              have in0k : (0 : Int) ≤ (k : Int) := by omega
              by_cases hltk : k < M
              · have ikk : (k : Int) < (M : Int) := by omega
                have ikk' : decide ((k : Int) < (M : Int)) = true := by simpa using ikk
                obtain ⟨x, hx⟩ : ∃ x, s1.L[k]? = some x := ⟨_, List.getElem?_eq_getElem (by rw [HM.out]; exact hltk)⟩
                have HXx : Hid (s1.L[k]? = some x) := hx
                obtain ⟨p2, off2, rfl, hcellsx⟩ := HRW.out.cells k x hx
                have hcb := hcellsx.below (Qv.to_below (Nat.le_refl _) (fun _ _ x => x))
                clear hcellsx hx
                obtain ⟨Wm38, hWm38⟩ : ∃ W, Wv.alloc (.cells #[.int .i64 0, .int .i64 0, .int .i64 0, .int .u64 0, .int .u64 0, .int .i64 0, .int .u64 0, .int .u64 0, .int .i64 0, .int .i64 0, .int .i64 0, .int .i64 0, .int .i64 0, .int .u64 0, .int .u64 0, .int .i64 0, .int .u64 0, .int .u64 0, .int .i64 0, .int .i64 0, .int .i64 0, .int .i64 0] 28) = W := ⟨_, rfl⟩
                have bm38 := bel_al bv hWm38
                have Bm38 := Bv.al hWm38
                have Xm38 := Xv.al hWm38
                have Qm38 := Qv.al hWm38
                have Am38 := blk_nw hWm38
                have gA : w.heap.size ≤ Wv.heap.size := bv.size
                have nBA : Wm28.heap.size ≠ Wv.heap.size := by have := Bv.lt; omega
                have nAB : Wv.heap.size ≠ Wm28.heap.size := fun e => nBA e.symm
                have nXA : tb ≠ Wv.heap.size ∧ lb ≠ Wv.heap.size := by have := Xv.lt; omega
                have nQA : (fun _ => False) Wv.heap.size ∨ Wm37.heap.size ≤ Wv.heap.size := .inr Qv.size
                obtain ⟨Wm39, hWm39⟩ : ∃ W, Wm38.setRow Wv.heap.size x.v = W := ⟨_, rfl⟩
                have Am39 : Blk Wm39 Wv.heap.size 28 x.v := hWm39 ▸ Am38.set x.v
                have Bm39 := hWm39 ▸ Bm38.other nBA x.v
                have Xm39 := hWm39 ▸ Xm38.other nXA x.v
                have Qm39 := hWm39 ▸ Qm38.other nQA x.v
                have bm39 := hWm39 ▸ below_setRow bm38 gA x.v
                go_wp2_with (first | (refine wpList_load_at_w (by rfl) _ _ rfl p2 (off2 + k * 22) (by rfl) _ hcb Try.underlying28 (by kernel_rfl) ?_) | (refine wpList_store_row rfl _ _ _ rfl Wv.heap.size x.v (by rfl) (by rfl) _ _ Am38 (by kernel_rfl) (by rfl) (by kernel_rfl) ?_; rw [hWm39]))
                exact ⟨⟨k + 1, by omega, by go_num, Bm39, Xm39, Qm39, bm39⟩, by simp [intOf]; omega⟩

              · have ikk : ¬ (k : Int) < (M : Int) := by omega
                have ikk' : decide ((k : Int) < (M : Int)) = false := by simpa using ikk
                go_wp2_with fail
                exact ⟨⟨j + 1, s1, lb, by omega, by go_num, hI1, gwm, Xv, bv⟩, by simp [intOf]; omega⟩

          | true =>
            obtain ⟨Wm40, hWm40⟩ : ∃ W, Wm28.alloc (.cells #[.int .i64 0, .int .i64 0, .int .i64 0, .int .u64 0, .int .u64 0, .int .i64 0, .int .u64 0, .int .u64 0, .int .i64 0, .int .i64 0, .int .i64 0, .int .i64 0, .int .i64 0, .int .u64 0, .int .u64 0, .int .i64 0, .int .u64 0, .int .u64 0, .int .i64 0, .int .i64 0, .int .i64 0, .int .i64 0] 28) = W := ⟨_, rfl⟩
            have bm40 := bel_al bm28 hWm40
            have Xm40 := Xm28.al hWm40
            have Am40 := Am28.al hWm40
            have Bm40 := blk_nw hWm40
            have gB : w.heap.size ≤ Wm28.heap.size := bm28.size
            have nXB : tb ≠ Wm28.heap.size ∧ lb ≠ Wm28.heap.size := by have := Xm28.lt; omega
            have nAB : Wr.heap.size ≠ Wm28.heap.size := by have := Am28.lt; omega
            have nBA : Wm28.heap.size ≠ Wr.heap.size := fun e => nAB e.symm
            obtain ⟨Wm41, hWm41⟩ : ∃ W, Wm40.setRow Wm28.heap.size (Xt.take s (Ax.tk qa)).2.1.v = W := ⟨_, rfl⟩
            have Bm41 : Blk Wm41 Wm28.heap.size 28 (Xt.take s (Ax.tk qa)).2.1.v := hWm41 ▸ Bm40.set (Xt.take s (Ax.tk qa)).2.1.v
            have Xm41 := hWm41 ▸ Xm40.other nXB (Xt.take s (Ax.tk qa)).2.1.v
            have Am41 := hWm41 ▸ Am40.other nAB (Xt.take s (Ax.tk qa)).2.1.v
            have bm41 := hWm41 ▸ below_setRow bm40 gB (Xt.take s (Ax.tk qa)).2.1.v
            obtain ⟨s1, hs1⟩ : ∃ t, (Xt.take s (Ax.tk qa)).1 = t := ⟨_, rfl⟩
            rw [hs1] at Xm41
            have hI1 : Hid (s1.most = cx.mo ∧ s1.quota = cx.qu) := by rw [← hs1]; exact ⟨(take_most s _).1.trans hI.out.1, (take_most s _).2.1.trans hI.out.2⟩
            have HOK1 : Hid (XtOk s1) := Xm41.ok
            have HLN1 : s1.L.length ≤ 1000000 := Xm41.len
            have hTS := take_some HOK.out hq31
            have hl1 : ((s1.L.length : Int) == ((s.L.length : Int) - 1)) = true := by rw [← hs1, hTS.1]; simp
            have hwt : ((Xt.take s (Ax.tk qa)).2.1.waits qa.tk) = true := hTS.2.1
            have hoq : (Xt.take s (Ax.tk qa)).2.1.ok := hTS.2.2.1
            have hot : qa.tk.ok := tk_ok hok
            have HGO : Hid (∀ y ∈ s1.L, y.w.eqB (Xt.take s (Ax.tk qa)).2.1.w = false) := by rw [← hs1]; exact hTS.2.2.2
            clear hs1 hTS
            go_wp2_with (refine wpList_store_row rfl _ _ _ rfl Wm28.heap.size (Xt.take s (Ax.tk qa)).2.1.v (by rfl) (by rfl) _ _ Bm40 (by kernel_rfl) (by rfl) (by kernel_rfl) ?_; rw [hWm41])
            obtain ⟨Wdq42, hWdq42⟩ : ∃ W, Wm41.drew = W := ⟨_, rfl⟩
            have Xdq42 := hWdq42 ▸ Xm41.drew
            have Adq42 := hWdq42 ▸ Am41.drew
            have Bdq42 := hWdq42 ▸ Bm41.drew
            have bdq42 := hWdq42 ▸ bm41.drew
            refine wp_region_noPanic ?_
            refine wp_region_held_drew (S := fun w' => TabX w' tb lb s1 ∧ Blk w' Wr.heap.size 45 qa.v ∧ Blk w' Wm28.heap.size 28 (Xt.take s (Ax.tk qa)).2.1.v) (by kernel_rfl) (by rw [hWdq42]; exact ⟨Xdq42, Adq42, Bdq42⟩) (fun hHeld => ?_)
            rw [hWdq42] at hHeld ⊢
            refine qtk (i := 0) (oi := xpa42o25) (v := (.bool true)) hHeld ?_ ?_
            · intro w9 hSw
              try dsimp only at hSw
              go_simp
            try simp only [qpu]
            refine qtk (i := 1) (oi := xpa42o24) (v := (.pointer (some ⟨tb, 0, none⟩))) hHeld ?_ ?_
            · intro w9 hSw
              try dsimp only at hSw
              go_simp
            try simp only [qpu]
            refine qtk (i := 3) (oi := xpa42o26) (v := (.int .i64 (s.L.length : Int))) hHeld ?_ ?_
            · intro w9 hSw
              try dsimp only at hSw
              go_simp
            try simp only [qpu]
            refine qtk (i := 4) (oi := xpa42o15) (v := (.int .i64 ((s.L.length : Int) - 1))) hHeld ?_ ?_
            · intro w9 hSw
              try dsimp only at hSw
              go_simp
              try decide
              try (rw [IntKind.wrap_i64]; omega)
            try simp only [qpu]
            refine wpAnyH_ready (rs := [2]) (by kernel_rfl) (by simp) ?_
            refine AllReadyH.cons (o := xpa42o6) rfl (fun K hK => ?_) AllReadyH.nil
            go_simp
            refine Calls.mono (lenX tb lb s1 _ Xdq42) ?_
            rintro e Wx43 ⟨rfl, bb⟩
            have Xx43 := Xdq42.kept bb
            have Ax43 := Adq42.kept bb
            have Bx43 := Bdq42.kept bb
            have bx43 := bel_tr bdq42 bb
            clear bb
            refine hK.out _ _ (by exact ⟨Xx43, Ax43, Bx43⟩) (fun hHeld => ?_)
            clear hK K
            try simp only [qpu]
            refine qtk (i := 5) (oi := xpa42o10) (v := (.bool ((s1.L.length : Int) == ((s.L.length : Int) - 1)))) hHeld ?_ ?_
            · intro w9 hSw
              try dsimp only at hSw
              go_simp
            try simp only [qpu]
            refine qtk (i := 6) (oi := xpa42o9) (v := (.bool false)) hHeld ?_ ?_
            · intro w9 hSw
              try dsimp only at hSw
              go_simp
            try simp only [qpu]
            refine qtk (i := 7) (oi := xpa42o18) (v := (.bool false)) hHeld ?_ ?_
            · intro w9 hSw
              try dsimp only at hSw
              go_simp
            try simp only [qpu]
            refine qtk (i := 8) (oi := xpa42o22) (v := (.bool true)) hHeld ?_ ?_
            · intro w9 hSw
              try dsimp only at hSw
              go_simp
            try simp only [qpu]
            refine qtk (i := 9) (oi := xpa42o14) (v := (.bool false)) hHeld ?_ ?_
            · intro w9 hSw
              try dsimp only at hSw
              go_simp
            try simp only [qpu]
            refine qtk (i := 10) (oi := xpa42o8) (v := (.bool false)) hHeld ?_ ?_
            · intro w9 hSw
              try dsimp only at hSw
              go_simp
            try simp only [qpu]
            refine qtn (i := 11) (oi := xpa42o20) hHeld ?_
            try simp only [qpu]
            refine qtn (i := 12) (oi := xpa42o2) hHeld ?_
            try simp only [qpu]
            refine qtn (i := 13) (oi := xpa42o23) hHeld ?_
            try simp only [qpu]
            refine qtn (i := 14) (oi := xpa42o3) hHeld ?_
            try simp only [qpu]
            refine qtk (i := 15) (oi := xpa42o5) (v := (.bool false)) hHeld ?_ ?_
            · intro w9 hSw
              try dsimp only at hSw
              go_simp
            try simp only [qpu]
            refine qtk (i := 16) (oi := xpa42o12) (v := (.bool false)) hHeld ?_ ?_
            · intro w9 hSw
              try dsimp only at hSw
              go_simp
            try simp only [qpu]
            refine qtk (i := 17) (oi := xpa42o17) (v := (.bool false)) hHeld ?_ ?_
            · intro w9 hSw
              try dsimp only at hSw
              go_simp
            try simp only [qpu]
            refine qtk (i := 18) (oi := xpa42o21) (v := (.bool true)) hHeld ?_ ?_
            · intro w9 hSw
              try dsimp only at hSw
              go_simp
            try simp only [qpu]
            refine qtk (i := 19) (oi := xpa42o7) (v := (.bool true)) hHeld ?_ ?_
            · intro w9 hSw
              try dsimp only at hSw
              go_simp
            try simp only [qpu]
            refine qty (i := 20) (oi := xpa42o19) (v := (.agg (Xt.take s (Ax.tk qa)).2.1.v)) (yieldsIf_blk_w (by kernel_rfl) _ _ rfl Wm28.heap.size (by rfl) _ (fun _ hSw => hSw.2.2) Try.underlying28 (by kernel_rfl)) hHeld ?_
            try simp only [qpu]
            refine qty (i := 21) (oi := xpa42o16) (v := (.agg qa.v)) (yieldsIf_blk_w (by kernel_rfl) _ _ rfl Wr.heap.size (by rfl) _ (fun _ hSw => hSw.2.1) Try.underlying45 (by kernel_rfl)) hHeld ?_
            try simp only [qpu]
            refine wpAnyH_ready (rs := [22]) (by kernel_rfl) (by simp) ?_
            refine AllReadyH.cons (o := xpa42o1) rfl (fun K hK => ?_) AllReadyH.nil
            go_simp
            refine Calls.mono (taken_xp qa _) ?_
            rintro e Wx44 ⟨rfl, bb⟩
            have Xx44 := Xx43.kept bb
            have Ax44 := Ax43.kept bb
            have Bx44 := Bx43.kept bb
            have bx44 := bel_tr bx43 bb
            clear bb
            refine hK.out _ _ (by exact ⟨Xx44, Ax44, Bx44⟩) (fun hHeld => ?_)
            clear hK K
            try simp only [qpu]
            refine wpAnyH_ready (rs := [23]) (by kernel_rfl) (by simp) ?_
            refine AllReadyH.cons (o := xpa42o0) rfl (fun K hK => ?_) AllReadyH.nil
            go_simp
            refine Calls.mono (rwaits_xp (Xt.take s (Ax.tk qa)).2.1 (Ax.tk qa) _ (by first | assumption | exact hok) (by first | assumption | exact hokx)) ?_
            rintro e Wx45 ⟨rfl, bb⟩
            have Xx45 := Xx44.kept bb
            have Ax45 := Ax44.kept bb
            have Bx45 := Bx44.kept bb
            have bx45 := bel_tr bx44 bb
            clear bb
            refine hK.out _ _ (by exact ⟨Xx45, Ax45, Bx45⟩) (fun hHeld => ?_)
            clear hK K
            try simp only [qpu]
            refine qtk (i := 24) (oi := xpa42o13) (v := (.bool false)) hHeld ?_ ?_
            · intro w9 hSw
              try dsimp only at hSw
              go_simp
            try simp only [qpu]
            refine qtk (i := 25) (oi := xpa42o4) (v := (.bool false)) hHeld ?_ ?_
            · intro w9 hSw
              try dsimp only at hSw
              go_simp
            try simp only [qpu]
            refine qtk (i := 26) (oi := xpa42o11) (v := (.bool false)) hHeld ?_ ?_
            · intro w9 hSw
              try dsimp only at hSw
              go_simp
            try simp only [qpu]
            refine wpAnyH_done (by kernel_rfl) ?_ _
            refine NoPanic.normal ?_
            go_wp2_with fail
            refine Calls.mono (allX tb lb s1 _ Xx45) ?_
            rintro e Wm46 ⟨aa, ca, rfl, OAm46, bb⟩
            have Xm46 := Xx45.kept bb
            have Am46 := Ax45.kept bb
            have Bm46 := Bx45.kept bb
            have bm46 := bel_tr bx45 bb
            clear bb
            have HRW : Hid (RowW Wm46 aa s1.L) := OAm46.row (fun _ _ => trivial)
            have HCA : Hid (s1.L.length ≤ ca) := OAm46.le
            have Qm46 : But (fun _ => False) Wm46 Wm46 := But.refl _ _
            clear Xx45 Ax45 Bx45 bx45
            go_wp2_with fail
            obtain ⟨M, hM⟩ : ∃ M, s1.L.length = M := ⟨_, rfl⟩
            have HM : Hid (s1.L.length = M) := hM
            have hM0 : M ≤ 1000000 := by
              have h8 := HOK1.out.len
              omega
            rw [hM]
            clear hM
            go_loopw [87] (fun i wr => ∃ k : Nat, k ≤ M ∧ i = .int .i64 k ∧ Blk wr Wm28.heap.size 28 (Xt.take s (Ax.tk qa)).2.1.v ∧ TabX wr tb lb s1 ∧ But (fun _ => False) Wm46 wr ∧ Below w.heap.size w wr) (fun i _ => M - (intOf i).toNat)
            case atStart => exact ⟨0, Nat.zero_le _, rfl, Bm46, Xm46, Qm46, bm46⟩
            case round =>
              obtain ⟨k, hkk, rfl, Bv, Xv, Qv, bv⟩ := hrel
              obtain ⟨Wv, rfl⟩ : ∃ W, W = wr := ⟨_, rfl⟩
              have in0k : (0 : Int) ≤ (k : Int) := by omega
              by_cases hltk : k < M
              · have ikk : (k : Int) < (M : Int) := by omega
                have ikk' : decide ((k : Int) < (M : Int)) = true := by simpa using ikk
                obtain ⟨x, hx⟩ : ∃ x, s1.L[k]? = some x := ⟨_, List.getElem?_eq_getElem (by rw [HM.out]; exact hltk)⟩
                have HXx : Hid (s1.L[k]? = some x) := hx
                obtain ⟨p2, off2, rfl, hcellsx⟩ := HRW.out.cells k x hx
                have hcb := hcellsx.below (Qv.to_below (Nat.le_refl _) (fun _ _ x => x))
                clear hcellsx hx
                have hgo : Wy.eqB x.w (Xt.take s (Ax.tk qa)).2.1.w = false := HGO.out x (List.mem_of_getElem? HXx.out)
                obtain ⟨Wm47, hWm47⟩ : ∃ W, Wv.alloc (.cells #[.int .i64 0, .int .i64 0, .int .i64 0, .int .u64 0, .int .u64 0, .int .i64 0, .int .u64 0, .int .u64 0, .int .i64 0, .int .i64 0, .int .i64 0, .int .i64 0, .int .i64 0, .int .u64 0, .int .u64 0, .int .i64 0, .int .u64 0, .int .u64 0, .int .i64 0, .int .i64 0, .int .i64 0, .int .i64 0] 28) = W := ⟨_, rfl⟩
                have bm47 := bel_al bv hWm47
                have Bm47 := Bv.al hWm47
                have Xm47 := Xv.al hWm47
                have Qm47 := Qv.al hWm47
                have Am47 := blk_nw hWm47
                have gA : w.heap.size ≤ Wv.heap.size := bv.size
                have nBA : Wm28.heap.size ≠ Wv.heap.size := by have := Bv.lt; omega
                have nAB : Wv.heap.size ≠ Wm28.heap.size := fun e => nBA e.symm
                have nXA : tb ≠ Wv.heap.size ∧ lb ≠ Wv.heap.size := by have := Xv.lt; omega
                have nQA : (fun _ => False) Wv.heap.size ∨ Wm46.heap.size ≤ Wv.heap.size := .inr Qv.size
                obtain ⟨Wm48, hWm48⟩ : ∃ W, Wm47.setRow Wv.heap.size x.v = W := ⟨_, rfl⟩
                have Am48 : Blk Wm48 Wv.heap.size 28 x.v := hWm48 ▸ Am47.set x.v
                have Bm48 := hWm48 ▸ Bm47.other nBA x.v
                have Xm48 := hWm48 ▸ Xm47.other nXA x.v
                have Qm48 := hWm48 ▸ Qm47.other nQA x.v
                have bm48 := hWm48 ▸ below_setRow bm47 gA x.v
                have hE49 := eql_way x.w (Xt.take s (Ax.tk qa)).2.1.w
                go_wp2_with (first | (refine wpList_load_at_w (by rfl) _ _ rfl p2 (off2 + k * 22) (by rfl) _ hcb Try.underlying28 (by kernel_rfl) ?_) | (refine wpList_store_row rfl _ _ _ rfl Wv.heap.size x.v (by rfl) (by rfl) _ _ Am47 (by kernel_rfl) (by rfl) (by kernel_rfl) ?_; rw [hWm48]) | (refine wpList_load_sub_w (by rfl) _ _ rfl Wv.heap.size 0 _ (by rfl) _ x.w.v Am48 (by rfl) Try.underlying26 (by kernel_rfl) ?_) | (refine wpList_load_sub_w (by rfl) _ _ rfl Wm28.heap.size 0 _ (by rfl) _ (Xt.take s (Ax.tk qa)).2.1.w.v Bm48 (by rfl) Try.underlying26 (by kernel_rfl) ?_))
                exact ⟨⟨k + 1, by omega, by go_num, Bm48, Xm48, Qm48, bm48⟩, by simp [intOf]; omega⟩

              · have ikk : ¬ (k : Int) < (M : Int) := by omega
                have ikk' : decide ((k : Int) < (M : Int)) = false := by simpa using ikk
                go_wp2_with fail
                exact ⟨⟨j + 1, s1, lb, by omega, by go_num, hI1, gwm, Xv, bv⟩, by simp [intOf]; omega⟩



      · have ik : ¬ (j : Int) < (N : Int) := by omega
        have ik' : decide ((j : Int) < (N : Int)) = false := by simpa using ik
        go_wp2_with fail
        go_ret
        exact ⟨rfl, br⟩
  · go_enter Try.func5, Try.ntmps5
    obtain ⟨Wm50, hWm50⟩ : ∃ W, w.alloc (.cells cx.v 33) = W := ⟨_, rfl⟩
    have bm50 := bel_al b hWm50
    have Am50 := blk_nw hWm50
    have gA : w.heap.size ≤ w.heap.size := b.size
    have c51 := Am50.cell 0 (.int .i64 cx.mo) rfl
    have c52 := Am50.cell 1 (.int .i64 cx.qu) rfl
    go_wp2_with fail
    clear c51 c52
    refine Calls.mono (newN_xp cx.mo cx.qu _ hc) ?_
    rintro e Wm53 ⟨rfl, bb⟩
    have Am53 := Am50.kept bb
    have bm53 := bel_tr bm50 bb
    clear bb
    clear Am50 bm50
    go_wp2_with fail
    refine Calls.mono (alive_xp _) ?_
    rintro e Wm54 ⟨rfl, bb⟩
    have Am54 := Am53.kept bb
    have bm54 := bel_tr bm53 bb
    clear bb
    clear Am53 bm53
    go_wp2_with fail
    go_ret
    exact ⟨rfl, bm54⟩
end Go.Proofs.Ytmflogmocgbmhaa
namespace Go.Proofs.Ytmflogmocgbmhaa.expectOnce
open Go.ChangeShapes Go.WideShapes Go.ChangeAt Go.RowKit
open Go.ChangeMaps (open_string shut_string)
set_option linter.unusedVariables false
theorem own : ownKnob Try.prog.godebug = none := by kernel_rfl
theorem laidOut : laidOutB Try.prog = true := by kernel_rfl
set_option maxRecDepth 100000 in
theorem lifted (os : Os) (started : os.Started) (H : Type) (enc : TypeId × Value → H) :
    ReturnsInHanded {} Try.checked os 5 .any (Rows.expectOnceSpec.pre6 enc Try.prog Try.f5 Rows.expectOnceRow.domain false) (Rows.expectOnceSpec.post enc Try.prog Try.f5 false true false false) := by
  refine returnsInHanded_of_change_sized (C := Try.checked) own started (by kernel_rfl) Try.func5
    (ChangeSpec.witness6 (enc := enc) (C := Try.checked) false ⟨#[], #[.agg #[.int .i64 0, .int .i64 0], .slice none 0 0], []⟩ 8 (by kernel_rfl) (by kernel_rfl) (by kernel_rfl) (by kernel_rfl)) ?_
  intro W base args ds gs before hval0 hW hcnd hsz0 _
  have hval : ∀ (j : Nat) t v, Try.f5.params[j]? = some t → args[j]? = some v → Value.okWide Try.prog W .any base t v := hval0
  have hW' := hW
  obtain ⟨p, q, hA0, hV, rfl, hfz, hnd⟩ := hW
  have hA : DataW.TrodAll enc Try.prog W 0 (fun _ => true) true Try.f5.params.toList args.toList ds p := hA0
  have hsz : (DataW.weightsEach Try.prog (Try.f5.params.toList ++ Rows.expectOnceSpec.plain.varTypes Try.prog) (ds ++ gs)).all (· ≤ reachBytes) = true := hsz0
  rw [Try.params5] at hA hval hsz
  obtain ⟨v0, vs0, d0, ds0, p0, q0, hargs, rfl, rfl, h0, r0⟩ := trodAll_cons hA
  obtain ⟨v1, vs1, d1, ds1, p1, q1, rfl, rfl, rfl, h1, r1⟩ := trodAll_cons r0
  obtain ⟨rfl, rfl, rfl⟩ := trodAll_nil r1
  obtain rfl : args = #[v0, v1] := by cases args; simp_all
  obtain ⟨rfl, rfl⟩ := trodVars_none hV
  have lt0 : ∀ x ∈ p0, x.block < W.heap.size := by obtain ⟨m, hm⟩ := h0; exact DataW.trod_lt m _ _ _ hm
  have s0 : ∀ n ∈ d0.weights Try.prog 33, n ≤ reachBytes := fun n hn => by simpa using List.all_eq_true.1 hsz n (DataW.weights_mem_each (j := 0) (t := 33) rfl rfl n hn)
  obtain ⟨q0, rfl, ok0⟩ := open_caps17 (hval 0 33 v0 rfl rfl) h0
  have lt1 : ∀ x ∈ p1, x.block < W.heap.size := by obtain ⟨m, hm⟩ := h1; exact DataW.trod_lt m _ _ _ hm
  have s1 : ∀ n ∈ d1.weights Try.prog 34, n ≤ reachBytes := fun n hn => by simpa using List.all_eq_true.1 hsz n (DataW.weights_mem_each (j := 1) (t := 34) rfl rfl n hn)
  obtain ⟨a1, c1, l1, rfl, lc1, cm1, w1⟩ := open_acts17 (hval 1 34 v1 rfl rfl) h1 s1
  clear hA0 hval0 hsz0
  refine (expectOnce_walk q0 a1 c1 l1 W lc1 cm1 w1).mono fun e W' ⟨he, bel⟩ => ?_
  subst he
  exact ⟨_, rfl, _, _, _, [], _, [], hW', trodAll_mk1 (shut_bool Try.underlying4 _), (trodAll_cons_mk (Below.trod laidOut (by kernel_rfl) (of_decide_eq_true (by kernel_rfl)) h0 bel lt0) (trodAll_cons_mk (Below.trod laidOut (by kernel_rfl) (of_decide_eq_true (by kernel_rfl)) h1 bel lt1) trodAll_mk0)), rfl, bel.frame _, fun h => by cases h⟩
theorem over : Rows.expectOnceRow.holds Try.pinned (OpenSpec.ofChange Rows.expectOnceSpec) :=
  OpenClaim.holds_of_wide 5 Try.f5 rfl rfl rfl rfl rfl rfl rfl ⟨rfl, rfl, rfl, rfl, rfl⟩ rfl rfl rfl rfl rfl (by kernel_rfl) Try.func5 (by kernel_rfl)
    (of_decide_eq_true (by kernel_rfl)) (by unfold Func.isWrapper; first | (rw [if_pos (by decide +kernel)]; kernel_rfl) | (rw [if_neg (by decide +kernel)]; exact ⟨rfl, rfl⟩))
    (fun os started H enc _ => lifted os started H enc)
end Go.Proofs.Ytmflogmocgbmhaa.expectOnce
namespace Go.Proofs.Ytmflogmocgbmhaa
theorem expectOnce_holds : Rows.ExpectOnceSaid := expectOnce.over
end Go.Proofs.Ytmflogmocgbmhaa
