/- Texts joined: FlowSidesWalk -/
import Derived.Test.YtfiembbmgdmagaaFxs11
namespace Go.Proofs.Ytfiembbmgdmagaa
abbrev fxs12o0 : Oper := { dst := some 102, op := Op.call { callee := Callee.value (.func 27), args := #[.tmp 101], argTypes := #[26] }, type := 26, pos := "law.go:95", after := #[{ on := 19, ground := Ground.data }, { on := 15, ground := Ground.chain }, { on := 15, ground := Ground.guard }], guard := some (15, true) }
abbrev fxs12o1 : Oper := { dst := some 103, op := Op.binOp BinOp.neq 26 (.tmp 99) (.tmp 102) 26, type := 4, pos := "law.go:95", after := #[{ on := 17, ground := Ground.data }, { on := 20, ground := Ground.data }, { on := 15, ground := Ground.guard }], guard := some (15, true) }
abbrev fxs12o2 : Oper := { dst := some 104, op := Op.pick (.tmp 97) (.tmp 103) (.const (.bool false)), type := 4, pos := "law.go:95", after := #[{ on := 15, ground := Ground.data }, { on := 21, ground := Ground.data }, { on := 8, ground := Ground.guard }], guard := some (8, false) }
abbrev fxs12o3 : Oper := { dst := some 101, op := Op.load 26 (.tmp 100), type := 26, pos := "law.go:95", after := #[{ on := 18, ground := Ground.data }, { on := 15, ground := Ground.guard }], guard := some (15, true) }
abbrev fxs12o4 : Oper := { dst := some 105, op := Op.pick (.tmp 90) (.const (.bool true)) (.tmp 104), type := 4, pos := "law.go:95", after := #[{ on := 8, ground := Ground.data }, { on := 22, ground := Ground.data }], guard := none }
abbrev fxs12o5 : Oper := { dst := some 99, op := Op.load 26 (.tmp 98), type := 26, pos := "law.go:95", after := #[{ on := 16, ground := Ground.data }, { on := 15, ground := Ground.guard }], guard := some (15, true) }
abbrev fxs12o6 : Oper := { dst := some 95, op := Op.binOp BinOp.eql 3 (.tmp 93) (.tmp 94) 3, type := 4, pos := "law.go:95", after := #[{ on := 11, ground := Ground.data }, { on := 12, ground := Ground.data }, { on := 10, ground := Ground.guard }], guard := some (10, true) }
abbrev fxs12o7 : Oper := { dst := some 96, op := Op.pick (.tmp 92) (.tmp 95) (.const (.bool false)), type := 4, pos := "law.go:95", after := #[{ on := 10, ground := Ground.data }, { on := 13, ground := Ground.data }, { on := 8, ground := Ground.guard }], guard := some (8, false) }
abbrev fxs12o8 : Oper := { dst := some 100, op := Op.fieldAddr 33 (.tmp 12) 0, type := 0, pos := "law.go:95", after := #[{ on := 15, ground := Ground.guard }], guard := some (15, true) }
abbrev fxs12o9 : Oper := { dst := some 98, op := Op.fieldAddr 33 (.tmp 12) 0, type := 0, pos := "law.go:95", after := #[{ on := 15, ground := Ground.guard }], guard := some (15, true) }
abbrev fxs12o10 : Oper := { dst := some 97, op := Op.move (.tmp 96), type := 4, pos := "law.go:95", after := #[{ on := 14, ground := Ground.data }, { on := 10, ground := Ground.chain }, { on := 8, ground := Ground.guard }], guard := some (8, false) }
abbrev fxs12o11 : Oper := { dst := some 59, op := Op.call { callee := Callee.builtin Builtin.append, args := #[.tmp 55, .tmp 58], argTypes := #[53, 53] }, type := 53, pos := "law.go:92", after := #[{ on := 1, ground := Ground.data }, { on := 4, ground := Ground.data }, { on := 1, ground := Ground.chain }], guard := none }
abbrev fxs12o12 : Oper := { dst := some 93, op := Op.move (.tmp 14), type := 3, pos := "law.go:95", after := #[{ on := 10, ground := Ground.guard }], guard := some (10, true) }
abbrev fxs12o13 : Oper := { dst := some 94, op := Op.move (.tmp 17), type := 3, pos := "law.go:95", after := #[{ on := 10, ground := Ground.guard }], guard := some (10, true) }
abbrev fxs12o14 : Oper := { dst := some 88, op := Op.binOp BinOp.neq 33 (.tmp 86) (.tmp 87) 33, type := 4, pos := "law.go:95", after := #[{ on := 4, ground := Ground.data }, { on := 5, ground := Ground.data }, { on := 3, ground := Ground.guard }], guard := some (3, false) }
abbrev fxs12o15 : Oper := { dst := some 55, op := Op.call { callee := Callee.value (.func 23), args := #[.tmp 54], argTypes := #[50] }, type := 53, pos := "law.go:92", after := #[{ on := 0, ground := Ground.data }], guard := none }
abbrev fxs12o16 : Oper := { dst := some 92, op := Op.move (.tmp 91), type := 4, pos := "law.go:95", after := #[{ on := 9, ground := Ground.data }, { on := 8, ground := Ground.chain }, { on := 8, ground := Ground.guard }], guard := some (8, false) }
abbrev fxs12o17 : Oper := { dst := some 60, op := Op.call { callee := Callee.builtin Builtin.len, args := #[.tmp 59], argTypes := #[53] }, type := 3, pos := "law.go:92", after := #[{ on := 5, ground := Ground.data }], guard := none }
abbrev fxs12o18 : Oper := { dst := some 84, op := Op.binOp BinOp.neq 4 (.tmp 82) (.tmp 83) 4, type := 4, pos := "law.go:95", after := #[{ on := 0, ground := Ground.data }, { on := 1, ground := Ground.data }], guard := none }
abbrev fxs12o19 : Oper := { dst := some 89, op := Op.pick (.tmp 85) (.const (.bool true)) (.tmp 88), type := 4, pos := "law.go:95", after := #[{ on := 3, ground := Ground.data }, { on := 6, ground := Ground.data }], guard := none }
abbrev fxs12o20 : Oper := { dst := some 90, op := Op.move (.tmp 89), type := 4, pos := "law.go:95", after := #[{ on := 7, ground := Ground.data }, { on := 3, ground := Ground.chain }], guard := none }
abbrev fxs12o21 : Oper := { dst := some 58, op := Op.buildSlice 53 1 #[(0, .tmp 57)], type := 53, pos := "law.go:92", after := #[{ on := 3, ground := Ground.data }], guard := none }
abbrev fxs12o22 : Oper := { dst := some 86, op := Op.load 33 (.tmp 13), type := 33, pos := "law.go:95", after := #[{ on := 3, ground := Ground.guard }], guard := some (3, false) }
abbrev fxs12o23 : Oper := { dst := some 87, op := Op.load 33 (.tmp 16), type := 33, pos := "law.go:95", after := #[{ on := 3, ground := Ground.guard }], guard := some (3, false) }
abbrev fxs12o24 : Oper := { dst := some 91, op := Op.move (.tmp 15), type := 4, pos := "law.go:95", after := #[{ on := 8, ground := Ground.guard }], guard := some (8, false) }
abbrev fxs12o25 : Oper := { dst := some 85, op := Op.move (.tmp 84), type := 4, pos := "law.go:95", after := #[{ on := 2, ground := Ground.data }], guard := none }
abbrev fxs12o26 : Oper := { dst := some 82, op := Op.move (.tmp 15), type := 4, pos := "law.go:95", after := #[], guard := none }
abbrev fxs12o27 : Oper := { dst := some 83, op := Op.move (.tmp 18), type := 4, pos := "law.go:95", after := #[], guard := none }
end Go.Proofs.Ytfiembbmgdmagaa
namespace Go.Proofs.Ytfiembbmgdmagaa
open Go.RowKit
set_option linter.unusedVariables false
set_option linter.unusedSimpArgs false
set_option maxRecDepth 100000 in
set_option maxHeartbeats 16000000 in
theorem flowSides_walk (m : Int) (la : Option Addr) (lc : Nat) (l : List Ac) (q : Wy) (w : World) (hlc : l.length ≤ lc) (hcm : lc * 152 ≤ 140737488351232 ∧ (la = none → lc = 0)) (hrow : RowN 24 Ac.v (fun _ q => q.ok) w la l) (hq0 : q.kf) :
  Calls Try.prog 6 #[.int .i64 m, .slice la l.length lc, .agg q.v] w fun e w' => e = .returned (.bool true) ∧ Below w.heap.size w w' := by
 have HRow : Hid (RowN 24 Ac.v (fun _ q => q.ok) w la l) := hrow
 obtain ⟨N, hN⟩ : ∃ N, l.length = N := ⟨_, rfl⟩
 have HN : Hid (l.length = N) := hN
 have hNl : N ≤ 140737488355328 := by omega
 rw [hN]
 clear hN hrow hlc hcm
 obtain ⟨fq, hfq0⟩ : ∃ f : Fl, (⟨q, ⟨0, 0, 0, 0, 0, false, false, false, false⟩, 0, 0, false⟩ : Fl) = f := ⟨_, rfl⟩
 have hfq : Hid (fq.v = Fl.v ⟨q, ⟨0, 0, 0, 0, 0, false, false, false, false⟩, 0, 0, false⟩) := by rw [hfq0]; exact rfl
 have hfk : Hid fq.w.kf := by rw [← hfq0]; exact hq0
 clear hfq0 hq0
 have b := Below.refl w.heap.size w
 by_cases hc : 0 ≤ m ∧ m ≤ 256
 ·go_enter Try.func6, Try.ntmps6
  obtain ⟨Wm1, hWm1⟩ : ∃ W, w.alloc (.cells q.v 26) = W := ⟨_, rfl⟩
  have bm1 := bel_al b hWm1
  have Am1 := blk_nw hWm1
  have gA : w.heap.size ≤ w.heap.size := b.size
  go_wp2_with fail
  refine Calls.mono (new_y_fw m hc.1 hc.2 _) ?_
  rintro e Wm2 ⟨tb, mb, rfl, Xm2, gtb, gmb, bb⟩
  have Am2 := Am1.kept bb
  have bm2 := bel_tr bm1 bb
  clear bb
  have gwb : w.heap.size ≤ tb := Nat.le_trans bm1.size gtb
  have gwm : w.heap.size ≤ mb := Nat.le_trans bm1.size gmb
  have nXA : tb ≠ w.heap.size ∧ mb ≠ w.heap.size := by have := Am1.lt; omega
  clear Am1 bm1
  go_wp2_with fail
  refine Calls.mono (alive_fw _) ?_
  rintro e Wm3 ⟨rfl, bb⟩
  have Am3 := Am2.kept bb
  have Xm3 := Xm2.kept bb
  have bm3 := bel_tr bm2 bb
  clear bb
  clear Am2 Xm2 bm2
  go_wp2_with fail
  go_loopw [37] (fun i wr => ∃ (j : Nat) (s : Ft), j ≤ N ∧ i = .int .i64 j ∧ Hid (s.most = m) ∧ Blk wr w.heap.size 26 q.v ∧ TabX wr tb mb s ∧ Below w.heap.size w wr) (fun i _ => N - (intOf i).toNat)
  case atStart => exact ⟨0, ⟨m, 0, []⟩, Nat.zero_le _, rfl, rfl, Am3, Xm3, bm3⟩
  case round =>
   obtain ⟨j, s, hj, rfl, hI, Ar, Xr, br⟩ := hrel
   obtain ⟨Wr, rfl⟩ : ∃ W, W = wr := ⟨_, rfl⟩
   have HOK : Hid (FtOk s) := Xr.ok
   have in0 : (0 : Int) ≤ (j : Int) := by omega
   by_cases hlt : j < N
   ·have ik : (j : Int) < (N : Int) := by omega
    have ik' : decide ((j : Int) < (N : Int)) = true := by simpa using ik
    obtain ⟨qa, hq⟩ : ∃ q, l[j]? = some q := ⟨_, List.getElem?_eq_getElem (by rw [HN.out]; exact hlt)⟩
    have hok : qa.ok := HRow.out.each qa (List.mem_of_getElem? hq)
    obtain ⟨p, off, rfl, hcells⟩ := HRow.out.cells j qa hq
    have hca := hcells.below br
    clear hcells
    cases hq7 : ((bits .and .i64 qa.kd 3) == 2) with
    | false =>
     obtain ⟨Wm8, hWm8⟩ : ∃ W, Wr.alloc (.cells #[.int .i64 0, .int .i64 0, .int .i64 0, .int .i64 0, .int .i64 0, .int .u64 0, .int .u64 0, .int .i64 0, .int .u64 0, .int .u64 0, .int .i64 0, .int .i64 0, .int .i64 0, .int .u32 0, .int .u32 0, .int .u32 0, .int .u32 0, .bool false, .bool false, .bool false, .bool false, .int .i64 0, .int .i64 0, .bool false] 59) = W := ⟨_, rfl⟩
     have bm8 := bel_al br hWm8
     have Am8 := Ar.al hWm8
     have Xm8 := Xr.al hWm8
     have Bm8 := blk_nw hWm8
     have gB : w.heap.size ≤ Wr.heap.size := br.size
     have nAB : w.heap.size ≠ Wr.heap.size := by have := Ar.lt; omega
     have nBA : Wr.heap.size ≠ w.heap.size := fun e => nAB e.symm
     have nXB : tb ≠ Wr.heap.size ∧ mb ≠ Wr.heap.size := by have := Xr.lt; omega
     obtain ⟨Wm9, hWm9⟩ : ∃ W, Wm8.setRow Wr.heap.size qa.v = W := ⟨_, rfl⟩
     have Bm9 : Blk Wm9 Wr.heap.size 59 qa.v := hWm9 ▸ Bm8.set qa.v
     have Am9 := hWm9 ▸ Am8.other nAB qa.v
     have Xm9 := hWm9 ▸ Xm8.other nXB qa.v
     have bm9 := hWm9 ▸ below_setRow bm8 gB qa.v
     have c10 := Bm9.cell 0 (.int .i64 qa.kd) rfl
     go_wp2_with (first | (refine wpList_load_at_w (by rfl) _ _ rfl p (off + j * 24) (by rfl) _ hca Try.underlying59 (by kernel_rfl) ?_) | (refine wpList_store_row rfl _ _ _ rfl Wr.heap.size qa.v (by rfl) (by rfl) _ _ Bm8 (by kernel_rfl) (by rfl) (by kernel_rfl) ?_; rw [hWm9]) | (refine wpList_load_sub_w (by rfl) _ _ rfl Wr.heap.size 2 _ (by rfl) _ qa.f.v Bm9 (by rfl) Try.underlying33 (by kernel_rfl) ?_))
     clear c10
     refine Calls.mono (putX tb mb s qa.f _ Xm9 hok.f.w) ?_
     rintro e Wm11 ⟨rfl, Xm11, bb⟩
     have Am11 := Am9.but bb (by have := nXA; omega)
     have Bm11 := Bm9.but bb (by have := nXB; omega)
     have bm11 := bel_but bm9 bb gwb gwm
     clear bb
     clear Am9 Xm9 Bm9 bm9
     go_wp2_with fail
     exact ⟨⟨j + 1, (s.put qa.f).1, by omega, by go_num, (put_most s _).trans hI.out, Am11, Xm11, bm11⟩, by simp [intOf]; omega⟩

    | true =>
     obtain ⟨Wm12, hWm12⟩ : ∃ W, Wr.alloc (.cells #[.int .i64 0, .int .i64 0, .int .i64 0, .int .i64 0, .int .i64 0, .int .u64 0, .int .u64 0, .int .i64 0, .int .u64 0, .int .u64 0, .int .i64 0, .int .i64 0, .int .i64 0, .int .u32 0, .int .u32 0, .int .u32 0, .int .u32 0, .bool false, .bool false, .bool false, .bool false, .int .i64 0, .int .i64 0, .bool false] 59) = W := ⟨_, rfl⟩
     have bm12 := bel_al br hWm12
     have Am12 := Ar.al hWm12
     have Xm12 := Xr.al hWm12
     have Bm12 := blk_nw hWm12
     have gB : w.heap.size ≤ Wr.heap.size := br.size
     have nAB : w.heap.size ≠ Wr.heap.size := by have := Ar.lt; omega
     have nBA : Wr.heap.size ≠ w.heap.size := fun e => nAB e.symm
     have nXB : tb ≠ Wr.heap.size ∧ mb ≠ Wr.heap.size := by have := Xr.lt; omega
     obtain ⟨Wm13, hWm13⟩ : ∃ W, Wm12.setRow Wr.heap.size qa.v = W := ⟨_, rfl⟩
     have Bm13 : Blk Wm13 Wr.heap.size 59 qa.v := hWm13 ▸ Bm12.set qa.v
     have Am13 := hWm13 ▸ Am12.other nAB qa.v
     have Xm13 := hWm13 ▸ Xm12.other nXB qa.v
     have bm13 := hWm13 ▸ below_setRow bm12 gB qa.v
     have c14 := Bm13.cell 0 (.int .i64 qa.kd) rfl
     have c15 := Bm13.cell 1 (.int .i64 qa.nw) rfl
     go_wp2_with (first | (refine wpList_load_at_w (by rfl) _ _ rfl p (off + j * 24) (by rfl) _ hca Try.underlying59 (by kernel_rfl) ?_) | (refine wpList_store_row rfl _ _ _ rfl Wr.heap.size qa.v (by rfl) (by rfl) _ _ Bm12 (by kernel_rfl) (by rfl) (by kernel_rfl) ?_; rw [hWm13]))
     clear c14 c15
     refine Calls.mono (tickX tb mb s qa.nw _ Xm13) ?_
     rintro e Wm16 ⟨rfl, Xm16, bb⟩
     have Am16 := Am13.but bb (by have := nXA; omega)
     have Bm16 := Bm13.but bb (by have := nXB; omega)
     have bm16 := bel_but bm13 bb gwb gwm
     clear bb
     clear Am13 Xm13 Bm13 bm13
     go_wp2_with fail
     exact ⟨⟨j + 1, (s.tick qa.nw).1, by omega, by go_num, (tick_most s _).trans hI.out, Am16, Xm16, bm16⟩, by simp [intOf]; omega⟩


   ·have ik : ¬ (j : Int) < (N : Int) := by omega
    have ik' : decide ((j : Int) < (N : Int)) = false := by simpa using ik
    go_wp2_with fail
    obtain ⟨Wdq17, hWdq17⟩ : ∃ W, Wr.drew = W := ⟨_, rfl⟩
    have Adq17 := hWdq17 ▸ Ar.drew
    have Xdq17 := hWdq17 ▸ Xr.drew
    have bdq17 := hWdq17 ▸ br.drew
    refine wp_region_noPanic ?_
    refine wp_region_held_drew (S := fun w' => Blk w' w.heap.size 26 q.v ∧ TabX w' tb mb s) (by kernel_rfl) (by rw [hWdq17]; exact ⟨Adq17, Xdq17⟩) (fun hHeld => ?_)
    rw [hWdq17] at hHeld ⊢
    refine qtk (i := 0) (oi := { dst := some 54, op := Op.move (.tmp 7), type := 50, pos := "law.go:92", after := #[], guard := none }) (v := (.pointer (some ⟨tb, 0, none⟩))) hHeld ?_ ?_
    ·intro w9 hSw
     try dsimp only at hSw
     go_simp
    try simp only [qpu]
    refine qty (i := 2) (oi := { dst := some 56, op := Op.load 26 (.tmp 5), type := 26, pos := "law.go:92", after := #[], guard := none }) (v := (.agg q.v)) (yieldsIf_blk_w (by kernel_rfl) _ _ rfl w.heap.size (by rfl) _ (fun _ hSw => hSw.1) Try.underlying26 (by kernel_rfl)) hHeld ?_
    try simp only [qpu]
    refine qtk (i := 3) (oi := { dst := some 57, op := Op.build 33 #[(0, .tmp 56)], type := 33, pos := "law.go:92", after := #[{ on := 2, ground := Ground.data }], guard := none }) (v := (.agg fq.v)) hHeld ?_ ?_
    ·intro w9 hSw
     try dsimp only at hSw
     have hcc := hfq.out
     go_simp
    try simp only [qpu]
    refine qtk (i := 7) (oi := { dst := some 61, op := Op.move (.const (.int .i64 0)), type := 3, pos := "law.go:92", after := #[], guard := none }) (v := (.int .i64 0)) hHeld ?_ ?_
    ·intro w9 hSw
     try dsimp only at hSw
     go_simp
    try simp only [qpu]
    refine wpAnyH_ready (rs := [1, 4]) (by kernel_rfl) (by simp) ?_
    refine AllReadyH.cons (o := fxs12o15) rfl (fun K hK => ?_) (AllReadyH.cons (o := fxs12o21) rfl (fun K hK => ?_) AllReadyH.nil)
    ·go_simp
     refine Calls.mono (allX tb mb s _ Xdq17) ?_
     rintro e Wx18 ⟨aa, ca, rfl, OAx18, bb⟩
     have Ax18 := Adq17.kept bb
     have Xx18 := Xdq17.kept bb
     have bx18 := bel_tr bdq17 bb
     clear bb
     have OBx18 : OwnL Wx18 w.heap.size aa ca s.L := OAx18.base bdq17.size
     have hxl := Xdq17.lt
     have hAl := Adq17.lt
     have hft : ∀ k, aa.map (·.block) = some k → Wdq17.heap.size ≤ k := fun k hk => by
      cases hq0 : aa with
      | none => rw [hq0] at hk; cases hk
      | some y => rw [hq0] at hk; cases hk; exact OAx18.lt y hq0
     refine hK.out _ _ (by exact ⟨Ax18, Xx18⟩) (fun hHeld => ?_)
     clear hK K
     try simp only [qpu]
     refine wpAnyH_ready (rs := [4]) (by kernel_rfl) (by simp) ?_
     refine AllReadyH.cons (o := fxs12o21) rfl (fun K hK => ?_) AllReadyH.nil
     go_simp
     obtain ⟨Ws19, hWs19⟩ : ∃ W, Wx18.alloc (.cells fq.v 33) = W := ⟨_, rfl⟩
     rw [hWs19]
     have As19 := Ax18.al hWs19
     have Xs19 := Xx18.al hWs19
     have Ys19 := blk_nw hWs19
     have bs19 := bel_al bx18 hWs19
     have OBs19 := OBx18.below (bel_nw hWs19)
     refine hK.out _ _ (by exact ⟨As19, Xs19⟩) (fun hHeld => ?_)
     clear hK K
     try simp only [qpu]
     refine wpAnyH_ready (rs := [5]) (by kernel_rfl) (by simp) ?_
     refine AllReadyH.cons (o := fxs12o11) rfl (fun K hK => ?_) AllReadyH.nil
     have hll : s.L.length + 1 ≤ 1000000 := by
      have h8 := HOK.out.few
      have h9 := HOK.out.most
      omega
     obtain ⟨ga, ca2, Wp20, hrun, Op20, gr, bl⟩ := run_appL1 Ws19 53 w.heap.size aa ca s.L OBs19 Wx18.heap.size 1 _ fq Ys19 hll bs19.size
     refine step_rnL rfl _ _ _ rfl _ _ (by rfl) (by rfl) _ _ hrun ?_
     have bg : But (fun k => aa.map (·.block) = some k) Ws19 Wp20 := (But.refl _ _).grown gr (fun n hn => .inl hn)
     have Xp20 := Xs19.but bg (fun e => by have := hft _ e; omega) (fun e => by have := hft _ e; omega)
     have Ap20 := As19.but bg (fun e => by have := hft _ e; omega)
     have bp20 := bs19.trans bl
     clear hrun gr bl bg
     refine hK.out _ _ (by exact ⟨Ap20, Xp20⟩) (fun hHeld => ?_)
     clear hK K
     try simp only [qpu]
     refine qtk (i := 6) (oi := fxs12o17) (v := (.int .i64 (s.L.length + 1))) hHeld ?_ ?_
     ·intro w9 hSw
      try dsimp only at hSw
      go_simp
     try simp only [qpu]
     refine wpAnyH_done (by kernel_rfl) ?_ _
     refine NoPanic.normal ?_
     go_wp2_with fail
     have HRW : Hid (RowL Wp20 (some ⟨ga, 0, none⟩) (s.L ++ [fq])) := Op20.row (fun _ _ => trivial)
     have HKF : Hid (∀ x ∈ s.L ++ [fq], x.w.kf) := fun x hx => by
      rcases List.mem_append.1 hx with h | h
      ·exact (HOK.out.each x h).2.2
      ·rw [List.mem_singleton.1 h]; exact hfk.out
     obtain ⟨M, hM⟩ : ∃ M, s.L.length + 1 = M := ⟨_, rfl⟩
     have hM1 : M = (s.L ++ [fq]).length := by rw [← hM]; simp
     have HM : Hid (M = (s.L ++ [fq]).length) := hM1
     have hMi : (s.L.length : Int) + 1 = (M : Int) := by omega
     have hM0 : M ≤ 1000000 := by omega
     have Qp20 : But (fun _ => False) Wp20 Wp20 := But.refl _ _
     try rw [hM]
     try rw [hMi]
     clear hM hMi hM1
     go_loopw [61] (fun i wr => ∃ k : Nat, k ≤ M ∧ i = .int .i64 k ∧ TabX wr tb mb s ∧ But (fun _ => False) Wp20 wr ∧ Below w.heap.size w wr) (fun i _ => M - (intOf i).toNat)
     case atStart => exact ⟨0, Nat.zero_le _, rfl, Xp20, Qp20, bp20⟩
     case round =>
      obtain ⟨k, hk, rfl, Xv, Qv, bv⟩ := hrel
      obtain ⟨Wv, rfl⟩ : ∃ W, W = wr := ⟨_, rfl⟩
      have in0k : (0 : Int) ≤ (k : Int) := by omega
      by_cases hltk : k < M
      ·have ikk : (k : Int) < (M : Int) := by omega
       have ikk' : decide ((k : Int) < (M : Int)) = true := by simpa using ikk
       obtain ⟨x, hx⟩ : ∃ x, (s.L ++ [fq])[k]? = some x := ⟨_, List.getElem?_eq_getElem (by rw [← HM.out]; exact hltk)⟩
       have hxk : x.w.kf := HKF.out x (List.mem_of_getElem? hx)
       obtain ⟨p2, off2, e2, hcells2⟩ := HRW.out.cells k x hx
       cases e2
       have hcb := hcells2.below (Qv.to_below (Nat.le_refl _) (fun _ _ x => x))
       have hsd : (Ft.find s x.w).2.2 = true → ((Ft.find s x.w).2.1 == (Ft.find s x.w.rev).2.1) = true → Wy.eqB x.w x.w.rev = true := fun a b => side_eq HOK.out a b
       have Hsd : Hid _ := hsd
       clear hcells2 hsd
       obtain ⟨Wm21, hWm21⟩ : ∃ W, Wv.alloc (.cells #[.int .i64 0, .int .i64 0, .int .i64 0, .int .u64 0, .int .u64 0, .int .i64 0, .int .u64 0, .int .u64 0, .int .i64 0, .int .i64 0, .int .i64 0, .int .u32 0, .int .u32 0, .int .u32 0, .int .u32 0, .bool false, .bool false, .bool false, .bool false, .int .i64 0, .int .i64 0, .bool false] 33) = W := ⟨_, rfl⟩
       have bm21 := bel_al bv hWm21
       have Xm21 := Xv.al hWm21
       have Qm21 := Qv.al hWm21
       have Am21 := blk_nw hWm21
       have gA : w.heap.size ≤ Wv.heap.size := bv.size
       have nXA : tb ≠ Wv.heap.size ∧ mb ≠ Wv.heap.size := by have := Xv.lt; omega
       have nQA : (fun _ => False) Wv.heap.size ∨ Wp20.heap.size ≤ Wv.heap.size := .inr Qv.size
       obtain ⟨Wm22, hWm22⟩ : ∃ W, Wm21.setRow Wv.heap.size x.v = W := ⟨_, rfl⟩
       have Am22 : Blk Wm22 Wv.heap.size 33 x.v := hWm22 ▸ Am21.set x.v
       have Xm22 := hWm22 ▸ Xm21.other nXA x.v
       have Qm22 := hWm22 ▸ Qm21.other nQA x.v
       have bm22 := hWm22 ▸ below_setRow bm21 gA x.v
       go_wp2_with (first | (refine wpList_load_at_w (by rfl) _ _ rfl ga (0 + k * 22) (by first | rfl | (rw [Nat.zero_add]; rfl)) _ hcb Try.underlying33 (by kernel_rfl) ?_) | (refine wpList_store_row rfl _ _ _ rfl Wv.heap.size x.v (by rfl) (by rfl) _ _ Am21 (by kernel_rfl) (by rfl) (by kernel_rfl) ?_; rw [hWm22]) | (refine wpList_load_sub_w (by rfl) _ _ rfl Wv.heap.size 0 _ (by rfl) _ x.w.v Am22 (by rfl) Try.underlying26 (by kernel_rfl) ?_))
       refine Calls.mono (findX tb mb s x.w _ Xm22 hxk) ?_
       rintro e Wm23 ⟨rfl, bb⟩
       have Xm23 := Xm22.kept bb
       have Qm23 := Qm22.kept bb
       have Am23 := Am22.kept bb
       have bm23 := bel_tr bm22 bb
       clear bb
       clear Xm22 Qm22 Am22 bm22
       obtain ⟨Wm24, hWm24⟩ : ∃ W, Wm23.alloc (.cells #[.int .i64 0, .int .i64 0, .int .i64 0, .int .u64 0, .int .u64 0, .int .i64 0, .int .u64 0, .int .u64 0, .int .i64 0, .int .i64 0, .int .i64 0, .int .u32 0, .int .u32 0, .int .u32 0, .int .u32 0, .bool false, .bool false, .bool false, .bool false, .int .i64 0, .int .i64 0, .bool false] 33) = W := ⟨_, rfl⟩
       have bm24 := bel_al bm23 hWm24
       have Xm24 := Xm23.al hWm24
       have Qm24 := Qm23.al hWm24
       have Am24 := Am23.al hWm24
       have Bm24 := blk_nw hWm24
       have gB : w.heap.size ≤ Wm23.heap.size := bm23.size
       have nXB : tb ≠ Wm23.heap.size ∧ mb ≠ Wm23.heap.size := by have := Xm23.lt; omega
       have nQB : (fun _ => False) Wm23.heap.size ∨ Wp20.heap.size ≤ Wm23.heap.size := .inr Qm23.size
       have nAB : Wv.heap.size ≠ Wm23.heap.size := by have := Am23.lt; omega
       have nBA : Wm23.heap.size ≠ Wv.heap.size := fun e => nAB e.symm
       obtain ⟨Wm25, hWm25⟩ : ∃ W, Wm24.setRow Wm23.heap.size (Ft.find s x.w).1.v = W := ⟨_, rfl⟩
       have Bm25 : Blk Wm25 Wm23.heap.size 33 (Ft.find s x.w).1.v := hWm25 ▸ Bm24.set (Ft.find s x.w).1.v
       have Xm25 := hWm25 ▸ Xm24.other nXB (Ft.find s x.w).1.v
       have Qm25 := hWm25 ▸ Qm24.other nQB (Ft.find s x.w).1.v
       have Am25 := hWm25 ▸ Am24.other nAB (Ft.find s x.w).1.v
       have bm25 := hWm25 ▸ below_setRow bm24 gB (Ft.find s x.w).1.v
       go_wp2_with (first | (refine wpList_store_row rfl _ _ _ rfl Wm23.heap.size (Ft.find s x.w).1.v (by rfl) (by rfl) _ _ Bm24 (by kernel_rfl) (by rfl) (by kernel_rfl) ?_; rw [hWm25]) | (refine wpList_load_sub_w (by rfl) _ _ rfl Wv.heap.size 0 _ (by rfl) _ x.w.v Am25 (by rfl) Try.underlying26 (by kernel_rfl) ?_))
       refine Calls.mono (rrev_t x.w _) ?_
       rintro e Wm26 ⟨rfl, bb⟩
       have Xm26 := Xm25.kept bb
       have Qm26 := Qm25.kept bb
       have Am26 := Am25.kept bb
       have Bm26 := Bm25.kept bb
       have bm26 := bel_tr bm25 bb
       clear bb
       clear Xm25 Qm25 Am25 Bm25 bm25
       go_wp2_with fail
       refine Calls.mono (findXr tb mb s x.w _ Xm26 hxk) ?_
       rintro e Wm27 ⟨rfl, bb⟩
       have Xm27 := Xm26.kept bb
       have Qm27 := Qm26.kept bb
       have Am27 := Am26.kept bb
       have Bm27 := Bm26.kept bb
       have bm27 := bel_tr bm26 bb
       clear bb
       clear Xm26 Qm26 Am26 Bm26 bm26
       obtain ⟨Wm28, hWm28⟩ : ∃ W, Wm27.alloc (.cells #[.int .i64 0, .int .i64 0, .int .i64 0, .int .u64 0, .int .u64 0, .int .i64 0, .int .u64 0, .int .u64 0, .int .i64 0, .int .i64 0, .int .i64 0, .int .u32 0, .int .u32 0, .int .u32 0, .int .u32 0, .bool false, .bool false, .bool false, .bool false, .int .i64 0, .int .i64 0, .bool false] 33) = W := ⟨_, rfl⟩
       have bm28 := bel_al bm27 hWm28
       have Xm28 := Xm27.al hWm28
       have Qm28 := Qm27.al hWm28
       have Am28 := Am27.al hWm28
       have Bm28 := Bm27.al hWm28
       have Cm28 := blk_nw hWm28
       have gC : w.heap.size ≤ Wm27.heap.size := bm27.size
       have nXC : tb ≠ Wm27.heap.size ∧ mb ≠ Wm27.heap.size := by have := Xm27.lt; omega
       have nQC : (fun _ => False) Wm27.heap.size ∨ Wp20.heap.size ≤ Wm27.heap.size := .inr Qm27.size
       have nAC : Wv.heap.size ≠ Wm27.heap.size := by have := Am27.lt; omega
       have nCA : Wm27.heap.size ≠ Wv.heap.size := fun e => nAC e.symm
       have nBC : Wm23.heap.size ≠ Wm27.heap.size := by have := Bm27.lt; omega
       have nCB : Wm27.heap.size ≠ Wm23.heap.size := fun e => nBC e.symm
       obtain ⟨Wm29, hWm29⟩ : ∃ W, Wm28.setRow Wm27.heap.size (Ft.find s x.w).1.v = W := ⟨_, rfl⟩
       have Cm29 : Blk Wm29 Wm27.heap.size 33 (Ft.find s x.w).1.v := hWm29 ▸ Cm28.set (Ft.find s x.w).1.v
       have Xm29 := hWm29 ▸ Xm28.other nXC (Ft.find s x.w).1.v
       have Qm29 := hWm29 ▸ Qm28.other nQC (Ft.find s x.w).1.v
       have Am29 := hWm29 ▸ Am28.other nAC (Ft.find s x.w).1.v
       have Bm29 := hWm29 ▸ Bm28.other nBC (Ft.find s x.w).1.v
       have bm29 := hWm29 ▸ below_setRow bm28 gC (Ft.find s x.w).1.v
       go_wp2_with (refine wpList_store_row rfl _ _ _ rfl Wm27.heap.size (Ft.find s x.w).1.v (by rfl) (by rfl) _ _ Cm28 (by kernel_rfl) (by rfl) (by kernel_rfl) ?_; rw [hWm29])
       obtain ⟨Wdq30, hWdq30⟩ : ∃ W, Wm29.drew = W := ⟨_, rfl⟩
       have Xdq30 := hWdq30 ▸ Xm29.drew
       have Qdq30 := hWdq30 ▸ Qm29.drew
       have Adq30 := hWdq30 ▸ Am29.drew
       have Bdq30 := hWdq30 ▸ Bm29.drew
       have Cdq30 := hWdq30 ▸ Cm29.drew
       have bdq30 := hWdq30 ▸ bm29.drew
       refine wp_region_noPanic ?_
       refine wp_region_held_drew (S := fun w' => TabX w' tb mb s ∧ But (fun _ => False) Wp20 w' ∧ Blk w' Wv.heap.size 33 x.v ∧ Blk w' Wm23.heap.size 33 (Ft.find s x.w).1.v ∧ Blk w' Wm27.heap.size 33 (Ft.find s x.w).1.v) (by kernel_rfl) (by rw [hWdq30]; exact ⟨Xdq30, Qdq30, Adq30, Bdq30, Cdq30⟩) (fun hHeld => ?_)
       rw [hWdq30] at hHeld ⊢
       refine qtk (i := 0) (oi := fxs12o26) (v := (.bool (Ft.find s x.w).2.2)) hHeld ?_ ?_
       ·intro w9 hSw
        try dsimp only at hSw
        go_simp
       try simp only [qpu]
       refine qtk (i := 1) (oi := fxs12o27) (v := (.bool (Ft.find s x.w).2.2)) hHeld ?_ ?_
       ·intro w9 hSw
        try dsimp only at hSw
        go_simp
       try simp only [qpu]
       refine qtk (i := 2) (oi := fxs12o18) (v := (.bool false)) hHeld ?_ ?_
       ·intro w9 hSw
        try dsimp only at hSw
        go_simp
       try simp only [qpu]
       refine qtk (i := 3) (oi := fxs12o25) (v := (.bool false)) hHeld ?_ ?_
       ·intro w9 hSw
        try dsimp only at hSw
        go_simp
       try simp only [qpu]
       refine qty (i := 4) (oi := fxs12o22) (v := (.agg (Ft.find s x.w).1.v)) (yieldsIf_blk_w (by kernel_rfl) _ _ rfl Wm23.heap.size (by rfl) _ (fun _ hSw => hSw.2.2.2.1) Try.underlying33 (by kernel_rfl)) hHeld ?_
       try simp only [qpu]
       refine qty (i := 5) (oi := fxs12o23) (v := (.agg (Ft.find s x.w).1.v)) (yieldsIf_blk_w (by kernel_rfl) _ _ rfl Wm27.heap.size (by rfl) _ (fun _ hSw => hSw.2.2.2.2) Try.underlying33 (by kernel_rfl)) hHeld ?_
       try simp only [qpu]
       refine qtk (i := 6) (oi := fxs12o14) (v := (.bool false)) hHeld ?_ ?_
       ·intro w9 hSw
        try dsimp only at hSw
        have hcc := neq_fl (Ft.find s x.w).1
        go_simp
       try simp only [qpu]
       refine qtk (i := 7) (oi := fxs12o19) (v := (.bool false)) hHeld ?_ ?_
       ·intro w9 hSw
        try dsimp only at hSw
        go_simp
       try simp only [qpu]
       refine qtk (i := 8) (oi := fxs12o20) (v := (.bool false)) hHeld ?_ ?_
       ·intro w9 hSw
        try dsimp only at hSw
        go_simp
       try simp only [qpu]
       refine qtk (i := 9) (oi := fxs12o24) (v := (.bool (Ft.find s x.w).2.2)) hHeld ?_ ?_
       ·intro w9 hSw
        try dsimp only at hSw
        go_simp
       try simp only [qpu]
       refine qtk (i := 10) (oi := fxs12o16) (v := (.bool (Ft.find s x.w).2.2)) hHeld ?_ ?_
       ·intro w9 hSw
        try dsimp only at hSw
        go_simp
       try simp only [qpu]
       cases hq31 : (Ft.find s x.w).2.2 with
       | false =>
        refine qtn (i := 11) (oi := fxs12o12) hHeld ?_
        try simp only [qpu]
        refine qtn (i := 12) (oi := fxs12o13) hHeld ?_
        try simp only [qpu]
        refine qtn (i := 13) (oi := fxs12o6) hHeld ?_
        try simp only [qpu]
        refine qtk (i := 14) (oi := fxs12o7) (v := (.bool false)) hHeld ?_ ?_
        ·intro w9 hSw
         try dsimp only at hSw
         go_simp
        try simp only [qpu]
        refine qtk (i := 15) (oi := fxs12o10) (v := (.bool false)) hHeld ?_ ?_
        ·intro w9 hSw
         try dsimp only at hSw
         go_simp
        try simp only [qpu]
        refine qtn (i := 16) (oi := fxs12o9) hHeld ?_
        try simp only [qpu]
        refine qtn (i := 17) (oi := fxs12o5) hHeld ?_
        try simp only [qpu]
        refine qtn (i := 18) (oi := fxs12o8) hHeld ?_
        try simp only [qpu]
        refine qtn (i := 19) (oi := fxs12o3) hHeld ?_
        try simp only [qpu]
        refine qtn (i := 20) (oi := fxs12o0) hHeld ?_
        try simp only [qpu]
        refine qtn (i := 21) (oi := fxs12o1) hHeld ?_
        try simp only [qpu]
        refine qtk (i := 22) (oi := fxs12o2) (v := (.bool false)) hHeld ?_ ?_
        ·intro w9 hSw
         try dsimp only at hSw
         go_simp
        try simp only [qpu]
        refine qtk (i := 23) (oi := fxs12o4) (v := (.bool false)) hHeld ?_ ?_
        ·intro w9 hSw
         try dsimp only at hSw
         go_simp
        try simp only [qpu]
        refine wpAnyH_done (by kernel_rfl) ?_ _
        refine NoPanic.normal ?_
        go_wp2_with fail
        exact ⟨⟨k + 1, by omega, by go_num, Xdq30, Qdq30, bdq30⟩, by simp [intOf]; omega⟩
       | true =>
        refine qtk (i := 11) (oi := fxs12o12) (v := (.int .i64 (Ft.find s x.w).2.1)) hHeld ?_ ?_
        ·intro w9 hSw
         try dsimp only at hSw
         go_simp
        try simp only [qpu]
        refine qtk (i := 12) (oi := fxs12o13) (v := (.int .i64 (Ft.find s x.w.rev).2.1)) hHeld ?_ ?_
        ·intro w9 hSw
         try dsimp only at hSw
         go_simp
        try simp only [qpu]
        refine qtk (i := 13) (oi := fxs12o6) (v := (.bool ((Ft.find s x.w).2.1 == (Ft.find s x.w.rev).2.1))) hHeld ?_ ?_
        ·intro w9 hSw
         try dsimp only at hSw
         go_simp
        try simp only [qpu]
        refine qtk (i := 14) (oi := fxs12o7) (v := (.bool ((Ft.find s x.w).2.1 == (Ft.find s x.w.rev).2.1))) hHeld ?_ ?_
        ·intro w9 hSw
         try dsimp only at hSw
         go_simp
        try simp only [qpu]
        refine qtk (i := 15) (oi := fxs12o10) (v := (.bool ((Ft.find s x.w).2.1 == (Ft.find s x.w.rev).2.1))) hHeld ?_ ?_
        ·intro w9 hSw
         try dsimp only at hSw
         go_simp
        try simp only [qpu]
        cases hq32 : ((Ft.find s x.w).2.1 == (Ft.find s x.w.rev).2.1) with
        | false =>
         refine qtn (i := 16) (oi := fxs12o9) hHeld ?_
         try simp only [qpu]
         refine qtn (i := 17) (oi := fxs12o5) hHeld ?_
         try simp only [qpu]
         refine qtn (i := 18) (oi := fxs12o8) hHeld ?_
         try simp only [qpu]
         refine qtn (i := 19) (oi := fxs12o3) hHeld ?_
         try simp only [qpu]
         refine qtn (i := 20) (oi := fxs12o0) hHeld ?_
         try simp only [qpu]
         refine qtn (i := 21) (oi := fxs12o1) hHeld ?_
         try simp only [qpu]
         refine qtk (i := 22) (oi := fxs12o2) (v := (.bool false)) hHeld ?_ ?_
         ·intro w9 hSw
          try dsimp only at hSw
          go_simp
         try simp only [qpu]
         refine qtk (i := 23) (oi := fxs12o4) (v := (.bool false)) hHeld ?_ ?_
         ·intro w9 hSw
          try dsimp only at hSw
          go_simp
         try simp only [qpu]
         refine wpAnyH_done (by kernel_rfl) ?_ _
         refine NoPanic.normal ?_
         go_wp2_with fail
         exact ⟨⟨k + 1, by omega, by go_num, Xdq30, Qdq30, bdq30⟩, by simp [intOf]; omega⟩
        | true =>
         refine qtk (i := 16) (oi := fxs12o9) (v := (.pointer (some ⟨Wv.heap.size, 0, none⟩))) hHeld ?_ ?_
         ·intro w9 hSw
          try dsimp only at hSw
          go_simp
         try simp only [qpu]
         refine qty (i := 17) (oi := fxs12o5) (v := (.agg x.w.v)) (yieldsIf_sub_w (by kernel_rfl) _ _ rfl Wv.heap.size 0 _ (by rfl) _ x.w.v (fun _ hSw => hSw.2.2.1) (by rfl) Try.underlying26 (by kernel_rfl)) hHeld ?_
         try simp only [qpu]
         refine qtk (i := 18) (oi := fxs12o8) (v := (.pointer (some ⟨Wv.heap.size, 0, none⟩))) hHeld ?_ ?_
         ·intro w9 hSw
          try dsimp only at hSw
          go_simp
         try simp only [qpu]
         refine qty (i := 19) (oi := fxs12o3) (v := (.agg x.w.v)) (yieldsIf_sub_w (by kernel_rfl) _ _ rfl Wv.heap.size 0 _ (by rfl) _ x.w.v (fun _ hSw => hSw.2.2.1) (by rfl) Try.underlying26 (by kernel_rfl)) hHeld ?_
         try simp only [qpu]
         refine wpAnyH_ready (rs := [20]) (by kernel_rfl) (by simp) ?_
         refine AllReadyH.cons (o := fxs12o0) rfl (fun K hK => ?_) AllReadyH.nil
         go_simp
         refine Calls.mono (rrev_t x.w _) ?_
         rintro e Wx33 ⟨rfl, bb⟩
         have Xx33 := Xdq30.kept bb
         have Qx33 := Qdq30.kept bb
         have Ax33 := Adq30.kept bb
         have Bx33 := Bdq30.kept bb
         have Cx33 := Cdq30.kept bb
         have bx33 := bel_tr bdq30 bb
         clear bb
         refine hK.out _ _ (by exact ⟨Xx33, Qx33, Ax33, Bx33, Cx33⟩) (fun hHeld => ?_)
         clear hK K
         try simp only [qpu]
         refine qtk (i := 21) (oi := fxs12o1) (v := (.bool (!(Wy.eqB x.w (x.w.rev))))) hHeld ?_ ?_
         ·intro w9 hSw
          try dsimp only at hSw
          have hcc := neq_way x.w (x.w.rev)
          go_simp
         try simp only [qpu]
         refine qtk (i := 22) (oi := fxs12o2) (v := (.bool (!(Wy.eqB x.w (x.w.rev))))) hHeld ?_ ?_
         ·intro w9 hSw
          try dsimp only at hSw
          go_simp
         try simp only [qpu]
         refine qtk (i := 23) (oi := fxs12o4) (v := (.bool (!(Wy.eqB x.w (x.w.rev))))) hHeld ?_ ?_
         ·intro w9 hSw
          try dsimp only at hSw
          go_simp
         try simp only [qpu]
         refine wpAnyH_done (by kernel_rfl) ?_ _
         refine NoPanic.normal ?_
         cases hq34 : (Wy.eqB x.w (x.w.rev)) with
         | false =>
          go_wp2_with fail
          exact absurd (Hsd.out (by assumption) (by assumption)) (by simpa using (by assumption : Wy.eqB x.w x.w.rev = false))
         | true =>
          go_wp2_with fail
          exact ⟨⟨k + 1, by omega, by go_num, Xx33, Qx33, bx33⟩, by simp [intOf]; omega⟩
      ·have ikk : ¬ (k : Int) < (M : Int) := by omega
       have ikk' : decide ((k : Int) < (M : Int)) = false := by simpa using ikk
       go_wp2_with fail
       go_ret
       exact ⟨rfl, bv⟩
    ·go_simp
     obtain ⟨Ws35, hWs35⟩ : ∃ W, Wdq17.alloc (.cells fq.v 33) = W := ⟨_, rfl⟩
     rw [hWs35]
     have As35 := Adq17.al hWs35
     have Xs35 := Xdq17.al hWs35
     have Ys35 := blk_nw hWs35
     have bs35 := bel_al bdq17 hWs35
     refine hK.out _ _ (by exact ⟨As35, Xs35⟩) (fun hHeld => ?_)
     clear hK K
     try simp only [qpu]
     refine wpAnyH_ready (rs := [1]) (by kernel_rfl) (by simp) ?_
     refine AllReadyH.cons (o := fxs12o15) rfl (fun K hK => ?_) AllReadyH.nil
     go_simp
     refine Calls.mono (allX tb mb s _ Xs35) ?_
     rintro e Wx36 ⟨aa, ca, rfl, OAx36, bb⟩
     have Ax36 := As35.kept bb
     have Xx36 := Xs35.kept bb
     have Yx36 := Ys35.kept bb
     have bx36 := bel_tr bs35 bb
     clear bb
     have OBx36 : OwnL Wx36 w.heap.size aa ca s.L := OAx36.base bs35.size
     have hxl := Xs35.lt
     have hAl := As35.lt
     have hft : ∀ k, aa.map (·.block) = some k → Ws35.heap.size ≤ k := fun k hk => by
      cases hq0 : aa with
      | none => rw [hq0] at hk; cases hk
      | some y => rw [hq0] at hk; cases hk; exact OAx36.lt y hq0
     refine hK.out _ _ (by exact ⟨Ax36, Xx36⟩) (fun hHeld => ?_)
     clear hK K
     try simp only [qpu]
     refine wpAnyH_ready (rs := [5]) (by kernel_rfl) (by simp) ?_
     refine AllReadyH.cons (o := fxs12o11) rfl (fun K hK => ?_) AllReadyH.nil
     have hll : s.L.length + 1 ≤ 1000000 := by
      have h8 := HOK.out.few
      have h9 := HOK.out.most
      omega
     obtain ⟨ga, ca2, Wp37, hrun, Op37, gr, bl⟩ := run_appL1 Wx36 53 w.heap.size aa ca s.L OBx36 Wdq17.heap.size 1 _ fq Yx36 hll bx36.size
     refine step_rnL rfl _ _ _ rfl _ _ (by rfl) (by rfl) _ _ hrun ?_
     have bg : But (fun k => aa.map (·.block) = some k) Wx36 Wp37 := (But.refl _ _).grown gr (fun n hn => .inl hn)
     have Xp37 := Xx36.but bg (fun e => by have := hft _ e; omega) (fun e => by have := hft _ e; omega)
     have Ap37 := Ax36.but bg (fun e => by have := hft _ e; omega)
     have bp37 := bx36.trans bl
     clear hrun gr bl bg
     refine hK.out _ _ (by exact ⟨Ap37, Xp37⟩) (fun hHeld => ?_)
     clear hK K
     try simp only [qpu]
     refine qtk (i := 6) (oi := fxs12o17) (v := (.int .i64 (s.L.length + 1))) hHeld ?_ ?_
     ·intro w9 hSw
      try dsimp only at hSw
      go_simp
     try simp only [qpu]
     refine wpAnyH_done (by kernel_rfl) ?_ _
     refine NoPanic.normal ?_
     go_wp2_with fail
     have HRW : Hid (RowL Wp37 (some ⟨ga, 0, none⟩) (s.L ++ [fq])) := Op37.row (fun _ _ => trivial)
     have HKF : Hid (∀ x ∈ s.L ++ [fq], x.w.kf) := fun x hx => by
      rcases List.mem_append.1 hx with h | h
      ·exact (HOK.out.each x h).2.2
      ·rw [List.mem_singleton.1 h]; exact hfk.out
     obtain ⟨M, hM⟩ : ∃ M, s.L.length + 1 = M := ⟨_, rfl⟩
     have hM1 : M = (s.L ++ [fq]).length := by rw [← hM]; simp
     have HM : Hid (M = (s.L ++ [fq]).length) := hM1
     have hMi : (s.L.length : Int) + 1 = (M : Int) := by omega
     have hM0 : M ≤ 1000000 := by omega
     have Qp37 : But (fun _ => False) Wp37 Wp37 := But.refl _ _
     try rw [hM]
     try rw [hMi]
     clear hM hMi hM1
     go_loopw [61] (fun i wr => ∃ k : Nat, k ≤ M ∧ i = .int .i64 k ∧ TabX wr tb mb s ∧ But (fun _ => False) Wp37 wr ∧ Below w.heap.size w wr) (fun i _ => M - (intOf i).toNat)
     case atStart => exact ⟨0, Nat.zero_le _, rfl, Xp37, Qp37, bp37⟩
     case round =>
      obtain ⟨k, hk, rfl, Xv, Qv, bv⟩ := hrel
      obtain ⟨Wv, rfl⟩ : ∃ W, W = wr := ⟨_, rfl⟩
      have in0k : (0 : Int) ≤ (k : Int) := by omega
      by_cases hltk : k < M
      ·have ikk : (k : Int) < (M : Int) := by omega
       have ikk' : decide ((k : Int) < (M : Int)) = true := by simpa using ikk
       obtain ⟨x, hx⟩ : ∃ x, (s.L ++ [fq])[k]? = some x := ⟨_, List.getElem?_eq_getElem (by rw [← HM.out]; exact hltk)⟩
       have hxk : x.w.kf := HKF.out x (List.mem_of_getElem? hx)
       obtain ⟨p2, off2, e2, hcells2⟩ := HRW.out.cells k x hx
       cases e2
       have hcb := hcells2.below (Qv.to_below (Nat.le_refl _) (fun _ _ x => x))
       have hsd : (Ft.find s x.w).2.2 = true → ((Ft.find s x.w).2.1 == (Ft.find s x.w.rev).2.1) = true → Wy.eqB x.w x.w.rev = true := fun a b => side_eq HOK.out a b
       have Hsd : Hid _ := hsd
       clear hcells2 hsd
       obtain ⟨Wm38, hWm38⟩ : ∃ W, Wv.alloc (.cells #[.int .i64 0, .int .i64 0, .int .i64 0, .int .u64 0, .int .u64 0, .int .i64 0, .int .u64 0, .int .u64 0, .int .i64 0, .int .i64 0, .int .i64 0, .int .u32 0, .int .u32 0, .int .u32 0, .int .u32 0, .bool false, .bool false, .bool false, .bool false, .int .i64 0, .int .i64 0, .bool false] 33) = W := ⟨_, rfl⟩
       have bm38 := bel_al bv hWm38
       have Xm38 := Xv.al hWm38
       have Qm38 := Qv.al hWm38
       have Am38 := blk_nw hWm38
       have gA : w.heap.size ≤ Wv.heap.size := bv.size
       have nXA : tb ≠ Wv.heap.size ∧ mb ≠ Wv.heap.size := by have := Xv.lt; omega
       have nQA : (fun _ => False) Wv.heap.size ∨ Wp37.heap.size ≤ Wv.heap.size := .inr Qv.size
       obtain ⟨Wm39, hWm39⟩ : ∃ W, Wm38.setRow Wv.heap.size x.v = W := ⟨_, rfl⟩
       have Am39 : Blk Wm39 Wv.heap.size 33 x.v := hWm39 ▸ Am38.set x.v
       have Xm39 := hWm39 ▸ Xm38.other nXA x.v
       have Qm39 := hWm39 ▸ Qm38.other nQA x.v
       have bm39 := hWm39 ▸ below_setRow bm38 gA x.v
       go_wp2_with (first | (refine wpList_load_at_w (by rfl) _ _ rfl ga (0 + k * 22) (by first | rfl | (rw [Nat.zero_add]; rfl)) _ hcb Try.underlying33 (by kernel_rfl) ?_) | (refine wpList_store_row rfl _ _ _ rfl Wv.heap.size x.v (by rfl) (by rfl) _ _ Am38 (by kernel_rfl) (by rfl) (by kernel_rfl) ?_; rw [hWm39]) | (refine wpList_load_sub_w (by rfl) _ _ rfl Wv.heap.size 0 _ (by rfl) _ x.w.v Am39 (by rfl) Try.underlying26 (by kernel_rfl) ?_))
       refine Calls.mono (findX tb mb s x.w _ Xm39 hxk) ?_
       rintro e Wm40 ⟨rfl, bb⟩
       have Xm40 := Xm39.kept bb
       have Qm40 := Qm39.kept bb
       have Am40 := Am39.kept bb
       have bm40 := bel_tr bm39 bb
       clear bb
       clear Xm39 Qm39 Am39 bm39
       obtain ⟨Wm41, hWm41⟩ : ∃ W, Wm40.alloc (.cells #[.int .i64 0, .int .i64 0, .int .i64 0, .int .u64 0, .int .u64 0, .int .i64 0, .int .u64 0, .int .u64 0, .int .i64 0, .int .i64 0, .int .i64 0, .int .u32 0, .int .u32 0, .int .u32 0, .int .u32 0, .bool false, .bool false, .bool false, .bool false, .int .i64 0, .int .i64 0, .bool false] 33) = W := ⟨_, rfl⟩
       have bm41 := bel_al bm40 hWm41
       have Xm41 := Xm40.al hWm41
       have Qm41 := Qm40.al hWm41
       have Am41 := Am40.al hWm41
       have Bm41 := blk_nw hWm41
       have gB : w.heap.size ≤ Wm40.heap.size := bm40.size
       have nXB : tb ≠ Wm40.heap.size ∧ mb ≠ Wm40.heap.size := by have := Xm40.lt; omega
       have nQB : (fun _ => False) Wm40.heap.size ∨ Wp37.heap.size ≤ Wm40.heap.size := .inr Qm40.size
       have nAB : Wv.heap.size ≠ Wm40.heap.size := by have := Am40.lt; omega
       have nBA : Wm40.heap.size ≠ Wv.heap.size := fun e => nAB e.symm
       obtain ⟨Wm42, hWm42⟩ : ∃ W, Wm41.setRow Wm40.heap.size (Ft.find s x.w).1.v = W := ⟨_, rfl⟩
       have Bm42 : Blk Wm42 Wm40.heap.size 33 (Ft.find s x.w).1.v := hWm42 ▸ Bm41.set (Ft.find s x.w).1.v
       have Xm42 := hWm42 ▸ Xm41.other nXB (Ft.find s x.w).1.v
       have Qm42 := hWm42 ▸ Qm41.other nQB (Ft.find s x.w).1.v
       have Am42 := hWm42 ▸ Am41.other nAB (Ft.find s x.w).1.v
       have bm42 := hWm42 ▸ below_setRow bm41 gB (Ft.find s x.w).1.v
       go_wp2_with (first | (refine wpList_store_row rfl _ _ _ rfl Wm40.heap.size (Ft.find s x.w).1.v (by rfl) (by rfl) _ _ Bm41 (by kernel_rfl) (by rfl) (by kernel_rfl) ?_; rw [hWm42]) | (refine wpList_load_sub_w (by rfl) _ _ rfl Wv.heap.size 0 _ (by rfl) _ x.w.v Am42 (by rfl) Try.underlying26 (by kernel_rfl) ?_))
       refine Calls.mono (rrev_t x.w _) ?_
       rintro e Wm43 ⟨rfl, bb⟩
       have Xm43 := Xm42.kept bb
       have Qm43 := Qm42.kept bb
       have Am43 := Am42.kept bb
       have Bm43 := Bm42.kept bb
       have bm43 := bel_tr bm42 bb
       clear bb
       clear Xm42 Qm42 Am42 Bm42 bm42
       go_wp2_with fail
       refine Calls.mono (findXr tb mb s x.w _ Xm43 hxk) ?_
       rintro e Wm44 ⟨rfl, bb⟩
       have Xm44 := Xm43.kept bb
       have Qm44 := Qm43.kept bb
       have Am44 := Am43.kept bb
       have Bm44 := Bm43.kept bb
       have bm44 := bel_tr bm43 bb
       clear bb
       clear Xm43 Qm43 Am43 Bm43 bm43
       obtain ⟨Wm45, hWm45⟩ : ∃ W, Wm44.alloc (.cells #[.int .i64 0, .int .i64 0, .int .i64 0, .int .u64 0, .int .u64 0, .int .i64 0, .int .u64 0, .int .u64 0, .int .i64 0, .int .i64 0, .int .i64 0, .int .u32 0, .int .u32 0, .int .u32 0, .int .u32 0, .bool false, .bool false, .bool false, .bool false, .int .i64 0, .int .i64 0, .bool false] 33) = W := ⟨_, rfl⟩
       have bm45 := bel_al bm44 hWm45
       have Xm45 := Xm44.al hWm45
       have Qm45 := Qm44.al hWm45
       have Am45 := Am44.al hWm45
       have Bm45 := Bm44.al hWm45
       have Cm45 := blk_nw hWm45
       have gC : w.heap.size ≤ Wm44.heap.size := bm44.size
       have nXC : tb ≠ Wm44.heap.size ∧ mb ≠ Wm44.heap.size := by have := Xm44.lt; omega
       have nQC : (fun _ => False) Wm44.heap.size ∨ Wp37.heap.size ≤ Wm44.heap.size := .inr Qm44.size
       have nAC : Wv.heap.size ≠ Wm44.heap.size := by have := Am44.lt; omega
       have nCA : Wm44.heap.size ≠ Wv.heap.size := fun e => nAC e.symm
       have nBC : Wm40.heap.size ≠ Wm44.heap.size := by have := Bm44.lt; omega
       have nCB : Wm44.heap.size ≠ Wm40.heap.size := fun e => nBC e.symm
       obtain ⟨Wm46, hWm46⟩ : ∃ W, Wm45.setRow Wm44.heap.size (Ft.find s x.w).1.v = W := ⟨_, rfl⟩
       have Cm46 : Blk Wm46 Wm44.heap.size 33 (Ft.find s x.w).1.v := hWm46 ▸ Cm45.set (Ft.find s x.w).1.v
       have Xm46 := hWm46 ▸ Xm45.other nXC (Ft.find s x.w).1.v
       have Qm46 := hWm46 ▸ Qm45.other nQC (Ft.find s x.w).1.v
       have Am46 := hWm46 ▸ Am45.other nAC (Ft.find s x.w).1.v
       have Bm46 := hWm46 ▸ Bm45.other nBC (Ft.find s x.w).1.v
       have bm46 := hWm46 ▸ below_setRow bm45 gC (Ft.find s x.w).1.v
       go_wp2_with (refine wpList_store_row rfl _ _ _ rfl Wm44.heap.size (Ft.find s x.w).1.v (by rfl) (by rfl) _ _ Cm45 (by kernel_rfl) (by rfl) (by kernel_rfl) ?_; rw [hWm46])
       obtain ⟨Wdq47, hWdq47⟩ : ∃ W, Wm46.drew = W := ⟨_, rfl⟩
       have Xdq47 := hWdq47 ▸ Xm46.drew
       have Qdq47 := hWdq47 ▸ Qm46.drew
       have Adq47 := hWdq47 ▸ Am46.drew
       have Bdq47 := hWdq47 ▸ Bm46.drew
       have Cdq47 := hWdq47 ▸ Cm46.drew
       have bdq47 := hWdq47 ▸ bm46.drew
       refine wp_region_noPanic ?_
       refine wp_region_held_drew (S := fun w' => TabX w' tb mb s ∧ But (fun _ => False) Wp37 w' ∧ Blk w' Wv.heap.size 33 x.v ∧ Blk w' Wm40.heap.size 33 (Ft.find s x.w).1.v ∧ Blk w' Wm44.heap.size 33 (Ft.find s x.w).1.v) (by kernel_rfl) (by rw [hWdq47]; exact ⟨Xdq47, Qdq47, Adq47, Bdq47, Cdq47⟩) (fun hHeld => ?_)
       rw [hWdq47] at hHeld ⊢
       refine qtk (i := 0) (oi := fxs12o26) (v := (.bool (Ft.find s x.w).2.2)) hHeld ?_ ?_
       ·intro w9 hSw
        try dsimp only at hSw
        go_simp
       try simp only [qpu]
       refine qtk (i := 1) (oi := fxs12o27) (v := (.bool (Ft.find s x.w).2.2)) hHeld ?_ ?_
       ·intro w9 hSw
        try dsimp only at hSw
        go_simp
       try simp only [qpu]
       refine qtk (i := 2) (oi := fxs12o18) (v := (.bool false)) hHeld ?_ ?_
       ·intro w9 hSw
        try dsimp only at hSw
        go_simp
       try simp only [qpu]
       refine qtk (i := 3) (oi := fxs12o25) (v := (.bool false)) hHeld ?_ ?_
       ·intro w9 hSw
        try dsimp only at hSw
        go_simp
       try simp only [qpu]
       refine qty (i := 4) (oi := fxs12o22) (v := (.agg (Ft.find s x.w).1.v)) (yieldsIf_blk_w (by kernel_rfl) _ _ rfl Wm40.heap.size (by rfl) _ (fun _ hSw => hSw.2.2.2.1) Try.underlying33 (by kernel_rfl)) hHeld ?_
       try simp only [qpu]
       refine qty (i := 5) (oi := fxs12o23) (v := (.agg (Ft.find s x.w).1.v)) (yieldsIf_blk_w (by kernel_rfl) _ _ rfl Wm44.heap.size (by rfl) _ (fun _ hSw => hSw.2.2.2.2) Try.underlying33 (by kernel_rfl)) hHeld ?_
       try simp only [qpu]
       refine qtk (i := 6) (oi := fxs12o14) (v := (.bool false)) hHeld ?_ ?_
       ·intro w9 hSw
        try dsimp only at hSw
        have hcc := neq_fl (Ft.find s x.w).1
        go_simp
       try simp only [qpu]
       refine qtk (i := 7) (oi := fxs12o19) (v := (.bool false)) hHeld ?_ ?_
       ·intro w9 hSw
        try dsimp only at hSw
        go_simp
       try simp only [qpu]
       refine qtk (i := 8) (oi := fxs12o20) (v := (.bool false)) hHeld ?_ ?_
       ·intro w9 hSw
        try dsimp only at hSw
        go_simp
       try simp only [qpu]
       refine qtk (i := 9) (oi := fxs12o24) (v := (.bool (Ft.find s x.w).2.2)) hHeld ?_ ?_
       ·intro w9 hSw
        try dsimp only at hSw
        go_simp
       try simp only [qpu]
       refine qtk (i := 10) (oi := fxs12o16) (v := (.bool (Ft.find s x.w).2.2)) hHeld ?_ ?_
       ·intro w9 hSw
        try dsimp only at hSw
        go_simp
       try simp only [qpu]
       cases hq48 : (Ft.find s x.w).2.2 with
       | false =>
        refine qtn (i := 11) (oi := fxs12o12) hHeld ?_
        try simp only [qpu]
        refine qtn (i := 12) (oi := fxs12o13) hHeld ?_
        try simp only [qpu]
        refine qtn (i := 13) (oi := fxs12o6) hHeld ?_
        try simp only [qpu]
        refine qtk (i := 14) (oi := fxs12o7) (v := (.bool false)) hHeld ?_ ?_
        ·intro w9 hSw
         try dsimp only at hSw
         go_simp
        try simp only [qpu]
        refine qtk (i := 15) (oi := fxs12o10) (v := (.bool false)) hHeld ?_ ?_
        ·intro w9 hSw
         try dsimp only at hSw
         go_simp
        try simp only [qpu]
        refine qtn (i := 16) (oi := fxs12o9) hHeld ?_
        try simp only [qpu]
        refine qtn (i := 17) (oi := fxs12o5) hHeld ?_
        try simp only [qpu]
        refine qtn (i := 18) (oi := fxs12o8) hHeld ?_
        try simp only [qpu]
        refine qtn (i := 19) (oi := fxs12o3) hHeld ?_
        try simp only [qpu]
        refine qtn (i := 20) (oi := fxs12o0) hHeld ?_
        try simp only [qpu]
        refine qtn (i := 21) (oi := fxs12o1) hHeld ?_
        try simp only [qpu]
        refine qtk (i := 22) (oi := fxs12o2) (v := (.bool false)) hHeld ?_ ?_
        ·intro w9 hSw
         try dsimp only at hSw
         go_simp
        try simp only [qpu]
        refine qtk (i := 23) (oi := fxs12o4) (v := (.bool false)) hHeld ?_ ?_
        ·intro w9 hSw
         try dsimp only at hSw
         go_simp
        try simp only [qpu]
        refine wpAnyH_done (by kernel_rfl) ?_ _
        refine NoPanic.normal ?_
        go_wp2_with fail
        exact ⟨⟨k + 1, by omega, by go_num, Xdq47, Qdq47, bdq47⟩, by simp [intOf]; omega⟩
       | true =>
        refine qtk (i := 11) (oi := fxs12o12) (v := (.int .i64 (Ft.find s x.w).2.1)) hHeld ?_ ?_
        ·intro w9 hSw
         try dsimp only at hSw
         go_simp
        try simp only [qpu]
        refine qtk (i := 12) (oi := fxs12o13) (v := (.int .i64 (Ft.find s x.w.rev).2.1)) hHeld ?_ ?_
        ·intro w9 hSw
         try dsimp only at hSw
         go_simp
        try simp only [qpu]
        refine qtk (i := 13) (oi := fxs12o6) (v := (.bool ((Ft.find s x.w).2.1 == (Ft.find s x.w.rev).2.1))) hHeld ?_ ?_
        ·intro w9 hSw
         try dsimp only at hSw
         go_simp
        try simp only [qpu]
        refine qtk (i := 14) (oi := fxs12o7) (v := (.bool ((Ft.find s x.w).2.1 == (Ft.find s x.w.rev).2.1))) hHeld ?_ ?_
        ·intro w9 hSw
         try dsimp only at hSw
         go_simp
        try simp only [qpu]
        refine qtk (i := 15) (oi := fxs12o10) (v := (.bool ((Ft.find s x.w).2.1 == (Ft.find s x.w.rev).2.1))) hHeld ?_ ?_
        ·intro w9 hSw
         try dsimp only at hSw
         go_simp
        try simp only [qpu]
        cases hq49 : ((Ft.find s x.w).2.1 == (Ft.find s x.w.rev).2.1) with
        | false =>
         refine qtn (i := 16) (oi := fxs12o9) hHeld ?_
         try simp only [qpu]
         refine qtn (i := 17) (oi := fxs12o5) hHeld ?_
         try simp only [qpu]
         refine qtn (i := 18) (oi := fxs12o8) hHeld ?_
         try simp only [qpu]
         refine qtn (i := 19) (oi := fxs12o3) hHeld ?_
         try simp only [qpu]
         refine qtn (i := 20) (oi := fxs12o0) hHeld ?_
         try simp only [qpu]
         refine qtn (i := 21) (oi := fxs12o1) hHeld ?_
         try simp only [qpu]
         refine qtk (i := 22) (oi := fxs12o2) (v := (.bool false)) hHeld ?_ ?_
         ·intro w9 hSw
          try dsimp only at hSw
          go_simp
         try simp only [qpu]
         refine qtk (i := 23) (oi := fxs12o4) (v := (.bool false)) hHeld ?_ ?_
         ·intro w9 hSw
          try dsimp only at hSw
          go_simp
         try simp only [qpu]
         refine wpAnyH_done (by kernel_rfl) ?_ _
         refine NoPanic.normal ?_
         go_wp2_with fail
         exact ⟨⟨k + 1, by omega, by go_num, Xdq47, Qdq47, bdq47⟩, by simp [intOf]; omega⟩
        | true =>
         refine qtk (i := 16) (oi := fxs12o9) (v := (.pointer (some ⟨Wv.heap.size, 0, none⟩))) hHeld ?_ ?_
         ·intro w9 hSw
          try dsimp only at hSw
          go_simp
         try simp only [qpu]
         refine qty (i := 17) (oi := fxs12o5) (v := (.agg x.w.v)) (yieldsIf_sub_w (by kernel_rfl) _ _ rfl Wv.heap.size 0 _ (by rfl) _ x.w.v (fun _ hSw => hSw.2.2.1) (by rfl) Try.underlying26 (by kernel_rfl)) hHeld ?_
         try simp only [qpu]
         refine qtk (i := 18) (oi := fxs12o8) (v := (.pointer (some ⟨Wv.heap.size, 0, none⟩))) hHeld ?_ ?_
         ·intro w9 hSw
          try dsimp only at hSw
          go_simp
         try simp only [qpu]
         refine qty (i := 19) (oi := fxs12o3) (v := (.agg x.w.v)) (yieldsIf_sub_w (by kernel_rfl) _ _ rfl Wv.heap.size 0 _ (by rfl) _ x.w.v (fun _ hSw => hSw.2.2.1) (by rfl) Try.underlying26 (by kernel_rfl)) hHeld ?_
         try simp only [qpu]
         refine wpAnyH_ready (rs := [20]) (by kernel_rfl) (by simp) ?_
         refine AllReadyH.cons (o := fxs12o0) rfl (fun K hK => ?_) AllReadyH.nil
         go_simp
         refine Calls.mono (rrev_t x.w _) ?_
         rintro e Wx50 ⟨rfl, bb⟩
         have Xx50 := Xdq47.kept bb
         have Qx50 := Qdq47.kept bb
         have Ax50 := Adq47.kept bb
         have Bx50 := Bdq47.kept bb
         have Cx50 := Cdq47.kept bb
         have bx50 := bel_tr bdq47 bb
         clear bb
         refine hK.out _ _ (by exact ⟨Xx50, Qx50, Ax50, Bx50, Cx50⟩) (fun hHeld => ?_)
         clear hK K
         try simp only [qpu]
         refine qtk (i := 21) (oi := fxs12o1) (v := (.bool (!(Wy.eqB x.w (x.w.rev))))) hHeld ?_ ?_
         ·intro w9 hSw
          try dsimp only at hSw
          have hcc := neq_way x.w (x.w.rev)
          go_simp
         try simp only [qpu]
         refine qtk (i := 22) (oi := fxs12o2) (v := (.bool (!(Wy.eqB x.w (x.w.rev))))) hHeld ?_ ?_
         ·intro w9 hSw
          try dsimp only at hSw
          go_simp
         try simp only [qpu]
         refine qtk (i := 23) (oi := fxs12o4) (v := (.bool (!(Wy.eqB x.w (x.w.rev))))) hHeld ?_ ?_
         ·intro w9 hSw
          try dsimp only at hSw
          go_simp
         try simp only [qpu]
         refine wpAnyH_done (by kernel_rfl) ?_ _
         refine NoPanic.normal ?_
         cases hq51 : (Wy.eqB x.w (x.w.rev)) with
         | false =>
          go_wp2_with fail
          exact absurd (Hsd.out (by assumption) (by assumption)) (by simpa using (by assumption : Wy.eqB x.w x.w.rev = false))
         | true =>
          go_wp2_with fail
          exact ⟨⟨k + 1, by omega, by go_num, Xx50, Qx50, bx50⟩, by simp [intOf]; omega⟩
      ·have ikk : ¬ (k : Int) < (M : Int) := by omega
       have ikk' : decide ((k : Int) < (M : Int)) = false := by simpa using ikk
       go_wp2_with fail
       go_ret
       exact ⟨rfl, bv⟩
 ·go_enter Try.func6, Try.ntmps6
  obtain ⟨Wm52, hWm52⟩ : ∃ W, w.alloc (.cells q.v 26) = W := ⟨_, rfl⟩
  have bm52 := bel_al b hWm52
  have Am52 := blk_nw hWm52
  have gA : w.heap.size ≤ w.heap.size := b.size
  go_wp2_with fail
  refine Calls.mono (new_n_fw m hc _) ?_
  rintro e Wm53 ⟨rfl, bb⟩
  have Am53 := Am52.kept bb
  have bm53 := bel_tr bm52 bb
  clear bb
  clear Am52 bm52
  go_wp2_with fail
  refine Calls.mono (alive_fw _) ?_
  rintro e Wm54 ⟨rfl, bb⟩
  have Am54 := Am53.kept bb
  have bm54 := bel_tr bm53 bb
  clear bb
  clear Am53 bm53
  go_wp2_with fail
  go_ret
  exact ⟨rfl, bm54⟩
end Go.Proofs.Ytfiembbmgdmagaa
