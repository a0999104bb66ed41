/- For every input the law ExpectApart returns true and leaves its arguments as they were. -/
import Derived.Test.YtmflogmocgbmhaaXpa39
import Derived.Test.YtmflogmocgbmhaaRows
import Derived.WalkKit
import Derived.ProofKit
import Derived.OpenShut
import Derived.ShutString
import Derived.ChangeOld
import Derived.Below
import Derived.SizedLaws
namespace Go.Proofs.Ytmflogmocgbmhaa
open Go.RowKit
set_option linter.unusedVariables false
set_option linter.unusedSimpArgs false
set_option maxRecDepth 100000 in
set_option maxHeartbeats 16000000 in
theorem expectApart_walk (la : Option Addr) (lc : Nat) (l : List Wt) (la2 : Option Addr) (lc2 : Nat) (l2 : List Wt) (x : Wy) (w : World) (hlc : l.length ≤ lc) (hcm : lc * 176 ≤ 140737488351232 ∧ (la = none → lc = 0)) (hrow : RowN 22 Wt.v (fun _ q => q.ok) w la l) (hlc2 : l2.length ≤ lc2) (hcm2 : lc2 * 176 ≤ 140737488351232 ∧ (la2 = none → lc2 = 0)) (hrow2 : RowN 22 Wt.v (fun _ q => q.ok) w la2 l2) (hokx : x.ok) :
    Calls Try.prog 7 #[.slice la l.length lc, .slice la2 l2.length lc2, .agg x.v] w fun e w' => e = .returned (.bool true) ∧ Below w.heap.size w w' := by
  have HRow : Hid (RowN 22 Wt.v (fun _ q => q.ok) w la l) := hrow
  have HRow2 : Hid (RowN 22 Wt.v (fun _ q => q.ok) w la2 l2) := hrow2
  obtain ⟨N, hN⟩ : ∃ N, l.length = N := ⟨_, rfl⟩
  have HN : Hid (l.length = N) := hN
  have hNl : N ≤ 140737488355328 := by omega
  obtain ⟨N2, hN2⟩ : ∃ N, l2.length = N := ⟨_, rfl⟩
  have HN2 : Hid (l2.length = N2) := hN2
  have hNl2 : N2 ≤ 140737488355328 := by omega
  have hwr : IntKind.i64.wrap ((N : Int) + (N2 : Int)) = (N : Int) + (N2 : Int) := by rw [IntKind.wrap_i64]; omega
  rw [hN, hN2]
  clear hN hrow hlc hcm hN2 hrow2 hlc2 hcm2
  have b := Below.refl w.heap.size w
  go_enter Try.func7, Try.ntmps7
  cases hq2 : (decide (200 < ((N : Int) + (N2 : Int)))) with
  | false =>
    obtain ⟨Wm3, hWm3⟩ : ∃ W, w.alloc (.cells x.v 26) = W := ⟨_, rfl⟩
    have bm3 := bel_al b hWm3
    have Am3 := blk_nw hWm3
    have gA : w.heap.size ≤ w.heap.size := b.size
    go_wp2_with fail
    refine Calls.mono (alive_xp _) ?_
    rintro e Wm4 ⟨rfl, bb⟩
    have Am4 := Am3.kept bb
    have bm4 := bel_tr bm3 bb
    clear bb
    clear Am3 bm3
    go_wp2_with fail
    refine Calls.mono (newX 256 256 (by decide) (by decide) _) ?_
    rintro e Wm5 ⟨tb, rfl, Xm5, gtb, bb⟩
    have Am5 := Am4.kept bb
    have bm5 := bel_tr bm4 bb
    clear bb
    have gwb : w.heap.size ≤ tb := Nat.le_trans bm4.size gtb
    have gwm := gwb
    have nXA : tb ≠ w.heap.size ∧ tb ≠ w.heap.size := by have := Am4.lt; omega
    clear Am4 bm4
    go_wp2_with fail
    refine Calls.mono (newX 256 256 (by decide) (by decide) _) ?_
    rintro e Wm6 ⟨ub, rfl, Vm6, gtu, bb⟩
    have Am6 := Am5.kept bb
    have Xm6 := Xm5.kept bb
    have bm6 := bel_tr bm5 bb
    clear bb
    have gub : w.heap.size ≤ ub := Nat.le_trans bm5.size gtu
    have gum := gub
    have nXV : ((tb ≠ ub ∧ tb ≠ ub) ∧ (tb ≠ ub ∧ tb ≠ ub)) := by have := Xm5.lt; omega
    have nVA : ub ≠ w.heap.size ∧ ub ≠ w.heap.size := by have := Am5.lt; omega
    clear Am5 Xm5 bm5
    go_wp2_with fail
    have gUM : Hid (w.heap.size ≤ ub) := gub
    go_loopw [54] (fun i wr => ∃ (j : Nat) (s : Xt) (lb : Nat), j ≤ N2 ∧ i = .int .i64 j ∧ Hid (Oth s j) ∧ w.heap.size ≤ lb ∧ ((tb ≠ ub ∧ lb ≠ ub) ∧ (tb ≠ ub ∧ lb ≠ ub)) ∧ Blk wr w.heap.size 26 x.v ∧ ((tb ≠ w.heap.size ∧ lb ≠ w.heap.size) ∧ (ub ≠ w.heap.size ∧ ub ≠ w.heap.size)) ∧ TabX wr tb lb s ∧ TabX wr ub ub ⟨256, 256, 0, []⟩ ∧ Below w.heap.size w wr) (fun i _ => N2 - (intOf i).toNat)
    case atStart => exact ⟨0, ⟨256, 256, 0, []⟩, tb, Nat.zero_le _, rfl, oth_new, gwb, nXV, Am6, ⟨nXA, nVA⟩, Xm6, Vm6, bm6⟩
    case round =>
      obtain ⟨j, s, lb, hj, rfl, HO, gwm, nXV, Ar, nAA, Xr, Vr, br⟩ := hrel
      obtain ⟨Wr, rfl⟩ : ∃ W, W = wr := ⟨_, rfl⟩
      have nXA := nAA.1
      have nVA := nAA.2
      have in0 : (0 : Int) ≤ (j : Int) := by omega
      by_cases hlt : j < N2
      · have ik : (j : Int) < (N2 : Int) := by omega
        have ik' : decide ((j : Int) < (N2 : Int)) = true := by simpa using ik
        obtain ⟨f, hq⟩ : ∃ q, l2[j]? = some q := ⟨_, List.getElem?_eq_getElem (by rw [HN2.out]; exact hlt)⟩
        have hok : f.ok := HRow2.out.each f (List.mem_of_getElem? hq)
        obtain ⟨p, off, rfl, hcells⟩ := HRow2.out.cells j f hq
        have hca := hcells.below br
        clear hcells
        obtain ⟨Wm7, hWm7⟩ : ∃ W, Wr.alloc (.cells #[.int .i64 0, .int .i64 0, .int .i64 0, .int .u64 0, .int .u64 0, .int .i64 0, .int .u64 0, .int .u64 0, .int .i64 0, .int .i64 0, .int .i64 0, .int .i64 0, .int .i64 0, .int .u64 0, .int .u64 0, .int .i64 0, .int .u64 0, .int .u64 0, .int .i64 0, .int .i64 0, .int .i64 0, .int .i64 0] 28) = W := ⟨_, rfl⟩
        have bm7 := bel_al br hWm7
        have Am7 := Ar.al hWm7
        have Xm7 := Xr.al hWm7
        have Vm7 := Vr.al hWm7
        have Bm7 := blk_nw hWm7
        have gB : w.heap.size ≤ Wr.heap.size := br.size
        have nAB : w.heap.size ≠ Wr.heap.size := by have := Ar.lt; omega
        have nBA : Wr.heap.size ≠ w.heap.size := fun e => nAB e.symm
        have nXB : tb ≠ Wr.heap.size ∧ lb ≠ Wr.heap.size := by have := Xr.lt; omega
        have nVB : ub ≠ Wr.heap.size ∧ ub ≠ Wr.heap.size := by have := Vr.lt; omega
        obtain ⟨Wm8, hWm8⟩ : ∃ W, Wm7.setRow Wr.heap.size f.v = W := ⟨_, rfl⟩
        have Bm8 : Blk Wm8 Wr.heap.size 28 f.v := hWm8 ▸ Bm7.set f.v
        have Am8 := hWm8 ▸ Am7.other nAB f.v
        have Xm8 := hWm8 ▸ Xm7.other nXB f.v
        have Vm8 := hWm8 ▸ Vm7.other nVB f.v
        have bm8 := hWm8 ▸ below_setRow bm7 gB f.v
        go_wp2_with (first | (refine wpList_load_at_w (by rfl) _ _ rfl p (off + j * 22) (by rfl) _ hca Try.underlying28 (by kernel_rfl) ?_) | (refine wpList_store_row rfl _ _ _ rfl Wr.heap.size f.v (by rfl) (by rfl) _ _ Bm7 (by kernel_rfl) (by rfl) (by kernel_rfl) ?_; rw [hWm8]))
        refine Calls.mono (way_xp 21 1 _) ?_
        rintro e Wm9 ⟨rfl, bb⟩
        have Am9 := Am8.kept bb
        have Xm9 := Xm8.kept bb
        have Vm9 := Vm8.kept bb
        have Bm9 := Bm8.kept bb
        have bm9 := bel_tr bm8 bb
        clear bb
        clear Am8 Xm8 Vm8 Bm8 bm8
        obtain ⟨Wm10, hWm10⟩ : ∃ W, Wm9.setRow Wr.heap.size (Wt.v ⟨f.w, (wayW 21 1), f.ends, f.help⟩) = W := ⟨_, rfl⟩
        have Bm10 : Blk Wm10 Wr.heap.size 28 (Wt.v ⟨f.w, (wayW 21 1), f.ends, f.help⟩) := hWm10 ▸ Bm9.set (Wt.v ⟨f.w, (wayW 21 1), f.ends, f.help⟩)
        have Am10 := hWm10 ▸ Am9.other nAB (Wt.v ⟨f.w, (wayW 21 1), f.ends, f.help⟩)
        have Xm10 := hWm10 ▸ Xm9.other nXB (Wt.v ⟨f.w, (wayW 21 1), f.ends, f.help⟩)
        have Vm10 := hWm10 ▸ Vm9.other nVB (Wt.v ⟨f.w, (wayW 21 1), f.ends, f.help⟩)
        have bm10 := hWm10 ▸ below_setRow bm9 gB (Wt.v ⟨f.w, (wayW 21 1), f.ends, f.help⟩)
        have y12 := Bm10.cell 9 (.int .i64 f.w.dp) rfl
        have z13 := Bm10.frozen 9
        obtain ⟨Wm11, hWm11⟩ : ∃ W, Wm10.setCell ⟨Wr.heap.size, 9, none⟩ (.int .i64 7) = W := ⟨_, rfl⟩
        have Bm11 : Blk Wm11 Wr.heap.size 28 (Wt.v ⟨⟨f.w.fam, f.w.pr, f.w.s, f.w.d, f.w.sp, 7⟩, (wayW 21 1), f.ends, f.help⟩) := hWm11 ▸ Bm10.put 9 (.int .i64 7)
        have Am11 := hWm11 ▸ Am10.put_other Bm10 nAB 9 (.int .i64 7)
        have Xm11 := hWm11 ▸ Xm10.put_other Bm10 nXB 9 (.int .i64 7)
        have Vm11 := hWm11 ▸ Vm10.put_other Bm10 nVB 9 (.int .i64 7)
        have bm11 := hWm11 ▸ bm10.setCell (p := ⟨Wr.heap.size, 9, none⟩) gB (.int .i64 7)
        go_wp2_with (first | (refine wpList_store_off rfl _ _ _ rfl Wr.heap.size 10 _ (wayW 21 1).v _ (Wt.v ⟨f.w, (wayW 21 1), f.ends, f.help⟩) (by rfl) (by rfl) Bm9 (by kernel_rfl) (Nat.le_of_ble_eq_true (by kernel_rfl)) (by kernel_rfl) (setMas_xp f (wayW 21 1)) ?_; rw [hWm10]) | (refine wpList_load_blk_w (by rfl) _ _ rfl Wr.heap.size (by rfl) _ Bm11 Try.underlying28 (by kernel_rfl) ?_))
        clear y12 z13
        refine Calls.mono (addX tb lb s (⟨⟨f.w.fam, f.w.pr, f.w.s, f.w.d, f.w.sp, 7⟩, (wayW 21 1), f.ends, f.help⟩) _ Xm11 ⟨⟨hok.w.s, hok.w.d⟩, way_ok _ _⟩) ?_
        rintro e Wm14 ⟨lb14, rfl, Xm14, hlm14, bb⟩
        have gm0 := gwm
        have Am14 := Am11.but bb (by have := nXA; omega)
        have Vm14 := Vm11.but bb (by have := nXV; omega) (by have := nXV; omega)
        have Bm14 := Bm11.but bb (by have := nXB; omega)
        have nXV : ((tb ≠ ub ∧ lb14 ≠ ub) ∧ (tb ≠ ub ∧ lb14 ≠ ub)) := by have h9 := nXV; have h8 := Vm11.lt; rcases hlm14 with h | h <;> omega
        have nXA : tb ≠ w.heap.size ∧ lb14 ≠ w.heap.size := by have h8 := Am11.lt; have h9 := nXA; rcases hlm14 with h | h <;> omega
        have nXB : tb ≠ Wr.heap.size ∧ lb14 ≠ Wr.heap.size := by have h8 := Bm11.lt; have h9 := nXB; rcases hlm14 with h | h <;> omega
        have gwm : w.heap.size ≤ lb14 := by have h9 := bm11.size; have h8 := gm0; rcases hlm14 with h | h <;> omega
        have bm14 := bel_but bm11 bb gwb gm0
        clear bb
        clear Am11 Xm11 Vm11 Bm11 bm11
        go_wp2_with fail
        exact ⟨⟨j + 1, (Xt.add s (⟨⟨f.w.fam, f.w.pr, f.w.s, f.w.d, f.w.sp, 7⟩, (wayW 21 1), f.ends, f.help⟩)).1, lb14, by omega, by go_num, HO.out.add f, gwm, nXV, Am14, ⟨nXA, nVA⟩, Xm14, Vm14, bm14⟩, by simp [intOf]; omega⟩

      · have ik : ¬ (j : Int) < (N2 : Int) := by omega
        have ik' : decide ((j : Int) < (N2 : Int)) = false := by simpa using ik
        have hjN : j = N2 := by omega
        go_wp2_with fail
        obtain ⟨L0, hL0⟩ : ∃ L, s.L = L := ⟨_, rfl⟩
        have HT0 : Hid (Two s ⟨256, 256, 0, []⟩ L0 (N2 + 0)) := by rw [← hL0, ← hjN]; exact two_new HO.out
        clear hL0 HO
        have hj0 : j = N2 := hjN
        clear hjN
        go_loopw [68] (fun i wr => ∃ (j : Nat) (s u : Xt) (lb lu : Nat), j ≤ N ∧ i = .int .i64 j ∧ Hid (Two s u L0 (N2 + j)) ∧ w.heap.size ≤ lb ∧ w.heap.size ≤ lu ∧ ((tb ≠ ub ∧ lb ≠ ub) ∧ (tb ≠ lu ∧ lb ≠ lu)) ∧ Blk wr w.heap.size 26 x.v ∧ ((tb ≠ w.heap.size ∧ lb ≠ w.heap.size) ∧ (ub ≠ w.heap.size ∧ lu ≠ w.heap.size)) ∧ TabX wr tb lb s ∧ TabX wr ub lu u ∧ Below w.heap.size w wr) (fun i _ => N - (intOf i).toNat)
        case atStart => exact ⟨0, s, ⟨256, 256, 0, []⟩, lb, ub, Nat.zero_le _, rfl, HT0, gwm, gub, nXV, Ar, ⟨nXA, nVA⟩, Xr, Vr, br⟩
        case round =>
          clear hj HT0 gwm nXV nAA nXA nVA
          obtain ⟨j, s, u, lb, lu, hj, rfl, HTw, gwm, gum, nXV, Av, nAA, Xv, Vv, br⟩ := hrel
          obtain ⟨Wv, rfl⟩ : ∃ W, W = wr := ⟨_, rfl⟩
          have nXA := nAA.1
          have nVA := nAA.2
          have bv := br
          have in0 : (0 : Int) ≤ (j : Int) := by omega
          by_cases hlt : j < N
          · have ik : (j : Int) < (N : Int) := by omega
            have ik' : decide ((j : Int) < (N : Int)) = true := by simpa using ik
            obtain ⟨f, hq⟩ : ∃ q, l[j]? = some q := ⟨_, List.getElem?_eq_getElem (by rw [HN.out]; exact hlt)⟩
            have hok : f.ok := HRow.out.each f (List.mem_of_getElem? hq)
            obtain ⟨p, off, rfl, hcells⟩ := HRow.out.cells j f hq
            have hca := hcells.below br
            clear hcells
            have h200 : ¬ (200 : Int) < (N : Int) + (N2 : Int) := of_decide_eq_false (by assumption : decide ((200 : Int) < (N : Int) + (N2 : Int)) = false)
            have hsame := (HTw.out.add f (by omega)).1
            obtain ⟨Wm15, hWm15⟩ : ∃ W, Wv.alloc (.cells #[.int .i64 0, .int .i64 0, .int .i64 0, .int .u64 0, .int .u64 0, .int .i64 0, .int .u64 0, .int .u64 0, .int .i64 0, .int .i64 0, .int .i64 0, .int .i64 0, .int .i64 0, .int .u64 0, .int .u64 0, .int .i64 0, .int .u64 0, .int .u64 0, .int .i64 0, .int .i64 0, .int .i64 0, .int .i64 0] 28) = W := ⟨_, rfl⟩
            have bm15 := bel_al bv hWm15
            have Am15 := Av.al hWm15
            have Xm15 := Xv.al hWm15
            have Vm15 := Vv.al hWm15
            have Bm15 := blk_nw hWm15
            have gB : w.heap.size ≤ Wv.heap.size := bv.size
            have nAB : w.heap.size ≠ Wv.heap.size := by have := Av.lt; omega
            have nBA : Wv.heap.size ≠ w.heap.size := fun e => nAB e.symm
            have nXB : tb ≠ Wv.heap.size ∧ lb ≠ Wv.heap.size := by have := Xv.lt; omega
            have nVB : ub ≠ Wv.heap.size ∧ lu ≠ Wv.heap.size := by have := Vv.lt; omega
            obtain ⟨Wm16, hWm16⟩ : ∃ W, Wm15.setRow Wv.heap.size f.v = W := ⟨_, rfl⟩
            have Bm16 : Blk Wm16 Wv.heap.size 28 f.v := hWm16 ▸ Bm15.set f.v
            have Am16 := hWm16 ▸ Am15.other nAB f.v
            have Xm16 := hWm16 ▸ Xm15.other nXB f.v
            have Vm16 := hWm16 ▸ Vm15.other nVB f.v
            have bm16 := hWm16 ▸ below_setRow bm15 gB f.v
            go_wp2_with (first | (refine wpList_load_at_w (by rfl) _ _ rfl p (off + j * 22) (by rfl) _ hca Try.underlying28 (by kernel_rfl) ?_) | (refine wpList_store_row rfl _ _ _ rfl Wv.heap.size f.v (by rfl) (by rfl) _ _ Bm15 (by kernel_rfl) (by rfl) (by kernel_rfl) ?_; rw [hWm16]))
            refine Calls.mono (way_xp 21 2 _) ?_
            rintro e Wm17 ⟨rfl, bb⟩
            have Am17 := Am16.kept bb
            have Xm17 := Xm16.kept bb
            have Vm17 := Vm16.kept bb
            have Bm17 := Bm16.kept bb
            have bm17 := bel_tr bm16 bb
            clear bb
            clear Am16 Xm16 Vm16 Bm16 bm16
            obtain ⟨Wm18, hWm18⟩ : ∃ W, Wm17.setRow Wv.heap.size (Wt.v ⟨f.w, (wayW 21 2), f.ends, f.help⟩) = W := ⟨_, rfl⟩
            have Bm18 : Blk Wm18 Wv.heap.size 28 (Wt.v ⟨f.w, (wayW 21 2), f.ends, f.help⟩) := hWm18 ▸ Bm17.set (Wt.v ⟨f.w, (wayW 21 2), f.ends, f.help⟩)
            have Am18 := hWm18 ▸ Am17.other nAB (Wt.v ⟨f.w, (wayW 21 2), f.ends, f.help⟩)
            have Xm18 := hWm18 ▸ Xm17.other nXB (Wt.v ⟨f.w, (wayW 21 2), f.ends, f.help⟩)
            have Vm18 := hWm18 ▸ Vm17.other nVB (Wt.v ⟨f.w, (wayW 21 2), f.ends, f.help⟩)
            have bm18 := hWm18 ▸ below_setRow bm17 gB (Wt.v ⟨f.w, (wayW 21 2), f.ends, f.help⟩)
            have y20 := Bm18.cell 9 (.int .i64 f.w.dp) rfl
            have z21 := Bm18.frozen 9
            obtain ⟨Wm19, hWm19⟩ : ∃ W, Wm18.setCell ⟨Wv.heap.size, 9, none⟩ (.int .i64 8) = W := ⟨_, rfl⟩
            have Bm19 : Blk Wm19 Wv.heap.size 28 (Wt.v ⟨⟨f.w.fam, f.w.pr, f.w.s, f.w.d, f.w.sp, 8⟩, (wayW 21 2), f.ends, f.help⟩) := hWm19 ▸ Bm18.put 9 (.int .i64 8)
            have Am19 := hWm19 ▸ Am18.put_other Bm18 nAB 9 (.int .i64 8)
            have Xm19 := hWm19 ▸ Xm18.put_other Bm18 nXB 9 (.int .i64 8)
            have Vm19 := hWm19 ▸ Vm18.put_other Bm18 nVB 9 (.int .i64 8)
            have bm19 := hWm19 ▸ bm18.setCell (p := ⟨Wv.heap.size, 9, none⟩) gB (.int .i64 8)
            go_wp2_with (refine wpList_store_off rfl _ _ _ rfl Wv.heap.size 10 _ (wayW 21 2).v _ (Wt.v ⟨f.w, (wayW 21 2), f.ends, f.help⟩) (by rfl) (by rfl) Bm17 (by kernel_rfl) (Nat.le_of_ble_eq_true (by kernel_rfl)) (by kernel_rfl) (setMas_xp f (wayW 21 2)) ?_; rw [hWm18])
            clear y20 z21
            obtain ⟨Wdq22, hWdq22⟩ : ∃ W, Wm19.drew = W := ⟨_, rfl⟩
            have Adq22 := hWdq22 ▸ Am19.drew
            have Xdq22 := hWdq22 ▸ Xm19.drew
            have Vdq22 := hWdq22 ▸ Vm19.drew
            have Bdq22 := hWdq22 ▸ Bm19.drew
            have bdq22 := hWdq22 ▸ bm19.drew
            refine wp_region_noPanic ?_
            refine wp_region_held_drew (S := fun w' => Blk w' w.heap.size 26 x.v ∧ Blk w' Wv.heap.size 28 (Wt.v ⟨⟨f.w.fam, f.w.pr, f.w.s, f.w.d, f.w.sp, 8⟩, (wayW 21 2), f.ends, f.help⟩)) (by kernel_rfl) (by rw [hWdq22]; exact ⟨Adq22, Bdq22⟩) (fun hHeld => ?_)
            rw [hWdq22] at hHeld ⊢
            refine qtk (i := 0) (oi := { dst := some 76, op := Op.move (.tmp 7), type := 35, pos := "law.go:164", after := #[], guard := none }) (v := (.pointer (some ⟨tb, 0, none⟩))) hHeld ?_ ?_
            · intro w9 hSw
              try dsimp only at hSw
              go_simp
            try simp only [qpu]
            refine qty (i := 1) (oi := { dst := some 77, op := Op.load 28 (.tmp 14), type := 28, pos := "law.go:164", after := #[], guard := none }) (v := (.agg (Wt.v ⟨⟨f.w.fam, f.w.pr, f.w.s, f.w.d, f.w.sp, 8⟩, (wayW 21 2), f.ends, f.help⟩))) (yieldsIf_blk_w (by kernel_rfl) _ _ rfl Wv.heap.size (by rfl) _ (fun _ hSw => hSw.2) Try.underlying28 (by kernel_rfl)) hHeld ?_
            try simp only [qpu]
            refine qtk (i := 3) (oi := { dst := some 79, op := Op.move (.tmp 9), type := 35, pos := "law.go:164", after := #[], guard := none }) (v := (.pointer (some ⟨ub, 0, none⟩))) hHeld ?_ ?_
            · intro w9 hSw
              try dsimp only at hSw
              go_simp
            try simp only [qpu]
            refine qty (i := 4) (oi := { dst := some 80, op := Op.load 28 (.tmp 14), type := 28, pos := "law.go:164", after := #[], guard := none }) (v := (.agg (Wt.v ⟨⟨f.w.fam, f.w.pr, f.w.s, f.w.d, f.w.sp, 8⟩, (wayW 21 2), f.ends, f.help⟩))) (yieldsIf_blk_w (by kernel_rfl) _ _ rfl Wv.heap.size (by rfl) _ (fun _ hSw => hSw.2) Try.underlying28 (by kernel_rfl)) hHeld ?_
            try simp only [qpu]
            refine wpAnyH_ready (rs := [2]) (by kernel_rfl) (by simp) ?_
            refine AllReadyH.cons (o := { dst := some 78, op := Op.call { callee := Callee.value (.func 25), args := #[.tmp 76, .tmp 77], argTypes := #[35, 28] }, type := 36, pos := "law.go:164", after := #[{ on := 0, ground := Ground.data }, { on := 1, ground := Ground.data }], guard := none }) rfl (fun K hK => ?_) AllReadyH.nil
            go_simp
            refine Calls.mono (addX tb lb s (⟨⟨f.w.fam, f.w.pr, f.w.s, f.w.d, f.w.sp, 8⟩, (wayW 21 2), f.ends, f.help⟩) _ Xdq22 ⟨⟨hok.w.s, hok.w.d⟩, way_ok _ _⟩) ?_
            rintro e Wx23 ⟨lb23, rfl, Xx23, hlx23, bb⟩
            have gm0 := gwm
            have Ax23 := Adq22.but bb (by have := nXA; omega)
            have Bx23 := Bdq22.but bb (by have := nXB; omega)
            have Vx23 := Vdq22.but bb (by have := nXV; omega) (by have := nXV; omega)
            have nXV : ((tb ≠ ub ∧ lb23 ≠ ub) ∧ (tb ≠ lu ∧ lb23 ≠ lu)) := by have h9 := nXV; have h8 := Vdq22.lt; rcases hlx23 with h | h <;> omega
            have nXA : tb ≠ w.heap.size ∧ lb23 ≠ w.heap.size := by have h8 := Adq22.lt; have h9 := nXA; rcases hlx23 with h | h <;> omega
            have nXB : tb ≠ Wv.heap.size ∧ lb23 ≠ Wv.heap.size := by have h8 := Bdq22.lt; have h9 := nXB; rcases hlx23 with h | h <;> omega
            have gwm : w.heap.size ≤ lb23 := by have h9 := bdq22.size; have h8 := gm0; rcases hlx23 with h | h <;> omega
            have bx23 := bel_but bdq22 bb gwb gm0
            clear bb
            refine hK.out _ _ (by exact ⟨Ax23, Bx23⟩) (fun hHeld => ?_)
            clear hK K
            try simp only [qpu]
            refine wpAnyH_ready (rs := [5]) (by kernel_rfl) (by simp) ?_
            refine AllReadyH.cons (o := { dst := some 81, op := Op.call { callee := Callee.value (.func 25), args := #[.tmp 79, .tmp 80], argTypes := #[35, 28] }, type := 36, pos := "law.go:164", after := #[{ on := 3, ground := Ground.data }, { on := 4, ground := Ground.data }, { on := 2, ground := Ground.chain }], guard := none }) rfl (fun K hK => ?_) AllReadyH.nil
            go_simp
            refine Calls.mono (addX ub lu u (⟨⟨f.w.fam, f.w.pr, f.w.s, f.w.d, f.w.sp, 8⟩, (wayW 21 2), f.ends, f.help⟩) _ Vx23 ⟨⟨hok.w.s, hok.w.d⟩, way_ok _ _⟩) ?_
            rintro e Wx24 ⟨lu24, rfl, Vx24, hux24, bb⟩
            have gm0 := gum
            have Ax24 := Ax23.but bb (by have := nVA; omega)
            have Bx24 := Bx23.but bb (by have := nVB; omega)
            have Xx24 := Xx23.but bb (by have := nXV; omega) (by have := nXV; omega)
            have nXV : ((tb ≠ ub ∧ lb23 ≠ ub) ∧ (tb ≠ lu24 ∧ lb23 ≠ lu24)) := by have h9 := nXV; have h8 := Xx23.lt; rcases hux24 with h | h <;> omega
            have nVA : ub ≠ w.heap.size ∧ lu24 ≠ w.heap.size := by have h8 := Ax23.lt; have h9 := nVA; rcases hux24 with h | h <;> omega
            have nVB : ub ≠ Wv.heap.size ∧ lu24 ≠ Wv.heap.size := by have h8 := Bx23.lt; have h9 := nVB; rcases hux24 with h | h <;> omega
            have gum : w.heap.size ≤ lu24 := by have h9 := bx23.size; have h8 := gm0; rcases hux24 with h | h <;> omega
            have bx24 := bel_but bx23 bb gub gm0
            clear bb
            refine hK.out _ _ (by exact ⟨Ax24, Bx24⟩) (fun hHeld => ?_)
            clear hK K
            try simp only [qpu]
            refine qtk (i := 6) (oi := { dst := some 82, op := Op.binOp BinOp.neq 36 (.tmp 78) (.tmp 81) 36, type := 4, pos := "law.go:164", after := #[{ on := 2, ground := Ground.data }, { on := 5, ground := Ground.data }], guard := none }) (v := (.bool ((Xt.add s (⟨⟨f.w.fam, f.w.pr, f.w.s, f.w.d, f.w.sp, 8⟩, (wayW 21 2), f.ends, f.help⟩)).2 != (Xt.add u (⟨⟨f.w.fam, f.w.pr, f.w.s, f.w.d, f.w.sp, 8⟩, (wayW 21 2), f.ends, f.help⟩)).2))) hHeld ?_ ?_
            · intro w9 hSw
              try dsimp only at hSw
              go_simp
            try simp only [qpu]
            refine wpAnyH_done (by kernel_rfl) ?_ _
            refine NoPanic.normal ?_
            cases hq25 : ((Xt.add s (⟨⟨f.w.fam, f.w.pr, f.w.s, f.w.d, f.w.sp, 8⟩, (wayW 21 2), f.ends, f.help⟩)).2 != (Xt.add u (⟨⟨f.w.fam, f.w.pr, f.w.s, f.w.d, f.w.sp, 8⟩, (wayW 21 2), f.ends, f.help⟩)).2) with
            | false =>
              go_wp2_with fail
              exact ⟨⟨j + 1, (Xt.add s (⟨⟨f.w.fam, f.w.pr, f.w.s, f.w.d, f.w.sp, 8⟩, (wayW 21 2), f.ends, f.help⟩)).1, (Xt.add u (⟨⟨f.w.fam, f.w.pr, f.w.s, f.w.d, f.w.sp, 8⟩, (wayW 21 2), f.ends, f.help⟩)).1, lb23, lu24, by omega, by go_num, (HTw.out.add f (by omega)).2, gwm, gum, nXV, Ax24, ⟨nXA, nVA⟩, Xx24, Vx24, bx24⟩, by simp [intOf]; omega⟩

            | true =>
              go_wp2_with fail
              exact absurd hsame (by intro h; have h2 := (by assumption : ((Xt.add s _).2 != (Xt.add u _).2) = true); rw [h] at h2; simp at h2)


          · have ik : ¬ (j : Int) < (N : Int) := by omega
            have ik' : decide ((j : Int) < (N : Int)) = false := by simpa using ik
            go_wp2_with fail
            refine Calls.mono (way_xp 21 1 _) ?_
            rintro e Wm26 ⟨rfl, bb⟩
            have Am26 := Av.kept bb
            have Xm26 := Xv.kept bb
            have Vm26 := Vv.kept bb
            have bm26 := bel_tr bv bb
            clear bb
            clear Av Xv Vv bv
            go_wp2_with fail
            refine Calls.mono (forgetX tb lb s (wayW 21 1) _ Xm26) ?_
            rintro e Wm27 ⟨rfl, Xm27, bb⟩
            have gm0 := gwm
            have Am27 := Am26.but bb (by have := nXA; omega)
            have Vm27 := Vm26.but bb (by have := nXV; omega) (by have := nXV; omega)
            have bm27 := bel_but bm26 bb gwb gm0
            clear bb
            clear Am26 Xm26 Vm26 bm26
            have hfu := HTw.out.forget
            rw [hfu] at Xm27
            go_wp2_with fail
            refine Calls.mono (allX tb lb u _ Xm27) ?_
            rintro e Wm28 ⟨aa1, ca1, rfl, OAm28, bb⟩
            have Am28 := Am27.kept bb
            have Xm28 := Xm27.kept bb
            have Vm28 := Vm27.kept bb
            have bm28 := bel_tr bm27 bb
            clear bb
            have HRW1 : Hid (RowW Wm28 aa1 u.L) := OAm28.row (fun _ _ => trivial)
            have Qm28 : But (fun _ => False) Wm28 Wm28 := But.refl _ _
            have hlu : u.L.length ≤ 1000000 := Xm28.len
            clear OAm28
            clear Am27 Xm27 Vm27 bm27
            go_wp2_with fail
            refine Calls.mono (allX ub lu u _ Vm28) ?_
            rintro e Wm29 ⟨aa2, ca2, rfl, OAm29, bb⟩
            have Am29 := Am28.kept bb
            have Xm29 := Xm28.kept bb
            have Vm29 := Vm28.kept bb
            have Qm29 := Qm28.kept bb
            have bm29 := bel_tr bm28 bb
            clear bb
            have HRW2 : Hid (RowW Wm29 aa2 u.L) := OAm29.row (fun _ _ => trivial)
            have Rm29 : But (fun _ => False) Wm29 Wm29 := But.refl _ _
            have hlu : u.L.length ≤ 1000000 := Vm29.len
            clear OAm29
            clear Am28 Xm28 Vm28 Qm28 bm28
            go_wp2_with fail
            refine Calls.mono (same_xp _ _ _ _ u.L _ (HRW1.out.low (Qm29.to_below (Nat.le_refl _) (fun _ _ x => x))) (HRW2.out.low (Rm29.to_below (Nat.le_refl _) (fun _ _ x => x))) hlu) ?_
            rintro e Wm30 ⟨rfl, bb⟩
            have Am30 := Am29.kept bb
            have Xm30 := Xm29.kept bb
            have Vm30 := Vm29.kept bb
            have bm30 := bel_tr bm29 bb
            clear bb
            clear Am29 Xm29 Vm29 Qm29 Rm29 bm29
            go_wp2_with (refine wpList_load_blk_w (by rfl) _ _ rfl w.heap.size (by rfl) _ Am30 Try.underlying26 (by kernel_rfl) ?_)
            refine Calls.mono (takeX tb lb u x _ Xm30) ?_
            rintro e Wm31 ⟨rfl, Xm31, bb⟩
            have gm0 := gwm
            have Am31 := Am30.but bb (by have := nXA; omega)
            have Vm31 := Vm30.but bb (by have := nXV; omega) (by have := nXV; omega)
            have bm31 := bel_but bm30 bb gwb gm0
            clear bb
            clear Am30 Xm30 Vm30 bm30
            obtain ⟨Wm32, hWm32⟩ : ∃ W, Wm31.alloc (.cells #[.int .i64 0, .int .i64 0, .int .i64 0, .int .u64 0, .int .u64 0, .int .i64 0, .int .u64 0, .int .u64 0, .int .i64 0, .int .i64 0, .int .i64 0, .int .i64 0, .int .i64 0, .int .u64 0, .int .u64 0, .int .i64 0, .int .u64 0, .int .u64 0, .int .i64 0, .int .i64 0, .int .i64 0, .int .i64 0] 28) = W := ⟨_, rfl⟩
            have bm32 := bel_al bm31 hWm32
            have Am32 := Am31.al hWm32
            have Xm32 := Xm31.al hWm32
            have Vm32 := Vm31.al hWm32
            have Bm32 := blk_nw hWm32
            have gB : w.heap.size ≤ Wm31.heap.size := bm31.size
            have nAB : w.heap.size ≠ Wm31.heap.size := by have := Am31.lt; omega
            have nBA : Wm31.heap.size ≠ w.heap.size := fun e => nAB e.symm
            have nXB : tb ≠ Wm31.heap.size ∧ lb ≠ Wm31.heap.size := by have := Xm31.lt; omega
            have nVB : ub ≠ Wm31.heap.size ∧ lu ≠ Wm31.heap.size := by have := Vm31.lt; omega
            obtain ⟨Wm33, hWm33⟩ : ∃ W, Wm32.setRow Wm31.heap.size (Xt.take u x).2.1.v = W := ⟨_, rfl⟩
            have Bm33 : Blk Wm33 Wm31.heap.size 28 (Xt.take u x).2.1.v := hWm33 ▸ Bm32.set (Xt.take u x).2.1.v
            have Am33 := hWm33 ▸ Am32.other nAB (Xt.take u x).2.1.v
            have Xm33 := hWm33 ▸ Xm32.other nXB (Xt.take u x).2.1.v
            have Vm33 := hWm33 ▸ Vm32.other nVB (Xt.take u x).2.1.v
            have bm33 := hWm33 ▸ below_setRow bm32 gB (Xt.take u x).2.1.v
            go_wp2_with (first | (refine wpList_store_row rfl _ _ _ rfl Wm31.heap.size (Xt.take u x).2.1.v (by rfl) (by rfl) _ _ Bm32 (by kernel_rfl) (by rfl) (by kernel_rfl) ?_; rw [hWm33]) | (refine wpList_load_blk_w (by rfl) _ _ rfl w.heap.size (by rfl) _ Am33 Try.underlying26 (by kernel_rfl) ?_))
            refine Calls.mono (takeX ub lu u x _ Vm33) ?_
            rintro e Wm34 ⟨rfl, Vm34, bb⟩
            have gm0 := gum
            have Am34 := Am33.but bb (by have := nVA; omega)
            have Xm34 := Xm33.but bb (by have := nXV; omega) (by have := nXV; omega)
            have Bm34 := Bm33.but bb (by have := nVB; omega)
            have bm34 := bel_but bm33 bb gub gm0
            clear bb
            clear Am33 Xm33 Vm33 Bm33 bm33
            obtain ⟨Wm35, hWm35⟩ : ∃ W, Wm34.alloc (.cells #[.int .i64 0, .int .i64 0, .int .i64 0, .int .u64 0, .int .u64 0, .int .i64 0, .int .u64 0, .int .u64 0, .int .i64 0, .int .i64 0, .int .i64 0, .int .i64 0, .int .i64 0, .int .u64 0, .int .u64 0, .int .i64 0, .int .u64 0, .int .u64 0, .int .i64 0, .int .i64 0, .int .i64 0, .int .i64 0] 28) = W := ⟨_, rfl⟩
            have bm35 := bel_al bm34 hWm35
            have Am35 := Am34.al hWm35
            have Xm35 := Xm34.al hWm35
            have Vm35 := Vm34.al hWm35
            have Bm35 := Bm34.al hWm35
            have Cm35 := blk_nw hWm35
            have gC : w.heap.size ≤ Wm34.heap.size := bm34.size
            have nAC : w.heap.size ≠ Wm34.heap.size := by have := Am34.lt; omega
            have nCA : Wm34.heap.size ≠ w.heap.size := fun e => nAC e.symm
            have nXC : tb ≠ Wm34.heap.size ∧ lb ≠ Wm34.heap.size := by have := Xm34.lt; omega
            have nVC : ub ≠ Wm34.heap.size ∧ lu ≠ Wm34.heap.size := by have := Vm34.lt; omega
            have nBC : Wm31.heap.size ≠ Wm34.heap.size := by have := Bm34.lt; omega
            have nCB : Wm34.heap.size ≠ Wm31.heap.size := fun e => nBC e.symm
            obtain ⟨Wm36, hWm36⟩ : ∃ W, Wm35.setRow Wm34.heap.size (Xt.take u x).2.1.v = W := ⟨_, rfl⟩
            have Cm36 : Blk Wm36 Wm34.heap.size 28 (Xt.take u x).2.1.v := hWm36 ▸ Cm35.set (Xt.take u x).2.1.v
            have Am36 := hWm36 ▸ Am35.other nAC (Xt.take u x).2.1.v
            have Xm36 := hWm36 ▸ Xm35.other nXC (Xt.take u x).2.1.v
            have Vm36 := hWm36 ▸ Vm35.other nVC (Xt.take u x).2.1.v
            have Bm36 := hWm36 ▸ Bm35.other nBC (Xt.take u x).2.1.v
            have bm36 := hWm36 ▸ below_setRow bm35 gC (Xt.take u x).2.1.v
            have hE37 := eql_want (Xt.take u x).2.1
            go_wp2_with (first | (refine wpList_store_row rfl _ _ _ rfl Wm34.heap.size (Xt.take u x).2.1.v (by rfl) (by rfl) _ _ Cm35 (by kernel_rfl) (by rfl) (by kernel_rfl) ?_; rw [hWm36]) | (refine wpList_load_blk_w (by rfl) _ _ rfl Wm31.heap.size (by rfl) _ Bm36 Try.underlying28 (by kernel_rfl) ?_) | (refine wpList_load_blk_w (by rfl) _ _ rfl Wm34.heap.size (by rfl) _ Cm36 Try.underlying28 (by kernel_rfl) ?_))
            go_ret
            exact ⟨rfl, bm36⟩

  | true =>
    obtain ⟨Wm38, hWm38⟩ : ∃ W, w.alloc (.cells x.v 26) = W := ⟨_, rfl⟩
    have bm38 := bel_al b hWm38
    have Am38 := blk_nw hWm38
    have gA : w.heap.size ≤ w.heap.size := b.size
    go_wp2_with fail
    refine Calls.mono (alive_xp _) ?_
    rintro e Wm39 ⟨rfl, bb⟩
    have Am39 := Am38.kept bb
    have bm39 := bel_tr bm38 bb
    clear bb
    clear Am38 bm38
    go_wp2_with fail
    go_ret
    exact ⟨rfl, bm39⟩
end Go.Proofs.Ytmflogmocgbmhaa
namespace Go.Proofs.Ytmflogmocgbmhaa.expectApart
open Go.ChangeShapes Go.WideShapes Go.ChangeAt Go.RowKit
open Go.ChangeMaps (open_string shut_string)
set_option linter.unusedVariables false
theorem own : ownKnob Try.prog.godebug = none := by kernel_rfl
theorem laidOut : laidOutB Try.prog = true := by kernel_rfl
set_option maxRecDepth 100000 in
theorem lifted (os : Os) (started : os.Started) (H : Type) (enc : TypeId × Value → H) :
    ReturnsInHanded {} Try.checked os 7 .any (Rows.expectApartSpec.pre6 enc Try.prog Try.f7 Rows.expectApartRow.domain false) (Rows.expectApartSpec.post enc Try.prog Try.f7 false true false false) := by
  refine returnsInHanded_of_change_sized (C := Try.checked) own started (by kernel_rfl) Try.func7
    (ChangeSpec.witness6 (enc := enc) (C := Try.checked) false ⟨#[], #[.slice none 0 0, .slice none 0 0, .agg #[.int .i64 0, .int .i64 0, .int .i64 0, .int .u64 0, .int .u64 0, .int .i64 0, .int .u64 0, .int .u64 0, .int .i64 0, .int .i64 0]], []⟩ 8 (by kernel_rfl) (by kernel_rfl) (by kernel_rfl) (by kernel_rfl)) ?_
  intro W base args ds gs before hval0 hW hcnd hsz0 _
  have hval : ∀ (j : Nat) t v, Try.f7.params[j]? = some t → args[j]? = some v → Value.okWide Try.prog W .any base t v := hval0
  have hW' := hW
  obtain ⟨p, q, hA0, hV, rfl, hfz, hnd⟩ := hW
  have hA : DataW.TrodAll enc Try.prog W 0 (fun _ => true) true Try.f7.params.toList args.toList ds p := hA0
  have hsz : (DataW.weightsEach Try.prog (Try.f7.params.toList ++ Rows.expectApartSpec.plain.varTypes Try.prog) (ds ++ gs)).all (· ≤ reachBytes) = true := hsz0
  rw [Try.params7] at hA hval hsz
  obtain ⟨v0, vs0, d0, ds0, p0, q0, hargs, rfl, rfl, h0, r0⟩ := trodAll_cons hA
  obtain ⟨v1, vs1, d1, ds1, p1, q1, rfl, rfl, rfl, h1, r1⟩ := trodAll_cons r0
  obtain ⟨v2, vs2, d2, ds2, p2, q2, rfl, rfl, rfl, h2, r2⟩ := trodAll_cons r1
  obtain ⟨rfl, rfl, rfl⟩ := trodAll_nil r2
  obtain rfl : args = #[v0, v1, v2] := by cases args; simp_all
  obtain ⟨rfl, rfl⟩ := trodVars_none hV
  have lt0 : ∀ x ∈ p0, x.block < W.heap.size := by obtain ⟨m, hm⟩ := h0; exact DataW.trod_lt m _ _ _ hm
  have s0 : ∀ n ∈ d0.weights Try.prog 39, n ≤ reachBytes := fun n hn => by simpa using List.all_eq_true.1 hsz n (DataW.weights_mem_each (j := 0) (t := 39) rfl rfl n hn)
  obtain ⟨a0, c0, l0, rfl, lc0, cm0, w0⟩ := open_wants (hval 0 39 v0 rfl rfl) h0 s0
  have lt1 : ∀ x ∈ p1, x.block < W.heap.size := by obtain ⟨m, hm⟩ := h1; exact DataW.trod_lt m _ _ _ hm
  have s1 : ∀ n ∈ d1.weights Try.prog 39, n ≤ reachBytes := fun n hn => by simpa using List.all_eq_true.1 hsz n (DataW.weights_mem_each (j := 1) (t := 39) rfl rfl n hn)
  obtain ⟨a1, c1, l1, rfl, lc1, cm1, w1⟩ := open_wants (hval 1 39 v1 rfl rfl) h1 s1
  have lt2 : ∀ x ∈ p2, x.block < W.heap.size := by obtain ⟨m, hm⟩ := h2; exact DataW.trod_lt m _ _ _ hm
  have s2 : ∀ n ∈ d2.weights Try.prog 26, n ≤ reachBytes := fun n hn => by simpa using List.all_eq_true.1 hsz n (DataW.weights_mem_each (j := 2) (t := 26) rfl rfl n hn)
  obtain ⟨q2, rfl, ok2⟩ := open_wayX (hval 2 26 v2 rfl rfl) h2
  clear hA0 hval0 hsz0
  refine (expectApart_walk a0 c0 l0 a1 c1 l1 q2 W lc0 cm0 w0 lc1 cm1 w1 ok2).mono fun e W' ⟨he, bel⟩ => ?_
  subst he
  exact ⟨_, rfl, _, _, _, [], _, [], hW', trodAll_mk1 (shut_bool Try.underlying4 _), (trodAll_cons_mk (Below.trod laidOut (by kernel_rfl) (of_decide_eq_true (by kernel_rfl)) h0 bel lt0) (trodAll_cons_mk (Below.trod laidOut (by kernel_rfl) (of_decide_eq_true (by kernel_rfl)) h1 bel lt1) (trodAll_cons_mk (Below.trod laidOut (by kernel_rfl) (of_decide_eq_true (by kernel_rfl)) h2 bel lt2) trodAll_mk0))), rfl, bel.frame _, fun h => by cases h⟩
theorem over : Rows.expectApartRow.holds Try.pinned (OpenSpec.ofChange Rows.expectApartSpec) :=
  OpenClaim.holds_of_wide 7 Try.f7 rfl rfl rfl rfl rfl rfl rfl ⟨rfl, rfl, rfl, rfl, rfl⟩ rfl rfl rfl rfl rfl (by kernel_rfl) Try.func7 (by kernel_rfl)
    (of_decide_eq_true (by kernel_rfl)) (by unfold Func.isWrapper; first | (rw [if_pos (by decide +kernel)]; kernel_rfl) | (rw [if_neg (by decide +kernel)]; exact ⟨rfl, rfl⟩))
    (fun os started H enc _ => lifted os started H enc)
end Go.Proofs.Ytmflogmocgbmhaa.expectApart
namespace Go.Proofs.Ytmflogmocgbmhaa
theorem expectApart_holds : Rows.ExpectApartSaid := expectApart.over
end Go.Proofs.Ytmflogmocgbmhaa
