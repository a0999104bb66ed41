/- For every input the law ExpectNobody returns true and leaves its arguments as they were. -/
import Derived.Test.YtmflogmocgbmhaaXpa31
import Derived.LoopN
import Derived.Test.YtmflogmocgbmhaaRows
import Derived.WalkKit
import Derived.ProofKit
import Derived.OpenShut
import Derived.ShutString
import Derived.ChangeOld
import Derived.Below
import Derived.SizedLaws
namespace Go.Proofs.Ytmflogmocgbmhaa
open Go.RowKit
set_option linter.unusedVariables false
set_option linter.unusedSimpArgs false
set_option maxRecDepth 100000 in
set_option maxHeartbeats 8000000 in
theorem expectNobody_walk (f : Wt) (now : Int) (w : World) (hf : f.ok) :
    Calls Try.prog 8 #[.agg f.v, .int .i64 now] w fun e w' => e = .returned (.bool true) ∧ Below w.heap.size w w' := by
  obtain ⟨R, hR⟩ : ∃ R, true = R := ⟨_, rfl⟩
  have HR : Hid (true = R) := hR
  try rw [hR]
  clear hR
  have b := Below.refl w.heap.size w
  go_enter Try.func8, Try.ntmps8
  obtain ⟨Wm1, hWm1⟩ : ∃ W, w.alloc (.cells f.v 28) = W := ⟨_, rfl⟩
  have bm1 := bel_al b hWm1
  have Am1 := blk_nw hWm1
  have gA : w.heap.size ≤ w.heap.size := b.size
  obtain ⟨Wm2, hWm2⟩ : ∃ W, Wm1.alloc (.cells #[.bool false, .int .i64 0, .int .i64 0, .int .i64 0, .slice none 0 0] 61) = W := ⟨_, rfl⟩
  have bm2 := bel_al bm1 hWm2
  have Am2 := Am1.al hWm2
  have Bm2 := blk_nw hWm2
  have gB : w.heap.size ≤ Wm1.heap.size := bm1.size
  have nAB : w.heap.size ≠ Wm1.heap.size := by have := Am1.lt; omega
  have nBA : Wm1.heap.size ≠ w.heap.size := fun e => nAB e.symm
  obtain ⟨Wm3, hWm3⟩ : ∃ W, Wm2.alloc (.cells #[.pointer none, .pointer (some ⟨Wm1.heap.size, 0, none⟩)] 35) = W := ⟨_, rfl⟩
  have bm3 := bel_al bm2 hWm3
  have Am3 := Am2.al hWm3
  have Bm3 := Bm2.al hWm3
  have Cm3 := blk_nw hWm3
  have gC : w.heap.size ≤ Wm2.heap.size := bm2.size
  have nAC : w.heap.size ≠ Wm2.heap.size := by have := Am2.lt; omega
  have nCA : Wm2.heap.size ≠ w.heap.size := fun e => nAC e.symm
  have nBC : Wm1.heap.size ≠ Wm2.heap.size := by have := Bm2.lt; omega
  have nCB : Wm2.heap.size ≠ Wm1.heap.size := fun e => nBC e.symm
  go_wp2_with fail
  refine wp_loop_rounds 3 ?_
  rw [rounds_succ]
  have c4 := Cm3.cell 0 (.pointer none) rfl
  go_wp2_with (refine wpList_load_sub_w (by rfl) _ _ rfl w.heap.size 10 _ (by rfl) _ f.m.v Am3 (by rfl) Try.underlying26 (by kernel_rfl) ?_)
  clear c4
  refine Calls.mono (take_nil0_xp f.m _) ?_
  rintro e Wm5 ⟨rfl, bb⟩
  have Am5 := Am3.kept bb
  have Bm5 := Bm3.kept bb
  have Cm5 := Cm3.kept bb
  have bm5 := bel_tr bm3 bb
  clear bb
  clear Am3 Bm3 Cm3 bm3
  obtain ⟨Wm6, hWm6⟩ : ∃ W, Wm5.alloc (.cells #[.int .i64 0, .int .i64 0, .int .i64 0, .int .u64 0, .int .u64 0, .int .i64 0, .int .u64 0, .int .u64 0, .int .i64 0, .int .i64 0, .int .i64 0, .int .i64 0, .int .i64 0, .int .u64 0, .int .u64 0, .int .i64 0, .int .u64 0, .int .u64 0, .int .i64 0, .int .i64 0, .int .i64 0, .int .i64 0] 28) = W := ⟨_, rfl⟩
  have bm6 := bel_al bm5 hWm6
  have Am6 := Am5.al hWm6
  have Bm6 := Bm5.al hWm6
  have Cm6 := Cm5.al hWm6
  have Dm6 := blk_nw hWm6
  have gD : w.heap.size ≤ Wm5.heap.size := bm5.size
  have nAD : w.heap.size ≠ Wm5.heap.size := by have := Am5.lt; omega
  have nDA : Wm5.heap.size ≠ w.heap.size := fun e => nAD e.symm
  have nBD : Wm1.heap.size ≠ Wm5.heap.size := by have := Bm5.lt; omega
  have nDB : Wm5.heap.size ≠ Wm1.heap.size := fun e => nBD e.symm
  have nCD : Wm2.heap.size ≠ Wm5.heap.size := by have := Cm5.lt; omega
  have nDC : Wm5.heap.size ≠ Wm2.heap.size := fun e => nCD e.symm
  obtain ⟨Wm7, hWm7⟩ : ∃ W, Wm6.setRow Wm5.heap.size #[.int .i64 0, .int .i64 0, .int .i64 0, .int .u64 0, .int .u64 0, .int .i64 0, .int .u64 0, .int .u64 0, .int .i64 0, .int .i64 0, .int .i64 0, .int .i64 0, .int .i64 0, .int .u64 0, .int .u64 0, .int .i64 0, .int .u64 0, .int .u64 0, .int .i64 0, .int .i64 0, .int .i64 0, .int .i64 0] = W := ⟨_, rfl⟩
  have Dm7 : Blk Wm7 Wm5.heap.size 28 #[.int .i64 0, .int .i64 0, .int .i64 0, .int .u64 0, .int .u64 0, .int .i64 0, .int .u64 0, .int .u64 0, .int .i64 0, .int .i64 0, .int .i64 0, .int .i64 0, .int .i64 0, .int .u64 0, .int .u64 0, .int .i64 0, .int .u64 0, .int .u64 0, .int .i64 0, .int .i64 0, .int .i64 0, .int .i64 0] := hWm7 ▸ Dm6.set #[.int .i64 0, .int .i64 0, .int .i64 0, .int .u64 0, .int .u64 0, .int .i64 0, .int .u64 0, .int .u64 0, .int .i64 0, .int .i64 0, .int .i64 0, .int .i64 0, .int .i64 0, .int .u64 0, .int .u64 0, .int .i64 0, .int .u64 0, .int .u64 0, .int .i64 0, .int .i64 0, .int .i64 0, .int .i64 0]
  have Am7 := hWm7 ▸ Am6.other nAD #[.int .i64 0, .int .i64 0, .int .i64 0, .int .u64 0, .int .u64 0, .int .i64 0, .int .u64 0, .int .u64 0, .int .i64 0, .int .i64 0, .int .i64 0, .int .i64 0, .int .i64 0, .int .u64 0, .int .u64 0, .int .i64 0, .int .u64 0, .int .u64 0, .int .i64 0, .int .i64 0, .int .i64 0, .int .i64 0]
  have Bm7 := hWm7 ▸ Bm6.other nBD #[.int .i64 0, .int .i64 0, .int .i64 0, .int .u64 0, .int .u64 0, .int .i64 0, .int .u64 0, .int .u64 0, .int .i64 0, .int .i64 0, .int .i64 0, .int .i64 0, .int .i64 0, .int .u64 0, .int .u64 0, .int .i64 0, .int .u64 0, .int .u64 0, .int .i64 0, .int .i64 0, .int .i64 0, .int .i64 0]
  have Cm7 := hWm7 ▸ Cm6.other nCD #[.int .i64 0, .int .i64 0, .int .i64 0, .int .u64 0, .int .u64 0, .int .i64 0, .int .u64 0, .int .u64 0, .int .i64 0, .int .i64 0, .int .i64 0, .int .i64 0, .int .i64 0, .int .u64 0, .int .u64 0, .int .i64 0, .int .u64 0, .int .u64 0, .int .i64 0, .int .i64 0, .int .i64 0, .int .i64 0]
  have bm7 := hWm7 ▸ below_setRow bm6 gD #[.int .i64 0, .int .i64 0, .int .i64 0, .int .u64 0, .int .u64 0, .int .i64 0, .int .u64 0, .int .u64 0, .int .i64 0, .int .i64 0, .int .i64 0, .int .i64 0, .int .i64 0, .int .u64 0, .int .u64 0, .int .i64 0, .int .u64 0, .int .u64 0, .int .i64 0, .int .i64 0, .int .i64 0, .int .i64 0]
  go_wp2_with (first | (refine wpList_store_row rfl _ _ _ rfl Wm5.heap.size #[.int .i64 0, .int .i64 0, .int .i64 0, .int .u64 0, .int .u64 0, .int .i64 0, .int .u64 0, .int .u64 0, .int .i64 0, .int .i64 0, .int .i64 0, .int .i64 0, .int .i64 0, .int .u64 0, .int .u64 0, .int .i64 0, .int .u64 0, .int .u64 0, .int .i64 0, .int .i64 0, .int .i64 0, .int .i64 0] (by rfl) (by rfl) _ _ Dm6 (by kernel_rfl) (by rfl) (by kernel_rfl) ?_; rw [hWm7]) | (refine wpList_load_blk_w (by rfl) _ _ rfl w.heap.size (by rfl) _ Am7 Try.underlying28 (by kernel_rfl) ?_))
  refine Calls.mono (add_nil_xp f _) ?_
  rintro e Wm8 ⟨rfl, bb⟩
  have Am8 := Am7.kept bb
  have Bm8 := Bm7.kept bb
  have Cm8 := Cm7.kept bb
  have Dm8 := Dm7.kept bb
  have bm8 := bel_tr bm7 bb
  clear bb
  clear Am7 Bm7 Cm7 Dm7 bm7
  have hE9 := neq_zero_w
  go_wp2_with (first | (refine wpList_load_blk_w (by rfl) _ _ rfl Wm5.heap.size (by rfl) _ Dm8 Try.underlying28 (by kernel_rfl) ?_) | (refine wpList_load_sub_w (by rfl) _ _ rfl w.heap.size 10 _ (by rfl) _ f.m.v Am8 (by rfl) Try.underlying26 (by kernel_rfl) ?_))
  clear hE9
  refine Calls.mono (forget_nil_xp f.m _) ?_
  rintro e Wm10 ⟨rfl, bb⟩
  have Am10 := Am8.kept bb
  have Bm10 := Bm8.kept bb
  have Cm10 := Cm8.kept bb
  have Dm10 := Dm8.kept bb
  have bm10 := bel_tr bm8 bb
  clear bb
  clear Am8 Bm8 Cm8 Dm8 bm8
  go_wp2_with fail
  refine Calls.mono (tick_nil_xp now _) ?_
  rintro e Wm11 ⟨rfl, bb⟩
  have Am11 := Am10.kept bb
  have Bm11 := Bm10.kept bb
  have Cm11 := Cm10.kept bb
  have Dm11 := Dm10.kept bb
  have bm11 := bel_tr bm10 bb
  clear bb
  clear Am10 Bm10 Cm10 Dm10 bm10
  go_wp2_with fail
  refine Calls.mono (all_nil_xp  _) ?_
  rintro e Wm12 ⟨rfl, bb⟩
  have Am12 := Am11.kept bb
  have Bm12 := Bm11.kept bb
  have Cm12 := Cm11.kept bb
  have Dm12 := Dm11.kept bb
  have bm12 := bel_tr bm11 bb
  clear bb
  clear Am11 Bm11 Cm11 Dm11 bm11
  go_wp2_with fail
  refine Calls.mono (len_nil_xp  _) ?_
  rintro e Wm13 ⟨rfl, bb⟩
  have Am13 := Am12.kept bb
  have Bm13 := Bm12.kept bb
  have Cm13 := Cm12.kept bb
  have Dm13 := Dm12.kept bb
  have bm13 := bel_tr bm12 bb
  clear bb
  clear Am12 Bm12 Cm12 Dm12 bm12
  go_wp2_with fail
  refine Calls.mono (now_nil_xp  _) ?_
  rintro e Wm14 ⟨rfl, bb⟩
  have Am14 := Am13.kept bb
  have Bm14 := Bm13.kept bb
  have Cm14 := Cm13.kept bb
  have Dm14 := Dm13.kept bb
  have bm14 := bel_tr bm13 bb
  clear bb
  clear Am13 Bm13 Cm13 Dm13 bm13
  go_wp2_with fail
  rw [rounds_succ]
  have c15 := Cm14.cell 1 (.pointer (some ⟨Wm1.heap.size, 0, none⟩)) rfl
  go_wp2_with (refine wpList_load_sub_w (by rfl) _ _ rfl w.heap.size 10 _ (by rfl) _ f.m.v Am14 (by rfl) Try.underlying26 (by kernel_rfl) ?_)
  clear c15
  refine Calls.mono (take_un0_xp Wm1.heap.size f.m _ Bm14) ?_
  rintro e Wm16 ⟨rfl, bb⟩
  have Am16 := Am14.kept bb
  have Bm16 := Bm14.kept bb
  have Cm16 := Cm14.kept bb
  have Dm16 := Dm14.kept bb
  have bm16 := bel_tr bm14 bb
  clear bb
  clear Am14 Bm14 Cm14 Dm14 bm14
  obtain ⟨Wm17, hWm17⟩ : ∃ W, Wm16.alloc (.cells #[.int .i64 0, .int .i64 0, .int .i64 0, .int .u64 0, .int .u64 0, .int .i64 0, .int .u64 0, .int .u64 0, .int .i64 0, .int .i64 0, .int .i64 0, .int .i64 0, .int .i64 0, .int .u64 0, .int .u64 0, .int .i64 0, .int .u64 0, .int .u64 0, .int .i64 0, .int .i64 0, .int .i64 0, .int .i64 0] 28) = W := ⟨_, rfl⟩
  have bm17 := bel_al bm16 hWm17
  have Am17 := Am16.al hWm17
  have Bm17 := Bm16.al hWm17
  have Cm17 := Cm16.al hWm17
  have Dm17 := Dm16.al hWm17
  have Em17 := blk_nw hWm17
  have gE : w.heap.size ≤ Wm16.heap.size := bm16.size
  have nAE : w.heap.size ≠ Wm16.heap.size := by have := Am16.lt; omega
  have nEA : Wm16.heap.size ≠ w.heap.size := fun e => nAE e.symm
  have nBE : Wm1.heap.size ≠ Wm16.heap.size := by have := Bm16.lt; omega
  have nEB : Wm16.heap.size ≠ Wm1.heap.size := fun e => nBE e.symm
  have nCE : Wm2.heap.size ≠ Wm16.heap.size := by have := Cm16.lt; omega
  have nEC : Wm16.heap.size ≠ Wm2.heap.size := fun e => nCE e.symm
  have nDE : Wm5.heap.size ≠ Wm16.heap.size := by have := Dm16.lt; omega
  have nED : Wm16.heap.size ≠ Wm5.heap.size := fun e => nDE e.symm
  obtain ⟨Wm18, hWm18⟩ : ∃ W, Wm17.setRow Wm16.heap.size #[.int .i64 0, .int .i64 0, .int .i64 0, .int .u64 0, .int .u64 0, .int .i64 0, .int .u64 0, .int .u64 0, .int .i64 0, .int .i64 0, .int .i64 0, .int .i64 0, .int .i64 0, .int .u64 0, .int .u64 0, .int .i64 0, .int .u64 0, .int .u64 0, .int .i64 0, .int .i64 0, .int .i64 0, .int .i64 0] = W := ⟨_, rfl⟩
  have Em18 : Blk Wm18 Wm16.heap.size 28 #[.int .i64 0, .int .i64 0, .int .i64 0, .int .u64 0, .int .u64 0, .int .i64 0, .int .u64 0, .int .u64 0, .int .i64 0, .int .i64 0, .int .i64 0, .int .i64 0, .int .i64 0, .int .u64 0, .int .u64 0, .int .i64 0, .int .u64 0, .int .u64 0, .int .i64 0, .int .i64 0, .int .i64 0, .int .i64 0] := hWm18 ▸ Em17.set #[.int .i64 0, .int .i64 0, .int .i64 0, .int .u64 0, .int .u64 0, .int .i64 0, .int .u64 0, .int .u64 0, .int .i64 0, .int .i64 0, .int .i64 0, .int .i64 0, .int .i64 0, .int .u64 0, .int .u64 0, .int .i64 0, .int .u64 0, .int .u64 0, .int .i64 0, .int .i64 0, .int .i64 0, .int .i64 0]
  have Am18 := hWm18 ▸ Am17.other nAE #[.int .i64 0, .int .i64 0, .int .i64 0, .int .u64 0, .int .u64 0, .int .i64 0, .int .u64 0, .int .u64 0, .int .i64 0, .int .i64 0, .int .i64 0, .int .i64 0, .int .i64 0, .int .u64 0, .int .u64 0, .int .i64 0, .int .u64 0, .int .u64 0, .int .i64 0, .int .i64 0, .int .i64 0, .int .i64 0]
  have Bm18 := hWm18 ▸ Bm17.other nBE #[.int .i64 0, .int .i64 0, .int .i64 0, .int .u64 0, .int .u64 0, .int .i64 0, .int .u64 0, .int .u64 0, .int .i64 0, .int .i64 0, .int .i64 0, .int .i64 0, .int .i64 0, .int .u64 0, .int .u64 0, .int .i64 0, .int .u64 0, .int .u64 0, .int .i64 0, .int .i64 0, .int .i64 0, .int .i64 0]
  have Cm18 := hWm18 ▸ Cm17.other nCE #[.int .i64 0, .int .i64 0, .int .i64 0, .int .u64 0, .int .u64 0, .int .i64 0, .int .u64 0, .int .u64 0, .int .i64 0, .int .i64 0, .int .i64 0, .int .i64 0, .int .i64 0, .int .u64 0, .int .u64 0, .int .i64 0, .int .u64 0, .int .u64 0, .int .i64 0, .int .i64 0, .int .i64 0, .int .i64 0]
  have Dm18 := hWm18 ▸ Dm17.other nDE #[.int .i64 0, .int .i64 0, .int .i64 0, .int .u64 0, .int .u64 0, .int .i64 0, .int .u64 0, .int .u64 0, .int .i64 0, .int .i64 0, .int .i64 0, .int .i64 0, .int .i64 0, .int .u64 0, .int .u64 0, .int .i64 0, .int .u64 0, .int .u64 0, .int .i64 0, .int .i64 0, .int .i64 0, .int .i64 0]
  have bm18 := hWm18 ▸ below_setRow bm17 gE #[.int .i64 0, .int .i64 0, .int .i64 0, .int .u64 0, .int .u64 0, .int .i64 0, .int .u64 0, .int .u64 0, .int .i64 0, .int .i64 0, .int .i64 0, .int .i64 0, .int .i64 0, .int .u64 0, .int .u64 0, .int .i64 0, .int .u64 0, .int .u64 0, .int .i64 0, .int .i64 0, .int .i64 0, .int .i64 0]
  go_wp2_with (first | (refine wpList_store_row rfl _ _ _ rfl Wm16.heap.size #[.int .i64 0, .int .i64 0, .int .i64 0, .int .u64 0, .int .u64 0, .int .i64 0, .int .u64 0, .int .u64 0, .int .i64 0, .int .i64 0, .int .i64 0, .int .i64 0, .int .i64 0, .int .u64 0, .int .u64 0, .int .i64 0, .int .u64 0, .int .u64 0, .int .i64 0, .int .i64 0, .int .i64 0, .int .i64 0] (by rfl) (by rfl) _ _ Em17 (by kernel_rfl) (by rfl) (by kernel_rfl) ?_; rw [hWm18]) | (refine wpList_load_blk_w (by rfl) _ _ rfl w.heap.size (by rfl) _ Am18 Try.underlying28 (by kernel_rfl) ?_))
  refine Calls.mono (add_un_xp Wm1.heap.size f _ Bm18) ?_
  rintro e Wm19 ⟨rfl, bb⟩
  have Am19 := Am18.kept bb
  have Bm19 := Bm18.kept bb
  have Cm19 := Cm18.kept bb
  have Dm19 := Dm18.kept bb
  have Em19 := Em18.kept bb
  have bm19 := bel_tr bm18 bb
  clear bb
  clear Am18 Bm18 Cm18 Dm18 Em18 bm18
  have hE20 := neq_zero_w
  go_wp2_with (first | (refine wpList_load_blk_w (by rfl) _ _ rfl Wm16.heap.size (by rfl) _ Em19 Try.underlying28 (by kernel_rfl) ?_) | (refine wpList_load_sub_w (by rfl) _ _ rfl w.heap.size 10 _ (by rfl) _ f.m.v Am19 (by rfl) Try.underlying26 (by kernel_rfl) ?_))
  clear hE20
  refine Calls.mono (forget_un_xp Wm1.heap.size f.m _ Bm19) ?_
  rintro e Wm21 ⟨rfl, bb⟩
  have Am21 := Am19.kept bb
  have Bm21 := Bm19.kept bb
  have Cm21 := Cm19.kept bb
  have Dm21 := Dm19.kept bb
  have Em21 := Em19.kept bb
  have bm21 := bel_tr bm19 bb
  clear bb
  clear Am19 Bm19 Cm19 Dm19 Em19 bm19
  go_wp2_with fail
  refine Calls.mono (tick_un_xp Wm1.heap.size now _ Bm21) ?_
  rintro e Wm22 ⟨rfl, bb⟩
  have Am22 := Am21.kept bb
  have Bm22 := Bm21.kept bb
  have Cm22 := Cm21.kept bb
  have Dm22 := Dm21.kept bb
  have Em22 := Em21.kept bb
  have bm22 := bel_tr bm21 bb
  clear bb
  clear Am21 Bm21 Cm21 Dm21 Em21 bm21
  go_wp2_with fail
  refine Calls.mono (all_un_xp Wm1.heap.size  _ Bm22) ?_
  rintro e Wm23 ⟨rfl, bb⟩
  have Am23 := Am22.kept bb
  have Bm23 := Bm22.kept bb
  have Cm23 := Cm22.kept bb
  have Dm23 := Dm22.kept bb
  have Em23 := Em22.kept bb
  have bm23 := bel_tr bm22 bb
  clear bb
  clear Am22 Bm22 Cm22 Dm22 Em22 bm22
  go_wp2_with fail
  refine Calls.mono (len_un_xp Wm1.heap.size  _ Bm23) ?_
  rintro e Wm24 ⟨rfl, bb⟩
  have Am24 := Am23.kept bb
  have Bm24 := Bm23.kept bb
  have Cm24 := Cm23.kept bb
  have Dm24 := Dm23.kept bb
  have Em24 := Em23.kept bb
  have bm24 := bel_tr bm23 bb
  clear bb
  clear Am23 Bm23 Cm23 Dm23 Em23 bm23
  go_wp2_with fail
  refine Calls.mono (now_un_xp Wm1.heap.size  _ Bm24) ?_
  rintro e Wm25 ⟨rfl, bb⟩
  have Am25 := Am24.kept bb
  have Bm25 := Bm24.kept bb
  have Cm25 := Cm24.kept bb
  have Dm25 := Dm24.kept bb
  have Em25 := Em24.kept bb
  have bm25 := bel_tr bm24 bb
  clear bb
  clear Am24 Bm24 Cm24 Dm24 Em24 bm24
  go_wp2_with fail
  rw [rounds_succ]
  go_wp2_with fail
  refine Calls.mono (alive_xp _) ?_
  rintro e Wm26 ⟨rfl, bb⟩
  have Am26 := Am25.kept bb
  have Bm26 := Bm25.kept bb
  have Cm26 := Cm25.kept bb
  have Dm26 := Dm25.kept bb
  have Em26 := Em25.kept bb
  have bm26 := bel_tr bm25 bb
  clear bb
  clear Am25 Bm25 Cm25 Dm25 Em25 bm25
  go_wp2_with fail
  go_ret
  exact ⟨retB_fw (by (try rw [← HR.out]) <;> first | rfl | (simp []; done) | (simp []; rfl)), bm26⟩
end Go.Proofs.Ytmflogmocgbmhaa
namespace Go.Proofs.Ytmflogmocgbmhaa.expectNobody
open Go.ChangeShapes Go.WideShapes Go.ChangeAt Go.RowKit
open Go.ChangeMaps (open_string shut_string)
set_option linter.unusedVariables false
theorem own : ownKnob Try.prog.godebug = none := by kernel_rfl
theorem laidOut : laidOutB Try.prog = true := by kernel_rfl
set_option maxRecDepth 100000 in
theorem lifted (os : Os) (started : os.Started) (H : Type) (enc : TypeId × Value → H) :
    ReturnsInHanded {} Try.checked os 8 .any (Rows.expectNobodySpec.pre6 enc Try.prog Try.f8 Rows.expectNobodyRow.domain false) (Rows.expectNobodySpec.post enc Try.prog Try.f8 false true false false) := by
  refine returnsInHanded_of_change_sized (C := Try.checked) own started (by kernel_rfl) Try.func8
    (ChangeSpec.witness6 (enc := enc) (C := Try.checked) false ⟨#[], #[.agg #[.int .i64 0, .int .i64 0, .int .i64 0, .int .u64 0, .int .u64 0, .int .i64 0, .int .u64 0, .int .u64 0, .int .i64 0, .int .i64 0, .int .i64 0, .int .i64 0, .int .i64 0, .int .u64 0, .int .u64 0, .int .i64 0, .int .u64 0, .int .u64 0, .int .i64 0, .int .i64 0, .int .i64 0, .int .i64 0], .int .i64 0], []⟩ 8 (by kernel_rfl) (by kernel_rfl) (by kernel_rfl) (by kernel_rfl)) ?_
  intro W base args ds gs before hval0 hW hcnd hsz0 _
  have hval : ∀ (j : Nat) t v, Try.f8.params[j]? = some t → args[j]? = some v → Value.okWide Try.prog W .any base t v := hval0
  have hW' := hW
  obtain ⟨p, q, hA0, hV, rfl, hfz, hnd⟩ := hW
  have hA : DataW.TrodAll enc Try.prog W 0 (fun _ => true) true Try.f8.params.toList args.toList ds p := hA0
  have hsz : (DataW.weightsEach Try.prog (Try.f8.params.toList ++ Rows.expectNobodySpec.plain.varTypes Try.prog) (ds ++ gs)).all (· ≤ reachBytes) = true := hsz0
  rw [Try.params8] at hA hval hsz
  obtain ⟨v0, vs0, d0, ds0, p0, q0, hargs, rfl, rfl, h0, r0⟩ := trodAll_cons hA
  obtain ⟨v1, vs1, d1, ds1, p1, q1, rfl, rfl, rfl, h1, r1⟩ := trodAll_cons r0
  obtain ⟨rfl, rfl, rfl⟩ := trodAll_nil r1
  obtain rfl : args = #[v0, v1] := by cases args; simp_all
  obtain ⟨rfl, rfl⟩ := trodVars_none hV
  have lt0 : ∀ x ∈ p0, x.block < W.heap.size := by obtain ⟨m, hm⟩ := h0; exact DataW.trod_lt m _ _ _ hm
  have s0 : ∀ n ∈ d0.weights Try.prog 28, n ≤ reachBytes := fun n hn => by simpa using List.all_eq_true.1 hsz n (DataW.weights_mem_each (j := 0) (t := 28) rfl rfl n hn)
  obtain ⟨q0, rfl, ok0⟩ := open_want (hval 0 28 v0 rfl rfl) h0
  obtain ⟨x1, rfl, rfl, rfl, w1⟩ := open_int Try.underlying3 (hval 1 3 v1 rfl rfl) h1
  clear hA0 hval0 hsz0
  refine (expectNobody_walk q0 x1 W ok0).mono fun e W' ⟨he, bel⟩ => ?_
  subst he
  exact ⟨_, rfl, _, _, _, [], _, [], hW', trodAll_mk1 (shut_bool Try.underlying4 _), (trodAll_cons_mk (Below.trod laidOut (by kernel_rfl) (of_decide_eq_true (by kernel_rfl)) h0 bel lt0) (trodAll_cons_mk (shut_int Try.underlying3 w1) trodAll_mk0)), rfl, bel.frame _, fun h => by cases h⟩
theorem over : Rows.expectNobodyRow.holds Try.pinned (OpenSpec.ofChange Rows.expectNobodySpec) :=
  OpenClaim.holds_of_wide 8 Try.f8 rfl rfl rfl rfl rfl rfl rfl ⟨rfl, rfl, rfl, rfl, rfl⟩ rfl rfl rfl rfl rfl (by kernel_rfl) Try.func8 (by kernel_rfl)
    (of_decide_eq_true (by kernel_rfl)) (by unfold Func.isWrapper; first | (rw [if_pos (by decide +kernel)]; kernel_rfl) | (rw [if_neg (by decide +kernel)]; exact ⟨rfl, rfl⟩))
    (fun os started H enc _ => lifted os started H enc)
end Go.Proofs.Ytmflogmocgbmhaa.expectNobody
namespace Go.Proofs.Ytmflogmocgbmhaa
theorem expectNobody_holds : Rows.ExpectNobodySaid := expectNobody.over
end Go.Proofs.Ytmflogmocgbmhaa
