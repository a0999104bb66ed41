/- Texts joined: XpN -/
import Derived.Test.YtmflogmocgbmhaaXpa22
namespace Go.Proofs.Ytmflogmocgbmhaa
open Go.RowKit
set_option linter.unusedVariables false
set_option linter.unusedSimpArgs false
set_option maxRecDepth 100000 in
set_option maxHeartbeats 16000000 in
theorem takeN_xp (tb : Nat) (s : Xt) (a : Option Addr) (c : Nat) (x : Wy) (w : World) (T : Blk w tb 61 (tabW s a c)) (O : OwnW w 0 a c s.L) (nOT : ∀ y : Addr, a = some y → y.block ≠ tb) (hll : s.L.length ≤ 1000000) (hfi : waitW x s.L = none) :
    Calls Try.prog 22 #[.pointer (some ⟨tb, 0, none⟩), .agg x.v] w fun e w' => e = .returned (.tuple #[.agg wt0.v, .bool false]) ∧ Below w.heap.size w w' := by
  have hmf : ∀ (fn : Fn) (first cap : Array Value) (W : World), (Instr.makeFunc fn first cap).run Try.prog W = .ok (.func fn first cap) W := fun _ _ _ _ => rfl
  have HFI : Hid _ := hfi
  clear hfi
  obtain ⟨R, hR⟩ : ∃ R, (0 : Int) = R := ⟨_, rfl⟩
  have HR : Hid ((0 : Int) = R) := hR
  try rw [hR]
  clear hR
  have b := Below.refl w.heap.size w
  go_enter Try.func22, Try.ntmps22
  obtain ⟨Wm1, hWm1⟩ : ∃ W, w.alloc (.cells x.v 26) = W := ⟨_, rfl⟩
  have bm1 := bel_al b hWm1
  have Tm1 := T.al hWm1
  have Om1 := O.al hWm1
  have Am1 := blk_nw hWm1
  have gA : w.heap.size ≤ w.heap.size := b.size
  have nTA : tb ≠ w.heap.size := by have := T.lt; omega
  have nAT : w.heap.size ≠ tb := fun e => nTA e.symm
  have nOA : ∀ y : Addr, a = some y → y.block ≠ w.heap.size := fun y hy => by have := O.lt_size y hy; omega
  obtain ⟨Wm2, hWm2⟩ : ∃ W, Wm1.alloc (.cells #[.int .i64 0, .int .i64 0, .int .i64 0, .int .u64 0, .int .u64 0, .int .i64 0, .int .u64 0, .int .u64 0, .int .i64 0, .int .i64 0, .int .i64 0, .int .i64 0, .int .i64 0, .int .u64 0, .int .u64 0, .int .i64 0, .int .u64 0, .int .u64 0, .int .i64 0, .int .i64 0, .int .i64 0, .int .i64 0] 28) = W := ⟨_, rfl⟩
  have bm2 := bel_al bm1 hWm2
  have Tm2 := Tm1.al hWm2
  have Om2 := Om1.al hWm2
  have Am2 := Am1.al hWm2
  have Bm2 := blk_nw hWm2
  have gB : w.heap.size ≤ Wm1.heap.size := bm1.size
  have nTB : tb ≠ Wm1.heap.size := by have := Tm1.lt; omega
  have nBT : Wm1.heap.size ≠ tb := fun e => nTB e.symm
  have nOB : ∀ y : Addr, a = some y → y.block ≠ Wm1.heap.size := fun y hy => by have := Om1.lt_size y hy; omega
  have nAB : w.heap.size ≠ Wm1.heap.size := by have := Am1.lt; omega
  have nBA : Wm1.heap.size ≠ w.heap.size := fun e => nAB e.symm
  go_wp2_with fail
  refine Calls.mono (made_at_xp tb s a c _ Tm2) ?_
  rintro e Wm3 ⟨rfl, bb⟩
  have Tm3 := Tm2.kept bb
  have Om3 := Om2.kept bb
  have Am3 := Am2.kept bb
  have Bm3 := Bm2.kept bb
  have bm3 := bel_tr bm2 bb
  clear bb
  clear Tm2 Om2 Am2 Bm2 bm2
  have c4 := Tm3.cell 4 (.slice a s.L.length c) rfl
  go_wp2_with fail
  clear c4
  refine Calls.mono (indexN_wts a c s.L x w.heap.size _ (Om3.row fun _ _ => trivial) hll Am3 HFI.out) ?_
  rintro e Wm5 ⟨rfl, bb⟩
  have Tm5 := Tm3.kept bb
  have Om5 := Om3.kept bb
  have Am5 := Am3.kept bb
  have Bm5 := Bm3.kept bb
  have bm5 := bel_tr bm3 bb
  clear bb
  clear Tm3 Om3 Am3 Bm3 bm3
  obtain ⟨Wm6, hWm6⟩ : ∃ W, Wm5.setRow Wm1.heap.size wt0.v = W := ⟨_, rfl⟩
  have Bm6 : Blk Wm6 Wm1.heap.size 28 wt0.v := hWm6 ▸ Bm5.set wt0.v
  have Tm6 := hWm6 ▸ Tm5.other nTB wt0.v
  have Om6 := hWm6 ▸ Om5.other nOB wt0.v
  have Am6 := hWm6 ▸ Am5.other nAB wt0.v
  have bm6 := hWm6 ▸ below_setRow bm5 gB wt0.v
  go_wp2_with (refine wpList_store_row rfl _ _ _ rfl Wm1.heap.size wt0.v (by rfl) (by rfl) _ _ Bm5 (by kernel_rfl) (by rfl) (by kernel_rfl) ?_; rw [hWm6])
  exact ret_cell_tmp (k := 4) (j := 5) Try.f22 (by kernel_rfl) Bm6 Try.underlying28 (by kernel_rfl) (by rfl) (by rfl) rfl ⟨rfl, bm6⟩
set_option maxRecDepth 100000 in
set_option maxHeartbeats 16000000 in
theorem takeS_xp (tb lb : Nat) (s : Xt) (c k : Nat) (q : Wt) (x : Wy) (w : World) (T : Blk w tb 61 (tabW s (some ⟨lb, 0, none⟩) c)) (O : OwnW w 0 (some ⟨lb, 0, none⟩) c s.L) (nTO : tb ≠ lb) (hq0 : s.L[k]? = some q) (hll : s.L.length ≤ 1000000) (hfi : waitW x s.L = some k) :
    Calls Try.prog 22 #[.pointer (some ⟨tb, 0, none⟩), .agg x.v] w fun e w' => e = .returned (.tuple #[.agg q.v, .bool true]) ∧ Blk w' tb 61 (tabW ⟨s.most, s.quota, s.now, (s.L.filter fun p : Wt => !(p.w.eqB q.w))⟩ (some ⟨lb, 0, none⟩) c) ∧ OwnW w' 0 (some ⟨lb, 0, none⟩) c (s.L.filter fun p : Wt => !(p.w.eqB q.w)) ∧ But (fun k => k = tb ∨ k = lb) w w' := by
  have hmf : ∀ (fn : Fn) (first cap : Array Value) (W : World), (Instr.makeFunc fn first cap).run Try.prog W = .ok (.func fn first cap) W := fun _ _ _ _ => rfl
  have HFI : Hid _ := hfi
  have HQ : Hid (s.L[k]? = some q) := hq0
  have hkl := (List.getElem?_eq_some_iff.1 hq0).1
  have ik0 : (0 : Int) ≤ (k : Int) := by omega
  have ik1 : (k : Int) < (s.L.length : Int) := by omega
  have ik2 : decide ((0 : Int) ≤ (k : Int)) = true := by simp
  have ik3 : decide ((k : Int) < 0) = false := by simp
  have nOT : ∀ y : Addr, some ⟨lb, 0, none⟩ = some y → y.block ≠ tb := fun y hy => by cases hy; exact fun e => nTO e.symm
  have hlb := O.lt_size _ rfl
  clear hq0 hfi
  obtain ⟨R, hR⟩ : ∃ R, (0 : Int) = R := ⟨_, rfl⟩
  have HR : Hid ((0 : Int) = R) := hR
  try rw [hR]
  clear hR
  have b := But.refl (fun k => k = tb ∨ k = lb) w
  go_enter Try.func22, Try.ntmps22
  obtain ⟨Wm1, hWm1⟩ : ∃ W, w.alloc (.cells x.v 26) = W := ⟨_, rfl⟩
  have bm1 := but_al b hWm1
  have Tm1 := T.al hWm1
  have Om1 := O.al hWm1
  have Am1 := blk_nw hWm1
  have gA : (fun k => k = tb ∨ k = lb) w.heap.size ∨ w.heap.size ≤ w.heap.size := .inr b.size
  have nTA : tb ≠ w.heap.size := by have := T.lt; omega
  have nAT : w.heap.size ≠ tb := fun e => nTA e.symm
  have nOA : ∀ y : Addr, some ⟨lb, 0, none⟩ = some y → y.block ≠ w.heap.size := fun y hy => by have := O.lt_size y hy; omega
  have nAO : w.heap.size ≠ lb := by have h9 : lb < _ := O.lt_size _ rfl; omega
  obtain ⟨Wm2, hWm2⟩ : ∃ W, Wm1.alloc (.cells #[.int .i64 0, .int .i64 0, .int .i64 0, .int .u64 0, .int .u64 0, .int .i64 0, .int .u64 0, .int .u64 0, .int .i64 0, .int .i64 0, .int .i64 0, .int .i64 0, .int .i64 0, .int .u64 0, .int .u64 0, .int .i64 0, .int .u64 0, .int .u64 0, .int .i64 0, .int .i64 0, .int .i64 0, .int .i64 0] 28) = W := ⟨_, rfl⟩
  have bm2 := but_al bm1 hWm2
  have Tm2 := Tm1.al hWm2
  have Om2 := Om1.al hWm2
  have Am2 := Am1.al hWm2
  have Bm2 := blk_nw hWm2
  have gB : (fun k => k = tb ∨ k = lb) Wm1.heap.size ∨ w.heap.size ≤ Wm1.heap.size := .inr bm1.size
  have nTB : tb ≠ Wm1.heap.size := by have := Tm1.lt; omega
  have nBT : Wm1.heap.size ≠ tb := fun e => nTB e.symm
  have nOB : ∀ y : Addr, some ⟨lb, 0, none⟩ = some y → y.block ≠ Wm1.heap.size := fun y hy => by have := Om1.lt_size y hy; omega
  have nBO : Wm1.heap.size ≠ lb := by have h9 : lb < _ := Om1.lt_size _ rfl; omega
  have nAB : w.heap.size ≠ Wm1.heap.size := by have := Am1.lt; omega
  have nBA : Wm1.heap.size ≠ w.heap.size := fun e => nAB e.symm
  go_wp2_with fail
  refine Calls.mono (made_at_xp tb s _ c _ Tm2) ?_
  rintro e Wm3 ⟨rfl, bb⟩
  have Tm3 := Tm2.kept bb
  have Om3 := Om2.kept bb
  have Am3 := Am2.kept bb
  have Bm3 := Bm2.kept bb
  have bm3 := bm2.below bb
  clear bb
  clear Tm2 Om2 Am2 Bm2 bm2
  have c4 := Tm3.cell 4 (.slice (some ⟨lb, 0, none⟩) s.L.length c) rfl
  go_wp2_with fail
  clear c4
  refine Calls.mono (indexS_wts (some ⟨lb, 0, none⟩) c s.L x w.heap.size k _ (Om3.row fun _ _ => trivial) hll Am3 HFI.out) ?_
  rintro e Wm5 ⟨rfl, bb⟩
  have Tm5 := Tm3.kept bb
  have Om5 := Om3.kept bb
  have Am5 := Am3.kept bb
  have Bm5 := Bm3.kept bb
  have bm5 := bm3.below bb
  clear bb
  clear Tm3 Om3 Am3 Bm3 bm3
  have c6 := Tm5.cell 4 (.slice (some ⟨lb, 0, none⟩) s.L.length c) rfl
  have hcb := Om5.cellQ HQ.out
  obtain ⟨Wm7, hWm7⟩ : ∃ W, Wm5.alloc (.cells #[.int .i64 0, .int .i64 0, .int .i64 0, .int .u64 0, .int .u64 0, .int .i64 0, .int .u64 0, .int .u64 0, .int .i64 0, .int .i64 0, .int .i64 0, .int .i64 0, .int .i64 0, .int .u64 0, .int .u64 0, .int .i64 0, .int .u64 0, .int .u64 0, .int .i64 0, .int .i64 0, .int .i64 0, .int .i64 0] 28) = W := ⟨_, rfl⟩
  have bm7 := but_al bm5 hWm7
  have Tm7 := Tm5.al hWm7
  have Om7 := Om5.al hWm7
  have Am7 := Am5.al hWm7
  have Bm7 := Bm5.al hWm7
  have Cm7 := blk_nw hWm7
  have gC : (fun k => k = tb ∨ k = lb) Wm5.heap.size ∨ w.heap.size ≤ Wm5.heap.size := .inr bm5.size
  have nTC : tb ≠ Wm5.heap.size := by have := Tm5.lt; omega
  have nCT : Wm5.heap.size ≠ tb := fun e => nTC e.symm
  have nOC : ∀ y : Addr, some ⟨lb, 0, none⟩ = some y → y.block ≠ Wm5.heap.size := fun y hy => by have := Om5.lt_size y hy; omega
  have nCO : Wm5.heap.size ≠ lb := by have h9 : lb < _ := Om5.lt_size _ rfl; omega
  have nAC : w.heap.size ≠ Wm5.heap.size := by have := Am5.lt; omega
  have nCA : Wm5.heap.size ≠ w.heap.size := fun e => nAC e.symm
  have nBC : Wm1.heap.size ≠ Wm5.heap.size := by have := Bm5.lt; omega
  have nCB : Wm5.heap.size ≠ Wm1.heap.size := fun e => nBC e.symm
  obtain ⟨Wm8, hWm8⟩ : ∃ W, Wm7.setRow Wm5.heap.size q.v = W := ⟨_, rfl⟩
  have Cm8 : Blk Wm8 Wm5.heap.size 28 q.v := hWm8 ▸ Cm7.set q.v
  have Tm8 := hWm8 ▸ Tm7.other nTC q.v
  have Om8 := hWm8 ▸ Om7.other nOC q.v
  have Am8 := hWm8 ▸ Am7.other nAC q.v
  have Bm8 := hWm8 ▸ Bm7.other nBC q.v
  have bm8 := hWm8 ▸ but_setRow bm7 gC q.v
  go_wp2_with (first | (refine wpList_load_at_w (by rfl) _ _ rfl lb (k * 22) (by rfl) _ hcb Try.underlying28 (by kernel_rfl) ?_) | (refine wpList_store_row rfl _ _ _ rfl Wm5.heap.size q.v (by rfl) (by rfl) _ _ Cm7 (by kernel_rfl) (by rfl) (by kernel_rfl) ?_; rw [hWm8]) | (refine wpList_load_sub_w (by rfl) _ _ rfl Wm5.heap.size 0 _ (by rfl) _ q.w.v Cm8 (by rfl) Try.underlying26 (by kernel_rfl) ?_))
  clear c6
  refine Calls.mono (ofway_xp q.w _) ?_
  rintro e Wm9 ⟨gf9, rfl, hgf9, Km9, bb⟩
  have Tm9 := Tm8.kept bb
  have Om9 := Om8.kept bb
  have Am9 := Am8.kept bb
  have Bm9 := Bm8.kept bb
  have Cm9 := Cm8.kept bb
  have bm9 := bm8.below bb
  clear bb
  have nTK : tb ≠ gf9 := by have := Tm8.lt; omega
  have nKT : gf9 ≠ tb := fun e => nTK e.symm
  have nAK : w.heap.size ≠ gf9 := by have := Am8.lt; omega
  have nKA : gf9 ≠ w.heap.size := fun e => nAK e.symm
  have nBK : Wm1.heap.size ≠ gf9 := by have := Bm8.lt; omega
  have nKB : gf9 ≠ Wm1.heap.size := fun e => nBK e.symm
  have nCK : Wm5.heap.size ≠ gf9 := by have := Cm8.lt; omega
  have nKC : gf9 ≠ Wm5.heap.size := fun e => nCK e.symm
  have nOK : ∀ y : Addr, (some ⟨lb, 0, none⟩) = some y → y.block ≠ gf9 := fun y hy => by have := Om8.lt_size y hy; omega
  clear Tm8 Om8 Am8 Bm8 Cm8 bm8
  go_wp2_with fail
  refine Calls.mono (cut_way tb gf9 s (some ⟨lb, 0, none⟩) c q.w _ Tm9 Om9 nOT Km9 nOK nTK hll) ?_
  rintro e Wm10 ⟨rfl, Tm10, Om10, bb⟩
  have Am10 := Am9.but bb (fun e => e.elim (fun e => nAT e) (map_ne nOA))
  have Bm10 := Bm9.but bb (fun e => e.elim (fun e => nBT e) (map_ne nOB))
  have Cm10 := Cm9.but bb (fun e => e.elim (fun e => nCT e) (map_ne nOC))
  have bm10 := bm9.trans bb (fun n _ e => e.imp id (fun h => by injection h with h; exact h.symm))
  clear bb
  clear Tm9 Om9 Am9 Bm9 Cm9 Km9 bm9
  obtain ⟨Wm11, hWm11⟩ : ∃ W, Wm10.setRow Wm1.heap.size q.v = W := ⟨_, rfl⟩
  have Bm11 : Blk Wm11 Wm1.heap.size 28 q.v := hWm11 ▸ Bm10.set q.v
  have Tm11 := hWm11 ▸ Tm10.other nTB q.v
  have Om11 := hWm11 ▸ Om10.other nOB q.v
  have Am11 := hWm11 ▸ Am10.other nAB q.v
  have Cm11 := hWm11 ▸ Cm10.other nCB q.v
  have bm11 := hWm11 ▸ but_setRow bm10 gB q.v
  go_wp2_with (first | (refine wpList_load_blk_w (by rfl) _ _ rfl Wm5.heap.size (by rfl) _ Cm10 Try.underlying28 (by kernel_rfl) ?_) | (refine wpList_store_row rfl _ _ _ rfl Wm1.heap.size q.v (by rfl) (by rfl) _ _ Bm10 (by kernel_rfl) (by rfl) (by kernel_rfl) ?_; rw [hWm11]))
  exact ret_cell_tmp (k := 4) (j := 5) Try.f22 (by kernel_rfl) Bm11 Try.underlying28 (by kernel_rfl) (by rfl) (by rfl) rfl ⟨rfl, Tm11, Om11, bm11⟩
end Go.Proofs.Ytmflogmocgbmhaa
