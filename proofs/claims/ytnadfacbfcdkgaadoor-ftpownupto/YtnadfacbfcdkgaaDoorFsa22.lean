/- Texts joined: FtG -/
import Derived.Test.YtnadfacbfcdkgaaDoorFsa21
import Derived.Lib.SlBytesConst
namespace Go.Proofs.YtnadfacbfcdkgaaDoor
open Go.RowKit
set_option linter.unusedVariables false
set_option linter.unusedSimpArgs false
theorem lines_ft (a : Option Addr) (c : Nat) (l : List Int) (w : World) (hr : Row w a l) (hl : l.length ≤ 4294967280) :
    Calls Tryd.prog 11 #[.slice a l.length c] w fun e w' => ∃ a' k xs, e = .returned (.slice a' xs.length k) ∧ GotL w w.heap.size (lnF (strOfNums l).data.toList) w' a' k xs := by
  have hc := conv_row hr c
  have hsz := strOfNums_size l
  have KL := firstLines_ft (strOfNums l) l.length w (by omega) hl
  have e1 : (lnF (strOfNums l).data.toList).take l.length = lnF (strOfNums l).data.toList := List.take_of_length_le (by
    have h1 := lnP_len (strOfNums l).data.toList [] false
    have h2 : (strOfNums l).data.toList.length = (strOfNums l).size := Array.length_toList
    show (lnP _ _ _).length ≤ _
    omega)
  rw [e1] at KL
  have K : Hid (Calls Tryd.prog 19 #[.string (strOfNums l), .int .i64 l.length] w fun e w' => ∃ a' k xs, e = .returned (.slice a' xs.length k) ∧ GotL w w.heap.size (lnF (strOfNums l).data.toList) w' a' k xs) := KL
  clear KL e1 hsz
  generalize strOfNums l = s at *
  go_enter Tryd.func11, Tryd.ntmps11
  go_wp2_with fail
  refine Calls.mono K.out ?_
  rintro e W ⟨a', k, xs, rfl, g⟩
  go_wp2
  go_ret
  exact ⟨a', k, xs, rfl, g⟩
set_option maxRecDepth 100000 in
set_option maxHeartbeats 4000000 in
theorem place_long (fam side : Int) (l : List UInt8) (w : World) (hl : 512 < l.length) :
    Calls Tryd.prog 14 #[.int .i64 fam, .int .i64 side, .string ⟨l.toArray⟩] w fun e w' => e = .returned (.tuple #[.agg (askT none).1.v, .bool (askT none).2]) ∧ Below w.heap.size w w' := by
  have hlong : decide (512 < (l.length : Int)) = true := decide_eq_true (by omega)
  obtain ⟨R, hR⟩ : ∃ R, askT none = R := ⟨_, rfl⟩
  have HR : Hid (askT none = R) := hR
  try rw [hR]
  clear hR
  have b := Below.refl w.heap.size w
  go_enter Tryd.func14, Tryd.ntmps14
  cases hq2 : (fam != 4) with
  | false =>
    obtain ⟨Wm3, hWm3⟩ : ∃ W, w.alloc (.cells #[.int .i64 0, .int .i64 0, .int .u64 0, .int .u64 0, .int .i64 0] 32) = W := ⟨_, rfl⟩
    have bm3 := bel_al b hWm3
    have Am3 := blk_nw hWm3
    have gA : w.heap.size ≤ w.heap.size := b.size
    obtain ⟨Wm4, hWm4⟩ : ∃ W, Wm3.setRow w.heap.size as0.v = W := ⟨_, rfl⟩
    have Am4 : Blk Wm4 w.heap.size 32 as0.v := hWm4 ▸ Am3.set as0.v
    have bm4 := hWm4 ▸ below_setRow bm3 gA as0.v
    go_wp2_with (refine wpList_store_row rfl _ _ _ rfl w.heap.size as0.v (by rfl) (by rfl) _ _ Am3 (by kernel_rfl) (by rfl) (by kernel_rfl) ?_; rw [hWm4])
    have hR2 : R = ((as0 : As), (false : Bool)) := by (rw [← HR.out]) <;> first | rfl | (simp [askT, beq_ft, empty_ft, (bne_f_ft hq2)]; done) | (simp [askT, beq_ft, empty_ft, (bne_f_ft hq2)]; rfl)
    subst hR2
    exact ret_cell_tmp (k := 6) (j := 7) Tryd.f14 (by kernel_rfl) Am4 Tryd.underlying32 (by kernel_rfl) (by rfl) (by rfl) rfl ⟨rfl, bm4⟩

  | true =>
    cases hq6 : (fam != 6) with
    | false =>
      obtain ⟨Wm7, hWm7⟩ : ∃ W, w.alloc (.cells #[.int .i64 0, .int .i64 0, .int .u64 0, .int .u64 0, .int .i64 0] 32) = W := ⟨_, rfl⟩
      have bm7 := bel_al b hWm7
      have Am7 := blk_nw hWm7
      have gA : w.heap.size ≤ w.heap.size := b.size
      obtain ⟨Wm8, hWm8⟩ : ∃ W, Wm7.setRow w.heap.size as0.v = W := ⟨_, rfl⟩
      have Am8 : Blk Wm8 w.heap.size 32 as0.v := hWm8 ▸ Am7.set as0.v
      have bm8 := hWm8 ▸ below_setRow bm7 gA as0.v
      go_wp2_with (refine wpList_store_row rfl _ _ _ rfl w.heap.size as0.v (by rfl) (by rfl) _ _ Am7 (by kernel_rfl) (by rfl) (by kernel_rfl) ?_; rw [hWm8])
      have hR2 : R = ((as0 : As), (false : Bool)) := by (rw [← HR.out]) <;> first | rfl | (simp [askT, beq_ft, empty_ft, (bne_t_ft hq2), (bne_f_ft hq6)]; done) | (simp [askT, beq_ft, empty_ft, (bne_t_ft hq2), (bne_f_ft hq6)]; rfl)
      subst hR2
      exact ret_cell_tmp (k := 6) (j := 7) Tryd.f14 (by kernel_rfl) Am8 Tryd.underlying32 (by kernel_rfl) (by rfl) (by rfl) rfl ⟨rfl, bm8⟩

    | true =>
      obtain ⟨Wm9, hWm9⟩ : ∃ W, w.alloc (.cells #[.int .i64 0, .int .i64 0, .int .u64 0, .int .u64 0, .int .i64 0] 32) = W := ⟨_, rfl⟩
      have bm9 := bel_al b hWm9
      have Am9 := blk_nw hWm9
      have gA : w.heap.size ≤ w.heap.size := b.size
      obtain ⟨Wm10, hWm10⟩ : ∃ W, Wm9.setRow w.heap.size as0.v = W := ⟨_, rfl⟩
      have Am10 : Blk Wm10 w.heap.size 32 as0.v := hWm10 ▸ Am9.set as0.v
      have bm10 := hWm10 ▸ below_setRow bm9 gA as0.v
      go_wp2_with (refine wpList_store_row rfl _ _ _ rfl w.heap.size as0.v (by rfl) (by rfl) _ _ Am9 (by kernel_rfl) (by rfl) (by kernel_rfl) ?_; rw [hWm10])
      have hR2 : R = ((as0 : As), (false : Bool)) := by (rw [← HR.out]) <;> first | rfl | (simp [askT, beq_ft, empty_ft, (bne_t_ft hq2), (bne_t_ft hq6)]; done) | (simp [askT, beq_ft, empty_ft, (bne_t_ft hq2), (bne_t_ft hq6)]; rfl)
      subst hR2
      exact ret_cell_tmp (k := 6) (j := 7) Tryd.f14 (by kernel_rfl) Am10 Tryd.underlying32 (by kernel_rfl) (by rfl) (by rfl) rfl ⟨rfl, bm10⟩
theorem place_any (fam side : Int) (l : List UInt8) (m : Int) (w : World) (M : Mx m w) :
    Calls Tryd.prog 14 #[.int .i64 fam, .int .i64 side, .string ⟨l.toArray⟩] w fun e w' => e = .returned (.tuple #[.agg (askT (plF fam side l)).1.v, .bool (askT (plF fam side l)).2]) ∧ Below w.heap.size w w' := by
  by_cases hl : 512 < l.length
  · have e : plF fam side l = none := by unfold plF; rw [if_pos (.inr hl)]
    rw [e]
    exact place_long fam side l w hl
  · exact place_l fam side l m w (by omega) M
theorem ex1 : plF 4 0 [80, 79, 82, 84, 32, 49, 48, 44, 48, 44, 48, 44, 49, 44, 55, 44, 50, 48, 56] = some ⟨6, ⟨4, 0, 167772161⟩, 2000⟩ := by kernel_rfl
theorem ex2 : plF 6 1 [50, 50, 57, 32, 111, 107, 32, 40, 124, 124, 124, 50, 48, 48, 48, 124, 41] = some ⟨6, ⟨0, 0, 0⟩, 2000⟩ := by kernel_rfl
theorem aplace1 (m : Int) (w : World) (M : Mx m w) : Calls Tryd.prog 14 #[.int .i64 4, .int .i64 0, .string ⟨#[80, 79, 82, 84, 32, 49, 48, 44, 48, 44, 48, 44, 49, 44, 55, 44, 50, 48, 56]⟩] w fun e w' => e = .returned (.tuple #[.agg (As.v ⟨6, ⟨4, 0, 167772161⟩, 2000⟩), .bool true]) ∧ Below w.heap.size w w' := by
  have h := place_l 4 0 [80, 79, 82, 84, 32, 49, 48, 44, 48, 44, 48, 44, 49, 44, 55, 44, 50, 48, 56] m w (by decide) M
  rw [ex1] at h
  exact h
theorem aplace2 (m : Int) (w : World) (M : Mx m w) : Calls Tryd.prog 14 #[.int .i64 6, .int .i64 1, .string ⟨#[50, 50, 57, 32, 111, 107, 32, 40, 124, 124, 124, 50, 48, 48, 48, 124, 41]⟩] w fun e w' => e = .returned (.tuple #[.agg (As.v ⟨6, ⟨0, 0, 0⟩, 2000⟩), .bool true]) ∧ Below w.heap.size w w' := by
  have h := place_l 6 1 [50, 50, 57, 32, 111, 107, 32, 40, 124, 124, 124, 50, 48, 48, 48, 124, 41] m w (by decide) M
  rw [ex2] at h
  exact h
theorem ex3 : lnF (strOfNums [97, 13, 10, 98]).data.toList = [[97]] := by kernel_rfl
abbrev exB : Array Value := #[.int .u8 97, .int .u8 13, .int .u8 10, .int .u8 98]
theorem row_marked (w : World) (C : Array Value) (t : TypeId) (fr : Nat × Nat) (l : List Int) (hC : C = (l.map (Value.int .u8)).toArray) (hs : l.length ≤ 140737488355328) (hb : M.Bytes l) : Row (w.alloc (.cells C t fr)) (some ⟨w.heap.size, 0, none⟩) l :=
  ⟨hs, hb, fun _ => ⟨_, _, rfl, fun i hi => by
    have e : l.getD i 0 = l[i] := by simp [hi]
    rw [e, Nat.zero_add, World.cell?_alloc_mark, hC]
    simp [hi]⟩⟩
theorem alines (v w : World) (hv : v.alloc (.cells exB 5 (4, 5)) = w) : Calls Tryd.prog 11 #[.slice (some ⟨v.heap.size, 0, none⟩) 4 4] w fun e w' => (∃ a k, e = .returned (.slice a 1 k)) ∧ Below w.heap.size w w' := by
  have hr : Row w (some ⟨v.heap.size, 0, none⟩) [97, 13, 10, 98] := hv ▸ row_marked v exB 5 (4, 5) [97, 13, 10, 98] rfl (by decide) (M.Bytes.of (by decide))
  refine (lines_ft _ 4 _ w hr (by decide)).mono ?_
  rintro e w' ⟨a, k, xs, rfl, q⟩
  have e1 := q.parts
  rw [ex3] at e1
  have e2 : xs.length = 1 := by have := congrArg List.length e1; simpa using this
  rw [e2]
  exact ⟨⟨a, k, rfl⟩, q.below⟩
set_option maxRecDepth 100000 in
set_option maxHeartbeats 4000000 in
theorem alive_ft (m : Int) (w : World) (M : Mx m w) :
    Calls Tryd.prog 13 #[] w fun e w' => e = .returned (.bool true) ∧ Below w.heap.size w w' := by
  obtain ⟨R, hR⟩ : ∃ R, true = R := ⟨_, rfl⟩
  have HR : Hid (true = R) := hR
  try rw [hR]
  clear hR
  have b := Below.refl w.heap.size w
  go_enter Tryd.func13, Tryd.ntmps13
  go_wp2_with fail
  refine Calls.mono (aplace1 m _ M) ?_
  rintro e Wm1 ⟨rfl, bb⟩
  have Mm1 := M.kept bb
  have bm1 := bel_tr b bb
  clear bb
  obtain ⟨Wm2, hWm2⟩ : ∃ W, Wm1.alloc (.cells #[.int .i64 0, .int .i64 0, .int .u64 0, .int .u64 0, .int .i64 0] 32) = W := ⟨_, rfl⟩
  have bm2 := bel_al bm1 hWm2
  have Mm2 := Mm1.al hWm2
  have Am2 := blk_nw hWm2
  have gA : w.heap.size ≤ Wm1.heap.size := bm1.size
  have nMA : 0 ≠ Wm1.heap.size := fun e => by have := Mm1.lt; omega
  obtain ⟨Wm3, hWm3⟩ : ∃ W, Wm2.setRow Wm1.heap.size (As.v ⟨6, ⟨4, 0, 167772161⟩, 2000⟩) = W := ⟨_, rfl⟩
  have Am3 : Blk Wm3 Wm1.heap.size 32 (As.v ⟨6, ⟨4, 0, 167772161⟩, 2000⟩) := hWm3 ▸ Am2.set (As.v ⟨6, ⟨4, 0, 167772161⟩, 2000⟩)
  have Mm3 := hWm3 ▸ Mm2.other nMA (As.v ⟨6, ⟨4, 0, 167772161⟩, 2000⟩)
  have bm3 := hWm3 ▸ below_setRow bm2 gA (As.v ⟨6, ⟨4, 0, 167772161⟩, 2000⟩)
  go_wp2_with (refine wpList_store_row rfl _ _ _ rfl Wm1.heap.size (As.v ⟨6, ⟨4, 0, 167772161⟩, 2000⟩) (by rfl) (by rfl) _ _ Am2 (by kernel_rfl) (by rfl) (by kernel_rfl) ?_; rw [hWm3])
  refine Calls.mono (aplace2 m _ Mm3) ?_
  rintro e Wm4 ⟨rfl, bb⟩
  have Mm4 := Mm3.kept bb
  have Am4 := Am3.kept bb
  have bm4 := bel_tr bm3 bb
  clear bb
  clear Mm3 Am3 bm3
  obtain ⟨Wm5, hWm5⟩ : ∃ W, Wm4.alloc (.cells #[.int .i64 0, .int .i64 0, .int .u64 0, .int .u64 0, .int .i64 0] 32) = W := ⟨_, rfl⟩
  have bm5 := bel_al bm4 hWm5
  have Mm5 := Mm4.al hWm5
  have Am5 := Am4.al hWm5
  have Bm5 := blk_nw hWm5
  have gB : w.heap.size ≤ Wm4.heap.size := bm4.size
  have nMB : 0 ≠ Wm4.heap.size := fun e => by have := Mm4.lt; omega
  have nAB : Wm1.heap.size ≠ Wm4.heap.size := by have := Am4.lt; omega
  have nBA : Wm4.heap.size ≠ Wm1.heap.size := fun e => nAB e.symm
  obtain ⟨Wm6, hWm6⟩ : ∃ W, Wm5.setRow Wm4.heap.size (As.v ⟨6, ⟨0, 0, 0⟩, 2000⟩) = W := ⟨_, rfl⟩
  have Bm6 : Blk Wm6 Wm4.heap.size 32 (As.v ⟨6, ⟨0, 0, 0⟩, 2000⟩) := hWm6 ▸ Bm5.set (As.v ⟨6, ⟨0, 0, 0⟩, 2000⟩)
  have Mm6 := hWm6 ▸ Mm5.other nMB (As.v ⟨6, ⟨0, 0, 0⟩, 2000⟩)
  have Am6 := hWm6 ▸ Am5.other nAB (As.v ⟨6, ⟨0, 0, 0⟩, 2000⟩)
  have bm6 := hWm6 ▸ below_setRow bm5 gB (As.v ⟨6, ⟨0, 0, 0⟩, 2000⟩)
  obtain ⟨Wm7, hWm7⟩ : ∃ W, Wm6.alloc (.cells #[.int .u8 97, .int .u8 13, .int .u8 10, .int .u8 98] 5) = W := ⟨_, rfl⟩
  have bm7 := bel_al bm6 hWm7
  have Mm7 := Mm6.al hWm7
  have Am7 := Am6.al hWm7
  have Bm7 := Bm6.al hWm7
  have Cm7 := blk_nw hWm7
  have gC : w.heap.size ≤ Wm6.heap.size := bm6.size
  have nMC : 0 ≠ Wm6.heap.size := fun e => by have := Mm6.lt; omega
  have nAC : Wm1.heap.size ≠ Wm6.heap.size := by have := Am6.lt; omega
  have nCA : Wm6.heap.size ≠ Wm1.heap.size := fun e => nAC e.symm
  have nBC : Wm4.heap.size ≠ Wm6.heap.size := by have := Bm6.lt; omega
  have nCB : Wm6.heap.size ≠ Wm4.heap.size := fun e => nBC e.symm
  obtain ⟨Wcv, hWcv⟩ : ∃ W, Wm6.alloc (.cells exB 5 (4, 5)) = W := ⟨_, rfl⟩
  have hcv : (convert 22 22 (.slice (some ⟨Wm6.heap.size, 0, none⟩) 4 4)).run Tryd.prog Wm7 = .ok (.slice (some ⟨Wm6.heap.size, 0, none⟩) 4 4) Wcv := by rw [← hWcv, ← hWm7]; exact Lib.run_convert_bytes_const Wm6 22 5 exB 4 4 Tryd.underlying22 Tryd.underlying5
  have bcv := bel_al bm6 hWcv
  have Mcv := Mm6.al hWcv
  have Acv := Am6.al hWcv
  have Bcv := Bm6.al hWcv
  go_wp2_with (first | (refine wpList_store_row rfl _ _ _ rfl Wm4.heap.size (As.v ⟨6, ⟨0, 0, 0⟩, 2000⟩) (by rfl) (by rfl) _ _ Bm5 (by kernel_rfl) (by rfl) (by kernel_rfl) ?_; rw [hWm6]) | (refine wpList_load_blk_w (by rfl) _ _ rfl Wm1.heap.size (by rfl) _ Am6 Tryd.underlying32 (by kernel_rfl) ?_) | (refine wpList_load_blk_w (by rfl) _ _ rfl Wm4.heap.size (by rfl) _ Bm6 Tryd.underlying32 (by kernel_rfl) ?_))
  refine Calls.mono (alines _ _ hWcv) ?_
  rintro e Wm8 ⟨⟨al, kl, rfl⟩, bb⟩
  have Mm8 := Mcv.kept bb
  have Am8 := Acv.kept bb
  have Bm8 := Bcv.kept bb
  have bm8 := bel_tr bcv bb
  clear bb
  clear Mcv Acv Bcv bcv
  go_wp2_with fail
  go_ret
  exact ⟨retB_fw (by (try rw [← HR.out]) <;> first | rfl | (simp []; done) | (simp []; rfl)), bm8⟩
end Go.Proofs.YtnadfacbfcdkgaaDoor
