/- Texts joined: FtKa -/
import Derived.Test.YtnadfacbfcdkgaaDoorFsa30
namespace Go.Proofs.YtnadfacbfcdkgaaDoor
open Go.RowKit
set_option linter.unusedVariables false
set_option linter.unusedSimpArgs false
set_option maxRecDepth 100000 in
set_option maxHeartbeats 2000000 in
theorem rplace_bad (fam side : Int) (s : ByteArray) (w : World) (hb : 512 < s.size ∨ s.size < 5 ∨ (¬ fam = 4 ∧ ¬ fam = 6)) :
    Calls Tryd.prog 15 #[.int .i64 fam, .int .i64 side, .string s] w fun e w' => e = .returned (.tuple #[.agg as0.v, .bool false]) ∧ Below w.heap.size w w' := by
  obtain ⟨R, hR⟩ : ∃ R, (as0, false) = R := ⟨_, rfl⟩
  have HR : Hid ((as0, false) = R) := hR
  have hpost : (fun (e : Ending) (w' : World) => e = .returned (.tuple #[.agg as0.v, .bool false]) ∧ Below w.heap.size w w') = fun e w' => e = .returned (.tuple #[.agg R.1.v, .bool R.2]) ∧ Below w.heap.size w w' := by rw [← hR]
  rw [hpost]
  clear hR hpost
  have b := Below.refl w.heap.size w
  go_enter Tryd.func15, Tryd.ntmps15
  cases hq2 : (fam != 4) with
  | false =>
    cases hq4 : (decide (512 < (s.size : Int))) with
    | false =>
      cases hq6 : (decide ((s.size : Int) < 5)) with
      | false =>
        obtain ⟨Wm7, hWm7⟩ : ∃ W, w.alloc (.cells #[.int .i64 0, .int .i64 0, .int .u64 0, .int .u64 0, .int .i64 0] 32) = W := ⟨_, rfl⟩
        have bm7 := bel_al b hWm7
        have Am7 := blk_nw hWm7
        have gA : w.heap.size ≤ w.heap.size := b.size
        exfalso
        have p1 := of_decide_eq_false hq4
        have p2 := of_decide_eq_false hq6
        have p3 := (bne_f_ft hq2)
        omega

      | true =>
        obtain ⟨Wm8, hWm8⟩ : ∃ W, w.alloc (.cells #[.int .i64 0, .int .i64 0, .int .u64 0, .int .u64 0, .int .i64 0] 32) = W := ⟨_, rfl⟩
        have bm8 := bel_al b hWm8
        have Am8 := blk_nw hWm8
        have gA : w.heap.size ≤ w.heap.size := b.size
        obtain ⟨Wm9, hWm9⟩ : ∃ W, Wm8.setRow w.heap.size as0.v = W := ⟨_, rfl⟩
        have Am9 : Blk Wm9 w.heap.size 32 as0.v := hWm9 ▸ Am8.set as0.v
        have bm9 := hWm9 ▸ below_setRow bm8 gA as0.v
        go_wp2_with (guard_target =~ wpList _ _ _ ({ dst := none, op := Op.store _ _ _, type := _, pos := _, after := _, guard := none } :: _) _ _; refine wpList_store_row rfl _ _ _ rfl w.heap.size as0.v (by rfl) (by rfl) _ _ Am8 (by kernel_rfl) (by rfl) (by kernel_rfl) ?_; rw [hWm9])
        have hR2 : R = ((as0 : As), (false : Bool)) := by rw [← HR.out] <;> simp [as0, ad0, (bne_f_ft hq2), (show ¬ 512 < s.size from by have := hq4; simp at this; omega), (show s.size < 5 from by have := hq6; simp at this; omega)]
        subst hR2
        exact ret_cell_tmp (k := 6) (j := 7) (v := .bool false) Tryd.f15 (by kernel_rfl) Am9 Tryd.underlying32 (by kernel_rfl) (by rfl) (by rfl) rfl ⟨rfl, bm9⟩


    | true =>
      obtain ⟨Wm10, hWm10⟩ : ∃ W, w.alloc (.cells #[.int .i64 0, .int .i64 0, .int .u64 0, .int .u64 0, .int .i64 0] 32) = W := ⟨_, rfl⟩
      have bm10 := bel_al b hWm10
      have Am10 := blk_nw hWm10
      have gA : w.heap.size ≤ w.heap.size := b.size
      obtain ⟨Wm11, hWm11⟩ : ∃ W, Wm10.setRow w.heap.size as0.v = W := ⟨_, rfl⟩
      have Am11 : Blk Wm11 w.heap.size 32 as0.v := hWm11 ▸ Am10.set as0.v
      have bm11 := hWm11 ▸ below_setRow bm10 gA as0.v
      go_wp2_with (guard_target =~ wpList _ _ _ ({ dst := none, op := Op.store _ _ _, type := _, pos := _, after := _, guard := none } :: _) _ _; refine wpList_store_row rfl _ _ _ rfl w.heap.size as0.v (by rfl) (by rfl) _ _ Am10 (by kernel_rfl) (by rfl) (by kernel_rfl) ?_; rw [hWm11])
      have hR2 : R = ((as0 : As), (false : Bool)) := by rw [← HR.out] <;> simp [as0, ad0, (bne_f_ft hq2), (show 512 < s.size from by have := hq4; simp at this; omega)]
      subst hR2
      exact ret_cell_tmp (k := 6) (j := 7) (v := .bool false) Tryd.f15 (by kernel_rfl) Am11 Tryd.underlying32 (by kernel_rfl) (by rfl) (by rfl) rfl ⟨rfl, bm11⟩


  | true =>
    cases hq13 : (fam != 6) with
    | false =>
      cases hq15 : (decide (512 < (s.size : Int))) with
      | false =>
        cases hq17 : (decide ((s.size : Int) < 5)) with
        | false =>
          obtain ⟨Wm18, hWm18⟩ : ∃ W, w.alloc (.cells #[.int .i64 0, .int .i64 0, .int .u64 0, .int .u64 0, .int .i64 0] 32) = W := ⟨_, rfl⟩
          have bm18 := bel_al b hWm18
          have Am18 := blk_nw hWm18
          have gA : w.heap.size ≤ w.heap.size := b.size
          exfalso
          have p1 := of_decide_eq_false hq15
          have p2 := of_decide_eq_false hq17
          have p3 := (bne_t_ft hq2)
          have p4 := (bne_f_ft hq13)
          omega

        | true =>
          obtain ⟨Wm19, hWm19⟩ : ∃ W, w.alloc (.cells #[.int .i64 0, .int .i64 0, .int .u64 0, .int .u64 0, .int .i64 0] 32) = W := ⟨_, rfl⟩
          have bm19 := bel_al b hWm19
          have Am19 := blk_nw hWm19
          have gA : w.heap.size ≤ w.heap.size := b.size
          obtain ⟨Wm20, hWm20⟩ : ∃ W, Wm19.setRow w.heap.size as0.v = W := ⟨_, rfl⟩
          have Am20 : Blk Wm20 w.heap.size 32 as0.v := hWm20 ▸ Am19.set as0.v
          have bm20 := hWm20 ▸ below_setRow bm19 gA as0.v
          go_wp2_with (guard_target =~ wpList _ _ _ ({ dst := none, op := Op.store _ _ _, type := _, pos := _, after := _, guard := none } :: _) _ _; refine wpList_store_row rfl _ _ _ rfl w.heap.size as0.v (by rfl) (by rfl) _ _ Am19 (by kernel_rfl) (by rfl) (by kernel_rfl) ?_; rw [hWm20])
          have hR2 : R = ((as0 : As), (false : Bool)) := by rw [← HR.out] <;> simp [as0, ad0, (bne_t_ft hq2), (bne_f_ft hq13), (show ¬ 512 < s.size from by have := hq15; simp at this; omega), (show s.size < 5 from by have := hq17; simp at this; omega)]
          subst hR2
          exact ret_cell_tmp (k := 6) (j := 7) (v := .bool false) Tryd.f15 (by kernel_rfl) Am20 Tryd.underlying32 (by kernel_rfl) (by rfl) (by rfl) rfl ⟨rfl, bm20⟩


      | true =>
        obtain ⟨Wm21, hWm21⟩ : ∃ W, w.alloc (.cells #[.int .i64 0, .int .i64 0, .int .u64 0, .int .u64 0, .int .i64 0] 32) = W := ⟨_, rfl⟩
        have bm21 := bel_al b hWm21
        have Am21 := blk_nw hWm21
        have gA : w.heap.size ≤ w.heap.size := b.size
        obtain ⟨Wm22, hWm22⟩ : ∃ W, Wm21.setRow w.heap.size as0.v = W := ⟨_, rfl⟩
        have Am22 : Blk Wm22 w.heap.size 32 as0.v := hWm22 ▸ Am21.set as0.v
        have bm22 := hWm22 ▸ below_setRow bm21 gA as0.v
        go_wp2_with (guard_target =~ wpList _ _ _ ({ dst := none, op := Op.store _ _ _, type := _, pos := _, after := _, guard := none } :: _) _ _; refine wpList_store_row rfl _ _ _ rfl w.heap.size as0.v (by rfl) (by rfl) _ _ Am21 (by kernel_rfl) (by rfl) (by kernel_rfl) ?_; rw [hWm22])
        have hR2 : R = ((as0 : As), (false : Bool)) := by rw [← HR.out] <;> simp [as0, ad0, (bne_t_ft hq2), (bne_f_ft hq13), (show 512 < s.size from by have := hq15; simp at this; omega)]
        subst hR2
        exact ret_cell_tmp (k := 6) (j := 7) (v := .bool false) Tryd.f15 (by kernel_rfl) Am22 Tryd.underlying32 (by kernel_rfl) (by rfl) (by rfl) rfl ⟨rfl, bm22⟩


    | true =>
      obtain ⟨Wm23, hWm23⟩ : ∃ W, w.alloc (.cells #[.int .i64 0, .int .i64 0, .int .u64 0, .int .u64 0, .int .i64 0] 32) = W := ⟨_, rfl⟩
      have bm23 := bel_al b hWm23
      have Am23 := blk_nw hWm23
      have gA : w.heap.size ≤ w.heap.size := b.size
      obtain ⟨Wm24, hWm24⟩ : ∃ W, Wm23.setRow w.heap.size as0.v = W := ⟨_, rfl⟩
      have Am24 : Blk Wm24 w.heap.size 32 as0.v := hWm24 ▸ Am23.set as0.v
      have bm24 := hWm24 ▸ below_setRow bm23 gA as0.v
      go_wp2_with (guard_target =~ wpList _ _ _ ({ dst := none, op := Op.store _ _ _, type := _, pos := _, after := _, guard := none } :: _) _ _; refine wpList_store_row rfl _ _ _ rfl w.heap.size as0.v (by rfl) (by rfl) _ _ Am23 (by kernel_rfl) (by rfl) (by kernel_rfl) ?_; rw [hWm24])
      have hR2 : R = ((as0 : As), (false : Bool)) := by rw [← HR.out] <;> simp [as0, ad0, (bne_t_ft hq2), (bne_t_ft hq13)]
      subst hR2
      exact ret_cell_tmp (k := 6) (j := 7) (v := .bool false) Tryd.f15 (by kernel_rfl) Am24 Tryd.underlying32 (by kernel_rfl) (by rfl) (by rfl) rfl ⟨rfl, bm24⟩
set_option maxRecDepth 100000 in
set_option maxHeartbeats 4000000 in
theorem rplace_04 (s : ByteArray) (w : World) (h5 : 5 ≤ s.size) (h512 : s.size ≤ 512) :
    Calls Tryd.prog 15 #[.int .i64 4, .int .i64 0, .string s] w fun e w' => e = .returned (.tuple #[.agg (askT (dplF 4 0 s.data.toList)).1.v, .bool (askT (dplF 4 0 s.data.toList)).2]) ∧ Below w.heap.size w w' := by
  have es : s.data.toList.length = s.size := Array.length_toList
  obtain ⟨s5, h5e⟩ : ∃ x, s.extract 0 5 = x := ⟨_, rfl⟩
  have d5 : s5.data.toList = s.data.toList.take 5 := by rw [← h5e, Lib.extract_data]; simp
  have z5 : s5.size ≤ 4294967280 := by have : s5.data.toList.length = s5.size := Array.length_toList; rw [d5] at this; simp at this; omega
  have hs5 : ∀ W, (Instr.slice 9 (.string s) none (some (.int .i64 5)) none).run Tryd.prog W = .ok (.string s5) W := fun W => by
    rw [run_slice_string_to_if (P := Tryd.prog) W 9 s .i64 5 (by kernel_rfl), if_pos ⟨by omega, by omega⟩, ← h5e]; rfl
  obtain ⟨U, hU⟩ : ∃ U : ByteArray, (⟨(s5.data.toList.map upB).toArray⟩ : ByteArray) = U := ⟨_, rfl⟩
  have dU : U.data.toList = (s.data.toList.take 5).map upB := by rw [← hU, ← d5]
  have KU : Hid (∀ W, Calls Tryd.prog 22 #[.string s5] W fun e w' => e = .returned (.string U) ∧ Below W.heap.size W w') := fun W => by have h := rupper_ft s5 W z5; rw [hU] at h; exact h
  have hk1 : decide (512 < (s.size : Int)) = false := decide_eq_false (by omega)
  have hk2 : decide ((s.size : Int) < 5) = false := decide_eq_false (by omega)
  obtain ⟨s6, h6e⟩ : ∃ x, s.extract 5 s.size = x := ⟨_, rfl⟩
  have d6 : s6.data.toList = s.data.toList.drop 5 := by rw [← h6e, Lib.extract_data, List.take_of_length_le (by simp)]
  have z6 : s6.size ≤ 4294967280 := by have : s6.data.toList.length = s6.size := Array.length_toList; rw [d6] at this; simp at this; omega
  have hs6 : ∀ W, (Instr.slice 9 (.string s) (some (.int .i64 5)) none none).run Tryd.prog W = .ok (.string s6) W := fun W => by
    rw [run_slice_string_from_if (P := Tryd.prog) W 9 s .i64 5 (by kernel_rfl), if_pos ⟨by omega, by omega⟩, ← h6e]; rfl
  obtain ⟨⟨Q1, k1⟩, hQ1⟩ : ∃ p, askT (sixD s6.data.toList) = p := ⟨_, rfl⟩
  obtain ⟨⟨Q2, k2⟩, hQ2⟩ : ∃ p, askT (eprD 4 s6.data.toList) = p := ⟨_, rfl⟩
  have K1 : Hid (∀ W, Calls Tryd.prog 23 #[.string s6] W fun e w' => e = .returned (.tuple #[.agg Q1.v, .bool k1]) ∧ Below W.heap.size W w') := fun W => by have h := rsix_ft s6 W z6; unfold askV at h; rw [hQ1] at h; exact h
  have K2 : Hid (∀ W, Calls Tryd.prog 24 #[.int .i64 4, .string s6] W fun e w' => e = .returned (.tuple #[.agg Q2.v, .bool k2]) ∧ Below W.heap.size W w') := fun W => by have h := reprt_ft 4 s6 W z6; unfold askV at h; rw [hQ2] at h; exact h
  obtain ⟨R, hR⟩ : ∃ R, askT (dplF 4 0 s.data.toList) = R := ⟨_, rfl⟩
  rw [hR]
  have hf : (if U.data.toList = [80, 79, 82, 84, 32] ∧ (4 : Int) = 4 then (Q1, k1) else if U.data.toList = [69, 80, 82, 84, 32] then (Q2, k2) else (as0, false)) = R := by
    rw [← hR]
    unfold dplF
    rw [es, if_neg (show ¬ ((¬ (4 : Int) = 4 ∧ ¬ (4 : Int) = 6) ∨ 512 < s.size ∨ s.size < 5) by omega), askT_ite, askT_ite]
    rw [← dU, ← d6, hQ1, hQ2]
    simp [hPORT, hEPRT, askT]
  have HR : Hid _ := hf
  clear hf hR hQ1 hQ2 hU dU d5 d6 h5e h6e es z5 z6
  have b := Below.refl w.heap.size w
  go_enter Tryd.func15, Tryd.ntmps15
  obtain ⟨Wm1, hWm1⟩ : ∃ W, w.alloc (.cells #[.int .i64 0, .int .i64 0, .int .u64 0, .int .u64 0, .int .i64 0] 32) = W := ⟨_, rfl⟩
  have bm1 := bel_al b hWm1
  have Am1 := blk_nw hWm1
  have gA : w.heap.size ≤ w.heap.size := b.size
  go_wp2_with fail
  refine Calls.mono (KU.out _) ?_
  rintro e Wm2 ⟨rfl, bb⟩
  have Am2 := Am1.kept bb
  have bm2 := bel_tr bm1 bb
  clear bb
  clear Am1 bm1
  cases hq3 : (U.toList == [80, 79, 82, 84, 32]) with
  | false =>
    cases hq4 : (U.toList == [69, 80, 82, 84, 32]) with
    | false =>
      obtain ⟨Wm5, hWm5⟩ : ∃ W, Wm2.setRow w.heap.size (As.v ⟨0, ⟨0, 0, 0⟩, 0⟩) = W := ⟨_, rfl⟩
      have Am5 : Blk Wm5 w.heap.size 32 (As.v ⟨0, ⟨0, 0, 0⟩, 0⟩) := hWm5 ▸ Am2.set (As.v ⟨0, ⟨0, 0, 0⟩, 0⟩)
      have bm5 := hWm5 ▸ below_setRow bm2 gA (As.v ⟨0, ⟨0, 0, 0⟩, 0⟩)
      go_wp2_with (guard_target =~ wpList _ _ _ ({ dst := none, op := Op.store _ _ _, type := _, pos := _, after := _, guard := none } :: _) _ _; refine wpList_store_row rfl _ _ _ rfl w.heap.size (As.v ⟨0, ⟨0, 0, 0⟩, 0⟩) (by rfl) (by rfl) _ _ Am2 (by kernel_rfl) (by rfl) (by kernel_rfl) ?_; rw [hWm5])
      have hR2 : R = ((⟨0, ⟨0, 0, 0⟩, 0⟩ : As), (false : Bool)) := by rw [← HR.out] <;> simp [as0, ad0, (show ¬ U.data.toList = [80, 79, 82, 84, 32] from by have := hq3; rw [ebeq_ft] at this; exact of_decide_eq_false this), (show ¬ U.data.toList = [69, 80, 82, 84, 32] from by have := hq4; rw [ebeq_ft] at this; exact of_decide_eq_false this)]
      subst hR2
      exact ret_cell_tmp (k := 6) (j := 7) (v := .bool false) Tryd.f15 (by kernel_rfl) Am5 Tryd.underlying32 (by kernel_rfl) (by rfl) (by rfl) rfl ⟨rfl, bm5⟩

    | true =>
      go_wp2_with fail
      refine Calls.mono (K2.out _) ?_
      rintro e Wm6 ⟨rfl, bb⟩
      have Am6 := Am2.kept bb
      have bm6 := bel_tr bm2 bb
      clear bb
      clear Am2 bm2
      obtain ⟨Wm7, hWm7⟩ : ∃ W, Wm6.setRow w.heap.size Q2.v = W := ⟨_, rfl⟩
      have Am7 : Blk Wm7 w.heap.size 32 Q2.v := hWm7 ▸ Am6.set Q2.v
      have bm7 := hWm7 ▸ below_setRow bm6 gA Q2.v
      rename_i Kr hkr Kc hkc
      have HK : Hid _ := hkr
      clear hkr
      go_wp2_with (guard_target =~ wpList _ _ _ ({ dst := none, op := Op.store _ _ _, type := _, pos := _, after := _, guard := none } :: _) _ _; refine wpList_store_row rfl _ _ _ rfl w.heap.size Q2.v (by rfl) (by rfl) _ _ Am6 (by kernel_rfl) (by rfl) (by kernel_rfl) ?_; rw [hWm7])
      refine HK.out _ _ ?_
      clear HK
      go_wp2_with fail
      have hR2 : R = ((Q2 : As), (k2 : Bool)) := by rw [← HR.out] <;> simp [as0, ad0, (show ¬ U.data.toList = [80, 79, 82, 84, 32] from by have := hq3; rw [ebeq_ft] at this; exact of_decide_eq_false this), (show U.data.toList = [69, 80, 82, 84, 32] from by have := hq4; rw [ebeq_ft] at this; exact of_decide_eq_true this)]
      subst hR2
      exact ret_cell_tmp (k := 6) (j := 7) (v := .bool k2) Tryd.f15 (by kernel_rfl) Am7 Tryd.underlying32 (by kernel_rfl) (by rfl) (by rfl) rfl ⟨rfl, bm7⟩


  | true =>
    go_wp2_with fail
    refine Calls.mono (K1.out _) ?_
    rintro e Wm8 ⟨rfl, bb⟩
    have Am8 := Am2.kept bb
    have bm8 := bel_tr bm2 bb
    clear bb
    clear Am2 bm2
    obtain ⟨Wm9, hWm9⟩ : ∃ W, Wm8.setRow w.heap.size Q1.v = W := ⟨_, rfl⟩
    have Am9 : Blk Wm9 w.heap.size 32 Q1.v := hWm9 ▸ Am8.set Q1.v
    have bm9 := hWm9 ▸ below_setRow bm8 gA Q1.v
    rename_i Kr hkr Kc hkc
    have HK : Hid _ := hkr
    clear hkr
    go_wp2_with (guard_target =~ wpList _ _ _ ({ dst := none, op := Op.store _ _ _, type := _, pos := _, after := _, guard := none } :: _) _ _; refine wpList_store_row rfl _ _ _ rfl w.heap.size Q1.v (by rfl) (by rfl) _ _ Am8 (by kernel_rfl) (by rfl) (by kernel_rfl) ?_; rw [hWm9])
    refine HK.out _ _ ?_
    clear HK
    go_wp2_with fail
    have hR2 : R = ((Q1 : As), (k1 : Bool)) := by rw [← HR.out] <;> simp [as0, ad0, (show U.data.toList = [80, 79, 82, 84, 32] from by have := hq3; rw [ebeq_ft] at this; exact of_decide_eq_true this)]
    subst hR2
    exact ret_cell_tmp (k := 6) (j := 7) (v := .bool k1) Tryd.f15 (by kernel_rfl) Am9 Tryd.underlying32 (by kernel_rfl) (by rfl) (by rfl) rfl ⟨rfl, bm9⟩
set_option maxRecDepth 100000 in
set_option maxHeartbeats 4000000 in
theorem rplace_06 (s : ByteArray) (w : World) (h5 : 5 ≤ s.size) (h512 : s.size ≤ 512) :
    Calls Tryd.prog 15 #[.int .i64 6, .int .i64 0, .string s] w fun e w' => e = .returned (.tuple #[.agg (askT (dplF 6 0 s.data.toList)).1.v, .bool (askT (dplF 6 0 s.data.toList)).2]) ∧ Below w.heap.size w w' := by
  have es : s.data.toList.length = s.size := Array.length_toList
  obtain ⟨s5, h5e⟩ : ∃ x, s.extract 0 5 = x := ⟨_, rfl⟩
  have d5 : s5.data.toList = s.data.toList.take 5 := by rw [← h5e, Lib.extract_data]; simp
  have z5 : s5.size ≤ 4294967280 := by have : s5.data.toList.length = s5.size := Array.length_toList; rw [d5] at this; simp at this; omega
  have hs5 : ∀ W, (Instr.slice 9 (.string s) none (some (.int .i64 5)) none).run Tryd.prog W = .ok (.string s5) W := fun W => by
    rw [run_slice_string_to_if (P := Tryd.prog) W 9 s .i64 5 (by kernel_rfl), if_pos ⟨by omega, by omega⟩, ← h5e]; rfl
  obtain ⟨U, hU⟩ : ∃ U : ByteArray, (⟨(s5.data.toList.map upB).toArray⟩ : ByteArray) = U := ⟨_, rfl⟩
  have dU : U.data.toList = (s.data.toList.take 5).map upB := by rw [← hU, ← d5]
  have KU : Hid (∀ W, Calls Tryd.prog 22 #[.string s5] W fun e w' => e = .returned (.string U) ∧ Below W.heap.size W w') := fun W => by have h := rupper_ft s5 W z5; rw [hU] at h; exact h
  have hk1 : decide (512 < (s.size : Int)) = false := decide_eq_false (by omega)
  have hk2 : decide ((s.size : Int) < 5) = false := decide_eq_false (by omega)
  obtain ⟨s6, h6e⟩ : ∃ x, s.extract 5 s.size = x := ⟨_, rfl⟩
  have d6 : s6.data.toList = s.data.toList.drop 5 := by rw [← h6e, Lib.extract_data, List.take_of_length_le (by simp)]
  have z6 : s6.size ≤ 4294967280 := by have : s6.data.toList.length = s6.size := Array.length_toList; rw [d6] at this; simp at this; omega
  have hs6 : ∀ W, (Instr.slice 9 (.string s) (some (.int .i64 5)) none none).run Tryd.prog W = .ok (.string s6) W := fun W => by
    rw [run_slice_string_from_if (P := Tryd.prog) W 9 s .i64 5 (by kernel_rfl), if_pos ⟨by omega, by omega⟩, ← h6e]; rfl
  obtain ⟨⟨Q1, k1⟩, hQ1⟩ : ∃ p, askT (sixD s6.data.toList) = p := ⟨_, rfl⟩
  obtain ⟨⟨Q2, k2⟩, hQ2⟩ : ∃ p, askT (eprD 6 s6.data.toList) = p := ⟨_, rfl⟩
  have K1 : Hid (∀ W, Calls Tryd.prog 23 #[.string s6] W fun e w' => e = .returned (.tuple #[.agg Q1.v, .bool k1]) ∧ Below W.heap.size W w') := fun W => by have h := rsix_ft s6 W z6; unfold askV at h; rw [hQ1] at h; exact h
  have K2 : Hid (∀ W, Calls Tryd.prog 24 #[.int .i64 6, .string s6] W fun e w' => e = .returned (.tuple #[.agg Q2.v, .bool k2]) ∧ Below W.heap.size W w') := fun W => by have h := reprt_ft 6 s6 W z6; unfold askV at h; rw [hQ2] at h; exact h
  obtain ⟨R, hR⟩ : ∃ R, askT (dplF 6 0 s.data.toList) = R := ⟨_, rfl⟩
  rw [hR]
  have hf : (if U.data.toList = [80, 79, 82, 84, 32] ∧ (6 : Int) = 4 then (Q1, k1) else if U.data.toList = [69, 80, 82, 84, 32] then (Q2, k2) else (as0, false)) = R := by
    rw [← hR]
    unfold dplF
    rw [es, if_neg (show ¬ ((¬ (6 : Int) = 4 ∧ ¬ (6 : Int) = 6) ∨ 512 < s.size ∨ s.size < 5) by omega), askT_ite, askT_ite]
    rw [← dU, ← d6, hQ1, hQ2]
    simp [hPORT, hEPRT, askT]
  have HR : Hid _ := hf
  clear hf hR hQ1 hQ2 hU dU d5 d6 h5e h6e es z5 z6
  have b := Below.refl w.heap.size w
  go_enter Tryd.func15, Tryd.ntmps15
  obtain ⟨Wm1, hWm1⟩ : ∃ W, w.alloc (.cells #[.int .i64 0, .int .i64 0, .int .u64 0, .int .u64 0, .int .i64 0] 32) = W := ⟨_, rfl⟩
  have bm1 := bel_al b hWm1
  have Am1 := blk_nw hWm1
  have gA : w.heap.size ≤ w.heap.size := b.size
  go_wp2_with fail
  refine Calls.mono (KU.out _) ?_
  rintro e Wm2 ⟨rfl, bb⟩
  have Am2 := Am1.kept bb
  have bm2 := bel_tr bm1 bb
  clear bb
  clear Am1 bm1
  cases hq3 : (U.toList == [80, 79, 82, 84, 32]) with
  | false =>
    cases hq4 : (U.toList == [69, 80, 82, 84, 32]) with
    | false =>
      obtain ⟨Wm5, hWm5⟩ : ∃ W, Wm2.setRow w.heap.size (As.v ⟨0, ⟨0, 0, 0⟩, 0⟩) = W := ⟨_, rfl⟩
      have Am5 : Blk Wm5 w.heap.size 32 (As.v ⟨0, ⟨0, 0, 0⟩, 0⟩) := hWm5 ▸ Am2.set (As.v ⟨0, ⟨0, 0, 0⟩, 0⟩)
      have bm5 := hWm5 ▸ below_setRow bm2 gA (As.v ⟨0, ⟨0, 0, 0⟩, 0⟩)
      go_wp2_with (guard_target =~ wpList _ _ _ ({ dst := none, op := Op.store _ _ _, type := _, pos := _, after := _, guard := none } :: _) _ _; refine wpList_store_row rfl _ _ _ rfl w.heap.size (As.v ⟨0, ⟨0, 0, 0⟩, 0⟩) (by rfl) (by rfl) _ _ Am2 (by kernel_rfl) (by rfl) (by kernel_rfl) ?_; rw [hWm5])
      have hR2 : R = ((⟨0, ⟨0, 0, 0⟩, 0⟩ : As), (false : Bool)) := by rw [← HR.out] <;> simp [as0, ad0, (show ¬ U.data.toList = [80, 79, 82, 84, 32] from by have := hq3; rw [ebeq_ft] at this; exact of_decide_eq_false this), (show ¬ U.data.toList = [69, 80, 82, 84, 32] from by have := hq4; rw [ebeq_ft] at this; exact of_decide_eq_false this)]
      subst hR2
      exact ret_cell_tmp (k := 6) (j := 7) (v := .bool false) Tryd.f15 (by kernel_rfl) Am5 Tryd.underlying32 (by kernel_rfl) (by rfl) (by rfl) rfl ⟨rfl, bm5⟩

    | true =>
      go_wp2_with fail
      refine Calls.mono (K2.out _) ?_
      rintro e Wm6 ⟨rfl, bb⟩
      have Am6 := Am2.kept bb
      have bm6 := bel_tr bm2 bb
      clear bb
      clear Am2 bm2
      obtain ⟨Wm7, hWm7⟩ : ∃ W, Wm6.setRow w.heap.size Q2.v = W := ⟨_, rfl⟩
      have Am7 : Blk Wm7 w.heap.size 32 Q2.v := hWm7 ▸ Am6.set Q2.v
      have bm7 := hWm7 ▸ below_setRow bm6 gA Q2.v
      rename_i Kr hkr Kc hkc
      have HK : Hid _ := hkr
      clear hkr
      go_wp2_with (guard_target =~ wpList _ _ _ ({ dst := none, op := Op.store _ _ _, type := _, pos := _, after := _, guard := none } :: _) _ _; refine wpList_store_row rfl _ _ _ rfl w.heap.size Q2.v (by rfl) (by rfl) _ _ Am6 (by kernel_rfl) (by rfl) (by kernel_rfl) ?_; rw [hWm7])
      refine HK.out _ _ ?_
      clear HK
      go_wp2_with fail
      have hR2 : R = ((Q2 : As), (k2 : Bool)) := by rw [← HR.out] <;> simp [as0, ad0, (show ¬ U.data.toList = [80, 79, 82, 84, 32] from by have := hq3; rw [ebeq_ft] at this; exact of_decide_eq_false this), (show U.data.toList = [69, 80, 82, 84, 32] from by have := hq4; rw [ebeq_ft] at this; exact of_decide_eq_true this)]
      subst hR2
      exact ret_cell_tmp (k := 6) (j := 7) (v := .bool k2) Tryd.f15 (by kernel_rfl) Am7 Tryd.underlying32 (by kernel_rfl) (by rfl) (by rfl) rfl ⟨rfl, bm7⟩


  | true =>
    cases hq8 : (U.toList == [69, 80, 82, 84, 32]) with
    | false =>
      obtain ⟨Wm9, hWm9⟩ : ∃ W, Wm2.setRow w.heap.size (As.v ⟨0, ⟨0, 0, 0⟩, 0⟩) = W := ⟨_, rfl⟩
      have Am9 : Blk Wm9 w.heap.size 32 (As.v ⟨0, ⟨0, 0, 0⟩, 0⟩) := hWm9 ▸ Am2.set (As.v ⟨0, ⟨0, 0, 0⟩, 0⟩)
      have bm9 := hWm9 ▸ below_setRow bm2 gA (As.v ⟨0, ⟨0, 0, 0⟩, 0⟩)
      go_wp2_with (guard_target =~ wpList _ _ _ ({ dst := none, op := Op.store _ _ _, type := _, pos := _, after := _, guard := none } :: _) _ _; refine wpList_store_row rfl _ _ _ rfl w.heap.size (As.v ⟨0, ⟨0, 0, 0⟩, 0⟩) (by rfl) (by rfl) _ _ Am2 (by kernel_rfl) (by rfl) (by kernel_rfl) ?_; rw [hWm9])
      have hR2 : R = ((⟨0, ⟨0, 0, 0⟩, 0⟩ : As), (false : Bool)) := by rw [← HR.out] <;> simp [as0, ad0, (show U.data.toList = [80, 79, 82, 84, 32] from by have := hq3; rw [ebeq_ft] at this; exact of_decide_eq_true this), (show ¬ U.data.toList = [69, 80, 82, 84, 32] from by have := hq8; rw [ebeq_ft] at this; exact of_decide_eq_false this)]
      subst hR2
      exact ret_cell_tmp (k := 6) (j := 7) (v := .bool false) Tryd.f15 (by kernel_rfl) Am9 Tryd.underlying32 (by kernel_rfl) (by rfl) (by rfl) rfl ⟨rfl, bm9⟩

    | true =>
      go_wp2_with fail
      exact absurd ((show U.data.toList = [80, 79, 82, 84, 32] from by have := hq3; rw [ebeq_ft] at this; exact of_decide_eq_true this).symm.trans (show U.data.toList = [69, 80, 82, 84, 32] from by have := hq8; rw [ebeq_ft] at this; exact of_decide_eq_true this)) (by decide)
set_option maxRecDepth 100000 in
set_option maxHeartbeats 4000000 in
theorem rplace_xx (fam side : Int) (s : ByteArray) (w : World) (h5 : 5 ≤ s.size) (h512 : s.size ≤ 512) (hfam : fam = 4 ∨ fam = 6) (hs0 : ¬ side = 0) (hs1 : ¬ side = 1) :
    Calls Tryd.prog 15 #[.int .i64 fam, .int .i64 side, .string s] w fun e w' => e = .returned (.tuple #[.agg (askT (dplF fam side s.data.toList)).1.v, .bool (askT (dplF fam side s.data.toList)).2]) ∧ Below w.heap.size w w' := by
  have es : s.data.toList.length = s.size := Array.length_toList
  obtain ⟨s5, h5e⟩ : ∃ x, s.extract 0 5 = x := ⟨_, rfl⟩
  have d5 : s5.data.toList = s.data.toList.take 5 := by rw [← h5e, Lib.extract_data]; simp
  have z5 : s5.size ≤ 4294967280 := by have : s5.data.toList.length = s5.size := Array.length_toList; rw [d5] at this; simp at this; omega
  have hs5 : ∀ W, (Instr.slice 9 (.string s) none (some (.int .i64 5)) none).run Tryd.prog W = .ok (.string s5) W := fun W => by
    rw [run_slice_string_to_if (P := Tryd.prog) W 9 s .i64 5 (by kernel_rfl), if_pos ⟨by omega, by omega⟩, ← h5e]; rfl
  obtain ⟨U, hU⟩ : ∃ U : ByteArray, (⟨(s5.data.toList.map upB).toArray⟩ : ByteArray) = U := ⟨_, rfl⟩
  have dU : U.data.toList = (s.data.toList.take 5).map upB := by rw [← hU, ← d5]
  have KU : Hid (∀ W, Calls Tryd.prog 22 #[.string s5] W fun e w' => e = .returned (.string U) ∧ Below W.heap.size W w') := fun W => by have h := rupper_ft s5 W z5; rw [hU] at h; exact h
  have hk1 : decide (512 < (s.size : Int)) = false := decide_eq_false (by omega)
  have hk2 : decide ((s.size : Int) < 5) = false := decide_eq_false (by omega)
  obtain ⟨R, hR⟩ : ∃ R, askT (dplF fam side s.data.toList) = R := ⟨_, rfl⟩
  rw [hR]
  have hf : (as0, false) = R := by
    rw [← hR]
    unfold dplF
    rw [es, if_neg (show ¬ ((¬ (fam : Int) = 4 ∧ ¬ (fam : Int) = 6) ∨ 512 < s.size ∨ s.size < 5) by omega), if_neg (fun h => hs0 h.1), if_neg (fun h => hs0 h.1), if_neg (fun h => hs1 h.1), if_neg (fun h => hs1 h.1)]
    rfl
  have HR : Hid _ := hf
  clear hf hR hU dU d5 h5e es z5
  have b := Below.refl w.heap.size w
  go_enter Tryd.func15, Tryd.ntmps15
  cases hq2 : (fam != 4) with
  | false =>
    obtain ⟨Wm3, hWm3⟩ : ∃ W, w.alloc (.cells #[.int .i64 0, .int .i64 0, .int .u64 0, .int .u64 0, .int .i64 0] 32) = W := ⟨_, rfl⟩
    have bm3 := bel_al b hWm3
    have Am3 := blk_nw hWm3
    have gA : w.heap.size ≤ w.heap.size := b.size
    go_wp2_with fail
    refine Calls.mono (KU.out _) ?_
    rintro e Wm4 ⟨rfl, bb⟩
    have Am4 := Am3.kept bb
    have bm4 := bel_tr bm3 bb
    clear bb
    clear Am3 bm3
    obtain ⟨Wm5, hWm5⟩ : ∃ W, Wm4.setRow w.heap.size (As.v ⟨0, ⟨0, 0, 0⟩, 0⟩) = W := ⟨_, rfl⟩
    have Am5 : Blk Wm5 w.heap.size 32 (As.v ⟨0, ⟨0, 0, 0⟩, 0⟩) := hWm5 ▸ Am4.set (As.v ⟨0, ⟨0, 0, 0⟩, 0⟩)
    have bm5 := hWm5 ▸ below_setRow bm4 gA (As.v ⟨0, ⟨0, 0, 0⟩, 0⟩)
    go_wp2_with (guard_target =~ wpList _ _ _ ({ dst := none, op := Op.store _ _ _, type := _, pos := _, after := _, guard := none } :: _) _ _; refine wpList_store_row rfl _ _ _ rfl w.heap.size (As.v ⟨0, ⟨0, 0, 0⟩, 0⟩) (by rfl) (by rfl) _ _ Am4 (by kernel_rfl) (by rfl) (by kernel_rfl) ?_; rw [hWm5])
    have hR2 : R = ((⟨0, ⟨0, 0, 0⟩, 0⟩ : As), (false : Bool)) := by rw [← HR.out] <;> simp [as0, ad0, (bne_f_ft hq2)]
    subst hR2
    exact ret_cell_tmp (k := 6) (j := 7) (v := .bool false) Tryd.f15 (by kernel_rfl) Am5 Tryd.underlying32 (by kernel_rfl) (by rfl) (by rfl) rfl ⟨rfl, bm5⟩

  | true =>
    cases hq7 : (fam != 6) with
    | false =>
      obtain ⟨Wm8, hWm8⟩ : ∃ W, w.alloc (.cells #[.int .i64 0, .int .i64 0, .int .u64 0, .int .u64 0, .int .i64 0] 32) = W := ⟨_, rfl⟩
      have bm8 := bel_al b hWm8
      have Am8 := blk_nw hWm8
      have gA : w.heap.size ≤ w.heap.size := b.size
      go_wp2_with fail
      refine Calls.mono (KU.out _) ?_
      rintro e Wm9 ⟨rfl, bb⟩
      have Am9 := Am8.kept bb
      have bm9 := bel_tr bm8 bb
      clear bb
      clear Am8 bm8
      obtain ⟨Wm10, hWm10⟩ : ∃ W, Wm9.setRow w.heap.size (As.v ⟨0, ⟨0, 0, 0⟩, 0⟩) = W := ⟨_, rfl⟩
      have Am10 : Blk Wm10 w.heap.size 32 (As.v ⟨0, ⟨0, 0, 0⟩, 0⟩) := hWm10 ▸ Am9.set (As.v ⟨0, ⟨0, 0, 0⟩, 0⟩)
      have bm10 := hWm10 ▸ below_setRow bm9 gA (As.v ⟨0, ⟨0, 0, 0⟩, 0⟩)
      go_wp2_with (guard_target =~ wpList _ _ _ ({ dst := none, op := Op.store _ _ _, type := _, pos := _, after := _, guard := none } :: _) _ _; refine wpList_store_row rfl _ _ _ rfl w.heap.size (As.v ⟨0, ⟨0, 0, 0⟩, 0⟩) (by rfl) (by rfl) _ _ Am9 (by kernel_rfl) (by rfl) (by kernel_rfl) ?_; rw [hWm10])
      have hR2 : R = ((⟨0, ⟨0, 0, 0⟩, 0⟩ : As), (false : Bool)) := by rw [← HR.out] <;> simp [as0, ad0, (bne_t_ft hq2), (bne_f_ft hq7)]
      subst hR2
      exact ret_cell_tmp (k := 6) (j := 7) (v := .bool false) Tryd.f15 (by kernel_rfl) Am10 Tryd.underlying32 (by kernel_rfl) (by rfl) (by rfl) rfl ⟨rfl, bm10⟩

    | true =>
      obtain ⟨Wm11, hWm11⟩ : ∃ W, w.alloc (.cells #[.int .i64 0, .int .i64 0, .int .u64 0, .int .u64 0, .int .i64 0] 32) = W := ⟨_, rfl⟩
      have bm11 := bel_al b hWm11
      have Am11 := blk_nw hWm11
      have gA : w.heap.size ≤ w.heap.size := b.size
      exfalso
      have p3 := (bne_t_ft hq2)
      have p4 := (bne_t_ft hq7)
      omega
end Go.Proofs.YtnadfacbfcdkgaaDoor
