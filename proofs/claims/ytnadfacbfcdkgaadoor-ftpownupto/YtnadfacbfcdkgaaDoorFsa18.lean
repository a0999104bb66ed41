/- Texts joined: FtE -/
import Derived.Test.YtnadfacbfcdkgaaDoorFsa17
namespace Go.Proofs.YtnadfacbfcdkgaaDoor
open Go.RowKit
set_option linter.unusedVariables false
set_option linter.unusedSimpArgs false
theorem bne_t_ft {a b : Int} (h : (a != b) = true) : ¬ a = b := by simpa using h
theorem bne_f_ft {a b : Int} (h : (a != b) = false) : a = b := by simpa using h
theorem beq_ft (a b : Int) : (a == b) = decide (a = b) := by by_cases h : a = b <;> simp [h]
theorem empty_ft (l : List UInt8) : l.isEmpty = decide (l = []) := by cases l <;> simp
theorem ne_of_empty {l : List UInt8} (h : l.isEmpty = false) : ¬ l = [] := fun e => by rw [e] at h; cases h
theorem netOf_l (fam : Int) (w : World) : Calls Tryd.prog 44 #[.int .i64 fam] w fun e w' => e = .returned (.string ⟨(netF fam).toArray⟩) ∧ Below w.heap.size w w' := (netOf_ft fam w).mono fun e w' h => ⟨h.1, by rw [h.2]; exact Below.refl _ _⟩
set_option maxRecDepth 100000 in
set_option maxHeartbeats 4000000 in
theorem extended_l (fam : Int) (l : List UInt8) (m : Int) (w : World) (hl : l.length < 4294967281) (M : Mx m w) :
    Calls Tryd.prog 31 #[.int .i64 fam, .string ⟨l.toArray⟩] w fun e w' => e = .returned (.tuple #[.agg (askT (extF fam l)).1.v, .bool (askT (extF fam l)).2]) ∧ Below w.heap.size w w' := by
  obtain ⟨R, hR⟩ : ∃ R, askT (extF fam l) = R := ⟨_, rfl⟩
  have HR : Hid (askT (extF fam l) = R) := hR
  try rw [hR]
  clear hR
  have b := Below.refl w.heap.size w
  go_enter Tryd.func31, Tryd.ntmps31
  obtain ⟨Wm1, hWm1⟩ : ∃ W, w.alloc (.cells #[.int .i64 0, .int .i64 0, .int .u64 0, .int .u64 0, .int .i64 0] 32) = W := ⟨_, rfl⟩
  have bm1 := bel_al b hWm1
  have Mm1 := M.al hWm1
  have Am1 := blk_nw hWm1
  have gA : w.heap.size ≤ w.heap.size := b.size
  have nMA : 0 ≠ w.heap.size := fun e => by have := M.lt; omega
  go_wp2_with fail
  refine Calls.mono (fields_l l m _ hl Mm1) ?_
  rintro e Wm2 ⟨rfl, bb⟩
  have Mm2 := Mm1.kept bb
  have Am2 := Am1.kept bb
  have bm2 := bel_tr bm1 bb
  clear bb
  clear Mm1 Am1 bm1
  go_wp2_with fail
  refine Calls.mono (netOf_l fam _) ?_
  rintro e Wm3 ⟨rfl, bb⟩
  have Mm3 := Mm2.kept bb
  have Am3 := Am2.kept bb
  have bm3 := bel_tr bm2 bb
  clear bb
  clear Mm2 Am2 bm2
  cases hq4 : ((fldF l).1 == (netF fam)) with
  | false =>
    obtain ⟨Wm5, hWm5⟩ : ∃ W, Wm3.setRow w.heap.size as0.v = W := ⟨_, rfl⟩
    have Am5 : Blk Wm5 w.heap.size 32 as0.v := hWm5 ▸ Am3.set as0.v
    have Mm5 := hWm5 ▸ Mm3.other nMA as0.v
    have bm5 := hWm5 ▸ below_setRow bm3 gA as0.v
    go_wp2_with (refine wpList_store_row rfl _ _ _ rfl w.heap.size as0.v (by rfl) (by rfl) _ _ Am3 (by kernel_rfl) (by rfl) (by kernel_rfl) ?_; rw [hWm5])
    have hR2 : R = ((as0 : As), (false : Bool)) := by (rw [← HR.out]) <;> first | rfl | (simp [extF, beq_ft, empty_ft, (ne_of_beq_false hq4)]; done) | (simp [extF, beq_ft, empty_ft, (ne_of_beq_false hq4)]; rfl)
    subst hR2
    exact ret_cell_tmp (k := 4) (j := 5) Tryd.f31 (by kernel_rfl) Am5 Tryd.underlying32 (by kernel_rfl) (by rfl) (by rfl) rfl ⟨rfl, bm5⟩

  | true =>
    go_wp2_with fail
    refine Calls.mono (parse_l (fldF l).2.1 m _ (Nat.lt_of_le_of_lt (fld_len l).2.1 hl) Mm3) ?_
    rintro e Wm6 ⟨rfl, bb⟩
    have Mm6 := Mm3.kept bb
    have Am6 := Am3.kept bb
    have bm6 := bel_tr bm3 bb
    clear bb
    clear Mm3 Am3 bm3
    obtain ⟨Wm7, hWm7⟩ : ∃ W, Wm6.alloc (.cells #[.int .i64 0, .int .u64 0, .int .u64 0] 30) = W := ⟨_, rfl⟩
    have bm7 := bel_al bm6 hWm7
    have Mm7 := Mm6.al hWm7
    have Am7 := Am6.al hWm7
    have Bm7 := blk_nw hWm7
    have gB : w.heap.size ≤ Wm6.heap.size := bm6.size
    have nMB : 0 ≠ Wm6.heap.size := fun e => by have := Mm6.lt; omega
    have nAB : w.heap.size ≠ Wm6.heap.size := by have := Am6.lt; omega
    have nBA : Wm6.heap.size ≠ w.heap.size := fun e => nAB e.symm
    obtain ⟨Wm8, hWm8⟩ : ∃ W, Wm7.setRow Wm6.heap.size (Ad.va (parseB (fldF l).2.1).1) = W := ⟨_, rfl⟩
    have Bm8 : Blk Wm8 Wm6.heap.size 30 (Ad.va (parseB (fldF l).2.1).1) := hWm8 ▸ Bm7.set (Ad.va (parseB (fldF l).2.1).1)
    have Mm8 := hWm8 ▸ Mm7.other nMB (Ad.va (parseB (fldF l).2.1).1)
    have Am8 := hWm8 ▸ Am7.other nAB (Ad.va (parseB (fldF l).2.1).1)
    have bm8 := hWm8 ▸ below_setRow bm7 gB (Ad.va (parseB (fldF l).2.1).1)
    go_wp2_with (refine wpList_store_row rfl _ _ _ rfl Wm6.heap.size (Ad.va (parseB (fldF l).2.1).1) (by rfl) (by rfl) _ _ Bm7 (by kernel_rfl) (by rfl) (by kernel_rfl) ?_; rw [hWm8])
    refine Calls.mono (number_l (fldF l).2.2 65535 _ (Nat.lt_of_le_of_lt (fld_len l).2.2 hl) (by decide)) ?_
    rintro e Wm9 ⟨rfl, bb⟩
    have Mm9 := Mm8.kept bb
    have Am9 := Am8.kept bb
    have Bm9 := Bm8.kept bb
    have bm9 := bel_tr bm8 bb
    clear bb
    clear Mm8 Am8 Bm8 bm8
    cases hq10 : (num 65535 (fldF l).2.2).2 with
    | false =>
      go_wp2_with (refine wpList_load_blk_w (by rfl) _ _ rfl Wm6.heap.size (by rfl) _ Bm9 Tryd.underlying30 (by kernel_rfl) ?_)
      refine Calls.mono (place_ft (parseB (fldF l).2.1).1 (num 65535 (fldF l).2.2).1 false _) ?_
      rintro e Wm11 ⟨rfl, bb⟩
      have Mm11 := Mm9.kept bb
      have Am11 := Am9.kept bb
      have Bm11 := Bm9.kept bb
      have bm11 := bel_tr bm9 bb
      clear bb
      clear Mm9 Am9 Bm9 bm9
      obtain ⟨Wm12, hWm12⟩ : ∃ W, Wm11.setRow w.heap.size (askT (placeF (parseB (fldF l).2.1).1 (num 65535 (fldF l).2.2).1 false)).1.v = W := ⟨_, rfl⟩
      have Am12 : Blk Wm12 w.heap.size 32 (askT (placeF (parseB (fldF l).2.1).1 (num 65535 (fldF l).2.2).1 false)).1.v := hWm12 ▸ Am11.set (askT (placeF (parseB (fldF l).2.1).1 (num 65535 (fldF l).2.2).1 false)).1.v
      have Mm12 := hWm12 ▸ Mm11.other nMA (askT (placeF (parseB (fldF l).2.1).1 (num 65535 (fldF l).2.2).1 false)).1.v
      have Bm12 := hWm12 ▸ Bm11.other nBA (askT (placeF (parseB (fldF l).2.1).1 (num 65535 (fldF l).2.2).1 false)).1.v
      have bm12 := hWm12 ▸ below_setRow bm11 gA (askT (placeF (parseB (fldF l).2.1).1 (num 65535 (fldF l).2.2).1 false)).1.v
      go_wp2_with (refine wpList_store_row rfl _ _ _ rfl w.heap.size (askT (placeF (parseB (fldF l).2.1).1 (num 65535 (fldF l).2.2).1 false)).1.v (by rfl) (by rfl) _ _ Am11 (by kernel_rfl) (by rfl) (by kernel_rfl) ?_; rw [hWm12])
      have hR2 : R = (((askT (placeF (parseB (fldF l).2.1).1 (num 65535 (fldF l).2.2).1 false)).1 : As), ((askT (placeF (parseB (fldF l).2.1).1 (num 65535 (fldF l).2.2).1 false)).2 : Bool)) := by (rw [← HR.out]) <;> first | rfl | (simp [extF, beq_ft, empty_ft, (eq_of_beq hq4), hq10]; done) | (simp [extF, beq_ft, empty_ft, (eq_of_beq hq4), hq10]; rfl)
      subst hR2
      exact ret_cell_tmp (k := 4) (j := 5) Tryd.f31 (by kernel_rfl) Am12 Tryd.underlying32 (by kernel_rfl) (by rfl) (by rfl) rfl ⟨rfl, bm12⟩

    | true =>
      cases hq13 : ((parseB (fldF l).2.1).2 == 0) with
      | false =>
        go_wp2_with (refine wpList_load_blk_w (by rfl) _ _ rfl Wm6.heap.size (by rfl) _ Bm9 Tryd.underlying30 (by kernel_rfl) ?_)
        refine Calls.mono (place_ft (parseB (fldF l).2.1).1 (num 65535 (fldF l).2.2).1 false _) ?_
        rintro e Wm14 ⟨rfl, bb⟩
        have Mm14 := Mm9.kept bb
        have Am14 := Am9.kept bb
        have Bm14 := Bm9.kept bb
        have bm14 := bel_tr bm9 bb
        clear bb
        clear Mm9 Am9 Bm9 bm9
        obtain ⟨Wm15, hWm15⟩ : ∃ W, Wm14.setRow w.heap.size (askT (placeF (parseB (fldF l).2.1).1 (num 65535 (fldF l).2.2).1 false)).1.v = W := ⟨_, rfl⟩
        have Am15 : Blk Wm15 w.heap.size 32 (askT (placeF (parseB (fldF l).2.1).1 (num 65535 (fldF l).2.2).1 false)).1.v := hWm15 ▸ Am14.set (askT (placeF (parseB (fldF l).2.1).1 (num 65535 (fldF l).2.2).1 false)).1.v
        have Mm15 := hWm15 ▸ Mm14.other nMA (askT (placeF (parseB (fldF l).2.1).1 (num 65535 (fldF l).2.2).1 false)).1.v
        have Bm15 := hWm15 ▸ Bm14.other nBA (askT (placeF (parseB (fldF l).2.1).1 (num 65535 (fldF l).2.2).1 false)).1.v
        have bm15 := hWm15 ▸ below_setRow bm14 gA (askT (placeF (parseB (fldF l).2.1).1 (num 65535 (fldF l).2.2).1 false)).1.v
        go_wp2_with (refine wpList_store_row rfl _ _ _ rfl w.heap.size (askT (placeF (parseB (fldF l).2.1).1 (num 65535 (fldF l).2.2).1 false)).1.v (by rfl) (by rfl) _ _ Am14 (by kernel_rfl) (by rfl) (by kernel_rfl) ?_; rw [hWm15])
        have hR2 : R = (((askT (placeF (parseB (fldF l).2.1).1 (num 65535 (fldF l).2.2).1 false)).1 : As), ((askT (placeF (parseB (fldF l).2.1).1 (num 65535 (fldF l).2.2).1 false)).2 : Bool)) := by (rw [← HR.out]) <;> first | rfl | (simp [extF, beq_ft, empty_ft, (eq_of_beq hq4), hq10, (ne_of_beq_false hq13)]; done) | (simp [extF, beq_ft, empty_ft, (eq_of_beq hq4), hq10, (ne_of_beq_false hq13)]; rfl)
        subst hR2
        exact ret_cell_tmp (k := 4) (j := 5) Tryd.f31 (by kernel_rfl) Am15 Tryd.underlying32 (by kernel_rfl) (by rfl) (by rfl) rfl ⟨rfl, bm15⟩

      | true =>
        have c16 := Bm9.cell 0 (.int .i64 (parseB (fldF l).2.1).1.fam) rfl
        go_wp2_with (refine wpList_load_blk_w (by rfl) _ _ rfl Wm6.heap.size (by rfl) _ Bm9 Tryd.underlying30 (by kernel_rfl) ?_)
        clear c16
        refine Calls.mono (place_ft (parseB (fldF l).2.1).1 (num 65535 (fldF l).2.2).1 ((parseB (fldF l).2.1).1.fam == fam) _) ?_
        rintro e Wm17 ⟨rfl, bb⟩
        have Mm17 := Mm9.kept bb
        have Am17 := Am9.kept bb
        have Bm17 := Bm9.kept bb
        have bm17 := bel_tr bm9 bb
        clear bb
        clear Mm9 Am9 Bm9 bm9
        obtain ⟨Wm18, hWm18⟩ : ∃ W, Wm17.setRow w.heap.size (askT (placeF (parseB (fldF l).2.1).1 (num 65535 (fldF l).2.2).1 ((parseB (fldF l).2.1).1.fam == fam))).1.v = W := ⟨_, rfl⟩
        have Am18 : Blk Wm18 w.heap.size 32 (askT (placeF (parseB (fldF l).2.1).1 (num 65535 (fldF l).2.2).1 ((parseB (fldF l).2.1).1.fam == fam))).1.v := hWm18 ▸ Am17.set (askT (placeF (parseB (fldF l).2.1).1 (num 65535 (fldF l).2.2).1 ((parseB (fldF l).2.1).1.fam == fam))).1.v
        have Mm18 := hWm18 ▸ Mm17.other nMA (askT (placeF (parseB (fldF l).2.1).1 (num 65535 (fldF l).2.2).1 ((parseB (fldF l).2.1).1.fam == fam))).1.v
        have Bm18 := hWm18 ▸ Bm17.other nBA (askT (placeF (parseB (fldF l).2.1).1 (num 65535 (fldF l).2.2).1 ((parseB (fldF l).2.1).1.fam == fam))).1.v
        have bm18 := hWm18 ▸ below_setRow bm17 gA (askT (placeF (parseB (fldF l).2.1).1 (num 65535 (fldF l).2.2).1 ((parseB (fldF l).2.1).1.fam == fam))).1.v
        go_wp2_with (refine wpList_store_row rfl _ _ _ rfl w.heap.size (askT (placeF (parseB (fldF l).2.1).1 (num 65535 (fldF l).2.2).1 ((parseB (fldF l).2.1).1.fam == fam))).1.v (by rfl) (by rfl) _ _ Am17 (by kernel_rfl) (by rfl) (by kernel_rfl) ?_; rw [hWm18])
        have hR2 : R = (((askT (placeF (parseB (fldF l).2.1).1 (num 65535 (fldF l).2.2).1 ((parseB (fldF l).2.1).1.fam == fam))).1 : As), ((askT (placeF (parseB (fldF l).2.1).1 (num 65535 (fldF l).2.2).1 ((parseB (fldF l).2.1).1.fam == fam))).2 : Bool)) := by (rw [← HR.out]) <;> first | rfl | (simp [extF, beq_ft, empty_ft, (eq_of_beq hq4), hq10, (eq_of_beq hq13)]; done) | (simp [extF, beq_ft, empty_ft, (eq_of_beq hq4), hq10, (eq_of_beq hq13)]; rfl)
        subst hR2
        exact ret_cell_tmp (k := 4) (j := 5) Tryd.f31 (by kernel_rfl) Am18 Tryd.underlying32 (by kernel_rfl) (by rfl) (by rfl) rfl ⟨rfl, bm18⟩
set_option maxRecDepth 100000 in
set_option maxHeartbeats 4000000 in
theorem portAlone_l (l : List UInt8) (m : Int) (w : World) (hl : l.length < 4294967281) (M : Mx m w) :
    Calls Tryd.prog 33 #[.string ⟨l.toArray⟩] w fun e w' => e = .returned (.tuple #[.agg (askT (porF l)).1.v, .bool (askT (porF l)).2]) ∧ Below w.heap.size w w' := by
  obtain ⟨R, hR⟩ : ∃ R, askT (porF l) = R := ⟨_, rfl⟩
  have HR : Hid (askT (porF l) = R) := hR
  try rw [hR]
  clear hR
  have b := Below.refl w.heap.size w
  go_enter Tryd.func33, Tryd.ntmps33
  obtain ⟨Wm1, hWm1⟩ : ∃ W, w.alloc (.cells #[.int .i64 0, .int .i64 0, .int .u64 0, .int .u64 0, .int .i64 0] 32) = W := ⟨_, rfl⟩
  have bm1 := bel_al b hWm1
  have Mm1 := M.al hWm1
  have Am1 := blk_nw hWm1
  have gA : w.heap.size ≤ w.heap.size := b.size
  have nMA : 0 ≠ w.heap.size := fun e => by have := M.lt; omega
  go_wp2_with fail
  refine Calls.mono (fields_l l m _ hl Mm1) ?_
  rintro e Wm2 ⟨rfl, bb⟩
  have Mm2 := Mm1.kept bb
  have Am2 := Am1.kept bb
  have bm2 := bel_tr bm1 bb
  clear bb
  clear Mm1 Am1 bm1
  go_wp2_with fail
  refine Calls.mono (number_l (fldF l).2.2 65535 _ (Nat.lt_of_le_of_lt (fld_len l).2.2 hl) (by decide)) ?_
  rintro e Wm3 ⟨rfl, bb⟩
  have Mm3 := Mm2.kept bb
  have Am3 := Am2.kept bb
  have bm3 := bel_tr bm2 bb
  clear bb
  clear Mm2 Am2 bm2
  cases hq4 : (num 65535 (fldF l).2.2).2 with
  | false =>
    go_wp2_with fail
    refine Calls.mono (place_ft ad0 (num 65535 (fldF l).2.2).1 false _) ?_
    rintro e Wm5 ⟨rfl, bb⟩
    have Mm5 := Mm3.kept bb
    have Am5 := Am3.kept bb
    have bm5 := bel_tr bm3 bb
    clear bb
    clear Mm3 Am3 bm3
    obtain ⟨Wm6, hWm6⟩ : ∃ W, Wm5.setRow w.heap.size (askT (placeF ad0 (num 65535 (fldF l).2.2).1 false)).1.v = W := ⟨_, rfl⟩
    have Am6 : Blk Wm6 w.heap.size 32 (askT (placeF ad0 (num 65535 (fldF l).2.2).1 false)).1.v := hWm6 ▸ Am5.set (askT (placeF ad0 (num 65535 (fldF l).2.2).1 false)).1.v
    have Mm6 := hWm6 ▸ Mm5.other nMA (askT (placeF ad0 (num 65535 (fldF l).2.2).1 false)).1.v
    have bm6 := hWm6 ▸ below_setRow bm5 gA (askT (placeF ad0 (num 65535 (fldF l).2.2).1 false)).1.v
    go_wp2_with (refine wpList_store_row rfl _ _ _ rfl w.heap.size (askT (placeF ad0 (num 65535 (fldF l).2.2).1 false)).1.v (by rfl) (by rfl) _ _ Am5 (by kernel_rfl) (by rfl) (by kernel_rfl) ?_; rw [hWm6])
    have hR2 : R = (((askT (placeF ad0 (num 65535 (fldF l).2.2).1 false)).1 : As), ((askT (placeF ad0 (num 65535 (fldF l).2.2).1 false)).2 : Bool)) := by (rw [← HR.out]) <;> first | rfl | (simp [porF, beq_ft, empty_ft, hq4]; done) | (simp [porF, beq_ft, empty_ft, hq4]; rfl)
    subst hR2
    exact ret_cell_tmp (k := 2) (j := 3) Tryd.f33 (by kernel_rfl) Am6 Tryd.underlying32 (by kernel_rfl) (by rfl) (by rfl) rfl ⟨rfl, bm6⟩

  | true =>
    cases hq7 : (fldF l).1.isEmpty with
    | false =>
      go_wp2_with fail
      refine Calls.mono (place_ft ad0 (num 65535 (fldF l).2.2).1 false _) ?_
      rintro e Wm8 ⟨rfl, bb⟩
      have Mm8 := Mm3.kept bb
      have Am8 := Am3.kept bb
      have bm8 := bel_tr bm3 bb
      clear bb
      clear Mm3 Am3 bm3
      obtain ⟨Wm9, hWm9⟩ : ∃ W, Wm8.setRow w.heap.size (askT (placeF ad0 (num 65535 (fldF l).2.2).1 false)).1.v = W := ⟨_, rfl⟩
      have Am9 : Blk Wm9 w.heap.size 32 (askT (placeF ad0 (num 65535 (fldF l).2.2).1 false)).1.v := hWm9 ▸ Am8.set (askT (placeF ad0 (num 65535 (fldF l).2.2).1 false)).1.v
      have Mm9 := hWm9 ▸ Mm8.other nMA (askT (placeF ad0 (num 65535 (fldF l).2.2).1 false)).1.v
      have bm9 := hWm9 ▸ below_setRow bm8 gA (askT (placeF ad0 (num 65535 (fldF l).2.2).1 false)).1.v
      go_wp2_with (refine wpList_store_row rfl _ _ _ rfl w.heap.size (askT (placeF ad0 (num 65535 (fldF l).2.2).1 false)).1.v (by rfl) (by rfl) _ _ Am8 (by kernel_rfl) (by rfl) (by kernel_rfl) ?_; rw [hWm9])
      have hR2 : R = (((askT (placeF ad0 (num 65535 (fldF l).2.2).1 false)).1 : As), ((askT (placeF ad0 (num 65535 (fldF l).2.2).1 false)).2 : Bool)) := by (rw [← HR.out]) <;> first | rfl | (simp [porF, beq_ft, empty_ft, hq4, (ne_of_empty hq7)]; done) | (simp [porF, beq_ft, empty_ft, hq4, (ne_of_empty hq7)]; rfl)
      subst hR2
      exact ret_cell_tmp (k := 2) (j := 3) Tryd.f33 (by kernel_rfl) Am9 Tryd.underlying32 (by kernel_rfl) (by rfl) (by rfl) rfl ⟨rfl, bm9⟩

    | true =>
      go_wp2_with fail
      refine Calls.mono (place_ft ad0 (num 65535 (fldF l).2.2).1 (fldF l).2.1.isEmpty _) ?_
      rintro e Wm10 ⟨rfl, bb⟩
      have Mm10 := Mm3.kept bb
      have Am10 := Am3.kept bb
      have bm10 := bel_tr bm3 bb
      clear bb
      clear Mm3 Am3 bm3
      obtain ⟨Wm11, hWm11⟩ : ∃ W, Wm10.setRow w.heap.size (askT (placeF ad0 (num 65535 (fldF l).2.2).1 (fldF l).2.1.isEmpty)).1.v = W := ⟨_, rfl⟩
      have Am11 : Blk Wm11 w.heap.size 32 (askT (placeF ad0 (num 65535 (fldF l).2.2).1 (fldF l).2.1.isEmpty)).1.v := hWm11 ▸ Am10.set (askT (placeF ad0 (num 65535 (fldF l).2.2).1 (fldF l).2.1.isEmpty)).1.v
      have Mm11 := hWm11 ▸ Mm10.other nMA (askT (placeF ad0 (num 65535 (fldF l).2.2).1 (fldF l).2.1.isEmpty)).1.v
      have bm11 := hWm11 ▸ below_setRow bm10 gA (askT (placeF ad0 (num 65535 (fldF l).2.2).1 (fldF l).2.1.isEmpty)).1.v
      go_wp2_with (refine wpList_store_row rfl _ _ _ rfl w.heap.size (askT (placeF ad0 (num 65535 (fldF l).2.2).1 (fldF l).2.1.isEmpty)).1.v (by rfl) (by rfl) _ _ Am10 (by kernel_rfl) (by rfl) (by kernel_rfl) ?_; rw [hWm11])
      have hR2 : R = (((askT (placeF ad0 (num 65535 (fldF l).2.2).1 (fldF l).2.1.isEmpty)).1 : As), ((askT (placeF ad0 (num 65535 (fldF l).2.2).1 (fldF l).2.1.isEmpty)).2 : Bool)) := by (rw [← HR.out]) <;> first | rfl | (simp [porF, beq_ft, empty_ft, hq4, (List.isEmpty_iff.1 hq7)]; done) | (simp [porF, beq_ft, empty_ft, hq4, (List.isEmpty_iff.1 hq7)]; rfl)
      subst hR2
      exact ret_cell_tmp (k := 2) (j := 3) Tryd.f33 (by kernel_rfl) Am11 Tryd.underlying32 (by kernel_rfl) (by rfl) (by rfl) rfl ⟨rfl, bm11⟩
set_option maxRecDepth 100000 in
set_option maxHeartbeats 4000000 in
theorem command_l (fam : Int) (l : List UInt8) (m : Int) (w : World) (hl : l.length < 4294967281) (M : Mx m w) :
    Calls Tryd.prog 20 #[.int .i64 fam, .string ⟨l.toArray⟩] w fun e w' => e = .returned (.tuple #[.agg (askT (comF fam l)).1.v, .bool (askT (comF fam l)).2]) ∧ Below w.heap.size w w' := by
  obtain ⟨R, hR⟩ : ∃ R, askT (comF fam l) = R := ⟨_, rfl⟩
  have HR : Hid (askT (comF fam l) = R) := hR
  try rw [hR]
  clear hR
  have b := Below.refl w.heap.size w
  go_enter Tryd.func20, Tryd.ntmps20
  obtain ⟨Wm1, hWm1⟩ : ∃ W, w.alloc (.cells #[.int .i64 0, .int .i64 0, .int .u64 0, .int .u64 0, .int .i64 0] 32) = W := ⟨_, rfl⟩
  have bm1 := bel_al b hWm1
  have Mm1 := M.al hWm1
  have Am1 := blk_nw hWm1
  have gA : w.heap.size ≤ w.heap.size := b.size
  have nMA : 0 ≠ w.heap.size := fun e => by have := M.lt; omega
  go_wp2_with fail
  refine Calls.mono (behind_l hPORT l _ (by decide) (by decide) hl) ?_
  rintro e Wm2 ⟨rfl, bb⟩
  have Mm2 := Mm1.kept bb
  have Am2 := Am1.kept bb
  have bm2 := bel_tr bm1 bb
  clear bb
  clear Mm1 Am1 bm1
  cases hq3 : (behF hPORT l).isSome with
  | false =>
    go_wp2_with fail
    refine Calls.mono (behind_l hEPRT l _ (by decide) (by decide) hl) ?_
    rintro e Wm4 ⟨rfl, bb⟩
    have Mm4 := Mm2.kept bb
    have Am4 := Am2.kept bb
    have bm4 := bel_tr bm2 bb
    clear bb
    clear Mm2 Am2 bm2
    cases hq5 : (behF hEPRT l).isSome with
    | false =>
      obtain ⟨Wm6, hWm6⟩ : ∃ W, Wm4.setRow w.heap.size as0.v = W := ⟨_, rfl⟩
      have Am6 : Blk Wm6 w.heap.size 32 as0.v := hWm6 ▸ Am4.set as0.v
      have Mm6 := hWm6 ▸ Mm4.other nMA as0.v
      have bm6 := hWm6 ▸ below_setRow bm4 gA as0.v
      go_wp2_with (refine wpList_store_row rfl _ _ _ rfl w.heap.size as0.v (by rfl) (by rfl) _ _ Am4 (by kernel_rfl) (by rfl) (by kernel_rfl) ?_; rw [hWm6])
      have hR2 : R = ((as0 : As), (false : Bool)) := by (rw [← HR.out]) <;> first | rfl | (simp [comF, beq_ft, empty_ft, hq3, hq5]; done) | (simp [comF, beq_ft, empty_ft, hq3, hq5]; rfl)
      subst hR2
      exact ret_cell_tmp (k := 4) (j := 5) Tryd.f20 (by kernel_rfl) Am6 Tryd.underlying32 (by kernel_rfl) (by rfl) (by rfl) rfl ⟨rfl, bm6⟩

    | true =>
      go_wp2_with fail
      refine Calls.mono (extended_l fam ((behF hEPRT l).getD []) m _ (Nat.lt_of_le_of_lt (beh_len hEPRT l) hl) Mm4) ?_
      rintro e Wm7 ⟨rfl, bb⟩
      have Mm7 := Mm4.kept bb
      have Am7 := Am4.kept bb
      have bm7 := bel_tr bm4 bb
      clear bb
      clear Mm4 Am4 bm4
      obtain ⟨Wm8, hWm8⟩ : ∃ W, Wm7.setRow w.heap.size (askT (extF fam ((behF hEPRT l).getD []))).1.v = W := ⟨_, rfl⟩
      have Am8 : Blk Wm8 w.heap.size 32 (askT (extF fam ((behF hEPRT l).getD []))).1.v := hWm8 ▸ Am7.set (askT (extF fam ((behF hEPRT l).getD []))).1.v
      have Mm8 := hWm8 ▸ Mm7.other nMA (askT (extF fam ((behF hEPRT l).getD []))).1.v
      have bm8 := hWm8 ▸ below_setRow bm7 gA (askT (extF fam ((behF hEPRT l).getD []))).1.v
      go_wp2_with (refine wpList_store_row rfl _ _ _ rfl w.heap.size (askT (extF fam ((behF hEPRT l).getD []))).1.v (by rfl) (by rfl) _ _ Am7 (by kernel_rfl) (by rfl) (by kernel_rfl) ?_; rw [hWm8])
      have hR2 : R = (((askT (extF fam ((behF hEPRT l).getD []))).1 : As), ((askT (extF fam ((behF hEPRT l).getD []))).2 : Bool)) := by (rw [← HR.out]) <;> first | rfl | (simp [comF, beq_ft, empty_ft, hq3, hq5]; done) | (simp [comF, beq_ft, empty_ft, hq3, hq5]; rfl)
      subst hR2
      exact ret_cell_tmp (k := 4) (j := 5) Tryd.f20 (by kernel_rfl) Am8 Tryd.underlying32 (by kernel_rfl) (by rfl) (by rfl) rfl ⟨rfl, bm8⟩


  | true =>
    cases hq9 : (fam == 4) with
    | false =>
      go_wp2_with fail
      refine Calls.mono (behind_l hEPRT l _ (by decide) (by decide) hl) ?_
      rintro e Wm10 ⟨rfl, bb⟩
      have Mm10 := Mm2.kept bb
      have Am10 := Am2.kept bb
      have bm10 := bel_tr bm2 bb
      clear bb
      clear Mm2 Am2 bm2
      cases hq11 : (behF hEPRT l).isSome with
      | false =>
        obtain ⟨Wm12, hWm12⟩ : ∃ W, Wm10.setRow w.heap.size as0.v = W := ⟨_, rfl⟩
        have Am12 : Blk Wm12 w.heap.size 32 as0.v := hWm12 ▸ Am10.set as0.v
        have Mm12 := hWm12 ▸ Mm10.other nMA as0.v
        have bm12 := hWm12 ▸ below_setRow bm10 gA as0.v
        go_wp2_with (refine wpList_store_row rfl _ _ _ rfl w.heap.size as0.v (by rfl) (by rfl) _ _ Am10 (by kernel_rfl) (by rfl) (by kernel_rfl) ?_; rw [hWm12])
        have hR2 : R = ((as0 : As), (false : Bool)) := by (rw [← HR.out]) <;> first | rfl | (simp [comF, beq_ft, empty_ft, hq3, (ne_of_beq_false hq9), hq11]; done) | (simp [comF, beq_ft, empty_ft, hq3, (ne_of_beq_false hq9), hq11]; rfl)
        subst hR2
        exact ret_cell_tmp (k := 4) (j := 5) Tryd.f20 (by kernel_rfl) Am12 Tryd.underlying32 (by kernel_rfl) (by rfl) (by rfl) rfl ⟨rfl, bm12⟩

      | true =>
        go_wp2_with fail
        refine Calls.mono (extended_l fam ((behF hEPRT l).getD []) m _ (Nat.lt_of_le_of_lt (beh_len hEPRT l) hl) Mm10) ?_
        rintro e Wm13 ⟨rfl, bb⟩
        have Mm13 := Mm10.kept bb
        have Am13 := Am10.kept bb
        have bm13 := bel_tr bm10 bb
        clear bb
        clear Mm10 Am10 bm10
        obtain ⟨Wm14, hWm14⟩ : ∃ W, Wm13.setRow w.heap.size (askT (extF fam ((behF hEPRT l).getD []))).1.v = W := ⟨_, rfl⟩
        have Am14 : Blk Wm14 w.heap.size 32 (askT (extF fam ((behF hEPRT l).getD []))).1.v := hWm14 ▸ Am13.set (askT (extF fam ((behF hEPRT l).getD []))).1.v
        have Mm14 := hWm14 ▸ Mm13.other nMA (askT (extF fam ((behF hEPRT l).getD []))).1.v
        have bm14 := hWm14 ▸ below_setRow bm13 gA (askT (extF fam ((behF hEPRT l).getD []))).1.v
        go_wp2_with (refine wpList_store_row rfl _ _ _ rfl w.heap.size (askT (extF fam ((behF hEPRT l).getD []))).1.v (by rfl) (by rfl) _ _ Am13 (by kernel_rfl) (by rfl) (by kernel_rfl) ?_; rw [hWm14])
        have hR2 : R = (((askT (extF fam ((behF hEPRT l).getD []))).1 : As), ((askT (extF fam ((behF hEPRT l).getD []))).2 : Bool)) := by (rw [← HR.out]) <;> first | rfl | (simp [comF, beq_ft, empty_ft, hq3, (ne_of_beq_false hq9), hq11]; done) | (simp [comF, beq_ft, empty_ft, hq3, (ne_of_beq_false hq9), hq11]; rfl)
        subst hR2
        exact ret_cell_tmp (k := 4) (j := 5) Tryd.f20 (by kernel_rfl) Am14 Tryd.underlying32 (by kernel_rfl) (by rfl) (by rfl) rfl ⟨rfl, bm14⟩


    | true =>
      go_wp2_with fail
      refine Calls.mono (six_l ((behF hPORT l).getD []) m _ (Nat.lt_of_le_of_lt (beh_len hPORT l) hl) Mm2) ?_
      rintro e Wm15 ⟨rfl, bb⟩
      have Mm15 := Mm2.kept bb
      have Am15 := Am2.kept bb
      have bm15 := bel_tr bm2 bb
      clear bb
      clear Mm2 Am2 bm2
      obtain ⟨Wm16, hWm16⟩ : ∃ W, Wm15.setRow w.heap.size (askT (sixF ((behF hPORT l).getD []))).1.v = W := ⟨_, rfl⟩
      have Am16 : Blk Wm16 w.heap.size 32 (askT (sixF ((behF hPORT l).getD []))).1.v := hWm16 ▸ Am15.set (askT (sixF ((behF hPORT l).getD []))).1.v
      have Mm16 := hWm16 ▸ Mm15.other nMA (askT (sixF ((behF hPORT l).getD []))).1.v
      have bm16 := hWm16 ▸ below_setRow bm15 gA (askT (sixF ((behF hPORT l).getD []))).1.v
      go_wp2_with (refine wpList_store_row rfl _ _ _ rfl w.heap.size (askT (sixF ((behF hPORT l).getD []))).1.v (by rfl) (by rfl) _ _ Am15 (by kernel_rfl) (by rfl) (by kernel_rfl) ?_; rw [hWm16])
      have hR2 : R = (((askT (sixF ((behF hPORT l).getD []))).1 : As), ((askT (sixF ((behF hPORT l).getD []))).2 : Bool)) := by (rw [← HR.out]) <;> first | rfl | (simp [comF, beq_ft, empty_ft, hq3, (eq_of_beq hq9)]; done) | (simp [comF, beq_ft, empty_ft, hq3, (eq_of_beq hq9)]; rfl)
      subst hR2
      exact ret_cell_tmp (k := 4) (j := 5) Tryd.f20 (by kernel_rfl) Am16 Tryd.underlying32 (by kernel_rfl) (by rfl) (by rfl) rfl ⟨rfl, bm16⟩
set_option maxRecDepth 100000 in
set_option maxHeartbeats 4000000 in
theorem answer_l (fam : Int) (l : List UInt8) (m : Int) (w : World) (hl : l.length < 4294967281) (M : Mx m w) :
    Calls Tryd.prog 21 #[.int .i64 fam, .string ⟨l.toArray⟩] w fun e w' => e = .returned (.tuple #[.agg (askT (ansF fam l)).1.v, .bool (askT (ansF fam l)).2]) ∧ Below w.heap.size w w' := by
  obtain ⟨R, hR⟩ : ∃ R, askT (ansF fam l) = R := ⟨_, rfl⟩
  have HR : Hid (askT (ansF fam l) = R) := hR
  try rw [hR]
  clear hR
  have b := Below.refl w.heap.size w
  go_enter Tryd.func21, Tryd.ntmps21
  obtain ⟨Wm1, hWm1⟩ : ∃ W, w.alloc (.cells #[.int .i64 0, .int .i64 0, .int .u64 0, .int .u64 0, .int .i64 0] 32) = W := ⟨_, rfl⟩
  have bm1 := bel_al b hWm1
  have Mm1 := M.al hWm1
  have Am1 := blk_nw hWm1
  have gA : w.heap.size ≤ w.heap.size := b.size
  have nMA : 0 ≠ w.heap.size := fun e => by have := M.lt; omega
  go_wp2_with fail
  refine Calls.mono (behind_l h227 l _ (by decide) (by decide) hl) ?_
  rintro e Wm2 ⟨rfl, bb⟩
  have Mm2 := Mm1.kept bb
  have Am2 := Am1.kept bb
  have bm2 := bel_tr bm1 bb
  clear bb
  clear Mm1 Am1 bm1
  cases hq3 : (behF h227 l).isSome with
  | false =>
    go_wp2_with fail
    refine Calls.mono (behind_l h229 l _ (by decide) (by decide) hl) ?_
    rintro e Wm4 ⟨rfl, bb⟩
    have Mm4 := Mm2.kept bb
    have Am4 := Am2.kept bb
    have bm4 := bel_tr bm2 bb
    clear bb
    clear Mm2 Am2 bm2
    cases hq5 : (behF h229 l).isSome with
    | false =>
      obtain ⟨Wm6, hWm6⟩ : ∃ W, Wm4.setRow w.heap.size as0.v = W := ⟨_, rfl⟩
      have Am6 : Blk Wm6 w.heap.size 32 as0.v := hWm6 ▸ Am4.set as0.v
      have Mm6 := hWm6 ▸ Mm4.other nMA as0.v
      have bm6 := hWm6 ▸ below_setRow bm4 gA as0.v
      go_wp2_with (refine wpList_store_row rfl _ _ _ rfl w.heap.size as0.v (by rfl) (by rfl) _ _ Am4 (by kernel_rfl) (by rfl) (by kernel_rfl) ?_; rw [hWm6])
      have hR2 : R = ((as0 : As), (false : Bool)) := by (rw [← HR.out]) <;> first | rfl | (simp [ansF, beq_ft, empty_ft, hq3, hq5]; done) | (simp [ansF, beq_ft, empty_ft, hq3, hq5]; rfl)
      subst hR2
      exact ret_cell_tmp (k := 4) (j := 5) Tryd.f21 (by kernel_rfl) Am6 Tryd.underlying32 (by kernel_rfl) (by rfl) (by rfl) rfl ⟨rfl, bm6⟩

    | true =>
      go_wp2_with fail
      refine Calls.mono (within_l ((behF h229 l).getD []) m _ (Nat.lt_of_le_of_lt (beh_len h229 l) hl) Mm4) ?_
      rintro e Wm7 ⟨rfl, bb⟩
      have Mm7 := Mm4.kept bb
      have Am7 := Am4.kept bb
      have bm7 := bel_tr bm4 bb
      clear bb
      clear Mm4 Am4 bm4
      go_wp2_with fail
      refine Calls.mono (portAlone_l (wthF ((behF h229 l).getD [])) m _ (Nat.lt_of_le_of_lt (wth_len ((behF h229 l).getD [])) (Nat.lt_of_le_of_lt (beh_len h229 l) hl)) Mm7) ?_
      rintro e Wm8 ⟨rfl, bb⟩
      have Mm8 := Mm7.kept bb
      have Am8 := Am7.kept bb
      have bm8 := bel_tr bm7 bb
      clear bb
      clear Mm7 Am7 bm7
      obtain ⟨Wm9, hWm9⟩ : ∃ W, Wm8.setRow w.heap.size (askT (porF (wthF ((behF h229 l).getD [])))).1.v = W := ⟨_, rfl⟩
      have Am9 : Blk Wm9 w.heap.size 32 (askT (porF (wthF ((behF h229 l).getD [])))).1.v := hWm9 ▸ Am8.set (askT (porF (wthF ((behF h229 l).getD [])))).1.v
      have Mm9 := hWm9 ▸ Mm8.other nMA (askT (porF (wthF ((behF h229 l).getD [])))).1.v
      have bm9 := hWm9 ▸ below_setRow bm8 gA (askT (porF (wthF ((behF h229 l).getD [])))).1.v
      go_wp2_with (refine wpList_store_row rfl _ _ _ rfl w.heap.size (askT (porF (wthF ((behF h229 l).getD [])))).1.v (by rfl) (by rfl) _ _ Am8 (by kernel_rfl) (by rfl) (by kernel_rfl) ?_; rw [hWm9])
      have hR2 : R = (((askT (porF (wthF ((behF h229 l).getD [])))).1 : As), ((askT (porF (wthF ((behF h229 l).getD [])))).2 : Bool)) := by (rw [← HR.out]) <;> first | rfl | (simp [ansF, beq_ft, empty_ft, hq3, hq5]; done) | (simp [ansF, beq_ft, empty_ft, hq3, hq5]; rfl)
      subst hR2
      exact ret_cell_tmp (k := 4) (j := 5) Tryd.f21 (by kernel_rfl) Am9 Tryd.underlying32 (by kernel_rfl) (by rfl) (by rfl) rfl ⟨rfl, bm9⟩


  | true =>
    cases hq10 : (fam == 4) with
    | false =>
      go_wp2_with fail
      refine Calls.mono (behind_l h229 l _ (by decide) (by decide) hl) ?_
      rintro e Wm11 ⟨rfl, bb⟩
      have Mm11 := Mm2.kept bb
      have Am11 := Am2.kept bb
      have bm11 := bel_tr bm2 bb
      clear bb
      clear Mm2 Am2 bm2
      cases hq12 : (behF h229 l).isSome with
      | false =>
        obtain ⟨Wm13, hWm13⟩ : ∃ W, Wm11.setRow w.heap.size as0.v = W := ⟨_, rfl⟩
        have Am13 : Blk Wm13 w.heap.size 32 as0.v := hWm13 ▸ Am11.set as0.v
        have Mm13 := hWm13 ▸ Mm11.other nMA as0.v
        have bm13 := hWm13 ▸ below_setRow bm11 gA as0.v
        go_wp2_with (refine wpList_store_row rfl _ _ _ rfl w.heap.size as0.v (by rfl) (by rfl) _ _ Am11 (by kernel_rfl) (by rfl) (by kernel_rfl) ?_; rw [hWm13])
        have hR2 : R = ((as0 : As), (false : Bool)) := by (rw [← HR.out]) <;> first | rfl | (simp [ansF, beq_ft, empty_ft, hq3, (ne_of_beq_false hq10), hq12]; done) | (simp [ansF, beq_ft, empty_ft, hq3, (ne_of_beq_false hq10), hq12]; rfl)
        subst hR2
        exact ret_cell_tmp (k := 4) (j := 5) Tryd.f21 (by kernel_rfl) Am13 Tryd.underlying32 (by kernel_rfl) (by rfl) (by rfl) rfl ⟨rfl, bm13⟩

      | true =>
        go_wp2_with fail
        refine Calls.mono (within_l ((behF h229 l).getD []) m _ (Nat.lt_of_le_of_lt (beh_len h229 l) hl) Mm11) ?_
        rintro e Wm14 ⟨rfl, bb⟩
        have Mm14 := Mm11.kept bb
        have Am14 := Am11.kept bb
        have bm14 := bel_tr bm11 bb
        clear bb
        clear Mm11 Am11 bm11
        go_wp2_with fail
        refine Calls.mono (portAlone_l (wthF ((behF h229 l).getD [])) m _ (Nat.lt_of_le_of_lt (wth_len ((behF h229 l).getD [])) (Nat.lt_of_le_of_lt (beh_len h229 l) hl)) Mm14) ?_
        rintro e Wm15 ⟨rfl, bb⟩
        have Mm15 := Mm14.kept bb
        have Am15 := Am14.kept bb
        have bm15 := bel_tr bm14 bb
        clear bb
        clear Mm14 Am14 bm14
        obtain ⟨Wm16, hWm16⟩ : ∃ W, Wm15.setRow w.heap.size (askT (porF (wthF ((behF h229 l).getD [])))).1.v = W := ⟨_, rfl⟩
        have Am16 : Blk Wm16 w.heap.size 32 (askT (porF (wthF ((behF h229 l).getD [])))).1.v := hWm16 ▸ Am15.set (askT (porF (wthF ((behF h229 l).getD [])))).1.v
        have Mm16 := hWm16 ▸ Mm15.other nMA (askT (porF (wthF ((behF h229 l).getD [])))).1.v
        have bm16 := hWm16 ▸ below_setRow bm15 gA (askT (porF (wthF ((behF h229 l).getD [])))).1.v
        go_wp2_with (refine wpList_store_row rfl _ _ _ rfl w.heap.size (askT (porF (wthF ((behF h229 l).getD [])))).1.v (by rfl) (by rfl) _ _ Am15 (by kernel_rfl) (by rfl) (by kernel_rfl) ?_; rw [hWm16])
        have hR2 : R = (((askT (porF (wthF ((behF h229 l).getD [])))).1 : As), ((askT (porF (wthF ((behF h229 l).getD [])))).2 : Bool)) := by (rw [← HR.out]) <;> first | rfl | (simp [ansF, beq_ft, empty_ft, hq3, (ne_of_beq_false hq10), hq12]; done) | (simp [ansF, beq_ft, empty_ft, hq3, (ne_of_beq_false hq10), hq12]; rfl)
        subst hR2
        exact ret_cell_tmp (k := 4) (j := 5) Tryd.f21 (by kernel_rfl) Am16 Tryd.underlying32 (by kernel_rfl) (by rfl) (by rfl) rfl ⟨rfl, bm16⟩


    | true =>
      go_wp2_with fail
      refine Calls.mono (within_l ((behF h227 l).getD []) m _ (Nat.lt_of_le_of_lt (beh_len h227 l) hl) Mm2) ?_
      rintro e Wm17 ⟨rfl, bb⟩
      have Mm17 := Mm2.kept bb
      have Am17 := Am2.kept bb
      have bm17 := bel_tr bm2 bb
      clear bb
      clear Mm2 Am2 bm2
      go_wp2_with fail
      refine Calls.mono (six_l (wthF ((behF h227 l).getD [])) m _ (Nat.lt_of_le_of_lt (wth_len ((behF h227 l).getD [])) (Nat.lt_of_le_of_lt (beh_len h227 l) hl)) Mm17) ?_
      rintro e Wm18 ⟨rfl, bb⟩
      have Mm18 := Mm17.kept bb
      have Am18 := Am17.kept bb
      have bm18 := bel_tr bm17 bb
      clear bb
      clear Mm17 Am17 bm17
      obtain ⟨Wm19, hWm19⟩ : ∃ W, Wm18.setRow w.heap.size (askT (sixF (wthF ((behF h227 l).getD [])))).1.v = W := ⟨_, rfl⟩
      have Am19 : Blk Wm19 w.heap.size 32 (askT (sixF (wthF ((behF h227 l).getD [])))).1.v := hWm19 ▸ Am18.set (askT (sixF (wthF ((behF h227 l).getD [])))).1.v
      have Mm19 := hWm19 ▸ Mm18.other nMA (askT (sixF (wthF ((behF h227 l).getD [])))).1.v
      have bm19 := hWm19 ▸ below_setRow bm18 gA (askT (sixF (wthF ((behF h227 l).getD [])))).1.v
      go_wp2_with (refine wpList_store_row rfl _ _ _ rfl w.heap.size (askT (sixF (wthF ((behF h227 l).getD [])))).1.v (by rfl) (by rfl) _ _ Am18 (by kernel_rfl) (by rfl) (by kernel_rfl) ?_; rw [hWm19])
      have hR2 : R = (((askT (sixF (wthF ((behF h227 l).getD [])))).1 : As), ((askT (sixF (wthF ((behF h227 l).getD [])))).2 : Bool)) := by (rw [← HR.out]) <;> first | rfl | (simp [ansF, beq_ft, empty_ft, hq3, (eq_of_beq hq10)]; done) | (simp [ansF, beq_ft, empty_ft, hq3, (eq_of_beq hq10)]; rfl)
      subst hR2
      exact ret_cell_tmp (k := 4) (j := 5) Tryd.f21 (by kernel_rfl) Am19 Tryd.underlying32 (by kernel_rfl) (by rfl) (by rfl) rfl ⟨rfl, bm19⟩
set_option maxRecDepth 100000 in
set_option maxHeartbeats 4000000 in
theorem place_l (fam side : Int) (l : List UInt8) (m : Int) (w : World) (hl : l.length < 4294967281) (M : Mx m w) :
    Calls Tryd.prog 14 #[.int .i64 fam, .int .i64 side, .string ⟨l.toArray⟩] w fun e w' => e = .returned (.tuple #[.agg (askT (plF fam side l)).1.v, .bool (askT (plF fam side l)).2]) ∧ Below w.heap.size w w' := by
  obtain ⟨R, hR⟩ : ∃ R, askT (plF fam side l) = R := ⟨_, rfl⟩
  have HR : Hid (askT (plF fam side l) = R) := hR
  try rw [hR]
  clear hR
  have b := Below.refl w.heap.size w
  go_enter Tryd.func14, Tryd.ntmps14
  cases hq2 : (fam != 4) with
  | false =>
    cases hq4 : (decide (512 < (l.length : Int))) with
    | false =>
      cases hq6 : (side == 0) with
      | false =>
        cases hq8 : (side == 1) with
        | false =>
          obtain ⟨Wm9, hWm9⟩ : ∃ W, w.alloc (.cells #[.int .i64 0, .int .i64 0, .int .u64 0, .int .u64 0, .int .i64 0] 32) = W := ⟨_, rfl⟩
          have bm9 := bel_al b hWm9
          have Mm9 := M.al hWm9
          have Am9 := blk_nw hWm9
          have gA : w.heap.size ≤ w.heap.size := b.size
          have nMA : 0 ≠ w.heap.size := fun e => by have := M.lt; omega
          obtain ⟨Wm10, hWm10⟩ : ∃ W, Wm9.setRow w.heap.size as0.v = W := ⟨_, rfl⟩
          have Am10 : Blk Wm10 w.heap.size 32 as0.v := hWm10 ▸ Am9.set as0.v
          have Mm10 := hWm10 ▸ Mm9.other nMA as0.v
          have bm10 := hWm10 ▸ below_setRow bm9 gA as0.v
          go_wp2_with (refine wpList_store_row rfl _ _ _ rfl w.heap.size as0.v (by rfl) (by rfl) _ _ Am9 (by kernel_rfl) (by rfl) (by kernel_rfl) ?_; rw [hWm10])
          have hR2 : R = ((as0 : As), (false : Bool)) := by (rw [← HR.out]) <;> first | rfl | (simp [plF, beq_ft, empty_ft, (bne_f_ft hq2), (show ¬ 512 < l.length by have := hq4; simp at this; omega), (ne_of_beq_false hq6), (ne_of_beq_false hq8)]; done) | (simp [plF, beq_ft, empty_ft, (bne_f_ft hq2), (show ¬ 512 < l.length by have := hq4; simp at this; omega), (ne_of_beq_false hq6), (ne_of_beq_false hq8)]; rfl)
          subst hR2
          exact ret_cell_tmp (k := 6) (j := 7) Tryd.f14 (by kernel_rfl) Am10 Tryd.underlying32 (by kernel_rfl) (by rfl) (by rfl) rfl ⟨rfl, bm10⟩

        | true =>
          obtain ⟨Wm11, hWm11⟩ : ∃ W, w.alloc (.cells #[.int .i64 0, .int .i64 0, .int .u64 0, .int .u64 0, .int .i64 0] 32) = W := ⟨_, rfl⟩
          have bm11 := bel_al b hWm11
          have Mm11 := M.al hWm11
          have Am11 := blk_nw hWm11
          have gA : w.heap.size ≤ w.heap.size := b.size
          have nMA : 0 ≠ w.heap.size := fun e => by have := M.lt; omega
          go_wp2_with fail
          refine Calls.mono (answer_l fam l m _ hl Mm11) ?_
          rintro e Wm12 ⟨rfl, bb⟩
          have Mm12 := Mm11.kept bb
          have Am12 := Am11.kept bb
          have bm12 := bel_tr bm11 bb
          clear bb
          clear Mm11 Am11 bm11
          obtain ⟨Wm13, hWm13⟩ : ∃ W, Wm12.setRow w.heap.size (askT (ansF fam l)).1.v = W := ⟨_, rfl⟩
          have Am13 : Blk Wm13 w.heap.size 32 (askT (ansF fam l)).1.v := hWm13 ▸ Am12.set (askT (ansF fam l)).1.v
          have Mm13 := hWm13 ▸ Mm12.other nMA (askT (ansF fam l)).1.v
          have bm13 := hWm13 ▸ below_setRow bm12 gA (askT (ansF fam l)).1.v
          go_wp2_with (refine wpList_store_row rfl _ _ _ rfl w.heap.size (askT (ansF fam l)).1.v (by rfl) (by rfl) _ _ Am12 (by kernel_rfl) (by rfl) (by kernel_rfl) ?_; rw [hWm13])
          have hR2 : R = (((askT (ansF fam l)).1 : As), ((askT (ansF fam l)).2 : Bool)) := by (rw [← HR.out]) <;> first | rfl | (simp [plF, beq_ft, empty_ft, (bne_f_ft hq2), (show ¬ 512 < l.length by have := hq4; simp at this; omega), (ne_of_beq_false hq6), (eq_of_beq hq8)]; done) | (simp [plF, beq_ft, empty_ft, (bne_f_ft hq2), (show ¬ 512 < l.length by have := hq4; simp at this; omega), (ne_of_beq_false hq6), (eq_of_beq hq8)]; rfl)
          subst hR2
          exact ret_cell_tmp (k := 6) (j := 7) Tryd.f14 (by kernel_rfl) Am13 Tryd.underlying32 (by kernel_rfl) (by rfl) (by rfl) rfl ⟨rfl, bm13⟩


      | true =>
        obtain ⟨Wm14, hWm14⟩ : ∃ W, w.alloc (.cells #[.int .i64 0, .int .i64 0, .int .u64 0, .int .u64 0, .int .i64 0] 32) = W := ⟨_, rfl⟩
        have bm14 := bel_al b hWm14
        have Mm14 := M.al hWm14
        have Am14 := blk_nw hWm14
        have gA : w.heap.size ≤ w.heap.size := b.size
        have nMA : 0 ≠ w.heap.size := fun e => by have := M.lt; omega
        go_wp2_with fail
        refine Calls.mono (command_l fam l m _ hl Mm14) ?_
        rintro e Wm15 ⟨rfl, bb⟩
        have Mm15 := Mm14.kept bb
        have Am15 := Am14.kept bb
        have bm15 := bel_tr bm14 bb
        clear bb
        clear Mm14 Am14 bm14
        obtain ⟨Wm16, hWm16⟩ : ∃ W, Wm15.setRow w.heap.size (askT (comF fam l)).1.v = W := ⟨_, rfl⟩
        have Am16 : Blk Wm16 w.heap.size 32 (askT (comF fam l)).1.v := hWm16 ▸ Am15.set (askT (comF fam l)).1.v
        have Mm16 := hWm16 ▸ Mm15.other nMA (askT (comF fam l)).1.v
        have bm16 := hWm16 ▸ below_setRow bm15 gA (askT (comF fam l)).1.v
        go_wp2_with (refine wpList_store_row rfl _ _ _ rfl w.heap.size (askT (comF fam l)).1.v (by rfl) (by rfl) _ _ Am15 (by kernel_rfl) (by rfl) (by kernel_rfl) ?_; rw [hWm16])
        have hR2 : R = (((askT (comF fam l)).1 : As), ((askT (comF fam l)).2 : Bool)) := by (rw [← HR.out]) <;> first | rfl | (simp [plF, beq_ft, empty_ft, (bne_f_ft hq2), (show ¬ 512 < l.length by have := hq4; simp at this; omega), (eq_of_beq hq6)]; done) | (simp [plF, beq_ft, empty_ft, (bne_f_ft hq2), (show ¬ 512 < l.length by have := hq4; simp at this; omega), (eq_of_beq hq6)]; rfl)
        subst hR2
        exact ret_cell_tmp (k := 6) (j := 7) Tryd.f14 (by kernel_rfl) Am16 Tryd.underlying32 (by kernel_rfl) (by rfl) (by rfl) rfl ⟨rfl, bm16⟩


    | true =>
      obtain ⟨Wm17, hWm17⟩ : ∃ W, w.alloc (.cells #[.int .i64 0, .int .i64 0, .int .u64 0, .int .u64 0, .int .i64 0] 32) = W := ⟨_, rfl⟩
      have bm17 := bel_al b hWm17
      have Mm17 := M.al hWm17
      have Am17 := blk_nw hWm17
      have gA : w.heap.size ≤ w.heap.size := b.size
      have nMA : 0 ≠ w.heap.size := fun e => by have := M.lt; omega
      obtain ⟨Wm18, hWm18⟩ : ∃ W, Wm17.setRow w.heap.size as0.v = W := ⟨_, rfl⟩
      have Am18 : Blk Wm18 w.heap.size 32 as0.v := hWm18 ▸ Am17.set as0.v
      have Mm18 := hWm18 ▸ Mm17.other nMA as0.v
      have bm18 := hWm18 ▸ below_setRow bm17 gA as0.v
      go_wp2_with (refine wpList_store_row rfl _ _ _ rfl w.heap.size as0.v (by rfl) (by rfl) _ _ Am17 (by kernel_rfl) (by rfl) (by kernel_rfl) ?_; rw [hWm18])
      have hR2 : R = ((as0 : As), (false : Bool)) := by (rw [← HR.out]) <;> first | rfl | (simp [plF, beq_ft, empty_ft, (bne_f_ft hq2), (show 512 < l.length by have := hq4; simp at this; omega)]; done) | (simp [plF, beq_ft, empty_ft, (bne_f_ft hq2), (show 512 < l.length by have := hq4; simp at this; omega)]; rfl)
      subst hR2
      exact ret_cell_tmp (k := 6) (j := 7) Tryd.f14 (by kernel_rfl) Am18 Tryd.underlying32 (by kernel_rfl) (by rfl) (by rfl) rfl ⟨rfl, bm18⟩


  | true =>
    cases hq20 : (fam != 6) with
    | false =>
      cases hq22 : (decide (512 < (l.length : Int))) with
      | false =>
        cases hq24 : (side == 0) with
        | false =>
          cases hq26 : (side == 1) with
          | false =>
            obtain ⟨Wm27, hWm27⟩ : ∃ W, w.alloc (.cells #[.int .i64 0, .int .i64 0, .int .u64 0, .int .u64 0, .int .i64 0] 32) = W := ⟨_, rfl⟩
            have bm27 := bel_al b hWm27
            have Mm27 := M.al hWm27
            have Am27 := blk_nw hWm27
            have gA : w.heap.size ≤ w.heap.size := b.size
            have nMA : 0 ≠ w.heap.size := fun e => by have := M.lt; omega
            obtain ⟨Wm28, hWm28⟩ : ∃ W, Wm27.setRow w.heap.size as0.v = W := ⟨_, rfl⟩
            have Am28 : Blk Wm28 w.heap.size 32 as0.v := hWm28 ▸ Am27.set as0.v
            have Mm28 := hWm28 ▸ Mm27.other nMA as0.v
            have bm28 := hWm28 ▸ below_setRow bm27 gA as0.v
            go_wp2_with (refine wpList_store_row rfl _ _ _ rfl w.heap.size as0.v (by rfl) (by rfl) _ _ Am27 (by kernel_rfl) (by rfl) (by kernel_rfl) ?_; rw [hWm28])
            have hR2 : R = ((as0 : As), (false : Bool)) := by (rw [← HR.out]) <;> first | rfl | (simp [plF, beq_ft, empty_ft, (bne_t_ft hq2), (bne_f_ft hq20), (show ¬ 512 < l.length by have := hq22; simp at this; omega), (ne_of_beq_false hq24), (ne_of_beq_false hq26)]; done) | (simp [plF, beq_ft, empty_ft, (bne_t_ft hq2), (bne_f_ft hq20), (show ¬ 512 < l.length by have := hq22; simp at this; omega), (ne_of_beq_false hq24), (ne_of_beq_false hq26)]; rfl)
            subst hR2
            exact ret_cell_tmp (k := 6) (j := 7) Tryd.f14 (by kernel_rfl) Am28 Tryd.underlying32 (by kernel_rfl) (by rfl) (by rfl) rfl ⟨rfl, bm28⟩

          | true =>
            obtain ⟨Wm29, hWm29⟩ : ∃ W, w.alloc (.cells #[.int .i64 0, .int .i64 0, .int .u64 0, .int .u64 0, .int .i64 0] 32) = W := ⟨_, rfl⟩
            have bm29 := bel_al b hWm29
            have Mm29 := M.al hWm29
            have Am29 := blk_nw hWm29
            have gA : w.heap.size ≤ w.heap.size := b.size
            have nMA : 0 ≠ w.heap.size := fun e => by have := M.lt; omega
            go_wp2_with fail
            refine Calls.mono (answer_l fam l m _ hl Mm29) ?_
            rintro e Wm30 ⟨rfl, bb⟩
            have Mm30 := Mm29.kept bb
            have Am30 := Am29.kept bb
            have bm30 := bel_tr bm29 bb
            clear bb
            clear Mm29 Am29 bm29
            obtain ⟨Wm31, hWm31⟩ : ∃ W, Wm30.setRow w.heap.size (askT (ansF fam l)).1.v = W := ⟨_, rfl⟩
            have Am31 : Blk Wm31 w.heap.size 32 (askT (ansF fam l)).1.v := hWm31 ▸ Am30.set (askT (ansF fam l)).1.v
            have Mm31 := hWm31 ▸ Mm30.other nMA (askT (ansF fam l)).1.v
            have bm31 := hWm31 ▸ below_setRow bm30 gA (askT (ansF fam l)).1.v
            go_wp2_with (refine wpList_store_row rfl _ _ _ rfl w.heap.size (askT (ansF fam l)).1.v (by rfl) (by rfl) _ _ Am30 (by kernel_rfl) (by rfl) (by kernel_rfl) ?_; rw [hWm31])
            have hR2 : R = (((askT (ansF fam l)).1 : As), ((askT (ansF fam l)).2 : Bool)) := by (rw [← HR.out]) <;> first | rfl | (simp [plF, beq_ft, empty_ft, (bne_t_ft hq2), (bne_f_ft hq20), (show ¬ 512 < l.length by have := hq22; simp at this; omega), (ne_of_beq_false hq24), (eq_of_beq hq26)]; done) | (simp [plF, beq_ft, empty_ft, (bne_t_ft hq2), (bne_f_ft hq20), (show ¬ 512 < l.length by have := hq22; simp at this; omega), (ne_of_beq_false hq24), (eq_of_beq hq26)]; rfl)
            subst hR2
            exact ret_cell_tmp (k := 6) (j := 7) Tryd.f14 (by kernel_rfl) Am31 Tryd.underlying32 (by kernel_rfl) (by rfl) (by rfl) rfl ⟨rfl, bm31⟩


        | true =>
          obtain ⟨Wm32, hWm32⟩ : ∃ W, w.alloc (.cells #[.int .i64 0, .int .i64 0, .int .u64 0, .int .u64 0, .int .i64 0] 32) = W := ⟨_, rfl⟩
          have bm32 := bel_al b hWm32
          have Mm32 := M.al hWm32
          have Am32 := blk_nw hWm32
          have gA : w.heap.size ≤ w.heap.size := b.size
          have nMA : 0 ≠ w.heap.size := fun e => by have := M.lt; omega
          go_wp2_with fail
          refine Calls.mono (command_l fam l m _ hl Mm32) ?_
          rintro e Wm33 ⟨rfl, bb⟩
          have Mm33 := Mm32.kept bb
          have Am33 := Am32.kept bb
          have bm33 := bel_tr bm32 bb
          clear bb
          clear Mm32 Am32 bm32
          obtain ⟨Wm34, hWm34⟩ : ∃ W, Wm33.setRow w.heap.size (askT (comF fam l)).1.v = W := ⟨_, rfl⟩
          have Am34 : Blk Wm34 w.heap.size 32 (askT (comF fam l)).1.v := hWm34 ▸ Am33.set (askT (comF fam l)).1.v
          have Mm34 := hWm34 ▸ Mm33.other nMA (askT (comF fam l)).1.v
          have bm34 := hWm34 ▸ below_setRow bm33 gA (askT (comF fam l)).1.v
          go_wp2_with (refine wpList_store_row rfl _ _ _ rfl w.heap.size (askT (comF fam l)).1.v (by rfl) (by rfl) _ _ Am33 (by kernel_rfl) (by rfl) (by kernel_rfl) ?_; rw [hWm34])
          have hR2 : R = (((askT (comF fam l)).1 : As), ((askT (comF fam l)).2 : Bool)) := by (rw [← HR.out]) <;> first | rfl | (simp [plF, beq_ft, empty_ft, (bne_t_ft hq2), (bne_f_ft hq20), (show ¬ 512 < l.length by have := hq22; simp at this; omega), (eq_of_beq hq24)]; done) | (simp [plF, beq_ft, empty_ft, (bne_t_ft hq2), (bne_f_ft hq20), (show ¬ 512 < l.length by have := hq22; simp at this; omega), (eq_of_beq hq24)]; rfl)
          subst hR2
          exact ret_cell_tmp (k := 6) (j := 7) Tryd.f14 (by kernel_rfl) Am34 Tryd.underlying32 (by kernel_rfl) (by rfl) (by rfl) rfl ⟨rfl, bm34⟩


      | true =>
        obtain ⟨Wm35, hWm35⟩ : ∃ W, w.alloc (.cells #[.int .i64 0, .int .i64 0, .int .u64 0, .int .u64 0, .int .i64 0] 32) = W := ⟨_, rfl⟩
        have bm35 := bel_al b hWm35
        have Mm35 := M.al hWm35
        have Am35 := blk_nw hWm35
        have gA : w.heap.size ≤ w.heap.size := b.size
        have nMA : 0 ≠ w.heap.size := fun e => by have := M.lt; omega
        obtain ⟨Wm36, hWm36⟩ : ∃ W, Wm35.setRow w.heap.size as0.v = W := ⟨_, rfl⟩
        have Am36 : Blk Wm36 w.heap.size 32 as0.v := hWm36 ▸ Am35.set as0.v
        have Mm36 := hWm36 ▸ Mm35.other nMA as0.v
        have bm36 := hWm36 ▸ below_setRow bm35 gA as0.v
        go_wp2_with (refine wpList_store_row rfl _ _ _ rfl w.heap.size as0.v (by rfl) (by rfl) _ _ Am35 (by kernel_rfl) (by rfl) (by kernel_rfl) ?_; rw [hWm36])
        have hR2 : R = ((as0 : As), (false : Bool)) := by (rw [← HR.out]) <;> first | rfl | (simp [plF, beq_ft, empty_ft, (bne_t_ft hq2), (bne_f_ft hq20), (show 512 < l.length by have := hq22; simp at this; omega)]; done) | (simp [plF, beq_ft, empty_ft, (bne_t_ft hq2), (bne_f_ft hq20), (show 512 < l.length by have := hq22; simp at this; omega)]; rfl)
        subst hR2
        exact ret_cell_tmp (k := 6) (j := 7) Tryd.f14 (by kernel_rfl) Am36 Tryd.underlying32 (by kernel_rfl) (by rfl) (by rfl) rfl ⟨rfl, bm36⟩


    | true =>
      obtain ⟨Wm37, hWm37⟩ : ∃ W, w.alloc (.cells #[.int .i64 0, .int .i64 0, .int .u64 0, .int .u64 0, .int .i64 0] 32) = W := ⟨_, rfl⟩
      have bm37 := bel_al b hWm37
      have Mm37 := M.al hWm37
      have Am37 := blk_nw hWm37
      have gA : w.heap.size ≤ w.heap.size := b.size
      have nMA : 0 ≠ w.heap.size := fun e => by have := M.lt; omega
      obtain ⟨Wm38, hWm38⟩ : ∃ W, Wm37.setRow w.heap.size as0.v = W := ⟨_, rfl⟩
      have Am38 : Blk Wm38 w.heap.size 32 as0.v := hWm38 ▸ Am37.set as0.v
      have Mm38 := hWm38 ▸ Mm37.other nMA as0.v
      have bm38 := hWm38 ▸ below_setRow bm37 gA as0.v
      go_wp2_with (refine wpList_store_row rfl _ _ _ rfl w.heap.size as0.v (by rfl) (by rfl) _ _ Am37 (by kernel_rfl) (by rfl) (by kernel_rfl) ?_; rw [hWm38])
      have hR2 : R = ((as0 : As), (false : Bool)) := by (rw [← HR.out]) <;> first | rfl | (simp [plF, beq_ft, empty_ft, (bne_t_ft hq2), (bne_t_ft hq20)]; done) | (simp [plF, beq_ft, empty_ft, (bne_t_ft hq2), (bne_t_ft hq20)]; rfl)
      subst hR2
      exact ret_cell_tmp (k := 6) (j := 7) Tryd.f14 (by kernel_rfl) Am38 Tryd.underlying32 (by kernel_rfl) (by rfl) (by rfl) rfl ⟨rfl, bm38⟩
end Go.Proofs.YtnadfacbfcdkgaaDoor
