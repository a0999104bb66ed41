/- Texts joined: FwE1 -/
import Derived.Test.YtmjjdbkipagkbaaFyp28
namespace Go.Proofs.Ytmjjdbkipagkbaa
open Go.RowKit
set_option linter.unusedVariables false
set_option linter.unusedSimpArgs false
set_option maxRecDepth 100000 in
set_option maxHeartbeats 16000000 in
theorem go1_fw (f : Fl) (s : Sm) (now : Int) (w : World) :
    Calls Try.prog 15 #[.agg f.v, .int .i64 1, .agg s.v, .int .i64 now] w fun e w' => e = .returned (.tuple #[.agg (f.goS true s now).1.v, .int .i64 (f.goS true s now).2]) ∧ Below w.heap.size w w' := by
  obtain ⟨R, hR⟩ : ∃ R, f.goS true s now = R := ⟨_, rfl⟩
  have HR : Hid (f.goS true s now = R) := hR
  rw [hR]
  clear hR
  have b := Below.refl w.heap.size w
  go_enter Try.func15, Try.ntmps15
  obtain ⟨Wm1, hWm1⟩ : ∃ W, w.alloc (.cells f.v 33) = W := ⟨_, rfl⟩
  have bm1 := bel_nw hWm1
  have Am1 := blk_nw hWm1
  have gA : w.heap.size ≤ w.heap.size := Nat.le_refl _
  obtain ⟨Wm2, hWm2⟩ : ∃ W, Wm1.alloc (.cells s.v 36) = W := ⟨_, rfl⟩
  have bm2 := bel_al bm1 hWm2
  have Am2 := Am1.al hWm2
  have Bm2 := blk_nw hWm2
  have gB : w.heap.size ≤ Wm1.heap.size := bm1.size
  have nAB : w.heap.size ≠ Wm1.heap.size := by have := Am1.lt; omega
  have nBA : Wm1.heap.size ≠ w.heap.size := fun e => nAB e.symm
  obtain ⟨Wm3, hWm3⟩ : ∃ W, Wm2.alloc (.cells #[.int .i64 0, .int .i64 0, .int .i64 0, .int .u64 0, .int .u64 0, .int .i64 0, .int .u64 0, .int .u64 0, .int .i64 0, .int .i64 0, .int .i64 0, .int .u32 0, .int .u32 0, .int .u32 0, .int .u32 0, .bool false, .bool false, .bool false, .bool false, .int .i64 0, .int .i64 0, .bool false] 33) = W := ⟨_, rfl⟩
  have bm3 := bel_al bm2 hWm3
  have Am3 := Am2.al hWm3
  have Bm3 := Bm2.al hWm3
  have Cm3 := blk_nw hWm3
  have gC : w.heap.size ≤ Wm2.heap.size := bm2.size
  have nAC : w.heap.size ≠ Wm2.heap.size := by have := Am2.lt; omega
  have nCA : Wm2.heap.size ≠ w.heap.size := fun e => nAC e.symm
  have nBC : Wm1.heap.size ≠ Wm2.heap.size := by have := Bm2.lt; omega
  have nCB : Wm2.heap.size ≠ Wm1.heap.size := fun e => nBC e.symm
  go_wp2_with (refine wpList_load_blk_w (by rfl) _ _ rfl w.heap.size (by rfl) _ Am3 Try.underlying33 (by kernel_rfl) ?_)
  refine Calls.mono (right_fw f _) ?_
  rintro e Wm4 ⟨rfl, bb⟩
  have Am4 := Am3.kept bb
  have Bm4 := Bm3.kept bb
  have Cm4 := Cm3.kept bb
  have bm4 := bel_tr bm3 bb
  clear bb
  clear Am3 Bm3 Cm3 bm3
  cases hq5 : (Fl.right f) with
  | false =>
    obtain ⟨Wm6, hWm6⟩ : ∃ W, Wm4.setRow Wm2.heap.size fl0.v = W := ⟨_, rfl⟩
    have Cm6 : Blk Wm6 Wm2.heap.size 33 fl0.v := hWm6 ▸ Cm4.set fl0.v
    have Am6 := hWm6 ▸ Am4.other nAC fl0.v
    have Bm6 := hWm6 ▸ Bm4.other nBC fl0.v
    have bm6 := hWm6 ▸ below_setRow bm4 gC fl0.v
    go_wp2_with (refine wpList_store_row rfl _ _ _ rfl Wm2.heap.size fl0.v (by rfl) (by rfl) _ _ Cm4 (by kernel_rfl) (by rfl) (by kernel_rfl) ?_; rw [hWm6])
    have hR2 : R = ((fl0 : Fl), (1 : Int)) := by rw [← HR.out]; first | rfl | (simp [Fl.goS, hq5]; done) | (simp [Fl.goS, hq5]; rfl)
    subst hR2
    exact ret_cell_tmp (k := 8) (j := 9) Try.f15 (by kernel_rfl) Cm6 Try.underlying33 (by kernel_rfl) (by rfl) (by rfl) rfl ⟨rfl, bm6⟩

  | true =>
    go_wp2_with fail
    refine Calls.mono (now_fw now _) ?_
    rintro e Wm7 ⟨rfl, bb⟩
    have Am7 := Am4.kept bb
    have Bm7 := Bm4.kept bb
    have Cm7 := Cm4.kept bb
    have bm7 := bel_tr bm4 bb
    clear bb
    clear Am4 Bm4 Cm4 bm4
    cases hq8 : (nowB now) with
    | false =>
      obtain ⟨Wm9, hWm9⟩ : ∃ W, Wm7.setRow Wm2.heap.size fl0.v = W := ⟨_, rfl⟩
      have Cm9 : Blk Wm9 Wm2.heap.size 33 fl0.v := hWm9 ▸ Cm7.set fl0.v
      have Am9 := hWm9 ▸ Am7.other nAC fl0.v
      have Bm9 := hWm9 ▸ Bm7.other nBC fl0.v
      have bm9 := hWm9 ▸ below_setRow bm7 gC fl0.v
      go_wp2_with (refine wpList_store_row rfl _ _ _ rfl Wm2.heap.size fl0.v (by rfl) (by rfl) _ _ Cm7 (by kernel_rfl) (by rfl) (by kernel_rfl) ?_; rw [hWm9])
      have hR2 : R = ((fl0 : Fl), (1 : Int)) := by rw [← HR.out]; first | rfl | (simp [Fl.goS, hq5, hq8]; done) | (simp [Fl.goS, hq5, hq8]; rfl)
      subst hR2
      exact ret_cell_tmp (k := 8) (j := 9) Try.f15 (by kernel_rfl) Cm9 Try.underlying33 (by kernel_rfl) (by rfl) (by rfl) rfl ⟨rfl, bm9⟩

    | true =>
      go_wp2_with fail
      obtain ⟨Wdq10, hWdq10⟩ : ∃ W, Wm7.drew = W := ⟨_, rfl⟩
      have Adq10 := hWdq10 ▸ Am7.drew
      have Bdq10 := hWdq10 ▸ Bm7.drew
      have Cdq10 := hWdq10 ▸ Cm7.drew
      have bdq10 := hWdq10 ▸ bm7.drew
      refine wp_region_noPanic ?_
      refine wp_region_held_drew (S := fun w' => Blk w' w.heap.size 33 f.v ∧ Blk w' Wm1.heap.size 36 s.v ∧ Blk w' Wm2.heap.size 33 #[.int .i64 0, .int .i64 0, .int .i64 0, .int .u64 0, .int .u64 0, .int .i64 0, .int .u64 0, .int .u64 0, .int .i64 0, .int .i64 0, .int .i64 0, .int .u32 0, .int .u32 0, .int .u32 0, .int .u32 0, .bool false, .bool false, .bool false, .bool false, .int .i64 0, .int .i64 0, .bool false]) (by kernel_rfl) (by rw [hWdq10]; exact ⟨Adq10, Bdq10, Cdq10⟩) (fun hHeld => ?_)
      rw [hWdq10] at hHeld ⊢
      refine qtk (i := 0) (oi := { dst := some 29, op := Op.fieldAddr 36 (.tmp 6) 0, type := 0, pos := "flow.go:67", after := #[], guard := none }) (v := (.pointer (some ⟨Wm1.heap.size, 0, none⟩))) hHeld ?_ ?_
      · intro w9 hSw
        try dsimp only at hSw
        go_simp
      try simp only [qpu]
      refine qty (i := 1) (oi := { dst := some 30, op := Op.load 26 (.tmp 29), type := 26, pos := "flow.go:67", after := #[{ on := 0, ground := Ground.data }], guard := none }) (v := (.agg s.w.v)) (yieldsIf_sub_w (by kernel_rfl) _ _ rfl Wm1.heap.size 0 _ (by rfl) _ s.w.v (fun _ hSw => hSw.2.1) (by rfl) Try.underlying26 (by kernel_rfl)) hHeld ?_
      try simp only [qpu]
      refine qty (i := 2) (oi := { dst := some 31, op := Op.load 33 (.tmp 4), type := 33, pos := "flow.go:67", after := #[], guard := none }) (v := (.agg f.v)) (yieldsIf_blk_w (by kernel_rfl) _ _ rfl w.heap.size (by rfl) _ (fun _ hSw => hSw.1) Try.underlying33 (by kernel_rfl)) hHeld ?_
      try simp only [qpu]
      refine qtk (i := 3) (oi := { dst := some 32, op := Op.move (.tmp 1), type := 3, pos := "flow.go:67", after := #[], guard := none }) (v := (.int .i64 1)) hHeld ?_ ?_
      · intro w9 hSw
        try dsimp only at hSw
        go_simp
      try simp only [qpu]
      refine wpAnyH_ready (rs := [4]) (by kernel_rfl) (by simp) ?_
      refine AllReadyH.cons (o := { dst := some 33, op := Op.call { callee := Callee.value (.func 43), args := #[.tmp 31, .tmp 32], argTypes := #[33, 3] }, type := 26, pos := "flow.go:67", after := #[{ on := 2, ground := Ground.data }, { on := 3, ground := Ground.data }], guard := none }) rfl (fun K hK => ?_) AllReadyH.nil
      go_simp
      refine Calls.mono (way1_fw f _) ?_
      rintro e Wx11 ⟨rfl, bb⟩
      have Ax11 := Adq10.kept bb
      have Bx11 := Bdq10.kept bb
      have Cx11 := Cdq10.kept bb
      have bx11 := bel_tr bdq10 bb
      clear bb
      refine hK.out _ _ (by exact ⟨Ax11, Bx11, Cx11⟩) (fun hHeld => ?_)
      clear hK K
      try simp only [qpu]
      refine qtk (i := 5) (oi := { dst := some 34, op := Op.binOp BinOp.neq 26 (.tmp 30) (.tmp 33) 26, type := 4, pos := "flow.go:67", after := #[{ on := 1, ground := Ground.data }, { on := 4, ground := Ground.data }], guard := none }) (v := (.bool (!(Wy.eqB s.w (Fl.way f true))))) hHeld ?_ ?_
      · intro w9 hSw
        try dsimp only at hSw
        have hcc := neq_way s.w (Fl.way f true)
        go_simp
      try simp only [qpu]
      refine wpAnyH_done (by kernel_rfl) ?_ _
      refine NoPanic.normal ?_
      cases hq12 : (Wy.eqB s.w (Fl.way f true)) with
      | false =>
        obtain ⟨Wm13, hWm13⟩ : ∃ W, Wx11.setRow Wm2.heap.size fl0.v = W := ⟨_, rfl⟩
        have Cm13 : Blk Wm13 Wm2.heap.size 33 fl0.v := hWm13 ▸ Cx11.set fl0.v
        have Am13 := hWm13 ▸ Ax11.other nAC fl0.v
        have Bm13 := hWm13 ▸ Bx11.other nBC fl0.v
        have bm13 := hWm13 ▸ below_setRow bx11 gC fl0.v
        go_wp2_with (refine wpList_store_row rfl _ _ _ rfl Wm2.heap.size fl0.v (by rfl) (by rfl) _ _ Cx11 (by kernel_rfl) (by rfl) (by kernel_rfl) ?_; rw [hWm13])
        have hR2 : R = ((fl0 : Fl), (23 : Int)) := by rw [← HR.out]; first | rfl | (simp [Fl.goS, hq5, hq8, hq12]; done) | (simp [Fl.goS, hq5, hq8, hq12]; rfl)
        subst hR2
        exact ret_cell_tmp (k := 8) (j := 9) Try.f15 (by kernel_rfl) Cm13 Try.underlying33 (by kernel_rfl) (by rfl) (by rfl) rfl ⟨rfl, bm13⟩

      | true =>
        go_wp2_with (first | (refine wpList_load_sub_w (by rfl) _ _ rfl w.heap.size 10 _ (by rfl) _ f.c.v Ax11 (by rfl) Try.underlying31 (by kernel_rfl) ?_) | (refine wpList_load_blk_w (by rfl) _ _ rfl Wm1.heap.size (by rfl) _ Bx11 Try.underlying36 (by kernel_rfl) ?_))
        refine Calls.mono (step1_fw f.c s _) ?_
        rintro e Wm14 ⟨rfl, bb⟩
        have Am14 := Ax11.kept bb
        have Bm14 := Bx11.kept bb
        have Cm14 := Cx11.kept bb
        have bm14 := bel_tr bx11 bb
        clear bb
        clear Ax11 Bx11 Cx11 bx11
        cases hq17 : ((Sm.stp s f.c true).2 != 0) with
        | false =>
          cases hq22 : f.both with
          | false =>
            obtain ⟨Wm23, hWm23⟩ : ∃ W, Wm14.alloc (.cells #[.int .i64 0, .int .u32 0, .int .u32 0, .int .u32 0, .int .u32 0, .bool false, .bool false, .bool false, .bool false] 31) = W := ⟨_, rfl⟩
            have bm23 := bel_al bm14 hWm23
            have Am23 := Am14.al hWm23
            have Bm23 := Bm14.al hWm23
            have Cm23 := Cm14.al hWm23
            have Dm23 := blk_nw hWm23
            have gD : w.heap.size ≤ Wm14.heap.size := bm14.size
            have nAD : w.heap.size ≠ Wm14.heap.size := by have := Am14.lt; omega
            have nDA : Wm14.heap.size ≠ w.heap.size := fun e => nAD e.symm
            have nBD : Wm1.heap.size ≠ Wm14.heap.size := by have := Bm14.lt; omega
            have nDB : Wm14.heap.size ≠ Wm1.heap.size := fun e => nBD e.symm
            have nCD : Wm2.heap.size ≠ Wm14.heap.size := by have := Cm14.lt; omega
            have nDC : Wm14.heap.size ≠ Wm2.heap.size := fun e => nCD e.symm
            obtain ⟨Wm24, hWm24⟩ : ∃ W, Wm23.setRow Wm14.heap.size (Sm.stp s f.c true).1.v = W := ⟨_, rfl⟩
            have Dm24 : Blk Wm24 Wm14.heap.size 31 (Sm.stp s f.c true).1.v := hWm24 ▸ Dm23.set (Sm.stp s f.c true).1.v
            have Am24 := hWm24 ▸ Am23.other nAD (Sm.stp s f.c true).1.v
            have Bm24 := hWm24 ▸ Bm23.other nBD (Sm.stp s f.c true).1.v
            have Cm24 := hWm24 ▸ Cm23.other nCD (Sm.stp s f.c true).1.v
            have bm24 := hWm24 ▸ below_setRow bm23 gD (Sm.stp s f.c true).1.v
            obtain ⟨Wm25, hWm25⟩ : ∃ W, Wm24.setRow w.heap.size (Fl.v ⟨f.w, (Sm.stp s f.c true).1, f.ends, f.help, f.both⟩) = W := ⟨_, rfl⟩
            have Am25 : Blk Wm25 w.heap.size 33 (Fl.v ⟨f.w, (Sm.stp s f.c true).1, f.ends, f.help, f.both⟩) := hWm25 ▸ Am24.set (Fl.v ⟨f.w, (Sm.stp s f.c true).1, f.ends, f.help, f.both⟩)
            have Bm25 := hWm25 ▸ Bm24.other nBA (Fl.v ⟨f.w, (Sm.stp s f.c true).1, f.ends, f.help, f.both⟩)
            have Cm25 := hWm25 ▸ Cm24.other nCA (Fl.v ⟨f.w, (Sm.stp s f.c true).1, f.ends, f.help, f.both⟩)
            have Dm25 := hWm25 ▸ Dm24.other nDA (Fl.v ⟨f.w, (Sm.stp s f.c true).1, f.ends, f.help, f.both⟩)
            have bm25 := hWm25 ▸ below_setRow bm24 gA (Fl.v ⟨f.w, (Sm.stp s f.c true).1, f.ends, f.help, f.both⟩)
            have c26 := Am25.cell 21 (.bool f.both) rfl
            have y28 := Am25.cell 21 (.bool f.both) rfl
            have z29 := Am25.frozen 21
            obtain ⟨Wm27, hWm27⟩ : ∃ W, Wm25.setCell ⟨w.heap.size, 21, none⟩ (.bool true) = W := ⟨_, rfl⟩
            have Am27 : Blk Wm27 w.heap.size 33 (Fl.v ⟨f.w, (Sm.stp s f.c true).1, f.ends, f.help, true⟩) := hWm27 ▸ Am25.put 21 (.bool true)
            have Bm27 := hWm27 ▸ Bm25.put_other Am25 nBA 21 (.bool true)
            have Cm27 := hWm27 ▸ Cm25.put_other Am25 nCA 21 (.bool true)
            have Dm27 := hWm27 ▸ Dm25.put_other Am25 nDA 21 (.bool true)
            have bm27 := hWm27 ▸ bm25.setCell (p := ⟨w.heap.size, 21, none⟩) gA (.bool true)
            go_wp2_with (first | (refine wpList_store_row rfl _ _ _ rfl Wm14.heap.size (Sm.stp s f.c true).1.v (by rfl) (by rfl) _ _ Dm23 (by kernel_rfl) (by rfl) (by kernel_rfl) ?_; rw [hWm24]) | (refine wpList_load_blk_w (by rfl) _ _ rfl Wm14.heap.size (by rfl) _ Dm24 Try.underlying31 (by kernel_rfl) ?_) | (refine wpList_store_off rfl _ _ _ rfl w.heap.size 10 _ (Sm.stp s f.c true).1.v _ (Fl.v ⟨f.w, (Sm.stp s f.c true).1, f.ends, f.help, f.both⟩) (by rfl) (by rfl) Am24 (by kernel_rfl) (Nat.le_of_ble_eq_true (by kernel_rfl)) (by kernel_rfl) (setConn_fw f (Sm.stp s f.c true).1) ?_; rw [hWm25]) | (refine wpList_load_blk_w (by rfl) _ _ rfl w.heap.size (by rfl) _ Am27 Try.underlying33 (by kernel_rfl) ?_))
            clear c26 y28 z29
            refine Calls.mono (keep_fw (⟨f.w, (Sm.stp s f.c true).1, f.ends, f.help, true⟩) now _ (by assumption) (stepC (by assumption) (by assumption) (by assumption))) ?_
            rintro e Wm30 ⟨rfl, bb⟩
            have Am30 := Am27.kept bb
            have Bm30 := Bm27.kept bb
            have Cm30 := Cm27.kept bb
            have Dm30 := Dm27.kept bb
            have bm30 := bel_tr bm27 bb
            clear bb
            clear Am27 Bm27 Cm27 Dm27 bm27
            obtain ⟨Wm31, hWm31⟩ : ∃ W, Wm30.setRow Wm2.heap.size (Fl.keep (⟨f.w, (Sm.stp s f.c true).1, f.ends, f.help, true⟩) now).v = W := ⟨_, rfl⟩
            have Cm31 : Blk Wm31 Wm2.heap.size 33 (Fl.keep (⟨f.w, (Sm.stp s f.c true).1, f.ends, f.help, true⟩) now).v := hWm31 ▸ Cm30.set (Fl.keep (⟨f.w, (Sm.stp s f.c true).1, f.ends, f.help, true⟩) now).v
            have Am31 := hWm31 ▸ Am30.other nAC (Fl.keep (⟨f.w, (Sm.stp s f.c true).1, f.ends, f.help, true⟩) now).v
            have Bm31 := hWm31 ▸ Bm30.other nBC (Fl.keep (⟨f.w, (Sm.stp s f.c true).1, f.ends, f.help, true⟩) now).v
            have Dm31 := hWm31 ▸ Dm30.other nDC (Fl.keep (⟨f.w, (Sm.stp s f.c true).1, f.ends, f.help, true⟩) now).v
            have bm31 := hWm31 ▸ below_setRow bm30 gC (Fl.keep (⟨f.w, (Sm.stp s f.c true).1, f.ends, f.help, true⟩) now).v
            go_wp2_with (refine wpList_store_row rfl _ _ _ rfl Wm2.heap.size (Fl.keep (⟨f.w, (Sm.stp s f.c true).1, f.ends, f.help, true⟩) now).v (by rfl) (by rfl) _ _ Cm30 (by kernel_rfl) (by rfl) (by kernel_rfl) ?_; rw [hWm31])
            have hR2 : R = (((Fl.keep (⟨f.w, (Sm.stp s f.c true).1, f.ends, f.help, true⟩) now) : Fl), (0 : Int)) := by rw [← HR.out]; first | rfl | (simp [Fl.goS, hq5, hq8, hq12, bne_f_fw hq17, hq22]; done) | (simp [Fl.goS, hq5, hq8, hq12, bne_f_fw hq17, hq22]; rfl)
            subst hR2
            exact ret_cell_tmp (k := 8) (j := 9) Try.f15 (by kernel_rfl) Cm31 Try.underlying33 (by kernel_rfl) (by rfl) (by rfl) rfl ⟨rfl, bm31⟩

          | true =>
            obtain ⟨Wm32, hWm32⟩ : ∃ W, Wm14.alloc (.cells #[.int .i64 0, .int .u32 0, .int .u32 0, .int .u32 0, .int .u32 0, .bool false, .bool false, .bool false, .bool false] 31) = W := ⟨_, rfl⟩
            have bm32 := bel_al bm14 hWm32
            have Am32 := Am14.al hWm32
            have Bm32 := Bm14.al hWm32
            have Cm32 := Cm14.al hWm32
            have Dm32 := blk_nw hWm32
            have gD : w.heap.size ≤ Wm14.heap.size := bm14.size
            have nAD : w.heap.size ≠ Wm14.heap.size := by have := Am14.lt; omega
            have nDA : Wm14.heap.size ≠ w.heap.size := fun e => nAD e.symm
            have nBD : Wm1.heap.size ≠ Wm14.heap.size := by have := Bm14.lt; omega
            have nDB : Wm14.heap.size ≠ Wm1.heap.size := fun e => nBD e.symm
            have nCD : Wm2.heap.size ≠ Wm14.heap.size := by have := Cm14.lt; omega
            have nDC : Wm14.heap.size ≠ Wm2.heap.size := fun e => nCD e.symm
            obtain ⟨Wm33, hWm33⟩ : ∃ W, Wm32.setRow Wm14.heap.size (Sm.stp s f.c true).1.v = W := ⟨_, rfl⟩
            have Dm33 : Blk Wm33 Wm14.heap.size 31 (Sm.stp s f.c true).1.v := hWm33 ▸ Dm32.set (Sm.stp s f.c true).1.v
            have Am33 := hWm33 ▸ Am32.other nAD (Sm.stp s f.c true).1.v
            have Bm33 := hWm33 ▸ Bm32.other nBD (Sm.stp s f.c true).1.v
            have Cm33 := hWm33 ▸ Cm32.other nCD (Sm.stp s f.c true).1.v
            have bm33 := hWm33 ▸ below_setRow bm32 gD (Sm.stp s f.c true).1.v
            obtain ⟨Wm34, hWm34⟩ : ∃ W, Wm33.setRow w.heap.size (Fl.v ⟨f.w, (Sm.stp s f.c true).1, f.ends, f.help, f.both⟩) = W := ⟨_, rfl⟩
            have Am34 : Blk Wm34 w.heap.size 33 (Fl.v ⟨f.w, (Sm.stp s f.c true).1, f.ends, f.help, f.both⟩) := hWm34 ▸ Am33.set (Fl.v ⟨f.w, (Sm.stp s f.c true).1, f.ends, f.help, f.both⟩)
            have Bm34 := hWm34 ▸ Bm33.other nBA (Fl.v ⟨f.w, (Sm.stp s f.c true).1, f.ends, f.help, f.both⟩)
            have Cm34 := hWm34 ▸ Cm33.other nCA (Fl.v ⟨f.w, (Sm.stp s f.c true).1, f.ends, f.help, f.both⟩)
            have Dm34 := hWm34 ▸ Dm33.other nDA (Fl.v ⟨f.w, (Sm.stp s f.c true).1, f.ends, f.help, f.both⟩)
            have bm34 := hWm34 ▸ below_setRow bm33 gA (Fl.v ⟨f.w, (Sm.stp s f.c true).1, f.ends, f.help, f.both⟩)
            have c35 := Am34.cell 21 (.bool f.both) rfl
            have y37 := Am34.cell 21 (.bool f.both) rfl
            have z38 := Am34.frozen 21
            obtain ⟨Wm36, hWm36⟩ : ∃ W, Wm34.setCell ⟨w.heap.size, 21, none⟩ (.bool true) = W := ⟨_, rfl⟩
            have Am36 : Blk Wm36 w.heap.size 33 (Fl.v ⟨f.w, (Sm.stp s f.c true).1, f.ends, f.help, true⟩) := hWm36 ▸ Am34.put 21 (.bool true)
            have Bm36 := hWm36 ▸ Bm34.put_other Am34 nBA 21 (.bool true)
            have Cm36 := hWm36 ▸ Cm34.put_other Am34 nCA 21 (.bool true)
            have Dm36 := hWm36 ▸ Dm34.put_other Am34 nDA 21 (.bool true)
            have bm36 := hWm36 ▸ bm34.setCell (p := ⟨w.heap.size, 21, none⟩) gA (.bool true)
            go_wp2_with (first | (refine wpList_store_row rfl _ _ _ rfl Wm14.heap.size (Sm.stp s f.c true).1.v (by rfl) (by rfl) _ _ Dm32 (by kernel_rfl) (by rfl) (by kernel_rfl) ?_; rw [hWm33]) | (refine wpList_load_blk_w (by rfl) _ _ rfl Wm14.heap.size (by rfl) _ Dm33 Try.underlying31 (by kernel_rfl) ?_) | (refine wpList_store_off rfl _ _ _ rfl w.heap.size 10 _ (Sm.stp s f.c true).1.v _ (Fl.v ⟨f.w, (Sm.stp s f.c true).1, f.ends, f.help, f.both⟩) (by rfl) (by rfl) Am33 (by kernel_rfl) (Nat.le_of_ble_eq_true (by kernel_rfl)) (by kernel_rfl) (setConn_fw f (Sm.stp s f.c true).1) ?_; rw [hWm34]) | (refine wpList_load_blk_w (by rfl) _ _ rfl w.heap.size (by rfl) _ Am36 Try.underlying33 (by kernel_rfl) ?_))
            clear c35 y37 z38
            refine Calls.mono (keep_fw (⟨f.w, (Sm.stp s f.c true).1, f.ends, f.help, true⟩) now _ (by assumption) (stepC (by assumption) (by assumption) (by assumption))) ?_
            rintro e Wm39 ⟨rfl, bb⟩
            have Am39 := Am36.kept bb
            have Bm39 := Bm36.kept bb
            have Cm39 := Cm36.kept bb
            have Dm39 := Dm36.kept bb
            have bm39 := bel_tr bm36 bb
            clear bb
            clear Am36 Bm36 Cm36 Dm36 bm36
            obtain ⟨Wm40, hWm40⟩ : ∃ W, Wm39.setRow Wm2.heap.size (Fl.keep (⟨f.w, (Sm.stp s f.c true).1, f.ends, f.help, true⟩) now).v = W := ⟨_, rfl⟩
            have Cm40 : Blk Wm40 Wm2.heap.size 33 (Fl.keep (⟨f.w, (Sm.stp s f.c true).1, f.ends, f.help, true⟩) now).v := hWm40 ▸ Cm39.set (Fl.keep (⟨f.w, (Sm.stp s f.c true).1, f.ends, f.help, true⟩) now).v
            have Am40 := hWm40 ▸ Am39.other nAC (Fl.keep (⟨f.w, (Sm.stp s f.c true).1, f.ends, f.help, true⟩) now).v
            have Bm40 := hWm40 ▸ Bm39.other nBC (Fl.keep (⟨f.w, (Sm.stp s f.c true).1, f.ends, f.help, true⟩) now).v
            have Dm40 := hWm40 ▸ Dm39.other nDC (Fl.keep (⟨f.w, (Sm.stp s f.c true).1, f.ends, f.help, true⟩) now).v
            have bm40 := hWm40 ▸ below_setRow bm39 gC (Fl.keep (⟨f.w, (Sm.stp s f.c true).1, f.ends, f.help, true⟩) now).v
            go_wp2_with (refine wpList_store_row rfl _ _ _ rfl Wm2.heap.size (Fl.keep (⟨f.w, (Sm.stp s f.c true).1, f.ends, f.help, true⟩) now).v (by rfl) (by rfl) _ _ Cm39 (by kernel_rfl) (by rfl) (by kernel_rfl) ?_; rw [hWm40])
            have hR2 : R = (((Fl.keep (⟨f.w, (Sm.stp s f.c true).1, f.ends, f.help, true⟩) now) : Fl), (0 : Int)) := by rw [← HR.out]; first | rfl | (simp [Fl.goS, hq5, hq8, hq12, bne_f_fw hq17, hq22]; done) | (simp [Fl.goS, hq5, hq8, hq12, bne_f_fw hq17, hq22]; rfl)
            subst hR2
            exact ret_cell_tmp (k := 8) (j := 9) Try.f15 (by kernel_rfl) Cm40 Try.underlying33 (by kernel_rfl) (by rfl) (by rfl) rfl ⟨rfl, bm40⟩


        | true =>
          obtain ⟨Wm41, hWm41⟩ : ∃ W, Wm14.alloc (.cells #[.int .i64 0, .int .u32 0, .int .u32 0, .int .u32 0, .int .u32 0, .bool false, .bool false, .bool false, .bool false] 31) = W := ⟨_, rfl⟩
          have bm41 := bel_al bm14 hWm41
          have Am41 := Am14.al hWm41
          have Bm41 := Bm14.al hWm41
          have Cm41 := Cm14.al hWm41
          have Dm41 := blk_nw hWm41
          have gD : w.heap.size ≤ Wm14.heap.size := bm14.size
          have nAD : w.heap.size ≠ Wm14.heap.size := by have := Am14.lt; omega
          have nDA : Wm14.heap.size ≠ w.heap.size := fun e => nAD e.symm
          have nBD : Wm1.heap.size ≠ Wm14.heap.size := by have := Bm14.lt; omega
          have nDB : Wm14.heap.size ≠ Wm1.heap.size := fun e => nBD e.symm
          have nCD : Wm2.heap.size ≠ Wm14.heap.size := by have := Cm14.lt; omega
          have nDC : Wm14.heap.size ≠ Wm2.heap.size := fun e => nCD e.symm
          obtain ⟨Wm42, hWm42⟩ : ∃ W, Wm41.setRow Wm14.heap.size (Sm.stp s f.c true).1.v = W := ⟨_, rfl⟩
          have Dm42 : Blk Wm42 Wm14.heap.size 31 (Sm.stp s f.c true).1.v := hWm42 ▸ Dm41.set (Sm.stp s f.c true).1.v
          have Am42 := hWm42 ▸ Am41.other nAD (Sm.stp s f.c true).1.v
          have Bm42 := hWm42 ▸ Bm41.other nBD (Sm.stp s f.c true).1.v
          have Cm42 := hWm42 ▸ Cm41.other nCD (Sm.stp s f.c true).1.v
          have bm42 := hWm42 ▸ below_setRow bm41 gD (Sm.stp s f.c true).1.v
          obtain ⟨Wm43, hWm43⟩ : ∃ W, Wm42.setRow Wm2.heap.size fl0.v = W := ⟨_, rfl⟩
          have Cm43 : Blk Wm43 Wm2.heap.size 33 fl0.v := hWm43 ▸ Cm42.set fl0.v
          have Am43 := hWm43 ▸ Am42.other nAC fl0.v
          have Bm43 := hWm43 ▸ Bm42.other nBC fl0.v
          have Dm43 := hWm43 ▸ Dm42.other nDC fl0.v
          have bm43 := hWm43 ▸ below_setRow bm42 gC fl0.v
          go_wp2_with (first | (refine wpList_store_row rfl _ _ _ rfl Wm14.heap.size (Sm.stp s f.c true).1.v (by rfl) (by rfl) _ _ Dm41 (by kernel_rfl) (by rfl) (by kernel_rfl) ?_; rw [hWm42]) | (refine wpList_store_row rfl _ _ _ rfl Wm2.heap.size fl0.v (by rfl) (by rfl) _ _ Cm42 (by kernel_rfl) (by rfl) (by kernel_rfl) ?_; rw [hWm43]))
          have hR2 : R = ((fl0 : Fl), ((Sm.stp s f.c true).2 : Int)) := by rw [← HR.out]; first | rfl | (simp [Fl.goS, hq5, hq8, hq12, bne_t_fw hq17]; done) | (simp [Fl.goS, hq5, hq8, hq12, bne_t_fw hq17]; rfl)
          subst hR2
          exact ret_cell_tmp (k := 8) (j := 9) Try.f15 (by kernel_rfl) Cm43 Try.underlying33 (by kernel_rfl) (by rfl) (by rfl) rfl ⟨rfl, bm43⟩
end Go.Proofs.Ytmjjdbkipagkbaa
