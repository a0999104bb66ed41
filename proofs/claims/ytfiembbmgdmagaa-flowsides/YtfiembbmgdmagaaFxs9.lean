/- Texts joined: TcK FwE0 FwE1 FwI FwM -/
import Derived.Test.YtfiembbmgdmagaaFxs8
namespace Go.Proofs.Ytfiembbmgdmagaa
abbrev fxs9o0 : Oper := { dst := none, op := Op.store 33 (.tmp 9) (.tmp 34), type := 0, pos := "table.go:39", after := #[{ on := 10, ground := Ground.data }, { on := 8, ground := Ground.data }, { on := 5, ground := Ground.chain }, { on := 0, ground := Ground.phase }, { on := 1, ground := Ground.phase }, { on := 2, ground := Ground.phase }, { on := 3, ground := Ground.phase }, { on := 4, ground := Ground.phase }, { on := 5, ground := Ground.phase }, { on := 6, ground := Ground.phase }, { on := 7, ground := Ground.phase }, { on := 8, ground := Ground.phase }, { on := 9, ground := Ground.textOnly Departure.lateStores }, { on := 10, ground := Ground.phase }], guard := none }
abbrev fxs9o1 : Oper := { dst := some 10, op := Op.assign (.tmp 35), type := 4, pos := "table.go:39", after := #[{ on := 9, ground := Ground.data }, { on := 11, ground := Ground.chain }, { on := 0, ground := Ground.phase }, { on := 1, ground := Ground.phase }, { on := 2, ground := Ground.phase }, { on := 3, ground := Ground.phase }, { on := 4, ground := Ground.phase }, { on := 5, ground := Ground.phase }, { on := 6, ground := Ground.phase }, { on := 7, ground := Ground.phase }, { on := 8, ground := Ground.phase }, { on := 9, ground := Ground.phase }, { on := 10, ground := Ground.phase }, { on := 11, ground := Ground.phase }], guard := none }
abbrev fxs9o4 : Oper := { dst := some 32, op := Op.call { callee := Callee.value (.func 55), args := #[.tmp 31], argTypes := #[26] }, type := 26, pos := "table.go:39", after := #[{ on := 4, ground := Ground.data }], guard := none }
abbrev fxs9o5 : Oper := { dst := some 33, op := Op.lookup 75 (.tmp 30) (.tmp 32) true, type := 99, pos := "table.go:39", after := #[{ on := 3, ground := Ground.data }, { on := 5, ground := Ground.data }], guard := none }
abbrev fxs9o6 : Oper := { dst := some 35, op := Op.extract (.tmp 26) 1, type := 4, pos := "table.go:39", after := #[{ on := 7, ground := Ground.data }, { on := 11, ground := Ground.gcOnly Departure.lateStores }], guard := none }
abbrev fxs9o7 : Oper := { dst := some 26, op := Op.move (.tmp 33), type := 99, pos := "table.go:39", after := #[{ on := 6, ground := Ground.data }], guard := none }
abbrev fxs9o8 : Oper := { dst := some 34, op := Op.extract (.tmp 26) 0, type := 33, pos := "table.go:39", after := #[{ on := 7, ground := Ground.data }], guard := none }
abbrev fxs9o12 : Oper := { dst := some 9, op := Op.alloc 33, type := 0, pos := "table.go:39", after := #[], guard := none }
end Go.Proofs.Ytfiembbmgdmagaa
namespace Go.Proofs.Ytfiembbmgdmagaa
open Go.RowKit
set_option linter.unusedVariables false
set_option linter.unusedSimpArgs false
def Cn.ret (o : Option Cn) : Cn × Int := match o with | some d => (d, 0) | none => (cn0, 23)
theorem setConn_fw (f : Fl) (c : Cn) : setMany f.v 10 c.v.toList = Fl.v ⟨f.w, c, f.ends, f.help, f.both⟩ := by kernel_rfl
set_option maxRecDepth 100000 in
set_option maxHeartbeats 16000000 in
theorem go1_fw (f : Fl) (s : Sm) (now : Int) (w : World) :
  Calls Try.prog 15 #[.agg f.v, .int .i64 1, .agg s.v, .int .i64 now] w fun e w' => e = .returned (.tuple #[.agg (f.goS true s now).1.v, .int .i64 (f.goS true s now).2]) ∧ Below w.heap.size w w' := by
 obtain ⟨R, hR⟩ : ∃ R, f.goS true s now = R := ⟨_, rfl⟩
 have HR : Hid (f.goS true s now = R) := hR
 rw [hR]
 clear hR
 have b := Below.refl w.heap.size w
 go_enter Try.func15, Try.ntmps15
 obtain ⟨Wm1, hWm1⟩ : ∃ W, w.alloc (.cells f.v 33) = W := ⟨_, rfl⟩
 have bm1 := bel_nw hWm1
 have Am1 := blk_nw hWm1
 have gA : w.heap.size ≤ w.heap.size := Nat.le_refl _
 obtain ⟨Wm2, hWm2⟩ : ∃ W, Wm1.alloc (.cells s.v 36) = W := ⟨_, rfl⟩
 have bm2 := bel_al bm1 hWm2
 have Am2 := Am1.al hWm2
 have Bm2 := blk_nw hWm2
 have gB : w.heap.size ≤ Wm1.heap.size := bm1.size
 have nAB : w.heap.size ≠ Wm1.heap.size := by have := Am1.lt; omega
 have nBA : Wm1.heap.size ≠ w.heap.size := fun e => nAB e.symm
 obtain ⟨Wm3, hWm3⟩ : ∃ W, Wm2.alloc (.cells #[.int .i64 0, .int .i64 0, .int .i64 0, .int .u64 0, .int .u64 0, .int .i64 0, .int .u64 0, .int .u64 0, .int .i64 0, .int .i64 0, .int .i64 0, .int .u32 0, .int .u32 0, .int .u32 0, .int .u32 0, .bool false, .bool false, .bool false, .bool false, .int .i64 0, .int .i64 0, .bool false] 33) = W := ⟨_, rfl⟩
 have bm3 := bel_al bm2 hWm3
 have Am3 := Am2.al hWm3
 have Bm3 := Bm2.al hWm3
 have Cm3 := blk_nw hWm3
 have gC : w.heap.size ≤ Wm2.heap.size := bm2.size
 have nAC : w.heap.size ≠ Wm2.heap.size := by have := Am2.lt; omega
 have nCA : Wm2.heap.size ≠ w.heap.size := fun e => nAC e.symm
 have nBC : Wm1.heap.size ≠ Wm2.heap.size := by have := Bm2.lt; omega
 have nCB : Wm2.heap.size ≠ Wm1.heap.size := fun e => nBC e.symm
 go_wp2_with (refine wpList_load_blk_w (by rfl) _ _ rfl w.heap.size (by rfl) _ Am3 Try.underlying33 (by kernel_rfl) ?_)
 refine Calls.mono (right_fw f _) ?_
 rintro e Wm4 ⟨rfl, bb⟩
 have Am4 := Am3.kept bb
 have Bm4 := Bm3.kept bb
 have Cm4 := Cm3.kept bb
 have bm4 := bel_tr bm3 bb
 clear bb
 clear Am3 Bm3 Cm3 bm3
 cases hq5 : (Fl.right f) with
 | false =>
  obtain ⟨Wm6, hWm6⟩ : ∃ W, Wm4.setRow Wm2.heap.size fl0.v = W := ⟨_, rfl⟩
  have Cm6 : Blk Wm6 Wm2.heap.size 33 fl0.v := hWm6 ▸ Cm4.set fl0.v
  have Am6 := hWm6 ▸ Am4.other nAC fl0.v
  have Bm6 := hWm6 ▸ Bm4.other nBC fl0.v
  have bm6 := hWm6 ▸ below_setRow bm4 gC fl0.v
  go_wp2_with (refine wpList_store_row rfl _ _ _ rfl Wm2.heap.size fl0.v (by rfl) (by rfl) _ _ Cm4 (by kernel_rfl) (by rfl) (by kernel_rfl) ?_; rw [hWm6])
  have hR2 : R = ((fl0 : Fl), (1 : Int)) := by rw [← HR.out]; first | rfl | (simp [Fl.goS, hq5]; done) | (simp [Fl.goS, hq5]; rfl)
  subst hR2
  exact ret_cell_tmp (k := 8) (j := 9) Try.f15 (by kernel_rfl) Cm6 Try.underlying33 (by kernel_rfl) (by rfl) (by rfl) rfl ⟨rfl, bm6⟩

 | true =>
  go_wp2_with fail
  refine Calls.mono (now_fw now _) ?_
  rintro e Wm7 ⟨rfl, bb⟩
  have Am7 := Am4.kept bb
  have Bm7 := Bm4.kept bb
  have Cm7 := Cm4.kept bb
  have bm7 := bel_tr bm4 bb
  clear bb
  clear Am4 Bm4 Cm4 bm4
  cases hq8 : (nowB now) with
  | false =>
   obtain ⟨Wm9, hWm9⟩ : ∃ W, Wm7.setRow Wm2.heap.size fl0.v = W := ⟨_, rfl⟩
   have Cm9 : Blk Wm9 Wm2.heap.size 33 fl0.v := hWm9 ▸ Cm7.set fl0.v
   have Am9 := hWm9 ▸ Am7.other nAC fl0.v
   have Bm9 := hWm9 ▸ Bm7.other nBC fl0.v
   have bm9 := hWm9 ▸ below_setRow bm7 gC fl0.v
   go_wp2_with (refine wpList_store_row rfl _ _ _ rfl Wm2.heap.size fl0.v (by rfl) (by rfl) _ _ Cm7 (by kernel_rfl) (by rfl) (by kernel_rfl) ?_; rw [hWm9])
   have hR2 : R = ((fl0 : Fl), (1 : Int)) := by rw [← HR.out]; first | rfl | (simp [Fl.goS, hq5, hq8]; done) | (simp [Fl.goS, hq5, hq8]; rfl)
   subst hR2
   exact ret_cell_tmp (k := 8) (j := 9) Try.f15 (by kernel_rfl) Cm9 Try.underlying33 (by kernel_rfl) (by rfl) (by rfl) rfl ⟨rfl, bm9⟩

  | true =>
   go_wp2_with fail
   obtain ⟨Wdq10, hWdq10⟩ : ∃ W, Wm7.drew = W := ⟨_, rfl⟩
   have Adq10 := hWdq10 ▸ Am7.drew
   have Bdq10 := hWdq10 ▸ Bm7.drew
   have Cdq10 := hWdq10 ▸ Cm7.drew
   have bdq10 := hWdq10 ▸ bm7.drew
   refine wp_region_noPanic ?_
   refine wp_region_held_drew (S := fun w' => Blk w' w.heap.size 33 f.v ∧ Blk w' Wm1.heap.size 36 s.v ∧ Blk w' Wm2.heap.size 33 #[.int .i64 0, .int .i64 0, .int .i64 0, .int .u64 0, .int .u64 0, .int .i64 0, .int .u64 0, .int .u64 0, .int .i64 0, .int .i64 0, .int .i64 0, .int .u32 0, .int .u32 0, .int .u32 0, .int .u32 0, .bool false, .bool false, .bool false, .bool false, .int .i64 0, .int .i64 0, .bool false]) (by kernel_rfl) (by rw [hWdq10]; exact ⟨Adq10, Bdq10, Cdq10⟩) (fun hHeld => ?_)
   rw [hWdq10] at hHeld ⊢
   refine qtk (i := 0) (oi := { dst := some 29, op := Op.fieldAddr 36 (.tmp 6) 0, type := 0, pos := "flow.go:67", after := #[], guard := none }) (v := (.pointer (some ⟨Wm1.heap.size, 0, none⟩))) hHeld ?_ ?_
   ·intro w9 hSw
    try dsimp only at hSw
    go_simp
   try simp only [qpu]
   refine qty (i := 1) (oi := { dst := some 30, op := Op.load 26 (.tmp 29), type := 26, pos := "flow.go:67", after := #[{ on := 0, ground := Ground.data }], guard := none }) (v := (.agg s.w.v)) (yieldsIf_sub_w (by kernel_rfl) _ _ rfl Wm1.heap.size 0 _ (by rfl) _ s.w.v (fun _ hSw => hSw.2.1) (by rfl) Try.underlying26 (by kernel_rfl)) hHeld ?_
   try simp only [qpu]
   refine qty (i := 2) (oi := { dst := some 31, op := Op.load 33 (.tmp 4), type := 33, pos := "flow.go:67", after := #[], guard := none }) (v := (.agg f.v)) (yieldsIf_blk_w (by kernel_rfl) _ _ rfl w.heap.size (by rfl) _ (fun _ hSw => hSw.1) Try.underlying33 (by kernel_rfl)) hHeld ?_
   try simp only [qpu]
   refine qtk (i := 3) (oi := { dst := some 32, op := Op.move (.tmp 1), type := 3, pos := "flow.go:67", after := #[], guard := none }) (v := (.int .i64 1)) hHeld ?_ ?_
   ·intro w9 hSw
    try dsimp only at hSw
    go_simp
   try simp only [qpu]
   refine wpAnyH_ready (rs := [4]) (by kernel_rfl) (by simp) ?_
   refine AllReadyH.cons (o := { dst := some 33, op := Op.call { callee := Callee.value (.func 43), args := #[.tmp 31, .tmp 32], argTypes := #[33, 3] }, type := 26, pos := "flow.go:67", after := #[{ on := 2, ground := Ground.data }, { on := 3, ground := Ground.data }], guard := none }) rfl (fun K hK => ?_) AllReadyH.nil
   go_simp
   refine Calls.mono (way1_fw f _) ?_
   rintro e Wx11 ⟨rfl, bb⟩
   have Ax11 := Adq10.kept bb
   have Bx11 := Bdq10.kept bb
   have Cx11 := Cdq10.kept bb
   have bx11 := bel_tr bdq10 bb
   clear bb
   refine hK.out _ _ (by exact ⟨Ax11, Bx11, Cx11⟩) (fun hHeld => ?_)
   clear hK K
   try simp only [qpu]
   refine qtk (i := 5) (oi := { dst := some 34, op := Op.binOp BinOp.neq 26 (.tmp 30) (.tmp 33) 26, type := 4, pos := "flow.go:67", after := #[{ on := 1, ground := Ground.data }, { on := 4, ground := Ground.data }], guard := none }) (v := (.bool (!(Wy.eqB s.w (Fl.way f true))))) hHeld ?_ ?_
   ·intro w9 hSw
    try dsimp only at hSw
    have hcc := neq_way s.w (Fl.way f true)
    go_simp
   try simp only [qpu]
   refine wpAnyH_done (by kernel_rfl) ?_ _
   refine NoPanic.normal ?_
   cases hq12 : (Wy.eqB s.w (Fl.way f true)) with
   | false =>
    obtain ⟨Wm13, hWm13⟩ : ∃ W, Wx11.setRow Wm2.heap.size fl0.v = W := ⟨_, rfl⟩
    have Cm13 : Blk Wm13 Wm2.heap.size 33 fl0.v := hWm13 ▸ Cx11.set fl0.v
    have Am13 := hWm13 ▸ Ax11.other nAC fl0.v
    have Bm13 := hWm13 ▸ Bx11.other nBC fl0.v
    have bm13 := hWm13 ▸ below_setRow bx11 gC fl0.v
    go_wp2_with (refine wpList_store_row rfl _ _ _ rfl Wm2.heap.size fl0.v (by rfl) (by rfl) _ _ Cx11 (by kernel_rfl) (by rfl) (by kernel_rfl) ?_; rw [hWm13])
    have hR2 : R = ((fl0 : Fl), (23 : Int)) := by rw [← HR.out]; first | rfl | (simp [Fl.goS, hq5, hq8, hq12]; done) | (simp [Fl.goS, hq5, hq8, hq12]; rfl)
    subst hR2
    exact ret_cell_tmp (k := 8) (j := 9) Try.f15 (by kernel_rfl) Cm13 Try.underlying33 (by kernel_rfl) (by rfl) (by rfl) rfl ⟨rfl, bm13⟩

   | true =>
    go_wp2_with (first | (refine wpList_load_sub_w (by rfl) _ _ rfl w.heap.size 10 _ (by rfl) _ f.c.v Ax11 (by rfl) Try.underlying31 (by kernel_rfl) ?_) | (refine wpList_load_blk_w (by rfl) _ _ rfl Wm1.heap.size (by rfl) _ Bx11 Try.underlying36 (by kernel_rfl) ?_))
    refine Calls.mono (step1_fw f.c s _) ?_
    rintro e Wm14 ⟨rfl, bb⟩
    have Am14 := Ax11.kept bb
    have Bm14 := Bx11.kept bb
    have Cm14 := Cx11.kept bb
    have bm14 := bel_tr bx11 bb
    clear bb
    clear Ax11 Bx11 Cx11 bx11
    cases hq17 : ((Sm.stp s f.c true).2 != 0) with
    | false =>
     cases hq22 : f.both with
     | false =>
      obtain ⟨Wm23, hWm23⟩ : ∃ W, Wm14.alloc (.cells #[.int .i64 0, .int .u32 0, .int .u32 0, .int .u32 0, .int .u32 0, .bool false, .bool false, .bool false, .bool false] 31) = W := ⟨_, rfl⟩
      have bm23 := bel_al bm14 hWm23
      have Am23 := Am14.al hWm23
      have Bm23 := Bm14.al hWm23
      have Cm23 := Cm14.al hWm23
      have Dm23 := blk_nw hWm23
      have gD : w.heap.size ≤ Wm14.heap.size := bm14.size
      have nAD : w.heap.size ≠ Wm14.heap.size := by have := Am14.lt; omega
      have nDA : Wm14.heap.size ≠ w.heap.size := fun e => nAD e.symm
      have nBD : Wm1.heap.size ≠ Wm14.heap.size := by have := Bm14.lt; omega
      have nDB : Wm14.heap.size ≠ Wm1.heap.size := fun e => nBD e.symm
      have nCD : Wm2.heap.size ≠ Wm14.heap.size := by have := Cm14.lt; omega
      have nDC : Wm14.heap.size ≠ Wm2.heap.size := fun e => nCD e.symm
      obtain ⟨Wm24, hWm24⟩ : ∃ W, Wm23.setRow Wm14.heap.size (Sm.stp s f.c true).1.v = W := ⟨_, rfl⟩
      have Dm24 : Blk Wm24 Wm14.heap.size 31 (Sm.stp s f.c true).1.v := hWm24 ▸ Dm23.set (Sm.stp s f.c true).1.v
      have Am24 := hWm24 ▸ Am23.other nAD (Sm.stp s f.c true).1.v
      have Bm24 := hWm24 ▸ Bm23.other nBD (Sm.stp s f.c true).1.v
      have Cm24 := hWm24 ▸ Cm23.other nCD (Sm.stp s f.c true).1.v
      have bm24 := hWm24 ▸ below_setRow bm23 gD (Sm.stp s f.c true).1.v
      obtain ⟨Wm25, hWm25⟩ : ∃ W, Wm24.setRow w.heap.size (Fl.v ⟨f.w, (Sm.stp s f.c true).1, f.ends, f.help, f.both⟩) = W := ⟨_, rfl⟩
      have Am25 : Blk Wm25 w.heap.size 33 (Fl.v ⟨f.w, (Sm.stp s f.c true).1, f.ends, f.help, f.both⟩) := hWm25 ▸ Am24.set (Fl.v ⟨f.w, (Sm.stp s f.c true).1, f.ends, f.help, f.both⟩)
      have Bm25 := hWm25 ▸ Bm24.other nBA (Fl.v ⟨f.w, (Sm.stp s f.c true).1, f.ends, f.help, f.both⟩)
      have Cm25 := hWm25 ▸ Cm24.other nCA (Fl.v ⟨f.w, (Sm.stp s f.c true).1, f.ends, f.help, f.both⟩)
      have Dm25 := hWm25 ▸ Dm24.other nDA (Fl.v ⟨f.w, (Sm.stp s f.c true).1, f.ends, f.help, f.both⟩)
      have bm25 := hWm25 ▸ below_setRow bm24 gA (Fl.v ⟨f.w, (Sm.stp s f.c true).1, f.ends, f.help, f.both⟩)
      have c26 := Am25.cell 21 (.bool f.both) rfl
      have y28 := Am25.cell 21 (.bool f.both) rfl
      have z29 := Am25.frozen 21
      obtain ⟨Wm27, hWm27⟩ : ∃ W, Wm25.setCell ⟨w.heap.size, 21, none⟩ (.bool true) = W := ⟨_, rfl⟩
      have Am27 : Blk Wm27 w.heap.size 33 (Fl.v ⟨f.w, (Sm.stp s f.c true).1, f.ends, f.help, true⟩) := hWm27 ▸ Am25.put 21 (.bool true)
      have Bm27 := hWm27 ▸ Bm25.put_other Am25 nBA 21 (.bool true)
      have Cm27 := hWm27 ▸ Cm25.put_other Am25 nCA 21 (.bool true)
      have Dm27 := hWm27 ▸ Dm25.put_other Am25 nDA 21 (.bool true)
      have bm27 := hWm27 ▸ bm25.setCell (p := ⟨w.heap.size, 21, none⟩) gA (.bool true)
      go_wp2_with (first | (refine wpList_store_row rfl _ _ _ rfl Wm14.heap.size (Sm.stp s f.c true).1.v (by rfl) (by rfl) _ _ Dm23 (by kernel_rfl) (by rfl) (by kernel_rfl) ?_; rw [hWm24]) | (refine wpList_load_blk_w (by rfl) _ _ rfl Wm14.heap.size (by rfl) _ Dm24 Try.underlying31 (by kernel_rfl) ?_) | (refine wpList_store_off rfl _ _ _ rfl w.heap.size 10 _ (Sm.stp s f.c true).1.v _ (Fl.v ⟨f.w, (Sm.stp s f.c true).1, f.ends, f.help, f.both⟩) (by rfl) (by rfl) Am24 (by kernel_rfl) (Nat.le_of_ble_eq_true (by kernel_rfl)) (by kernel_rfl) (setConn_fw f (Sm.stp s f.c true).1) ?_; rw [hWm25]) | (refine wpList_load_blk_w (by rfl) _ _ rfl w.heap.size (by rfl) _ Am27 Try.underlying33 (by kernel_rfl) ?_))
      clear c26 y28 z29
      refine Calls.mono (keep_fw (⟨f.w, (Sm.stp s f.c true).1, f.ends, f.help, true⟩) now _ (by assumption) (stepC (by assumption) (by assumption) (by assumption))) ?_
      rintro e Wm30 ⟨rfl, bb⟩
      have Am30 := Am27.kept bb
      have Bm30 := Bm27.kept bb
      have Cm30 := Cm27.kept bb
      have Dm30 := Dm27.kept bb
      have bm30 := bel_tr bm27 bb
      clear bb
      clear Am27 Bm27 Cm27 Dm27 bm27
      obtain ⟨Wm31, hWm31⟩ : ∃ W, Wm30.setRow Wm2.heap.size (Fl.keep (⟨f.w, (Sm.stp s f.c true).1, f.ends, f.help, true⟩) now).v = W := ⟨_, rfl⟩
      have Cm31 : Blk Wm31 Wm2.heap.size 33 (Fl.keep (⟨f.w, (Sm.stp s f.c true).1, f.ends, f.help, true⟩) now).v := hWm31 ▸ Cm30.set (Fl.keep (⟨f.w, (Sm.stp s f.c true).1, f.ends, f.help, true⟩) now).v
      have Am31 := hWm31 ▸ Am30.other nAC (Fl.keep (⟨f.w, (Sm.stp s f.c true).1, f.ends, f.help, true⟩) now).v
      have Bm31 := hWm31 ▸ Bm30.other nBC (Fl.keep (⟨f.w, (Sm.stp s f.c true).1, f.ends, f.help, true⟩) now).v
      have Dm31 := hWm31 ▸ Dm30.other nDC (Fl.keep (⟨f.w, (Sm.stp s f.c true).1, f.ends, f.help, true⟩) now).v
      have bm31 := hWm31 ▸ below_setRow bm30 gC (Fl.keep (⟨f.w, (Sm.stp s f.c true).1, f.ends, f.help, true⟩) now).v
      go_wp2_with (refine wpList_store_row rfl _ _ _ rfl Wm2.heap.size (Fl.keep (⟨f.w, (Sm.stp s f.c true).1, f.ends, f.help, true⟩) now).v (by rfl) (by rfl) _ _ Cm30 (by kernel_rfl) (by rfl) (by kernel_rfl) ?_; rw [hWm31])
      have hR2 : R = (((Fl.keep (⟨f.w, (Sm.stp s f.c true).1, f.ends, f.help, true⟩) now) : Fl), (0 : Int)) := by rw [← HR.out]; first | rfl | (simp [Fl.goS, hq5, hq8, hq12, bne_f_fw hq17, hq22]; done) | (simp [Fl.goS, hq5, hq8, hq12, bne_f_fw hq17, hq22]; rfl)
      subst hR2
      exact ret_cell_tmp (k := 8) (j := 9) Try.f15 (by kernel_rfl) Cm31 Try.underlying33 (by kernel_rfl) (by rfl) (by rfl) rfl ⟨rfl, bm31⟩

     | true =>
      obtain ⟨Wm32, hWm32⟩ : ∃ W, Wm14.alloc (.cells #[.int .i64 0, .int .u32 0, .int .u32 0, .int .u32 0, .int .u32 0, .bool false, .bool false, .bool false, .bool false] 31) = W := ⟨_, rfl⟩
      have bm32 := bel_al bm14 hWm32
      have Am32 := Am14.al hWm32
      have Bm32 := Bm14.al hWm32
      have Cm32 := Cm14.al hWm32
      have Dm32 := blk_nw hWm32
      have gD : w.heap.size ≤ Wm14.heap.size := bm14.size
      have nAD : w.heap.size ≠ Wm14.heap.size := by have := Am14.lt; omega
      have nDA : Wm14.heap.size ≠ w.heap.size := fun e => nAD e.symm
      have nBD : Wm1.heap.size ≠ Wm14.heap.size := by have := Bm14.lt; omega
      have nDB : Wm14.heap.size ≠ Wm1.heap.size := fun e => nBD e.symm
      have nCD : Wm2.heap.size ≠ Wm14.heap.size := by have := Cm14.lt; omega
      have nDC : Wm14.heap.size ≠ Wm2.heap.size := fun e => nCD e.symm
      obtain ⟨Wm33, hWm33⟩ : ∃ W, Wm32.setRow Wm14.heap.size (Sm.stp s f.c true).1.v = W := ⟨_, rfl⟩
      have Dm33 : Blk Wm33 Wm14.heap.size 31 (Sm.stp s f.c true).1.v := hWm33 ▸ Dm32.set (Sm.stp s f.c true).1.v
      have Am33 := hWm33 ▸ Am32.other nAD (Sm.stp s f.c true).1.v
      have Bm33 := hWm33 ▸ Bm32.other nBD (Sm.stp s f.c true).1.v
      have Cm33 := hWm33 ▸ Cm32.other nCD (Sm.stp s f.c true).1.v
      have bm33 := hWm33 ▸ below_setRow bm32 gD (Sm.stp s f.c true).1.v
      obtain ⟨Wm34, hWm34⟩ : ∃ W, Wm33.setRow w.heap.size (Fl.v ⟨f.w, (Sm.stp s f.c true).1, f.ends, f.help, f.both⟩) = W := ⟨_, rfl⟩
      have Am34 : Blk Wm34 w.heap.size 33 (Fl.v ⟨f.w, (Sm.stp s f.c true).1, f.ends, f.help, f.both⟩) := hWm34 ▸ Am33.set (Fl.v ⟨f.w, (Sm.stp s f.c true).1, f.ends, f.help, f.both⟩)
      have Bm34 := hWm34 ▸ Bm33.other nBA (Fl.v ⟨f.w, (Sm.stp s f.c true).1, f.ends, f.help, f.both⟩)
      have Cm34 := hWm34 ▸ Cm33.other nCA (Fl.v ⟨f.w, (Sm.stp s f.c true).1, f.ends, f.help, f.both⟩)
      have Dm34 := hWm34 ▸ Dm33.other nDA (Fl.v ⟨f.w, (Sm.stp s f.c true).1, f.ends, f.help, f.both⟩)
      have bm34 := hWm34 ▸ below_setRow bm33 gA (Fl.v ⟨f.w, (Sm.stp s f.c true).1, f.ends, f.help, f.both⟩)
      have c35 := Am34.cell 21 (.bool f.both) rfl
      have y37 := Am34.cell 21 (.bool f.both) rfl
      have z38 := Am34.frozen 21
      obtain ⟨Wm36, hWm36⟩ : ∃ W, Wm34.setCell ⟨w.heap.size, 21, none⟩ (.bool true) = W := ⟨_, rfl⟩
      have Am36 : Blk Wm36 w.heap.size 33 (Fl.v ⟨f.w, (Sm.stp s f.c true).1, f.ends, f.help, true⟩) := hWm36 ▸ Am34.put 21 (.bool true)
      have Bm36 := hWm36 ▸ Bm34.put_other Am34 nBA 21 (.bool true)
      have Cm36 := hWm36 ▸ Cm34.put_other Am34 nCA 21 (.bool true)
      have Dm36 := hWm36 ▸ Dm34.put_other Am34 nDA 21 (.bool true)
      have bm36 := hWm36 ▸ bm34.setCell (p := ⟨w.heap.size, 21, none⟩) gA (.bool true)
      go_wp2_with (first | (refine wpList_store_row rfl _ _ _ rfl Wm14.heap.size (Sm.stp s f.c true).1.v (by rfl) (by rfl) _ _ Dm32 (by kernel_rfl) (by rfl) (by kernel_rfl) ?_; rw [hWm33]) | (refine wpList_load_blk_w (by rfl) _ _ rfl Wm14.heap.size (by rfl) _ Dm33 Try.underlying31 (by kernel_rfl) ?_) | (refine wpList_store_off rfl _ _ _ rfl w.heap.size 10 _ (Sm.stp s f.c true).1.v _ (Fl.v ⟨f.w, (Sm.stp s f.c true).1, f.ends, f.help, f.both⟩) (by rfl) (by rfl) Am33 (by kernel_rfl) (Nat.le_of_ble_eq_true (by kernel_rfl)) (by kernel_rfl) (setConn_fw f (Sm.stp s f.c true).1) ?_; rw [hWm34]) | (refine wpList_load_blk_w (by rfl) _ _ rfl w.heap.size (by rfl) _ Am36 Try.underlying33 (by kernel_rfl) ?_))
      clear c35 y37 z38
      refine Calls.mono (keep_fw (⟨f.w, (Sm.stp s f.c true).1, f.ends, f.help, true⟩) now _ (by assumption) (stepC (by assumption) (by assumption) (by assumption))) ?_
      rintro e Wm39 ⟨rfl, bb⟩
      have Am39 := Am36.kept bb
      have Bm39 := Bm36.kept bb
      have Cm39 := Cm36.kept bb
      have Dm39 := Dm36.kept bb
      have bm39 := bel_tr bm36 bb
      clear bb
      clear Am36 Bm36 Cm36 Dm36 bm36
      obtain ⟨Wm40, hWm40⟩ : ∃ W, Wm39.setRow Wm2.heap.size (Fl.keep (⟨f.w, (Sm.stp s f.c true).1, f.ends, f.help, true⟩) now).v = W := ⟨_, rfl⟩
      have Cm40 : Blk Wm40 Wm2.heap.size 33 (Fl.keep (⟨f.w, (Sm.stp s f.c true).1, f.ends, f.help, true⟩) now).v := hWm40 ▸ Cm39.set (Fl.keep (⟨f.w, (Sm.stp s f.c true).1, f.ends, f.help, true⟩) now).v
      have Am40 := hWm40 ▸ Am39.other nAC (Fl.keep (⟨f.w, (Sm.stp s f.c true).1, f.ends, f.help, true⟩) now).v
      have Bm40 := hWm40 ▸ Bm39.other nBC (Fl.keep (⟨f.w, (Sm.stp s f.c true).1, f.ends, f.help, true⟩) now).v
      have Dm40 := hWm40 ▸ Dm39.other nDC (Fl.keep (⟨f.w, (Sm.stp s f.c true).1, f.ends, f.help, true⟩) now).v
      have bm40 := hWm40 ▸ below_setRow bm39 gC (Fl.keep (⟨f.w, (Sm.stp s f.c true).1, f.ends, f.help, true⟩) now).v
      go_wp2_with (refine wpList_store_row rfl _ _ _ rfl Wm2.heap.size (Fl.keep (⟨f.w, (Sm.stp s f.c true).1, f.ends, f.help, true⟩) now).v (by rfl) (by rfl) _ _ Cm39 (by kernel_rfl) (by rfl) (by kernel_rfl) ?_; rw [hWm40])
      have hR2 : R = (((Fl.keep (⟨f.w, (Sm.stp s f.c true).1, f.ends, f.help, true⟩) now) : Fl), (0 : Int)) := by rw [← HR.out]; first | rfl | (simp [Fl.goS, hq5, hq8, hq12, bne_f_fw hq17, hq22]; done) | (simp [Fl.goS, hq5, hq8, hq12, bne_f_fw hq17, hq22]; rfl)
      subst hR2
      exact ret_cell_tmp (k := 8) (j := 9) Try.f15 (by kernel_rfl) Cm40 Try.underlying33 (by kernel_rfl) (by rfl) (by rfl) rfl ⟨rfl, bm40⟩


    | true =>
     obtain ⟨Wm41, hWm41⟩ : ∃ W, Wm14.alloc (.cells #[.int .i64 0, .int .u32 0, .int .u32 0, .int .u32 0, .int .u32 0, .bool false, .bool false, .bool false, .bool false] 31) = W := ⟨_, rfl⟩
     have bm41 := bel_al bm14 hWm41
     have Am41 := Am14.al hWm41
     have Bm41 := Bm14.al hWm41
     have Cm41 := Cm14.al hWm41
     have Dm41 := blk_nw hWm41
     have gD : w.heap.size ≤ Wm14.heap.size := bm14.size
     have nAD : w.heap.size ≠ Wm14.heap.size := by have := Am14.lt; omega
     have nDA : Wm14.heap.size ≠ w.heap.size := fun e => nAD e.symm
     have nBD : Wm1.heap.size ≠ Wm14.heap.size := by have := Bm14.lt; omega
     have nDB : Wm14.heap.size ≠ Wm1.heap.size := fun e => nBD e.symm
     have nCD : Wm2.heap.size ≠ Wm14.heap.size := by have := Cm14.lt; omega
     have nDC : Wm14.heap.size ≠ Wm2.heap.size := fun e => nCD e.symm
     obtain ⟨Wm42, hWm42⟩ : ∃ W, Wm41.setRow Wm14.heap.size (Sm.stp s f.c true).1.v = W := ⟨_, rfl⟩
     have Dm42 : Blk Wm42 Wm14.heap.size 31 (Sm.stp s f.c true).1.v := hWm42 ▸ Dm41.set (Sm.stp s f.c true).1.v
     have Am42 := hWm42 ▸ Am41.other nAD (Sm.stp s f.c true).1.v
     have Bm42 := hWm42 ▸ Bm41.other nBD (Sm.stp s f.c true).1.v
     have Cm42 := hWm42 ▸ Cm41.other nCD (Sm.stp s f.c true).1.v
     have bm42 := hWm42 ▸ below_setRow bm41 gD (Sm.stp s f.c true).1.v
     obtain ⟨Wm43, hWm43⟩ : ∃ W, Wm42.setRow Wm2.heap.size fl0.v = W := ⟨_, rfl⟩
     have Cm43 : Blk Wm43 Wm2.heap.size 33 fl0.v := hWm43 ▸ Cm42.set fl0.v
     have Am43 := hWm43 ▸ Am42.other nAC fl0.v
     have Bm43 := hWm43 ▸ Bm42.other nBC fl0.v
     have Dm43 := hWm43 ▸ Dm42.other nDC fl0.v
     have bm43 := hWm43 ▸ below_setRow bm42 gC fl0.v
     go_wp2_with (first | (refine wpList_store_row rfl _ _ _ rfl Wm14.heap.size (Sm.stp s f.c true).1.v (by rfl) (by rfl) _ _ Dm41 (by kernel_rfl) (by rfl) (by kernel_rfl) ?_; rw [hWm42]) | (refine wpList_store_row rfl _ _ _ rfl Wm2.heap.size fl0.v (by rfl) (by rfl) _ _ Cm42 (by kernel_rfl) (by rfl) (by kernel_rfl) ?_; rw [hWm43]))
     have hR2 : R = ((fl0 : Fl), ((Sm.stp s f.c true).2 : Int)) := by rw [← HR.out]; first | rfl | (simp [Fl.goS, hq5, hq8, hq12, bne_t_fw hq17]; done) | (simp [Fl.goS, hq5, hq8, hq12, bne_t_fw hq17]; rfl)
     subst hR2
     exact ret_cell_tmp (k := 8) (j := 9) Try.f15 (by kernel_rfl) Cm43 Try.underlying33 (by kernel_rfl) (by rfl) (by rfl) rfl ⟨rfl, bm43⟩
set_option maxRecDepth 100000 in
set_option maxHeartbeats 4000000 in
theorem neq_fl (f : Fl) (w : World) : (Go.binOp .neq 33 (.agg f.v) (.agg f.v)).run Try.prog w = Result.ok (.bool false) w := by
 obtain ⟨⟨a, b, ⟨c, d, e⟩, ⟨c', d', e'⟩, g, h⟩, ⟨st, n0, n1, e0, e1, k0, k1, d0, d1⟩, i, j, k⟩ := f
 simp [go_sem, eqU_tc 9996, eqL_tc 9996]
def sm0 : Sm := ⟨⟨4, 17, ⟨4, 0, 1⟩, ⟨4, 0, 2⟩, 53, 54⟩, 0, 0, 0, 0, 0, 0, false, wy0, none, 0, 0⟩
def sm1 : Sm := ⟨⟨4, 17, ⟨4, 0, 2⟩, ⟨4, 0, 1⟩, 54, 53⟩, 0, 0, 0, 0, 0, 0, false, wy0, none, 0, 0⟩
def flA : Fl := ⟨⟨4, 17, ⟨4, 0, 1⟩, ⟨4, 0, 2⟩, 53, 54⟩, cn0, 130, 0, false⟩
def flZ : Fl := ⟨⟨4, 17, ⟨4, 0, 1⟩, ⟨4, 0, 2⟩, 53, 54⟩, cn0, 290, 0, true⟩
theorem al_s : startF sm0 100 0 = (flA, 0) := by kernel_rfl
theorem al_g : flA.goS true sm1 110 = (flZ, 0) := by kernel_rfl
theorem al_r : flZ.right = true := by kernel_rfl
theorem alS_fw (w : World) : Calls Try.prog 10 #[.agg sm0.v, .int .i64 100, .int .i64 0] w fun e w' => e = .returned (.tuple #[.agg flA.v, .int .i64 0]) ∧ Below w.heap.size w w' := by
 have h := start_fw sm0 100 0 w
 rw [al_s] at h
 exact h
theorem alG_fw (w : World) : Calls Try.prog 15 #[.agg flA.v, .int .i64 1, .agg sm1.v, .int .i64 110] w fun e w' => e = .returned (.tuple #[.agg flZ.v, .int .i64 0]) ∧ Below w.heap.size w w' := by
 have h := go1_fw flA sm1 110 w
 rw [al_g] at h
 exact h
theorem alR_fw (w : World) : Calls Try.prog 12 #[.agg flZ.v] w fun e w' => e = .returned (.bool true) ∧ Below w.heap.size w w' := by
 have h := right_fw flZ w
 rw [al_r] at h
 exact h
theorem alV_fw (w : World) : Calls Try.prog 27 #[.agg (Wy.v ⟨4, 17, ⟨4, 0, 1⟩, ⟨4, 0, 2⟩, 53, 54⟩)] w fun e w' => e = .returned (.agg (Wy.v ⟨4, 17, ⟨4, 0, 2⟩, ⟨4, 0, 1⟩, 54, 53⟩)) ∧ Below w.heap.size w w' := rrev_t _ w
theorem setWay_fw (s : Sm) (x : Wy) : setMany s.v 0 x.v.toList = Sm.v ⟨x, s.fl, s.sq, s.ak, s.win, s.ty, s.co, s.er, s.inn, s.da, s.dn, s.dc⟩ := by kernel_rfl
set_option maxRecDepth 100000 in
set_option maxHeartbeats 4000000 in
theorem small_fw (w : World) :
  Calls Try.prog 42 #[] w fun e w' => e = .returned (.agg sm0.v) ∧ Below w.heap.size w w' := by
 obtain ⟨R, hR⟩ : ∃ R, sm0 = R := ⟨_, rfl⟩
 have HR : Hid (sm0 = R) := hR
 rw [hR]
 clear hR
 have b := Below.refl w.heap.size w
 go_enter Try.func42, Try.ntmps42
 obtain ⟨Wm1, hWm1⟩ : ∃ W, w.alloc (.cells #[.int .i64 0, .int .i64 0, .int .i64 0, .int .u64 0, .int .u64 0, .int .i64 0, .int .u64 0, .int .u64 0, .int .i64 0, .int .i64 0, .int .i64 0, .int .u32 0, .int .u32 0, .int .i64 0, .int .i64 0, .int .i64 0, .bool false, .int .i64 0, .int .i64 0, .int .i64 0, .int .u64 0, .int .u64 0, .int .i64 0, .int .u64 0, .int .u64 0, .int .i64 0, .int .i64 0, .slice none 0 0] 36) = W := ⟨_, rfl⟩
 have bm1 := bel_nw hWm1
 have Am1 := blk_nw hWm1
 have gA : w.heap.size ≤ w.heap.size := Nat.le_refl _
 obtain ⟨Wm2, hWm2⟩ : ∃ W, Wm1.setRow w.heap.size (Sm.v ⟨⟨4, 17, ⟨4, 0, 1⟩, ⟨4, 0, 2⟩, 53, 54⟩, 0, 0, 0, 0, 0, 0, false, ⟨0, 0, ⟨0, 0, 0⟩, ⟨0, 0, 0⟩, 0, 0⟩, none, 0, 0⟩) = W := ⟨_, rfl⟩
 have Am2 : Blk Wm2 w.heap.size 36 (Sm.v ⟨⟨4, 17, ⟨4, 0, 1⟩, ⟨4, 0, 2⟩, 53, 54⟩, 0, 0, 0, 0, 0, 0, false, ⟨0, 0, ⟨0, 0, 0⟩, ⟨0, 0, 0⟩, 0, 0⟩, none, 0, 0⟩) := hWm2 ▸ Am1.set (Sm.v ⟨⟨4, 17, ⟨4, 0, 1⟩, ⟨4, 0, 2⟩, 53, 54⟩, 0, 0, 0, 0, 0, 0, false, ⟨0, 0, ⟨0, 0, 0⟩, ⟨0, 0, 0⟩, 0, 0⟩, none, 0, 0⟩)
 have bm2 := hWm2 ▸ below_setRow bm1 gA (Sm.v ⟨⟨4, 17, ⟨4, 0, 1⟩, ⟨4, 0, 2⟩, 53, 54⟩, 0, 0, 0, 0, 0, 0, false, ⟨0, 0, ⟨0, 0, 0⟩, ⟨0, 0, 0⟩, 0, 0⟩, none, 0, 0⟩)
 go_wp2_with (refine wpList_store_row rfl _ _ _ rfl w.heap.size (Sm.v ⟨⟨4, 17, ⟨4, 0, 1⟩, ⟨4, 0, 2⟩, 53, 54⟩, 0, 0, 0, 0, 0, 0, false, ⟨0, 0, ⟨0, 0, 0⟩, ⟨0, 0, 0⟩, 0, 0⟩, none, 0, 0⟩) (by rfl) (by rfl) _ _ Am1 (by kernel_rfl) (by rfl) (by kernel_rfl) ?_; rw [hWm2])
 have hR2 : R = (⟨⟨4, 17, ⟨4, 0, 1⟩, ⟨4, 0, 2⟩, 53, 54⟩, 0, 0, 0, 0, 0, 0, false, ⟨0, 0, ⟨0, 0, 0⟩, ⟨0, 0, 0⟩, 0, 0⟩, none, 0, 0⟩ : Sm) := by (try rw [← HR.out]) <;> first | rfl | (simp [sm0]; done) | (simp [sm0]; rfl)
 subst hR2
 exact ret_cell (k := 0) Try.f42 (by kernel_rfl) Am2 Try.underlying36 (by kernel_rfl) (by rfl) rfl ⟨rfl, bm2⟩
set_option maxRecDepth 100000 in
set_option maxHeartbeats 4000000 in
theorem alive_fw (w : World) :
  Calls Try.prog 14 #[] w fun e w' => e = .returned (.bool true) ∧ Below w.heap.size w w' := by
 obtain ⟨R, hR⟩ : ∃ R, true = R := ⟨_, rfl⟩
 have HR : Hid (true = R) := hR
 rw [hR]
 clear hR
 have b := Below.refl w.heap.size w
 go_enter Try.func14, Try.ntmps14
 go_wp2_with fail
 refine Calls.mono (small_fw _) ?_
 rintro e Wm1 ⟨rfl, bb⟩
 have bm1 := bb
 go_wp2_with fail
 refine Calls.mono (alS_fw _) ?_
 rintro e Wm2 ⟨rfl, bb⟩
 have bm2 := bel_tr bm1 bb
 clear bb
 clear  bm1
 obtain ⟨Wm3, hWm3⟩ : ∃ W, Wm2.alloc (.cells #[.int .i64 0, .int .i64 0, .int .i64 0, .int .u64 0, .int .u64 0, .int .i64 0, .int .u64 0, .int .u64 0, .int .i64 0, .int .i64 0, .int .i64 0, .int .u32 0, .int .u32 0, .int .u32 0, .int .u32 0, .bool false, .bool false, .bool false, .bool false, .int .i64 0, .int .i64 0, .bool false] 33) = W := ⟨_, rfl⟩
 have bm3 := bel_al bm2 hWm3
 have Am3 := blk_nw hWm3
 have gA : w.heap.size ≤ Wm2.heap.size := bm2.size
 obtain ⟨Wm4, hWm4⟩ : ∃ W, Wm3.setRow Wm2.heap.size flA.v = W := ⟨_, rfl⟩
 have Am4 : Blk Wm4 Wm2.heap.size 33 flA.v := hWm4 ▸ Am3.set flA.v
 have bm4 := hWm4 ▸ below_setRow bm3 gA flA.v
 go_wp2_with (refine wpList_store_row rfl _ _ _ rfl Wm2.heap.size flA.v (by rfl) (by rfl) _ _ Am3 (by kernel_rfl) (by rfl) (by kernel_rfl) ?_; rw [hWm4])
 refine Calls.mono (small_fw _) ?_
 rintro e Wm5 ⟨rfl, bb⟩
 have Am5 := Am4.kept bb
 have bm5 := bel_tr bm4 bb
 clear bb
 clear Am4 bm4
 obtain ⟨Wm6, hWm6⟩ : ∃ W, Wm5.alloc (.cells #[.int .i64 0, .int .i64 0, .int .i64 0, .int .u64 0, .int .u64 0, .int .i64 0, .int .u64 0, .int .u64 0, .int .i64 0, .int .i64 0, .int .i64 0, .int .u32 0, .int .u32 0, .int .i64 0, .int .i64 0, .int .i64 0, .bool false, .int .i64 0, .int .i64 0, .int .i64 0, .int .u64 0, .int .u64 0, .int .i64 0, .int .u64 0, .int .u64 0, .int .i64 0, .int .i64 0, .slice none 0 0] 36) = W := ⟨_, rfl⟩
 have bm6 := bel_al bm5 hWm6
 have Am6 := Am5.al hWm6
 have Bm6 := blk_nw hWm6
 have gB : w.heap.size ≤ Wm5.heap.size := bm5.size
 have nAB : Wm2.heap.size ≠ Wm5.heap.size := by have := Am5.lt; omega
 have nBA : Wm5.heap.size ≠ Wm2.heap.size := fun e => nAB e.symm
 obtain ⟨Wm7, hWm7⟩ : ∃ W, Wm6.setRow Wm5.heap.size sm0.v = W := ⟨_, rfl⟩
 have Bm7 : Blk Wm7 Wm5.heap.size 36 sm0.v := hWm7 ▸ Bm6.set sm0.v
 have Am7 := hWm7 ▸ Am6.other nAB sm0.v
 have bm7 := hWm7 ▸ below_setRow bm6 gB sm0.v
 go_wp2_with (first | (refine wpList_store_row rfl _ _ _ rfl Wm5.heap.size sm0.v (by rfl) (by rfl) _ _ Bm6 (by kernel_rfl) (by rfl) (by kernel_rfl) ?_; rw [hWm7]) | (refine wpList_load_sub_w (by rfl) _ _ rfl Wm5.heap.size 0 _ (by rfl) _ (Wy.v ⟨4, 17, ⟨4, 0, 1⟩, ⟨4, 0, 2⟩, 53, 54⟩) Bm7 (by rfl) Try.underlying26 (by kernel_rfl) ?_))
 refine Calls.mono (alV_fw _) ?_
 rintro e Wm8 ⟨rfl, bb⟩
 have Am8 := Am7.kept bb
 have Bm8 := Bm7.kept bb
 have bm8 := bel_tr bm7 bb
 clear bb
 clear Am7 Bm7 bm7
 obtain ⟨Wm9, hWm9⟩ : ∃ W, Wm8.setRow Wm5.heap.size (Sm.v ⟨⟨4, 17, ⟨4, 0, 2⟩, ⟨4, 0, 1⟩, 54, 53⟩, 0, 0, 0, 0, 0, 0, false, ⟨0, 0, ⟨0, 0, 0⟩, ⟨0, 0, 0⟩, 0, 0⟩, none, 0, 0⟩) = W := ⟨_, rfl⟩
 have Bm9 : Blk Wm9 Wm5.heap.size 36 (Sm.v ⟨⟨4, 17, ⟨4, 0, 2⟩, ⟨4, 0, 1⟩, 54, 53⟩, 0, 0, 0, 0, 0, 0, false, ⟨0, 0, ⟨0, 0, 0⟩, ⟨0, 0, 0⟩, 0, 0⟩, none, 0, 0⟩) := hWm9 ▸ Bm8.set (Sm.v ⟨⟨4, 17, ⟨4, 0, 2⟩, ⟨4, 0, 1⟩, 54, 53⟩, 0, 0, 0, 0, 0, 0, false, ⟨0, 0, ⟨0, 0, 0⟩, ⟨0, 0, 0⟩, 0, 0⟩, none, 0, 0⟩)
 have Am9 := hWm9 ▸ Am8.other nAB (Sm.v ⟨⟨4, 17, ⟨4, 0, 2⟩, ⟨4, 0, 1⟩, 54, 53⟩, 0, 0, 0, 0, 0, 0, false, ⟨0, 0, ⟨0, 0, 0⟩, ⟨0, 0, 0⟩, 0, 0⟩, none, 0, 0⟩)
 have bm9 := hWm9 ▸ below_setRow bm8 gB (Sm.v ⟨⟨4, 17, ⟨4, 0, 2⟩, ⟨4, 0, 1⟩, 54, 53⟩, 0, 0, 0, 0, 0, 0, false, ⟨0, 0, ⟨0, 0, 0⟩, ⟨0, 0, 0⟩, 0, 0⟩, none, 0, 0⟩)
 go_wp2_with (first | (refine wpList_store_off rfl _ _ _ rfl Wm5.heap.size 0 _ (Wy.v ⟨4, 17, ⟨4, 0, 2⟩, ⟨4, 0, 1⟩, 54, 53⟩) _ (Sm.v ⟨⟨4, 17, ⟨4, 0, 2⟩, ⟨4, 0, 1⟩, 54, 53⟩, 0, 0, 0, 0, 0, 0, false, ⟨0, 0, ⟨0, 0, 0⟩, ⟨0, 0, 0⟩, 0, 0⟩, none, 0, 0⟩) (by rfl) (by rfl) Bm8 (by kernel_rfl) (Nat.le_of_ble_eq_true (by kernel_rfl)) (by kernel_rfl) (setWay_fw (⟨⟨4, 17, ⟨4, 0, 1⟩, ⟨4, 0, 2⟩, 53, 54⟩, 0, 0, 0, 0, 0, 0, false, ⟨0, 0, ⟨0, 0, 0⟩, ⟨0, 0, 0⟩, 0, 0⟩, none, 0, 0⟩) (⟨4, 17, ⟨4, 0, 2⟩, ⟨4, 0, 1⟩, 54, 53⟩)) ?_; rw [hWm9]) | (refine wpList_load_blk_w (by rfl) _ _ rfl Wm2.heap.size (by rfl) _ Am9 Try.underlying33 (by kernel_rfl) ?_) | (refine wpList_load_blk_w (by rfl) _ _ rfl Wm5.heap.size (by rfl) _ Bm9 Try.underlying36 (by kernel_rfl) ?_))
 refine Calls.mono (alG_fw _) ?_
 rintro e Wm10 ⟨rfl, bb⟩
 have Am10 := Am9.kept bb
 have Bm10 := Bm9.kept bb
 have bm10 := bel_tr bm9 bb
 clear bb
 clear Am9 Bm9 bm9
 obtain ⟨Wm11, hWm11⟩ : ∃ W, Wm10.alloc (.cells #[.int .i64 0, .int .i64 0, .int .i64 0, .int .u64 0, .int .u64 0, .int .i64 0, .int .u64 0, .int .u64 0, .int .i64 0, .int .i64 0, .int .i64 0, .int .u32 0, .int .u32 0, .int .u32 0, .int .u32 0, .bool false, .bool false, .bool false, .bool false, .int .i64 0, .int .i64 0, .bool false] 33) = W := ⟨_, rfl⟩
 have bm11 := bel_al bm10 hWm11
 have Am11 := Am10.al hWm11
 have Bm11 := Bm10.al hWm11
 have Cm11 := blk_nw hWm11
 have gC : w.heap.size ≤ Wm10.heap.size := bm10.size
 have nAC : Wm2.heap.size ≠ Wm10.heap.size := by have := Am10.lt; omega
 have nCA : Wm10.heap.size ≠ Wm2.heap.size := fun e => nAC e.symm
 have nBC : Wm5.heap.size ≠ Wm10.heap.size := by have := Bm10.lt; omega
 have nCB : Wm10.heap.size ≠ Wm5.heap.size := fun e => nBC e.symm
 obtain ⟨Wm12, hWm12⟩ : ∃ W, Wm11.setRow Wm10.heap.size flZ.v = W := ⟨_, rfl⟩
 have Cm12 : Blk Wm12 Wm10.heap.size 33 flZ.v := hWm12 ▸ Cm11.set flZ.v
 have Am12 := hWm12 ▸ Am11.other nAC flZ.v
 have Bm12 := hWm12 ▸ Bm11.other nBC flZ.v
 have bm12 := hWm12 ▸ below_setRow bm11 gC flZ.v
 have c13 := Am12.cell 19 (.int .i64 130) rfl
 have c14 := Cm12.cell 19 (.int .i64 290) rfl
 have c15 := Cm12.cell 21 (.bool true) rfl
 go_wp2_with (first | (refine wpList_store_row rfl _ _ _ rfl Wm10.heap.size flZ.v (by rfl) (by rfl) _ _ Cm11 (by kernel_rfl) (by rfl) (by kernel_rfl) ?_; rw [hWm12]) | (refine wpList_load_blk_w (by rfl) _ _ rfl Wm10.heap.size (by rfl) _ Cm12 Try.underlying33 (by kernel_rfl) ?_))
 clear c13 c14 c15
 refine Calls.mono (alR_fw _) ?_
 rintro e Wm16 ⟨rfl, bb⟩
 have Am16 := Am12.kept bb
 have Bm16 := Bm12.kept bb
 have Cm16 := Cm12.kept bb
 have bm16 := bel_tr bm12 bb
 clear bb
 clear Am12 Bm12 Cm12 bm12
 go_wp2_with fail
 go_ret
 exact ⟨retB_fw (by (try rw [← HR.out]) <;> first | rfl | (simp []; done) | (simp []; rfl)), bm16⟩
theorem ret_cell_tmp2 {R : Ending → World → Prop} {a : Act} {w : World} {g k j i : Nat} {t : TypeId} {cs : Array Value} {v u : Value} (fn : Func) (hf : fn.results = #[.cell k t, .tmp j, .tmp i]) (h : Blk w g t cs) {fs : _} (hu : Try.prog.underlying t = some (.struct fs)) (hi : (Try.prog.info? t).map (·.size) = some cs.size)
  (h2 : a.tmps[k]?.getD undef = .pointer (some ⟨g, 0, none⟩)) (h3 : a.tmps[j]?.getD undef = v) (h4 : a.tmps[i]?.getD undef = u) (hdf : a.defers = []) (hR : R (.returned (.tuple #[.agg cs, v, u])) w) : bodyPost Try.prog fn R .ret a w := by
 refine bodyPost_ret (v := .tuple #[.agg cs, v, u]) ?_ hdf hR
 have hl := load_blk h hu hi
 simp [results, hf, h2, h3, h4, asAddr, hl, Array.mapM_eq_mapM_toList]
theorem but_al {F : Nat → Prop} {w W W' : World} {o : Obj} (h : But F w W) (e : W.alloc o = W') : But F w W' := h.below (bel_nw e)
theorem but_setRow {F : Nat → Prop} {w W : World} (h : But F w W) {g : Nat} (hg : F g ∨ w.heap.size ≤ g) (cs : Array Value) : But F w (W.setRow g cs) := h.setRow g hg cs
theorem But.drew {F : Nat → Prop} {w W : World} (h : But F w W) : But F w W.drew := h.below (Below.refl _ _).drew
theorem find_a {s : Ft} {q : Wy} (h : (atF q s.L).isSome = true) : s.find q = ((atF q s.L).getD fl0, 0, true) := by
 obtain ⟨f, hf⟩ := Option.isSome_iff_exists.1 h
 unfold Ft.find
 rw [hf]
 rfl
theorem find_b {s : Ft} {q : Wy} (h : (atF q s.L).isSome = false) (h2 : (atF q.rev s.L).isSome = true) : s.find q = ((atF q.rev s.L).getD fl0, 1, true) := by
 obtain ⟨f, hf⟩ := Option.isSome_iff_exists.1 h2
 have h1 : atF q s.L = none := by simpa using h
 unfold Ft.find
 rw [h1, hf]
 rfl
theorem find_c {s : Ft} {q : Wy} (h : (atF q s.L).isSome = false) (h2 : (atF q.rev s.L).isSome = false) : s.find q = (fl0, 0, false) := by
 have h1 : atF q s.L = none := by simpa using h
 have h3 : atF q.rev s.L = none := by simpa using h2
 unfold Ft.find
 rw [h1, h3]
theorem look_at {w0 w : World} {tb mb : Nat} {s : Ft} {G : List (Lit × Fl)} (H : TabF w0 tb mb s G) (M : MapF w mb G) {q : Wy} (hq : q.kf) :
  (Instr.lookup 75 (.map (some mb)) (.agg q.v) true).run Try.prog w = .ok (.tuple #[.agg ((atF q s.L).getD fl0).v, .bool (atF q s.L).isSome]) w := by
 have h := look_F M hq
 rw [H.look hq] at h
 exact h
theorem len_at {w0 w : World} {tb mb : Nat} {s : Ft} {G : List (Lit × Fl)} (H : TabF w0 tb mb s G) (M : MapF w mb G) {ty : TypeId} : (Builtin.len_ #[75] ty #[.map (some mb)]).run Try.prog w = .ok (.int .i64 (s.L.length : Int)) w := by
 have h := len_F M ty
 rw [H.len] at h
 exact h
set_option maxRecDepth 100000 in
set_option maxHeartbeats 4000000 in
theorem made_at (tb mb : Nat) (s : Ft) (w : World) (T : Blk w tb 77 (tabV s mb)) :
  Calls Try.prog 51 #[.pointer (some ⟨tb, 0, none⟩)] w fun e w' => e = .returned (.bool true) ∧ Below w.heap.size w w' := by
 obtain ⟨R, hR⟩ : ∃ R, true = R := ⟨_, rfl⟩
 have HR : Hid (true = R) := hR
 rw [hR]
 clear hR
 have b := Below.refl w.heap.size w
 go_enter Try.func51, Try.ntmps51
 have c1 := T.cell 0 (.bool true) rfl
 go_wp2_with fail
 go_ret
 exact ⟨retB_fw (by (try rw [← HR.out]) <;> first | rfl | (simp []; done) | (simp []; rfl)), b⟩
set_option maxRecDepth 100000 in
set_option maxHeartbeats 8000000 in
theorem find_at_fw (tb mb : Nat) (s : Ft) (G : List (Lit × Fl)) (q : Wy) (w : World) {w0 : World} (H0 : TabF w0 tb mb s G) (nTM : tb ≠ mb) (T : Blk w tb 77 (tabV s mb)) (M : MapF w mb G) (hq : q.kf) :
  Calls Try.prog 26 #[.pointer (some ⟨tb, 0, none⟩), .agg q.v] w fun e w' => e = .returned (.tuple #[.agg (s.find q).1.v, .int .i64 (s.find q).2.1, .bool (s.find q).2.2]) ∧ Below w.heap.size w w' := by
 have H : Hid (TabF w0 tb mb s G) := H0
 clear H0
 have nMT : mb ≠ tb := fun e => nTM e.symm
 obtain ⟨R, hR⟩ : ∃ R, s.find q = R := ⟨_, rfl⟩
 have HR : Hid (s.find q = R) := hR
 rw [hR]
 clear hR
 have b := Below.refl w.heap.size w
 go_enter Try.func26, Try.ntmps26
 obtain ⟨Wm1, hWm1⟩ : ∃ W, w.alloc (.cells q.v 26) = W := ⟨_, rfl⟩
 have bm1 := bel_al b hWm1
 have Tm1 := T.al hWm1
 have Mm1 := M.al hWm1
 have Am1 := blk_nw hWm1
 have gA : w.heap.size ≤ w.heap.size := b.size
 have nTA : tb ≠ w.heap.size := by have := T.lt; omega
 have nAT : w.heap.size ≠ tb := fun e => nTA e.symm
 have nMA : mb ≠ w.heap.size := by have := M.lt; omega
 have nAM : w.heap.size ≠ mb := fun e => nMA e.symm
 obtain ⟨Wm2, hWm2⟩ : ∃ W, Wm1.alloc (.cells #[.int .i64 0, .int .i64 0, .int .i64 0, .int .u64 0, .int .u64 0, .int .i64 0, .int .u64 0, .int .u64 0, .int .i64 0, .int .i64 0, .int .i64 0, .int .u32 0, .int .u32 0, .int .u32 0, .int .u32 0, .bool false, .bool false, .bool false, .bool false, .int .i64 0, .int .i64 0, .bool false] 33) = W := ⟨_, rfl⟩
 have bm2 := bel_al bm1 hWm2
 have Tm2 := Tm1.al hWm2
 have Mm2 := Mm1.al hWm2
 have Am2 := Am1.al hWm2
 have Bm2 := blk_nw hWm2
 have gB : w.heap.size ≤ Wm1.heap.size := bm1.size
 have nTB : tb ≠ Wm1.heap.size := by have := Tm1.lt; omega
 have nBT : Wm1.heap.size ≠ tb := fun e => nTB e.symm
 have nMB : mb ≠ Wm1.heap.size := by have := Mm1.lt; omega
 have nBM : Wm1.heap.size ≠ mb := fun e => nMB e.symm
 have nAB : w.heap.size ≠ Wm1.heap.size := by have := Am1.lt; omega
 have nBA : Wm1.heap.size ≠ w.heap.size := fun e => nAB e.symm
 go_wp2_with fail
 refine Calls.mono (made_at tb mb s _ Tm2) ?_
 rintro e Wm3 ⟨rfl, bb⟩
 have Tm3 := Tm2.kept bb
 have Mm3 := Mm2.kept bb
 have Am3 := Am2.kept bb
 have Bm3 := Bm2.kept bb
 have bm3 := bel_tr bm2 bb
 clear bb
 clear Tm2 Mm2 Am2 Bm2 bm2
 go_wp2_with fail
 obtain ⟨Wdq4, hWdq4⟩ : ∃ W, Wm3.drew = W := ⟨_, rfl⟩
 have Tdq4 := hWdq4 ▸ Tm3.drew
 have Mdq4 := hWdq4 ▸ Mm3.drew
 have Adq4 := hWdq4 ▸ Am3.drew
 have Bdq4 := hWdq4 ▸ Bm3.drew
 have bdq4 := hWdq4 ▸ bm3.drew
 refine wp_region_noPanic ?_
 refine wp_region_held_drew (S := fun w' => Blk w' tb 77 (tabV s mb) ∧ MapF w' mb G ∧ Blk w' w.heap.size 26 q.v ∧ Blk w' Wm1.heap.size 33 #[.int .i64 0, .int .i64 0, .int .i64 0, .int .u64 0, .int .u64 0, .int .i64 0, .int .u64 0, .int .u64 0, .int .i64 0, .int .i64 0, .int .i64 0, .int .u32 0, .int .u32 0, .int .u32 0, .int .u32 0, .bool false, .bool false, .bool false, .bool false, .int .i64 0, .int .i64 0, .bool false]) (by kernel_rfl) (by rw [hWdq4]; exact ⟨Tdq4, Mdq4, Adq4, Bdq4⟩) (fun hHeld => ?_)
 rw [hWdq4] at hHeld ⊢
 refine qtk (i := 0) (oi := { dst := some 16, op := Op.move (.tmp 0), type := 50, pos := "table.go:36", after := #[], guard := none }) (v := (.pointer (some ⟨tb, 0, none⟩))) hHeld ?_ ?_
 ·intro w9 hSw
  try dsimp only at hSw
  go_simp
 try simp only [qpu]
 refine qtk (i := 1) (oi := { dst := some 17, op := Op.nilCheck (.tmp 16), type := 0, pos := "table.go:36", after := #[{ on := 0, ground := Ground.data }], guard := none }) (v := (.pointer (some ⟨tb, 0, none⟩))) hHeld ?_ ?_
 ·intro w9 hSw
  try dsimp only at hSw
  go_simp
 try simp only [qpu]
 refine qtk (i := 2) (oi := { dst := some 18, op := Op.fieldAddr 77 (.tmp 17) 3, type := 0, pos := "table.go:36", after := #[{ on := 1, ground := Ground.data }], guard := none }) (v := (.pointer (some ⟨tb, 3, none⟩))) hHeld ?_ ?_
 ·intro w9 hSw
  try dsimp only at hSw
  go_simp
 try simp only [qpu]
 refine qtk (i := 3) (oi := { dst := some 19, op := Op.load 75 (.tmp 18), type := 75, pos := "table.go:36", after := #[{ on := 2, ground := Ground.data }], guard := none }) (v := (.map (some mb))) hHeld ?_ ?_
 ·intro w9 hSw
  try dsimp only at hSw
  have hcc := hSw.1.cell 3 (.map (some mb)) rfl
  go_simp
 try simp only [qpu]
 refine qty (i := 4) (oi := { dst := some 20, op := Op.load 26 (.tmp 3), type := 26, pos := "table.go:36", after := #[], guard := none }) (v := (.agg q.v)) (yieldsIf_blk_w (by kernel_rfl) _ _ rfl w.heap.size (by rfl) _ (fun _ hSw => hSw.2.2.1) Try.underlying26 (by kernel_rfl)) hHeld ?_
 try simp only [qpu]
 refine qtk (i := 5) (oi := { dst := some 21, op := Op.lookup 75 (.tmp 19) (.tmp 20) true, type := 99, pos := "table.go:36", after := #[{ on := 3, ground := Ground.data }, { on := 4, ground := Ground.data }], guard := none }) (v := (.tuple #[.agg ((atF q s.L).getD fl0).v, .bool (atF q s.L).isSome])) hHeld ?_ ?_
 ·intro w9 hSw
  try dsimp only at hSw
  have hcc := look_at H.out hSw.2.1 (by assumption)
  go_simp
 try simp only [qpu]
 refine qtk (i := 6) (oi := { dst := some 15, op := Op.move (.tmp 21), type := 99, pos := "table.go:36", after := #[{ on := 5, ground := Ground.data }], guard := none }) (v := (.tuple #[.agg ((atF q s.L).getD fl0).v, .bool (atF q s.L).isSome])) hHeld ?_ ?_
 ·intro w9 hSw
  try dsimp only at hSw
  go_simp
 try simp only [qpu]
 refine qtk (i := 7) (oi := { dst := some 22, op := Op.extract (.tmp 15) 0, type := 33, pos := "table.go:36", after := #[{ on := 6, ground := Ground.data }], guard := none }) (v := (.agg ((atF q s.L).getD fl0).v)) hHeld ?_ ?_
 ·intro w9 hSw
  try dsimp only at hSw
  go_simp
 try simp only [qpu]
 refine qtk (i := 8) (oi := { dst := some 23, op := Op.extract (.tmp 15) 1, type := 4, pos := "table.go:36", after := #[{ on := 6, ground := Ground.data }, { on := 10, ground := Ground.gcOnly Departure.lateStores }], guard := none }) (v := (.bool (atF q s.L).isSome)) hHeld ?_ ?_
 ·intro w9 hSw
  try dsimp only at hSw
  go_simp
 try simp only [qpu]
 refine wpAnyH_ready (rs := [9]) (by kernel_rfl) (by simp) ?_
 refine AllReadyH.cons (o := { dst := some 7, op := Op.alloc 33, type := 0, pos := "table.go:36", after := #[], guard := none }) rfl (fun K hK => ?_) AllReadyH.nil
 go_simp
 obtain ⟨Wx1, hWx1⟩ : ∃ W, Wdq4.alloc (.cells #[.int .i64 0, .int .i64 0, .int .i64 0, .int .u64 0, .int .u64 0, .int .i64 0, .int .u64 0, .int .u64 0, .int .i64 0, .int .i64 0, .int .i64 0, .int .u32 0, .int .u32 0, .int .u32 0, .int .u32 0, .bool false, .bool false, .bool false, .bool false, .int .i64 0, .int .i64 0, .bool false] 33) = W := ⟨_, rfl⟩
 rw [hWx1]
 have Tx1 := Tdq4.al hWx1
 have Mx1 := Mdq4.al hWx1
 have Ax1 := Adq4.al hWx1
 have Bx1 := Bdq4.al hWx1
 have Yx1 := blk_nw hWx1
 have bx1 := bel_al bdq4 hWx1
 have gY : w.heap.size ≤ Wdq4.heap.size := bdq4.size
 have nTY : tb ≠ Wdq4.heap.size := by have := Tdq4.lt; omega
 have nMY : mb ≠ Wdq4.heap.size := by have := Mdq4.lt; omega
 have nAY : w.heap.size ≠ Wdq4.heap.size := by have := Adq4.lt; omega
 have nBY : Wm1.heap.size ≠ Wdq4.heap.size := by have := Bdq4.lt; omega
 refine hK.out _ _ (by exact ⟨Tx1, Mx1, Ax1, Bx1⟩) (fun hHeld => ?_)
 clear hK K
 try simp only [qpu]
 refine wpAnyH_ready (rs := [10]) (by kernel_rfl) (by simp) ?_
 refine AllReadyH.cons (o := { dst := none, op := Op.store 33 (.tmp 7) (.tmp 22), type := 0, pos := "table.go:36", after := #[{ on := 9, ground := Ground.data }, { on := 7, ground := Ground.data }, { on := 0, ground := Ground.phase }, { on := 1, ground := Ground.phase }, { on := 2, ground := Ground.phase }, { on := 3, ground := Ground.phase }, { on := 4, ground := Ground.phase }, { on := 5, ground := Ground.phase }, { on := 6, ground := Ground.phase }, { on := 7, ground := Ground.phase }, { on := 8, ground := Ground.textOnly Departure.lateStores }, { on := 9, ground := Ground.phase }], guard := none }) rfl (fun K hK => ?_) AllReadyH.nil
 refine step_store_blk rfl _ _ _ rfl Wdq4.heap.size ((atF q s.L).getD fl0).v _ (by rfl) (by rfl) Yx1 (by kernel_rfl) (by rfl) (by kernel_rfl) ?_
 obtain ⟨Wx2, hWx2⟩ : ∃ W, Wx1.setRow Wdq4.heap.size ((atF q s.L).getD fl0).v = W := ⟨_, rfl⟩
 rw [hWx2]
 have Tx2 := hWx2 ▸ Tx1.other nTY ((atF q s.L).getD fl0).v
 have Mx2 := hWx2 ▸ Mx1.other nMY ((atF q s.L).getD fl0).v
 have Ax2 := hWx2 ▸ Ax1.other nAY ((atF q s.L).getD fl0).v
 have Bx2 := hWx2 ▸ Bx1.other nBY ((atF q s.L).getD fl0).v
 have Yx2 : Blk Wx2 Wdq4.heap.size 33 ((atF q s.L).getD fl0).v := hWx2 ▸ Yx1.set ((atF q s.L).getD fl0).v
 have bx2 := hWx2 ▸ below_setRow bx1 gY ((atF q s.L).getD fl0).v
 refine hK.out _ _ (by exact ⟨Tx2, Mx2, Ax2, Bx2⟩) (fun hHeld => ?_)
 clear hK K
 try simp only [qpu]
 refine qtk (i := 11) (oi := { dst := some 8, op := Op.assign (.tmp 23), type := 4, pos := "table.go:36", after := #[{ on := 8, ground := Ground.data }, { on := 10, ground := Ground.chain }, { on := 0, ground := Ground.phase }, { on := 1, ground := Ground.phase }, { on := 2, ground := Ground.phase }, { on := 3, ground := Ground.phase }, { on := 4, ground := Ground.phase }, { on := 5, ground := Ground.phase }, { on := 6, ground := Ground.phase }, { on := 7, ground := Ground.phase }, { on := 8, ground := Ground.phase }, { on := 9, ground := Ground.phase }, { on := 10, ground := Ground.phase }], guard := none }) (v := (.bool (atF q s.L).isSome)) hHeld ?_ ?_
 ·intro w9 hSw
  try dsimp only at hSw
  go_simp
 try simp only [qpu]
 refine wpAnyH_done (by kernel_rfl) ?_ _
 refine NoPanic.normal ?_
 have nYT : Wdq4.heap.size ≠ tb := fun e => nTY e.symm
 have nYM : Wdq4.heap.size ≠ mb := fun e => nMY e.symm
 have nYA : Wdq4.heap.size ≠ w.heap.size := fun e => nAY e.symm
 have nYB : Wdq4.heap.size ≠ Wm1.heap.size := fun e => nBY e.symm
 cases hq5 : (atF q s.L).isSome with
 | false =>
  go_wp2_with fail
  obtain ⟨Wdq6, hWdq6⟩ : ∃ W, Wx2.drew = W := ⟨_, rfl⟩
  have Tdq6 := hWdq6 ▸ Tx2.drew
  have Mdq6 := hWdq6 ▸ Mx2.drew
  have Adq6 := hWdq6 ▸ Ax2.drew
  have Bdq6 := hWdq6 ▸ Bx2.drew
  have Ydq6 := hWdq6 ▸ Yx2.drew
  have bdq6 := hWdq6 ▸ bx2.drew
  refine wp_region_noPanic ?_
  refine wp_region_held_drew (S := fun w' => Blk w' tb 77 (tabV s mb) ∧ MapF w' mb G ∧ Blk w' w.heap.size 26 q.v ∧ Blk w' Wm1.heap.size 33 #[.int .i64 0, .int .i64 0, .int .i64 0, .int .u64 0, .int .u64 0, .int .i64 0, .int .u64 0, .int .u64 0, .int .i64 0, .int .i64 0, .int .i64 0, .int .u32 0, .int .u32 0, .int .u32 0, .int .u32 0, .bool false, .bool false, .bool false, .bool false, .int .i64 0, .int .i64 0, .bool false] ∧ Blk w' Wdq4.heap.size 33 ((atF q s.L).getD fl0).v) (by kernel_rfl) (by rw [hWdq6]; exact ⟨Tdq6, Mdq6, Adq6, Bdq6, Ydq6⟩) (fun hHeld => ?_)
  rw [hWdq6] at hHeld ⊢
  refine qtk (i := 0) (oi := { dst := some 27, op := Op.move (.tmp 0), type := 50, pos := "table.go:39", after := #[], guard := none }) (v := (.pointer (some ⟨tb, 0, none⟩))) hHeld ?_ ?_
  ·intro w9 hSw
   try dsimp only at hSw
   go_simp
  try simp only [qpu]
  refine qtk (i := 1) (oi := { dst := some 28, op := Op.nilCheck (.tmp 27), type := 0, pos := "table.go:39", after := #[{ on := 0, ground := Ground.data }], guard := none }) (v := (.pointer (some ⟨tb, 0, none⟩))) hHeld ?_ ?_
  ·intro w9 hSw
   try dsimp only at hSw
   go_simp
  try simp only [qpu]
  refine qtk (i := 2) (oi := { dst := some 29, op := Op.fieldAddr 77 (.tmp 28) 3, type := 0, pos := "table.go:39", after := #[{ on := 1, ground := Ground.data }], guard := none }) (v := (.pointer (some ⟨tb, 3, none⟩))) hHeld ?_ ?_
  ·intro w9 hSw
   try dsimp only at hSw
   go_simp
  try simp only [qpu]
  refine qtk (i := 3) (oi := { dst := some 30, op := Op.load 75 (.tmp 29), type := 75, pos := "table.go:39", after := #[{ on := 2, ground := Ground.data }], guard := none }) (v := (.map (some mb))) hHeld ?_ ?_
  ·intro w9 hSw
   try dsimp only at hSw
   have hcc := hSw.1.cell 3 (.map (some mb)) rfl
   go_simp
  try simp only [qpu]
  refine qty (i := 4) (oi := { dst := some 31, op := Op.load 26 (.tmp 3), type := 26, pos := "table.go:39", after := #[], guard := none }) (v := (.agg q.v)) (yieldsIf_blk_w (by kernel_rfl) _ _ rfl w.heap.size (by rfl) _ (fun _ hSw => hSw.2.2.1) Try.underlying26 (by kernel_rfl)) hHeld ?_
  try simp only [qpu]
  refine wpAnyH_ready (rs := [5, 10]) (by kernel_rfl) (by simp) ?_
  refine AllReadyH.cons (o := fxs9o4) rfl (fun K hK => ?_) (AllReadyH.cons (o := fxs9o12) rfl (fun K hK => ?_) AllReadyH.nil)
  ·go_simp
   refine Calls.mono (rev_t q _) ?_
   rintro e Wx7 ⟨rfl, bb⟩
   have Tx7 := Tdq6.kept bb
   have Mx7 := Mdq6.kept bb
   have Ax7 := Adq6.kept bb
   have Bx7 := Bdq6.kept bb
   have Yx7 := Ydq6.kept bb
   have bx7 := bel_tr bdq6 bb
   clear bb
   refine hK.out _ _ (by exact ⟨Tx7, Mx7, Ax7, Bx7, Yx7⟩) (fun hHeld => ?_)
   clear hK K
   try simp only [qpu]
   refine qtk (i := 6) (oi := fxs9o5) (v := (.tuple #[.agg ((atF q.rev s.L).getD fl0).v, .bool (atF q.rev s.L).isSome])) hHeld ?_ ?_
   ·intro w9 hSw
    try dsimp only at hSw
    have hcc := look_at H.out hSw.2.1 (Wy.kf_rev (by assumption))
    go_simp
   try simp only [qpu]
   refine qtk (i := 7) (oi := fxs9o7) (v := (.tuple #[.agg ((atF q.rev s.L).getD fl0).v, .bool (atF q.rev s.L).isSome])) hHeld ?_ ?_
   ·intro w9 hSw
    try dsimp only at hSw
    go_simp
   try simp only [qpu]
   refine qtk (i := 8) (oi := fxs9o8) (v := (.agg ((atF q.rev s.L).getD fl0).v)) hHeld ?_ ?_
   ·intro w9 hSw
    try dsimp only at hSw
    go_simp
   try simp only [qpu]
   refine qtk (i := 9) (oi := fxs9o6) (v := (.bool (atF q.rev s.L).isSome)) hHeld ?_ ?_
   ·intro w9 hSw
    try dsimp only at hSw
    go_simp
   try simp only [qpu]
   refine wpAnyH_ready (rs := [10]) (by kernel_rfl) (by simp) ?_
   refine AllReadyH.cons (o := fxs9o12) rfl (fun K hK => ?_) AllReadyH.nil
   go_simp
   obtain ⟨Wx1, hWx1⟩ : ∃ W, Wx7.alloc (.cells #[.int .i64 0, .int .i64 0, .int .i64 0, .int .u64 0, .int .u64 0, .int .i64 0, .int .u64 0, .int .u64 0, .int .i64 0, .int .i64 0, .int .i64 0, .int .u32 0, .int .u32 0, .int .u32 0, .int .u32 0, .bool false, .bool false, .bool false, .bool false, .int .i64 0, .int .i64 0, .bool false] 33) = W := ⟨_, rfl⟩
   rw [hWx1]
   have Tx1 := Tx7.al hWx1
   have Mx1 := Mx7.al hWx1
   have Ax1 := Ax7.al hWx1
   have Bx1 := Bx7.al hWx1
   have Yx1 := Yx7.al hWx1
   have Y1_x1 := blk_nw hWx1
   have bx1 := bel_al bx7 hWx1
   have gY1_ : w.heap.size ≤ Wx7.heap.size := bx7.size
   have nTY1_ : tb ≠ Wx7.heap.size := by have := Tx7.lt; omega
   have nMY1_ : mb ≠ Wx7.heap.size := by have := Mx7.lt; omega
   have nAY1_ : w.heap.size ≠ Wx7.heap.size := by have := Ax7.lt; omega
   have nBY1_ : Wm1.heap.size ≠ Wx7.heap.size := by have := Bx7.lt; omega
   have nYY1_ : Wdq4.heap.size ≠ Wx7.heap.size := by have := Yx7.lt; omega
   refine hK.out _ _ (by exact ⟨Tx1, Mx1, Ax1, Bx1, Yx1⟩) (fun hHeld => ?_)
   clear hK K
   try simp only [qpu]
   refine wpAnyH_ready (rs := [11]) (by kernel_rfl) (by simp) ?_
   refine AllReadyH.cons (o := fxs9o0) rfl (fun K hK => ?_) AllReadyH.nil
   refine step_store_blk rfl _ _ _ rfl Wx7.heap.size ((atF q.rev s.L).getD fl0).v _ (by rfl) (by rfl) Y1_x1 (by kernel_rfl) (by rfl) (by kernel_rfl) ?_
   obtain ⟨Wx2, hWx2⟩ : ∃ W, Wx1.setRow Wx7.heap.size ((atF q.rev s.L).getD fl0).v = W := ⟨_, rfl⟩
   rw [hWx2]
   have Tx2 := hWx2 ▸ Tx1.other nTY1_ ((atF q.rev s.L).getD fl0).v
   have Mx2 := hWx2 ▸ Mx1.other nMY1_ ((atF q.rev s.L).getD fl0).v
   have Ax2 := hWx2 ▸ Ax1.other nAY1_ ((atF q.rev s.L).getD fl0).v
   have Bx2 := hWx2 ▸ Bx1.other nBY1_ ((atF q.rev s.L).getD fl0).v
   have Yx2 := hWx2 ▸ Yx1.other nYY1_ ((atF q.rev s.L).getD fl0).v
   have Y1_x2 : Blk Wx2 Wx7.heap.size 33 ((atF q.rev s.L).getD fl0).v := hWx2 ▸ Y1_x1.set ((atF q.rev s.L).getD fl0).v
   have bx2 := hWx2 ▸ below_setRow bx1 gY1_ ((atF q.rev s.L).getD fl0).v
   refine hK.out _ _ (by exact ⟨Tx2, Mx2, Ax2, Bx2, Yx2⟩) (fun hHeld => ?_)
   clear hK K
   try simp only [qpu]
   refine qtk (i := 12) (oi := fxs9o1) (v := (.bool (atF q.rev s.L).isSome)) hHeld ?_ ?_
   ·intro w9 hSw
    try dsimp only at hSw
    go_simp
   try simp only [qpu]
   refine wpAnyH_done (by kernel_rfl) ?_ _
   refine NoPanic.normal ?_
   have nY1_T : Wx7.heap.size ≠ tb := fun e => nTY1_ e.symm
   have nY1_M : Wx7.heap.size ≠ mb := fun e => nMY1_ e.symm
   have nY1_A : Wx7.heap.size ≠ w.heap.size := fun e => nAY1_ e.symm
   have nY1_B : Wx7.heap.size ≠ Wm1.heap.size := fun e => nBY1_ e.symm
   have nY1_Y : Wx7.heap.size ≠ Wdq4.heap.size := fun e => nYY1_ e.symm
   cases hq8 : (atF q.rev s.L).isSome with
   | false =>
    obtain ⟨Wm9, hWm9⟩ : ∃ W, Wx2.setRow Wm1.heap.size fl0.v = W := ⟨_, rfl⟩
    have Bm9 : Blk Wm9 Wm1.heap.size 33 fl0.v := hWm9 ▸ Bx2.set fl0.v
    have Tm9 := hWm9 ▸ Tx2.other nTB fl0.v
    have Mm9 := hWm9 ▸ Mx2.other nMB fl0.v
    have Am9 := hWm9 ▸ Ax2.other nAB fl0.v
    have Ym9 := hWm9 ▸ Yx2.other nYB fl0.v
    have Y1_m9 := hWm9 ▸ Y1_x2.other nY1_B fl0.v
    have bm9 := hWm9 ▸ below_setRow bx2 gB fl0.v
    go_wp2_with (refine wpList_store_row rfl _ _ _ rfl Wm1.heap.size fl0.v (by rfl) (by rfl) _ _ Bx2 (by kernel_rfl) (by rfl) (by kernel_rfl) ?_; rw [hWm9])
    have hR2 : R = ((fl0 : Fl), (0 : Int), (false : Bool)) := by (try rw [← HR.out]) <;> first | rfl | (simp [hq5, hq8]; done) | (simp [hq5, hq8]; rfl) | (exact find_a (by assumption)) | (exact find_b (by assumption) (by assumption)) | (exact find_c (by assumption) (by assumption))
    subst hR2
    exact ret_cell_tmp2 (k := 4) (j := 5) (i := 6) Try.f26 (by kernel_rfl) Bm9 Try.underlying33 (by kernel_rfl) (by rfl) (by rfl) (by rfl) rfl ⟨rfl, bm9⟩
   | true =>
    obtain ⟨Wm10, hWm10⟩ : ∃ W, Wx2.setRow Wm1.heap.size ((atF q.rev s.L).getD fl0).v = W := ⟨_, rfl⟩
    have Bm10 : Blk Wm10 Wm1.heap.size 33 ((atF q.rev s.L).getD fl0).v := hWm10 ▸ Bx2.set ((atF q.rev s.L).getD fl0).v
    have Tm10 := hWm10 ▸ Tx2.other nTB ((atF q.rev s.L).getD fl0).v
    have Mm10 := hWm10 ▸ Mx2.other nMB ((atF q.rev s.L).getD fl0).v
    have Am10 := hWm10 ▸ Ax2.other nAB ((atF q.rev s.L).getD fl0).v
    have Ym10 := hWm10 ▸ Yx2.other nYB ((atF q.rev s.L).getD fl0).v
    have Y1_m10 := hWm10 ▸ Y1_x2.other nY1_B ((atF q.rev s.L).getD fl0).v
    have bm10 := hWm10 ▸ below_setRow bx2 gB ((atF q.rev s.L).getD fl0).v
    go_wp2_with (first | (refine wpList_load_blk_w (by rfl) _ _ rfl Wx7.heap.size (by rfl) _ Y1_x2 Try.underlying33 (by kernel_rfl) ?_) | (refine wpList_store_row rfl _ _ _ rfl Wm1.heap.size ((atF q.rev s.L).getD fl0).v (by rfl) (by rfl) _ _ Bx2 (by kernel_rfl) (by rfl) (by kernel_rfl) ?_; rw [hWm10]))
    have hR2 : R = ((((atF q.rev s.L).getD fl0) : Fl), (1 : Int), (true : Bool)) := by (try rw [← HR.out]) <;> first | rfl | (simp [hq5, hq8]; done) | (simp [hq5, hq8]; rfl) | (exact find_a (by assumption)) | (exact find_b (by assumption) (by assumption)) | (exact find_c (by assumption) (by assumption))
    subst hR2
    exact ret_cell_tmp2 (k := 4) (j := 5) (i := 6) Try.f26 (by kernel_rfl) Bm10 Try.underlying33 (by kernel_rfl) (by rfl) (by rfl) (by rfl) rfl ⟨rfl, bm10⟩
  ·go_simp
   obtain ⟨Wx3, hWx3⟩ : ∃ W, Wdq6.alloc (.cells #[.int .i64 0, .int .i64 0, .int .i64 0, .int .u64 0, .int .u64 0, .int .i64 0, .int .u64 0, .int .u64 0, .int .i64 0, .int .i64 0, .int .i64 0, .int .u32 0, .int .u32 0, .int .u32 0, .int .u32 0, .bool false, .bool false, .bool false, .bool false, .int .i64 0, .int .i64 0, .bool false] 33) = W := ⟨_, rfl⟩
   rw [hWx3]
   have Tx3 := Tdq6.al hWx3
   have Mx3 := Mdq6.al hWx3
   have Ax3 := Adq6.al hWx3
   have Bx3 := Bdq6.al hWx3
   have Yx3 := Ydq6.al hWx3
   have Y2_x3 := blk_nw hWx3
   have bx3 := bel_al bdq6 hWx3
   have gY2_ : w.heap.size ≤ Wdq6.heap.size := bdq6.size
   have nTY2_ : tb ≠ Wdq6.heap.size := by have := Tdq6.lt; omega
   have nMY2_ : mb ≠ Wdq6.heap.size := by have := Mdq6.lt; omega
   have nAY2_ : w.heap.size ≠ Wdq6.heap.size := by have := Adq6.lt; omega
   have nBY2_ : Wm1.heap.size ≠ Wdq6.heap.size := by have := Bdq6.lt; omega
   have nYY2_ : Wdq4.heap.size ≠ Wdq6.heap.size := by have := Ydq6.lt; omega
   refine hK.out _ _ (by exact ⟨Tx3, Mx3, Ax3, Bx3, Yx3⟩) (fun hHeld => ?_)
   clear hK K
   try simp only [qpu]
   refine wpAnyH_ready (rs := [5]) (by kernel_rfl) (by simp) ?_
   refine AllReadyH.cons (o := fxs9o4) rfl (fun K hK => ?_) AllReadyH.nil
   go_simp
   refine Calls.mono (rev_t q _) ?_
   rintro e Wx11 ⟨rfl, bb⟩
   have Tx11 := Tx3.kept bb
   have Mx11 := Mx3.kept bb
   have Ax11 := Ax3.kept bb
   have Bx11 := Bx3.kept bb
   have Yx11 := Yx3.kept bb
   have Y2_x11 := Y2_x3.kept bb
   have bx11 := bel_tr bx3 bb
   clear bb
   refine hK.out _ _ (by exact ⟨Tx11, Mx11, Ax11, Bx11, Yx11⟩) (fun hHeld => ?_)
   clear hK K
   try simp only [qpu]
   refine qtk (i := 6) (oi := fxs9o5) (v := (.tuple #[.agg ((atF q.rev s.L).getD fl0).v, .bool (atF q.rev s.L).isSome])) hHeld ?_ ?_
   ·intro w9 hSw
    try dsimp only at hSw
    have hcc := look_at H.out hSw.2.1 (Wy.kf_rev (by assumption))
    go_simp
   try simp only [qpu]
   refine qtk (i := 7) (oi := fxs9o7) (v := (.tuple #[.agg ((atF q.rev s.L).getD fl0).v, .bool (atF q.rev s.L).isSome])) hHeld ?_ ?_
   ·intro w9 hSw
    try dsimp only at hSw
    go_simp
   try simp only [qpu]
   refine qtk (i := 8) (oi := fxs9o8) (v := (.agg ((atF q.rev s.L).getD fl0).v)) hHeld ?_ ?_
   ·intro w9 hSw
    try dsimp only at hSw
    go_simp
   try simp only [qpu]
   refine qtk (i := 9) (oi := fxs9o6) (v := (.bool (atF q.rev s.L).isSome)) hHeld ?_ ?_
   ·intro w9 hSw
    try dsimp only at hSw
    go_simp
   try simp only [qpu]
   refine wpAnyH_ready (rs := [11]) (by kernel_rfl) (by simp) ?_
   refine AllReadyH.cons (o := fxs9o0) rfl (fun K hK => ?_) AllReadyH.nil
   refine step_store_blk rfl _ _ _ rfl Wdq6.heap.size ((atF q.rev s.L).getD fl0).v _ (by rfl) (by rfl) Y2_x11 (by kernel_rfl) (by rfl) (by kernel_rfl) ?_
   obtain ⟨Wx4, hWx4⟩ : ∃ W, Wx11.setRow Wdq6.heap.size ((atF q.rev s.L).getD fl0).v = W := ⟨_, rfl⟩
   rw [hWx4]
   have Tx4 := hWx4 ▸ Tx11.other nTY2_ ((atF q.rev s.L).getD fl0).v
   have Mx4 := hWx4 ▸ Mx11.other nMY2_ ((atF q.rev s.L).getD fl0).v
   have Ax4 := hWx4 ▸ Ax11.other nAY2_ ((atF q.rev s.L).getD fl0).v
   have Bx4 := hWx4 ▸ Bx11.other nBY2_ ((atF q.rev s.L).getD fl0).v
   have Yx4 := hWx4 ▸ Yx11.other nYY2_ ((atF q.rev s.L).getD fl0).v
   have Y2_x4 : Blk Wx4 Wdq6.heap.size 33 ((atF q.rev s.L).getD fl0).v := hWx4 ▸ Y2_x11.set ((atF q.rev s.L).getD fl0).v
   have bx4 := hWx4 ▸ below_setRow bx11 gY2_ ((atF q.rev s.L).getD fl0).v
   refine hK.out _ _ (by exact ⟨Tx4, Mx4, Ax4, Bx4, Yx4⟩) (fun hHeld => ?_)
   clear hK K
   try simp only [qpu]
   refine qtk (i := 12) (oi := fxs9o1) (v := (.bool (atF q.rev s.L).isSome)) hHeld ?_ ?_
   ·intro w9 hSw
    try dsimp only at hSw
    go_simp
   try simp only [qpu]
   refine wpAnyH_done (by kernel_rfl) ?_ _
   refine NoPanic.normal ?_
   have nY2_T : Wdq6.heap.size ≠ tb := fun e => nTY2_ e.symm
   have nY2_M : Wdq6.heap.size ≠ mb := fun e => nMY2_ e.symm
   have nY2_A : Wdq6.heap.size ≠ w.heap.size := fun e => nAY2_ e.symm
   have nY2_B : Wdq6.heap.size ≠ Wm1.heap.size := fun e => nBY2_ e.symm
   have nY2_Y : Wdq6.heap.size ≠ Wdq4.heap.size := fun e => nYY2_ e.symm
   cases hq12 : (atF q.rev s.L).isSome with
   | false =>
    obtain ⟨Wm13, hWm13⟩ : ∃ W, Wx4.setRow Wm1.heap.size fl0.v = W := ⟨_, rfl⟩
    have Bm13 : Blk Wm13 Wm1.heap.size 33 fl0.v := hWm13 ▸ Bx4.set fl0.v
    have Tm13 := hWm13 ▸ Tx4.other nTB fl0.v
    have Mm13 := hWm13 ▸ Mx4.other nMB fl0.v
    have Am13 := hWm13 ▸ Ax4.other nAB fl0.v
    have Ym13 := hWm13 ▸ Yx4.other nYB fl0.v
    have Y2_m13 := hWm13 ▸ Y2_x4.other nY2_B fl0.v
    have bm13 := hWm13 ▸ below_setRow bx4 gB fl0.v
    go_wp2_with (refine wpList_store_row rfl _ _ _ rfl Wm1.heap.size fl0.v (by rfl) (by rfl) _ _ Bx4 (by kernel_rfl) (by rfl) (by kernel_rfl) ?_; rw [hWm13])
    have hR2 : R = ((fl0 : Fl), (0 : Int), (false : Bool)) := by (try rw [← HR.out]) <;> first | rfl | (simp [hq5, hq12]; done) | (simp [hq5, hq12]; rfl) | (exact find_a (by assumption)) | (exact find_b (by assumption) (by assumption)) | (exact find_c (by assumption) (by assumption))
    subst hR2
    exact ret_cell_tmp2 (k := 4) (j := 5) (i := 6) Try.f26 (by kernel_rfl) Bm13 Try.underlying33 (by kernel_rfl) (by rfl) (by rfl) (by rfl) rfl ⟨rfl, bm13⟩
   | true =>
    obtain ⟨Wm14, hWm14⟩ : ∃ W, Wx4.setRow Wm1.heap.size ((atF q.rev s.L).getD fl0).v = W := ⟨_, rfl⟩
    have Bm14 : Blk Wm14 Wm1.heap.size 33 ((atF q.rev s.L).getD fl0).v := hWm14 ▸ Bx4.set ((atF q.rev s.L).getD fl0).v
    have Tm14 := hWm14 ▸ Tx4.other nTB ((atF q.rev s.L).getD fl0).v
    have Mm14 := hWm14 ▸ Mx4.other nMB ((atF q.rev s.L).getD fl0).v
    have Am14 := hWm14 ▸ Ax4.other nAB ((atF q.rev s.L).getD fl0).v
    have Ym14 := hWm14 ▸ Yx4.other nYB ((atF q.rev s.L).getD fl0).v
    have Y2_m14 := hWm14 ▸ Y2_x4.other nY2_B ((atF q.rev s.L).getD fl0).v
    have bm14 := hWm14 ▸ below_setRow bx4 gB ((atF q.rev s.L).getD fl0).v
    go_wp2_with (first | (refine wpList_load_blk_w (by rfl) _ _ rfl Wdq6.heap.size (by rfl) _ Y2_x4 Try.underlying33 (by kernel_rfl) ?_) | (refine wpList_store_row rfl _ _ _ rfl Wm1.heap.size ((atF q.rev s.L).getD fl0).v (by rfl) (by rfl) _ _ Bx4 (by kernel_rfl) (by rfl) (by kernel_rfl) ?_; rw [hWm14]))
    have hR2 : R = ((((atF q.rev s.L).getD fl0) : Fl), (1 : Int), (true : Bool)) := by (try rw [← HR.out]) <;> first | rfl | (simp [hq5, hq12]; done) | (simp [hq5, hq12]; rfl) | (exact find_a (by assumption)) | (exact find_b (by assumption) (by assumption)) | (exact find_c (by assumption) (by assumption))
    subst hR2
    exact ret_cell_tmp2 (k := 4) (j := 5) (i := 6) Try.f26 (by kernel_rfl) Bm14 Try.underlying33 (by kernel_rfl) (by rfl) (by rfl) (by rfl) rfl ⟨rfl, bm14⟩

 | true =>
  obtain ⟨Wm15, hWm15⟩ : ∃ W, Wx2.setRow Wm1.heap.size ((atF q s.L).getD fl0).v = W := ⟨_, rfl⟩
  have Bm15 : Blk Wm15 Wm1.heap.size 33 ((atF q s.L).getD fl0).v := hWm15 ▸ Bx2.set ((atF q s.L).getD fl0).v
  have Tm15 := hWm15 ▸ Tx2.other nTB ((atF q s.L).getD fl0).v
  have Mm15 := hWm15 ▸ Mx2.other nMB ((atF q s.L).getD fl0).v
  have Am15 := hWm15 ▸ Ax2.other nAB ((atF q s.L).getD fl0).v
  have Ym15 := hWm15 ▸ Yx2.other nYB ((atF q s.L).getD fl0).v
  have bm15 := hWm15 ▸ below_setRow bx2 gB ((atF q s.L).getD fl0).v
  go_wp2_with (first | (refine wpList_load_blk_w (by rfl) _ _ rfl Wdq4.heap.size (by rfl) _ Yx2 Try.underlying33 (by kernel_rfl) ?_) | (refine wpList_store_row rfl _ _ _ rfl Wm1.heap.size ((atF q s.L).getD fl0).v (by rfl) (by rfl) _ _ Bx2 (by kernel_rfl) (by rfl) (by kernel_rfl) ?_; rw [hWm15]))
  have hR2 : R = ((((atF q s.L).getD fl0) : Fl), (0 : Int), (true : Bool)) := by (try rw [← HR.out]) <;> first | rfl | (simp [hq5]; done) | (simp [hq5]; rfl) | (exact find_a (by assumption)) | (exact find_b (by assumption) (by assumption)) | (exact find_c (by assumption) (by assumption))
  subst hR2
  exact ret_cell_tmp2 (k := 4) (j := 5) (i := 6) Try.f26 (by kernel_rfl) Bm15 Try.underlying33 (by kernel_rfl) (by rfl) (by rfl) (by rfl) rfl ⟨rfl, bm15⟩
end Go.Proofs.Ytfiembbmgdmagaa
