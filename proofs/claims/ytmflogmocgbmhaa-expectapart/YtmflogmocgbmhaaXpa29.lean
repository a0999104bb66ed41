/- Texts joined: XpR -/
import Derived.Test.YtmflogmocgbmhaaXpa7
import Derived.Test.YtmflogmocgbmhaaXpa25
import Derived.Test.YtmflogmocgbmhaaXpa28
namespace Go.Proofs.Ytmflogmocgbmhaa
open Go.RowKit
set_option linter.unusedVariables false
set_option linter.unusedSimpArgs false
def wayW (a b : Int) : Wy := ⟨4, 6, ⟨4, 0, 2⟩, ⟨4, 0, 1⟩, a, b⟩
def Ax.tk (q : Ax) : Wy := { q.f.w with sp := if q.f.w.sp == -1 then q.pt else q.f.w.sp }
def wantA : Wt := ⟨wayW (-1) 2000, wayW 21 1024, 9, 0⟩
theorem way_ok (a b : Int) : (wayW a b).ok := by
  constructor <;> constructor <;> first | decide | (constructor <;> decide) | simp [wayW]
theorem wantA_ok : wantA.ok := ⟨way_ok _ _, way_ok _ _⟩
theorem tk_ok {q : Ax} (h : q.f.ok) : q.tk.ok := ⟨h.w.s, h.w.d⟩
set_option maxRecDepth 100000 in
set_option maxHeartbeats 4000000 in
theorem way_xp (p d : Int) (w : World) :
    Calls Try.prog 26 #[.int .i64 p, .int .i64 d] w fun e w' => e = .returned (.agg (wayW p d).v) ∧ Below w.heap.size w w' := by
  obtain ⟨R, hR⟩ : ∃ R, wayW p d = R := ⟨_, rfl⟩
  have HR : Hid (wayW p d = R) := hR
  try rw [hR]
  clear hR
  have b := Below.refl w.heap.size w
  go_enter Try.func26, Try.ntmps26
  obtain ⟨Wm1, hWm1⟩ : ∃ W, w.alloc (.cells #[.int .i64 0, .int .i64 0, .int .i64 0, .int .u64 0, .int .u64 0, .int .i64 0, .int .u64 0, .int .u64 0, .int .i64 0, .int .i64 0] 26) = W := ⟨_, rfl⟩
  have bm1 := bel_al b hWm1
  have Am1 := blk_nw hWm1
  have gA : w.heap.size ≤ w.heap.size := b.size
  obtain ⟨Wm2, hWm2⟩ : ∃ W, Wm1.setRow w.heap.size (Wy.v ⟨4, 6, ⟨4, 0, 2⟩, ⟨4, 0, 1⟩, p, d⟩) = W := ⟨_, rfl⟩
  have Am2 : Blk Wm2 w.heap.size 26 (Wy.v ⟨4, 6, ⟨4, 0, 2⟩, ⟨4, 0, 1⟩, p, d⟩) := hWm2 ▸ Am1.set (Wy.v ⟨4, 6, ⟨4, 0, 2⟩, ⟨4, 0, 1⟩, p, d⟩)
  have bm2 := hWm2 ▸ below_setRow bm1 gA (Wy.v ⟨4, 6, ⟨4, 0, 2⟩, ⟨4, 0, 1⟩, p, d⟩)
  go_wp2_with (refine wpList_store_row rfl _ _ _ rfl w.heap.size (Wy.v ⟨4, 6, ⟨4, 0, 2⟩, ⟨4, 0, 1⟩, p, d⟩) (by rfl) (by rfl) _ _ Am1 (by kernel_rfl) (by rfl) (by kernel_rfl) ?_; rw [hWm2])
  have hR2 : R = (⟨4, 6, ⟨4, 0, 2⟩, ⟨4, 0, 1⟩, p, d⟩ : Wy) := by (try rw [← HR.out]) <;> first | rfl | (simp [wayW]; done) | (simp [wayW]; rfl)
  subst hR2
  exact ret_cell (k := 4) Try.f26 (by kernel_rfl) Am2 Try.underlying26 (by kernel_rfl) (by rfl) rfl ⟨rfl, bm2⟩
set_option maxRecDepth 100000 in
set_option maxHeartbeats 4000000 in
theorem taken_xp (q : Ax) (w : World) :
    Calls Try.prog 23 #[.agg q.v] w fun e w' => e = .returned (.agg q.tk.v) ∧ Below w.heap.size w w' := by
  obtain ⟨R, hR⟩ : ∃ R, q.tk = R := ⟨_, rfl⟩
  have HR : Hid (q.tk = R) := hR
  try rw [hR]
  clear hR
  have b := Below.refl w.heap.size w
  go_enter Try.func23, Try.ntmps23
  cases hq6 : (q.f.w.sp == -1) with
  | false =>
    obtain ⟨Wm7, hWm7⟩ : ∃ W, w.alloc (.cells q.v 45) = W := ⟨_, rfl⟩
    have bm7 := bel_al b hWm7
    have Am7 := blk_nw hWm7
    have gA : w.heap.size ≤ w.heap.size := b.size
    obtain ⟨Wm8, hWm8⟩ : ∃ W, Wm7.alloc (.cells #[.int .i64 0, .int .i64 0, .int .i64 0, .int .u64 0, .int .u64 0, .int .i64 0, .int .u64 0, .int .u64 0, .int .i64 0, .int .i64 0] 26) = W := ⟨_, rfl⟩
    have bm8 := bel_al bm7 hWm8
    have Am8 := Am7.al hWm8
    have Bm8 := blk_nw hWm8
    have gB : w.heap.size ≤ Wm7.heap.size := bm7.size
    have nAB : w.heap.size ≠ Wm7.heap.size := by have := Am7.lt; omega
    have nBA : Wm7.heap.size ≠ w.heap.size := fun e => nAB e.symm
    obtain ⟨Wm9, hWm9⟩ : ∃ W, Wm8.alloc (.cells #[.int .i64 0, .int .i64 0, .int .i64 0, .int .u64 0, .int .u64 0, .int .i64 0, .int .u64 0, .int .u64 0, .int .i64 0, .int .i64 0] 26) = W := ⟨_, rfl⟩
    have bm9 := bel_al bm8 hWm9
    have Am9 := Am8.al hWm9
    have Bm9 := Bm8.al hWm9
    have Cm9 := blk_nw hWm9
    have gC : w.heap.size ≤ Wm8.heap.size := bm8.size
    have nAC : w.heap.size ≠ Wm8.heap.size := by have := Am8.lt; omega
    have nCA : Wm8.heap.size ≠ w.heap.size := fun e => nAC e.symm
    have nBC : Wm7.heap.size ≠ Wm8.heap.size := by have := Bm8.lt; omega
    have nCB : Wm8.heap.size ≠ Wm7.heap.size := fun e => nBC e.symm
    obtain ⟨Wm10, hWm10⟩ : ∃ W, Wm9.setRow Wm8.heap.size q.f.w.v = W := ⟨_, rfl⟩
    have Cm10 : Blk Wm10 Wm8.heap.size 26 q.f.w.v := hWm10 ▸ Cm9.set q.f.w.v
    have Am10 := hWm10 ▸ Am9.other nAC q.f.w.v
    have Bm10 := hWm10 ▸ Bm9.other nBC q.f.w.v
    have bm10 := hWm10 ▸ below_setRow bm9 gC q.f.w.v
    have c11 := Cm10.cell 8 (.int .i64 q.f.w.sp) rfl
    obtain ⟨Wm12, hWm12⟩ : ∃ W, Wm10.setRow Wm7.heap.size q.f.w.v = W := ⟨_, rfl⟩
    have Bm12 : Blk Wm12 Wm7.heap.size 26 q.f.w.v := hWm12 ▸ Bm10.set q.f.w.v
    have Am12 := hWm12 ▸ Am10.other nAB q.f.w.v
    have Cm12 := hWm12 ▸ Cm10.other nCB q.f.w.v
    have bm12 := hWm12 ▸ below_setRow bm10 gB q.f.w.v
    go_wp2_with (first | (refine wpList_load_sub_w (by rfl) _ _ rfl w.heap.size 3 _ (by rfl) _ q.f.w.v Am8 (by rfl) Try.underlying26 (by kernel_rfl) ?_) | (refine wpList_store_row rfl _ _ _ rfl Wm8.heap.size q.f.w.v (by rfl) (by rfl) _ _ Cm9 (by kernel_rfl) (by rfl) (by kernel_rfl) ?_; rw [hWm10]) | (refine wpList_load_blk_w (by rfl) _ _ rfl Wm8.heap.size (by rfl) _ Cm10 Try.underlying26 (by kernel_rfl) ?_) | (refine wpList_store_row rfl _ _ _ rfl Wm7.heap.size q.f.w.v (by rfl) (by rfl) _ _ Bm10 (by kernel_rfl) (by rfl) (by kernel_rfl) ?_; rw [hWm12]))
    have hR2 : R = (q.f.w : Wy) := by (try rw [← HR.out]) <;> first | rfl | (simp [Ax.tk, hq6]; done) | (simp [Ax.tk, hq6]; rfl)
    subst hR2
    exact ret_cell (k := 2) Try.f23 (by kernel_rfl) Bm12 Try.underlying26 (by kernel_rfl) (by rfl) rfl ⟨rfl, bm12⟩

  | true =>
    obtain ⟨Wm13, hWm13⟩ : ∃ W, w.alloc (.cells q.v 45) = W := ⟨_, rfl⟩
    have bm13 := bel_al b hWm13
    have Am13 := blk_nw hWm13
    have gA : w.heap.size ≤ w.heap.size := b.size
    obtain ⟨Wm14, hWm14⟩ : ∃ W, Wm13.alloc (.cells #[.int .i64 0, .int .i64 0, .int .i64 0, .int .u64 0, .int .u64 0, .int .i64 0, .int .u64 0, .int .u64 0, .int .i64 0, .int .i64 0] 26) = W := ⟨_, rfl⟩
    have bm14 := bel_al bm13 hWm14
    have Am14 := Am13.al hWm14
    have Bm14 := blk_nw hWm14
    have gB : w.heap.size ≤ Wm13.heap.size := bm13.size
    have nAB : w.heap.size ≠ Wm13.heap.size := by have := Am13.lt; omega
    have nBA : Wm13.heap.size ≠ w.heap.size := fun e => nAB e.symm
    obtain ⟨Wm15, hWm15⟩ : ∃ W, Wm14.alloc (.cells #[.int .i64 0, .int .i64 0, .int .i64 0, .int .u64 0, .int .u64 0, .int .i64 0, .int .u64 0, .int .u64 0, .int .i64 0, .int .i64 0] 26) = W := ⟨_, rfl⟩
    have bm15 := bel_al bm14 hWm15
    have Am15 := Am14.al hWm15
    have Bm15 := Bm14.al hWm15
    have Cm15 := blk_nw hWm15
    have gC : w.heap.size ≤ Wm14.heap.size := bm14.size
    have nAC : w.heap.size ≠ Wm14.heap.size := by have := Am14.lt; omega
    have nCA : Wm14.heap.size ≠ w.heap.size := fun e => nAC e.symm
    have nBC : Wm13.heap.size ≠ Wm14.heap.size := by have := Bm14.lt; omega
    have nCB : Wm14.heap.size ≠ Wm13.heap.size := fun e => nBC e.symm
    obtain ⟨Wm16, hWm16⟩ : ∃ W, Wm15.setRow Wm14.heap.size q.f.w.v = W := ⟨_, rfl⟩
    have Cm16 : Blk Wm16 Wm14.heap.size 26 q.f.w.v := hWm16 ▸ Cm15.set q.f.w.v
    have Am16 := hWm16 ▸ Am15.other nAC q.f.w.v
    have Bm16 := hWm16 ▸ Bm15.other nBC q.f.w.v
    have bm16 := hWm16 ▸ below_setRow bm15 gC q.f.w.v
    have c17 := Cm16.cell 8 (.int .i64 q.f.w.sp) rfl
    have c18 := Am16.cell 1 (.int .i64 q.pt) rfl
    have y20 := Cm16.cell 8 (.int .i64 q.f.w.sp) rfl
    have z21 := Cm16.frozen 8
    obtain ⟨Wm19, hWm19⟩ : ∃ W, Wm16.setCell ⟨Wm14.heap.size, 8, none⟩ (.int .i64 q.pt) = W := ⟨_, rfl⟩
    have Cm19 : Blk Wm19 Wm14.heap.size 26 (Wy.v ⟨q.f.w.fam, q.f.w.pr, q.f.w.s, q.f.w.d, q.pt, q.f.w.dp⟩) := hWm19 ▸ Cm16.put 8 (.int .i64 q.pt)
    have Am19 := hWm19 ▸ Am16.put_other Cm16 nAC 8 (.int .i64 q.pt)
    have Bm19 := hWm19 ▸ Bm16.put_other Cm16 nBC 8 (.int .i64 q.pt)
    have bm19 := hWm19 ▸ bm16.setCell (p := ⟨Wm14.heap.size, 8, none⟩) gC (.int .i64 q.pt)
    obtain ⟨Wm22, hWm22⟩ : ∃ W, Wm19.setRow Wm13.heap.size (Wy.v ⟨q.f.w.fam, q.f.w.pr, q.f.w.s, q.f.w.d, q.pt, q.f.w.dp⟩) = W := ⟨_, rfl⟩
    have Bm22 : Blk Wm22 Wm13.heap.size 26 (Wy.v ⟨q.f.w.fam, q.f.w.pr, q.f.w.s, q.f.w.d, q.pt, q.f.w.dp⟩) := hWm22 ▸ Bm19.set (Wy.v ⟨q.f.w.fam, q.f.w.pr, q.f.w.s, q.f.w.d, q.pt, q.f.w.dp⟩)
    have Am22 := hWm22 ▸ Am19.other nAB (Wy.v ⟨q.f.w.fam, q.f.w.pr, q.f.w.s, q.f.w.d, q.pt, q.f.w.dp⟩)
    have Cm22 := hWm22 ▸ Cm19.other nCB (Wy.v ⟨q.f.w.fam, q.f.w.pr, q.f.w.s, q.f.w.d, q.pt, q.f.w.dp⟩)
    have bm22 := hWm22 ▸ below_setRow bm19 gB (Wy.v ⟨q.f.w.fam, q.f.w.pr, q.f.w.s, q.f.w.d, q.pt, q.f.w.dp⟩)
    go_wp2_with (first | (refine wpList_load_sub_w (by rfl) _ _ rfl w.heap.size 3 _ (by rfl) _ q.f.w.v Am14 (by rfl) Try.underlying26 (by kernel_rfl) ?_) | (refine wpList_store_row rfl _ _ _ rfl Wm14.heap.size q.f.w.v (by rfl) (by rfl) _ _ Cm15 (by kernel_rfl) (by rfl) (by kernel_rfl) ?_; rw [hWm16]) | (refine wpList_load_blk_w (by rfl) _ _ rfl Wm14.heap.size (by rfl) _ Cm19 Try.underlying26 (by kernel_rfl) ?_) | (refine wpList_store_row rfl _ _ _ rfl Wm13.heap.size (Wy.v ⟨q.f.w.fam, q.f.w.pr, q.f.w.s, q.f.w.d, q.pt, q.f.w.dp⟩) (by rfl) (by rfl) _ _ Bm19 (by kernel_rfl) (by rfl) (by kernel_rfl) ?_; rw [hWm22]))
    have hR2 : R = (⟨q.f.w.fam, q.f.w.pr, q.f.w.s, q.f.w.d, q.pt, q.f.w.dp⟩ : Wy) := by (try rw [← HR.out]) <;> first | rfl | (simp [Ax.tk, hq6]; done) | (simp [Ax.tk, hq6]; rfl)
    subst hR2
    exact ret_cell (k := 2) Try.f23 (by kernel_rfl) Bm22 Try.underlying26 (by kernel_rfl) (by rfl) rfl ⟨rfl, bm22⟩
end Go.Proofs.Ytmflogmocgbmhaa
