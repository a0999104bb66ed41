/- Texts joined: SgRn SgRna SgRnb SgRnc SgRnd -/
import Derived.Test.YtpjjkdgmfjhfiaaSgrR30
namespace Go.Proofs.Ytpjjkdgmfjhfiaa
open Go.RowKit
set_option linter.unusedVariables false
set_option linter.unusedSimpArgs false
theorem wpList_store_off {ops : Array Oper} {rest : List Oper} {o : Oper} {ac : Act} {Q : Exit → Act → World → Prop} {w : World} (hgd : o.guard = none) (ty : TypeId) (p x : Operand) (ho : o.op = Op.store ty p x) (g k : Nat) (t : TypeId) (cs cur new : Array Value)
    (hp : ac.eval p = .pointer (some ⟨g, k, none⟩)) (hx : ac.eval x = .agg cs) (hb : Blk w g t cur) (hi : (Try.prog.info? ty).map (·.size) = some cs.size) (hl : k + cs.size ≤ cur.size) (h1 : cs.all (·.oneCell') = true) (hn : setMany cur k cs.toList = new) (h : wpList Try.prog ops Q rest (ac.put o.dst undef) (w.setRow g new)) : wpList Try.prog ops Q (o :: rest) ac w := by
  refine wpList_plain hgd fun K hK => ?_
  subst hn
  unfold Oper.wp execOp
  simp only [ho, hp, hx, Instr.storeAt, Instr.sureAddr, Sem.run_bind, Sem.run_pure, Result.andThen_ok, run_storeVar_off hb hi hl h1]
  exact hK _ _ h
theorem rfromPart (bk off dc : Nat) (b : List Int) (k n : Nat) (W : World) (hc : b.length ≤ dc) (hk : k + n ≤ b.length) (h0 : 0 < k) (hn0 : 0 < n) (hr : Row W (some ⟨bk, off, none⟩) b) :
    Calls Try.prog 75 #[.slice (some ⟨bk, off + k, none⟩) n (dc - k)] W fun e w' => e = .returned (.tuple #[(fromB (partv b k n)).1.v, .int .i64 (fromB (partv b k n)).2]) ∧ Below W.heap.size W w' := by
  have hd := (hr.drop dc k hc).take n
  have he : (b.drop k).take n = partv b k n := by
    unfold partv part
    rw [if_pos (by simp [liesB]; omega)]
    simp
  have hn : (partv b k n).length = n := by rw [← he, List.length_take, List.length_drop]; omega
  rw [he] at hd
  have hd' : Row W (some ⟨bk, off + k, none⟩) (partv b k n) := by
    have hck : ¬ dc = k := by omega
    rw [if_neg hck] at hd; simpa [Go.WideShapes.add_plain] using hd
  have := rfrom_any _ (dc - k) _ W hd'
  rw [hn] at this
  exact this
set_option maxRecDepth 100000 in
set_option maxHeartbeats 4000000 in
theorem rinner_4b (f : Int) (bk off dc : Nat) (b : List Int) (w : World) (h : Row w (some ⟨bk, off, none⟩) b) (hll : b.length ≤ 140737488351232) (hc : b.length ≤ dc) (hcm : dc ≤ 9223372036854775807) (hf : f = 4) (hge : ¬ b.length < 20) (hv : ¬ b.getD 0 0 / 16 = f) :
    Calls Try.prog 61 #[.int .i64 f, .slice (some ⟨bk, off, none⟩) b.length dc] w fun e w' => e = .returned (.tuple #[.agg (tpv ((inner f b).getD zTp)), .bool (inner f b).isSome]) ∧ Below w.heap.size w w' := by
  have eN : inner f b = none := by
    unfold inner
    rw [if_neg (by omega), if_pos hv]
  rw [eN]
  clear eN
  obtain ⟨W1, hW1⟩ : ∃ W1, w.alloc (.cells (sRb 0 0 0 0 0 0 0 0 0 0) 26) = W1 := ⟨_, rfl⟩
  have b1 := bel_nw hW1
  have A1 := blk_nw hW1
  have g1 : w.heap.size < W1.heap.size := A1.lt
  obtain ⟨W2, hW2⟩ : ∃ W2, W1.alloc (.cells (sRb 0 0 0 0 0 0 0 0 0 0) 26) = W2 := ⟨_, rfl⟩
  have b2 := bel_al b1 hW2
  have A2 := A1.al hW2
  have V2 := blk_nw hW2
  have b3 := below_setRow b2 (Nat.le_of_lt g1) (sRb f 0 0 0 0 0 0 0 0 0)
  have A3 := A2.other (show w.heap.size ≠ W1.heap.size by omega) (sRb f 0 0 0 0 0 0 0 0 0)
  have V3 := V2.set (sRb f 0 0 0 0 0 0 0 0 0)
  obtain ⟨W3, hW3⟩ : ∃ W, W2.setRow W1.heap.size (sRb f 0 0 0 0 0 0 0 0 0) = W := ⟨_, rfl⟩
  rw [hW3] at b3 A3 V3
  have HW3 : Hid _ := hW3
  have hb0 : (Instr.build 26 #[(0, .int .i64 f)]).run Try.prog W1 = .ok (.agg (sRb f 0 0 0 0 0 0 0 0 0)) W1 := by kernel_rfl
  have hbz : (Instr.build 26 #[]).run Try.prog W3 = .ok (.agg (sRb 0 0 0 0 0 0 0 0 0 0)) W3 := by kernel_rfl
  clear hW3
  have f4 : (f == 4) = true := by simpa using hf
  have f6 : (f == 6) = false := by rw [hf]; rfl
  have hge' : ¬ (b.length : Int) < 20 := by omega
  obtain ⟨x0, e0⟩ : ∃ x, b.getD 0 0 = x := ⟨_, rfl⟩
  have q0 := h.bytes.get 0
  obtain ⟨bk', off', ee, hcl⟩ := h.cells (by omega)
  cases ee
  have u0 := hcl 0 (by omega)
  rw [e0, Nat.add_zero] at u0
  rw [e0] at q0
  have y0 := kept (b := bk) (o := off) b3 u0
  have i0 : (0 : Int) < (b.length : Int) := by omega
  have hne' : ¬ b = [] := by intro e; rw [e] at hge; simp at hge
  have wx0 : IntKind.i64.wrap (x0 / 16) = x0 / 16 := wraps_i64 _ (by omega) (by omega)
  rw [e0] at hv
  have hv' : (x0 / 16 != f) = true := by simpa using hv
  clear hf hv hcl e0 u0
  have Bf := A3.set (sRb 0 0 0 0 0 0 0 0 0 0)
  have bf := below_setRow b3 (Nat.le_refl _) (sRb 0 0 0 0 0 0 0 0 0 0)
  go_enter Try.func61, Try.ntmps61
  go_wp2_with (first
    | (refine wpList_build _ rfl _ _ rfl _ (by rfl) _ hb0 ?_)
    | (refine wpList_store_row rfl _ _ _ rfl W1.heap.size (sRb f 0 0 0 0 0 0 0 0 0) (by rfl) (by rfl) _ _ V2 (by kernel_rfl) (by rfl) (by kernel_rfl) ?_; rw [HW3.out])
    | (refine wpList_build _ rfl _ _ rfl _ (by rfl) _ hbz ?_)
    | (refine wpList_store_row rfl _ _ _ rfl w.heap.size (sRb 0 0 0 0 0 0 0 0 0 0) (by rfl) (by rfl) _ _ A3 (by kernel_rfl) (by rfl) (by kernel_rfl) ?_))
  exact ret_cell_tmp (k := 4) (j := 5) Try.f61 (by kernel_rfl) Bf Try.underlying26 (by kernel_rfl) (by rfl) (by rfl) rfl ⟨rfl, bf⟩
set_option maxRecDepth 100000 in
set_option maxHeartbeats 4000000 in
theorem rinner_4c (f : Int) (bk off dc : Nat) (b : List Int) (w : World) (h : Row w (some ⟨bk, off, none⟩) b) (hll : b.length ≤ 140737488351232) (hc : b.length ≤ dc) (hcm : dc ≤ 9223372036854775807) (hf : f = 4) (hge : ¬ b.length < 20) (hv : b.getD 0 0 / 16 = f) (h4 : b.getD 0 0 % 16 * 4 < 20) :
    Calls Try.prog 61 #[.int .i64 f, .slice (some ⟨bk, off, none⟩) b.length dc] w fun e w' => e = .returned (.tuple #[.agg (tpv ((inner f b).getD zTp)), .bool (inner f b).isSome]) ∧ Below w.heap.size w w' := by
  have eN : inner f b = none := by
    unfold inner
    rw [if_neg (by omega), if_neg (by simpa using hv), if_pos hf]
    unfold inner4
    rw [if_pos (by omega)]
  rw [eN]
  clear eN
  obtain ⟨W1, hW1⟩ : ∃ W1, w.alloc (.cells (sRb 0 0 0 0 0 0 0 0 0 0) 26) = W1 := ⟨_, rfl⟩
  have b1 := bel_nw hW1
  have A1 := blk_nw hW1
  have g1 : w.heap.size < W1.heap.size := A1.lt
  obtain ⟨W2, hW2⟩ : ∃ W2, W1.alloc (.cells (sRb 0 0 0 0 0 0 0 0 0 0) 26) = W2 := ⟨_, rfl⟩
  have b2 := bel_al b1 hW2
  have A2 := A1.al hW2
  have V2 := blk_nw hW2
  have b3 := below_setRow b2 (Nat.le_of_lt g1) (sRb f 0 0 0 0 0 0 0 0 0)
  have A3 := A2.other (show w.heap.size ≠ W1.heap.size by omega) (sRb f 0 0 0 0 0 0 0 0 0)
  have V3 := V2.set (sRb f 0 0 0 0 0 0 0 0 0)
  obtain ⟨W3, hW3⟩ : ∃ W, W2.setRow W1.heap.size (sRb f 0 0 0 0 0 0 0 0 0) = W := ⟨_, rfl⟩
  rw [hW3] at b3 A3 V3
  have HW3 : Hid _ := hW3
  have hb0 : (Instr.build 26 #[(0, .int .i64 f)]).run Try.prog W1 = .ok (.agg (sRb f 0 0 0 0 0 0 0 0 0)) W1 := by kernel_rfl
  have hbz : (Instr.build 26 #[]).run Try.prog W3 = .ok (.agg (sRb 0 0 0 0 0 0 0 0 0 0)) W3 := by kernel_rfl
  clear hW3
  have f4 : (f == 4) = true := by simpa using hf
  have f6 : (f == 6) = false := by rw [hf]; rfl
  have hge' : ¬ (b.length : Int) < 20 := by omega
  obtain ⟨x0, e0⟩ : ∃ x, b.getD 0 0 = x := ⟨_, rfl⟩
  have q0 := h.bytes.get 0
  obtain ⟨bk', off', ee, hcl⟩ := h.cells (by omega)
  cases ee
  have u0 := hcl 0 (by omega)
  rw [e0, Nat.add_zero] at u0
  rw [e0] at q0
  have y0 := kept (b := bk) (o := off) b3 u0
  have i0 : (0 : Int) < (b.length : Int) := by omega
  have hne' : ¬ b = [] := by intro e; rw [e] at hge; simp at hge
  have wx0 : IntKind.i64.wrap (x0 / 16) = x0 / 16 := wraps_i64 _ (by omega) (by omega)
  rw [e0] at hv
  have hv' : (x0 / 16 != f) = false := by simpa using hv
  have a15 : bits .and .u8 x0 15 = x0 % 16 := and15_u8 x0 q0.1 q0.2
  have wy0 : IntKind.i64.wrap (x0 % 16) = x0 % 16 := wraps_i64 _ (by omega) (by omega)
  obtain ⟨H, hH⟩ : ∃ H, x0 % 16 * 4 = H := ⟨_, rfl⟩
  have wH : IntKind.i64.wrap H = H := by rw [← hH]; exact wraps_i64 _ (by omega) (by omega)
  have wH4 : IntKind.i64.wrap (x0 % 16 * 4) = H := by rw [hH]; exact wH
  have H0 : 0 ≤ H := by omega
  have H60 : H ≤ 60 := by omega
  rw [e0, hH] at h4
  clear hf hv hH hcl e0 u0
  have Bf := A3.set (sRb 0 0 0 0 0 0 0 0 0 0)
  have bf := below_setRow b3 (Nat.le_refl _) (sRb 0 0 0 0 0 0 0 0 0 0)
  go_enter Try.func61, Try.ntmps61
  go_wp2_with (first
    | (refine wpList_build _ rfl _ _ rfl _ (by rfl) _ hb0 ?_)
    | (refine wpList_store_row rfl _ _ _ rfl W1.heap.size (sRb f 0 0 0 0 0 0 0 0 0) (by rfl) (by rfl) _ _ V2 (by kernel_rfl) (by rfl) (by kernel_rfl) ?_; rw [HW3.out])
    | (refine wpList_build _ rfl _ _ rfl _ (by rfl) _ hbz ?_)
    | (refine wpList_store_row rfl _ _ _ rfl w.heap.size (sRb 0 0 0 0 0 0 0 0 0 0) (by rfl) (by rfl) _ _ A3 (by kernel_rfl) (by rfl) (by kernel_rfl) ?_))
  exact ret_cell_tmp (k := 4) (j := 5) Try.f61 (by kernel_rfl) Bf Try.underlying26 (by kernel_rfl) (by rfl) (by rfl) rfl ⟨rfl, bf⟩
set_option maxRecDepth 100000 in
set_option maxHeartbeats 4000000 in
theorem rinner_4d (f : Int) (bk off dc : Nat) (b : List Int) (w : World) (h : Row w (some ⟨bk, off, none⟩) b) (hll : b.length ≤ 140737488351232) (hc : b.length ≤ dc) (hcm : dc ≤ 9223372036854775807) (hf : f = 4) (hge : ¬ b.length < 20) (hv : b.getD 0 0 / 16 = f) (h4 : ¬ b.getD 0 0 % 16 * 4 < 20) (h5 : b.getD 0 0 % 16 * 4 > (b.length : Int)) :
    Calls Try.prog 61 #[.int .i64 f, .slice (some ⟨bk, off, none⟩) b.length dc] w fun e w' => e = .returned (.tuple #[.agg (tpv ((inner f b).getD zTp)), .bool (inner f b).isSome]) ∧ Below w.heap.size w w' := by
  have eN : inner f b = none := by
    unfold inner
    rw [if_neg (by omega), if_neg (by simpa using hv), if_pos hf]
    unfold inner4
    rw [if_pos (by omega)]
  rw [eN]
  clear eN
  obtain ⟨W1, hW1⟩ : ∃ W1, w.alloc (.cells (sRb 0 0 0 0 0 0 0 0 0 0) 26) = W1 := ⟨_, rfl⟩
  have b1 := bel_nw hW1
  have A1 := blk_nw hW1
  have g1 : w.heap.size < W1.heap.size := A1.lt
  obtain ⟨W2, hW2⟩ : ∃ W2, W1.alloc (.cells (sRb 0 0 0 0 0 0 0 0 0 0) 26) = W2 := ⟨_, rfl⟩
  have b2 := bel_al b1 hW2
  have A2 := A1.al hW2
  have V2 := blk_nw hW2
  have b3 := below_setRow b2 (Nat.le_of_lt g1) (sRb f 0 0 0 0 0 0 0 0 0)
  have A3 := A2.other (show w.heap.size ≠ W1.heap.size by omega) (sRb f 0 0 0 0 0 0 0 0 0)
  have V3 := V2.set (sRb f 0 0 0 0 0 0 0 0 0)
  obtain ⟨W3, hW3⟩ : ∃ W, W2.setRow W1.heap.size (sRb f 0 0 0 0 0 0 0 0 0) = W := ⟨_, rfl⟩
  rw [hW3] at b3 A3 V3
  have HW3 : Hid _ := hW3
  have hb0 : (Instr.build 26 #[(0, .int .i64 f)]).run Try.prog W1 = .ok (.agg (sRb f 0 0 0 0 0 0 0 0 0)) W1 := by kernel_rfl
  have hbz : (Instr.build 26 #[]).run Try.prog W3 = .ok (.agg (sRb 0 0 0 0 0 0 0 0 0 0)) W3 := by kernel_rfl
  clear hW3
  have f4 : (f == 4) = true := by simpa using hf
  have f6 : (f == 6) = false := by rw [hf]; rfl
  have hge' : ¬ (b.length : Int) < 20 := by omega
  obtain ⟨x0, e0⟩ : ∃ x, b.getD 0 0 = x := ⟨_, rfl⟩
  have q0 := h.bytes.get 0
  obtain ⟨bk', off', ee, hcl⟩ := h.cells (by omega)
  cases ee
  have u0 := hcl 0 (by omega)
  rw [e0, Nat.add_zero] at u0
  rw [e0] at q0
  have y0 := kept (b := bk) (o := off) b3 u0
  have i0 : (0 : Int) < (b.length : Int) := by omega
  have hne' : ¬ b = [] := by intro e; rw [e] at hge; simp at hge
  have wx0 : IntKind.i64.wrap (x0 / 16) = x0 / 16 := wraps_i64 _ (by omega) (by omega)
  rw [e0] at hv
  have hv' : (x0 / 16 != f) = false := by simpa using hv
  have a15 : bits .and .u8 x0 15 = x0 % 16 := and15_u8 x0 q0.1 q0.2
  have wy0 : IntKind.i64.wrap (x0 % 16) = x0 % 16 := wraps_i64 _ (by omega) (by omega)
  obtain ⟨H, hH⟩ : ∃ H, x0 % 16 * 4 = H := ⟨_, rfl⟩
  have wH : IntKind.i64.wrap H = H := by rw [← hH]; exact wraps_i64 _ (by omega) (by omega)
  have wH4 : IntKind.i64.wrap (x0 % 16 * 4) = H := by rw [hH]; exact wH
  have H0 : 0 ≤ H := by omega
  have H60 : H ≤ 60 := by omega
  rw [e0, hH] at h4 h5
  clear hf hv hH hcl e0 u0
  have Bf := A3.set (sRb 0 0 0 0 0 0 0 0 0 0)
  have bf := below_setRow b3 (Nat.le_refl _) (sRb 0 0 0 0 0 0 0 0 0 0)
  go_enter Try.func61, Try.ntmps61
  go_wp2_with (first
    | (refine wpList_build _ rfl _ _ rfl _ (by rfl) _ hb0 ?_)
    | (refine wpList_store_row rfl _ _ _ rfl W1.heap.size (sRb f 0 0 0 0 0 0 0 0 0) (by rfl) (by rfl) _ _ V2 (by kernel_rfl) (by rfl) (by kernel_rfl) ?_; rw [HW3.out])
    | (refine wpList_build _ rfl _ _ rfl _ (by rfl) _ hbz ?_)
    | (refine wpList_store_row rfl _ _ _ rfl w.heap.size (sRb 0 0 0 0 0 0 0 0 0 0) (by rfl) (by rfl) _ _ A3 (by kernel_rfl) (by rfl) (by kernel_rfl) ?_))
  exact ret_cell_tmp (k := 4) (j := 5) Try.f61 (by kernel_rfl) Bf Try.underlying26 (by kernel_rfl) (by rfl) (by rfl) rfl ⟨rfl, bf⟩
set_option maxRecDepth 100000 in
set_option maxHeartbeats 4000000 in
theorem rinner_4e (f : Int) (bk off dc : Nat) (b : List Int) (w : World) (h : Row w (some ⟨bk, off, none⟩) b) (hll : b.length ≤ 140737488351232) (hc : b.length ≤ dc) (hcm : dc ≤ 9223372036854775807) (hf : f = 4) (hge : ¬ b.length < 20) (hv : b.getD 0 0 / 16 = f) (h4 : ¬ b.getD 0 0 % 16 * 4 < 20) (h5 : ¬ b.getD 0 0 % 16 * 4 > (b.length : Int)) (h6 : (b.length : Int) - b.getD 0 0 % 16 * 4 < 8) :
    Calls Try.prog 61 #[.int .i64 f, .slice (some ⟨bk, off, none⟩) b.length dc] w fun e w' => e = .returned (.tuple #[.agg (tpv ((inner f b).getD zTp)), .bool (inner f b).isSome]) ∧ Below w.heap.size w w' := by
  have eN : inner f b = none := by
    unfold inner
    rw [if_neg (by omega), if_neg (by simpa using hv), if_pos hf]
    unfold inner4
    rw [if_pos (Or.inr h6)]
  rw [eN]
  clear eN
  obtain ⟨W1, hW1⟩ : ∃ W1, w.alloc (.cells (sRb 0 0 0 0 0 0 0 0 0 0) 26) = W1 := ⟨_, rfl⟩
  have b1 := bel_nw hW1
  have A1 := blk_nw hW1
  have g1 : w.heap.size < W1.heap.size := A1.lt
  obtain ⟨W2, hW2⟩ : ∃ W2, W1.alloc (.cells (sRb 0 0 0 0 0 0 0 0 0 0) 26) = W2 := ⟨_, rfl⟩
  have b2 := bel_al b1 hW2
  have A2 := A1.al hW2
  have V2 := blk_nw hW2
  have b3 := below_setRow b2 (Nat.le_of_lt g1) (sRb f 0 0 0 0 0 0 0 0 0)
  have A3 := A2.other (show w.heap.size ≠ W1.heap.size by omega) (sRb f 0 0 0 0 0 0 0 0 0)
  have V3 := V2.set (sRb f 0 0 0 0 0 0 0 0 0)
  obtain ⟨W3, hW3⟩ : ∃ W, W2.setRow W1.heap.size (sRb f 0 0 0 0 0 0 0 0 0) = W := ⟨_, rfl⟩
  rw [hW3] at b3 A3 V3
  have HW3 : Hid _ := hW3
  have hb0 : (Instr.build 26 #[(0, .int .i64 f)]).run Try.prog W1 = .ok (.agg (sRb f 0 0 0 0 0 0 0 0 0)) W1 := by kernel_rfl
  have hbz : (Instr.build 26 #[]).run Try.prog W3 = .ok (.agg (sRb 0 0 0 0 0 0 0 0 0 0)) W3 := by kernel_rfl
  clear hW3
  have f4 : (f == 4) = true := by simpa using hf
  have f6 : (f == 6) = false := by rw [hf]; rfl
  have hge' : ¬ (b.length : Int) < 20 := by omega
  obtain ⟨x0, e0⟩ : ∃ x, b.getD 0 0 = x := ⟨_, rfl⟩
  have q0 := h.bytes.get 0
  obtain ⟨bk', off', ee, hcl⟩ := h.cells (by omega)
  cases ee
  have u0 := hcl 0 (by omega)
  rw [e0, Nat.add_zero] at u0
  rw [e0] at q0
  have y0 := kept (b := bk) (o := off) b3 u0
  have i0 : (0 : Int) < (b.length : Int) := by omega
  have hne' : ¬ b = [] := by intro e; rw [e] at hge; simp at hge
  have wx0 : IntKind.i64.wrap (x0 / 16) = x0 / 16 := wraps_i64 _ (by omega) (by omega)
  rw [e0] at hv
  have hv' : (x0 / 16 != f) = false := by simpa using hv
  have a15 : bits .and .u8 x0 15 = x0 % 16 := and15_u8 x0 q0.1 q0.2
  have wy0 : IntKind.i64.wrap (x0 % 16) = x0 % 16 := wraps_i64 _ (by omega) (by omega)
  obtain ⟨H, hH⟩ : ∃ H, x0 % 16 * 4 = H := ⟨_, rfl⟩
  have wH : IntKind.i64.wrap H = H := by rw [← hH]; exact wraps_i64 _ (by omega) (by omega)
  have wH4 : IntKind.i64.wrap (x0 % 16 * 4) = H := by rw [hH]; exact wH
  have H0 : 0 ≤ H := by omega
  have H60 : H ≤ 60 := by omega
  rw [e0, hH] at h4 h5 h6
  obtain ⟨hh, hHn⟩ := Int.eq_ofNat_of_zero_le H0
  subst hHn
  have n20 : 20 ≤ hh := by omega
  have nhl : hh ≤ b.length := by omega
  have jh1 : (0 : Int) ≤ (hh : Int) := by omega
  have jh2 : (hh : Int) ≤ (b.length : Int) := by omega
  obtain ⟨x9, e9⟩ : ∃ x, b.getD 9 0 = x := ⟨_, rfl⟩
  have q9 := h.bytes.get 9
  have y9 := kept (b := bk) (o := off + 9) b3 (hcl 9 (by omega))
  rw [e9] at y9 q9
  have i9 : (9 : Int) < (b.length : Int) := by omega
  have wx9 : IntKind.i64.wrap x9 = x9 := wraps_i64 _ (by omega) (by omega)
  obtain ⟨a3, ha3⟩ : ∃ a3 : Option Addr, (if dc = hh then (some ⟨bk, off, none⟩) else Option.map (fun x : Addr => x.add hh) (some ⟨bk, off, none⟩)) = a3 := ⟨_, rfl⟩
  have H3 : Hid ((if dc = hh then some (⟨bk, off, none⟩ : Addr) else some ⟨bk, off + hh, none⟩) = a3) := by
    have : (if dc = hh then some (⟨bk, off, none⟩ : Addr) else some ⟨bk, off + hh, none⟩) = a3 := by
      rw [← ha3]
      simp [Go.WideShapes.add_plain]
    exact this
  have h3' : (if dc = hh then some (⟨bk, off, none⟩ : Addr) else some ⟨bk, off + hh, none⟩) = a3 := H3.out
  obtain ⟨c3, hc3⟩ : ∃ c3, dc - hh = c3 := ⟨_, rfl⟩
  have hn3 : a3 = none → c3 = 0 := fun e => by
    rw [e] at ha3
    split at ha3
    · cases ha3
    · cases ha3
  have hr8 : ((b.length - hh : Nat) : Int) < 8 := by omega
  obtain ⟨⟨sf, sh, sl⟩, hAs⟩ : ∃ x : Ad, (fromB (partv b 12 4)).1 = x := ⟨_, rfl⟩
  obtain ⟨eS, hEs⟩ : ∃ x, (fromB (partv b 12 4)).2 = x := ⟨_, rfl⟩
  have KA : Hid (∀ W, Row W (some ⟨bk, off, none⟩) b → Calls Try.prog 75 #[.slice (some ⟨bk, off + 12, none⟩) 4 (dc - 12)] W fun e w' => e = .returned (.tuple #[.agg #[.int .i64 sf, .int .u64 sh, .int .u64 sl], .int .i64 eS]) ∧ Below W.heap.size W w') := fun W hW => by
    have := rfromPart bk off dc b 12 4 W hc (by omega) (by decide) (by decide) hW
    rw [show ((12 : Nat) : Int) = 12 from rfl, show ((4 : Nat) : Int) = 4 from rfl, hAs, hEs] at this
    exact this
  obtain ⟨⟨df, dh, dl⟩, hAd⟩ : ∃ x : Ad, (fromB (partv b 16 4)).1 = x := ⟨_, rfl⟩
  obtain ⟨eD, hEd⟩ : ∃ x, (fromB (partv b 16 4)).2 = x := ⟨_, rfl⟩
  have KB : Hid (∀ W, Row W (some ⟨bk, off, none⟩) b → Calls Try.prog 75 #[.slice (some ⟨bk, off + 16, none⟩) 4 (dc - 16)] W fun e w' => e = .returned (.tuple #[.agg #[.int .i64 df, .int .u64 dh, .int .u64 dl], .int .i64 eD]) ∧ Below W.heap.size W w') := fun W hW => by
    have := rfromPart bk off dc b 16 4 W hc (by omega) (by decide) (by decide) hW
    rw [show ((16 : Nat) : Int) = 16 from rfl, show ((4 : Nat) : Int) = 4 from rfl, hAd, hEd] at this
    exact this
  have v_4 := V3.cell 1 (.int .i64 0) rfl
  have z_4 := V3.frozen 1
  have V4 : Blk (W3.setCell ⟨W1.heap.size, 1, none⟩ (.int .i64 x9)) W1.heap.size 26 (sRb f x9 0 0 0 0 0 0 0 0) := V3.put 1 (.int .i64 x9)
  have A4 := A3.put_other V3 (show w.heap.size ≠ W1.heap.size by omega) 1 (.int .i64 x9)
  have b4 := b3.setCell (p := ⟨W1.heap.size, 1, none⟩) (show w.heap.size ≤ W1.heap.size by omega) (.int .i64 x9)
  obtain ⟨W4, hW4⟩ : ∃ W, W3.setCell ⟨W1.heap.size, 1, none⟩ (.int .i64 x9) = W := ⟨_, rfl⟩
  rw [hW4] at V4 A4 b4
  clear hf hv hH hcl e0 u0 e9
  go_enter Try.func61, Try.ntmps61
  go_wp2_with (first
    | (refine wpList_build _ rfl _ _ rfl _ (by rfl) _ hb0 ?_)
    | (refine wpList_store_row rfl _ _ _ rfl W1.heap.size (sRb f 0 0 0 0 0 0 0 0 0) (by rfl) (by rfl) _ _ V2 (by kernel_rfl) (by rfl) (by kernel_rfl) ?_; rw [HW3.out]))
  refine Calls.mono (KA.out _ (h.below b4)) ?_
  rintro e W5 ⟨rfl, bb⟩
  have V5 := V4.kept bb
  have A5 := A4.kept bb
  have b5 := bel_tr b4 bb
  clear KA bb V4 A4 b4 V3 A3 b3 v_4 z_4 hW4 y0 y9 V2 A2 b2 A1 b1 hW1 hW2
  have V6 := V5.set (sRb f x9 sf sh sl 0 0 0 0 0)
  have A6 := A5.other (show w.heap.size ≠ W1.heap.size by omega) (sRb f x9 sf sh sl 0 0 0 0 0)
  have b6 := below_setRow b5 (Nat.le_of_lt g1) (sRb f x9 sf sh sl 0 0 0 0 0)
  obtain ⟨W6, hW6⟩ : ∃ W, W5.setRow W1.heap.size (sRb f x9 sf sh sl 0 0 0 0 0) = W := ⟨_, rfl⟩
  rw [hW6] at V6 A6 b6
  have HW6 : Hid _ := hW6
  clear hW6
  go_wp2_with (first
    | (refine wpList_store_off rfl _ _ _ rfl W1.heap.size 2 26 #[.int .i64 sf, .int .u64 sh, .int .u64 sl] (sRb f x9 0 0 0 0 0 0 0 0) (sRb f x9 sf sh sl 0 0 0 0 0) (by rfl) (by rfl) V5 (by kernel_rfl) (show 2 + 3 ≤ 10 by decide) (by kernel_rfl) (by kernel_rfl) ?_; rw [HW6.out]))
  refine Calls.mono (KB.out _ (h.below b6)) ?_
  rintro e W7 ⟨rfl, bb⟩
  have V7 := V6.kept bb
  have A7 := A6.kept bb
  have b7 := bel_tr b6 bb
  clear KB bb V6 A6 b6 V5 A5 b5 HW6
  have V8 := V7.set (sRb f x9 sf sh sl df dh dl 0 0)
  have A8 := A7.other (show w.heap.size ≠ W1.heap.size by omega) (sRb f x9 sf sh sl df dh dl 0 0)
  have b8 := below_setRow b7 (Nat.le_of_lt g1) (sRb f x9 sf sh sl df dh dl 0 0)
  obtain ⟨W8, hW8⟩ : ∃ W, W7.setRow W1.heap.size (sRb f x9 sf sh sl df dh dl 0 0) = W := ⟨_, rfl⟩
  rw [hW8] at V8 A8 b8
  have HW8 : Hid _ := hW8
  clear hW8
  have hbz8 : (Instr.build 26 #[]).run Try.prog W8 = .ok (.agg (sRb 0 0 0 0 0 0 0 0 0 0)) W8 := by kernel_rfl
  have Bf := A8.set (sRb 0 0 0 0 0 0 0 0 0 0)
  have bf := below_setRow b8 (Nat.le_refl _) (sRb 0 0 0 0 0 0 0 0 0 0)
  go_wp2_with (first
    | (refine wpList_store_off rfl _ _ _ rfl W1.heap.size 5 26 #[.int .i64 df, .int .u64 dh, .int .u64 dl] (sRb f x9 sf sh sl 0 0 0 0 0) (sRb f x9 sf sh sl df dh dl 0 0) (by rfl) (by rfl) V7 (by kernel_rfl) (show 5 + 3 ≤ 10 by decide) (by kernel_rfl) (by kernel_rfl) ?_; rw [HW8.out])
    | (refine wpList_build _ rfl _ _ rfl _ (by rfl) _ hbz8 ?_)
    | (refine wpList_store_row rfl _ _ _ rfl w.heap.size (sRb 0 0 0 0 0 0 0 0 0 0) (by rfl) (by rfl) _ _ A8 (by kernel_rfl) (by rfl) (by kernel_rfl) ?_))
  exact ret_cell_tmp (k := 4) (j := 5) Try.f61 (by kernel_rfl) Bf Try.underlying26 (by kernel_rfl) (by rfl) (by rfl) rfl ⟨rfl, bf⟩
end Go.Proofs.Ytpjjkdgmfjhfiaa
