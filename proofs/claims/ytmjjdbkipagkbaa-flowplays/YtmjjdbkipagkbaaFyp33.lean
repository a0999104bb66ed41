/- Texts joined: FyB -/
import Derived.Test.YtmjjdbkipagkbaaFyp32
namespace Go.Proofs.Ytmjjdbkipagkbaa
open Go.RowKit
set_option linter.unusedVariables false
set_option linter.unusedSimpArgs false
set_option maxRecDepth 100000 in
set_option maxHeartbeats 4000000 in
theorem rplace_fy (rb : Nat) (s : Ft) (a : Option Addr) (c : Nat) (q : Wy) (w : World) (hll : s.L.length ≤ 100000) (T : Blk w rb 55 (docV s a c)) (E : RowG w a c s.L) :
    Calls Try.prog 73 #[.pointer (some ⟨rb, 0, none⟩), .agg q.v] w fun e w' => e = .returned (.int .i64 (plc q s.L)) ∧ Below w.heap.size w w' := by
  obtain ⟨R, hR⟩ : ∃ R, plc q s.L = R := ⟨_, rfl⟩
  have HR : Hid (plc q s.L = R) := hR
  try rw [hR]
  clear hR
  have b := Below.refl w.heap.size w
  go_enter Try.func73, Try.ntmps73
  obtain ⟨Wm1, hWm1⟩ : ∃ W, w.alloc (.cells q.v 26) = W := ⟨_, rfl⟩
  have bm1 := bel_al b hWm1
  have Tm1 := T.al hWm1
  have Em1 := E.al hWm1
  have Am1 := blk_nw hWm1
  have gA : w.heap.size ≤ w.heap.size := b.size
  have nTA : rb ≠ w.heap.size := by have := T.lt; omega
  have nAT : w.heap.size ≠ rb := fun e => nTA e.symm
  have nEA : ∀ y : Addr, a = some y → y.block ≠ w.heap.size := fun y hy => by have := E.lt y hy; omega
  go_wp2_with fail
  go_loopw [5] (fun i wr => ∃ k : Nat, k ≤ s.L.length ∧ i = .int .i64 k ∧ Hid (∀ j f, j < k → s.L[j]? = some f → Wy.eqB f.w q = false) ∧ Blk wr rb 55 #[.int .i64 s.most, .int .i64 s.now, .slice a s.L.length c] ∧ RowG wr a c s.L ∧ Blk wr w.heap.size 26 q.v ∧ Below w.heap.size w wr) (fun i _ => s.L.length - (intOf i).toNat)
  case atStart => exact ⟨0, Nat.zero_le _, rfl, fun j f hj => absurd hj (Nat.not_lt_zero _), Tm1, Em1, Am1, bm1⟩
  case round =>
    obtain ⟨k, hk, rfl, HB, Tr, Er, Ar, br⟩ := hrel
    obtain ⟨Wr, rfl⟩ : ∃ W, W = wr := ⟨_, rfl⟩
    have in0 : (0 : Int) ≤ (k : Int) := by omega
    by_cases hlt : k < s.L.length
    · have ik : (k : Int) < (s.L.length : Int) := by omega
      have ik' : decide ((k : Int) < (s.L.length : Int)) = true := by simpa using ik
      obtain ⟨x, hx⟩ : ∃ q, s.L[k]? = some q := ⟨_, List.getElem?_eq_getElem hlt⟩
      have HX : Hid (s.L[k]? = some x) := hx
      obtain ⟨p2, off2, rfl, hcells⟩ := Er.row.cells k x hx
      clear hcells hx
      have c2 := Tr.cell 2 (.slice (some ⟨p2, off2, none⟩) s.L.length c) rfl
      go_wp2_with fail
      clear c2
      obtain ⟨Wdq3, hWdq3⟩ : ∃ W, Wr.drew = W := ⟨_, rfl⟩
      have Tdq3 := hWdq3 ▸ Tr.drew
      have Edq3 := hWdq3 ▸ Er.drew
      have Adq3 := hWdq3 ▸ Ar.drew
      have bdq3 := hWdq3 ▸ br.drew
      refine wp_region_noPanic ?_
      refine wp_region_held_drew (S := fun w' => Blk w' rb 55 #[.int .i64 s.most, .int .i64 s.now, .slice (some ⟨p2, off2, none⟩) s.L.length c] ∧ RowG w' (some ⟨p2, off2, none⟩) c s.L ∧ Blk w' w.heap.size 26 q.v) (by kernel_rfl) (by rw [hWdq3]; exact ⟨Tdq3, Edq3, Adq3⟩) (fun hHeld => ?_)
      rw [hWdq3] at hHeld ⊢
      refine qtk (i := 0) (oi := { dst := some 15, op := Op.move (.tmp 0), type := 61, pos := "ref.go:136", after := #[], guard := none }) (v := (.pointer (some ⟨rb, 0, none⟩))) hHeld ?_ ?_
      · intro w9 hSw
        try dsimp only at hSw
        go_simp
      try simp only [qpu]
      refine qtk (i := 1) (oi := { dst := some 16, op := Op.nilCheck (.tmp 15), type := 0, pos := "ref.go:136", after := #[{ on := 0, ground := Ground.data }], guard := none }) (v := (.pointer (some ⟨rb, 0, none⟩))) hHeld ?_ ?_
      · intro w9 hSw
        try dsimp only at hSw
        go_simp
      try simp only [qpu]
      refine qtk (i := 2) (oi := { dst := some 17, op := Op.fieldAddr 55 (.tmp 16) 2, type := 0, pos := "ref.go:136", after := #[{ on := 1, ground := Ground.data }], guard := none }) (v := (.pointer (some ⟨rb, 2, none⟩))) hHeld ?_ ?_
      · intro w9 hSw
        try dsimp only at hSw
        go_simp
      try simp only [qpu]
      refine qtk (i := 3) (oi := { dst := some 18, op := Op.load 53 (.tmp 17), type := 53, pos := "ref.go:136", after := #[{ on := 2, ground := Ground.data }], guard := none }) (v := (.slice (some ⟨p2, off2, none⟩) s.L.length c)) hHeld ?_ ?_
      · intro w9 hSw
        try dsimp only at hSw
        have hcc := hSw.1.cell 2 (.slice (some ⟨p2, off2, none⟩) s.L.length c) rfl
        go_simp
      try simp only [qpu]
      refine qtk (i := 4) (oi := { dst := some 19, op := Op.move (.tmp 5), type := 3, pos := "ref.go:136", after := #[], guard := none }) (v := (.int .i64 (k : Int))) hHeld ?_ ?_
      · intro w9 hSw
        try dsimp only at hSw
        go_simp
      try simp only [qpu]
      refine qtk (i := 5) (oi := { dst := some 20, op := Op.indexAddr 53 (.tmp 18) (.tmp 19), type := 0, pos := "ref.go:136", after := #[{ on := 3, ground := Ground.data }, { on := 4, ground := Ground.data }], guard := none }) (v := (.pointer (some ⟨p2, off2 + k * 22, none⟩))) hHeld ?_ ?_
      · intro w9 hSw
        try dsimp only at hSw
        go_simp
      try simp only [qpu]
      refine qtk (i := 6) (oi := { dst := some 21, op := Op.fieldAddr 33 (.tmp 20) 0, type := 0, pos := "ref.go:136", after := #[{ on := 5, ground := Ground.data }], guard := none }) (v := (.pointer (some ⟨p2, off2 + k * 22, none⟩))) hHeld ?_ ?_
      · intro w9 hSw
        try dsimp only at hSw
        go_simp
      try simp only [qpu]
      refine qty (i := 7) (oi := { dst := some 22, op := Op.load 26 (.tmp 21), type := 26, pos := "ref.go:136", after := #[{ on := 6, ground := Ground.data }], guard := none }) (v := (.agg x.w.v)) (yieldsIf_at (by kernel_rfl) _ _ rfl p2 (off2 + k * 22) (by rfl) _ (fun _ hSw => cells_pre ((hSw.2.1).at_ HX.out)) Try.underlying26 (by kernel_rfl)) hHeld ?_
      try simp only [qpu]
      refine qty (i := 8) (oi := { dst := some 23, op := Op.load 26 (.tmp 3), type := 26, pos := "ref.go:136", after := #[], guard := none }) (v := (.agg q.v)) (yieldsIf_blk_w (by kernel_rfl) _ _ rfl w.heap.size (by rfl) _ (fun _ hSw => hSw.2.2) Try.underlying26 (by kernel_rfl)) hHeld ?_
      try simp only [qpu]
      refine qtk (i := 9) (oi := { dst := some 24, op := Op.binOp BinOp.eql 26 (.tmp 22) (.tmp 23) 26, type := 4, pos := "ref.go:136", after := #[{ on := 7, ground := Ground.data }, { on := 8, ground := Ground.data }], guard := none }) (v := (.bool (Wy.eqB x.w q))) hHeld ?_ ?_
      · intro w9 hSw
        try dsimp only at hSw
        have hcc := eql_way x.w q
        go_simp
      try simp only [qpu]
      refine wpAnyH_done (by kernel_rfl) ?_ _
      refine NoPanic.normal ?_
      cases hq4 : (Wy.eqB x.w q) with
      | false =>
        go_wp2_with fail
        refine ⟨⟨k + 1, by omega, by go_num, fun j f hj hf => ?_, Tdq3, Edq3, Adq3, bdq3⟩, by simp [intOf]; omega⟩
        rcases Nat.lt_succ_iff_lt_or_eq.1 hj with h | rfl
        · exact HB.out j f h hf
        · rw [HX.out] at hf
          cases hf
          assumption

      | true =>
        go_wp2_with fail
        go_ret
        exact ⟨retN_fw (by rw [← HR.out]; exact (plc_at HX.out (by assumption) HB.out).symm), bdq3⟩


    · have ik : ¬ (k : Int) < (s.L.length : Int) := by omega
      have ik' : decide ((k : Int) < (s.L.length : Int)) = false := by simpa using ik
      have c5 := Tr.cell 2 (.slice a s.L.length c) rfl
      go_wp2_with fail
      go_ret
      exact ⟨retN_fw (by rw [← HR.out]; exact (plc_none fun j f hj hf => HB.out j f (by omega) hf).symm), br⟩
set_option maxRecDepth 100000 in
set_option maxHeartbeats 4000000 in
theorem rfind1_fy (rb : Nat) (s : Ft) (a : Option Addr) (c : Nat) (q : Wy) (k : Nat) (x : Fl) (w : World) (hll : s.L.length ≤ 100000) (T : Blk w rb 55 (docV s a c)) (E : RowG w a c s.L) (hp : plc q s.L = (k : Int)) (hx : s.L[k]? = some x) (ha : atF q s.L = some x) :
    Calls Try.prog 50 #[.pointer (some ⟨rb, 0, none⟩), .agg q.v] w fun e w' => e = .returned (.tuple #[.agg (s.find q).1.v, .int .i64 (s.find q).2.1, .bool (s.find q).2.2]) ∧ Below w.heap.size w w' := by
  have ik0 : (0 : Int) ≤ (k : Int) := by omega
  have ik0' : decide ((0 : Int) ≤ (k : Int)) = true := by simp
  have HX : Hid (s.L[k]? = some x) := hx
  have ikn : k < s.L.length := (List.getElem?_eq_some_iff.1 hx).1
  have ikl : (k : Int) < (s.L.length : Int) := by omega
  obtain ⟨p2, off2, rfl, hcells⟩ := E.row.cells k x hx
  clear hx hcells
  obtain ⟨R, hR⟩ : ∃ R, s.find q = R := ⟨_, rfl⟩
  have HR : Hid (s.find q = R) := hR
  try rw [hR]
  clear hR
  have b := Below.refl w.heap.size w
  go_enter Try.func50, Try.ntmps50
  obtain ⟨Wm1, hWm1⟩ : ∃ W, w.alloc (.cells q.v 26) = W := ⟨_, rfl⟩
  have bm1 := bel_al b hWm1
  have Tm1 := T.al hWm1
  have Em1 := E.al hWm1
  have Am1 := blk_nw hWm1
  have gA : w.heap.size ≤ w.heap.size := b.size
  have nTA : rb ≠ w.heap.size := by have := T.lt; omega
  have nAT : w.heap.size ≠ rb := fun e => nTA e.symm
  have nEA : ∀ y : Addr, (some ⟨p2, off2, none⟩) = some y → y.block ≠ w.heap.size := fun y hy => by have := E.lt y hy; omega
  obtain ⟨Wm2, hWm2⟩ : ∃ W, Wm1.alloc (.cells #[.int .i64 0, .int .i64 0, .int .i64 0, .int .u64 0, .int .u64 0, .int .i64 0, .int .u64 0, .int .u64 0, .int .i64 0, .int .i64 0, .int .i64 0, .int .u32 0, .int .u32 0, .int .u32 0, .int .u32 0, .bool false, .bool false, .bool false, .bool false, .int .i64 0, .int .i64 0, .bool false] 33) = W := ⟨_, rfl⟩
  have bm2 := bel_al bm1 hWm2
  have Tm2 := Tm1.al hWm2
  have Em2 := Em1.al hWm2
  have Am2 := Am1.al hWm2
  have Bm2 := blk_nw hWm2
  have gB : w.heap.size ≤ Wm1.heap.size := bm1.size
  have nTB : rb ≠ Wm1.heap.size := by have := Tm1.lt; omega
  have nBT : Wm1.heap.size ≠ rb := fun e => nTB e.symm
  have nEB : ∀ y : Addr, (some ⟨p2, off2, none⟩) = some y → y.block ≠ Wm1.heap.size := fun y hy => by have := Em1.lt y hy; omega
  have nAB : w.heap.size ≠ Wm1.heap.size := by have := Am1.lt; omega
  have nBA : Wm1.heap.size ≠ w.heap.size := fun e => nAB e.symm
  go_wp2_with (refine wpList_load_blk_w (by rfl) _ _ rfl w.heap.size (by rfl) _ Am2 Try.underlying26 (by kernel_rfl) ?_)
  refine Calls.mono (rplace_fy rb s (some ⟨p2, off2, none⟩) c q _ hll Tm2 Em2) ?_
  rintro e Wm3 ⟨rfl, bb⟩
  have Tm3 := Tm2.kept bb
  have Em3 := Em2.kept bb
  have Am3 := Am2.kept bb
  have Bm3 := Bm2.kept bb
  have bm3 := bel_tr bm2 bb
  clear bb
  rw [hp]
  clear Tm2 Em2 Am2 Bm2 bm2
  have c4 := Tm3.cell 2 (.slice (some ⟨p2, off2, none⟩) s.L.length c) rfl
  have hcb := Em3.at_ HX.out
  obtain ⟨Wm5, hWm5⟩ : ∃ W, Wm3.setRow Wm1.heap.size x.v = W := ⟨_, rfl⟩
  have Bm5 : Blk Wm5 Wm1.heap.size 33 x.v := hWm5 ▸ Bm3.set x.v
  have Tm5 := hWm5 ▸ Tm3.other nTB x.v
  have Em5 := hWm5 ▸ Em3.other nEB x.v
  have Am5 := hWm5 ▸ Am3.other nAB x.v
  have bm5 := hWm5 ▸ below_setRow bm3 gB x.v
  go_wp2_with (first | (refine wpList_load_at_w (by rfl) _ _ rfl p2 (off2 + k * 22) (by rfl) _ hcb Try.underlying33 (by kernel_rfl) ?_) | (refine wpList_store_row rfl _ _ _ rfl Wm1.heap.size x.v (by rfl) (by rfl) _ _ Bm3 (by kernel_rfl) (by rfl) (by kernel_rfl) ?_; rw [hWm5]))
  have hR2 : R = ((x : Fl), (0 : Int), (true : Bool)) := by (try rw [← HR.out]) <;> first | rfl | (simp [Ft.find]; done) | (simp [Ft.find]; rfl) | (unfold Ft.find; rw [ha])
  subst hR2
  exact ret_cell_tmp2 (k := 4) (j := 5) (i := 6) Try.f50 (by kernel_rfl) Bm5 Try.underlying33 (by kernel_rfl) (by rfl) (by rfl) (by rfl) rfl ⟨rfl, bm5⟩
set_option maxRecDepth 100000 in
set_option maxHeartbeats 4000000 in
theorem rfind2_fy (rb : Nat) (s : Ft) (a : Option Addr) (c : Nat) (q : Wy) (k : Nat) (x : Fl) (w : World) (hll : s.L.length ≤ 100000) (T : Blk w rb 55 (docV s a c)) (E : RowG w a c s.L) (hq : plc q s.L = -1) (hp : plc q.rev s.L = (k : Int)) (hx : s.L[k]? = some x) (ha : atF q s.L = none) (ha2 : atF q.rev s.L = some x) :
    Calls Try.prog 50 #[.pointer (some ⟨rb, 0, none⟩), .agg q.v] w fun e w' => e = .returned (.tuple #[.agg (s.find q).1.v, .int .i64 (s.find q).2.1, .bool (s.find q).2.2]) ∧ Below w.heap.size w w' := by
  have ik0 : (0 : Int) ≤ (k : Int) := by omega
  have ik0' : decide ((0 : Int) ≤ (k : Int)) = true := by simp
  have HX : Hid (s.L[k]? = some x) := hx
  have ikn : k < s.L.length := (List.getElem?_eq_some_iff.1 hx).1
  have ikl : (k : Int) < (s.L.length : Int) := by omega
  obtain ⟨p2, off2, rfl, hcells⟩ := E.row.cells k x hx
  clear hx hcells
  obtain ⟨R, hR⟩ : ∃ R, s.find q = R := ⟨_, rfl⟩
  have HR : Hid (s.find q = R) := hR
  try rw [hR]
  clear hR
  have b := Below.refl w.heap.size w
  go_enter Try.func50, Try.ntmps50
  obtain ⟨Wm1, hWm1⟩ : ∃ W, w.alloc (.cells q.v 26) = W := ⟨_, rfl⟩
  have bm1 := bel_al b hWm1
  have Tm1 := T.al hWm1
  have Em1 := E.al hWm1
  have Am1 := blk_nw hWm1
  have gA : w.heap.size ≤ w.heap.size := b.size
  have nTA : rb ≠ w.heap.size := by have := T.lt; omega
  have nAT : w.heap.size ≠ rb := fun e => nTA e.symm
  have nEA : ∀ y : Addr, (some ⟨p2, off2, none⟩) = some y → y.block ≠ w.heap.size := fun y hy => by have := E.lt y hy; omega
  obtain ⟨Wm2, hWm2⟩ : ∃ W, Wm1.alloc (.cells #[.int .i64 0, .int .i64 0, .int .i64 0, .int .u64 0, .int .u64 0, .int .i64 0, .int .u64 0, .int .u64 0, .int .i64 0, .int .i64 0, .int .i64 0, .int .u32 0, .int .u32 0, .int .u32 0, .int .u32 0, .bool false, .bool false, .bool false, .bool false, .int .i64 0, .int .i64 0, .bool false] 33) = W := ⟨_, rfl⟩
  have bm2 := bel_al bm1 hWm2
  have Tm2 := Tm1.al hWm2
  have Em2 := Em1.al hWm2
  have Am2 := Am1.al hWm2
  have Bm2 := blk_nw hWm2
  have gB : w.heap.size ≤ Wm1.heap.size := bm1.size
  have nTB : rb ≠ Wm1.heap.size := by have := Tm1.lt; omega
  have nBT : Wm1.heap.size ≠ rb := fun e => nTB e.symm
  have nEB : ∀ y : Addr, (some ⟨p2, off2, none⟩) = some y → y.block ≠ Wm1.heap.size := fun y hy => by have := Em1.lt y hy; omega
  have nAB : w.heap.size ≠ Wm1.heap.size := by have := Am1.lt; omega
  have nBA : Wm1.heap.size ≠ w.heap.size := fun e => nAB e.symm
  go_wp2_with (refine wpList_load_blk_w (by rfl) _ _ rfl w.heap.size (by rfl) _ Am2 Try.underlying26 (by kernel_rfl) ?_)
  refine Calls.mono (rplace_fy rb s (some ⟨p2, off2, none⟩) c q _ hll Tm2 Em2) ?_
  rintro e Wm3 ⟨rfl, bb⟩
  have Tm3 := Tm2.kept bb
  have Em3 := Em2.kept bb
  have Am3 := Am2.kept bb
  have Bm3 := Bm2.kept bb
  have bm3 := bel_tr bm2 bb
  clear bb
  rw [hq]
  clear Tm2 Em2 Am2 Bm2 bm2
  go_wp2_with (refine wpList_load_blk_w (by rfl) _ _ rfl w.heap.size (by rfl) _ Am3 Try.underlying26 (by kernel_rfl) ?_)
  refine Calls.mono (rrev_t q _) ?_
  rintro e Wm4 ⟨rfl, bb⟩
  have Tm4 := Tm3.kept bb
  have Em4 := Em3.kept bb
  have Am4 := Am3.kept bb
  have Bm4 := Bm3.kept bb
  have bm4 := bel_tr bm3 bb
  clear bb
  clear Tm3 Em3 Am3 Bm3 bm3
  go_wp2_with fail
  refine Calls.mono (rplace_fy rb s (some ⟨p2, off2, none⟩) c (q.rev) _ hll Tm4 Em4) ?_
  rintro e Wm5 ⟨rfl, bb⟩
  have Tm5 := Tm4.kept bb
  have Em5 := Em4.kept bb
  have Am5 := Am4.kept bb
  have Bm5 := Bm4.kept bb
  have bm5 := bel_tr bm4 bb
  clear bb
  rw [hp]
  clear Tm4 Em4 Am4 Bm4 bm4
  have c6 := Tm5.cell 2 (.slice (some ⟨p2, off2, none⟩) s.L.length c) rfl
  have hcb := Em5.at_ HX.out
  obtain ⟨Wm7, hWm7⟩ : ∃ W, Wm5.setRow Wm1.heap.size x.v = W := ⟨_, rfl⟩
  have Bm7 : Blk Wm7 Wm1.heap.size 33 x.v := hWm7 ▸ Bm5.set x.v
  have Tm7 := hWm7 ▸ Tm5.other nTB x.v
  have Em7 := hWm7 ▸ Em5.other nEB x.v
  have Am7 := hWm7 ▸ Am5.other nAB x.v
  have bm7 := hWm7 ▸ below_setRow bm5 gB x.v
  go_wp2_with (first | (refine wpList_load_at_w (by rfl) _ _ rfl p2 (off2 + k * 22) (by rfl) _ hcb Try.underlying33 (by kernel_rfl) ?_) | (refine wpList_store_row rfl _ _ _ rfl Wm1.heap.size x.v (by rfl) (by rfl) _ _ Bm5 (by kernel_rfl) (by rfl) (by kernel_rfl) ?_; rw [hWm7]))
  have hR2 : R = ((x : Fl), (1 : Int), (true : Bool)) := by (try rw [← HR.out]) <;> first | rfl | (simp [Ft.find]; done) | (simp [Ft.find]; rfl) | (simp only [Ft.find, ha, ha2])
  subst hR2
  exact ret_cell_tmp2 (k := 4) (j := 5) (i := 6) Try.f50 (by kernel_rfl) Bm7 Try.underlying33 (by kernel_rfl) (by rfl) (by rfl) (by rfl) rfl ⟨rfl, bm7⟩
set_option maxRecDepth 100000 in
set_option maxHeartbeats 4000000 in
theorem rfind3_fy (rb : Nat) (s : Ft) (a : Option Addr) (c : Nat) (q : Wy) (w : World) (hll : s.L.length ≤ 100000) (T : Blk w rb 55 (docV s a c)) (E : RowG w a c s.L) (hq : plc q s.L = -1) (hr : plc q.rev s.L = -1) (ha : atF q s.L = none) (ha2 : atF q.rev s.L = none) :
    Calls Try.prog 50 #[.pointer (some ⟨rb, 0, none⟩), .agg q.v] w fun e w' => e = .returned (.tuple #[.agg (s.find q).1.v, .int .i64 (s.find q).2.1, .bool (s.find q).2.2]) ∧ Below w.heap.size w w' := by
  obtain ⟨R, hR⟩ : ∃ R, s.find q = R := ⟨_, rfl⟩
  have HR : Hid (s.find q = R) := hR
  try rw [hR]
  clear hR
  have b := Below.refl w.heap.size w
  go_enter Try.func50, Try.ntmps50
  obtain ⟨Wm1, hWm1⟩ : ∃ W, w.alloc (.cells q.v 26) = W := ⟨_, rfl⟩
  have bm1 := bel_al b hWm1
  have Tm1 := T.al hWm1
  have Em1 := E.al hWm1
  have Am1 := blk_nw hWm1
  have gA : w.heap.size ≤ w.heap.size := b.size
  have nTA : rb ≠ w.heap.size := by have := T.lt; omega
  have nAT : w.heap.size ≠ rb := fun e => nTA e.symm
  have nEA : ∀ y : Addr, a = some y → y.block ≠ w.heap.size := fun y hy => by have := E.lt y hy; omega
  obtain ⟨Wm2, hWm2⟩ : ∃ W, Wm1.alloc (.cells #[.int .i64 0, .int .i64 0, .int .i64 0, .int .u64 0, .int .u64 0, .int .i64 0, .int .u64 0, .int .u64 0, .int .i64 0, .int .i64 0, .int .i64 0, .int .u32 0, .int .u32 0, .int .u32 0, .int .u32 0, .bool false, .bool false, .bool false, .bool false, .int .i64 0, .int .i64 0, .bool false] 33) = W := ⟨_, rfl⟩
  have bm2 := bel_al bm1 hWm2
  have Tm2 := Tm1.al hWm2
  have Em2 := Em1.al hWm2
  have Am2 := Am1.al hWm2
  have Bm2 := blk_nw hWm2
  have gB : w.heap.size ≤ Wm1.heap.size := bm1.size
  have nTB : rb ≠ Wm1.heap.size := by have := Tm1.lt; omega
  have nBT : Wm1.heap.size ≠ rb := fun e => nTB e.symm
  have nEB : ∀ y : Addr, a = some y → y.block ≠ Wm1.heap.size := fun y hy => by have := Em1.lt y hy; omega
  have nAB : w.heap.size ≠ Wm1.heap.size := by have := Am1.lt; omega
  have nBA : Wm1.heap.size ≠ w.heap.size := fun e => nAB e.symm
  go_wp2_with (refine wpList_load_blk_w (by rfl) _ _ rfl w.heap.size (by rfl) _ Am2 Try.underlying26 (by kernel_rfl) ?_)
  refine Calls.mono (rplace_fy rb s a c q _ hll Tm2 Em2) ?_
  rintro e Wm3 ⟨rfl, bb⟩
  have Tm3 := Tm2.kept bb
  have Em3 := Em2.kept bb
  have Am3 := Am2.kept bb
  have Bm3 := Bm2.kept bb
  have bm3 := bel_tr bm2 bb
  clear bb
  rw [hq]
  clear Tm2 Em2 Am2 Bm2 bm2
  go_wp2_with (refine wpList_load_blk_w (by rfl) _ _ rfl w.heap.size (by rfl) _ Am3 Try.underlying26 (by kernel_rfl) ?_)
  refine Calls.mono (rrev_t q _) ?_
  rintro e Wm4 ⟨rfl, bb⟩
  have Tm4 := Tm3.kept bb
  have Em4 := Em3.kept bb
  have Am4 := Am3.kept bb
  have Bm4 := Bm3.kept bb
  have bm4 := bel_tr bm3 bb
  clear bb
  clear Tm3 Em3 Am3 Bm3 bm3
  go_wp2_with fail
  refine Calls.mono (rplace_fy rb s a c (q.rev) _ hll Tm4 Em4) ?_
  rintro e Wm5 ⟨rfl, bb⟩
  have Tm5 := Tm4.kept bb
  have Em5 := Em4.kept bb
  have Am5 := Am4.kept bb
  have Bm5 := Bm4.kept bb
  have bm5 := bel_tr bm4 bb
  clear bb
  rw [hr]
  clear Tm4 Em4 Am4 Bm4 bm4
  obtain ⟨Wm6, hWm6⟩ : ∃ W, Wm5.setRow Wm1.heap.size fl0.v = W := ⟨_, rfl⟩
  have Bm6 : Blk Wm6 Wm1.heap.size 33 fl0.v := hWm6 ▸ Bm5.set fl0.v
  have Tm6 := hWm6 ▸ Tm5.other nTB fl0.v
  have Em6 := hWm6 ▸ Em5.other nEB fl0.v
  have Am6 := hWm6 ▸ Am5.other nAB fl0.v
  have bm6 := hWm6 ▸ below_setRow bm5 gB fl0.v
  go_wp2_with (refine wpList_store_row rfl _ _ _ rfl Wm1.heap.size fl0.v (by rfl) (by rfl) _ _ Bm5 (by kernel_rfl) (by rfl) (by kernel_rfl) ?_; rw [hWm6])
  have hR2 : R = ((fl0 : Fl), (0 : Int), (false : Bool)) := by (try rw [← HR.out]) <;> first | rfl | (simp [Ft.find]; done) | (simp [Ft.find]; rfl) | (simp only [Ft.find, ha, ha2])
  subst hR2
  exact ret_cell_tmp2 (k := 4) (j := 5) (i := 6) Try.f50 (by kernel_rfl) Bm6 Try.underlying33 (by kernel_rfl) (by rfl) (by rfl) (by rfl) rfl ⟨rfl, bm6⟩
theorem rfind_fy (rb : Nat) (s : Ft) (a : Option Addr) (c : Nat) (q : Wy) (w : World) (hll : s.L.length ≤ 100000) (H : DocF w rb s a c) :
    Calls Try.prog 50 #[.pointer (some ⟨rb, 0, none⟩), .agg q.v] w fun e w' => e = .returned (.tuple #[.agg (s.find q).1.v, .int .i64 (s.find q).2.1, .bool (s.find q).2.2]) ∧ Below w.heap.size w w' := by
  have T := H.tab
  have E := H.row
  rcases plc_atF (q := q) (L := s.L) with ⟨k, x, h1, h2, h3⟩ | ⟨h1, h2⟩
  · exact rfind1_fy rb s a c q k x w hll T E h1 h2 h3
  · rcases plc_atF (q := q.rev) (L := s.L) with ⟨k, x, h4, h5, h6⟩ | ⟨h4, h5⟩
    · exact rfind2_fy rb s a c q k x w hll T E h1 h4 h5 h2 h6
    · exact rfind3_fy rb s a c q w hll T E h1 h4 h2 h5
end Go.Proofs.Ytmjjdbkipagkbaa
