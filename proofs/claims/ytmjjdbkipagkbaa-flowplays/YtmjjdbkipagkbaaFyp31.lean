/- Texts joined: FwM -/
import Derived.Test.YtmjjdbkipagkbaaFyp6
import Derived.Test.YtmjjdbkipagkbaaFyp10
import Derived.Test.YtmjjdbkipagkbaaFyp30
namespace Go.Proofs.Ytmjjdbkipagkbaa
abbrev fyp31o0 : Oper := { dst := none, op := Op.store 33 (.tmp 9) (.tmp 34), type := 0, pos := "table.go:39", after := #[{ on := 10, ground := Ground.data }, { on := 8, ground := Ground.data }, { on := 5, ground := Ground.chain }, { on := 0, ground := Ground.phase }, { on := 1, ground := Ground.phase }, { on := 2, ground := Ground.phase }, { on := 3, ground := Ground.phase }, { on := 4, ground := Ground.phase }, { on := 5, ground := Ground.phase }, { on := 6, ground := Ground.phase }, { on := 7, ground := Ground.phase }, { on := 8, ground := Ground.phase }, { on := 9, ground := Ground.textOnly Departure.lateStores }, { on := 10, ground := Ground.phase }], guard := none }
abbrev fyp31o1 : Oper := { dst := some 10, op := Op.assign (.tmp 35), type := 4, pos := "table.go:39", after := #[{ on := 9, ground := Ground.data }, { on := 11, ground := Ground.chain }, { on := 0, ground := Ground.phase }, { on := 1, ground := Ground.phase }, { on := 2, ground := Ground.phase }, { on := 3, ground := Ground.phase }, { on := 4, ground := Ground.phase }, { on := 5, ground := Ground.phase }, { on := 6, ground := Ground.phase }, { on := 7, ground := Ground.phase }, { on := 8, ground := Ground.phase }, { on := 9, ground := Ground.phase }, { on := 10, ground := Ground.phase }, { on := 11, ground := Ground.phase }], guard := none }
abbrev fyp31o4 : Oper := { dst := some 32, op := Op.call { callee := Callee.value (.func 55), args := #[.tmp 31], argTypes := #[26] }, type := 26, pos := "table.go:39", after := #[{ on := 4, ground := Ground.data }], guard := none }
abbrev fyp31o5 : Oper := { dst := some 33, op := Op.lookup 75 (.tmp 30) (.tmp 32) true, type := 99, pos := "table.go:39", after := #[{ on := 3, ground := Ground.data }, { on := 5, ground := Ground.data }], guard := none }
abbrev fyp31o6 : Oper := { dst := some 35, op := Op.extract (.tmp 26) 1, type := 4, pos := "table.go:39", after := #[{ on := 7, ground := Ground.data }, { on := 11, ground := Ground.gcOnly Departure.lateStores }], guard := none }
abbrev fyp31o7 : Oper := { dst := some 26, op := Op.move (.tmp 33), type := 99, pos := "table.go:39", after := #[{ on := 6, ground := Ground.data }], guard := none }
abbrev fyp31o8 : Oper := { dst := some 34, op := Op.extract (.tmp 26) 0, type := 33, pos := "table.go:39", after := #[{ on := 7, ground := Ground.data }], guard := none }
abbrev fyp31o10 : Oper := { dst := some 9, op := Op.alloc 33, type := 0, pos := "table.go:39", after := #[], guard := none }
end Go.Proofs.Ytmjjdbkipagkbaa
namespace Go.Proofs.Ytmjjdbkipagkbaa
open Go.RowKit
set_option linter.unusedVariables false
set_option linter.unusedSimpArgs false
theorem find_a {s : Ft} {q : Wy} (h : (atF q s.L).isSome = true) : s.find q = ((atF q s.L).getD fl0, 0, true) := by
  obtain ⟨f, hf⟩ := Option.isSome_iff_exists.1 h
  unfold Ft.find
  rw [hf]
  rfl
theorem find_b {s : Ft} {q : Wy} (h : (atF q s.L).isSome = false) (h2 : (atF q.rev s.L).isSome = true) : s.find q = ((atF q.rev s.L).getD fl0, 1, true) := by
  obtain ⟨f, hf⟩ := Option.isSome_iff_exists.1 h2
  have h1 : atF q s.L = none := by simpa using h
  unfold Ft.find
  rw [h1, hf]
  rfl
theorem find_c {s : Ft} {q : Wy} (h : (atF q s.L).isSome = false) (h2 : (atF q.rev s.L).isSome = false) : s.find q = (fl0, 0, false) := by
  have h1 : atF q s.L = none := by simpa using h
  have h3 : atF q.rev s.L = none := by simpa using h2
  unfold Ft.find
  rw [h1, h3]
theorem look_at {w0 w : World} {tb mb : Nat} {s : Ft} {G : List (Lit × Fl)} (H : TabF w0 tb mb s G) (M : MapF w mb G) {q : Wy} (hq : q.kf) :
    (Instr.lookup 75 (.map (some mb)) (.agg q.v) true).run Try.prog w = .ok (.tuple #[.agg ((atF q s.L).getD fl0).v, .bool (atF q s.L).isSome]) w := by
  have h := look_F M hq
  rw [H.look hq] at h
  exact h
theorem len_at {w0 w : World} {tb mb : Nat} {s : Ft} {G : List (Lit × Fl)} (H : TabF w0 tb mb s G) (M : MapF w mb G) {ty : TypeId} : (Builtin.len_ #[75] ty #[.map (some mb)]).run Try.prog w = .ok (.int .i64 (s.L.length : Int)) w := by
  have h := len_F M ty
  rw [H.len] at h
  exact h
set_option maxRecDepth 100000 in
set_option maxHeartbeats 4000000 in
theorem made_at (tb mb : Nat) (s : Ft) (w : World) (T : Blk w tb 77 (tabV s mb)) :
    Calls Try.prog 51 #[.pointer (some ⟨tb, 0, none⟩)] w fun e w' => e = .returned (.bool true) ∧ Below w.heap.size w w' := by
  obtain ⟨R, hR⟩ : ∃ R, true = R := ⟨_, rfl⟩
  have HR : Hid (true = R) := hR
  rw [hR]
  clear hR
  have b := Below.refl w.heap.size w
  go_enter Try.func51, Try.ntmps51
  have c1 := T.cell 0 (.bool true) rfl
  go_wp2_with fail
  go_ret
  exact ⟨retB_fw (by (try rw [← HR.out]) <;> first | rfl | (simp []; done) | (simp []; rfl)), b⟩
set_option maxRecDepth 100000 in
set_option maxHeartbeats 8000000 in
theorem find_at_fw (tb mb : Nat) (s : Ft) (G : List (Lit × Fl)) (q : Wy) (w : World) {w0 : World} (H0 : TabF w0 tb mb s G) (nTM : tb ≠ mb) (T : Blk w tb 77 (tabV s mb)) (M : MapF w mb G) (hq : q.kf) :
    Calls Try.prog 26 #[.pointer (some ⟨tb, 0, none⟩), .agg q.v] w fun e w' => e = .returned (.tuple #[.agg (s.find q).1.v, .int .i64 (s.find q).2.1, .bool (s.find q).2.2]) ∧ Below w.heap.size w w' := by
  have H : Hid (TabF w0 tb mb s G) := H0
  clear H0
  have nMT : mb ≠ tb := fun e => nTM e.symm
  obtain ⟨R, hR⟩ : ∃ R, s.find q = R := ⟨_, rfl⟩
  have HR : Hid (s.find q = R) := hR
  rw [hR]
  clear hR
  have b := Below.refl w.heap.size w
  go_enter Try.func26, Try.ntmps26
  obtain ⟨Wm1, hWm1⟩ : ∃ W, w.alloc (.cells q.v 26) = W := ⟨_, rfl⟩
  have bm1 := bel_al b hWm1
  have Tm1 := T.al hWm1
  have Mm1 := M.al hWm1
  have Am1 := blk_nw hWm1
  have gA : w.heap.size ≤ w.heap.size := b.size
  have nTA : tb ≠ w.heap.size := by have := T.lt; omega
  have nAT : w.heap.size ≠ tb := fun e => nTA e.symm
  have nMA : mb ≠ w.heap.size := by have := M.lt; omega
  have nAM : w.heap.size ≠ mb := fun e => nMA e.symm
  obtain ⟨Wm2, hWm2⟩ : ∃ W, Wm1.alloc (.cells #[.int .i64 0, .int .i64 0, .int .i64 0, .int .u64 0, .int .u64 0, .int .i64 0, .int .u64 0, .int .u64 0, .int .i64 0, .int .i64 0, .int .i64 0, .int .u32 0, .int .u32 0, .int .u32 0, .int .u32 0, .bool false, .bool false, .bool false, .bool false, .int .i64 0, .int .i64 0, .bool false] 33) = W := ⟨_, rfl⟩
  have bm2 := bel_al bm1 hWm2
  have Tm2 := Tm1.al hWm2
  have Mm2 := Mm1.al hWm2
  have Am2 := Am1.al hWm2
  have Bm2 := blk_nw hWm2
  have gB : w.heap.size ≤ Wm1.heap.size := bm1.size
  have nTB : tb ≠ Wm1.heap.size := by have := Tm1.lt; omega
  have nBT : Wm1.heap.size ≠ tb := fun e => nTB e.symm
  have nMB : mb ≠ Wm1.heap.size := by have := Mm1.lt; omega
  have nBM : Wm1.heap.size ≠ mb := fun e => nMB e.symm
  have nAB : w.heap.size ≠ Wm1.heap.size := by have := Am1.lt; omega
  have nBA : Wm1.heap.size ≠ w.heap.size := fun e => nAB e.symm
  go_wp2_with fail
  refine Calls.mono (made_at tb mb s _ Tm2) ?_
  rintro e Wm3 ⟨rfl, bb⟩
  have Tm3 := Tm2.kept bb
  have Mm3 := Mm2.kept bb
  have Am3 := Am2.kept bb
  have Bm3 := Bm2.kept bb
  have bm3 := bel_tr bm2 bb
  clear bb
  clear Tm2 Mm2 Am2 Bm2 bm2
  go_wp2_with fail
  obtain ⟨Wdq4, hWdq4⟩ : ∃ W, Wm3.drew = W := ⟨_, rfl⟩
  have Tdq4 := hWdq4 ▸ Tm3.drew
  have Mdq4 := hWdq4 ▸ Mm3.drew
  have Adq4 := hWdq4 ▸ Am3.drew
  have Bdq4 := hWdq4 ▸ Bm3.drew
  have bdq4 := hWdq4 ▸ bm3.drew
  refine wp_region_noPanic ?_
  refine wp_region_held_drew (S := fun w' => Blk w' tb 77 (tabV s mb) ∧ MapF w' mb G ∧ Blk w' w.heap.size 26 q.v ∧ Blk w' Wm1.heap.size 33 #[.int .i64 0, .int .i64 0, .int .i64 0, .int .u64 0, .int .u64 0, .int .i64 0, .int .u64 0, .int .u64 0, .int .i64 0, .int .i64 0, .int .i64 0, .int .u32 0, .int .u32 0, .int .u32 0, .int .u32 0, .bool false, .bool false, .bool false, .bool false, .int .i64 0, .int .i64 0, .bool false]) (by kernel_rfl) (by rw [hWdq4]; exact ⟨Tdq4, Mdq4, Adq4, Bdq4⟩) (fun hHeld => ?_)
  rw [hWdq4] at hHeld ⊢
  refine qtk (i := 0) (oi := { dst := some 16, op := Op.move (.tmp 0), type := 50, pos := "table.go:36", after := #[], guard := none }) (v := (.pointer (some ⟨tb, 0, none⟩))) hHeld ?_ ?_
  · intro w9 hSw
    try dsimp only at hSw
    go_simp
  try simp only [qpu]
  refine qtk (i := 1) (oi := { dst := some 17, op := Op.nilCheck (.tmp 16), type := 0, pos := "table.go:36", after := #[{ on := 0, ground := Ground.data }], guard := none }) (v := (.pointer (some ⟨tb, 0, none⟩))) hHeld ?_ ?_
  · intro w9 hSw
    try dsimp only at hSw
    go_simp
  try simp only [qpu]
  refine qtk (i := 2) (oi := { dst := some 18, op := Op.fieldAddr 77 (.tmp 17) 3, type := 0, pos := "table.go:36", after := #[{ on := 1, ground := Ground.data }], guard := none }) (v := (.pointer (some ⟨tb, 3, none⟩))) hHeld ?_ ?_
  · intro w9 hSw
    try dsimp only at hSw
    go_simp
  try simp only [qpu]
  refine qtk (i := 3) (oi := { dst := some 19, op := Op.load 75 (.tmp 18), type := 75, pos := "table.go:36", after := #[{ on := 2, ground := Ground.data }], guard := none }) (v := (.map (some mb))) hHeld ?_ ?_
  · intro w9 hSw
    try dsimp only at hSw
    have hcc := hSw.1.cell 3 (.map (some mb)) rfl
    go_simp
  try simp only [qpu]
  refine qty (i := 4) (oi := { dst := some 20, op := Op.load 26 (.tmp 3), type := 26, pos := "table.go:36", after := #[], guard := none }) (v := (.agg q.v)) (yieldsIf_blk_w (by kernel_rfl) _ _ rfl w.heap.size (by rfl) _ (fun _ hSw => hSw.2.2.1) Try.underlying26 (by kernel_rfl)) hHeld ?_
  try simp only [qpu]
  refine qtk (i := 5) (oi := { dst := some 21, op := Op.lookup 75 (.tmp 19) (.tmp 20) true, type := 99, pos := "table.go:36", after := #[{ on := 3, ground := Ground.data }, { on := 4, ground := Ground.data }], guard := none }) (v := (.tuple #[.agg ((atF q s.L).getD fl0).v, .bool (atF q s.L).isSome])) hHeld ?_ ?_
  · intro w9 hSw
    try dsimp only at hSw
    have hcc := look_at H.out hSw.2.1 (by assumption)
    go_simp
  try simp only [qpu]
  refine qtk (i := 6) (oi := { dst := some 15, op := Op.move (.tmp 21), type := 99, pos := "table.go:36", after := #[{ on := 5, ground := Ground.data }], guard := none }) (v := (.tuple #[.agg ((atF q s.L).getD fl0).v, .bool (atF q s.L).isSome])) hHeld ?_ ?_
  · intro w9 hSw
    try dsimp only at hSw
    go_simp
  try simp only [qpu]
  refine qtk (i := 7) (oi := { dst := some 22, op := Op.extract (.tmp 15) 0, type := 33, pos := "table.go:36", after := #[{ on := 6, ground := Ground.data }], guard := none }) (v := (.agg ((atF q s.L).getD fl0).v)) hHeld ?_ ?_
  · intro w9 hSw
    try dsimp only at hSw
    go_simp
  try simp only [qpu]
  refine qtk (i := 8) (oi := { dst := some 23, op := Op.extract (.tmp 15) 1, type := 4, pos := "table.go:36", after := #[{ on := 6, ground := Ground.data }, { on := 10, ground := Ground.gcOnly Departure.lateStores }], guard := none }) (v := (.bool (atF q s.L).isSome)) hHeld ?_ ?_
  · intro w9 hSw
    try dsimp only at hSw
    go_simp
  try simp only [qpu]
  refine wpAnyH_ready (rs := [9]) (by kernel_rfl) (by simp) ?_
  refine AllReadyH.cons (o := { dst := some 7, op := Op.alloc 33, type := 0, pos := "table.go:36", after := #[], guard := none }) rfl (fun K hK => ?_) AllReadyH.nil
  go_simp
  obtain ⟨Wx1, hWx1⟩ : ∃ W, Wdq4.alloc (.cells #[.int .i64 0, .int .i64 0, .int .i64 0, .int .u64 0, .int .u64 0, .int .i64 0, .int .u64 0, .int .u64 0, .int .i64 0, .int .i64 0, .int .i64 0, .int .u32 0, .int .u32 0, .int .u32 0, .int .u32 0, .bool false, .bool false, .bool false, .bool false, .int .i64 0, .int .i64 0, .bool false] 33) = W := ⟨_, rfl⟩
  rw [hWx1]
  have Tx1 := Tdq4.al hWx1
  have Mx1 := Mdq4.al hWx1
  have Ax1 := Adq4.al hWx1
  have Bx1 := Bdq4.al hWx1
  have Yx1 := blk_nw hWx1
  have bx1 := bel_al bdq4 hWx1
  have gY : w.heap.size ≤ Wdq4.heap.size := bdq4.size
  have nTY : tb ≠ Wdq4.heap.size := by have := Tdq4.lt; omega
  have nMY : mb ≠ Wdq4.heap.size := by have := Mdq4.lt; omega
  have nAY : w.heap.size ≠ Wdq4.heap.size := by have := Adq4.lt; omega
  have nBY : Wm1.heap.size ≠ Wdq4.heap.size := by have := Bdq4.lt; omega
  refine hK.out _ _ (by exact ⟨Tx1, Mx1, Ax1, Bx1⟩) (fun hHeld => ?_)
  clear hK K
  try simp only [qpu]
  refine wpAnyH_ready (rs := [10]) (by kernel_rfl) (by simp) ?_
  refine AllReadyH.cons (o := { dst := none, op := Op.store 33 (.tmp 7) (.tmp 22), type := 0, pos := "table.go:36", after := #[{ on := 9, ground := Ground.data }, { on := 7, ground := Ground.data }, { on := 0, ground := Ground.phase }, { on := 1, ground := Ground.phase }, { on := 2, ground := Ground.phase }, { on := 3, ground := Ground.phase }, { on := 4, ground := Ground.phase }, { on := 5, ground := Ground.phase }, { on := 6, ground := Ground.phase }, { on := 7, ground := Ground.phase }, { on := 8, ground := Ground.textOnly Departure.lateStores }, { on := 9, ground := Ground.phase }], guard := none }) rfl (fun K hK => ?_) AllReadyH.nil
  refine step_store_blk rfl _ _ _ rfl Wdq4.heap.size ((atF q s.L).getD fl0).v _ (by rfl) (by rfl) Yx1 (by kernel_rfl) (by rfl) (by kernel_rfl) ?_
  obtain ⟨Wx2, hWx2⟩ : ∃ W, Wx1.setRow Wdq4.heap.size ((atF q s.L).getD fl0).v = W := ⟨_, rfl⟩
  rw [hWx2]
  have Tx2 := hWx2 ▸ Tx1.other nTY ((atF q s.L).getD fl0).v
  have Mx2 := hWx2 ▸ Mx1.other nMY ((atF q s.L).getD fl0).v
  have Ax2 := hWx2 ▸ Ax1.other nAY ((atF q s.L).getD fl0).v
  have Bx2 := hWx2 ▸ Bx1.other nBY ((atF q s.L).getD fl0).v
  have Yx2 : Blk Wx2 Wdq4.heap.size 33 ((atF q s.L).getD fl0).v := hWx2 ▸ Yx1.set ((atF q s.L).getD fl0).v
  have bx2 := hWx2 ▸ below_setRow bx1 gY ((atF q s.L).getD fl0).v
  refine hK.out _ _ (by exact ⟨Tx2, Mx2, Ax2, Bx2⟩) (fun hHeld => ?_)
  clear hK K
  try simp only [qpu]
  refine qtk (i := 11) (oi := { dst := some 8, op := Op.assign (.tmp 23), type := 4, pos := "table.go:36", after := #[{ on := 8, ground := Ground.data }, { on := 10, ground := Ground.chain }, { on := 0, ground := Ground.phase }, { on := 1, ground := Ground.phase }, { on := 2, ground := Ground.phase }, { on := 3, ground := Ground.phase }, { on := 4, ground := Ground.phase }, { on := 5, ground := Ground.phase }, { on := 6, ground := Ground.phase }, { on := 7, ground := Ground.phase }, { on := 8, ground := Ground.phase }, { on := 9, ground := Ground.phase }, { on := 10, ground := Ground.phase }], guard := none }) (v := (.bool (atF q s.L).isSome)) hHeld ?_ ?_
  · intro w9 hSw
    try dsimp only at hSw
    go_simp
  try simp only [qpu]
  refine wpAnyH_done (by kernel_rfl) ?_ _
  refine NoPanic.normal ?_
  have nYT : Wdq4.heap.size ≠ tb := fun e => nTY e.symm
  have nYM : Wdq4.heap.size ≠ mb := fun e => nMY e.symm
  have nYA : Wdq4.heap.size ≠ w.heap.size := fun e => nAY e.symm
  have nYB : Wdq4.heap.size ≠ Wm1.heap.size := fun e => nBY e.symm
  cases hq5 : (atF q s.L).isSome with
  | false =>
    go_wp2_with fail
    obtain ⟨Wdq6, hWdq6⟩ : ∃ W, Wx2.drew = W := ⟨_, rfl⟩
    have Tdq6 := hWdq6 ▸ Tx2.drew
    have Mdq6 := hWdq6 ▸ Mx2.drew
    have Adq6 := hWdq6 ▸ Ax2.drew
    have Bdq6 := hWdq6 ▸ Bx2.drew
    have Ydq6 := hWdq6 ▸ Yx2.drew
    have bdq6 := hWdq6 ▸ bx2.drew
    refine wp_region_noPanic ?_
    refine wp_region_held_drew (S := fun w' => Blk w' tb 77 (tabV s mb) ∧ MapF w' mb G ∧ Blk w' w.heap.size 26 q.v ∧ Blk w' Wm1.heap.size 33 #[.int .i64 0, .int .i64 0, .int .i64 0, .int .u64 0, .int .u64 0, .int .i64 0, .int .u64 0, .int .u64 0, .int .i64 0, .int .i64 0, .int .i64 0, .int .u32 0, .int .u32 0, .int .u32 0, .int .u32 0, .bool false, .bool false, .bool false, .bool false, .int .i64 0, .int .i64 0, .bool false] ∧ Blk w' Wdq4.heap.size 33 ((atF q s.L).getD fl0).v) (by kernel_rfl) (by rw [hWdq6]; exact ⟨Tdq6, Mdq6, Adq6, Bdq6, Ydq6⟩) (fun hHeld => ?_)
    rw [hWdq6] at hHeld ⊢
    refine qtk (i := 0) (oi := { dst := some 27, op := Op.move (.tmp 0), type := 50, pos := "table.go:39", after := #[], guard := none }) (v := (.pointer (some ⟨tb, 0, none⟩))) hHeld ?_ ?_
    · intro w9 hSw
      try dsimp only at hSw
      go_simp
    try simp only [qpu]
    refine qtk (i := 1) (oi := { dst := some 28, op := Op.nilCheck (.tmp 27), type := 0, pos := "table.go:39", after := #[{ on := 0, ground := Ground.data }], guard := none }) (v := (.pointer (some ⟨tb, 0, none⟩))) hHeld ?_ ?_
    · intro w9 hSw
      try dsimp only at hSw
      go_simp
    try simp only [qpu]
    refine qtk (i := 2) (oi := { dst := some 29, op := Op.fieldAddr 77 (.tmp 28) 3, type := 0, pos := "table.go:39", after := #[{ on := 1, ground := Ground.data }], guard := none }) (v := (.pointer (some ⟨tb, 3, none⟩))) hHeld ?_ ?_
    · intro w9 hSw
      try dsimp only at hSw
      go_simp
    try simp only [qpu]
    refine qtk (i := 3) (oi := { dst := some 30, op := Op.load 75 (.tmp 29), type := 75, pos := "table.go:39", after := #[{ on := 2, ground := Ground.data }], guard := none }) (v := (.map (some mb))) hHeld ?_ ?_
    · intro w9 hSw
      try dsimp only at hSw
      have hcc := hSw.1.cell 3 (.map (some mb)) rfl
      go_simp
    try simp only [qpu]
    refine qty (i := 4) (oi := { dst := some 31, op := Op.load 26 (.tmp 3), type := 26, pos := "table.go:39", after := #[], guard := none }) (v := (.agg q.v)) (yieldsIf_blk_w (by kernel_rfl) _ _ rfl w.heap.size (by rfl) _ (fun _ hSw => hSw.2.2.1) Try.underlying26 (by kernel_rfl)) hHeld ?_
    try simp only [qpu]
    refine wpAnyH_ready (rs := [5, 10]) (by kernel_rfl) (by simp) ?_
    refine AllReadyH.cons (o := fyp31o4) rfl (fun K hK => ?_) (AllReadyH.cons (o := fyp31o10) rfl (fun K hK => ?_) AllReadyH.nil)
    · go_simp
      refine Calls.mono (rev_t q _) ?_
      rintro e Wx7 ⟨rfl, bb⟩
      have Tx7 := Tdq6.kept bb
      have Mx7 := Mdq6.kept bb
      have Ax7 := Adq6.kept bb
      have Bx7 := Bdq6.kept bb
      have Yx7 := Ydq6.kept bb
      have bx7 := bel_tr bdq6 bb
      clear bb
      refine hK.out _ _ (by exact ⟨Tx7, Mx7, Ax7, Bx7, Yx7⟩) (fun hHeld => ?_)
      clear hK K
      try simp only [qpu]
      refine qtk (i := 6) (oi := fyp31o5) (v := (.tuple #[.agg ((atF q.rev s.L).getD fl0).v, .bool (atF q.rev s.L).isSome])) hHeld ?_ ?_
      · intro w9 hSw
        try dsimp only at hSw
        have hcc := look_at H.out hSw.2.1 (Wy.kf_rev (by assumption))
        go_simp
      try simp only [qpu]
      refine qtk (i := 7) (oi := fyp31o7) (v := (.tuple #[.agg ((atF q.rev s.L).getD fl0).v, .bool (atF q.rev s.L).isSome])) hHeld ?_ ?_
      · intro w9 hSw
        try dsimp only at hSw
        go_simp
      try simp only [qpu]
      refine qtk (i := 8) (oi := fyp31o8) (v := (.agg ((atF q.rev s.L).getD fl0).v)) hHeld ?_ ?_
      · intro w9 hSw
        try dsimp only at hSw
        go_simp
      try simp only [qpu]
      refine qtk (i := 9) (oi := fyp31o6) (v := (.bool (atF q.rev s.L).isSome)) hHeld ?_ ?_
      · intro w9 hSw
        try dsimp only at hSw
        go_simp
      try simp only [qpu]
      refine wpAnyH_ready (rs := [10]) (by kernel_rfl) (by simp) ?_
      refine AllReadyH.cons (o := fyp31o10) rfl (fun K hK => ?_) AllReadyH.nil
      go_simp
      obtain ⟨Wx1, hWx1⟩ : ∃ W, Wx7.alloc (.cells #[.int .i64 0, .int .i64 0, .int .i64 0, .int .u64 0, .int .u64 0, .int .i64 0, .int .u64 0, .int .u64 0, .int .i64 0, .int .i64 0, .int .i64 0, .int .u32 0, .int .u32 0, .int .u32 0, .int .u32 0, .bool false, .bool false, .bool false, .bool false, .int .i64 0, .int .i64 0, .bool false] 33) = W := ⟨_, rfl⟩
      rw [hWx1]
      have Tx1 := Tx7.al hWx1
      have Mx1 := Mx7.al hWx1
      have Ax1 := Ax7.al hWx1
      have Bx1 := Bx7.al hWx1
      have Yx1 := Yx7.al hWx1
      have Y1_x1 := blk_nw hWx1
      have bx1 := bel_al bx7 hWx1
      have gY1_ : w.heap.size ≤ Wx7.heap.size := bx7.size
      have nTY1_ : tb ≠ Wx7.heap.size := by have := Tx7.lt; omega
      have nMY1_ : mb ≠ Wx7.heap.size := by have := Mx7.lt; omega
      have nAY1_ : w.heap.size ≠ Wx7.heap.size := by have := Ax7.lt; omega
      have nBY1_ : Wm1.heap.size ≠ Wx7.heap.size := by have := Bx7.lt; omega
      have nYY1_ : Wdq4.heap.size ≠ Wx7.heap.size := by have := Yx7.lt; omega
      refine hK.out _ _ (by exact ⟨Tx1, Mx1, Ax1, Bx1, Yx1⟩) (fun hHeld => ?_)
      clear hK K
      try simp only [qpu]
      refine wpAnyH_ready (rs := [11]) (by kernel_rfl) (by simp) ?_
      refine AllReadyH.cons (o := fyp31o0) rfl (fun K hK => ?_) AllReadyH.nil
      refine step_store_blk rfl _ _ _ rfl Wx7.heap.size ((atF q.rev s.L).getD fl0).v _ (by rfl) (by rfl) Y1_x1 (by kernel_rfl) (by rfl) (by kernel_rfl) ?_
      obtain ⟨Wx2, hWx2⟩ : ∃ W, Wx1.setRow Wx7.heap.size ((atF q.rev s.L).getD fl0).v = W := ⟨_, rfl⟩
      rw [hWx2]
      have Tx2 := hWx2 ▸ Tx1.other nTY1_ ((atF q.rev s.L).getD fl0).v
      have Mx2 := hWx2 ▸ Mx1.other nMY1_ ((atF q.rev s.L).getD fl0).v
      have Ax2 := hWx2 ▸ Ax1.other nAY1_ ((atF q.rev s.L).getD fl0).v
      have Bx2 := hWx2 ▸ Bx1.other nBY1_ ((atF q.rev s.L).getD fl0).v
      have Yx2 := hWx2 ▸ Yx1.other nYY1_ ((atF q.rev s.L).getD fl0).v
      have Y1_x2 : Blk Wx2 Wx7.heap.size 33 ((atF q.rev s.L).getD fl0).v := hWx2 ▸ Y1_x1.set ((atF q.rev s.L).getD fl0).v
      have bx2 := hWx2 ▸ below_setRow bx1 gY1_ ((atF q.rev s.L).getD fl0).v
      refine hK.out _ _ (by exact ⟨Tx2, Mx2, Ax2, Bx2, Yx2⟩) (fun hHeld => ?_)
      clear hK K
      try simp only [qpu]
      refine qtk (i := 12) (oi := fyp31o1) (v := (.bool (atF q.rev s.L).isSome)) hHeld ?_ ?_
      · intro w9 hSw
        try dsimp only at hSw
        go_simp
      try simp only [qpu]
      refine wpAnyH_done (by kernel_rfl) ?_ _
      refine NoPanic.normal ?_
      have nY1_T : Wx7.heap.size ≠ tb := fun e => nTY1_ e.symm
      have nY1_M : Wx7.heap.size ≠ mb := fun e => nMY1_ e.symm
      have nY1_A : Wx7.heap.size ≠ w.heap.size := fun e => nAY1_ e.symm
      have nY1_B : Wx7.heap.size ≠ Wm1.heap.size := fun e => nBY1_ e.symm
      have nY1_Y : Wx7.heap.size ≠ Wdq4.heap.size := fun e => nYY1_ e.symm
      cases hq8 : (atF q.rev s.L).isSome with
      | false =>
        obtain ⟨Wm9, hWm9⟩ : ∃ W, Wx2.setRow Wm1.heap.size fl0.v = W := ⟨_, rfl⟩
        have Bm9 : Blk Wm9 Wm1.heap.size 33 fl0.v := hWm9 ▸ Bx2.set fl0.v
        have Tm9 := hWm9 ▸ Tx2.other nTB fl0.v
        have Mm9 := hWm9 ▸ Mx2.other nMB fl0.v
        have Am9 := hWm9 ▸ Ax2.other nAB fl0.v
        have Ym9 := hWm9 ▸ Yx2.other nYB fl0.v
        have Y1_m9 := hWm9 ▸ Y1_x2.other nY1_B fl0.v
        have bm9 := hWm9 ▸ below_setRow bx2 gB fl0.v
        go_wp2_with (refine wpList_store_row rfl _ _ _ rfl Wm1.heap.size fl0.v (by rfl) (by rfl) _ _ Bx2 (by kernel_rfl) (by rfl) (by kernel_rfl) ?_; rw [hWm9])
        have hR2 : R = ((fl0 : Fl), (0 : Int), (false : Bool)) := by (try rw [← HR.out]) <;> first | rfl | (simp [hq5, hq8]; done) | (simp [hq5, hq8]; rfl) | (exact find_a (by assumption)) | (exact find_b (by assumption) (by assumption)) | (exact find_c (by assumption) (by assumption))
        subst hR2
        exact ret_cell_tmp2 (k := 4) (j := 5) (i := 6) Try.f26 (by kernel_rfl) Bm9 Try.underlying33 (by kernel_rfl) (by rfl) (by rfl) (by rfl) rfl ⟨rfl, bm9⟩
      | true =>
        obtain ⟨Wm10, hWm10⟩ : ∃ W, Wx2.setRow Wm1.heap.size ((atF q.rev s.L).getD fl0).v = W := ⟨_, rfl⟩
        have Bm10 : Blk Wm10 Wm1.heap.size 33 ((atF q.rev s.L).getD fl0).v := hWm10 ▸ Bx2.set ((atF q.rev s.L).getD fl0).v
        have Tm10 := hWm10 ▸ Tx2.other nTB ((atF q.rev s.L).getD fl0).v
        have Mm10 := hWm10 ▸ Mx2.other nMB ((atF q.rev s.L).getD fl0).v
        have Am10 := hWm10 ▸ Ax2.other nAB ((atF q.rev s.L).getD fl0).v
        have Ym10 := hWm10 ▸ Yx2.other nYB ((atF q.rev s.L).getD fl0).v
        have Y1_m10 := hWm10 ▸ Y1_x2.other nY1_B ((atF q.rev s.L).getD fl0).v
        have bm10 := hWm10 ▸ below_setRow bx2 gB ((atF q.rev s.L).getD fl0).v
        go_wp2_with (first | (refine wpList_load_blk_w (by rfl) _ _ rfl Wx7.heap.size (by rfl) _ Y1_x2 Try.underlying33 (by kernel_rfl) ?_) | (refine wpList_store_row rfl _ _ _ rfl Wm1.heap.size ((atF q.rev s.L).getD fl0).v (by rfl) (by rfl) _ _ Bx2 (by kernel_rfl) (by rfl) (by kernel_rfl) ?_; rw [hWm10]))
        have hR2 : R = ((((atF q.rev s.L).getD fl0) : Fl), (1 : Int), (true : Bool)) := by (try rw [← HR.out]) <;> first | rfl | (simp [hq5, hq8]; done) | (simp [hq5, hq8]; rfl) | (exact find_a (by assumption)) | (exact find_b (by assumption) (by assumption)) | (exact find_c (by assumption) (by assumption))
        subst hR2
        exact ret_cell_tmp2 (k := 4) (j := 5) (i := 6) Try.f26 (by kernel_rfl) Bm10 Try.underlying33 (by kernel_rfl) (by rfl) (by rfl) (by rfl) rfl ⟨rfl, bm10⟩
    · go_simp
      obtain ⟨Wx3, hWx3⟩ : ∃ W, Wdq6.alloc (.cells #[.int .i64 0, .int .i64 0, .int .i64 0, .int .u64 0, .int .u64 0, .int .i64 0, .int .u64 0, .int .u64 0, .int .i64 0, .int .i64 0, .int .i64 0, .int .u32 0, .int .u32 0, .int .u32 0, .int .u32 0, .bool false, .bool false, .bool false, .bool false, .int .i64 0, .int .i64 0, .bool false] 33) = W := ⟨_, rfl⟩
      rw [hWx3]
      have Tx3 := Tdq6.al hWx3
      have Mx3 := Mdq6.al hWx3
      have Ax3 := Adq6.al hWx3
      have Bx3 := Bdq6.al hWx3
      have Yx3 := Ydq6.al hWx3
      have Y2_x3 := blk_nw hWx3
      have bx3 := bel_al bdq6 hWx3
      have gY2_ : w.heap.size ≤ Wdq6.heap.size := bdq6.size
      have nTY2_ : tb ≠ Wdq6.heap.size := by have := Tdq6.lt; omega
      have nMY2_ : mb ≠ Wdq6.heap.size := by have := Mdq6.lt; omega
      have nAY2_ : w.heap.size ≠ Wdq6.heap.size := by have := Adq6.lt; omega
      have nBY2_ : Wm1.heap.size ≠ Wdq6.heap.size := by have := Bdq6.lt; omega
      have nYY2_ : Wdq4.heap.size ≠ Wdq6.heap.size := by have := Ydq6.lt; omega
      refine hK.out _ _ (by exact ⟨Tx3, Mx3, Ax3, Bx3, Yx3⟩) (fun hHeld => ?_)
      clear hK K
      try simp only [qpu]
      refine wpAnyH_ready (rs := [5]) (by kernel_rfl) (by simp) ?_
      refine AllReadyH.cons (o := fyp31o4) rfl (fun K hK => ?_) AllReadyH.nil
      go_simp
      refine Calls.mono (rev_t q _) ?_
      rintro e Wx11 ⟨rfl, bb⟩
      have Tx11 := Tx3.kept bb
      have Mx11 := Mx3.kept bb
      have Ax11 := Ax3.kept bb
      have Bx11 := Bx3.kept bb
      have Yx11 := Yx3.kept bb
      have Y2_x11 := Y2_x3.kept bb
      have bx11 := bel_tr bx3 bb
      clear bb
      refine hK.out _ _ (by exact ⟨Tx11, Mx11, Ax11, Bx11, Yx11⟩) (fun hHeld => ?_)
      clear hK K
      try simp only [qpu]
      refine qtk (i := 6) (oi := fyp31o5) (v := (.tuple #[.agg ((atF q.rev s.L).getD fl0).v, .bool (atF q.rev s.L).isSome])) hHeld ?_ ?_
      · intro w9 hSw
        try dsimp only at hSw
        have hcc := look_at H.out hSw.2.1 (Wy.kf_rev (by assumption))
        go_simp
      try simp only [qpu]
      refine qtk (i := 7) (oi := fyp31o7) (v := (.tuple #[.agg ((atF q.rev s.L).getD fl0).v, .bool (atF q.rev s.L).isSome])) hHeld ?_ ?_
      · intro w9 hSw
        try dsimp only at hSw
        go_simp
      try simp only [qpu]
      refine qtk (i := 8) (oi := fyp31o8) (v := (.agg ((atF q.rev s.L).getD fl0).v)) hHeld ?_ ?_
      · intro w9 hSw
        try dsimp only at hSw
        go_simp
      try simp only [qpu]
      refine qtk (i := 9) (oi := fyp31o6) (v := (.bool (atF q.rev s.L).isSome)) hHeld ?_ ?_
      · intro w9 hSw
        try dsimp only at hSw
        go_simp
      try simp only [qpu]
      refine wpAnyH_ready (rs := [11]) (by kernel_rfl) (by simp) ?_
      refine AllReadyH.cons (o := fyp31o0) rfl (fun K hK => ?_) AllReadyH.nil
      refine step_store_blk rfl _ _ _ rfl Wdq6.heap.size ((atF q.rev s.L).getD fl0).v _ (by rfl) (by rfl) Y2_x11 (by kernel_rfl) (by rfl) (by kernel_rfl) ?_
      obtain ⟨Wx4, hWx4⟩ : ∃ W, Wx11.setRow Wdq6.heap.size ((atF q.rev s.L).getD fl0).v = W := ⟨_, rfl⟩
      rw [hWx4]
      have Tx4 := hWx4 ▸ Tx11.other nTY2_ ((atF q.rev s.L).getD fl0).v
      have Mx4 := hWx4 ▸ Mx11.other nMY2_ ((atF q.rev s.L).getD fl0).v
      have Ax4 := hWx4 ▸ Ax11.other nAY2_ ((atF q.rev s.L).getD fl0).v
      have Bx4 := hWx4 ▸ Bx11.other nBY2_ ((atF q.rev s.L).getD fl0).v
      have Yx4 := hWx4 ▸ Yx11.other nYY2_ ((atF q.rev s.L).getD fl0).v
      have Y2_x4 : Blk Wx4 Wdq6.heap.size 33 ((atF q.rev s.L).getD fl0).v := hWx4 ▸ Y2_x11.set ((atF q.rev s.L).getD fl0).v
      have bx4 := hWx4 ▸ below_setRow bx11 gY2_ ((atF q.rev s.L).getD fl0).v
      refine hK.out _ _ (by exact ⟨Tx4, Mx4, Ax4, Bx4, Yx4⟩) (fun hHeld => ?_)
      clear hK K
      try simp only [qpu]
      refine qtk (i := 12) (oi := fyp31o1) (v := (.bool (atF q.rev s.L).isSome)) hHeld ?_ ?_
      · intro w9 hSw
        try dsimp only at hSw
        go_simp
      try simp only [qpu]
      refine wpAnyH_done (by kernel_rfl) ?_ _
      refine NoPanic.normal ?_
      have nY2_T : Wdq6.heap.size ≠ tb := fun e => nTY2_ e.symm
      have nY2_M : Wdq6.heap.size ≠ mb := fun e => nMY2_ e.symm
      have nY2_A : Wdq6.heap.size ≠ w.heap.size := fun e => nAY2_ e.symm
      have nY2_B : Wdq6.heap.size ≠ Wm1.heap.size := fun e => nBY2_ e.symm
      have nY2_Y : Wdq6.heap.size ≠ Wdq4.heap.size := fun e => nYY2_ e.symm
      cases hq12 : (atF q.rev s.L).isSome with
      | false =>
        obtain ⟨Wm13, hWm13⟩ : ∃ W, Wx4.setRow Wm1.heap.size fl0.v = W := ⟨_, rfl⟩
        have Bm13 : Blk Wm13 Wm1.heap.size 33 fl0.v := hWm13 ▸ Bx4.set fl0.v
        have Tm13 := hWm13 ▸ Tx4.other nTB fl0.v
        have Mm13 := hWm13 ▸ Mx4.other nMB fl0.v
        have Am13 := hWm13 ▸ Ax4.other nAB fl0.v
        have Ym13 := hWm13 ▸ Yx4.other nYB fl0.v
        have Y2_m13 := hWm13 ▸ Y2_x4.other nY2_B fl0.v
        have bm13 := hWm13 ▸ below_setRow bx4 gB fl0.v
        go_wp2_with (refine wpList_store_row rfl _ _ _ rfl Wm1.heap.size fl0.v (by rfl) (by rfl) _ _ Bx4 (by kernel_rfl) (by rfl) (by kernel_rfl) ?_; rw [hWm13])
        have hR2 : R = ((fl0 : Fl), (0 : Int), (false : Bool)) := by (try rw [← HR.out]) <;> first | rfl | (simp [hq5, hq12]; done) | (simp [hq5, hq12]; rfl) | (exact find_a (by assumption)) | (exact find_b (by assumption) (by assumption)) | (exact find_c (by assumption) (by assumption))
        subst hR2
        exact ret_cell_tmp2 (k := 4) (j := 5) (i := 6) Try.f26 (by kernel_rfl) Bm13 Try.underlying33 (by kernel_rfl) (by rfl) (by rfl) (by rfl) rfl ⟨rfl, bm13⟩
      | true =>
        obtain ⟨Wm14, hWm14⟩ : ∃ W, Wx4.setRow Wm1.heap.size ((atF q.rev s.L).getD fl0).v = W := ⟨_, rfl⟩
        have Bm14 : Blk Wm14 Wm1.heap.size 33 ((atF q.rev s.L).getD fl0).v := hWm14 ▸ Bx4.set ((atF q.rev s.L).getD fl0).v
        have Tm14 := hWm14 ▸ Tx4.other nTB ((atF q.rev s.L).getD fl0).v
        have Mm14 := hWm14 ▸ Mx4.other nMB ((atF q.rev s.L).getD fl0).v
        have Am14 := hWm14 ▸ Ax4.other nAB ((atF q.rev s.L).getD fl0).v
        have Ym14 := hWm14 ▸ Yx4.other nYB ((atF q.rev s.L).getD fl0).v
        have Y2_m14 := hWm14 ▸ Y2_x4.other nY2_B ((atF q.rev s.L).getD fl0).v
        have bm14 := hWm14 ▸ below_setRow bx4 gB ((atF q.rev s.L).getD fl0).v
        go_wp2_with (first | (refine wpList_load_blk_w (by rfl) _ _ rfl Wdq6.heap.size (by rfl) _ Y2_x4 Try.underlying33 (by kernel_rfl) ?_) | (refine wpList_store_row rfl _ _ _ rfl Wm1.heap.size ((atF q.rev s.L).getD fl0).v (by rfl) (by rfl) _ _ Bx4 (by kernel_rfl) (by rfl) (by kernel_rfl) ?_; rw [hWm14]))
        have hR2 : R = ((((atF q.rev s.L).getD fl0) : Fl), (1 : Int), (true : Bool)) := by (try rw [← HR.out]) <;> first | rfl | (simp [hq5, hq12]; done) | (simp [hq5, hq12]; rfl) | (exact find_a (by assumption)) | (exact find_b (by assumption) (by assumption)) | (exact find_c (by assumption) (by assumption))
        subst hR2
        exact ret_cell_tmp2 (k := 4) (j := 5) (i := 6) Try.f26 (by kernel_rfl) Bm14 Try.underlying33 (by kernel_rfl) (by rfl) (by rfl) (by rfl) rfl ⟨rfl, bm14⟩

  | true =>
    obtain ⟨Wm15, hWm15⟩ : ∃ W, Wx2.setRow Wm1.heap.size ((atF q s.L).getD fl0).v = W := ⟨_, rfl⟩
    have Bm15 : Blk Wm15 Wm1.heap.size 33 ((atF q s.L).getD fl0).v := hWm15 ▸ Bx2.set ((atF q s.L).getD fl0).v
    have Tm15 := hWm15 ▸ Tx2.other nTB ((atF q s.L).getD fl0).v
    have Mm15 := hWm15 ▸ Mx2.other nMB ((atF q s.L).getD fl0).v
    have Am15 := hWm15 ▸ Ax2.other nAB ((atF q s.L).getD fl0).v
    have Ym15 := hWm15 ▸ Yx2.other nYB ((atF q s.L).getD fl0).v
    have bm15 := hWm15 ▸ below_setRow bx2 gB ((atF q s.L).getD fl0).v
    go_wp2_with (first | (refine wpList_load_blk_w (by rfl) _ _ rfl Wdq4.heap.size (by rfl) _ Yx2 Try.underlying33 (by kernel_rfl) ?_) | (refine wpList_store_row rfl _ _ _ rfl Wm1.heap.size ((atF q s.L).getD fl0).v (by rfl) (by rfl) _ _ Bx2 (by kernel_rfl) (by rfl) (by kernel_rfl) ?_; rw [hWm15]))
    have hR2 : R = ((((atF q s.L).getD fl0) : Fl), (0 : Int), (true : Bool)) := by (try rw [← HR.out]) <;> first | rfl | (simp [hq5]; done) | (simp [hq5]; rfl) | (exact find_a (by assumption)) | (exact find_b (by assumption) (by assumption)) | (exact find_c (by assumption) (by assumption))
    subst hR2
    exact ret_cell_tmp2 (k := 4) (j := 5) (i := 6) Try.f26 (by kernel_rfl) Bm15 Try.underlying33 (by kernel_rfl) (by rfl) (by rfl) (by rfl) rfl ⟨rfl, bm15⟩
set_option maxRecDepth 100000 in
set_option maxHeartbeats 4000000 in
theorem len_at_fw (tb mb : Nat) (s : Ft) (G : List (Lit × Fl)) (w : World) {w0 : World} (H0 : TabF w0 tb mb s G) (nTM : tb ≠ mb) (T : Blk w tb 77 (tabV s mb)) (M : MapF w mb G) :
    Calls Try.prog 20 #[.pointer (some ⟨tb, 0, none⟩)] w fun e w' => e = .returned (.int .i64 (s.L.length : Int)) ∧ Below w.heap.size w w' := by
  have H : Hid (TabF w0 tb mb s G) := H0
  clear H0
  obtain ⟨R, hR⟩ : ∃ R, (s.L.length : Int) = R := ⟨_, rfl⟩
  have HR : Hid ((s.L.length : Int) = R) := hR
  rw [hR]
  clear hR
  have b := Below.refl w.heap.size w
  go_enter Try.func20, Try.ntmps20
  go_wp2_with fail
  refine Calls.mono (made_at tb mb s _ T) ?_
  rintro e Wm1 ⟨rfl, bb⟩
  have Tm1 := T.kept bb
  have Mm1 := M.kept bb
  have bm1 := bel_tr b bb
  clear bb
  have c2 := Tm1.cell 3 (.map (some mb)) rfl
  have hL3 := len_at (ty := 3) H.out Mm1
  go_wp2_with fail
  go_ret
  exact ⟨retN_fw (by (try rw [← HR.out]) <;> first | rfl | (simp []; done) | (simp []; rfl)), bm1⟩
set_option maxRecDepth 100000 in
set_option maxHeartbeats 4000000 in
theorem now_at_fw (tb mb : Nat) (s : Ft) (G : List (Lit × Fl)) (w : World) {w0 : World} (H0 : TabF w0 tb mb s G) (nTM : tb ≠ mb) (T : Blk w tb 77 (tabV s mb)) (M : MapF w mb G) :
    Calls Try.prog 21 #[.pointer (some ⟨tb, 0, none⟩)] w fun e w' => e = .returned (.int .i64 s.now) ∧ Below w.heap.size w w' := by
  have H : Hid (TabF w0 tb mb s G) := H0
  clear H0
  obtain ⟨R, hR⟩ : ∃ R, s.now = R := ⟨_, rfl⟩
  have HR : Hid (s.now = R) := hR
  rw [hR]
  clear hR
  have b := Below.refl w.heap.size w
  go_enter Try.func21, Try.ntmps21
  go_wp2_with fail
  refine Calls.mono (made_at tb mb s _ T) ?_
  rintro e Wm1 ⟨rfl, bb⟩
  have Tm1 := T.kept bb
  have Mm1 := M.kept bb
  have bm1 := bel_tr b bb
  clear bb
  have c2 := Tm1.cell 2 (.int .i64 s.now) rfl
  go_wp2_with fail
  go_ret
  exact ⟨retN_fw (by (try rw [← HR.out]) <;> first | rfl | (simp []; done) | (simp []; rfl)), bm1⟩
end Go.Proofs.Ytmjjdbkipagkbaa
