/- Texts joined: FwN -/
import Derived.Test.YtmjjdbkipagkbaaFyp31
namespace Go.Proofs.Ytmjjdbkipagkbaa
abbrev fyp37o0 : Oper := { dst := none, op := Op.mapUpdate 75 (.tmp 56) (.tmp 58) (.tmp 59), type := 0, pos := "table.go:59", after := #[{ on := 3, ground := Ground.data }, { on := 5, ground := Ground.data }, { on := 6, ground := Ground.data }, { on := 0, ground := Ground.phase }, { on := 1, ground := Ground.phase }, { on := 2, ground := Ground.phase }, { on := 3, ground := Ground.phase }, { on := 4, ground := Ground.phase }, { on := 5, ground := Ground.phase }, { on := 6, ground := Ground.phase }], guard := none }
abbrev fyp37o1 : Oper := { dst := some 46, op := Op.call { callee := Callee.builtin Builtin.len, args := #[.tmp 45], argTypes := #[75] }, type := 3, pos := "table.go:56", after := #[{ on := 6, ground := Ground.data }, { on := 2, ground := Ground.chain }, { on := 2, ground := Ground.guard }], guard := some (2, true) }
abbrev fyp37o2 : Oper := { dst := some 30, op := Op.binOp BinOp.leq 3 (.tmp 25) (.tmp 29) 3, type := 4, pos := "table.go:52", after := #[{ on := 5, ground := Ground.data }, { on := 9, ground := Ground.data }, { on := 3, ground := Ground.guard }], guard := some (3, false) }
abbrev fyp37o3 : Oper := { dst := some 51, op := Op.binOp BinOp.geq 3 (.tmp 46) (.tmp 50) 3, type := 4, pos := "table.go:56", after := #[{ on := 7, ground := Ground.data }, { on := 11, ground := Ground.data }, { on := 2, ground := Ground.guard }], guard := some (2, true) }
abbrev fyp37o4 : Oper := { dst := some 45, op := Op.load 75 (.tmp 44), type := 75, pos := "table.go:56", after := #[{ on := 5, ground := Ground.data }, { on := 2, ground := Ground.guard }], guard := some (2, true) }
abbrev fyp37o5 : Oper := { dst := some 52, op := Op.pick (.tmp 41) (.tmp 51) (.const (.bool false)), type := 4, pos := "table.go:56", after := #[{ on := 2, ground := Ground.data }, { on := 12, ground := Ground.data }], guard := none }
abbrev fyp37o6 : Oper := { dst := some 31, op := Op.pick (.tmp 23) (.const (.bool true)) (.tmp 30), type := 4, pos := "table.go:52", after := #[{ on := 3, ground := Ground.data }, { on := 10, ground := Ground.data }], guard := none }
abbrev fyp37o7 : Oper := { dst := some 28, op := Op.fieldAddr 77 (.tmp 27) 2, type := 0, pos := "table.go:52", after := #[{ on := 7, ground := Ground.data }, { on := 3, ground := Ground.guard }], guard := some (3, false) }
abbrev fyp37o8 : Oper := { dst := some 44, op := Op.fieldAddr 77 (.tmp 43) 3, type := 0, pos := "table.go:56", after := #[{ on := 4, ground := Ground.data }, { on := 2, ground := Ground.guard }], guard := some (2, true) }
abbrev fyp37o9 : Oper := { dst := some 49, op := Op.fieldAddr 77 (.tmp 48) 1, type := 0, pos := "table.go:56", after := #[{ on := 9, ground := Ground.data }, { on := 2, ground := Ground.guard }], guard := some (2, true) }
abbrev fyp37o10 : Oper := { dst := some 25, op := Op.load 3 (.tmp 24), type := 3, pos := "table.go:52", after := #[{ on := 4, ground := Ground.data }, { on := 3, ground := Ground.guard }], guard := some (3, false) }
abbrev fyp37o11 : Oper := { dst := some 29, op := Op.load 3 (.tmp 28), type := 3, pos := "table.go:52", after := #[{ on := 8, ground := Ground.data }, { on := 3, ground := Ground.guard }], guard := some (3, false) }
abbrev fyp37o12 : Oper := { dst := some 50, op := Op.load 3 (.tmp 49), type := 3, pos := "table.go:56", after := #[{ on := 10, ground := Ground.data }, { on := 2, ground := Ground.guard }], guard := some (2, true) }
abbrev fyp37o13 : Oper := { dst := some 27, op := Op.nilCheck (.tmp 26), type := 0, pos := "table.go:52", after := #[{ on := 6, ground := Ground.data }, { on := 3, ground := Ground.guard }], guard := some (3, false) }
abbrev fyp37o14 : Oper := { dst := some 56, op := Op.load 75 (.tmp 55), type := 75, pos := "table.go:59", after := #[{ on := 2, ground := Ground.data }], guard := none }
abbrev fyp37o15 : Oper := { dst := some 43, op := Op.nilCheck (.tmp 42), type := 0, pos := "table.go:56", after := #[{ on := 3, ground := Ground.data }, { on := 2, ground := Ground.guard }], guard := some (2, true) }
abbrev fyp37o16 : Oper := { dst := some 48, op := Op.nilCheck (.tmp 47), type := 0, pos := "table.go:56", after := #[{ on := 8, ground := Ground.data }, { on := 2, ground := Ground.guard }], guard := some (2, true) }
abbrev fyp37o17 : Oper := { dst := some 19, op := Op.assign (.tmp 31), type := 4, pos := "table.go:52", after := #[{ on := 11, ground := Ground.data }, { on := 3, ground := Ground.chain }], guard := none }
abbrev fyp37o18 : Oper := { dst := some 38, op := Op.assign (.tmp 52), type := 4, pos := "table.go:56", after := #[{ on := 13, ground := Ground.data }, { on := 7, ground := Ground.chain }], guard := none }
abbrev fyp37o19 : Oper := { dst := some 24, op := Op.fieldAddr 33 (.tmp 3) 2, type := 0, pos := "table.go:52", after := #[{ on := 3, ground := Ground.guard }], guard := some (3, false) }
abbrev fyp37o20 : Oper := { dst := some 58, op := Op.load 26 (.tmp 57), type := 26, pos := "table.go:59", after := #[{ on := 4, ground := Ground.data }], guard := none }
abbrev fyp37o21 : Oper := { dst := some 26, op := Op.move (.tmp 0), type := 50, pos := "table.go:52", after := #[{ on := 3, ground := Ground.guard }], guard := some (3, false) }
abbrev fyp37o22 : Oper := { dst := some 40, op := Op.unOp UnOp.not 4 (.tmp 39), type := 4, pos := "table.go:56", after := #[{ on := 0, ground := Ground.data }], guard := none }
abbrev fyp37o23 : Oper := { dst := some 42, op := Op.move (.tmp 0), type := 50, pos := "table.go:56", after := #[{ on := 2, ground := Ground.guard }], guard := some (2, true) }
abbrev fyp37o24 : Oper := { dst := some 47, op := Op.move (.tmp 0), type := 50, pos := "table.go:56", after := #[{ on := 2, ground := Ground.guard }], guard := some (2, true) }
abbrev fyp37o25 : Oper := { dst := some 55, op := Op.fieldAddr 77 (.tmp 54) 3, type := 0, pos := "table.go:59", after := #[{ on := 1, ground := Ground.data }], guard := none }
abbrev fyp37o27 : Oper := { dst := some 41, op := Op.move (.tmp 40), type := 4, pos := "table.go:56", after := #[{ on := 1, ground := Ground.data }], guard := none }
abbrev fyp37o28 : Oper := { dst := some 54, op := Op.nilCheck (.tmp 53), type := 0, pos := "table.go:59", after := #[{ on := 0, ground := Ground.data }], guard := none }
abbrev fyp37o29 : Oper := { dst := some 59, op := Op.load 33 (.tmp 3), type := 33, pos := "table.go:59", after := #[], guard := none }
abbrev fyp37o30 : Oper := { dst := some 57, op := Op.fieldAddr 33 (.tmp 3) 0, type := 0, pos := "table.go:59", after := #[], guard := none }
abbrev fyp37o31 : Oper := { dst := some 53, op := Op.move (.tmp 0), type := 50, pos := "table.go:59", after := #[], guard := none }
abbrev fyp37o33 : Oper := { dst := some 39, op := Op.move (.tmp 7), type := 4, pos := "table.go:56", after := #[], guard := none }
end Go.Proofs.Ytmjjdbkipagkbaa
namespace Go.Proofs.Ytmjjdbkipagkbaa
open Go.RowKit
set_option linter.unusedVariables false
set_option linter.unusedSimpArgs false
theorem TabF.same {w w' : World} {tb mb : Nat} {s : Ft} {G : List (Lit × Fl)} (h : TabF w tb mb s G) (T : Blk w' tb 77 (tabV s mb)) (M : MapF w' mb G) : TabF w' tb mb s G := ⟨T, M, h.ne, h.ok, h.keys, h.key, h.perm⟩
theorem put_form (s : Ft) (f : Fl) : s.put f = if !f.right || decide (f.ends ≤ s.now) then (s, 1) else if (s.find f.w).2.2 && (s.find f.w).2.1 == 1 then (s, 15) else if !(s.find f.w).2.2 && decide (s.most ≤ s.L.length) then (s, 12) else ({ s with L := if (s.find f.w).2.2 then setF f s.L else insF f s.L }, 0) := by
  have e : (!f.right || decide (f.ends ≤ s.now)) = !(f.right && decide (s.now < f.ends)) := by
    rw [Bool.not_and]
    congr 1
    by_cases h : s.now < f.ends
    · simp [h]
    · simp [h]; omega
  rw [e]
  unfold Ft.put
  split
  · rfl
  · cases h1 : (atF f.w s.L).isSome
    · cases h2 : (atF f.w.rev s.L).isSome
      · rw [find_c h1 h2]
        simp
      · rw [find_b h1 h2]
        simp
    · rw [find_a h1]
      simp
theorem laid_perm {s : Ft} {f : Fl} (h : FtOk s) (hn : ((s.find f.w).2.2 && (s.find f.w).2.1 == 1) = false) : (if (s.find f.w).2.2 then setF f s.L else insF f s.L).Perm (f :: delF f.w s.L) := by
  cases h1 : (atF f.w s.L).isSome
  · cases h2 : (atF f.w.rev s.L).isSome
    · rw [find_c h1 h2]
      have h3 : atF f.w s.L = none := by simpa using h1
      rw [del_none h3]
      exact ins_permF f s.L
    · rw [find_b h1 h2] at hn
      simp at hn
  · rw [find_a h1]
    exact set_perm h.sorted h1
theorem drop_form (s : Ft) (q : Wy) : s.drop q = if (s.find q).2.2 then ({ s with L := delF (s.find q).1.w s.L }, true) else (s, false) := by
  unfold Ft.drop
  cases h1 : (atF q s.L).isSome
  · cases h2 : (atF q.rev s.L).isSome
    · rw [find_c h1 h2]; simp
    · rw [find_b h1 h2]
      obtain ⟨g, hg⟩ := Option.isSome_iff_exists.1 h2
      rw [hg]
      simp only [Option.getD_some, Bool.false_eq_true, if_false, if_true, (atF_some hg).2]
  · rw [find_a h1]
    obtain ⟨g, hg⟩ := Option.isSome_iff_exists.1 h1
    rw [hg]
    simp only [Option.getD_some, if_true, (atF_some hg).2]
theorem find_kf {s : Ft} (h : FtOk s) {q : Wy} (hf : (s.find q).2.2 = true) : (s.find q).1.w.kf := by
  cases h1 : (atF q s.L).isSome
  · cases h2 : (atF q.rev s.L).isSome
    · rw [find_c h1 h2] at hf; cases hf
    · rw [find_b h1 h2]
      obtain ⟨g, hg⟩ := Option.isSome_iff_exists.1 h2
      rw [hg]
      exact (h.each g (atF_some hg).1).2.2
  · rw [find_a h1]
    obtain ⟨g, hg⟩ := Option.isSome_iff_exists.1 h1
    rw [hg]
    exact (h.each g (atF_some hg).1).2.2
set_option maxRecDepth 100000 in
set_option maxHeartbeats 16000000 in
theorem put_at_fw (tb mb : Nat) (s : Ft) (G : List (Lit × Fl)) (f : Fl) (w : World) (H0 : TabF w tb mb s G) (hk0 : f.w.kf) :
    Calls Try.prog 25 #[.pointer (some ⟨tb, 0, none⟩), .agg f.v] w fun e w' => e = .returned (.int .i64 (s.put f).2) ∧ (∃ G', TabF w' tb mb (s.put f).1 G') ∧ But (fun k => k = tb ∨ k = mb) w w' := by
  have nTM : tb ≠ mb := H0.ne
  have T := H0.tab
  have M := H0.map
  have H : Hid (TabF w tb mb s G) := H0
  clear H0
  have gT : (fun k => k = tb ∨ k = mb) tb ∨ w.heap.size ≤ tb := .inl (.inl rfl)
  have nMT : mb ≠ tb := fun e => nTM e.symm
  have HK : Hid f.w.kf := hk0
  clear hk0
  obtain ⟨R, hR⟩ : ∃ R, s.put f = R := ⟨_, rfl⟩
  have HR : Hid (s.put f = R) := hR
  rw [hR]
  clear hR
  have b := But.refl (fun k => k = tb ∨ k = mb) w
  go_enter Try.func25, Try.ntmps25
  obtain ⟨Wm1, hWm1⟩ : ∃ W, w.alloc (.cells f.v 33) = W := ⟨_, rfl⟩
  have bm1 := but_al b hWm1
  have Tm1 := T.al hWm1
  have Mm1 := M.al hWm1
  have Am1 := blk_nw hWm1
  have gA : (fun k => k = tb ∨ k = mb) w.heap.size ∨ w.heap.size ≤ w.heap.size := .inr b.size
  have nTA : tb ≠ w.heap.size := by have := T.lt; omega
  have nAT : w.heap.size ≠ tb := fun e => nTA e.symm
  have nMA : mb ≠ w.heap.size := by have := M.lt; omega
  have nAM : w.heap.size ≠ mb := fun e => nMA e.symm
  go_wp2_with fail
  refine Calls.mono (made_at tb mb s _ Tm1) ?_
  rintro e Wm2 ⟨rfl, bb⟩
  have Tm2 := Tm1.kept bb
  have Mm2 := Mm1.kept bb
  have Am2 := Am1.kept bb
  have bm2 := bm1.below bb
  clear bb
  clear Tm1 Mm1 Am1 bm1
  go_wp2_with (refine wpList_load_sub_w (by rfl) _ _ rfl w.heap.size 0 _ (by rfl) _ f.w.v Am2 (by rfl) Try.underlying26 (by kernel_rfl) ?_)
  refine Calls.mono (find_at_fw tb mb s G f.w _ H.out nTM Tm2 Mm2 (HK.out)) ?_
  rintro e Wm3 ⟨rfl, bb⟩
  have Tm3 := Tm2.kept bb
  have Mm3 := Mm2.kept bb
  have Am3 := Am2.kept bb
  have bm3 := bm2.below bb
  clear bb
  clear Tm2 Mm2 Am2 bm2
  obtain ⟨Wm4, hWm4⟩ : ∃ W, Wm3.alloc (.cells #[.int .i64 0, .int .i64 0, .int .i64 0, .int .u64 0, .int .u64 0, .int .i64 0, .int .u64 0, .int .u64 0, .int .i64 0, .int .i64 0, .int .i64 0, .int .u32 0, .int .u32 0, .int .u32 0, .int .u32 0, .bool false, .bool false, .bool false, .bool false, .int .i64 0, .int .i64 0, .bool false] 33) = W := ⟨_, rfl⟩
  have bm4 := but_al bm3 hWm4
  have Tm4 := Tm3.al hWm4
  have Mm4 := Mm3.al hWm4
  have Am4 := Am3.al hWm4
  have Bm4 := blk_nw hWm4
  have gB : (fun k => k = tb ∨ k = mb) Wm3.heap.size ∨ w.heap.size ≤ Wm3.heap.size := .inr bm3.size
  have nTB : tb ≠ Wm3.heap.size := by have := Tm3.lt; omega
  have nBT : Wm3.heap.size ≠ tb := fun e => nTB e.symm
  have nMB : mb ≠ Wm3.heap.size := by have := Mm3.lt; omega
  have nBM : Wm3.heap.size ≠ mb := fun e => nMB e.symm
  have nAB : w.heap.size ≠ Wm3.heap.size := by have := Am3.lt; omega
  have nBA : Wm3.heap.size ≠ w.heap.size := fun e => nAB e.symm
  obtain ⟨Wm5, hWm5⟩ : ∃ W, Wm4.setRow Wm3.heap.size (Ft.find s f.w).1.v = W := ⟨_, rfl⟩
  have Bm5 : Blk Wm5 Wm3.heap.size 33 (Ft.find s f.w).1.v := hWm5 ▸ Bm4.set (Ft.find s f.w).1.v
  have Tm5 := hWm5 ▸ Tm4.other nTB (Ft.find s f.w).1.v
  have Mm5 := hWm5 ▸ Mm4.other nMB (Ft.find s f.w).1.v
  have Am5 := hWm5 ▸ Am4.other nAB (Ft.find s f.w).1.v
  have bm5 := hWm5 ▸ but_setRow bm4 gB (Ft.find s f.w).1.v
  go_wp2_with (refine wpList_store_row rfl _ _ _ rfl Wm3.heap.size (Ft.find s f.w).1.v (by rfl) (by rfl) _ _ Bm4 (by kernel_rfl) (by rfl) (by kernel_rfl) ?_; rw [hWm5])
  obtain ⟨Wdq6, hWdq6⟩ : ∃ W, Wm5.drew = W := ⟨_, rfl⟩
  have Tdq6 := hWdq6 ▸ Tm5.drew
  have Mdq6 := hWdq6 ▸ Mm5.drew
  have Adq6 := hWdq6 ▸ Am5.drew
  have Bdq6 := hWdq6 ▸ Bm5.drew
  have bdq6 := hWdq6 ▸ bm5.drew
  refine wp_region_noPanic ?_
  refine wp_region_held_drew (S := fun w' => Blk w' tb 77 (tabV s mb) ∧ MapF w' mb G ∧ Blk w' w.heap.size 33 f.v ∧ Blk w' Wm3.heap.size 33 (Ft.find s f.w).1.v) (by kernel_rfl) (by rw [hWdq6]; exact ⟨Tdq6, Mdq6, Adq6, Bdq6⟩) (fun hHeld => ?_)
  rw [hWdq6] at hHeld ⊢
  refine qty (i := 0) (oi := { dst := some 20, op := Op.load 33 (.tmp 3), type := 33, pos := "table.go:52", after := #[], guard := none }) (v := (.agg f.v)) (yieldsIf_blk_w (by kernel_rfl) _ _ rfl w.heap.size (by rfl) _ (fun _ hSw => hSw.2.2.1) Try.underlying33 (by kernel_rfl)) hHeld ?_
  try simp only [qpu]
  refine wpAnyH_ready (rs := [1]) (by kernel_rfl) (by simp) ?_
  refine AllReadyH.cons (o := { dst := some 21, op := Op.call { callee := Callee.value (.func 12), args := #[.tmp 20], argTypes := #[33] }, type := 4, pos := "table.go:52", after := #[{ on := 0, ground := Ground.data }], guard := none }) rfl (fun K hK => ?_) AllReadyH.nil
  go_simp
  refine Calls.mono (right_fw f _) ?_
  rintro e Wx7 ⟨rfl, bb⟩
  have Tx7 := Tdq6.kept bb
  have Mx7 := Mdq6.kept bb
  have Ax7 := Adq6.kept bb
  have Bx7 := Bdq6.kept bb
  have bx7 := bdq6.below bb
  clear bb
  refine hK.out _ _ (by exact ⟨Tx7, Mx7, Ax7, Bx7⟩) (fun hHeld => ?_)
  clear hK K
  try simp only [qpu]
  refine qtk (i := 2) (oi := { dst := some 22, op := Op.unOp UnOp.not 4 (.tmp 21), type := 4, pos := "table.go:52", after := #[{ on := 1, ground := Ground.data }], guard := none }) (v := (.bool (!(Fl.right f)))) hHeld ?_ ?_
  · intro w9 hSw
    try dsimp only at hSw
    go_simp
  try simp only [qpu]
  refine qtk (i := 3) (oi := { dst := some 23, op := Op.move (.tmp 22), type := 4, pos := "table.go:52", after := #[{ on := 2, ground := Ground.data }, { on := 1, ground := Ground.chain }], guard := none }) (v := (.bool (!(Fl.right f)))) hHeld ?_ ?_
  · intro w9 hSw
    try dsimp only at hSw
    go_simp
  try simp only [qpu]
  cases hq8 : (Fl.right f) with
  | false =>
    refine qtn (i := 4) (oi := fyp37o19) hHeld ?_
    try simp only [qpu]
    refine qtn (i := 5) (oi := fyp37o10) hHeld ?_
    try simp only [qpu]
    refine qtn (i := 6) (oi := fyp37o21) hHeld ?_
    try simp only [qpu]
    refine qtn (i := 7) (oi := fyp37o13) hHeld ?_
    try simp only [qpu]
    refine qtn (i := 8) (oi := fyp37o7) hHeld ?_
    try simp only [qpu]
    refine qtn (i := 9) (oi := fyp37o11) hHeld ?_
    try simp only [qpu]
    refine qtn (i := 10) (oi := fyp37o2) hHeld ?_
    try simp only [qpu]
    refine qtk (i := 11) (oi := fyp37o6) (v := (.bool true)) hHeld ?_ ?_
    · intro w9 hSw
      try dsimp only at hSw
      go_simp
    try simp only [qpu]
    refine qtk (i := 12) (oi := fyp37o17) (v := (.bool true)) hHeld ?_ ?_
    · intro w9 hSw
      try dsimp only at hSw
      go_simp
    try simp only [qpu]
    refine wpAnyH_done (by kernel_rfl) ?_ _
    refine NoPanic.normal ?_
    go_wp2_with fail
    have hR2 : R = (((s, 1) : Ft × Int)) := by rw [← HR.out, put_form]; simp [hq8]
    subst hR2
    go_ret
    exact ⟨rfl, ⟨_, H.out.same Tx7 Mx7⟩, bx7⟩

  | true =>
    refine qtk (i := 4) (oi := fyp37o19) (v := (.pointer (some ⟨w.heap.size, 19, none⟩))) hHeld ?_ ?_
    · intro w9 hSw
      try dsimp only at hSw
      go_simp
    try simp only [qpu]
    refine qtk (i := 5) (oi := fyp37o10) (v := (.int .i64 f.ends)) hHeld ?_ ?_
    · intro w9 hSw
      try dsimp only at hSw
      have hcc := hSw.2.2.1.cell 19 (.int .i64 f.ends) rfl
      go_simp
    try simp only [qpu]
    refine qtk (i := 6) (oi := fyp37o21) (v := (.pointer (some ⟨tb, 0, none⟩))) hHeld ?_ ?_
    · intro w9 hSw
      try dsimp only at hSw
      go_simp
    try simp only [qpu]
    refine qtk (i := 7) (oi := fyp37o13) (v := (.pointer (some ⟨tb, 0, none⟩))) hHeld ?_ ?_
    · intro w9 hSw
      try dsimp only at hSw
      go_simp
    try simp only [qpu]
    refine qtk (i := 8) (oi := fyp37o7) (v := (.pointer (some ⟨tb, 2, none⟩))) hHeld ?_ ?_
    · intro w9 hSw
      try dsimp only at hSw
      go_simp
    try simp only [qpu]
    refine qtk (i := 9) (oi := fyp37o11) (v := (.int .i64 s.now)) hHeld ?_ ?_
    · intro w9 hSw
      try dsimp only at hSw
      have hcc := hSw.1.cell 2 (.int .i64 s.now) rfl
      go_simp
    try simp only [qpu]
    refine qtk (i := 10) (oi := fyp37o2) (v := (.bool (decide (f.ends ≤ s.now)))) hHeld ?_ ?_
    · intro w9 hSw
      try dsimp only at hSw
      go_simp
    try simp only [qpu]
    refine qtk (i := 11) (oi := fyp37o6) (v := (.bool (decide (f.ends ≤ s.now)))) hHeld ?_ ?_
    · intro w9 hSw
      try dsimp only at hSw
      go_simp
    try simp only [qpu]
    refine qtk (i := 12) (oi := fyp37o17) (v := (.bool (decide (f.ends ≤ s.now)))) hHeld ?_ ?_
    · intro w9 hSw
      try dsimp only at hSw
      go_simp
    try simp only [qpu]
    refine wpAnyH_done (by kernel_rfl) ?_ _
    refine NoPanic.normal ?_
    cases hq9 : (decide (f.ends ≤ s.now)) with
    | false =>
      cases hq10 : (Ft.find s f.w).2.2 with
      | false =>
        go_wp2_with fail
        obtain ⟨Wdq11, hWdq11⟩ : ∃ W, Wx7.drew = W := ⟨_, rfl⟩
        have Tdq11 := hWdq11 ▸ Tx7.drew
        have Mdq11 := hWdq11 ▸ Mx7.drew
        have Adq11 := hWdq11 ▸ Ax7.drew
        have Bdq11 := hWdq11 ▸ Bx7.drew
        have bdq11 := hWdq11 ▸ bx7.drew
        refine wp_region_noPanic ?_
        refine wp_region_held_drew (S := fun w' => Blk w' tb 77 (tabV s mb) ∧ MapF w' mb G ∧ Blk w' w.heap.size 33 f.v ∧ Blk w' Wm3.heap.size 33 (Ft.find s f.w).1.v) (by kernel_rfl) (by rw [hWdq11]; exact ⟨Tdq11, Mdq11, Adq11, Bdq11⟩) (fun hHeld => ?_)
        rw [hWdq11] at hHeld ⊢
        refine qtk (i := 0) (oi := fyp37o33) (v := (.bool false)) hHeld ?_ ?_
        · intro w9 hSw
          try dsimp only at hSw
          go_simp
        try simp only [qpu]
        refine qtk (i := 1) (oi := fyp37o22) (v := (.bool true)) hHeld ?_ ?_
        · intro w9 hSw
          try dsimp only at hSw
          go_simp
        try simp only [qpu]
        refine qtk (i := 2) (oi := fyp37o27) (v := (.bool true)) hHeld ?_ ?_
        · intro w9 hSw
          try dsimp only at hSw
          go_simp
        try simp only [qpu]
        refine qtk (i := 3) (oi := fyp37o23) (v := (.pointer (some ⟨tb, 0, none⟩))) hHeld ?_ ?_
        · intro w9 hSw
          try dsimp only at hSw
          go_simp
        try simp only [qpu]
        refine qtk (i := 4) (oi := fyp37o15) (v := (.pointer (some ⟨tb, 0, none⟩))) hHeld ?_ ?_
        · intro w9 hSw
          try dsimp only at hSw
          go_simp
        try simp only [qpu]
        refine qtk (i := 5) (oi := fyp37o8) (v := (.pointer (some ⟨tb, 3, none⟩))) hHeld ?_ ?_
        · intro w9 hSw
          try dsimp only at hSw
          go_simp
        try simp only [qpu]
        refine qtk (i := 6) (oi := fyp37o4) (v := (.map (some mb))) hHeld ?_ ?_
        · intro w9 hSw
          try dsimp only at hSw
          have hcc := hSw.1.cell 3 (.map (some mb)) rfl
          go_simp
        try simp only [qpu]
        refine qtk (i := 7) (oi := fyp37o1) (v := (.int .i64 (s.L.length : Int))) hHeld ?_ ?_
        · intro w9 hSw
          try dsimp only at hSw
          have hcc := len_at (ty := 3) H.out hSw.2.1
          go_simp
        try simp only [qpu]
        refine qtk (i := 8) (oi := fyp37o24) (v := (.pointer (some ⟨tb, 0, none⟩))) hHeld ?_ ?_
        · intro w9 hSw
          try dsimp only at hSw
          go_simp
        try simp only [qpu]
        refine qtk (i := 9) (oi := fyp37o16) (v := (.pointer (some ⟨tb, 0, none⟩))) hHeld ?_ ?_
        · intro w9 hSw
          try dsimp only at hSw
          go_simp
        try simp only [qpu]
        refine qtk (i := 10) (oi := fyp37o9) (v := (.pointer (some ⟨tb, 1, none⟩))) hHeld ?_ ?_
        · intro w9 hSw
          try dsimp only at hSw
          go_simp
        try simp only [qpu]
        refine qtk (i := 11) (oi := fyp37o12) (v := (.int .i64 s.most)) hHeld ?_ ?_
        · intro w9 hSw
          try dsimp only at hSw
          have hcc := hSw.1.cell 1 (.int .i64 s.most) rfl
          go_simp
        try simp only [qpu]
        refine qtk (i := 12) (oi := fyp37o3) (v := (.bool (decide (s.most ≤ (s.L.length : Int))))) hHeld ?_ ?_
        · intro w9 hSw
          try dsimp only at hSw
          go_simp
        try simp only [qpu]
        refine qtk (i := 13) (oi := fyp37o5) (v := (.bool (decide (s.most ≤ (s.L.length : Int))))) hHeld ?_ ?_
        · intro w9 hSw
          try dsimp only at hSw
          go_simp
        try simp only [qpu]
        refine qtk (i := 14) (oi := fyp37o18) (v := (.bool (decide (s.most ≤ (s.L.length : Int))))) hHeld ?_ ?_
        · intro w9 hSw
          try dsimp only at hSw
          go_simp
        try simp only [qpu]
        refine wpAnyH_done (by kernel_rfl) ?_ _
        refine NoPanic.normal ?_
        cases hq12 : (decide (s.most ≤ (s.L.length : Int))) with
        | false =>
          go_wp2_with fail
          obtain ⟨Wdq13, hWdq13⟩ : ∃ W, Wdq11.drew = W := ⟨_, rfl⟩
          have Tdq13 := hWdq13 ▸ Tdq11.drew
          have Mdq13 := hWdq13 ▸ Mdq11.drew
          have Adq13 := hWdq13 ▸ Adq11.drew
          have Bdq13 := hWdq13 ▸ Bdq11.drew
          have bdq13 := hWdq13 ▸ bdq11.drew
          refine wp_region_noPanic ?_
          refine wp_region_held_drew (S := fun w' => Blk w' tb 77 (tabV s mb) ∧ Blk w' w.heap.size 33 f.v ∧ Blk w' Wm3.heap.size 33 (Ft.find s f.w).1.v) (by kernel_rfl) (by rw [hWdq13]; exact ⟨Tdq13, Adq13, Bdq13⟩) (fun hHeld => ?_)
          rw [hWdq13] at hHeld ⊢
          refine qtk (i := 0) (oi := fyp37o31) (v := (.pointer (some ⟨tb, 0, none⟩))) hHeld ?_ ?_
          · intro w9 hSw
            try dsimp only at hSw
            go_simp
          try simp only [qpu]
          refine qtk (i := 1) (oi := fyp37o28) (v := (.pointer (some ⟨tb, 0, none⟩))) hHeld ?_ ?_
          · intro w9 hSw
            try dsimp only at hSw
            go_simp
          try simp only [qpu]
          refine qtk (i := 2) (oi := fyp37o25) (v := (.pointer (some ⟨tb, 3, none⟩))) hHeld ?_ ?_
          · intro w9 hSw
            try dsimp only at hSw
            go_simp
          try simp only [qpu]
          refine qtk (i := 3) (oi := fyp37o14) (v := (.map (some mb))) hHeld ?_ ?_
          · intro w9 hSw
            try dsimp only at hSw
            have hcc := hSw.1.cell 3 (.map (some mb)) rfl
            go_simp
          try simp only [qpu]
          refine qtk (i := 4) (oi := fyp37o30) (v := (.pointer (some ⟨w.heap.size, 0, none⟩))) hHeld ?_ ?_
          · intro w9 hSw
            try dsimp only at hSw
            go_simp
          try simp only [qpu]
          refine qty (i := 5) (oi := fyp37o20) (v := (.agg f.w.v)) (yieldsIf_sub_w (by kernel_rfl) _ _ rfl w.heap.size 0 _ (by rfl) _ f.w.v (fun _ hSw => hSw.2.1) (by rfl) Try.underlying26 (by kernel_rfl)) hHeld ?_
          try simp only [qpu]
          refine qty (i := 6) (oi := fyp37o29) (v := (.agg f.v)) (yieldsIf_blk_w (by kernel_rfl) _ _ rfl w.heap.size (by rfl) _ (fun _ hSw => hSw.2.1) Try.underlying33 (by kernel_rfl)) hHeld ?_
          try simp only [qpu]
          refine wpAnyH_ready (rs := [7]) (by kernel_rfl) (by simp) ?_
          refine AllReadyH.cons (o := fyp37o0) rfl (fun K hK => ?_) AllReadyH.nil
          refine step_updateF rfl _ _ _ rfl mb G f.w f (by rfl) (by rfl) (by rfl) Mdq13 (by have h8 := H.out.len; have h9 := H.out.ok.few; have h7 := H.out.ok.most; unfold maxLen; omega) HK.out ?_
          intro Wx14 Mx14 tx14
          have Tx14 := Tdq13.turned tx14 nTM
          have Ax14 := Adq13.turned tx14 nAM
          have Bx14 := Bdq13.turned tx14 nBM
          have bx14 := bdq13.turned tx14 (.inl (.inr rfl))
          refine hK.out _ _ (by exact ⟨Tx14, Ax14, Bx14⟩) (fun hHeld => ?_)
          clear hK K
          try simp only [qpu]
          refine wpAnyH_done (by kernel_rfl) ?_ _
          refine NoPanic.normal ?_
          go_wp2_with fail
          have hR2 : R = ((({ s with L := if (s.find f.w).2.2 then setF f s.L else insF f s.L }, 0) : Ft × Int)) := by rw [← HR.out, put_form]; simp [hq8, hq9, hq10, hq12]
          subst hR2
          go_ret
          exact ⟨rfl, ⟨_, H.out.laid HK.out (by have hz := Ft.put_ok H.out.ok HK.out; rw [HR.out] at hz; exact hz) (laid_perm H.out.ok (by simp [hq8, hq9, hq10, hq12])) Tx14 Mx14⟩, bx14⟩

        | true =>
          go_wp2_with fail
          have hR2 : R = (((s, 12) : Ft × Int)) := by rw [← HR.out, put_form]; simp [hq8, hq9, hq10, hq12]
          subst hR2
          go_ret
          exact ⟨rfl, ⟨_, H.out.same Tdq11 Mdq11⟩, bdq11⟩


      | true =>
        cases hq15 : ((Ft.find s f.w).2.1 == 1) with
        | false =>
          go_wp2_with fail
          obtain ⟨Wdq16, hWdq16⟩ : ∃ W, Wx7.drew = W := ⟨_, rfl⟩
          have Tdq16 := hWdq16 ▸ Tx7.drew
          have Mdq16 := hWdq16 ▸ Mx7.drew
          have Adq16 := hWdq16 ▸ Ax7.drew
          have Bdq16 := hWdq16 ▸ Bx7.drew
          have bdq16 := hWdq16 ▸ bx7.drew
          refine wp_region_noPanic ?_
          refine wp_region_held_drew (S := fun w' => Blk w' tb 77 (tabV s mb) ∧ MapF w' mb G ∧ Blk w' w.heap.size 33 f.v ∧ Blk w' Wm3.heap.size 33 (Ft.find s f.w).1.v) (by kernel_rfl) (by rw [hWdq16]; exact ⟨Tdq16, Mdq16, Adq16, Bdq16⟩) (fun hHeld => ?_)
          rw [hWdq16] at hHeld ⊢
          refine qtk (i := 0) (oi := fyp37o33) (v := (.bool true)) hHeld ?_ ?_
          · intro w9 hSw
            try dsimp only at hSw
            go_simp
          try simp only [qpu]
          refine qtk (i := 1) (oi := fyp37o22) (v := (.bool false)) hHeld ?_ ?_
          · intro w9 hSw
            try dsimp only at hSw
            go_simp
          try simp only [qpu]
          refine qtk (i := 2) (oi := fyp37o27) (v := (.bool false)) hHeld ?_ ?_
          · intro w9 hSw
            try dsimp only at hSw
            go_simp
          try simp only [qpu]
          refine qtn (i := 3) (oi := fyp37o23) hHeld ?_
          try simp only [qpu]
          refine qtn (i := 4) (oi := fyp37o15) hHeld ?_
          try simp only [qpu]
          refine qtn (i := 5) (oi := fyp37o8) hHeld ?_
          try simp only [qpu]
          refine qtn (i := 6) (oi := fyp37o4) hHeld ?_
          try simp only [qpu]
          refine qtn (i := 7) (oi := fyp37o1) hHeld ?_
          try simp only [qpu]
          refine qtn (i := 8) (oi := fyp37o24) hHeld ?_
          try simp only [qpu]
          refine qtn (i := 9) (oi := fyp37o16) hHeld ?_
          try simp only [qpu]
          refine qtn (i := 10) (oi := fyp37o9) hHeld ?_
          try simp only [qpu]
          refine qtn (i := 11) (oi := fyp37o12) hHeld ?_
          try simp only [qpu]
          refine qtn (i := 12) (oi := fyp37o3) hHeld ?_
          try simp only [qpu]
          refine qtk (i := 13) (oi := fyp37o5) (v := (.bool false)) hHeld ?_ ?_
          · intro w9 hSw
            try dsimp only at hSw
            go_simp
          try simp only [qpu]
          refine qtk (i := 14) (oi := fyp37o18) (v := (.bool false)) hHeld ?_ ?_
          · intro w9 hSw
            try dsimp only at hSw
            go_simp
          try simp only [qpu]
          refine wpAnyH_done (by kernel_rfl) ?_ _
          refine NoPanic.normal ?_
          go_wp2_with fail
          obtain ⟨Wdq17, hWdq17⟩ : ∃ W, Wdq16.drew = W := ⟨_, rfl⟩
          have Tdq17 := hWdq17 ▸ Tdq16.drew
          have Mdq17 := hWdq17 ▸ Mdq16.drew
          have Adq17 := hWdq17 ▸ Adq16.drew
          have Bdq17 := hWdq17 ▸ Bdq16.drew
          have bdq17 := hWdq17 ▸ bdq16.drew
          refine wp_region_noPanic ?_
          refine wp_region_held_drew (S := fun w' => Blk w' tb 77 (tabV s mb) ∧ Blk w' w.heap.size 33 f.v ∧ Blk w' Wm3.heap.size 33 (Ft.find s f.w).1.v) (by kernel_rfl) (by rw [hWdq17]; exact ⟨Tdq17, Adq17, Bdq17⟩) (fun hHeld => ?_)
          rw [hWdq17] at hHeld ⊢
          refine qtk (i := 0) (oi := fyp37o31) (v := (.pointer (some ⟨tb, 0, none⟩))) hHeld ?_ ?_
          · intro w9 hSw
            try dsimp only at hSw
            go_simp
          try simp only [qpu]
          refine qtk (i := 1) (oi := fyp37o28) (v := (.pointer (some ⟨tb, 0, none⟩))) hHeld ?_ ?_
          · intro w9 hSw
            try dsimp only at hSw
            go_simp
          try simp only [qpu]
          refine qtk (i := 2) (oi := fyp37o25) (v := (.pointer (some ⟨tb, 3, none⟩))) hHeld ?_ ?_
          · intro w9 hSw
            try dsimp only at hSw
            go_simp
          try simp only [qpu]
          refine qtk (i := 3) (oi := fyp37o14) (v := (.map (some mb))) hHeld ?_ ?_
          · intro w9 hSw
            try dsimp only at hSw
            have hcc := hSw.1.cell 3 (.map (some mb)) rfl
            go_simp
          try simp only [qpu]
          refine qtk (i := 4) (oi := fyp37o30) (v := (.pointer (some ⟨w.heap.size, 0, none⟩))) hHeld ?_ ?_
          · intro w9 hSw
            try dsimp only at hSw
            go_simp
          try simp only [qpu]
          refine qty (i := 5) (oi := fyp37o20) (v := (.agg f.w.v)) (yieldsIf_sub_w (by kernel_rfl) _ _ rfl w.heap.size 0 _ (by rfl) _ f.w.v (fun _ hSw => hSw.2.1) (by rfl) Try.underlying26 (by kernel_rfl)) hHeld ?_
          try simp only [qpu]
          refine qty (i := 6) (oi := fyp37o29) (v := (.agg f.v)) (yieldsIf_blk_w (by kernel_rfl) _ _ rfl w.heap.size (by rfl) _ (fun _ hSw => hSw.2.1) Try.underlying33 (by kernel_rfl)) hHeld ?_
          try simp only [qpu]
          refine wpAnyH_ready (rs := [7]) (by kernel_rfl) (by simp) ?_
          refine AllReadyH.cons (o := fyp37o0) rfl (fun K hK => ?_) AllReadyH.nil
          refine step_updateF rfl _ _ _ rfl mb G f.w f (by rfl) (by rfl) (by rfl) Mdq17 (by have h8 := H.out.len; have h9 := H.out.ok.few; have h7 := H.out.ok.most; unfold maxLen; omega) HK.out ?_
          intro Wx18 Mx18 tx18
          have Tx18 := Tdq17.turned tx18 nTM
          have Ax18 := Adq17.turned tx18 nAM
          have Bx18 := Bdq17.turned tx18 nBM
          have bx18 := bdq17.turned tx18 (.inl (.inr rfl))
          refine hK.out _ _ (by exact ⟨Tx18, Ax18, Bx18⟩) (fun hHeld => ?_)
          clear hK K
          try simp only [qpu]
          refine wpAnyH_done (by kernel_rfl) ?_ _
          refine NoPanic.normal ?_
          go_wp2_with fail
          have hR2 : R = ((({ s with L := if (s.find f.w).2.2 then setF f s.L else insF f s.L }, 0) : Ft × Int)) := by rw [← HR.out, put_form]; simp [hq8, hq9, hq10, hq15]
          subst hR2
          go_ret
          exact ⟨rfl, ⟨_, H.out.laid HK.out (by have hz := Ft.put_ok H.out.ok HK.out; rw [HR.out] at hz; exact hz) (laid_perm H.out.ok (by simp [hq8, hq9, hq10, hq15])) Tx18 Mx18⟩, bx18⟩

        | true =>
          go_wp2_with fail
          have hR2 : R = (((s, 15) : Ft × Int)) := by rw [← HR.out, put_form]; simp [hq8, hq9, hq10, hq15]
          subst hR2
          go_ret
          exact ⟨rfl, ⟨_, H.out.same Tx7 Mx7⟩, bx7⟩



    | true =>
      go_wp2_with fail
      have hR2 : R = (((s, 1) : Ft × Int)) := by rw [← HR.out, put_form]; simp [hq8, hq9]
      subst hR2
      go_ret
      exact ⟨rfl, ⟨_, H.out.same Tx7 Mx7⟩, bx7⟩
set_option maxRecDepth 100000 in
set_option maxHeartbeats 16000000 in
theorem drop_at_fw (tb mb : Nat) (s : Ft) (G : List (Lit × Fl)) (q : Wy) (w : World) (H0 : TabF w tb mb s G) (hk0 : q.kf) :
    Calls Try.prog 29 #[.pointer (some ⟨tb, 0, none⟩), .agg q.v] w fun e w' => e = .returned (.bool (s.drop q).2) ∧ (∃ G', TabF w' tb mb (s.drop q).1 G') ∧ But (fun k => k = tb ∨ k = mb) w w' := by
  have nTM : tb ≠ mb := H0.ne
  have T := H0.tab
  have M := H0.map
  have H : Hid (TabF w tb mb s G) := H0
  clear H0
  have gT : (fun k => k = tb ∨ k = mb) tb ∨ w.heap.size ≤ tb := .inl (.inl rfl)
  have nMT : mb ≠ tb := fun e => nTM e.symm
  have HK : Hid q.kf := hk0
  clear hk0
  obtain ⟨R, hR⟩ : ∃ R, s.drop q = R := ⟨_, rfl⟩
  have HR : Hid (s.drop q = R) := hR
  rw [hR]
  clear hR
  have b := But.refl (fun k => k = tb ∨ k = mb) w
  go_enter Try.func29, Try.ntmps29
  obtain ⟨Wm1, hWm1⟩ : ∃ W, w.alloc (.cells q.v 26) = W := ⟨_, rfl⟩
  have bm1 := but_al b hWm1
  have Tm1 := T.al hWm1
  have Mm1 := M.al hWm1
  have Am1 := blk_nw hWm1
  have gA : (fun k => k = tb ∨ k = mb) w.heap.size ∨ w.heap.size ≤ w.heap.size := .inr b.size
  have nTA : tb ≠ w.heap.size := by have := T.lt; omega
  have nAT : w.heap.size ≠ tb := fun e => nTA e.symm
  have nMA : mb ≠ w.heap.size := by have := M.lt; omega
  have nAM : w.heap.size ≠ mb := fun e => nMA e.symm
  go_wp2_with (refine wpList_load_blk_w (by rfl) _ _ rfl w.heap.size (by rfl) _ Am1 Try.underlying26 (by kernel_rfl) ?_)
  refine Calls.mono (find_at_fw tb mb s G q _ H.out nTM Tm1 Mm1 (HK.out)) ?_
  rintro e Wm2 ⟨rfl, bb⟩
  have Tm2 := Tm1.kept bb
  have Mm2 := Mm1.kept bb
  have Am2 := Am1.kept bb
  have bm2 := bm1.below bb
  clear bb
  clear Tm1 Mm1 Am1 bm1
  cases hq5 : (Ft.find s q).2.2 with
  | false =>
    obtain ⟨Wm6, hWm6⟩ : ∃ W, Wm2.alloc (.cells #[.int .i64 0, .int .i64 0, .int .i64 0, .int .u64 0, .int .u64 0, .int .i64 0, .int .u64 0, .int .u64 0, .int .i64 0, .int .i64 0, .int .i64 0, .int .u32 0, .int .u32 0, .int .u32 0, .int .u32 0, .bool false, .bool false, .bool false, .bool false, .int .i64 0, .int .i64 0, .bool false] 33) = W := ⟨_, rfl⟩
    have bm6 := but_al bm2 hWm6
    have Tm6 := Tm2.al hWm6
    have Mm6 := Mm2.al hWm6
    have Am6 := Am2.al hWm6
    have Bm6 := blk_nw hWm6
    have gB : (fun k => k = tb ∨ k = mb) Wm2.heap.size ∨ w.heap.size ≤ Wm2.heap.size := .inr bm2.size
    have nTB : tb ≠ Wm2.heap.size := by have := Tm2.lt; omega
    have nBT : Wm2.heap.size ≠ tb := fun e => nTB e.symm
    have nMB : mb ≠ Wm2.heap.size := by have := Mm2.lt; omega
    have nBM : Wm2.heap.size ≠ mb := fun e => nMB e.symm
    have nAB : w.heap.size ≠ Wm2.heap.size := by have := Am2.lt; omega
    have nBA : Wm2.heap.size ≠ w.heap.size := fun e => nAB e.symm
    obtain ⟨Wm7, hWm7⟩ : ∃ W, Wm6.setRow Wm2.heap.size (Ft.find s q).1.v = W := ⟨_, rfl⟩
    have Bm7 : Blk Wm7 Wm2.heap.size 33 (Ft.find s q).1.v := hWm7 ▸ Bm6.set (Ft.find s q).1.v
    have Tm7 := hWm7 ▸ Tm6.other nTB (Ft.find s q).1.v
    have Mm7 := hWm7 ▸ Mm6.other nMB (Ft.find s q).1.v
    have Am7 := hWm7 ▸ Am6.other nAB (Ft.find s q).1.v
    have bm7 := hWm7 ▸ but_setRow bm6 gB (Ft.find s q).1.v
    go_wp2_with (refine wpList_store_row rfl _ _ _ rfl Wm2.heap.size (Ft.find s q).1.v (by rfl) (by rfl) _ _ Bm6 (by kernel_rfl) (by rfl) (by kernel_rfl) ?_; rw [hWm7])
    have hR2 : R = (((s, false) : Ft × Bool)) := by rw [← HR.out, drop_form]; simp [hq5]
    subst hR2
    go_ret
    exact ⟨retB_fw (by first | rfl | assumption | simp [hq5]), ⟨_, H.out.same Tm7 Mm7⟩, bm7⟩

  | true =>
    obtain ⟨Wm8, hWm8⟩ : ∃ W, Wm2.alloc (.cells #[.int .i64 0, .int .i64 0, .int .i64 0, .int .u64 0, .int .u64 0, .int .i64 0, .int .u64 0, .int .u64 0, .int .i64 0, .int .i64 0, .int .i64 0, .int .u32 0, .int .u32 0, .int .u32 0, .int .u32 0, .bool false, .bool false, .bool false, .bool false, .int .i64 0, .int .i64 0, .bool false] 33) = W := ⟨_, rfl⟩
    have bm8 := but_al bm2 hWm8
    have Tm8 := Tm2.al hWm8
    have Mm8 := Mm2.al hWm8
    have Am8 := Am2.al hWm8
    have Bm8 := blk_nw hWm8
    have gB : (fun k => k = tb ∨ k = mb) Wm2.heap.size ∨ w.heap.size ≤ Wm2.heap.size := .inr bm2.size
    have nTB : tb ≠ Wm2.heap.size := by have := Tm2.lt; omega
    have nBT : Wm2.heap.size ≠ tb := fun e => nTB e.symm
    have nMB : mb ≠ Wm2.heap.size := by have := Mm2.lt; omega
    have nBM : Wm2.heap.size ≠ mb := fun e => nMB e.symm
    have nAB : w.heap.size ≠ Wm2.heap.size := by have := Am2.lt; omega
    have nBA : Wm2.heap.size ≠ w.heap.size := fun e => nAB e.symm
    obtain ⟨Wm9, hWm9⟩ : ∃ W, Wm8.setRow Wm2.heap.size (Ft.find s q).1.v = W := ⟨_, rfl⟩
    have Bm9 : Blk Wm9 Wm2.heap.size 33 (Ft.find s q).1.v := hWm9 ▸ Bm8.set (Ft.find s q).1.v
    have Tm9 := hWm9 ▸ Tm8.other nTB (Ft.find s q).1.v
    have Mm9 := hWm9 ▸ Mm8.other nMB (Ft.find s q).1.v
    have Am9 := hWm9 ▸ Am8.other nAB (Ft.find s q).1.v
    have bm9 := hWm9 ▸ but_setRow bm8 gB (Ft.find s q).1.v
    go_wp2_with (refine wpList_store_row rfl _ _ _ rfl Wm2.heap.size (Ft.find s q).1.v (by rfl) (by rfl) _ _ Bm8 (by kernel_rfl) (by rfl) (by kernel_rfl) ?_; rw [hWm9])
    obtain ⟨Wdq10, hWdq10⟩ : ∃ W, Wm9.drew = W := ⟨_, rfl⟩
    have Tdq10 := hWdq10 ▸ Tm9.drew
    have Mdq10 := hWdq10 ▸ Mm9.drew
    have Adq10 := hWdq10 ▸ Am9.drew
    have Bdq10 := hWdq10 ▸ Bm9.drew
    have bdq10 := hWdq10 ▸ bm9.drew
    refine wp_region_noPanic ?_
    refine wp_region_held_drew (S := fun w' => Blk w' tb 77 (tabV s mb) ∧ Blk w' w.heap.size 26 q.v ∧ Blk w' Wm2.heap.size 33 (Ft.find s q).1.v) (by kernel_rfl) (by rw [hWdq10]; exact ⟨Tdq10, Adq10, Bdq10⟩) (fun hHeld => ?_)
    rw [hWdq10] at hHeld ⊢
    refine qtk (i := 0) (oi := { dst := some 16, op := Op.move (.tmp 0), type := 50, pos := "table.go:67", after := #[], guard := none }) (v := (.pointer (some ⟨tb, 0, none⟩))) hHeld ?_ ?_
    · intro w9 hSw
      try dsimp only at hSw
      go_simp
    try simp only [qpu]
    refine qtk (i := 1) (oi := { dst := some 17, op := Op.nilCheck (.tmp 16), type := 0, pos := "table.go:67", after := #[{ on := 0, ground := Ground.data }], guard := none }) (v := (.pointer (some ⟨tb, 0, none⟩))) hHeld ?_ ?_
    · intro w9 hSw
      try dsimp only at hSw
      go_simp
    try simp only [qpu]
    refine qtk (i := 2) (oi := { dst := some 18, op := Op.fieldAddr 77 (.tmp 17) 3, type := 0, pos := "table.go:67", after := #[{ on := 1, ground := Ground.data }], guard := none }) (v := (.pointer (some ⟨tb, 3, none⟩))) hHeld ?_ ?_
    · intro w9 hSw
      try dsimp only at hSw
      go_simp
    try simp only [qpu]
    refine qtk (i := 3) (oi := { dst := some 19, op := Op.load 75 (.tmp 18), type := 75, pos := "table.go:67", after := #[{ on := 2, ground := Ground.data }], guard := none }) (v := (.map (some mb))) hHeld ?_ ?_
    · intro w9 hSw
      try dsimp only at hSw
      have hcc := hSw.1.cell 3 (.map (some mb)) rfl
      go_simp
    try simp only [qpu]
    refine qtk (i := 4) (oi := { dst := some 20, op := Op.fieldAddr 33 (.tmp 5) 0, type := 0, pos := "table.go:67", after := #[], guard := none }) (v := (.pointer (some ⟨Wm2.heap.size, 0, none⟩))) hHeld ?_ ?_
    · intro w9 hSw
      try dsimp only at hSw
      go_simp
    try simp only [qpu]
    refine qty (i := 5) (oi := { dst := some 21, op := Op.load 26 (.tmp 20), type := 26, pos := "table.go:67", after := #[{ on := 4, ground := Ground.data }], guard := none }) (v := (.agg (Ft.find s q).1.w.v)) (yieldsIf_sub_w (by kernel_rfl) _ _ rfl Wm2.heap.size 0 _ (by rfl) _ (Ft.find s q).1.w.v (fun _ hSw => hSw.2.2) (by rfl) Try.underlying26 (by kernel_rfl)) hHeld ?_
    try simp only [qpu]
    refine wpAnyH_ready (rs := [6]) (by kernel_rfl) (by simp) ?_
    refine AllReadyH.cons (o := { dst := none, op := Op.call { callee := Callee.builtin Builtin.delete, args := #[.tmp 19, .tmp 21], argTypes := #[75, 26] }, type := 0, pos := "table.go:67", after := #[{ on := 3, ground := Ground.data }, { on := 5, ground := Ground.data }], guard := none }) rfl (fun K hK => ?_) AllReadyH.nil
    refine step_deleteF rfl _ _ rfl mb G (s.find q).1.w (by rfl) (by rfl) Mdq10 (find_kf H.out.ok (by assumption)) ?_
    intro Wx11 Mx11 tx11
    have Tx11 := Tdq10.turned tx11 nTM
    have Ax11 := Adq10.turned tx11 nAM
    have Bx11 := Bdq10.turned tx11 nBM
    have bx11 := bdq10.turned tx11 (.inl (.inr rfl))
    refine hK.out _ _ (by exact ⟨Tx11, Ax11, Bx11⟩) (fun hHeld => ?_)
    clear hK K
    try simp only [qpu]
    refine wpAnyH_done (by kernel_rfl) ?_ _
    refine NoPanic.normal ?_
    go_wp2_with fail
    have hR2 : R = ((({ s with L := delF (s.find q).1.w s.L }, true) : Ft × Bool)) := by rw [← HR.out, drop_form]; simp [hq5]
    subst hR2
    go_ret
    exact ⟨retB_fw (by first | rfl | assumption | simp [hq5]), ⟨_, H.out.dropped (find_kf H.out.ok (by assumption)) Tx11 Mx11⟩, bx11⟩
end Go.Proofs.Ytmjjdbkipagkbaa
