/- Texts joined: FwD -/
import Derived.Test.YtmjjdbkipagkbaaFyp22
namespace Go.Proofs.Ytmjjdbkipagkbaa
abbrev fyp23o0 : Oper := { dst := some 4, op := Op.assign (.tmp 22), type := 4, pos := "flow.go:104", after := #[{ on := 10, ground := Ground.data }, { on := 6, ground := Ground.chain }, { on := 0, ground := Ground.phase }, { on := 1, ground := Ground.phase }, { on := 2, ground := Ground.phase }, { on := 3, ground := Ground.phase }, { on := 4, ground := Ground.phase }, { on := 5, ground := Ground.phase }, { on := 6, ground := Ground.phase }, { on := 7, ground := Ground.phase }, { on := 8, ground := Ground.phase }, { on := 9, ground := Ground.phase }, { on := 10, ground := Ground.phase }], guard := none }
abbrev fyp23o1 : Oper := { dst := some 21, op := Op.binOp BinOp.eql 3 (.tmp 20) (.const (.int .i64 0)) 3, type := 4, pos := "flow.go:104", after := #[{ on := 8, ground := Ground.data }, { on := 6, ground := Ground.guard }], guard := some (6, true) }
abbrev fyp23o2 : Oper := { dst := some 22, op := Op.pick (.tmp 18) (.tmp 21) (.const (.bool false)), type := 4, pos := "flow.go:104", after := #[{ on := 6, ground := Ground.data }, { on := 9, ground := Ground.data }], guard := none }
abbrev fyp23o3 : Oper := { dst := some 20, op := Op.load 3 (.tmp 19), type := 3, pos := "flow.go:104", after := #[{ on := 7, ground := Ground.data }, { on := 6, ground := Ground.guard }], guard := some (6, true) }
abbrev fyp23o4 : Oper := { dst := some 19, op := Op.fieldAddr 36 (.tmp 2) 6, type := 0, pos := "flow.go:104", after := #[{ on := 6, ground := Ground.guard }], guard := some (6, true) }
abbrev fyp23o5 : Oper := { dst := some 17, op := Op.binOp BinOp.eql 3 (.tmp 13) (.tmp 16) 3, type := 4, pos := "flow.go:104", after := #[{ on := 1, ground := Ground.data }, { on := 4, ground := Ground.data }], guard := none }
abbrev fyp23o6 : Oper := { dst := some 15, op := Op.indexAddr 45 (.tmp 5) (.tmp 14), type := 0, pos := "flow.go:104", after := #[{ on := 2, ground := Ground.data }], guard := none }
abbrev fyp23o7 : Oper := { dst := some 13, op := Op.load 3 (.tmp 12), type := 3, pos := "flow.go:104", after := #[{ on := 0, ground := Ground.data }], guard := none }
abbrev fyp23o8 : Oper := { dst := some 16, op := Op.load 3 (.tmp 15), type := 3, pos := "flow.go:104", after := #[{ on := 3, ground := Ground.data }], guard := none }
abbrev fyp23o9 : Oper := { dst := some 18, op := Op.move (.tmp 17), type := 4, pos := "flow.go:104", after := #[{ on := 5, ground := Ground.data }], guard := none }
abbrev fyp23o10 : Oper := { dst := some 12, op := Op.fieldAddr 36 (.tmp 2) 5, type := 0, pos := "flow.go:104", after := #[], guard := none }
abbrev fyp23o11 : Oper := { dst := some 14, op := Op.move (.tmp 1), type := 3, pos := "flow.go:104", after := #[], guard := none }
end Go.Proofs.Ytmjjdbkipagkbaa
namespace Go.Proofs.Ytmjjdbkipagkbaa
open Go.RowKit
set_option linter.unusedVariables false
set_option linter.unusedSimpArgs false
theorem startC {s : Sm} (help : Int) (h : (s.beg.2 != 0) = false) : (⟨s.w, s.beg.1, 0, help, false⟩ : Fl).cnB = true := by
  unfold Fl.cnB
  have h3 : s.beg.2 = 0 := by simpa using h
  unfold Sm.beg at h3 ⊢
  cases h6 : (s.w.pr == 6)
  · simp only [h6, if_false, Bool.false_eq_true] at h3 ⊢
    split <;> first | rfl | skip
    all_goals decide
  · simp only [h6, if_true] at h3 ⊢
    exact beg_right h3
theorem stepC {f : Fl} {s : Sm} {side both : Bool} {e h : Int} (hr : f.right = true) (hw : s.w.eqB (f.way side) = true) (h3 : ((s.stp f.c side).2 != 0) = false) : (⟨f.w, (s.stp f.c side).1, e, h, both⟩ : Fl).cnB = true := by
  have hp : s.w.pr = f.w.pr := by
    have := (Wy.eqB_iff _ _).1 hw
    rw [this]
    unfold Fl.way
    split <;> rfl
  unfold Fl.right at hr
  simp only [Bool.and_eq_true] at hr
  have hc := hr.2.2.2
  unfold Fl.cnB at hc ⊢
  have h4 : (s.stp f.c side).2 = 0 := by simpa using h3
  unfold Sm.stp at h4 ⊢
  rw [hp] at h4 ⊢
  cases h6 : (f.w.pr == 6)
  · simp only [h6, if_false, Bool.false_eq_true] at h4 hc ⊢
    split
    · exact hc
    · rename_i h7; rw [if_neg h7] at h4; simp at h4
  · simp only [h6, if_true] at h4 hc ⊢
    exact (step_right (i := if side then 1 else 0) (g := s.g) hc (d := (f.c.step (if side then 1 else 0) s.g).1) (Prod.ext rfl h4)).1
set_option maxRecDepth 100000 in
set_option maxHeartbeats 4000000 in
theorem life_fw (f : Fl) (w : World) :
    Calls Try.prog 62 #[.agg f.v] w fun e w' => e = .returned (.int .i64 f.life) ∧ Below w.heap.size w w' := by
  obtain ⟨R, hR⟩ : ∃ R, f.life = R := ⟨_, rfl⟩
  have HR : Hid (f.life = R) := hR
  rw [hR]
  clear hR
  have b := Below.refl w.heap.size w
  go_enter Try.func62, Try.ntmps62
  cases hq3 : (f.w.pr == 6) with
  | false =>
    cases hq6 : (f.w.pr == 17) with
    | false =>
      obtain ⟨Wm7, hWm7⟩ : ∃ W, w.alloc (.cells f.v 33) = W := ⟨_, rfl⟩
      have bm7 := bel_nw hWm7
      have Am7 := blk_nw hWm7
      have gA : w.heap.size ≤ w.heap.size := Nat.le_refl _
      have c8 := Am7.cell 1 (.int .i64 f.w.pr) rfl
      go_wp2_with fail
      go_ret
      exact ⟨retN_fw (by rw [← HR.out]; first | rfl | (simp [Fl.life, hq3, hq6]; done) | (simp [Fl.life, hq3, hq6]; rfl)), bm7⟩

    | true =>
      cases hq12 : f.both with
      | false =>
        obtain ⟨Wm13, hWm13⟩ : ∃ W, w.alloc (.cells f.v 33) = W := ⟨_, rfl⟩
        have bm13 := bel_nw hWm13
        have Am13 := blk_nw hWm13
        have gA : w.heap.size ≤ w.heap.size := Nat.le_refl _
        have c14 := Am13.cell 1 (.int .i64 f.w.pr) rfl
        have c15 := Am13.cell 21 (.bool f.both) rfl
        go_wp2_with fail
        go_ret
        exact ⟨retN_fw (by rw [← HR.out]; first | rfl | (simp [Fl.life, hq3, hq6, hq12]; done) | (simp [Fl.life, hq3, hq6, hq12]; rfl)), bm13⟩

      | true =>
        obtain ⟨Wm16, hWm16⟩ : ∃ W, w.alloc (.cells f.v 33) = W := ⟨_, rfl⟩
        have bm16 := bel_nw hWm16
        have Am16 := blk_nw hWm16
        have gA : w.heap.size ≤ w.heap.size := Nat.le_refl _
        have c17 := Am16.cell 1 (.int .i64 f.w.pr) rfl
        have c18 := Am16.cell 21 (.bool f.both) rfl
        go_wp2_with fail
        go_ret
        exact ⟨retN_fw (by rw [← HR.out]; first | rfl | (simp [Fl.life, hq3, hq6, hq12]; done) | (simp [Fl.life, hq3, hq6, hq12]; rfl)), bm16⟩



  | true =>
    obtain ⟨Wm19, hWm19⟩ : ∃ W, w.alloc (.cells f.v 33) = W := ⟨_, rfl⟩
    have bm19 := bel_nw hWm19
    have Am19 := blk_nw hWm19
    have gA : w.heap.size ≤ w.heap.size := Nat.le_refl _
    have c20 := Am19.cell 1 (.int .i64 f.w.pr) rfl
    go_wp2_with (refine wpList_load_sub_w (by rfl) _ _ rfl w.heap.size 10 _ (by rfl) _ f.c.v Am19 (by rfl) Try.underlying31 (by kernel_rfl) ?_)
    clear c20
    refine Calls.mono (life_tc f.c _) ?_
    rintro e Wm21 ⟨rfl, bb⟩
    have Am21 := Am19.kept bb
    have bm21 := bel_tr bm19 bb
    clear bb
    clear Am19 bm19
    go_wp2_with fail
    go_ret
    exact ⟨retN_fw (by rw [← HR.out]; first | rfl | (simp [Fl.life, hq3]; done) | (simp [Fl.life, hq3]; rfl)), bm21⟩
set_option maxRecDepth 100000 in
set_option maxHeartbeats 4000000 in
theorem keep_fw (f : Fl) (now : Int) (w : World) (hn : nowB now = true) (hc : f.cnB = true) :
    Calls Try.prog 34 #[.agg f.v, .int .i64 now] w fun e w' => e = .returned (.agg (f.keep now).v) ∧ Below w.heap.size w w' := by
  have hl := life_bd f hc
  simp only [nowB, Bool.and_eq_true, decide_eq_true_eq] at hn
  obtain ⟨R, hR⟩ : ∃ R, f.keep now = R := ⟨_, rfl⟩
  have HR : Hid (f.keep now = R) := hR
  rw [hR]
  clear hR
  have b := Below.refl w.heap.size w
  go_enter Try.func34, Try.ntmps34
  obtain ⟨Wm1, hWm1⟩ : ∃ W, w.alloc (.cells f.v 33) = W := ⟨_, rfl⟩
  have bm1 := bel_nw hWm1
  have Am1 := blk_nw hWm1
  have gA : w.heap.size ≤ w.heap.size := Nat.le_refl _
  obtain ⟨Wm2, hWm2⟩ : ∃ W, Wm1.alloc (.cells #[.int .i64 0, .int .i64 0, .int .i64 0, .int .u64 0, .int .u64 0, .int .i64 0, .int .u64 0, .int .u64 0, .int .i64 0, .int .i64 0, .int .i64 0, .int .u32 0, .int .u32 0, .int .u32 0, .int .u32 0, .bool false, .bool false, .bool false, .bool false, .int .i64 0, .int .i64 0, .bool false] 33) = W := ⟨_, rfl⟩
  have bm2 := bel_al bm1 hWm2
  have Am2 := Am1.al hWm2
  have Bm2 := blk_nw hWm2
  have gB : w.heap.size ≤ Wm1.heap.size := bm1.size
  have nAB : w.heap.size ≠ Wm1.heap.size := by have := Am1.lt; omega
  have nBA : Wm1.heap.size ≠ w.heap.size := fun e => nAB e.symm
  go_wp2_with (refine wpList_load_blk_w (by rfl) _ _ rfl w.heap.size (by rfl) _ Am2 Try.underlying33 (by kernel_rfl) ?_)
  refine Calls.mono (life_fw f _) ?_
  rintro e Wm3 ⟨rfl, bb⟩
  have Am3 := Am2.kept bb
  have Bm3 := Bm2.kept bb
  have bm3 := bel_tr bm2 bb
  clear bb
  clear Am2 Bm2 bm2
  have y5 := Am3.cell 19 (.int .i64 f.ends) rfl
  have z6 := Am3.frozen 19
  obtain ⟨Wm4, hWm4⟩ : ∃ W, Wm3.setCell ⟨w.heap.size, 19, none⟩ (.int .i64 (now + (Fl.life f))) = W := ⟨_, rfl⟩
  have Am4 : Blk Wm4 w.heap.size 33 (Fl.v ⟨f.w, f.c, now + (Fl.life f), f.help, f.both⟩) := hWm4 ▸ Am3.put 19 (.int .i64 (now + (Fl.life f)))
  have Bm4 := hWm4 ▸ Bm3.put_other Am3 nBA 19 (.int .i64 (now + (Fl.life f)))
  have bm4 := hWm4 ▸ bm3.setCell (p := ⟨w.heap.size, 19, none⟩) gA (.int .i64 (now + (Fl.life f)))
  obtain ⟨Wm7, hWm7⟩ : ∃ W, Wm4.setRow Wm1.heap.size (Fl.v ⟨f.w, f.c, now + (Fl.life f), f.help, f.both⟩) = W := ⟨_, rfl⟩
  have Bm7 : Blk Wm7 Wm1.heap.size 33 (Fl.v ⟨f.w, f.c, now + (Fl.life f), f.help, f.both⟩) := hWm7 ▸ Bm4.set (Fl.v ⟨f.w, f.c, now + (Fl.life f), f.help, f.both⟩)
  have Am7 := hWm7 ▸ Am4.other nAB (Fl.v ⟨f.w, f.c, now + (Fl.life f), f.help, f.both⟩)
  have bm7 := hWm7 ▸ below_setRow bm4 gB (Fl.v ⟨f.w, f.c, now + (Fl.life f), f.help, f.both⟩)
  go_wp2_with (first | (refine wpList_load_blk_w (by rfl) _ _ rfl w.heap.size (by rfl) _ Am4 Try.underlying33 (by kernel_rfl) ?_) | (refine wpList_store_row rfl _ _ _ rfl Wm1.heap.size (Fl.v ⟨f.w, f.c, now + (Fl.life f), f.help, f.both⟩) (by rfl) (by rfl) _ _ Bm4 (by kernel_rfl) (by rfl) (by kernel_rfl) ?_; rw [hWm7]))
  have hR2 : R = (⟨f.w, f.c, now + (Fl.life f), f.help, f.both⟩ : Fl) := by rw [← HR.out]; first | rfl | (simp [Fl.keep]; done) | (simp [Fl.keep]; rfl)
  subst hR2
  exact ret_cell (k := 4) Try.f34 (by kernel_rfl) Bm7 Try.underlying33 (by kernel_rfl) (by rfl) rfl ⟨rfl, bm7⟩
set_option maxRecDepth 100000 in
set_option maxHeartbeats 4000000 in
theorem echo0_fw (s : Sm) (w : World) :
    Calls Try.prog 61 #[.agg s.v, .int .i64 0] w fun e w' => e = .returned (.bool (s.ec false)) ∧ Below w.heap.size w w' := by
  obtain ⟨R, hR⟩ : ∃ R, s.ec false = R := ⟨_, rfl⟩
  have HR : Hid (s.ec false = R) := hR
  rw [hR]
  clear hR
  have b := Below.refl w.heap.size w
  go_enter Try.func61, Try.ntmps61
  cases hq5 : (s.w.pr == 58) with
  | false =>
    obtain ⟨Wm6, hWm6⟩ : ∃ W, w.alloc (.cells s.v 36) = W := ⟨_, rfl⟩
    have bm6 := bel_nw hWm6
    have Am6 := blk_nw hWm6
    have gA : w.heap.size ≤ w.heap.size := Nat.le_refl _
    obtain ⟨Wm7, hWm7⟩ : ∃ W, Wm6.alloc (.cells #[.int .i64 0, .int .i64 0] 45) = W := ⟨_, rfl⟩
    have bm7 := bel_al bm6 hWm7
    have Am7 := Am6.al hWm7
    have Bm7 := blk_nw hWm7
    have gB : w.heap.size ≤ Wm6.heap.size := bm6.size
    have nAB : w.heap.size ≠ Wm6.heap.size := by have := Am6.lt; omega
    have nBA : Wm6.heap.size ≠ w.heap.size := fun e => nAB e.symm
    obtain ⟨Wm8, hWm8⟩ : ∃ W, Wm7.setRow Wm6.heap.size #[.int .i64 8, .int .i64 0] = W := ⟨_, rfl⟩
    have Bm8 : Blk Wm8 Wm6.heap.size 45 #[.int .i64 8, .int .i64 0] := hWm8 ▸ Bm7.set #[.int .i64 8, .int .i64 0]
    have Am8 := hWm8 ▸ Am7.other nAB #[.int .i64 8, .int .i64 0]
    have bm8 := hWm8 ▸ below_setRow bm7 gB #[.int .i64 8, .int .i64 0]
    have c9 := Am8.cell 1 (.int .i64 s.w.pr) rfl
    go_wp2_with (refine wpList_store_row rfl _ _ _ rfl Wm6.heap.size #[.int .i64 8, .int .i64 0] (by rfl) (by rfl) _ _ Bm7 (by kernel_rfl) (by rfl) (by kernel_rfl) ?_; rw [hWm8])
    clear c9
    obtain ⟨Wdq10, hWdq10⟩ : ∃ W, Wm8.drew = W := ⟨_, rfl⟩
    have Adq10 := hWdq10 ▸ Am8.drew
    have Bdq10 := hWdq10 ▸ Bm8.drew
    have bdq10 := hWdq10 ▸ bm8.drew
    refine wp_region_noPanic ?_
    refine wp_region_held_drew (S := fun w' => Blk w' w.heap.size 36 s.v ∧ Blk w' Wm6.heap.size 45 #[.int .i64 8, .int .i64 0]) (by kernel_rfl) (by rw [hWdq10]; exact ⟨Adq10, Bdq10⟩) (fun hHeld => ?_)
    rw [hWdq10] at hHeld ⊢
    refine qtk (i := 0) (oi := fyp23o10) (v := (.pointer (some ⟨w.heap.size, 14, none⟩))) hHeld ?_ ?_
    · intro w9 hSw
      try dsimp only at hSw
      go_simp
    try simp only [qpu]
    refine qtk (i := 1) (oi := fyp23o7) (v := (.int .i64 s.ty)) hHeld ?_ ?_
    · intro w9 hSw
      try dsimp only at hSw
      have hcc := hSw.1.cell 14 (.int .i64 s.ty) rfl
      go_simp
    try simp only [qpu]
    refine qtk (i := 2) (oi := fyp23o11) (v := (.int .i64 0)) hHeld ?_ ?_
    · intro w9 hSw
      try dsimp only at hSw
      go_simp
    try simp only [qpu]
    refine qtk (i := 3) (oi := fyp23o6) (v := (.pointer (some ⟨Wm6.heap.size, 0, none⟩))) hHeld ?_ ?_
    · intro w9 hSw
      try dsimp only at hSw
      go_simp
    try simp only [qpu]
    refine qtk (i := 4) (oi := fyp23o8) (v := (.int .i64 8)) hHeld ?_ ?_
    · intro w9 hSw
      try dsimp only at hSw
      have hcc := hSw.2.cell 0 (.int .i64 8) rfl
      go_simp
    try simp only [qpu]
    refine qtk (i := 5) (oi := fyp23o5) (v := (.bool (s.ty == 8))) hHeld ?_ ?_
    · intro w9 hSw
      try dsimp only at hSw
      go_simp
    try simp only [qpu]
    refine qtk (i := 6) (oi := fyp23o9) (v := (.bool (s.ty == 8))) hHeld ?_ ?_
    · intro w9 hSw
      try dsimp only at hSw
      go_simp
    try simp only [qpu]
    cases hq11 : (s.ty == 8) with
    | false =>
      refine qtn (i := 7) (oi := fyp23o4) hHeld ?_
      try simp only [qpu]
      refine qtn (i := 8) (oi := fyp23o3) hHeld ?_
      try simp only [qpu]
      refine qtn (i := 9) (oi := fyp23o1) hHeld ?_
      try simp only [qpu]
      refine qtk (i := 10) (oi := fyp23o2) (v := (.bool false)) hHeld ?_ ?_
      · intro w9 hSw
        try dsimp only at hSw
        go_simp
      try simp only [qpu]
      refine qtk (i := 11) (oi := fyp23o0) (v := (.bool false)) hHeld ?_ ?_
      · intro w9 hSw
        try dsimp only at hSw
        go_simp
      try simp only [qpu]
      refine wpAnyH_done (by kernel_rfl) ?_ _
      refine NoPanic.normal ?_
      go_wp2_with fail
      go_ret
      exact ⟨retB_fw (by rw [← HR.out]; first | rfl | (simp [Sm.ec, ecT, hq5, hq11]; done) | (simp [Sm.ec, ecT, hq5, hq11]; rfl)), bdq10⟩

    | true =>
      refine qtk (i := 7) (oi := fyp23o4) (v := (.pointer (some ⟨w.heap.size, 15, none⟩))) hHeld ?_ ?_
      · intro w9 hSw
        try dsimp only at hSw
        go_simp
      try simp only [qpu]
      refine qtk (i := 8) (oi := fyp23o3) (v := (.int .i64 s.co)) hHeld ?_ ?_
      · intro w9 hSw
        try dsimp only at hSw
        have hcc := hSw.1.cell 15 (.int .i64 s.co) rfl
        go_simp
      try simp only [qpu]
      refine qtk (i := 9) (oi := fyp23o1) (v := (.bool (s.co == 0))) hHeld ?_ ?_
      · intro w9 hSw
        try dsimp only at hSw
        go_simp
      try simp only [qpu]
      refine qtk (i := 10) (oi := fyp23o2) (v := (.bool (s.co == 0))) hHeld ?_ ?_
      · intro w9 hSw
        try dsimp only at hSw
        go_simp
      try simp only [qpu]
      refine qtk (i := 11) (oi := fyp23o0) (v := (.bool (s.co == 0))) hHeld ?_ ?_
      · intro w9 hSw
        try dsimp only at hSw
        go_simp
      try simp only [qpu]
      refine wpAnyH_done (by kernel_rfl) ?_ _
      refine NoPanic.normal ?_
      go_wp2_with fail
      go_ret
      exact ⟨retB_fw (by rw [← HR.out]; first | rfl | (simp [Sm.ec, ecT, hq5, hq11]; done) | (simp [Sm.ec, ecT, hq5, hq11]; rfl)), bdq10⟩


  | true =>
    obtain ⟨Wm12, hWm12⟩ : ∃ W, w.alloc (.cells s.v 36) = W := ⟨_, rfl⟩
    have bm12 := bel_nw hWm12
    have Am12 := blk_nw hWm12
    have gA : w.heap.size ≤ w.heap.size := Nat.le_refl _
    obtain ⟨Wm13, hWm13⟩ : ∃ W, Wm12.alloc (.cells #[.int .i64 0, .int .i64 0] 45) = W := ⟨_, rfl⟩
    have bm13 := bel_al bm12 hWm13
    have Am13 := Am12.al hWm13
    have Bm13 := blk_nw hWm13
    have gB : w.heap.size ≤ Wm12.heap.size := bm12.size
    have nAB : w.heap.size ≠ Wm12.heap.size := by have := Am12.lt; omega
    have nBA : Wm12.heap.size ≠ w.heap.size := fun e => nAB e.symm
    obtain ⟨Wm14, hWm14⟩ : ∃ W, Wm13.setRow Wm12.heap.size #[.int .i64 8, .int .i64 0] = W := ⟨_, rfl⟩
    have Bm14 : Blk Wm14 Wm12.heap.size 45 #[.int .i64 8, .int .i64 0] := hWm14 ▸ Bm13.set #[.int .i64 8, .int .i64 0]
    have Am14 := hWm14 ▸ Am13.other nAB #[.int .i64 8, .int .i64 0]
    have bm14 := hWm14 ▸ below_setRow bm13 gB #[.int .i64 8, .int .i64 0]
    have c15 := Am14.cell 1 (.int .i64 s.w.pr) rfl
    obtain ⟨Wm16, hWm16⟩ : ∃ W, Wm14.setRow Wm12.heap.size #[.int .i64 128, .int .i64 129] = W := ⟨_, rfl⟩
    have Bm16 : Blk Wm16 Wm12.heap.size 45 #[.int .i64 128, .int .i64 129] := hWm16 ▸ Bm14.set #[.int .i64 128, .int .i64 129]
    have Am16 := hWm16 ▸ Am14.other nAB #[.int .i64 128, .int .i64 129]
    have bm16 := hWm16 ▸ below_setRow bm14 gB #[.int .i64 128, .int .i64 129]
    go_wp2_with (first | (refine wpList_store_row rfl _ _ _ rfl Wm12.heap.size #[.int .i64 8, .int .i64 0] (by rfl) (by rfl) _ _ Bm13 (by kernel_rfl) (by rfl) (by kernel_rfl) ?_; rw [hWm14]) | (refine wpList_store_row rfl _ _ _ rfl Wm12.heap.size #[.int .i64 128, .int .i64 129] (by rfl) (by rfl) _ _ Bm14 (by kernel_rfl) (by rfl) (by kernel_rfl) ?_; rw [hWm16]))
    clear c15
    obtain ⟨Wdq17, hWdq17⟩ : ∃ W, Wm16.drew = W := ⟨_, rfl⟩
    have Adq17 := hWdq17 ▸ Am16.drew
    have Bdq17 := hWdq17 ▸ Bm16.drew
    have bdq17 := hWdq17 ▸ bm16.drew
    refine wp_region_noPanic ?_
    refine wp_region_held_drew (S := fun w' => Blk w' w.heap.size 36 s.v ∧ Blk w' Wm12.heap.size 45 #[.int .i64 128, .int .i64 129]) (by kernel_rfl) (by rw [hWdq17]; exact ⟨Adq17, Bdq17⟩) (fun hHeld => ?_)
    rw [hWdq17] at hHeld ⊢
    refine qtk (i := 0) (oi := fyp23o10) (v := (.pointer (some ⟨w.heap.size, 14, none⟩))) hHeld ?_ ?_
    · intro w9 hSw
      try dsimp only at hSw
      go_simp
    try simp only [qpu]
    refine qtk (i := 1) (oi := fyp23o7) (v := (.int .i64 s.ty)) hHeld ?_ ?_
    · intro w9 hSw
      try dsimp only at hSw
      have hcc := hSw.1.cell 14 (.int .i64 s.ty) rfl
      go_simp
    try simp only [qpu]
    refine qtk (i := 2) (oi := fyp23o11) (v := (.int .i64 0)) hHeld ?_ ?_
    · intro w9 hSw
      try dsimp only at hSw
      go_simp
    try simp only [qpu]
    refine qtk (i := 3) (oi := fyp23o6) (v := (.pointer (some ⟨Wm12.heap.size, 0, none⟩))) hHeld ?_ ?_
    · intro w9 hSw
      try dsimp only at hSw
      go_simp
    try simp only [qpu]
    refine qtk (i := 4) (oi := fyp23o8) (v := (.int .i64 128)) hHeld ?_ ?_
    · intro w9 hSw
      try dsimp only at hSw
      have hcc := hSw.2.cell 0 (.int .i64 128) rfl
      go_simp
    try simp only [qpu]
    refine qtk (i := 5) (oi := fyp23o5) (v := (.bool (s.ty == 128))) hHeld ?_ ?_
    · intro w9 hSw
      try dsimp only at hSw
      go_simp
    try simp only [qpu]
    refine qtk (i := 6) (oi := fyp23o9) (v := (.bool (s.ty == 128))) hHeld ?_ ?_
    · intro w9 hSw
      try dsimp only at hSw
      go_simp
    try simp only [qpu]
    cases hq18 : (s.ty == 128) with
    | false =>
      refine qtn (i := 7) (oi := fyp23o4) hHeld ?_
      try simp only [qpu]
      refine qtn (i := 8) (oi := fyp23o3) hHeld ?_
      try simp only [qpu]
      refine qtn (i := 9) (oi := fyp23o1) hHeld ?_
      try simp only [qpu]
      refine qtk (i := 10) (oi := fyp23o2) (v := (.bool false)) hHeld ?_ ?_
      · intro w9 hSw
        try dsimp only at hSw
        go_simp
      try simp only [qpu]
      refine qtk (i := 11) (oi := fyp23o0) (v := (.bool false)) hHeld ?_ ?_
      · intro w9 hSw
        try dsimp only at hSw
        go_simp
      try simp only [qpu]
      refine wpAnyH_done (by kernel_rfl) ?_ _
      refine NoPanic.normal ?_
      go_wp2_with fail
      go_ret
      exact ⟨retB_fw (by rw [← HR.out]; first | rfl | (simp [Sm.ec, ecT, hq5, hq18]; done) | (simp [Sm.ec, ecT, hq5, hq18]; rfl)), bdq17⟩

    | true =>
      refine qtk (i := 7) (oi := fyp23o4) (v := (.pointer (some ⟨w.heap.size, 15, none⟩))) hHeld ?_ ?_
      · intro w9 hSw
        try dsimp only at hSw
        go_simp
      try simp only [qpu]
      refine qtk (i := 8) (oi := fyp23o3) (v := (.int .i64 s.co)) hHeld ?_ ?_
      · intro w9 hSw
        try dsimp only at hSw
        have hcc := hSw.1.cell 15 (.int .i64 s.co) rfl
        go_simp
      try simp only [qpu]
      refine qtk (i := 9) (oi := fyp23o1) (v := (.bool (s.co == 0))) hHeld ?_ ?_
      · intro w9 hSw
        try dsimp only at hSw
        go_simp
      try simp only [qpu]
      refine qtk (i := 10) (oi := fyp23o2) (v := (.bool (s.co == 0))) hHeld ?_ ?_
      · intro w9 hSw
        try dsimp only at hSw
        go_simp
      try simp only [qpu]
      refine qtk (i := 11) (oi := fyp23o0) (v := (.bool (s.co == 0))) hHeld ?_ ?_
      · intro w9 hSw
        try dsimp only at hSw
        go_simp
      try simp only [qpu]
      refine wpAnyH_done (by kernel_rfl) ?_ _
      refine NoPanic.normal ?_
      go_wp2_with fail
      go_ret
      exact ⟨retB_fw (by rw [← HR.out]; first | rfl | (simp [Sm.ec, ecT, hq5, hq18]; done) | (simp [Sm.ec, ecT, hq5, hq18]; rfl)), bdq17⟩
set_option maxRecDepth 100000 in
set_option maxHeartbeats 4000000 in
theorem echo1_fw (s : Sm) (w : World) :
    Calls Try.prog 61 #[.agg s.v, .int .i64 1] w fun e w' => e = .returned (.bool (s.ec true)) ∧ Below w.heap.size w w' := by
  obtain ⟨R, hR⟩ : ∃ R, s.ec true = R := ⟨_, rfl⟩
  have HR : Hid (s.ec true = R) := hR
  rw [hR]
  clear hR
  have b := Below.refl w.heap.size w
  go_enter Try.func61, Try.ntmps61
  cases hq5 : (s.w.pr == 58) with
  | false =>
    obtain ⟨Wm6, hWm6⟩ : ∃ W, w.alloc (.cells s.v 36) = W := ⟨_, rfl⟩
    have bm6 := bel_nw hWm6
    have Am6 := blk_nw hWm6
    have gA : w.heap.size ≤ w.heap.size := Nat.le_refl _
    obtain ⟨Wm7, hWm7⟩ : ∃ W, Wm6.alloc (.cells #[.int .i64 0, .int .i64 0] 45) = W := ⟨_, rfl⟩
    have bm7 := bel_al bm6 hWm7
    have Am7 := Am6.al hWm7
    have Bm7 := blk_nw hWm7
    have gB : w.heap.size ≤ Wm6.heap.size := bm6.size
    have nAB : w.heap.size ≠ Wm6.heap.size := by have := Am6.lt; omega
    have nBA : Wm6.heap.size ≠ w.heap.size := fun e => nAB e.symm
    obtain ⟨Wm8, hWm8⟩ : ∃ W, Wm7.setRow Wm6.heap.size #[.int .i64 8, .int .i64 0] = W := ⟨_, rfl⟩
    have Bm8 : Blk Wm8 Wm6.heap.size 45 #[.int .i64 8, .int .i64 0] := hWm8 ▸ Bm7.set #[.int .i64 8, .int .i64 0]
    have Am8 := hWm8 ▸ Am7.other nAB #[.int .i64 8, .int .i64 0]
    have bm8 := hWm8 ▸ below_setRow bm7 gB #[.int .i64 8, .int .i64 0]
    have c9 := Am8.cell 1 (.int .i64 s.w.pr) rfl
    go_wp2_with (refine wpList_store_row rfl _ _ _ rfl Wm6.heap.size #[.int .i64 8, .int .i64 0] (by rfl) (by rfl) _ _ Bm7 (by kernel_rfl) (by rfl) (by kernel_rfl) ?_; rw [hWm8])
    clear c9
    obtain ⟨Wdq10, hWdq10⟩ : ∃ W, Wm8.drew = W := ⟨_, rfl⟩
    have Adq10 := hWdq10 ▸ Am8.drew
    have Bdq10 := hWdq10 ▸ Bm8.drew
    have bdq10 := hWdq10 ▸ bm8.drew
    refine wp_region_noPanic ?_
    refine wp_region_held_drew (S := fun w' => Blk w' w.heap.size 36 s.v ∧ Blk w' Wm6.heap.size 45 #[.int .i64 8, .int .i64 0]) (by kernel_rfl) (by rw [hWdq10]; exact ⟨Adq10, Bdq10⟩) (fun hHeld => ?_)
    rw [hWdq10] at hHeld ⊢
    refine qtk (i := 0) (oi := fyp23o10) (v := (.pointer (some ⟨w.heap.size, 14, none⟩))) hHeld ?_ ?_
    · intro w9 hSw
      try dsimp only at hSw
      go_simp
    try simp only [qpu]
    refine qtk (i := 1) (oi := fyp23o7) (v := (.int .i64 s.ty)) hHeld ?_ ?_
    · intro w9 hSw
      try dsimp only at hSw
      have hcc := hSw.1.cell 14 (.int .i64 s.ty) rfl
      go_simp
    try simp only [qpu]
    refine qtk (i := 2) (oi := fyp23o11) (v := (.int .i64 1)) hHeld ?_ ?_
    · intro w9 hSw
      try dsimp only at hSw
      go_simp
    try simp only [qpu]
    refine qtk (i := 3) (oi := fyp23o6) (v := (.pointer (some ⟨Wm6.heap.size, 1, none⟩))) hHeld ?_ ?_
    · intro w9 hSw
      try dsimp only at hSw
      go_simp
    try simp only [qpu]
    refine qtk (i := 4) (oi := fyp23o8) (v := (.int .i64 0)) hHeld ?_ ?_
    · intro w9 hSw
      try dsimp only at hSw
      have hcc := hSw.2.cell 1 (.int .i64 0) rfl
      go_simp
    try simp only [qpu]
    refine qtk (i := 5) (oi := fyp23o5) (v := (.bool (s.ty == 0))) hHeld ?_ ?_
    · intro w9 hSw
      try dsimp only at hSw
      go_simp
    try simp only [qpu]
    refine qtk (i := 6) (oi := fyp23o9) (v := (.bool (s.ty == 0))) hHeld ?_ ?_
    · intro w9 hSw
      try dsimp only at hSw
      go_simp
    try simp only [qpu]
    cases hq11 : (s.ty == 0) with
    | false =>
      refine qtn (i := 7) (oi := fyp23o4) hHeld ?_
      try simp only [qpu]
      refine qtn (i := 8) (oi := fyp23o3) hHeld ?_
      try simp only [qpu]
      refine qtn (i := 9) (oi := fyp23o1) hHeld ?_
      try simp only [qpu]
      refine qtk (i := 10) (oi := fyp23o2) (v := (.bool false)) hHeld ?_ ?_
      · intro w9 hSw
        try dsimp only at hSw
        go_simp
      try simp only [qpu]
      refine qtk (i := 11) (oi := fyp23o0) (v := (.bool false)) hHeld ?_ ?_
      · intro w9 hSw
        try dsimp only at hSw
        go_simp
      try simp only [qpu]
      refine wpAnyH_done (by kernel_rfl) ?_ _
      refine NoPanic.normal ?_
      go_wp2_with fail
      go_ret
      exact ⟨retB_fw (by rw [← HR.out]; first | rfl | (simp [Sm.ec, ecT, hq5, hq11]; done) | (simp [Sm.ec, ecT, hq5, hq11]; rfl)), bdq10⟩

    | true =>
      refine qtk (i := 7) (oi := fyp23o4) (v := (.pointer (some ⟨w.heap.size, 15, none⟩))) hHeld ?_ ?_
      · intro w9 hSw
        try dsimp only at hSw
        go_simp
      try simp only [qpu]
      refine qtk (i := 8) (oi := fyp23o3) (v := (.int .i64 s.co)) hHeld ?_ ?_
      · intro w9 hSw
        try dsimp only at hSw
        have hcc := hSw.1.cell 15 (.int .i64 s.co) rfl
        go_simp
      try simp only [qpu]
      refine qtk (i := 9) (oi := fyp23o1) (v := (.bool (s.co == 0))) hHeld ?_ ?_
      · intro w9 hSw
        try dsimp only at hSw
        go_simp
      try simp only [qpu]
      refine qtk (i := 10) (oi := fyp23o2) (v := (.bool (s.co == 0))) hHeld ?_ ?_
      · intro w9 hSw
        try dsimp only at hSw
        go_simp
      try simp only [qpu]
      refine qtk (i := 11) (oi := fyp23o0) (v := (.bool (s.co == 0))) hHeld ?_ ?_
      · intro w9 hSw
        try dsimp only at hSw
        go_simp
      try simp only [qpu]
      refine wpAnyH_done (by kernel_rfl) ?_ _
      refine NoPanic.normal ?_
      go_wp2_with fail
      go_ret
      exact ⟨retB_fw (by rw [← HR.out]; first | rfl | (simp [Sm.ec, ecT, hq5, hq11]; done) | (simp [Sm.ec, ecT, hq5, hq11]; rfl)), bdq10⟩


  | true =>
    obtain ⟨Wm12, hWm12⟩ : ∃ W, w.alloc (.cells s.v 36) = W := ⟨_, rfl⟩
    have bm12 := bel_nw hWm12
    have Am12 := blk_nw hWm12
    have gA : w.heap.size ≤ w.heap.size := Nat.le_refl _
    obtain ⟨Wm13, hWm13⟩ : ∃ W, Wm12.alloc (.cells #[.int .i64 0, .int .i64 0] 45) = W := ⟨_, rfl⟩
    have bm13 := bel_al bm12 hWm13
    have Am13 := Am12.al hWm13
    have Bm13 := blk_nw hWm13
    have gB : w.heap.size ≤ Wm12.heap.size := bm12.size
    have nAB : w.heap.size ≠ Wm12.heap.size := by have := Am12.lt; omega
    have nBA : Wm12.heap.size ≠ w.heap.size := fun e => nAB e.symm
    obtain ⟨Wm14, hWm14⟩ : ∃ W, Wm13.setRow Wm12.heap.size #[.int .i64 8, .int .i64 0] = W := ⟨_, rfl⟩
    have Bm14 : Blk Wm14 Wm12.heap.size 45 #[.int .i64 8, .int .i64 0] := hWm14 ▸ Bm13.set #[.int .i64 8, .int .i64 0]
    have Am14 := hWm14 ▸ Am13.other nAB #[.int .i64 8, .int .i64 0]
    have bm14 := hWm14 ▸ below_setRow bm13 gB #[.int .i64 8, .int .i64 0]
    have c15 := Am14.cell 1 (.int .i64 s.w.pr) rfl
    obtain ⟨Wm16, hWm16⟩ : ∃ W, Wm14.setRow Wm12.heap.size #[.int .i64 128, .int .i64 129] = W := ⟨_, rfl⟩
    have Bm16 : Blk Wm16 Wm12.heap.size 45 #[.int .i64 128, .int .i64 129] := hWm16 ▸ Bm14.set #[.int .i64 128, .int .i64 129]
    have Am16 := hWm16 ▸ Am14.other nAB #[.int .i64 128, .int .i64 129]
    have bm16 := hWm16 ▸ below_setRow bm14 gB #[.int .i64 128, .int .i64 129]
    go_wp2_with (first | (refine wpList_store_row rfl _ _ _ rfl Wm12.heap.size #[.int .i64 8, .int .i64 0] (by rfl) (by rfl) _ _ Bm13 (by kernel_rfl) (by rfl) (by kernel_rfl) ?_; rw [hWm14]) | (refine wpList_store_row rfl _ _ _ rfl Wm12.heap.size #[.int .i64 128, .int .i64 129] (by rfl) (by rfl) _ _ Bm14 (by kernel_rfl) (by rfl) (by kernel_rfl) ?_; rw [hWm16]))
    clear c15
    obtain ⟨Wdq17, hWdq17⟩ : ∃ W, Wm16.drew = W := ⟨_, rfl⟩
    have Adq17 := hWdq17 ▸ Am16.drew
    have Bdq17 := hWdq17 ▸ Bm16.drew
    have bdq17 := hWdq17 ▸ bm16.drew
    refine wp_region_noPanic ?_
    refine wp_region_held_drew (S := fun w' => Blk w' w.heap.size 36 s.v ∧ Blk w' Wm12.heap.size 45 #[.int .i64 128, .int .i64 129]) (by kernel_rfl) (by rw [hWdq17]; exact ⟨Adq17, Bdq17⟩) (fun hHeld => ?_)
    rw [hWdq17] at hHeld ⊢
    refine qtk (i := 0) (oi := fyp23o10) (v := (.pointer (some ⟨w.heap.size, 14, none⟩))) hHeld ?_ ?_
    · intro w9 hSw
      try dsimp only at hSw
      go_simp
    try simp only [qpu]
    refine qtk (i := 1) (oi := fyp23o7) (v := (.int .i64 s.ty)) hHeld ?_ ?_
    · intro w9 hSw
      try dsimp only at hSw
      have hcc := hSw.1.cell 14 (.int .i64 s.ty) rfl
      go_simp
    try simp only [qpu]
    refine qtk (i := 2) (oi := fyp23o11) (v := (.int .i64 1)) hHeld ?_ ?_
    · intro w9 hSw
      try dsimp only at hSw
      go_simp
    try simp only [qpu]
    refine qtk (i := 3) (oi := fyp23o6) (v := (.pointer (some ⟨Wm12.heap.size, 1, none⟩))) hHeld ?_ ?_
    · intro w9 hSw
      try dsimp only at hSw
      go_simp
    try simp only [qpu]
    refine qtk (i := 4) (oi := fyp23o8) (v := (.int .i64 129)) hHeld ?_ ?_
    · intro w9 hSw
      try dsimp only at hSw
      have hcc := hSw.2.cell 1 (.int .i64 129) rfl
      go_simp
    try simp only [qpu]
    refine qtk (i := 5) (oi := fyp23o5) (v := (.bool (s.ty == 129))) hHeld ?_ ?_
    · intro w9 hSw
      try dsimp only at hSw
      go_simp
    try simp only [qpu]
    refine qtk (i := 6) (oi := fyp23o9) (v := (.bool (s.ty == 129))) hHeld ?_ ?_
    · intro w9 hSw
      try dsimp only at hSw
      go_simp
    try simp only [qpu]
    cases hq18 : (s.ty == 129) with
    | false =>
      refine qtn (i := 7) (oi := fyp23o4) hHeld ?_
      try simp only [qpu]
      refine qtn (i := 8) (oi := fyp23o3) hHeld ?_
      try simp only [qpu]
      refine qtn (i := 9) (oi := fyp23o1) hHeld ?_
      try simp only [qpu]
      refine qtk (i := 10) (oi := fyp23o2) (v := (.bool false)) hHeld ?_ ?_
      · intro w9 hSw
        try dsimp only at hSw
        go_simp
      try simp only [qpu]
      refine qtk (i := 11) (oi := fyp23o0) (v := (.bool false)) hHeld ?_ ?_
      · intro w9 hSw
        try dsimp only at hSw
        go_simp
      try simp only [qpu]
      refine wpAnyH_done (by kernel_rfl) ?_ _
      refine NoPanic.normal ?_
      go_wp2_with fail
      go_ret
      exact ⟨retB_fw (by rw [← HR.out]; first | rfl | (simp [Sm.ec, ecT, hq5, hq18]; done) | (simp [Sm.ec, ecT, hq5, hq18]; rfl)), bdq17⟩

    | true =>
      refine qtk (i := 7) (oi := fyp23o4) (v := (.pointer (some ⟨w.heap.size, 15, none⟩))) hHeld ?_ ?_
      · intro w9 hSw
        try dsimp only at hSw
        go_simp
      try simp only [qpu]
      refine qtk (i := 8) (oi := fyp23o3) (v := (.int .i64 s.co)) hHeld ?_ ?_
      · intro w9 hSw
        try dsimp only at hSw
        have hcc := hSw.1.cell 15 (.int .i64 s.co) rfl
        go_simp
      try simp only [qpu]
      refine qtk (i := 9) (oi := fyp23o1) (v := (.bool (s.co == 0))) hHeld ?_ ?_
      · intro w9 hSw
        try dsimp only at hSw
        go_simp
      try simp only [qpu]
      refine qtk (i := 10) (oi := fyp23o2) (v := (.bool (s.co == 0))) hHeld ?_ ?_
      · intro w9 hSw
        try dsimp only at hSw
        go_simp
      try simp only [qpu]
      refine qtk (i := 11) (oi := fyp23o0) (v := (.bool (s.co == 0))) hHeld ?_ ?_
      · intro w9 hSw
        try dsimp only at hSw
        go_simp
      try simp only [qpu]
      refine wpAnyH_done (by kernel_rfl) ?_ _
      refine NoPanic.normal ?_
      go_wp2_with fail
      go_ret
      exact ⟨retB_fw (by rw [← HR.out]; first | rfl | (simp [Sm.ec, ecT, hq5, hq18]; done) | (simp [Sm.ec, ecT, hq5, hq18]; rfl)), bdq17⟩
set_option maxRecDepth 100000 in
set_option maxHeartbeats 4000000 in
theorem begin_fw (s : Sm) (w : World) :
    Calls Try.prog 33 #[.agg s.v] w fun e w' => e = .returned (.tuple #[.agg s.beg.1.v, .int .i64 s.beg.2]) ∧ Below w.heap.size w w' := by
  obtain ⟨R, hR⟩ : ∃ R, s.beg = R := ⟨_, rfl⟩
  have HR : Hid (s.beg = R) := hR
  rw [hR]
  clear hR
  have b := Below.refl w.heap.size w
  go_enter Try.func33, Try.ntmps33
  cases hq4 : (s.w.pr == 6) with
  | false =>
    cases hq8 : (s.w.pr == 17) with
    | false =>
      obtain ⟨Wm9, hWm9⟩ : ∃ W, w.alloc (.cells s.v 36) = W := ⟨_, rfl⟩
      have bm9 := bel_nw hWm9
      have Am9 := blk_nw hWm9
      have gA : w.heap.size ≤ w.heap.size := Nat.le_refl _
      obtain ⟨Wm10, hWm10⟩ : ∃ W, Wm9.alloc (.cells #[.int .i64 0, .int .u32 0, .int .u32 0, .int .u32 0, .int .u32 0, .bool false, .bool false, .bool false, .bool false] 31) = W := ⟨_, rfl⟩
      have bm10 := bel_al bm9 hWm10
      have Am10 := Am9.al hWm10
      have Bm10 := blk_nw hWm10
      have gB : w.heap.size ≤ Wm9.heap.size := bm9.size
      have nAB : w.heap.size ≠ Wm9.heap.size := by have := Am9.lt; omega
      have nBA : Wm9.heap.size ≠ w.heap.size := fun e => nAB e.symm
      have c11 := Am10.cell 1 (.int .i64 s.w.pr) rfl
      go_wp2_with (refine wpList_load_blk_w (by rfl) _ _ rfl w.heap.size (by rfl) _ Am10 Try.underlying36 (by kernel_rfl) ?_)
      clear c11
      refine Calls.mono (echo0_fw s _) ?_
      rintro e Wm12 ⟨rfl, bb⟩
      have Am12 := Am10.kept bb
      have Bm12 := Bm10.kept bb
      have bm12 := bel_tr bm10 bb
      clear bb
      clear Am10 Bm10 bm10
      cases hq13 : (Sm.ec s false) with
      | false =>
        obtain ⟨Wm14, hWm14⟩ : ∃ W, Wm12.setRow Wm9.heap.size cn0.v = W := ⟨_, rfl⟩
        have Bm14 : Blk Wm14 Wm9.heap.size 31 cn0.v := hWm14 ▸ Bm12.set cn0.v
        have Am14 := hWm14 ▸ Am12.other nAB cn0.v
        have bm14 := hWm14 ▸ below_setRow bm12 gB cn0.v
        go_wp2_with (refine wpList_store_row rfl _ _ _ rfl Wm9.heap.size cn0.v (by rfl) (by rfl) _ _ Bm12 (by kernel_rfl) (by rfl) (by kernel_rfl) ?_; rw [hWm14])
        have hR2 : R = ((cn0 : Cn), (23 : Int)) := by rw [← HR.out]; first | rfl | (simp [Sm.beg, hq4, hq8, hq13]; done) | (simp [Sm.beg, hq4, hq8, hq13]; rfl)
        subst hR2
        exact ret_cell_tmp (k := 2) (j := 3) Try.f33 (by kernel_rfl) Bm14 Try.underlying31 (by kernel_rfl) (by rfl) (by rfl) rfl ⟨rfl, bm14⟩

      | true =>
        obtain ⟨Wm15, hWm15⟩ : ∃ W, Wm12.setRow Wm9.heap.size cn0.v = W := ⟨_, rfl⟩
        have Bm15 : Blk Wm15 Wm9.heap.size 31 cn0.v := hWm15 ▸ Bm12.set cn0.v
        have Am15 := hWm15 ▸ Am12.other nAB cn0.v
        have bm15 := hWm15 ▸ below_setRow bm12 gB cn0.v
        go_wp2_with (refine wpList_store_row rfl _ _ _ rfl Wm9.heap.size cn0.v (by rfl) (by rfl) _ _ Bm12 (by kernel_rfl) (by rfl) (by kernel_rfl) ?_; rw [hWm15])
        have hR2 : R = ((cn0 : Cn), (0 : Int)) := by rw [← HR.out]; first | rfl | (simp [Sm.beg, hq4, hq8, hq13]; done) | (simp [Sm.beg, hq4, hq8, hq13]; rfl)
        subst hR2
        exact ret_cell_tmp (k := 2) (j := 3) Try.f33 (by kernel_rfl) Bm15 Try.underlying31 (by kernel_rfl) (by rfl) (by rfl) rfl ⟨rfl, bm15⟩


    | true =>
      obtain ⟨Wm16, hWm16⟩ : ∃ W, w.alloc (.cells s.v 36) = W := ⟨_, rfl⟩
      have bm16 := bel_nw hWm16
      have Am16 := blk_nw hWm16
      have gA : w.heap.size ≤ w.heap.size := Nat.le_refl _
      obtain ⟨Wm17, hWm17⟩ : ∃ W, Wm16.alloc (.cells #[.int .i64 0, .int .u32 0, .int .u32 0, .int .u32 0, .int .u32 0, .bool false, .bool false, .bool false, .bool false] 31) = W := ⟨_, rfl⟩
      have bm17 := bel_al bm16 hWm17
      have Am17 := Am16.al hWm17
      have Bm17 := blk_nw hWm17
      have gB : w.heap.size ≤ Wm16.heap.size := bm16.size
      have nAB : w.heap.size ≠ Wm16.heap.size := by have := Am16.lt; omega
      have nBA : Wm16.heap.size ≠ w.heap.size := fun e => nAB e.symm
      have c18 := Am17.cell 1 (.int .i64 s.w.pr) rfl
      obtain ⟨Wm19, hWm19⟩ : ∃ W, Wm17.setRow Wm16.heap.size cn0.v = W := ⟨_, rfl⟩
      have Bm19 : Blk Wm19 Wm16.heap.size 31 cn0.v := hWm19 ▸ Bm17.set cn0.v
      have Am19 := hWm19 ▸ Am17.other nAB cn0.v
      have bm19 := hWm19 ▸ below_setRow bm17 gB cn0.v
      go_wp2_with (refine wpList_store_row rfl _ _ _ rfl Wm16.heap.size cn0.v (by rfl) (by rfl) _ _ Bm17 (by kernel_rfl) (by rfl) (by kernel_rfl) ?_; rw [hWm19])
      have hR2 : R = ((cn0 : Cn), (0 : Int)) := by rw [← HR.out]; first | rfl | (simp [Sm.beg, hq4, hq8]; done) | (simp [Sm.beg, hq4, hq8]; rfl)
      subst hR2
      exact ret_cell_tmp (k := 2) (j := 3) Try.f33 (by kernel_rfl) Bm19 Try.underlying31 (by kernel_rfl) (by rfl) (by rfl) rfl ⟨rfl, bm19⟩


  | true =>
    obtain ⟨Wm20, hWm20⟩ : ∃ W, w.alloc (.cells s.v 36) = W := ⟨_, rfl⟩
    have bm20 := bel_nw hWm20
    have Am20 := blk_nw hWm20
    have gA : w.heap.size ≤ w.heap.size := Nat.le_refl _
    obtain ⟨Wm21, hWm21⟩ : ∃ W, Wm20.alloc (.cells #[.int .i64 0, .int .u32 0, .int .u32 0, .int .u32 0, .int .u32 0, .bool false, .bool false, .bool false, .bool false] 31) = W := ⟨_, rfl⟩
    have bm21 := bel_al bm20 hWm21
    have Am21 := Am20.al hWm21
    have Bm21 := blk_nw hWm21
    have gB : w.heap.size ≤ Wm20.heap.size := bm20.size
    have nAB : w.heap.size ≠ Wm20.heap.size := by have := Am20.lt; omega
    have nBA : Wm20.heap.size ≠ w.heap.size := fun e => nAB e.symm
    have c22 := Am21.cell 1 (.int .i64 s.w.pr) rfl
    have c23 := Am21.cell 10 (.int .i64 s.fl) rfl
    have c24 := Am21.cell 11 (.int .u32 s.sq) rfl
    have c25 := Am21.cell 13 (.int .i64 s.win) rfl
    have c26 := Am21.cell 27 (.slice s.da s.dn s.dc) rfl
    go_wp2_with fail
    clear c22 c23 c24 c25 c26
    refine Calls.mono (begin_tc s.fl s.sq s.win (s.dn : Int) _) ?_
    rintro e Wm27 ⟨rfl, bb⟩
    have Am27 := Am21.kept bb
    have Bm27 := Bm21.kept bb
    have bm27 := bel_tr bm21 bb
    clear bb
    clear Am21 Bm21 bm21
    obtain ⟨Wm28, hWm28⟩ : ∃ W, Wm27.setRow Wm20.heap.size (beg s.fl s.sq s.win (s.dn : Int)).1.v = W := ⟨_, rfl⟩
    have Bm28 : Blk Wm28 Wm20.heap.size 31 (beg s.fl s.sq s.win (s.dn : Int)).1.v := hWm28 ▸ Bm27.set (beg s.fl s.sq s.win (s.dn : Int)).1.v
    have Am28 := hWm28 ▸ Am27.other nAB (beg s.fl s.sq s.win (s.dn : Int)).1.v
    have bm28 := hWm28 ▸ below_setRow bm27 gB (beg s.fl s.sq s.win (s.dn : Int)).1.v
    go_wp2_with (refine wpList_store_row rfl _ _ _ rfl Wm20.heap.size (beg s.fl s.sq s.win (s.dn : Int)).1.v (by rfl) (by rfl) _ _ Bm27 (by kernel_rfl) (by rfl) (by kernel_rfl) ?_; rw [hWm28])
    have hR2 : R = (((beg s.fl s.sq s.win (s.dn : Int)).1 : Cn), ((beg s.fl s.sq s.win (s.dn : Int)).2 : Int)) := by rw [← HR.out]; first | rfl | (simp [Sm.beg, hq4]; done) | (simp [Sm.beg, hq4]; rfl)
    subst hR2
    exact ret_cell_tmp (k := 2) (j := 3) Try.f33 (by kernel_rfl) Bm28 Try.underlying31 (by kernel_rfl) (by rfl) (by rfl) rfl ⟨rfl, bm28⟩
set_option maxRecDepth 100000 in
set_option maxHeartbeats 4000000 in
theorem start_fw (s : Sm) (now help : Int) (w : World) :
    Calls Try.prog 10 #[.agg s.v, .int .i64 now, .int .i64 help] w fun e w' => e = .returned (.tuple #[.agg (startF s now help).1.v, .int .i64 (startF s now help).2]) ∧ Below w.heap.size w w' := by
  obtain ⟨R, hR⟩ : ∃ R, startF s now help = R := ⟨_, rfl⟩
  have HR : Hid (startF s now help = R) := hR
  rw [hR]
  clear hR
  have b := Below.refl w.heap.size w
  go_enter Try.func10, Try.ntmps10
  obtain ⟨Wm1, hWm1⟩ : ∃ W, w.alloc (.cells s.v 36) = W := ⟨_, rfl⟩
  have bm1 := bel_nw hWm1
  have Am1 := blk_nw hWm1
  have gA : w.heap.size ≤ w.heap.size := Nat.le_refl _
  obtain ⟨Wm2, hWm2⟩ : ∃ W, Wm1.alloc (.cells #[.int .i64 0, .int .i64 0, .int .i64 0, .int .u64 0, .int .u64 0, .int .i64 0, .int .u64 0, .int .u64 0, .int .i64 0, .int .i64 0, .int .i64 0, .int .u32 0, .int .u32 0, .int .u32 0, .int .u32 0, .bool false, .bool false, .bool false, .bool false, .int .i64 0, .int .i64 0, .bool false] 33) = W := ⟨_, rfl⟩
  have bm2 := bel_al bm1 hWm2
  have Am2 := Am1.al hWm2
  have Bm2 := blk_nw hWm2
  have gB : w.heap.size ≤ Wm1.heap.size := bm1.size
  have nAB : w.heap.size ≠ Wm1.heap.size := by have := Am1.lt; omega
  have nBA : Wm1.heap.size ≠ w.heap.size := fun e => nAB e.symm
  go_wp2_with (refine wpList_load_sub_w (by rfl) _ _ rfl w.heap.size 0 _ (by rfl) _ s.w.v Am2 (by rfl) Try.underlying26 (by kernel_rfl) ?_)
  refine Calls.mono (right_t s.w _) ?_
  rintro e Wm3 ⟨rfl, bb⟩
  have Am3 := Am2.kept bb
  have Bm3 := Bm2.kept bb
  have bm3 := bel_tr bm2 bb
  clear bb
  clear Am2 Bm2 bm2
  cases hq4 : s.w.right with
  | false =>
    obtain ⟨Wm5, hWm5⟩ : ∃ W, Wm3.setRow Wm1.heap.size fl0.v = W := ⟨_, rfl⟩
    have Bm5 : Blk Wm5 Wm1.heap.size 33 fl0.v := hWm5 ▸ Bm3.set fl0.v
    have Am5 := hWm5 ▸ Am3.other nAB fl0.v
    have bm5 := hWm5 ▸ below_setRow bm3 gB fl0.v
    go_wp2_with (refine wpList_store_row rfl _ _ _ rfl Wm1.heap.size fl0.v (by rfl) (by rfl) _ _ Bm3 (by kernel_rfl) (by rfl) (by kernel_rfl) ?_; rw [hWm5])
    have hR2 : R = ((fl0 : Fl), (1 : Int)) := by rw [← HR.out]; first | rfl | (simp [startF, hq4]; done) | (simp [startF, hq4]; rfl)
    subst hR2
    exact ret_cell_tmp (k := 6) (j := 7) Try.f10 (by kernel_rfl) Bm5 Try.underlying33 (by kernel_rfl) (by rfl) (by rfl) rfl ⟨rfl, bm5⟩

  | true =>
    go_wp2_with fail
    refine Calls.mono (now_fw now _) ?_
    rintro e Wm6 ⟨rfl, bb⟩
    have Am6 := Am3.kept bb
    have Bm6 := Bm3.kept bb
    have bm6 := bel_tr bm3 bb
    clear bb
    clear Am3 Bm3 bm3
    cases hq7 : (nowB now) with
    | false =>
      obtain ⟨Wm8, hWm8⟩ : ∃ W, Wm6.setRow Wm1.heap.size fl0.v = W := ⟨_, rfl⟩
      have Bm8 : Blk Wm8 Wm1.heap.size 33 fl0.v := hWm8 ▸ Bm6.set fl0.v
      have Am8 := hWm8 ▸ Am6.other nAB fl0.v
      have bm8 := hWm8 ▸ below_setRow bm6 gB fl0.v
      go_wp2_with (refine wpList_store_row rfl _ _ _ rfl Wm1.heap.size fl0.v (by rfl) (by rfl) _ _ Bm6 (by kernel_rfl) (by rfl) (by kernel_rfl) ?_; rw [hWm8])
      have hR2 : R = ((fl0 : Fl), (1 : Int)) := by rw [← HR.out]; first | rfl | (simp [startF, hq4, hq7]; done) | (simp [startF, hq4, hq7]; rfl)
      subst hR2
      exact ret_cell_tmp (k := 6) (j := 7) Try.f10 (by kernel_rfl) Bm8 Try.underlying33 (by kernel_rfl) (by rfl) (by rfl) rfl ⟨rfl, bm8⟩

    | true =>
      go_wp2_with fail
      refine Calls.mono (help_fw help _) ?_
      rintro e Wm9 ⟨rfl, bb⟩
      have Am9 := Am6.kept bb
      have Bm9 := Bm6.kept bb
      have bm9 := bel_tr bm6 bb
      clear bb
      clear Am6 Bm6 bm6
      cases hq10 : (hlpB help) with
      | false =>
        obtain ⟨Wm11, hWm11⟩ : ∃ W, Wm9.setRow Wm1.heap.size fl0.v = W := ⟨_, rfl⟩
        have Bm11 : Blk Wm11 Wm1.heap.size 33 fl0.v := hWm11 ▸ Bm9.set fl0.v
        have Am11 := hWm11 ▸ Am9.other nAB fl0.v
        have bm11 := hWm11 ▸ below_setRow bm9 gB fl0.v
        go_wp2_with (refine wpList_store_row rfl _ _ _ rfl Wm1.heap.size fl0.v (by rfl) (by rfl) _ _ Bm9 (by kernel_rfl) (by rfl) (by kernel_rfl) ?_; rw [hWm11])
        have hR2 : R = ((fl0 : Fl), (1 : Int)) := by rw [← HR.out]; first | rfl | (simp [startF, hq4, hq7, hq10]; done) | (simp [startF, hq4, hq7, hq10]; rfl)
        subst hR2
        exact ret_cell_tmp (k := 6) (j := 7) Try.f10 (by kernel_rfl) Bm11 Try.underlying33 (by kernel_rfl) (by rfl) (by rfl) rfl ⟨rfl, bm11⟩

      | true =>
        go_wp2_with (refine wpList_load_blk_w (by rfl) _ _ rfl w.heap.size (by rfl) _ Am9 Try.underlying36 (by kernel_rfl) ?_)
        refine Calls.mono (begin_fw s _) ?_
        rintro e Wm12 ⟨rfl, bb⟩
        have Am12 := Am9.kept bb
        have Bm12 := Bm9.kept bb
        have bm12 := bel_tr bm9 bb
        clear bb
        clear Am9 Bm9 bm9
        cases hq15 : ((s.beg).2 != 0) with
        | false =>
          obtain ⟨Wm16, hWm16⟩ : ∃ W, Wm12.alloc (.cells #[.int .i64 0, .int .u32 0, .int .u32 0, .int .u32 0, .int .u32 0, .bool false, .bool false, .bool false, .bool false] 31) = W := ⟨_, rfl⟩
          have bm16 := bel_al bm12 hWm16
          have Am16 := Am12.al hWm16
          have Bm16 := Bm12.al hWm16
          have Cm16 := blk_nw hWm16
          have gC : w.heap.size ≤ Wm12.heap.size := bm12.size
          have nAC : w.heap.size ≠ Wm12.heap.size := by have := Am12.lt; omega
          have nCA : Wm12.heap.size ≠ w.heap.size := fun e => nAC e.symm
          have nBC : Wm1.heap.size ≠ Wm12.heap.size := by have := Bm12.lt; omega
          have nCB : Wm12.heap.size ≠ Wm1.heap.size := fun e => nBC e.symm
          obtain ⟨Wm17, hWm17⟩ : ∃ W, Wm16.setRow Wm12.heap.size (s.beg).1.v = W := ⟨_, rfl⟩
          have Cm17 : Blk Wm17 Wm12.heap.size 31 (s.beg).1.v := hWm17 ▸ Cm16.set (s.beg).1.v
          have Am17 := hWm17 ▸ Am16.other nAC (s.beg).1.v
          have Bm17 := hWm17 ▸ Bm16.other nBC (s.beg).1.v
          have bm17 := hWm17 ▸ below_setRow bm16 gC (s.beg).1.v
          go_wp2_with (first | (refine wpList_store_row rfl _ _ _ rfl Wm12.heap.size (s.beg).1.v (by rfl) (by rfl) _ _ Cm16 (by kernel_rfl) (by rfl) (by kernel_rfl) ?_; rw [hWm17]) | (refine wpList_load_sub_w (by rfl) _ _ rfl w.heap.size 0 _ (by rfl) _ s.w.v Am17 (by rfl) Try.underlying26 (by kernel_rfl) ?_) | (refine wpList_load_blk_w (by rfl) _ _ rfl Wm12.heap.size (by rfl) _ Cm17 Try.underlying31 (by kernel_rfl) ?_))
          refine Calls.mono (keep_fw (⟨s.w, (s.beg).1, 0, help, false⟩) now _ (by assumption) (startC _ (by assumption))) ?_
          rintro e Wm18 ⟨rfl, bb⟩
          have Am18 := Am17.kept bb
          have Bm18 := Bm17.kept bb
          have Cm18 := Cm17.kept bb
          have bm18 := bel_tr bm17 bb
          clear bb
          clear Am17 Bm17 Cm17 bm17
          obtain ⟨Wm19, hWm19⟩ : ∃ W, Wm18.setRow Wm1.heap.size (Fl.keep (⟨s.w, (s.beg).1, 0, help, false⟩) now).v = W := ⟨_, rfl⟩
          have Bm19 : Blk Wm19 Wm1.heap.size 33 (Fl.keep (⟨s.w, (s.beg).1, 0, help, false⟩) now).v := hWm19 ▸ Bm18.set (Fl.keep (⟨s.w, (s.beg).1, 0, help, false⟩) now).v
          have Am19 := hWm19 ▸ Am18.other nAB (Fl.keep (⟨s.w, (s.beg).1, 0, help, false⟩) now).v
          have Cm19 := hWm19 ▸ Cm18.other nCB (Fl.keep (⟨s.w, (s.beg).1, 0, help, false⟩) now).v
          have bm19 := hWm19 ▸ below_setRow bm18 gB (Fl.keep (⟨s.w, (s.beg).1, 0, help, false⟩) now).v
          go_wp2_with (refine wpList_store_row rfl _ _ _ rfl Wm1.heap.size (Fl.keep (⟨s.w, (s.beg).1, 0, help, false⟩) now).v (by rfl) (by rfl) _ _ Bm18 (by kernel_rfl) (by rfl) (by kernel_rfl) ?_; rw [hWm19])
          have hR2 : R = (((Fl.keep (⟨s.w, (s.beg).1, 0, help, false⟩) now) : Fl), (0 : Int)) := by rw [← HR.out]; first | rfl | (simp [startF, hq4, hq7, hq10, bne_f_fw hq15]; done) | (simp [startF, hq4, hq7, hq10, bne_f_fw hq15]; rfl)
          subst hR2
          exact ret_cell_tmp (k := 6) (j := 7) Try.f10 (by kernel_rfl) Bm19 Try.underlying33 (by kernel_rfl) (by rfl) (by rfl) rfl ⟨rfl, bm19⟩

        | true =>
          obtain ⟨Wm20, hWm20⟩ : ∃ W, Wm12.alloc (.cells #[.int .i64 0, .int .u32 0, .int .u32 0, .int .u32 0, .int .u32 0, .bool false, .bool false, .bool false, .bool false] 31) = W := ⟨_, rfl⟩
          have bm20 := bel_al bm12 hWm20
          have Am20 := Am12.al hWm20
          have Bm20 := Bm12.al hWm20
          have Cm20 := blk_nw hWm20
          have gC : w.heap.size ≤ Wm12.heap.size := bm12.size
          have nAC : w.heap.size ≠ Wm12.heap.size := by have := Am12.lt; omega
          have nCA : Wm12.heap.size ≠ w.heap.size := fun e => nAC e.symm
          have nBC : Wm1.heap.size ≠ Wm12.heap.size := by have := Bm12.lt; omega
          have nCB : Wm12.heap.size ≠ Wm1.heap.size := fun e => nBC e.symm
          obtain ⟨Wm21, hWm21⟩ : ∃ W, Wm20.setRow Wm12.heap.size (s.beg).1.v = W := ⟨_, rfl⟩
          have Cm21 : Blk Wm21 Wm12.heap.size 31 (s.beg).1.v := hWm21 ▸ Cm20.set (s.beg).1.v
          have Am21 := hWm21 ▸ Am20.other nAC (s.beg).1.v
          have Bm21 := hWm21 ▸ Bm20.other nBC (s.beg).1.v
          have bm21 := hWm21 ▸ below_setRow bm20 gC (s.beg).1.v
          obtain ⟨Wm22, hWm22⟩ : ∃ W, Wm21.setRow Wm1.heap.size fl0.v = W := ⟨_, rfl⟩
          have Bm22 : Blk Wm22 Wm1.heap.size 33 fl0.v := hWm22 ▸ Bm21.set fl0.v
          have Am22 := hWm22 ▸ Am21.other nAB fl0.v
          have Cm22 := hWm22 ▸ Cm21.other nCB fl0.v
          have bm22 := hWm22 ▸ below_setRow bm21 gB fl0.v
          go_wp2_with (first | (refine wpList_store_row rfl _ _ _ rfl Wm12.heap.size (s.beg).1.v (by rfl) (by rfl) _ _ Cm20 (by kernel_rfl) (by rfl) (by kernel_rfl) ?_; rw [hWm21]) | (refine wpList_store_row rfl _ _ _ rfl Wm1.heap.size fl0.v (by rfl) (by rfl) _ _ Bm21 (by kernel_rfl) (by rfl) (by kernel_rfl) ?_; rw [hWm22]))
          have hR2 : R = ((fl0 : Fl), ((s.beg).2 : Int)) := by rw [← HR.out]; first | rfl | (simp [startF, hq4, hq7, hq10, bne_t_fw hq15]; done) | (simp [startF, hq4, hq7, hq10, bne_t_fw hq15]; rfl)
          subst hR2
          exact ret_cell_tmp (k := 6) (j := 7) Try.f10 (by kernel_rfl) Bm22 Try.underlying33 (by kernel_rfl) (by rfl) (by rfl) rfl ⟨rfl, bm22⟩
set_option maxRecDepth 100000 in
set_option maxHeartbeats 4000000 in
theorem way1_fw (f : Fl) (w : World) :
    Calls Try.prog 43 #[.agg f.v, .int .i64 1] w fun e w' => e = .returned (.agg (f.way true).v) ∧ Below w.heap.size w w' := by
  obtain ⟨R, hR⟩ : ∃ R, f.way true = R := ⟨_, rfl⟩
  have HR : Hid (f.way true = R) := hR
  rw [hR]
  clear hR
  have b := Below.refl w.heap.size w
  go_enter Try.func43, Try.ntmps43
  obtain ⟨Wm1, hWm1⟩ : ∃ W, w.alloc (.cells f.v 33) = W := ⟨_, rfl⟩
  have bm1 := bel_nw hWm1
  have Am1 := blk_nw hWm1
  have gA : w.heap.size ≤ w.heap.size := Nat.le_refl _
  obtain ⟨Wm2, hWm2⟩ : ∃ W, Wm1.alloc (.cells #[.int .i64 0, .int .i64 0, .int .i64 0, .int .u64 0, .int .u64 0, .int .i64 0, .int .u64 0, .int .u64 0, .int .i64 0, .int .i64 0] 26) = W := ⟨_, rfl⟩
  have bm2 := bel_al bm1 hWm2
  have Am2 := Am1.al hWm2
  have Bm2 := blk_nw hWm2
  have gB : w.heap.size ≤ Wm1.heap.size := bm1.size
  have nAB : w.heap.size ≠ Wm1.heap.size := by have := Am1.lt; omega
  have nBA : Wm1.heap.size ≠ w.heap.size := fun e => nAB e.symm
  go_wp2_with (refine wpList_load_sub_w (by rfl) _ _ rfl w.heap.size 0 _ (by rfl) _ f.w.v Am2 (by rfl) Try.underlying26 (by kernel_rfl) ?_)
  refine Calls.mono (rev_t f.w _) ?_
  rintro e Wm3 ⟨rfl, bb⟩
  have Am3 := Am2.kept bb
  have Bm3 := Bm2.kept bb
  have bm3 := bel_tr bm2 bb
  clear bb
  clear Am2 Bm2 bm2
  obtain ⟨Wm4, hWm4⟩ : ∃ W, Wm3.setRow Wm1.heap.size f.w.rev.v = W := ⟨_, rfl⟩
  have Bm4 : Blk Wm4 Wm1.heap.size 26 f.w.rev.v := hWm4 ▸ Bm3.set f.w.rev.v
  have Am4 := hWm4 ▸ Am3.other nAB f.w.rev.v
  have bm4 := hWm4 ▸ below_setRow bm3 gB f.w.rev.v
  go_wp2_with (refine wpList_store_row rfl _ _ _ rfl Wm1.heap.size f.w.rev.v (by rfl) (by rfl) _ _ Bm3 (by kernel_rfl) (by rfl) (by kernel_rfl) ?_; rw [hWm4])
  have hR2 : R = (f.w.rev : Wy) := by rw [← HR.out]; first | rfl | (simp [Fl.way]; done) | (simp [Fl.way]; rfl)
  subst hR2
  exact ret_cell (k := 4) Try.f43 (by kernel_rfl) Bm4 Try.underlying26 (by kernel_rfl) (by rfl) rfl ⟨rfl, bm4⟩
set_option maxRecDepth 100000 in
set_option maxHeartbeats 4000000 in
theorem step1_fw (c : Cn) (s : Sm) (w : World) :
    Calls Try.prog 44 #[.agg c.v, .int .i64 1, .agg s.v] w fun e w' => e = .returned (.tuple #[.agg (s.stp c true).1.v, .int .i64 (s.stp c true).2]) ∧ Below w.heap.size w w' := by
  obtain ⟨R, hR⟩ : ∃ R, s.stp c true = R := ⟨_, rfl⟩
  have HR : Hid (s.stp c true = R) := hR
  rw [hR]
  clear hR
  have b := Below.refl w.heap.size w
  go_enter Try.func44, Try.ntmps44
  cases hq5 : (s.w.pr == 6) with
  | false =>
    cases hq10 : (s.w.pr == 17) with
    | false =>
      obtain ⟨Wm11, hWm11⟩ : ∃ W, w.alloc (.cells c.v 31) = W := ⟨_, rfl⟩
      have bm11 := bel_nw hWm11
      have Am11 := blk_nw hWm11
      have gA : w.heap.size ≤ w.heap.size := Nat.le_refl _
      obtain ⟨Wm12, hWm12⟩ : ∃ W, Wm11.alloc (.cells s.v 36) = W := ⟨_, rfl⟩
      have bm12 := bel_al bm11 hWm12
      have Am12 := Am11.al hWm12
      have Bm12 := blk_nw hWm12
      have gB : w.heap.size ≤ Wm11.heap.size := bm11.size
      have nAB : w.heap.size ≠ Wm11.heap.size := by have := Am11.lt; omega
      have nBA : Wm11.heap.size ≠ w.heap.size := fun e => nAB e.symm
      obtain ⟨Wm13, hWm13⟩ : ∃ W, Wm12.alloc (.cells #[.int .i64 0, .int .u32 0, .int .u32 0, .int .u32 0, .int .u32 0, .bool false, .bool false, .bool false, .bool false] 31) = W := ⟨_, rfl⟩
      have bm13 := bel_al bm12 hWm13
      have Am13 := Am12.al hWm13
      have Bm13 := Bm12.al hWm13
      have Cm13 := blk_nw hWm13
      have gC : w.heap.size ≤ Wm12.heap.size := bm12.size
      have nAC : w.heap.size ≠ Wm12.heap.size := by have := Am12.lt; omega
      have nCA : Wm12.heap.size ≠ w.heap.size := fun e => nAC e.symm
      have nBC : Wm11.heap.size ≠ Wm12.heap.size := by have := Bm12.lt; omega
      have nCB : Wm12.heap.size ≠ Wm11.heap.size := fun e => nBC e.symm
      have c14 := Bm13.cell 1 (.int .i64 s.w.pr) rfl
      go_wp2_with (refine wpList_load_blk_w (by rfl) _ _ rfl Wm11.heap.size (by rfl) _ Bm13 Try.underlying36 (by kernel_rfl) ?_)
      clear c14
      refine Calls.mono (echo1_fw s _) ?_
      rintro e Wm15 ⟨rfl, bb⟩
      have Am15 := Am13.kept bb
      have Bm15 := Bm13.kept bb
      have Cm15 := Cm13.kept bb
      have bm15 := bel_tr bm13 bb
      clear bb
      clear Am13 Bm13 Cm13 bm13
      cases hq16 : (Sm.ec s true) with
      | false =>
        obtain ⟨Wm17, hWm17⟩ : ∃ W, Wm15.setRow Wm12.heap.size cn0.v = W := ⟨_, rfl⟩
        have Cm17 : Blk Wm17 Wm12.heap.size 31 cn0.v := hWm17 ▸ Cm15.set cn0.v
        have Am17 := hWm17 ▸ Am15.other nAC cn0.v
        have Bm17 := hWm17 ▸ Bm15.other nBC cn0.v
        have bm17 := hWm17 ▸ below_setRow bm15 gC cn0.v
        go_wp2_with (refine wpList_store_row rfl _ _ _ rfl Wm12.heap.size cn0.v (by rfl) (by rfl) _ _ Cm15 (by kernel_rfl) (by rfl) (by kernel_rfl) ?_; rw [hWm17])
        have hR2 : R = ((cn0 : Cn), (23 : Int)) := by rw [← HR.out]; first | rfl | (simp [Sm.stp, Sm.g, hq5, hq10, hq16]; done) | (simp [Sm.stp, Sm.g, hq5, hq10, hq16]; rfl)
        subst hR2
        exact ret_cell_tmp (k := 6) (j := 7) Try.f44 (by kernel_rfl) Cm17 Try.underlying31 (by kernel_rfl) (by rfl) (by rfl) rfl ⟨rfl, bm17⟩

      | true =>
        obtain ⟨Wm18, hWm18⟩ : ∃ W, Wm15.setRow Wm12.heap.size c.v = W := ⟨_, rfl⟩
        have Cm18 : Blk Wm18 Wm12.heap.size 31 c.v := hWm18 ▸ Cm15.set c.v
        have Am18 := hWm18 ▸ Am15.other nAC c.v
        have Bm18 := hWm18 ▸ Bm15.other nBC c.v
        have bm18 := hWm18 ▸ below_setRow bm15 gC c.v
        go_wp2_with (first | (refine wpList_load_blk_w (by rfl) _ _ rfl w.heap.size (by rfl) _ Am15 Try.underlying31 (by kernel_rfl) ?_) | (refine wpList_store_row rfl _ _ _ rfl Wm12.heap.size c.v (by rfl) (by rfl) _ _ Cm15 (by kernel_rfl) (by rfl) (by kernel_rfl) ?_; rw [hWm18]))
        have hR2 : R = ((c : Cn), (0 : Int)) := by rw [← HR.out]; first | rfl | (simp [Sm.stp, Sm.g, hq5, hq10, hq16]; done) | (simp [Sm.stp, Sm.g, hq5, hq10, hq16]; rfl)
        subst hR2
        exact ret_cell_tmp (k := 6) (j := 7) Try.f44 (by kernel_rfl) Cm18 Try.underlying31 (by kernel_rfl) (by rfl) (by rfl) rfl ⟨rfl, bm18⟩


    | true =>
      obtain ⟨Wm19, hWm19⟩ : ∃ W, w.alloc (.cells c.v 31) = W := ⟨_, rfl⟩
      have bm19 := bel_nw hWm19
      have Am19 := blk_nw hWm19
      have gA : w.heap.size ≤ w.heap.size := Nat.le_refl _
      obtain ⟨Wm20, hWm20⟩ : ∃ W, Wm19.alloc (.cells s.v 36) = W := ⟨_, rfl⟩
      have bm20 := bel_al bm19 hWm20
      have Am20 := Am19.al hWm20
      have Bm20 := blk_nw hWm20
      have gB : w.heap.size ≤ Wm19.heap.size := bm19.size
      have nAB : w.heap.size ≠ Wm19.heap.size := by have := Am19.lt; omega
      have nBA : Wm19.heap.size ≠ w.heap.size := fun e => nAB e.symm
      obtain ⟨Wm21, hWm21⟩ : ∃ W, Wm20.alloc (.cells #[.int .i64 0, .int .u32 0, .int .u32 0, .int .u32 0, .int .u32 0, .bool false, .bool false, .bool false, .bool false] 31) = W := ⟨_, rfl⟩
      have bm21 := bel_al bm20 hWm21
      have Am21 := Am20.al hWm21
      have Bm21 := Bm20.al hWm21
      have Cm21 := blk_nw hWm21
      have gC : w.heap.size ≤ Wm20.heap.size := bm20.size
      have nAC : w.heap.size ≠ Wm20.heap.size := by have := Am20.lt; omega
      have nCA : Wm20.heap.size ≠ w.heap.size := fun e => nAC e.symm
      have nBC : Wm19.heap.size ≠ Wm20.heap.size := by have := Bm20.lt; omega
      have nCB : Wm20.heap.size ≠ Wm19.heap.size := fun e => nBC e.symm
      have c22 := Bm21.cell 1 (.int .i64 s.w.pr) rfl
      obtain ⟨Wm23, hWm23⟩ : ∃ W, Wm21.setRow Wm20.heap.size c.v = W := ⟨_, rfl⟩
      have Cm23 : Blk Wm23 Wm20.heap.size 31 c.v := hWm23 ▸ Cm21.set c.v
      have Am23 := hWm23 ▸ Am21.other nAC c.v
      have Bm23 := hWm23 ▸ Bm21.other nBC c.v
      have bm23 := hWm23 ▸ below_setRow bm21 gC c.v
      go_wp2_with (first | (refine wpList_load_blk_w (by rfl) _ _ rfl w.heap.size (by rfl) _ Am21 Try.underlying31 (by kernel_rfl) ?_) | (refine wpList_store_row rfl _ _ _ rfl Wm20.heap.size c.v (by rfl) (by rfl) _ _ Cm21 (by kernel_rfl) (by rfl) (by kernel_rfl) ?_; rw [hWm23]))
      have hR2 : R = ((c : Cn), (0 : Int)) := by rw [← HR.out]; first | rfl | (simp [Sm.stp, Sm.g, hq5, hq10]; done) | (simp [Sm.stp, Sm.g, hq5, hq10]; rfl)
      subst hR2
      exact ret_cell_tmp (k := 6) (j := 7) Try.f44 (by kernel_rfl) Cm23 Try.underlying31 (by kernel_rfl) (by rfl) (by rfl) rfl ⟨rfl, bm23⟩


  | true =>
    obtain ⟨Wm24, hWm24⟩ : ∃ W, w.alloc (.cells c.v 31) = W := ⟨_, rfl⟩
    have bm24 := bel_nw hWm24
    have Am24 := blk_nw hWm24
    have gA : w.heap.size ≤ w.heap.size := Nat.le_refl _
    obtain ⟨Wm25, hWm25⟩ : ∃ W, Wm24.alloc (.cells s.v 36) = W := ⟨_, rfl⟩
    have bm25 := bel_al bm24 hWm25
    have Am25 := Am24.al hWm25
    have Bm25 := blk_nw hWm25
    have gB : w.heap.size ≤ Wm24.heap.size := bm24.size
    have nAB : w.heap.size ≠ Wm24.heap.size := by have := Am24.lt; omega
    have nBA : Wm24.heap.size ≠ w.heap.size := fun e => nAB e.symm
    obtain ⟨Wm26, hWm26⟩ : ∃ W, Wm25.alloc (.cells #[.int .i64 0, .int .u32 0, .int .u32 0, .int .u32 0, .int .u32 0, .bool false, .bool false, .bool false, .bool false] 31) = W := ⟨_, rfl⟩
    have bm26 := bel_al bm25 hWm26
    have Am26 := Am25.al hWm26
    have Bm26 := Bm25.al hWm26
    have Cm26 := blk_nw hWm26
    have gC : w.heap.size ≤ Wm25.heap.size := bm25.size
    have nAC : w.heap.size ≠ Wm25.heap.size := by have := Am25.lt; omega
    have nCA : Wm25.heap.size ≠ w.heap.size := fun e => nAC e.symm
    have nBC : Wm24.heap.size ≠ Wm25.heap.size := by have := Bm25.lt; omega
    have nCB : Wm25.heap.size ≠ Wm24.heap.size := fun e => nBC e.symm
    have c27 := Bm26.cell 1 (.int .i64 s.w.pr) rfl
    have c28 := Bm26.cell 10 (.int .i64 s.fl) rfl
    have c29 := Bm26.cell 13 (.int .i64 s.win) rfl
    have c30 := Bm26.cell 27 (.slice s.da s.dn s.dc) rfl
    have c31 := Bm26.cell 11 (.int .u32 s.sq) rfl
    have c32 := Bm26.cell 12 (.int .u32 s.ak) rfl
    go_wp2_with (refine wpList_load_blk_w (by rfl) _ _ rfl w.heap.size (by rfl) _ Am26 Try.underlying31 (by kernel_rfl) ?_)
    clear c27 c28 c29 c30 c31 c32
    refine Calls.mono (step_tc c 1 (⟨s.fl, s.win, (s.dn : Int), s.sq, s.ak⟩) _) ?_
    rintro e Wm33 ⟨rfl, bb⟩
    have Am33 := Am26.kept bb
    have Bm33 := Bm26.kept bb
    have Cm33 := Cm26.kept bb
    have bm33 := bel_tr bm26 bb
    clear bb
    clear Am26 Bm26 Cm26 bm26
    obtain ⟨Wm34, hWm34⟩ : ∃ W, Wm33.setRow Wm25.heap.size (Cn.step c 1 (⟨s.fl, s.win, (s.dn : Int), s.sq, s.ak⟩)).1.v = W := ⟨_, rfl⟩
    have Cm34 : Blk Wm34 Wm25.heap.size 31 (Cn.step c 1 (⟨s.fl, s.win, (s.dn : Int), s.sq, s.ak⟩)).1.v := hWm34 ▸ Cm33.set (Cn.step c 1 (⟨s.fl, s.win, (s.dn : Int), s.sq, s.ak⟩)).1.v
    have Am34 := hWm34 ▸ Am33.other nAC (Cn.step c 1 (⟨s.fl, s.win, (s.dn : Int), s.sq, s.ak⟩)).1.v
    have Bm34 := hWm34 ▸ Bm33.other nBC (Cn.step c 1 (⟨s.fl, s.win, (s.dn : Int), s.sq, s.ak⟩)).1.v
    have bm34 := hWm34 ▸ below_setRow bm33 gC (Cn.step c 1 (⟨s.fl, s.win, (s.dn : Int), s.sq, s.ak⟩)).1.v
    go_wp2_with (refine wpList_store_row rfl _ _ _ rfl Wm25.heap.size (Cn.step c 1 (⟨s.fl, s.win, (s.dn : Int), s.sq, s.ak⟩)).1.v (by rfl) (by rfl) _ _ Cm33 (by kernel_rfl) (by rfl) (by kernel_rfl) ?_; rw [hWm34])
    have hR2 : R = (((Cn.step c 1 (⟨s.fl, s.win, (s.dn : Int), s.sq, s.ak⟩)).1 : Cn), ((Cn.step c 1 (⟨s.fl, s.win, (s.dn : Int), s.sq, s.ak⟩)).2 : Int)) := by rw [← HR.out]; first | rfl | (simp [Sm.stp, Sm.g, hq5]; done) | (simp [Sm.stp, Sm.g, hq5]; rfl)
    subst hR2
    exact ret_cell_tmp (k := 6) (j := 7) Try.f44 (by kernel_rfl) Cm34 Try.underlying31 (by kernel_rfl) (by rfl) (by rfl) rfl ⟨rfl, bm34⟩
end Go.Proofs.Ytmjjdbkipagkbaa
