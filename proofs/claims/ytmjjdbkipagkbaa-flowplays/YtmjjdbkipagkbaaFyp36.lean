/- Texts joined: FyE -/
import Derived.Test.YtmjjdbkipagkbaaFyp35
namespace Go.Proofs.Ytmjjdbkipagkbaa
abbrev fyp36o0 : Oper := { dst := some 18, op := Op.binOp BinOp.leq 3 (.tmp 13) (.tmp 17) 3, type := 4, pos := "ref.go:158", after := #[{ on := 5, ground := Ground.data }, { on := 9, ground := Ground.data }, { on := 3, ground := Ground.guard }], guard := some (3, false) }
abbrev fyp36o1 : Oper := { dst := some 16, op := Op.fieldAddr 55 (.tmp 15) 1, type := 0, pos := "ref.go:158", after := #[{ on := 7, ground := Ground.data }, { on := 3, ground := Ground.guard }], guard := some (3, false) }
abbrev fyp36o2 : Oper := { dst := some 19, op := Op.pick (.tmp 11) (.const (.bool true)) (.tmp 18), type := 4, pos := "ref.go:158", after := #[{ on := 3, ground := Ground.data }, { on := 10, ground := Ground.data }], guard := none }
abbrev fyp36o3 : Oper := { dst := some 13, op := Op.load 3 (.tmp 12), type := 3, pos := "ref.go:158", after := #[{ on := 4, ground := Ground.data }, { on := 3, ground := Ground.guard }], guard := some (3, false) }
abbrev fyp36o4 : Oper := { dst := some 17, op := Op.load 3 (.tmp 16), type := 3, pos := "ref.go:158", after := #[{ on := 8, ground := Ground.data }, { on := 3, ground := Ground.guard }], guard := some (3, false) }
abbrev fyp36o5 : Oper := { dst := some 15, op := Op.nilCheck (.tmp 14), type := 0, pos := "ref.go:158", after := #[{ on := 6, ground := Ground.data }, { on := 3, ground := Ground.guard }], guard := some (3, false) }
abbrev fyp36o6 : Oper := { dst := some 14, op := Op.move (.tmp 0), type := 61, pos := "ref.go:158", after := #[{ on := 3, ground := Ground.guard }], guard := some (3, false) }
abbrev fyp36o7 : Oper := { dst := some 12, op := Op.fieldAddr 33 (.tmp 3) 2, type := 0, pos := "ref.go:158", after := #[{ on := 3, ground := Ground.guard }], guard := some (3, false) }
abbrev fyp36o8 : Oper := { dst := some 73, op := Op.call { callee := Callee.value (.func 28), args := #[.tmp 70, .tmp 72], argTypes := #[26, 26] }, type := 3, pos := "ref.go:175", after := #[{ on := 15, ground := Ground.data }, { on := 17, ground := Ground.data }, { on := 7, ground := Ground.chain }, { on := 7, ground := Ground.guard }], guard := some (7, true) }
abbrev fyp36o9 : Oper := { dst := some 9, op := Op.call { callee := Callee.value (.func 13), args := #[.tmp 8], argTypes := #[33] }, type := 4, pos := "ref.go:158", after := #[{ on := 0, ground := Ground.data }], guard := none }
abbrev fyp36o10 : Oper := { dst := some 11, op := Op.move (.tmp 10), type := 4, pos := "ref.go:158", after := #[{ on := 2, ground := Ground.data }, { on := 1, ground := Ground.chain }], guard := none }
abbrev fyp36o11 : Oper := { dst := some 68, op := Op.indexAddr 53 (.tmp 66) (.tmp 67), type := 0, pos := "ref.go:175", after := #[{ on := 11, ground := Ground.data }, { on := 12, ground := Ground.data }, { on := 7, ground := Ground.guard }], guard := some (7, true) }
abbrev fyp36o12 : Oper := { dst := some 10, op := Op.unOp UnOp.not 4 (.tmp 9), type := 4, pos := "ref.go:158", after := #[{ on := 1, ground := Ground.data }], guard := none }
abbrev fyp36o13 : Oper := { dst := some 74, op := Op.binOp BinOp.lss 3 (.tmp 73) (.const (.int .i64 0)) 3, type := 4, pos := "ref.go:175", after := #[{ on := 18, ground := Ground.data }, { on := 7, ground := Ground.guard }], guard := some (7, true) }
abbrev fyp36o14 : Oper := { dst := some 60, op := Op.call { callee := Callee.builtin Builtin.len, args := #[.tmp 59], argTypes := #[53] }, type := 3, pos := "ref.go:175", after := #[{ on := 4, ground := Ground.data }], guard := none }
abbrev fyp36o15 : Oper := { dst := some 61, op := Op.binOp BinOp.lss 3 (.tmp 55) (.tmp 60) 3, type := 4, pos := "ref.go:175", after := #[{ on := 0, ground := Ground.data }, { on := 5, ground := Ground.data }], guard := none }
abbrev fyp36o16 : Oper := { dst := some 65, op := Op.fieldAddr 55 (.tmp 64) 2, type := 0, pos := "ref.go:175", after := #[{ on := 9, ground := Ground.data }, { on := 7, ground := Ground.guard }], guard := some (7, true) }
abbrev fyp36o17 : Oper := { dst := some 75, op := Op.pick (.tmp 62) (.tmp 74) (.const (.bool false)), type := 4, pos := "ref.go:175", after := #[{ on := 7, ground := Ground.data }, { on := 19, ground := Ground.data }], guard := none }
abbrev fyp36o18 : Oper := { dst := some 66, op := Op.load 53 (.tmp 65), type := 53, pos := "ref.go:175", after := #[{ on := 10, ground := Ground.data }, { on := 7, ground := Ground.guard }], guard := some (7, true) }
abbrev fyp36o19 : Oper := { dst := some 70, op := Op.load 26 (.tmp 69), type := 26, pos := "ref.go:175", after := #[{ on := 14, ground := Ground.data }, { on := 7, ground := Ground.guard }], guard := some (7, true) }
abbrev fyp36o20 : Oper := { dst := some 72, op := Op.load 26 (.tmp 71), type := 26, pos := "ref.go:175", after := #[{ on := 16, ground := Ground.data }, { on := 7, ground := Ground.guard }], guard := some (7, true) }
abbrev fyp36o21 : Oper := { dst := some 69, op := Op.fieldAddr 33 (.tmp 68) 0, type := 0, pos := "ref.go:175", after := #[{ on := 13, ground := Ground.data }, { on := 7, ground := Ground.guard }], guard := some (7, true) }
abbrev fyp36o22 : Oper := { dst := some 8, op := Op.load 33 (.tmp 3), type := 33, pos := "ref.go:158", after := #[], guard := none }
abbrev fyp36o23 : Oper := { dst := some 64, op := Op.nilCheck (.tmp 63), type := 0, pos := "ref.go:175", after := #[{ on := 8, ground := Ground.data }, { on := 7, ground := Ground.guard }], guard := some (7, true) }
abbrev fyp36o24 : Oper := { dst := some 63, op := Op.move (.tmp 0), type := 61, pos := "ref.go:175", after := #[{ on := 7, ground := Ground.guard }], guard := some (7, true) }
abbrev fyp36o25 : Oper := { dst := some 58, op := Op.fieldAddr 55 (.tmp 57) 2, type := 0, pos := "ref.go:175", after := #[{ on := 2, ground := Ground.data }], guard := none }
abbrev fyp36o26 : Oper := { dst := some 71, op := Op.fieldAddr 33 (.tmp 3) 0, type := 0, pos := "ref.go:175", after := #[{ on := 7, ground := Ground.guard }], guard := some (7, true) }
abbrev fyp36o27 : Oper := { dst := some 59, op := Op.load 53 (.tmp 58), type := 53, pos := "ref.go:175", after := #[{ on := 3, ground := Ground.data }], guard := none }
abbrev fyp36o28 : Oper := { dst := some 67, op := Op.move (.tmp 5), type := 3, pos := "ref.go:175", after := #[{ on := 7, ground := Ground.guard }], guard := some (7, true) }
abbrev fyp36o29 : Oper := { dst := some 62, op := Op.move (.tmp 61), type := 4, pos := "ref.go:175", after := #[{ on := 6, ground := Ground.data }], guard := none }
abbrev fyp36o30 : Oper := { dst := some 57, op := Op.nilCheck (.tmp 56), type := 0, pos := "ref.go:175", after := #[{ on := 1, ground := Ground.data }], guard := none }
abbrev fyp36o31 : Oper := { dst := some 56, op := Op.move (.tmp 0), type := 61, pos := "ref.go:175", after := #[], guard := none }
abbrev fyp36o34 : Oper := { dst := some 55, op := Op.move (.tmp 5), type := 3, pos := "ref.go:175", after := #[], guard := none }
end Go.Proofs.Ytmjjdbkipagkbaa
namespace Go.Proofs.Ytmjjdbkipagkbaa
open Go.RowKit
set_option linter.unusedVariables false
set_option linter.unusedSimpArgs false
set_option maxRecDepth 100000 in
set_option maxHeartbeats 16000000 in
theorem rput1_fy (rb : Nat) (s : Ft) (a : Option Addr) (c : Nat) (f : Fl) (k : Nat) (x : Fl) (w : World) (hfo : f.w.ok) (hll : s.L.length ≤ 100000) (H : DocF w rb s a c) (hok : FtOk s) (hp : plc f.w s.L = (k : Int)) (hx : s.L[k]? = some x) (ha : atF f.w s.L = some x) :
    Calls Try.prog 47 #[.pointer (some ⟨rb, 0, none⟩), .agg f.v] w fun e w' => e = .returned (.int .i64 (s.put f).2) ∧ DocNF w.heap.size a w' rb (s.put f).1 ∧ But (fun k => k = rb) w w' := by
  have ik0 : (0 : Int) ≤ (k : Int) := by omega
  have ik0' : decide ((0 : Int) ≤ (k : Int)) = true := by simp
  have ik3 : decide ((k : Int) < 0) = false := by simp
  have HX : Hid (s.L[k]? = some x) := hx
  have hlt : k < s.L.length := (List.getElem?_eq_some_iff.1 hx).1
  have ikl : (k : Int) < (s.L.length : Int) := by omega
  have hltk : (s.L.take k).length = k := by rw [List.length_take]; omega
  have hldk : (s.L.drop (k + 1)).length = s.L.length - (k + 1) := List.length_drop
  have hkc : k ≤ c := by have := H.row.le; omega
  have hk1 : ((k + 1 : Nat) : Int) = (k : Int) + 1 := by omega
  obtain ⟨p2, off2, rfl, hcells⟩ := H.row.row.cells k x hx
  clear hx hcells
  have HA : Hid _ := ha
  clear ha
  have HOK : Hid (FtOk s) := hok
  clear hok
  have T := H.tab
  have E := H.row
  have hne := H.ne
  have hgl := T.lt
  have hal := E.lt
  have nET : ∀ y : Addr, (some ⟨p2, off2, none⟩) = some y → y.block ≠ rb := hne
  clear H
  obtain ⟨R, hR⟩ : ∃ R, s.put f = R := ⟨_, rfl⟩
  have HR : Hid (s.put f = R) := hR
  try rw [hR]
  clear hR
  have b := But.refl (fun k => k = rb) w
  go_enter Try.func47, Try.ntmps47
  obtain ⟨Wm1, hWm1⟩ : ∃ W, w.alloc (.cells f.v 33) = W := ⟨_, rfl⟩
  have bm1 := but_al b hWm1
  have Tm1 := T.al hWm1
  have Em1 := E.al hWm1
  have Am1 := blk_nw hWm1
  have gA : (fun k => k = rb) w.heap.size ∨ w.heap.size ≤ w.heap.size := .inr b.size
  have nTA : rb ≠ w.heap.size := by have := T.lt; omega
  have nAT : w.heap.size ≠ rb := fun e => nTA e.symm
  have nEA : ∀ y : Addr, (some ⟨p2, off2, none⟩) = some y → y.block ≠ w.heap.size := fun y hy => by have := E.lt y hy; omega
  go_wp2_with fail
  obtain ⟨Wdq2, hWdq2⟩ : ∃ W, Wm1.drew = W := ⟨_, rfl⟩
  have Tdq2 := hWdq2 ▸ Tm1.drew
  have Edq2 := hWdq2 ▸ Em1.drew
  have Adq2 := hWdq2 ▸ Am1.drew
  have bdq2 := hWdq2 ▸ bm1.drew
  refine wp_region_noPanic ?_
  refine wp_region_held_drew (S := fun w' => Blk w' rb 55 #[.int .i64 s.most, .int .i64 s.now, .slice (some ⟨p2, off2, none⟩) s.L.length c] ∧ RowG w' (some ⟨p2, off2, none⟩) c s.L ∧ Blk w' w.heap.size 33 f.v) (by kernel_rfl) (by rw [hWdq2]; exact ⟨Tdq2, Edq2, Adq2⟩) (fun hHeld => ?_)
  rw [hWdq2] at hHeld ⊢
  refine qty (i := 0) (oi := fyp36o22) (v := (.agg f.v)) (yieldsIf_blk_w (by kernel_rfl) _ _ rfl w.heap.size (by rfl) _ (fun _ hSw => hSw.2.2) Try.underlying33 (by kernel_rfl)) hHeld ?_
  try simp only [qpu]
  refine wpAnyH_ready (rs := [1]) (by kernel_rfl) (by simp) ?_
  refine AllReadyH.cons (o := fyp36o9) rfl (fun K hK => ?_) AllReadyH.nil
  go_simp
  refine Calls.mono (rright_fw f _ (by assumption)) ?_
  rintro e Wx3 ⟨rfl, bb⟩
  have Tx3 := Tdq2.kept bb
  have Ex3 := Edq2.kept bb
  have Ax3 := Adq2.kept bb
  have bx3 := bdq2.below bb
  clear bb
  refine hK.out _ _ (by exact ⟨Tx3, Ex3, Ax3⟩) (fun hHeld => ?_)
  clear hK K
  try simp only [qpu]
  refine qtk (i := 2) (oi := fyp36o12) (v := (.bool (!(Fl.right f)))) hHeld ?_ ?_
  · intro w9 hSw
    try dsimp only at hSw
    go_simp
  try simp only [qpu]
  refine qtk (i := 3) (oi := fyp36o10) (v := (.bool (!(Fl.right f)))) hHeld ?_ ?_
  · intro w9 hSw
    try dsimp only at hSw
    go_simp
  try simp only [qpu]
  cases hq4 : (Fl.right f) with
  | false =>
    refine qtn (i := 4) (oi := fyp36o7) hHeld ?_
    try simp only [qpu]
    refine qtn (i := 5) (oi := fyp36o3) hHeld ?_
    try simp only [qpu]
    refine qtn (i := 6) (oi := fyp36o6) hHeld ?_
    try simp only [qpu]
    refine qtn (i := 7) (oi := fyp36o5) hHeld ?_
    try simp only [qpu]
    refine qtn (i := 8) (oi := fyp36o1) hHeld ?_
    try simp only [qpu]
    refine qtn (i := 9) (oi := fyp36o4) hHeld ?_
    try simp only [qpu]
    refine qtn (i := 10) (oi := fyp36o0) hHeld ?_
    try simp only [qpu]
    refine qtk (i := 11) (oi := fyp36o2) (v := (.bool true)) hHeld ?_ ?_
    · intro w9 hSw
      try dsimp only at hSw
      go_simp
    try simp only [qpu]
    refine wpAnyH_done (by kernel_rfl) ?_ _
    refine NoPanic.normal ?_
    go_wp2_with fail
    have hR2 : R = (((s, 1) : Ft × Int)) := by rw [← HR.out]; exact put_bad (by assumption)
    subst hR2
    go_ret
    exact ⟨rfl, ⟨(some ⟨p2, off2, none⟩), c, ⟨Tx3, Ex3, nET⟩, (fun y hy => .inl hy)⟩, bx3⟩

  | true =>
    refine qtk (i := 4) (oi := fyp36o7) (v := (.pointer (some ⟨w.heap.size, 19, none⟩))) hHeld ?_ ?_
    · intro w9 hSw
      try dsimp only at hSw
      go_simp
    try simp only [qpu]
    refine qtk (i := 5) (oi := fyp36o3) (v := (.int .i64 f.ends)) hHeld ?_ ?_
    · intro w9 hSw
      try dsimp only at hSw
      have hcc := hSw.2.2.cell 19 (.int .i64 f.ends) rfl
      go_simp
    try simp only [qpu]
    refine qtk (i := 6) (oi := fyp36o6) (v := (.pointer (some ⟨rb, 0, none⟩))) hHeld ?_ ?_
    · intro w9 hSw
      try dsimp only at hSw
      go_simp
    try simp only [qpu]
    refine qtk (i := 7) (oi := fyp36o5) (v := (.pointer (some ⟨rb, 0, none⟩))) hHeld ?_ ?_
    · intro w9 hSw
      try dsimp only at hSw
      go_simp
    try simp only [qpu]
    refine qtk (i := 8) (oi := fyp36o1) (v := (.pointer (some ⟨rb, 1, none⟩))) hHeld ?_ ?_
    · intro w9 hSw
      try dsimp only at hSw
      go_simp
    try simp only [qpu]
    refine qtk (i := 9) (oi := fyp36o4) (v := (.int .i64 s.now)) hHeld ?_ ?_
    · intro w9 hSw
      try dsimp only at hSw
      have hcc := hSw.1.cell 1 (.int .i64 s.now) rfl
      go_simp
    try simp only [qpu]
    refine qtk (i := 10) (oi := fyp36o0) (v := (.bool (decide (f.ends ≤ s.now)))) hHeld ?_ ?_
    · intro w9 hSw
      try dsimp only at hSw
      go_simp
    try simp only [qpu]
    refine qtk (i := 11) (oi := fyp36o2) (v := (.bool (decide (f.ends ≤ s.now)))) hHeld ?_ ?_
    · intro w9 hSw
      try dsimp only at hSw
      go_simp
    try simp only [qpu]
    refine wpAnyH_done (by kernel_rfl) ?_ _
    refine NoPanic.normal ?_
    cases hq5 : (decide (f.ends ≤ s.now)) with
    | false =>
      go_wp2_with (refine wpList_load_sub_w (by rfl) _ _ rfl w.heap.size 0 _ (by rfl) _ f.w.v Ax3 (by rfl) Try.underlying26 (by kernel_rfl) ?_)
      refine Calls.mono (rplace_fy rb s (some ⟨p2, off2, none⟩) c f.w _ hll Tx3 Ex3) ?_
      rintro e Wm6 ⟨rfl, bb⟩
      have Tm6 := Tx3.kept bb
      have Em6 := Ex3.kept bb
      have Am6 := Ax3.kept bb
      have bm6 := bx3.below bb
      clear bb
      rw [hp]
      clear Tx3 Ex3 Ax3 bx3
      have c7 := Tm6.cell 2 (.slice (some ⟨p2, off2, none⟩) s.L.length c) rfl
      go_wp2_with (first | (refine wpList_rnLs _ rfl _ _ rfl Wm6.heap.size none 0 [] _ _ rfl (by rfl) (own_noneL _ _) (some ⟨p2, off2, none⟩) c s.L rfl (by rfl) Em6 (by simp; omega) (Nat.le_refl _) ?_; intro a8 c8 Wa8 Oa8 Hg9; have bg : But (fun _ => False) Wm6 Wa8 := (But.refl _ _).grown Hg9 (fun n hn => by cases hn); have Ta8 := Tm6.but bg (fun h => h); have Ea8 := Em6.but bg (fun _ _ h => h); have Aa8 := Am6.but bg (fun h => h); have ba8 := bm6.trans bg (fun n _ e => e.elim); have hTl := Tm6.lt; have hAl := Am6.lt; have hEl := Em6.lt; have hbs := bm6.size; have hl8 := Oa8.lt; clear bg Hg9; obtain ⟨lb, hlb0⟩ : ∃ lb, a8 = some ⟨lb, 0, none⟩ := Oa8.some_of (by rw [List.nil_append]; omega); subst hlb0; rw [List.nil_append] at Oa8; obtain ⟨cr8, hb8, hsz8, hB8, O8q⟩ := Oa8.put k f hlt; have hlbT : rb ≠ lb := by { have := hl8 _ rfl; have h4 : _ ≤ lb := this; omega }; have hlbA : w.heap.size ≠ lb := by { have := hl8 _ rfl; have h4 : _ ≤ lb := this; omega }; have hlbE : ∀ y : Addr, (some ⟨p2, off2, none⟩) = some y → y.block ≠ lb := fun y hy => by { have := hl8 _ rfl; have h4 : _ ≤ lb := this; have := hEl y hy; omega }; have hlbw : w.heap.size ≤ lb := by { have := hl8 _ rfl; have h4 : _ ≤ lb := this; omega }; try rw [List.nil_append]; have hsz8' : k * 22 + f.v.size ≤ cr8.size := hsz8; obtain ⟨Wy9, hWy9⟩ : ∃ W, Wa8.setRow lb (setMany cr8 (k * 22) f.v.toList) = W := ⟨_, rfl⟩; have Oy9 : OwnL Wy9 _ (some ⟨lb, 0, none⟩) c8 (s.L.set k f) := hWy9 ▸ O8q; have Ty9 := hWy9 ▸ Ta8.other hlbT (setMany cr8 (k * 22) f.v.toList); have Ey9 := hWy9 ▸ Ea8.other hlbE (setMany cr8 (k * 22) f.v.toList); have Ay9 := hWy9 ▸ Aa8.other hlbA (setMany cr8 (k * 22) f.v.toList); have by9 := hWy9 ▸ ba8.setRow lb (.inr hlbw) (setMany cr8 (k * 22) f.v.toList); have nOT : ∀ y : Addr, (some ⟨lb, 0, none⟩ : Option Addr) = some y → y.block ≠ rb := fun y hy => by { cases hy; exact fun e => hlbT e.symm }; have y11 := Ty9.cell 2 (.slice (some ⟨p2, off2, none⟩) s.L.length c) rfl; have z12 := Ty9.frozen 2; obtain ⟨Wm10, hWm10⟩ : ∃ W, Wy9.setCell ⟨rb, 2, none⟩ (.slice (some ⟨lb, 0, none⟩) s.L.length c8) = W := ⟨_, rfl⟩; have Tm10 : Blk Wm10 rb 55 #[.int .i64 s.most, .int .i64 s.now, .slice (some ⟨lb, 0, none⟩) s.L.length c8] := hWm10 ▸ Ty9.put 2 (.slice (some ⟨lb, 0, none⟩) s.L.length c8); have Em10 := hWm10 ▸ Ey9.put_other Ty9 nET 2 (.slice (some ⟨lb, 0, none⟩) s.L.length c8); have Am10 := hWm10 ▸ Ay9.put_other Ty9 nAT 2 (.slice (some ⟨lb, 0, none⟩) s.L.length c8); have Om10 := hWm10 ▸ Oy9.put_other Ty9 nOT 2 (.slice (some ⟨lb, 0, none⟩) s.L.length c8); have bm10 := hWm10 ▸ by9.setCell rb 2 (.inl rfl) (.slice (some ⟨lb, 0, none⟩) s.L.length c8)) | (refine wpList_load_blk_w (by rfl) _ _ rfl w.heap.size (by rfl) _ Aa8 Try.underlying33 (by kernel_rfl) ?_) | (refine wpList_store_off rfl _ _ _ rfl lb (k * 22) _ f.v cr8 _ (by rfl) (by rfl) hb8 (by kernel_rfl) hsz8' (by kernel_rfl) rfl ?_; rw [hWy9]))
      have hR2 : R = (((⟨s.most, s.now, s.L.set k f⟩, 0) : Ft × Int)) := by rw [← HR.out]; exact put_found HOK.out (by assumption) (by assumption) HA.out HX.out
      subst hR2
      go_ret
      exact ⟨rfl, ⟨some ⟨lb, 0, none⟩, c8, ⟨(by show Blk _ _ _ #[.int .i64 s.most, .int .i64 s.now, .slice (some ⟨lb, 0, none⟩) (s.L.set k f).length c8]; rw [List.length_set]; exact Tm10), Om10.toE, nOT⟩, (fun y hy => by cases hy; exact .inr hlbw)⟩, bm10⟩

    | true =>
      go_wp2_with fail
      have hR2 : R = (((s, 1) : Ft × Int)) := by rw [← HR.out]; exact put_late (by assumption)
      subst hR2
      go_ret
      exact ⟨rfl, ⟨(some ⟨p2, off2, none⟩), c, ⟨Tx3, Ex3, nET⟩, (fun y hy => .inl hy)⟩, bx3⟩
set_option maxRecDepth 100000 in
set_option maxHeartbeats 16000000 in
theorem rput2_fy (rb : Nat) (s : Ft) (a : Option Addr) (c : Nat) (f : Fl) (k : Nat) (x : Fl) (w : World) (hfo : f.w.ok) (hll : s.L.length ≤ 100000) (H : DocF w rb s a c) (hok : FtOk s) (hq : plc f.w s.L = -1) (hp : plc f.w.rev s.L = (k : Int)) (hx : s.L[k]? = some x) (ha : atF f.w s.L = none) (ha2 : atF f.w.rev s.L = some x) :
    Calls Try.prog 47 #[.pointer (some ⟨rb, 0, none⟩), .agg f.v] w fun e w' => e = .returned (.int .i64 (s.put f).2) ∧ DocNF w.heap.size a w' rb (s.put f).1 ∧ But (fun k => k = rb) w w' := by
  have ik0 : (0 : Int) ≤ (k : Int) := by omega
  have ik0' : decide ((0 : Int) ≤ (k : Int)) = true := by simp
  have ik3 : decide ((k : Int) < 0) = false := by simp
  have HX : Hid (s.L[k]? = some x) := hx
  have hlt : k < s.L.length := (List.getElem?_eq_some_iff.1 hx).1
  have ikl : (k : Int) < (s.L.length : Int) := by omega
  have hltk : (s.L.take k).length = k := by rw [List.length_take]; omega
  have hldk : (s.L.drop (k + 1)).length = s.L.length - (k + 1) := List.length_drop
  have hkc : k ≤ c := by have := H.row.le; omega
  have hk1 : ((k + 1 : Nat) : Int) = (k : Int) + 1 := by omega
  obtain ⟨p2, off2, rfl, hcells⟩ := H.row.row.cells k x hx
  clear hx hcells
  have HA : Hid _ := ha
  clear ha
  have HA2 : Hid _ := ha2
  clear ha2
  have HOK : Hid (FtOk s) := hok
  clear hok
  have T := H.tab
  have E := H.row
  have hne := H.ne
  have hgl := T.lt
  have hal := E.lt
  have nET : ∀ y : Addr, (some ⟨p2, off2, none⟩) = some y → y.block ≠ rb := hne
  clear H
  obtain ⟨R, hR⟩ : ∃ R, s.put f = R := ⟨_, rfl⟩
  have HR : Hid (s.put f = R) := hR
  try rw [hR]
  clear hR
  have b := But.refl (fun k => k = rb) w
  go_enter Try.func47, Try.ntmps47
  obtain ⟨Wm1, hWm1⟩ : ∃ W, w.alloc (.cells f.v 33) = W := ⟨_, rfl⟩
  have bm1 := but_al b hWm1
  have Tm1 := T.al hWm1
  have Em1 := E.al hWm1
  have Am1 := blk_nw hWm1
  have gA : (fun k => k = rb) w.heap.size ∨ w.heap.size ≤ w.heap.size := .inr b.size
  have nTA : rb ≠ w.heap.size := by have := T.lt; omega
  have nAT : w.heap.size ≠ rb := fun e => nTA e.symm
  have nEA : ∀ y : Addr, (some ⟨p2, off2, none⟩) = some y → y.block ≠ w.heap.size := fun y hy => by have := E.lt y hy; omega
  go_wp2_with fail
  obtain ⟨Wdq2, hWdq2⟩ : ∃ W, Wm1.drew = W := ⟨_, rfl⟩
  have Tdq2 := hWdq2 ▸ Tm1.drew
  have Edq2 := hWdq2 ▸ Em1.drew
  have Adq2 := hWdq2 ▸ Am1.drew
  have bdq2 := hWdq2 ▸ bm1.drew
  refine wp_region_noPanic ?_
  refine wp_region_held_drew (S := fun w' => Blk w' rb 55 #[.int .i64 s.most, .int .i64 s.now, .slice (some ⟨p2, off2, none⟩) s.L.length c] ∧ RowG w' (some ⟨p2, off2, none⟩) c s.L ∧ Blk w' w.heap.size 33 f.v) (by kernel_rfl) (by rw [hWdq2]; exact ⟨Tdq2, Edq2, Adq2⟩) (fun hHeld => ?_)
  rw [hWdq2] at hHeld ⊢
  refine qty (i := 0) (oi := fyp36o22) (v := (.agg f.v)) (yieldsIf_blk_w (by kernel_rfl) _ _ rfl w.heap.size (by rfl) _ (fun _ hSw => hSw.2.2) Try.underlying33 (by kernel_rfl)) hHeld ?_
  try simp only [qpu]
  refine wpAnyH_ready (rs := [1]) (by kernel_rfl) (by simp) ?_
  refine AllReadyH.cons (o := fyp36o9) rfl (fun K hK => ?_) AllReadyH.nil
  go_simp
  refine Calls.mono (rright_fw f _ (by assumption)) ?_
  rintro e Wx3 ⟨rfl, bb⟩
  have Tx3 := Tdq2.kept bb
  have Ex3 := Edq2.kept bb
  have Ax3 := Adq2.kept bb
  have bx3 := bdq2.below bb
  clear bb
  refine hK.out _ _ (by exact ⟨Tx3, Ex3, Ax3⟩) (fun hHeld => ?_)
  clear hK K
  try simp only [qpu]
  refine qtk (i := 2) (oi := fyp36o12) (v := (.bool (!(Fl.right f)))) hHeld ?_ ?_
  · intro w9 hSw
    try dsimp only at hSw
    go_simp
  try simp only [qpu]
  refine qtk (i := 3) (oi := fyp36o10) (v := (.bool (!(Fl.right f)))) hHeld ?_ ?_
  · intro w9 hSw
    try dsimp only at hSw
    go_simp
  try simp only [qpu]
  cases hq4 : (Fl.right f) with
  | false =>
    refine qtn (i := 4) (oi := fyp36o7) hHeld ?_
    try simp only [qpu]
    refine qtn (i := 5) (oi := fyp36o3) hHeld ?_
    try simp only [qpu]
    refine qtn (i := 6) (oi := fyp36o6) hHeld ?_
    try simp only [qpu]
    refine qtn (i := 7) (oi := fyp36o5) hHeld ?_
    try simp only [qpu]
    refine qtn (i := 8) (oi := fyp36o1) hHeld ?_
    try simp only [qpu]
    refine qtn (i := 9) (oi := fyp36o4) hHeld ?_
    try simp only [qpu]
    refine qtn (i := 10) (oi := fyp36o0) hHeld ?_
    try simp only [qpu]
    refine qtk (i := 11) (oi := fyp36o2) (v := (.bool true)) hHeld ?_ ?_
    · intro w9 hSw
      try dsimp only at hSw
      go_simp
    try simp only [qpu]
    refine wpAnyH_done (by kernel_rfl) ?_ _
    refine NoPanic.normal ?_
    go_wp2_with fail
    have hR2 : R = (((s, 1) : Ft × Int)) := by rw [← HR.out]; exact put_bad (by assumption)
    subst hR2
    go_ret
    exact ⟨rfl, ⟨(some ⟨p2, off2, none⟩), c, ⟨Tx3, Ex3, nET⟩, (fun y hy => .inl hy)⟩, bx3⟩

  | true =>
    refine qtk (i := 4) (oi := fyp36o7) (v := (.pointer (some ⟨w.heap.size, 19, none⟩))) hHeld ?_ ?_
    · intro w9 hSw
      try dsimp only at hSw
      go_simp
    try simp only [qpu]
    refine qtk (i := 5) (oi := fyp36o3) (v := (.int .i64 f.ends)) hHeld ?_ ?_
    · intro w9 hSw
      try dsimp only at hSw
      have hcc := hSw.2.2.cell 19 (.int .i64 f.ends) rfl
      go_simp
    try simp only [qpu]
    refine qtk (i := 6) (oi := fyp36o6) (v := (.pointer (some ⟨rb, 0, none⟩))) hHeld ?_ ?_
    · intro w9 hSw
      try dsimp only at hSw
      go_simp
    try simp only [qpu]
    refine qtk (i := 7) (oi := fyp36o5) (v := (.pointer (some ⟨rb, 0, none⟩))) hHeld ?_ ?_
    · intro w9 hSw
      try dsimp only at hSw
      go_simp
    try simp only [qpu]
    refine qtk (i := 8) (oi := fyp36o1) (v := (.pointer (some ⟨rb, 1, none⟩))) hHeld ?_ ?_
    · intro w9 hSw
      try dsimp only at hSw
      go_simp
    try simp only [qpu]
    refine qtk (i := 9) (oi := fyp36o4) (v := (.int .i64 s.now)) hHeld ?_ ?_
    · intro w9 hSw
      try dsimp only at hSw
      have hcc := hSw.1.cell 1 (.int .i64 s.now) rfl
      go_simp
    try simp only [qpu]
    refine qtk (i := 10) (oi := fyp36o0) (v := (.bool (decide (f.ends ≤ s.now)))) hHeld ?_ ?_
    · intro w9 hSw
      try dsimp only at hSw
      go_simp
    try simp only [qpu]
    refine qtk (i := 11) (oi := fyp36o2) (v := (.bool (decide (f.ends ≤ s.now)))) hHeld ?_ ?_
    · intro w9 hSw
      try dsimp only at hSw
      go_simp
    try simp only [qpu]
    refine wpAnyH_done (by kernel_rfl) ?_ _
    refine NoPanic.normal ?_
    cases hq5 : (decide (f.ends ≤ s.now)) with
    | false =>
      go_wp2_with (refine wpList_load_sub_w (by rfl) _ _ rfl w.heap.size 0 _ (by rfl) _ f.w.v Ax3 (by rfl) Try.underlying26 (by kernel_rfl) ?_)
      refine Calls.mono (rplace_fy rb s (some ⟨p2, off2, none⟩) c f.w _ hll Tx3 Ex3) ?_
      rintro e Wm6 ⟨rfl, bb⟩
      have Tm6 := Tx3.kept bb
      have Em6 := Ex3.kept bb
      have Am6 := Ax3.kept bb
      have bm6 := bx3.below bb
      clear bb
      rw [hq]
      clear Tx3 Ex3 Ax3 bx3
      go_wp2_with (refine wpList_load_sub_w (by rfl) _ _ rfl w.heap.size 0 _ (by rfl) _ f.w.v Am6 (by rfl) Try.underlying26 (by kernel_rfl) ?_)
      refine Calls.mono (rrev_t f.w _) ?_
      rintro e Wm7 ⟨rfl, bb⟩
      have Tm7 := Tm6.kept bb
      have Em7 := Em6.kept bb
      have Am7 := Am6.kept bb
      have bm7 := bm6.below bb
      clear bb
      clear Tm6 Em6 Am6 bm6
      go_wp2_with fail
      refine Calls.mono (rplace_fy rb s (some ⟨p2, off2, none⟩) c (f.w.rev) _ hll Tm7 Em7) ?_
      rintro e Wm8 ⟨rfl, bb⟩
      have Tm8 := Tm7.kept bb
      have Em8 := Em7.kept bb
      have Am8 := Am7.kept bb
      have bm8 := bm7.below bb
      clear bb
      rw [hp]
      clear Tm7 Em7 Am7 bm7
      go_wp2_with fail
      have hR2 : R = (((s, 15) : Ft × Int)) := by rw [← HR.out]; exact put_there (by assumption) (by assumption) HA.out HA2.out
      subst hR2
      go_ret
      exact ⟨rfl, ⟨(some ⟨p2, off2, none⟩), c, ⟨Tm8, Em8, nET⟩, (fun y hy => .inl hy)⟩, bm8⟩

    | true =>
      go_wp2_with fail
      have hR2 : R = (((s, 1) : Ft × Int)) := by rw [← HR.out]; exact put_late (by assumption)
      subst hR2
      go_ret
      exact ⟨rfl, ⟨(some ⟨p2, off2, none⟩), c, ⟨Tx3, Ex3, nET⟩, (fun y hy => .inl hy)⟩, bx3⟩
set_option maxRecDepth 100000 in
set_option maxHeartbeats 16000000 in
theorem rput3_fy (rb : Nat) (s : Ft) (a : Option Addr) (c : Nat) (f : Fl) (w : World) (hfo : f.w.ok) (hll : s.L.length ≤ 100000) (H : DocF w rb s a c) (hok : FtOk s) (hq : plc f.w s.L = -1) (hr : plc f.w.rev s.L = -1) (ha : atF f.w s.L = none) (ha2 : atF f.w.rev s.L = none) :
    Calls Try.prog 47 #[.pointer (some ⟨rb, 0, none⟩), .agg f.v] w fun e w' => e = .returned (.int .i64 (s.put f).2) ∧ DocNF w.heap.size a w' rb (s.put f).1 ∧ But (fun k => k = rb) w w' := by
  have HA : Hid _ := ha
  clear ha
  have HA2 : Hid _ := ha2
  clear ha2
  have HOK : Hid (FtOk s) := hok
  clear hok
  have T := H.tab
  have E := H.row
  have hne := H.ne
  have hgl := T.lt
  have hal := E.lt
  have nET : ∀ y : Addr, a = some y → y.block ≠ rb := hne
  clear H
  obtain ⟨R, hR⟩ : ∃ R, s.put f = R := ⟨_, rfl⟩
  have HR : Hid (s.put f = R) := hR
  try rw [hR]
  clear hR
  have b := But.refl (fun k => k = rb) w
  go_enter Try.func47, Try.ntmps47
  obtain ⟨Wm1, hWm1⟩ : ∃ W, w.alloc (.cells f.v 33) = W := ⟨_, rfl⟩
  have bm1 := but_al b hWm1
  have Tm1 := T.al hWm1
  have Em1 := E.al hWm1
  have Am1 := blk_nw hWm1
  have gA : (fun k => k = rb) w.heap.size ∨ w.heap.size ≤ w.heap.size := .inr b.size
  have nTA : rb ≠ w.heap.size := by have := T.lt; omega
  have nAT : w.heap.size ≠ rb := fun e => nTA e.symm
  have nEA : ∀ y : Addr, a = some y → y.block ≠ w.heap.size := fun y hy => by have := E.lt y hy; omega
  go_wp2_with fail
  obtain ⟨Wdq2, hWdq2⟩ : ∃ W, Wm1.drew = W := ⟨_, rfl⟩
  have Tdq2 := hWdq2 ▸ Tm1.drew
  have Edq2 := hWdq2 ▸ Em1.drew
  have Adq2 := hWdq2 ▸ Am1.drew
  have bdq2 := hWdq2 ▸ bm1.drew
  refine wp_region_noPanic ?_
  refine wp_region_held_drew (S := fun w' => Blk w' rb 55 #[.int .i64 s.most, .int .i64 s.now, .slice a s.L.length c] ∧ RowG w' a c s.L ∧ Blk w' w.heap.size 33 f.v) (by kernel_rfl) (by rw [hWdq2]; exact ⟨Tdq2, Edq2, Adq2⟩) (fun hHeld => ?_)
  rw [hWdq2] at hHeld ⊢
  refine qty (i := 0) (oi := fyp36o22) (v := (.agg f.v)) (yieldsIf_blk_w (by kernel_rfl) _ _ rfl w.heap.size (by rfl) _ (fun _ hSw => hSw.2.2) Try.underlying33 (by kernel_rfl)) hHeld ?_
  try simp only [qpu]
  refine wpAnyH_ready (rs := [1]) (by kernel_rfl) (by simp) ?_
  refine AllReadyH.cons (o := fyp36o9) rfl (fun K hK => ?_) AllReadyH.nil
  go_simp
  refine Calls.mono (rright_fw f _ (by assumption)) ?_
  rintro e Wx3 ⟨rfl, bb⟩
  have Tx3 := Tdq2.kept bb
  have Ex3 := Edq2.kept bb
  have Ax3 := Adq2.kept bb
  have bx3 := bdq2.below bb
  clear bb
  refine hK.out _ _ (by exact ⟨Tx3, Ex3, Ax3⟩) (fun hHeld => ?_)
  clear hK K
  try simp only [qpu]
  refine qtk (i := 2) (oi := fyp36o12) (v := (.bool (!(Fl.right f)))) hHeld ?_ ?_
  · intro w9 hSw
    try dsimp only at hSw
    go_simp
  try simp only [qpu]
  refine qtk (i := 3) (oi := fyp36o10) (v := (.bool (!(Fl.right f)))) hHeld ?_ ?_
  · intro w9 hSw
    try dsimp only at hSw
    go_simp
  try simp only [qpu]
  cases hq4 : (Fl.right f) with
  | false =>
    refine qtn (i := 4) (oi := fyp36o7) hHeld ?_
    try simp only [qpu]
    refine qtn (i := 5) (oi := fyp36o3) hHeld ?_
    try simp only [qpu]
    refine qtn (i := 6) (oi := fyp36o6) hHeld ?_
    try simp only [qpu]
    refine qtn (i := 7) (oi := fyp36o5) hHeld ?_
    try simp only [qpu]
    refine qtn (i := 8) (oi := fyp36o1) hHeld ?_
    try simp only [qpu]
    refine qtn (i := 9) (oi := fyp36o4) hHeld ?_
    try simp only [qpu]
    refine qtn (i := 10) (oi := fyp36o0) hHeld ?_
    try simp only [qpu]
    refine qtk (i := 11) (oi := fyp36o2) (v := (.bool true)) hHeld ?_ ?_
    · intro w9 hSw
      try dsimp only at hSw
      go_simp
    try simp only [qpu]
    refine wpAnyH_done (by kernel_rfl) ?_ _
    refine NoPanic.normal ?_
    go_wp2_with fail
    have hR2 : R = (((s, 1) : Ft × Int)) := by rw [← HR.out]; exact put_bad (by assumption)
    subst hR2
    go_ret
    exact ⟨rfl, ⟨a, c, ⟨Tx3, Ex3, nET⟩, (fun y hy => .inl hy)⟩, bx3⟩

  | true =>
    refine qtk (i := 4) (oi := fyp36o7) (v := (.pointer (some ⟨w.heap.size, 19, none⟩))) hHeld ?_ ?_
    · intro w9 hSw
      try dsimp only at hSw
      go_simp
    try simp only [qpu]
    refine qtk (i := 5) (oi := fyp36o3) (v := (.int .i64 f.ends)) hHeld ?_ ?_
    · intro w9 hSw
      try dsimp only at hSw
      have hcc := hSw.2.2.cell 19 (.int .i64 f.ends) rfl
      go_simp
    try simp only [qpu]
    refine qtk (i := 6) (oi := fyp36o6) (v := (.pointer (some ⟨rb, 0, none⟩))) hHeld ?_ ?_
    · intro w9 hSw
      try dsimp only at hSw
      go_simp
    try simp only [qpu]
    refine qtk (i := 7) (oi := fyp36o5) (v := (.pointer (some ⟨rb, 0, none⟩))) hHeld ?_ ?_
    · intro w9 hSw
      try dsimp only at hSw
      go_simp
    try simp only [qpu]
    refine qtk (i := 8) (oi := fyp36o1) (v := (.pointer (some ⟨rb, 1, none⟩))) hHeld ?_ ?_
    · intro w9 hSw
      try dsimp only at hSw
      go_simp
    try simp only [qpu]
    refine qtk (i := 9) (oi := fyp36o4) (v := (.int .i64 s.now)) hHeld ?_ ?_
    · intro w9 hSw
      try dsimp only at hSw
      have hcc := hSw.1.cell 1 (.int .i64 s.now) rfl
      go_simp
    try simp only [qpu]
    refine qtk (i := 10) (oi := fyp36o0) (v := (.bool (decide (f.ends ≤ s.now)))) hHeld ?_ ?_
    · intro w9 hSw
      try dsimp only at hSw
      go_simp
    try simp only [qpu]
    refine qtk (i := 11) (oi := fyp36o2) (v := (.bool (decide (f.ends ≤ s.now)))) hHeld ?_ ?_
    · intro w9 hSw
      try dsimp only at hSw
      go_simp
    try simp only [qpu]
    refine wpAnyH_done (by kernel_rfl) ?_ _
    refine NoPanic.normal ?_
    cases hq5 : (decide (f.ends ≤ s.now)) with
    | false =>
      go_wp2_with (refine wpList_load_sub_w (by rfl) _ _ rfl w.heap.size 0 _ (by rfl) _ f.w.v Ax3 (by rfl) Try.underlying26 (by kernel_rfl) ?_)
      refine Calls.mono (rplace_fy rb s a c f.w _ hll Tx3 Ex3) ?_
      rintro e Wm6 ⟨rfl, bb⟩
      have Tm6 := Tx3.kept bb
      have Em6 := Ex3.kept bb
      have Am6 := Ax3.kept bb
      have bm6 := bx3.below bb
      clear bb
      rw [hq]
      clear Tx3 Ex3 Ax3 bx3
      go_wp2_with (refine wpList_load_sub_w (by rfl) _ _ rfl w.heap.size 0 _ (by rfl) _ f.w.v Am6 (by rfl) Try.underlying26 (by kernel_rfl) ?_)
      refine Calls.mono (rrev_t f.w _) ?_
      rintro e Wm7 ⟨rfl, bb⟩
      have Tm7 := Tm6.kept bb
      have Em7 := Em6.kept bb
      have Am7 := Am6.kept bb
      have bm7 := bm6.below bb
      clear bb
      clear Tm6 Em6 Am6 bm6
      go_wp2_with fail
      refine Calls.mono (rplace_fy rb s a c (f.w.rev) _ hll Tm7 Em7) ?_
      rintro e Wm8 ⟨rfl, bb⟩
      have Tm8 := Tm7.kept bb
      have Em8 := Em7.kept bb
      have Am8 := Am7.kept bb
      have bm8 := bm7.below bb
      clear bb
      rw [hr]
      clear Tm7 Em7 Am7 bm7
      go_wp2_with fail
      obtain ⟨Wdq9, hWdq9⟩ : ∃ W, Wm8.drew = W := ⟨_, rfl⟩
      have Tdq9 := hWdq9 ▸ Tm8.drew
      have Edq9 := hWdq9 ▸ Em8.drew
      have Adq9 := hWdq9 ▸ Am8.drew
      have bdq9 := hWdq9 ▸ bm8.drew
      refine wp_region_noPanic ?_
      refine wp_region_held_drew (S := fun w' => Blk w' rb 55 #[.int .i64 s.most, .int .i64 s.now, .slice a s.L.length c] ∧ RowG w' a c s.L ∧ Blk w' w.heap.size 33 f.v) (by kernel_rfl) (by rw [hWdq9]; exact ⟨Tdq9, Edq9, Adq9⟩) (fun hHeld => ?_)
      rw [hWdq9] at hHeld ⊢
      refine qtk (i := 0) (oi := { dst := some 45, op := Op.move (.tmp 0), type := 61, pos := "ref.go:171", after := #[], guard := none }) (v := (.pointer (some ⟨rb, 0, none⟩))) hHeld ?_ ?_
      · intro w9 hSw
        try dsimp only at hSw
        go_simp
      try simp only [qpu]
      refine qtk (i := 1) (oi := { dst := some 46, op := Op.nilCheck (.tmp 45), type := 0, pos := "ref.go:171", after := #[{ on := 0, ground := Ground.data }], guard := none }) (v := (.pointer (some ⟨rb, 0, none⟩))) hHeld ?_ ?_
      · intro w9 hSw
        try dsimp only at hSw
        go_simp
      try simp only [qpu]
      refine qtk (i := 2) (oi := { dst := some 47, op := Op.fieldAddr 55 (.tmp 46) 2, type := 0, pos := "ref.go:171", after := #[{ on := 1, ground := Ground.data }], guard := none }) (v := (.pointer (some ⟨rb, 2, none⟩))) hHeld ?_ ?_
      · intro w9 hSw
        try dsimp only at hSw
        go_simp
      try simp only [qpu]
      refine qtk (i := 3) (oi := { dst := some 48, op := Op.load 53 (.tmp 47), type := 53, pos := "ref.go:171", after := #[{ on := 2, ground := Ground.data }], guard := none }) (v := (.slice a s.L.length c)) hHeld ?_ ?_
      · intro w9 hSw
        try dsimp only at hSw
        have hcc := hSw.1.cell 2 (.slice a s.L.length c) rfl
        go_simp
      try simp only [qpu]
      refine qtk (i := 4) (oi := { dst := some 49, op := Op.call { callee := Callee.builtin Builtin.len, args := #[.tmp 48], argTypes := #[53] }, type := 3, pos := "ref.go:171", after := #[{ on := 3, ground := Ground.data }], guard := none }) (v := (.int .i64 (s.L.length : Int))) hHeld ?_ ?_
      · intro w9 hSw
        try dsimp only at hSw
        go_simp
      try simp only [qpu]
      refine qtk (i := 5) (oi := { dst := some 50, op := Op.move (.tmp 0), type := 61, pos := "ref.go:171", after := #[], guard := none }) (v := (.pointer (some ⟨rb, 0, none⟩))) hHeld ?_ ?_
      · intro w9 hSw
        try dsimp only at hSw
        go_simp
      try simp only [qpu]
      refine qtk (i := 6) (oi := { dst := some 51, op := Op.nilCheck (.tmp 50), type := 0, pos := "ref.go:171", after := #[{ on := 5, ground := Ground.data }], guard := none }) (v := (.pointer (some ⟨rb, 0, none⟩))) hHeld ?_ ?_
      · intro w9 hSw
        try dsimp only at hSw
        go_simp
      try simp only [qpu]
      refine qtk (i := 7) (oi := { dst := some 52, op := Op.fieldAddr 55 (.tmp 51) 0, type := 0, pos := "ref.go:171", after := #[{ on := 6, ground := Ground.data }], guard := none }) (v := (.pointer (some ⟨rb, 0, none⟩))) hHeld ?_ ?_
      · intro w9 hSw
        try dsimp only at hSw
        go_simp
      try simp only [qpu]
      refine qtk (i := 8) (oi := { dst := some 53, op := Op.load 3 (.tmp 52), type := 3, pos := "ref.go:171", after := #[{ on := 7, ground := Ground.data }], guard := none }) (v := (.int .i64 s.most)) hHeld ?_ ?_
      · intro w9 hSw
        try dsimp only at hSw
        have hcc := hSw.1.cell 0 (.int .i64 s.most) rfl
        go_simp
      try simp only [qpu]
      refine qtk (i := 9) (oi := { dst := some 54, op := Op.binOp BinOp.geq 3 (.tmp 49) (.tmp 53) 3, type := 4, pos := "ref.go:171", after := #[{ on := 4, ground := Ground.data }, { on := 8, ground := Ground.data }], guard := none }) (v := (.bool (decide (s.most ≤ (s.L.length : Int))))) hHeld ?_ ?_
      · intro w9 hSw
        try dsimp only at hSw
        go_simp
      try simp only [qpu]
      refine wpAnyH_done (by kernel_rfl) ?_ _
      refine NoPanic.normal ?_
      cases hq10 : (decide (s.most ≤ (s.L.length : Int))) with
      | false =>
        go_wp2_with fail
        go_loopw [5] (fun i wr => ∃ k : Nat, k ≤ s.L.length ∧ i = .int .i64 k ∧ Hid (∀ j g, j < k → s.L[j]? = some g → g.w.order f.w < 0) ∧ Blk wr rb 55 #[.int .i64 s.most, .int .i64 s.now, .slice a s.L.length c] ∧ RowG wr a c s.L ∧ Blk wr w.heap.size 33 f.v ∧ But (fun k => k = rb) w wr) (fun i _ => s.L.length - (intOf i).toNat)
        case atStart => exact ⟨0, Nat.zero_le _, rfl, fun j g hj => absurd hj (Nat.not_lt_zero _), Tdq9, Edq9, Adq9, bdq9⟩
        case round =>
          obtain ⟨k, hk, rfl, HB, Tr, Er, Ar, br⟩ := hrel
          obtain ⟨Wr, rfl⟩ : ∃ W, W = wr := ⟨_, rfl⟩
          have hltk : (s.L.take k).length = k := by rw [List.length_take]; omega
          have hldk : (s.L.drop k).length = s.L.length - k := List.length_drop
          have hkc : k ≤ c := by have := Er.le; omega
          have hsum3 : k + 1 + (s.L.length - k) = s.L.length + 1 := by omega
          have in0 : (0 : Int) ≤ (k : Int) := by omega
          by_cases hlt : k < s.L.length
          · have ik : (k : Int) < (s.L.length : Int) := by omega
            have ik' : decide ((k : Int) < (s.L.length : Int)) = true := by simpa using ik
            obtain ⟨x, hx⟩ : ∃ q, s.L[k]? = some q := ⟨_, List.getElem?_eq_getElem hlt⟩
            have HX : Hid (s.L[k]? = some x) := hx
            obtain ⟨p2, off2, rfl, hcells⟩ := Er.row.cells k x hx
            clear hcells hx
            go_wp2_with fail
            obtain ⟨Wdq11, hWdq11⟩ : ∃ W, Wr.drew = W := ⟨_, rfl⟩
            have Tdq11 := hWdq11 ▸ Tr.drew
            have Edq11 := hWdq11 ▸ Er.drew
            have Adq11 := hWdq11 ▸ Ar.drew
            have bdq11 := hWdq11 ▸ br.drew
            refine wp_region_noPanic ?_
            refine wp_region_held_drew (S := fun w' => Blk w' rb 55 #[.int .i64 s.most, .int .i64 s.now, .slice (some ⟨p2, off2, none⟩) s.L.length c] ∧ RowG w' (some ⟨p2, off2, none⟩) c s.L ∧ Blk w' w.heap.size 33 f.v) (by kernel_rfl) (by rw [hWdq11]; exact ⟨Tdq11, Edq11, Adq11⟩) (fun hHeld => ?_)
            rw [hWdq11] at hHeld ⊢
            refine qtk (i := 0) (oi := fyp36o34) (v := (.int .i64 (k : Int))) hHeld ?_ ?_
            · intro w9 hSw
              try dsimp only at hSw
              go_simp
            try simp only [qpu]
            refine qtk (i := 1) (oi := fyp36o31) (v := (.pointer (some ⟨rb, 0, none⟩))) hHeld ?_ ?_
            · intro w9 hSw
              try dsimp only at hSw
              go_simp
            try simp only [qpu]
            refine qtk (i := 2) (oi := fyp36o30) (v := (.pointer (some ⟨rb, 0, none⟩))) hHeld ?_ ?_
            · intro w9 hSw
              try dsimp only at hSw
              go_simp
            try simp only [qpu]
            refine qtk (i := 3) (oi := fyp36o25) (v := (.pointer (some ⟨rb, 2, none⟩))) hHeld ?_ ?_
            · intro w9 hSw
              try dsimp only at hSw
              go_simp
            try simp only [qpu]
            refine qtk (i := 4) (oi := fyp36o27) (v := (.slice (some ⟨p2, off2, none⟩) s.L.length c)) hHeld ?_ ?_
            · intro w9 hSw
              try dsimp only at hSw
              have hcc := hSw.1.cell 2 (.slice (some ⟨p2, off2, none⟩) s.L.length c) rfl
              go_simp
            try simp only [qpu]
            refine qtk (i := 5) (oi := fyp36o14) (v := (.int .i64 (s.L.length : Int))) hHeld ?_ ?_
            · intro w9 hSw
              try dsimp only at hSw
              go_simp
            try simp only [qpu]
            refine qtk (i := 6) (oi := fyp36o15) (v := (.bool (decide ((k : Int) < (s.L.length : Int))))) hHeld ?_ ?_
            · intro w9 hSw
              try dsimp only at hSw
              go_simp
            try simp only [qpu]
            refine qtk (i := 7) (oi := fyp36o29) (v := (.bool true)) hHeld ?_ ?_
            · intro w9 hSw
              try dsimp only at hSw
              go_simp
            try simp only [qpu]
            refine qtk (i := 8) (oi := fyp36o24) (v := (.pointer (some ⟨rb, 0, none⟩))) hHeld ?_ ?_
            · intro w9 hSw
              try dsimp only at hSw
              go_simp
            try simp only [qpu]
            refine qtk (i := 9) (oi := fyp36o23) (v := (.pointer (some ⟨rb, 0, none⟩))) hHeld ?_ ?_
            · intro w9 hSw
              try dsimp only at hSw
              go_simp
            try simp only [qpu]
            refine qtk (i := 10) (oi := fyp36o16) (v := (.pointer (some ⟨rb, 2, none⟩))) hHeld ?_ ?_
            · intro w9 hSw
              try dsimp only at hSw
              go_simp
            try simp only [qpu]
            refine qtk (i := 11) (oi := fyp36o18) (v := (.slice (some ⟨p2, off2, none⟩) s.L.length c)) hHeld ?_ ?_
            · intro w9 hSw
              try dsimp only at hSw
              have hcc := hSw.1.cell 2 (.slice (some ⟨p2, off2, none⟩) s.L.length c) rfl
              go_simp
            try simp only [qpu]
            refine qtk (i := 12) (oi := fyp36o28) (v := (.int .i64 (k : Int))) hHeld ?_ ?_
            · intro w9 hSw
              try dsimp only at hSw
              go_simp
            try simp only [qpu]
            refine qtk (i := 13) (oi := fyp36o11) (v := (.pointer (some ⟨p2, off2 + k * 22, none⟩))) hHeld ?_ ?_
            · intro w9 hSw
              try dsimp only at hSw
              go_simp
            try simp only [qpu]
            refine qtk (i := 14) (oi := fyp36o21) (v := (.pointer (some ⟨p2, off2 + k * 22, none⟩))) hHeld ?_ ?_
            · intro w9 hSw
              try dsimp only at hSw
              go_simp
            try simp only [qpu]
            refine qty (i := 15) (oi := fyp36o19) (v := (.agg x.w.v)) (yieldsIf_at (by kernel_rfl) _ _ rfl p2 (off2 + k * 22) (by rfl) _ (fun _ hSw => cells_pre ((hSw.2.1).at_ HX.out)) Try.underlying26 (by kernel_rfl)) hHeld ?_
            try simp only [qpu]
            refine qtk (i := 16) (oi := fyp36o26) (v := (.pointer (some ⟨w.heap.size, 0, none⟩))) hHeld ?_ ?_
            · intro w9 hSw
              try dsimp only at hSw
              go_simp
            try simp only [qpu]
            refine qty (i := 17) (oi := fyp36o20) (v := (.agg f.w.v)) (yieldsIf_sub_w (by kernel_rfl) _ _ rfl w.heap.size 0 _ (by rfl) _ f.w.v (fun _ hSw => hSw.2.2) (by rfl) Try.underlying26 (by kernel_rfl)) hHeld ?_
            try simp only [qpu]
            refine wpAnyH_ready (rs := [18]) (by kernel_rfl) (by simp) ?_
            refine AllReadyH.cons (o := fyp36o8) rfl (fun K hK => ?_) AllReadyH.nil
            go_simp
            refine Calls.mono (rorder_t x.w f.w _) ?_
            rintro e Wx12 ⟨rfl, bb⟩
            have Tx12 := Tdq11.kept bb
            have Ex12 := Edq11.kept bb
            have Ax12 := Adq11.kept bb
            have bx12 := bdq11.below bb
            clear bb
            refine hK.out _ _ (by exact ⟨Tx12, Ex12, Ax12⟩) (fun hHeld => ?_)
            clear hK K
            try simp only [qpu]
            refine qtk (i := 19) (oi := fyp36o13) (v := (.bool (decide ((x.w.order f.w) < 0)))) hHeld ?_ ?_
            · intro w9 hSw
              try dsimp only at hSw
              go_simp
            try simp only [qpu]
            refine qtk (i := 20) (oi := fyp36o17) (v := (.bool (decide ((x.w.order f.w) < 0)))) hHeld ?_ ?_
            · intro w9 hSw
              try dsimp only at hSw
              go_simp
            try simp only [qpu]
            refine wpAnyH_done (by kernel_rfl) ?_ _
            refine NoPanic.normal ?_
            cases hq13 : (decide ((x.w.order f.w) < 0)) with
            | false =>
              have c14 := Tx12.cell 2 (.slice (some ⟨p2, off2, none⟩) s.L.length c) rfl
              obtain ⟨bu, hbu, hbu2⟩ := run_uptoG (w := w) (a := (some ⟨p2, off2, none⟩)) (c := c) (L := s.L) s.L.length k hkc
              obtain ⟨bf, hbf, hbf2⟩ := run_fromG (w := w) (a := (some ⟨p2, off2, none⟩)) (c := c) (L := s.L) s.L.length k hk rfl
              go_wp2_with (first | (refine wpList_slice _ rfl _ _ _ _ _ rfl _ _ _ _ (by rfl) (by rfl) (by rfl) (by rfl) _ hbu ?_; try simp only [qpu]) | (refine wpList_rnLsR _ rfl _ _ rfl Wx12.heap.size none 0 [] 0 rfl (by rfl) (own_noneL _ _) bu c (s.L.take k) k hltk (by rfl) (hbu2 _ Ex12) (by omega) (Nat.le_refl _) k (Nat.zero_add k) ?_; intro a8 c8 Wa15 Oa15 Hg9; have bg : But (fun _ => False) Wx12 Wa15 := (But.refl _ _).grown Hg9 (fun n hn => by cases hn); have Ta15 := Tx12.but bg (fun h => h); have Ea15 := Ex12.but bg (fun _ _ h => h); have Aa15 := Ax12.but bg (fun h => h); have ba15 := bx12.trans bg (fun n _ e => e.elim); have hlT : rb < Wx12.heap.size := Tx12.lt; have hlA : w.heap.size < Wx12.heap.size := Ax12.lt; have hlE : ∀ y : Addr, (some ⟨p2, off2, none⟩) = some y → y.block < Wx12.heap.size := Ex12.lt; have hw8 : w.heap.size ≤ Wx12.heap.size := bx12.size; have hz8 : Wx12.heap.size ≤ Wa15.heap.size := bg.size; clear bg Hg9; rw [List.nil_append] at Oa15; obtain ⟨Wm16, hWm16⟩ : ∃ W, Wa15.alloc (.cells f.v 33) = W := ⟨_, rfl⟩; have bm16 := but_al ba15 hWm16; have Tm16 := Ta15.al hWm16; have Em16 := Ea15.al hWm16; have Am16 := Aa15.al hWm16; have Om16 := Oa15.al hWm16; have Bm16 := blk_nw hWm16; have gB : (fun k => k = rb) Wa15.heap.size ∨ w.heap.size ≤ Wa15.heap.size := .inr ba15.size; have nTB : rb ≠ Wa15.heap.size := by { have := Ta15.lt; omega }; have nBT : Wa15.heap.size ≠ rb := fun e => nTB e.symm; have nEB : ∀ y : Addr, (some ⟨p2, off2, none⟩) = some y → y.block ≠ Wa15.heap.size := fun y hy => by { have := Ea15.lt y hy; omega }; have nAB : w.heap.size ≠ Wa15.heap.size := by { have := Aa15.lt; omega }; have nBA : Wa15.heap.size ≠ w.heap.size := fun e => nAB e.symm; have nOB : ∀ y : Addr, a8 = some y → y.block ≠ Wa15.heap.size := fun y hy => by { have := Oa15.lt_size y hy; omega }; have hz8 : Wx12.heap.size ≤ Wm16.heap.size := Nat.le_trans hz8 (by rw [← hWm16]; exact alloc_le_x _ _)) | (refine wpList_load_blk_w (by rfl) _ _ rfl w.heap.size (by rfl) _ Aa15 Try.underlying33 (by kernel_rfl) ?_) | (refine wpList_rnLsR _ rfl _ _ rfl Wx12.heap.size a8 c8 (s.L.take k) k hltk (by rfl) Om16 (some ⟨Wa15.heap.size, 0, none⟩) 1 [f] 1 rfl (by rfl) (row_oneL Bm16) (by omega) hz8 (k + 1) rfl ?_; intro a9 c9 Wa17 Oa17 Hg9; have bg : But (fun k => a8.map (·.block) = some k) Wm16 Wa17 := (But.refl _ _).grown Hg9 (fun n hn => .inl hn); have Ta17 := Tm16.but bg (map_geL Om16.lt hlT); have Ea17 := Em16.but bg (fun y hy => map_geL Om16.lt (hlE y hy)); have Aa17 := Am16.but bg (map_geL Om16.lt hlA); have ba17 : But (fun k => k = rb) w Wa17 := bm16.trans bg (fun n hn e => absurd e (map_geL Om16.lt (Nat.lt_of_lt_of_le hn hw8))); have hz9 : Wx12.heap.size ≤ Wa17.heap.size := Nat.le_trans hz8 bg.size; have hl1 : (s.L.take k ++ [f]).length = k + 1 := by { rw [List.length_append, hltk]; rfl }; clear bg Hg9; have c18 := Ta17.cell 2 (.slice (some ⟨p2, off2, none⟩) s.L.length c) rfl) | (refine wpList_slice _ rfl _ _ _ _ _ rfl _ _ _ _ (by rfl) (by rfl) (by rfl) (by rfl) _ hbf ?_; try simp only [qpu]) | (refine wpList_rnLsR _ rfl _ _ rfl Wx12.heap.size a9 c9 (s.L.take k ++ [f]) (k + 1) hl1 (by rfl) Oa17 bf (c - k) (s.L.drop k) (s.L.length - k) hldk (by rfl) (hbf2 _ Ea17) (by omega) hz9 (s.L.length + 1) hsum3 ?_; intro a7 c7 Wa19 Oa19 Hg9; have bg : But (fun k => a9.map (·.block) = some k) Wa17 Wa19 := (But.refl _ _).grown Hg9 (fun n hn => .inl hn); have Ta19 := Ta17.but bg (map_geL Oa17.lt hlT); have Ea19 := Ea17.but bg (fun y hy => map_geL Oa17.lt (hlE y hy)); have Aa19 := Aa17.but bg (map_geL Oa17.lt hlA); have ba19 : But (fun k => k = rb) w Wa19 := ba17.trans bg (fun n hn e => absurd e (map_geL Oa17.lt (Nat.lt_of_lt_of_le hn hw8))); have hga : ∀ y, a7 = some y → Wx12.heap.size ≤ y.block := Oa19.lt; have nOT : ∀ y : Addr, a7 = some y → y.block ≠ rb := fun y hy => by { have := hga y hy; omega }; clear bg Hg9; have y21 := Ta19.cell 2 (.slice (some ⟨p2, off2, none⟩) s.L.length c) rfl; have z22 := Ta19.frozen 2; obtain ⟨Wm20, hWm20⟩ : ∃ W, Wa19.setCell ⟨rb, 2, none⟩ (.slice a7 (s.L.length + 1) c7) = W := ⟨_, rfl⟩; have Tm20 : Blk Wm20 rb 55 #[.int .i64 s.most, .int .i64 s.now, .slice a7 (s.L.length + 1) c7] := hWm20 ▸ Ta19.put 2 (.slice a7 (s.L.length + 1) c7); have Em20 := hWm20 ▸ Ea19.put_other Ta19 nET 2 (.slice a7 (s.L.length + 1) c7); have Am20 := hWm20 ▸ Aa19.put_other Ta19 nAT 2 (.slice a7 (s.L.length + 1) c7); have Om20 := hWm20 ▸ Oa19.put_other Ta19 nOT 2 (.slice a7 (s.L.length + 1) c7); have bm20 := hWm20 ▸ ba19.setCell rb 2 (.inl rfl) (.slice a7 (s.L.length + 1) c7)))
              have hR2 : R = (((⟨s.most, s.now, s.L.take k ++ [f] ++ s.L.drop k⟩, 0) : Ft × Int)) := by rw [← HR.out]; exact put_ins (by assumption) (by assumption) HA.out HA2.out (of_decide_eq_false (by assumption)) hk HB.out (fun g hg => by rw [HX.out] at hg; cases hg; exact of_decide_eq_false (by assumption))
              subst hR2
              go_ret
              exact ⟨rfl, ⟨a7, c7, ⟨(by show Blk _ _ _ #[.int .i64 s.most, .int .i64 s.now, .slice a7 (s.L.take k ++ [f] ++ s.L.drop k).length c7]; rw [List.length_append, hl1, hldk, hsum3]; exact Tm20), Om20.toE, nOT⟩, (fun y hy => .inr (Nat.le_trans hw8 (hga y hy)))⟩, bm20⟩

            | true =>
              go_wp2_with fail
              refine ⟨⟨k + 1, by omega, by go_num, fun j g hj hf => ?_, Tx12, Ex12, Ax12, bx12⟩, by simp [intOf]; omega⟩
              rcases Nat.lt_succ_iff_lt_or_eq.1 hj with h | rfl
              · exact HB.out j g h hf
              · rw [HX.out] at hf
                cases hf
                exact of_decide_eq_true (by assumption)


          · have ik : ¬ (k : Int) < (s.L.length : Int) := by omega
            have ik' : decide ((k : Int) < (s.L.length : Int)) = false := by simpa using ik
            go_wp2_with fail
            obtain ⟨Wdq23, hWdq23⟩ : ∃ W, Wr.drew = W := ⟨_, rfl⟩
            have Tdq23 := hWdq23 ▸ Tr.drew
            have Edq23 := hWdq23 ▸ Er.drew
            have Adq23 := hWdq23 ▸ Ar.drew
            have bdq23 := hWdq23 ▸ br.drew
            refine wp_region_noPanic ?_
            refine wp_region_held_drew (S := fun w' => Blk w' rb 55 #[.int .i64 s.most, .int .i64 s.now, .slice a s.L.length c] ∧ RowG w' a c s.L ∧ Blk w' w.heap.size 33 f.v) (by kernel_rfl) (by rw [hWdq23]; exact ⟨Tdq23, Edq23, Adq23⟩) (fun hHeld => ?_)
            rw [hWdq23] at hHeld ⊢
            refine qtk (i := 0) (oi := fyp36o34) (v := (.int .i64 (k : Int))) hHeld ?_ ?_
            · intro w9 hSw
              try dsimp only at hSw
              go_simp
            try simp only [qpu]
            refine qtk (i := 1) (oi := fyp36o31) (v := (.pointer (some ⟨rb, 0, none⟩))) hHeld ?_ ?_
            · intro w9 hSw
              try dsimp only at hSw
              go_simp
            try simp only [qpu]
            refine qtk (i := 2) (oi := fyp36o30) (v := (.pointer (some ⟨rb, 0, none⟩))) hHeld ?_ ?_
            · intro w9 hSw
              try dsimp only at hSw
              go_simp
            try simp only [qpu]
            refine qtk (i := 3) (oi := fyp36o25) (v := (.pointer (some ⟨rb, 2, none⟩))) hHeld ?_ ?_
            · intro w9 hSw
              try dsimp only at hSw
              go_simp
            try simp only [qpu]
            refine qtk (i := 4) (oi := fyp36o27) (v := (.slice a s.L.length c)) hHeld ?_ ?_
            · intro w9 hSw
              try dsimp only at hSw
              have hcc := hSw.1.cell 2 (.slice a s.L.length c) rfl
              go_simp
            try simp only [qpu]
            refine qtk (i := 5) (oi := fyp36o14) (v := (.int .i64 (s.L.length : Int))) hHeld ?_ ?_
            · intro w9 hSw
              try dsimp only at hSw
              go_simp
            try simp only [qpu]
            refine qtk (i := 6) (oi := fyp36o15) (v := (.bool (decide ((k : Int) < (s.L.length : Int))))) hHeld ?_ ?_
            · intro w9 hSw
              try dsimp only at hSw
              go_simp
            try simp only [qpu]
            refine qtk (i := 7) (oi := fyp36o29) (v := (.bool false)) hHeld ?_ ?_
            · intro w9 hSw
              try dsimp only at hSw
              go_simp
            try simp only [qpu]
            refine qtn (i := 8) (oi := fyp36o24) hHeld ?_
            try simp only [qpu]
            refine qtn (i := 9) (oi := fyp36o23) hHeld ?_
            try simp only [qpu]
            refine qtn (i := 10) (oi := fyp36o16) hHeld ?_
            try simp only [qpu]
            refine qtn (i := 11) (oi := fyp36o18) hHeld ?_
            try simp only [qpu]
            refine qtn (i := 12) (oi := fyp36o28) hHeld ?_
            try simp only [qpu]
            refine qtn (i := 13) (oi := fyp36o11) hHeld ?_
            try simp only [qpu]
            refine qtn (i := 14) (oi := fyp36o21) hHeld ?_
            try simp only [qpu]
            refine qtn (i := 15) (oi := fyp36o19) hHeld ?_
            try simp only [qpu]
            refine qtn (i := 16) (oi := fyp36o26) hHeld ?_
            try simp only [qpu]
            refine qtn (i := 17) (oi := fyp36o20) hHeld ?_
            try simp only [qpu]
            refine qtn (i := 18) (oi := fyp36o8) hHeld ?_
            try simp only [qpu]
            refine qtn (i := 19) (oi := fyp36o13) hHeld ?_
            try simp only [qpu]
            refine qtk (i := 20) (oi := fyp36o17) (v := (.bool false)) hHeld ?_ ?_
            · intro w9 hSw
              try dsimp only at hSw
              go_simp
            try simp only [qpu]
            refine wpAnyH_done (by kernel_rfl) ?_ _
            refine NoPanic.normal ?_
            have c24 := Tdq23.cell 2 (.slice a s.L.length c) rfl
            obtain ⟨bu, hbu, hbu2⟩ := run_uptoG (w := w) (a := a) (c := c) (L := s.L) s.L.length k hkc
            obtain ⟨bf, hbf, hbf2⟩ := run_fromG (w := w) (a := a) (c := c) (L := s.L) s.L.length k hk rfl
            go_wp2_with (first | (refine wpList_slice _ rfl _ _ _ _ _ rfl _ _ _ _ (by rfl) (by rfl) (by rfl) (by rfl) _ hbu ?_; try simp only [qpu]) | (refine wpList_rnLsR _ rfl _ _ rfl Wdq23.heap.size none 0 [] 0 rfl (by rfl) (own_noneL _ _) bu c (s.L.take k) k hltk (by rfl) (hbu2 _ Edq23) (by omega) (Nat.le_refl _) k (Nat.zero_add k) ?_; intro a8 c8 Wa25 Oa25 Hg9; have bg : But (fun _ => False) Wdq23 Wa25 := (But.refl _ _).grown Hg9 (fun n hn => by cases hn); have Ta25 := Tdq23.but bg (fun h => h); have Ea25 := Edq23.but bg (fun _ _ h => h); have Aa25 := Adq23.but bg (fun h => h); have ba25 := bdq23.trans bg (fun n _ e => e.elim); have hlT : rb < Wdq23.heap.size := Tdq23.lt; have hlA : w.heap.size < Wdq23.heap.size := Adq23.lt; have hlE : ∀ y : Addr, a = some y → y.block < Wdq23.heap.size := Edq23.lt; have hw8 : w.heap.size ≤ Wdq23.heap.size := bdq23.size; have hz8 : Wdq23.heap.size ≤ Wa25.heap.size := bg.size; clear bg Hg9; rw [List.nil_append] at Oa25; obtain ⟨Wm26, hWm26⟩ : ∃ W, Wa25.alloc (.cells f.v 33) = W := ⟨_, rfl⟩; have bm26 := but_al ba25 hWm26; have Tm26 := Ta25.al hWm26; have Em26 := Ea25.al hWm26; have Am26 := Aa25.al hWm26; have Om26 := Oa25.al hWm26; have Bm26 := blk_nw hWm26; have gB : (fun k => k = rb) Wa25.heap.size ∨ w.heap.size ≤ Wa25.heap.size := .inr ba25.size; have nTB : rb ≠ Wa25.heap.size := by { have := Ta25.lt; omega }; have nBT : Wa25.heap.size ≠ rb := fun e => nTB e.symm; have nEB : ∀ y : Addr, a = some y → y.block ≠ Wa25.heap.size := fun y hy => by { have := Ea25.lt y hy; omega }; have nAB : w.heap.size ≠ Wa25.heap.size := by { have := Aa25.lt; omega }; have nBA : Wa25.heap.size ≠ w.heap.size := fun e => nAB e.symm; have nOB : ∀ y : Addr, a8 = some y → y.block ≠ Wa25.heap.size := fun y hy => by { have := Oa25.lt_size y hy; omega }; have hz8 : Wdq23.heap.size ≤ Wm26.heap.size := Nat.le_trans hz8 (by rw [← hWm26]; exact alloc_le_x _ _)) | (refine wpList_load_blk_w (by rfl) _ _ rfl w.heap.size (by rfl) _ Aa25 Try.underlying33 (by kernel_rfl) ?_) | (refine wpList_rnLsR _ rfl _ _ rfl Wdq23.heap.size a8 c8 (s.L.take k) k hltk (by rfl) Om26 (some ⟨Wa25.heap.size, 0, none⟩) 1 [f] 1 rfl (by rfl) (row_oneL Bm26) (by omega) hz8 (k + 1) rfl ?_; intro a9 c9 Wa27 Oa27 Hg9; have bg : But (fun k => a8.map (·.block) = some k) Wm26 Wa27 := (But.refl _ _).grown Hg9 (fun n hn => .inl hn); have Ta27 := Tm26.but bg (map_geL Om26.lt hlT); have Ea27 := Em26.but bg (fun y hy => map_geL Om26.lt (hlE y hy)); have Aa27 := Am26.but bg (map_geL Om26.lt hlA); have ba27 : But (fun k => k = rb) w Wa27 := bm26.trans bg (fun n hn e => absurd e (map_geL Om26.lt (Nat.lt_of_lt_of_le hn hw8))); have hz9 : Wdq23.heap.size ≤ Wa27.heap.size := Nat.le_trans hz8 bg.size; have hl1 : (s.L.take k ++ [f]).length = k + 1 := by { rw [List.length_append, hltk]; rfl }; clear bg Hg9; have c28 := Ta27.cell 2 (.slice a s.L.length c) rfl) | (refine wpList_slice _ rfl _ _ _ _ _ rfl _ _ _ _ (by rfl) (by rfl) (by rfl) (by rfl) _ hbf ?_; try simp only [qpu]) | (refine wpList_rnLsR _ rfl _ _ rfl Wdq23.heap.size a9 c9 (s.L.take k ++ [f]) (k + 1) hl1 (by rfl) Oa27 bf (c - k) (s.L.drop k) (s.L.length - k) hldk (by rfl) (hbf2 _ Ea27) (by omega) hz9 (s.L.length + 1) hsum3 ?_; intro a7 c7 Wa29 Oa29 Hg9; have bg : But (fun k => a9.map (·.block) = some k) Wa27 Wa29 := (But.refl _ _).grown Hg9 (fun n hn => .inl hn); have Ta29 := Ta27.but bg (map_geL Oa27.lt hlT); have Ea29 := Ea27.but bg (fun y hy => map_geL Oa27.lt (hlE y hy)); have Aa29 := Aa27.but bg (map_geL Oa27.lt hlA); have ba29 : But (fun k => k = rb) w Wa29 := ba27.trans bg (fun n hn e => absurd e (map_geL Oa27.lt (Nat.lt_of_lt_of_le hn hw8))); have hga : ∀ y, a7 = some y → Wdq23.heap.size ≤ y.block := Oa29.lt; have nOT : ∀ y : Addr, a7 = some y → y.block ≠ rb := fun y hy => by { have := hga y hy; omega }; clear bg Hg9; have y31 := Ta29.cell 2 (.slice a s.L.length c) rfl; have z32 := Ta29.frozen 2; obtain ⟨Wm30, hWm30⟩ : ∃ W, Wa29.setCell ⟨rb, 2, none⟩ (.slice a7 (s.L.length + 1) c7) = W := ⟨_, rfl⟩; have Tm30 : Blk Wm30 rb 55 #[.int .i64 s.most, .int .i64 s.now, .slice a7 (s.L.length + 1) c7] := hWm30 ▸ Ta29.put 2 (.slice a7 (s.L.length + 1) c7); have Em30 := hWm30 ▸ Ea29.put_other Ta29 nET 2 (.slice a7 (s.L.length + 1) c7); have Am30 := hWm30 ▸ Aa29.put_other Ta29 nAT 2 (.slice a7 (s.L.length + 1) c7); have Om30 := hWm30 ▸ Oa29.put_other Ta29 nOT 2 (.slice a7 (s.L.length + 1) c7); have bm30 := hWm30 ▸ ba29.setCell rb 2 (.inl rfl) (.slice a7 (s.L.length + 1) c7)))
            have hR2 : R = (((⟨s.most, s.now, s.L.take k ++ [f] ++ s.L.drop k⟩, 0) : Ft × Int)) := by rw [← HR.out]; exact put_ins (by assumption) (by assumption) HA.out HA2.out (of_decide_eq_false (by assumption)) hk HB.out (fun g hg => by rw [List.getElem?_eq_none (by omega)] at hg; cases hg)
            subst hR2
            go_ret
            exact ⟨rfl, ⟨a7, c7, ⟨(by show Blk _ _ _ #[.int .i64 s.most, .int .i64 s.now, .slice a7 (s.L.take k ++ [f] ++ s.L.drop k).length c7]; rw [List.length_append, hl1, hldk, hsum3]; exact Tm30), Om30.toE, nOT⟩, (fun y hy => .inr (Nat.le_trans hw8 (hga y hy)))⟩, bm30⟩

      | true =>
        go_wp2_with fail
        have hR2 : R = (((s, 12) : Ft × Int)) := by rw [← HR.out]; exact put_full (by assumption) (by assumption) HA.out HA2.out (of_decide_eq_true (by assumption))
        subst hR2
        go_ret
        exact ⟨rfl, ⟨a, c, ⟨Tdq9, Edq9, nET⟩, (fun y hy => .inl hy)⟩, bdq9⟩


    | true =>
      go_wp2_with fail
      have hR2 : R = (((s, 1) : Ft × Int)) := by rw [← HR.out]; exact put_late (by assumption)
      subst hR2
      go_ret
      exact ⟨rfl, ⟨a, c, ⟨Tx3, Ex3, nET⟩, (fun y hy => .inl hy)⟩, bx3⟩
theorem rput_fy (rb : Nat) (s : Ft) (a : Option Addr) (c : Nat) (f : Fl) (w : World) (hfo : f.w.ok) (hll : s.L.length ≤ 100000) (H : DocF w rb s a c) (hok : FtOk s) :
    Calls Try.prog 47 #[.pointer (some ⟨rb, 0, none⟩), .agg f.v] w fun e w' => e = .returned (.int .i64 (s.put f).2) ∧ DocNF w.heap.size a w' rb (s.put f).1 ∧ But (fun k => k = rb) w w' := by
  rcases plc_atF (q := f.w) (L := s.L) with ⟨k, x, h1, h2, h3⟩ | ⟨h1, h2⟩
  · exact rput1_fy rb s a c f k x w hfo hll H hok h1 h2 h3
  · rcases plc_atF (q := f.w.rev) (L := s.L) with ⟨k, x, h4, h5, h6⟩ | ⟨h4, h5⟩
    · exact rput2_fy rb s a c f k x w hfo hll H hok h1 h4 h5 h2 h6
    · exact rput3_fy rb s a c f w hfo hll H hok h1 h4 h2 h5
end Go.Proofs.Ytmjjdbkipagkbaa
