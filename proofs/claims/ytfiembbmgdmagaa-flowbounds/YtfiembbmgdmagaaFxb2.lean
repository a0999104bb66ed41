/- Texts joined: TcC TcD -/
import Derived.Test.YtfiembbmgdmagaaFxb1
namespace Go.Proofs.Ytfiembbmgdmagaa
abbrev fxb2o0 : Oper := { dst := some 6, op := Op.assign (.tmp 23), type := 4, pos := "tcp.go:163", after := #[{ on := 16, ground := Ground.data }, { on := 15, ground := Ground.chain }, { on := 0, ground := Ground.phase }, { on := 1, ground := Ground.phase }, { on := 2, ground := Ground.phase }, { on := 3, ground := Ground.phase }, { on := 4, ground := Ground.phase }, { on := 5, ground := Ground.phase }, { on := 6, ground := Ground.phase }, { on := 7, ground := Ground.phase }, { on := 8, ground := Ground.phase }, { on := 9, ground := Ground.phase }, { on := 10, ground := Ground.phase }, { on := 11, ground := Ground.phase }, { on := 12, ground := Ground.phase }, { on := 13, ground := Ground.phase }, { on := 14, ground := Ground.phase }, { on := 15, ground := Ground.phase }, { on := 16, ground := Ground.phase }], guard := none }
abbrev fxb2o1 : Oper := { dst := some 22, op := Op.call { callee := Callee.value (.func 110), args := #[.tmp 13, .tmp 17, .tmp 21], argTypes := #[27, 27, 27] }, type := 4, pos := "tcp.go:163", after := #[{ on := 6, ground := Ground.data }, { on := 10, ground := Ground.data }, { on := 14, ground := Ground.data }, { on := 6, ground := Ground.chain }, { on := 4, ground := Ground.guard }], guard := some (4, true) }
abbrev fxb2o2 : Oper := { dst := some 13, op := Op.call { callee := Callee.value (.func 108), args := #[.tmp 12], argTypes := #[110] }, type := 27, pos := "tcp.go:163", after := #[{ on := 5, ground := Ground.data }, { on := 4, ground := Ground.chain }, { on := 4, ground := Ground.guard }], guard := some (4, true) }
abbrev fxb2o3 : Oper := { dst := some 20, op := Op.indexAddr 28 (.tmp 19) (.tmp 18), type := 0, pos := "tcp.go:163", after := #[{ on := 12, ground := Ground.data }, { on := 11, ground := Ground.data }, { on := 4, ground := Ground.guard }], guard := some (4, true) }
abbrev fxb2o4 : Oper := { dst := some 16, op := Op.indexAddr 28 (.tmp 15) (.tmp 14), type := 0, pos := "tcp.go:163", after := #[{ on := 8, ground := Ground.data }, { on := 7, ground := Ground.data }, { on := 4, ground := Ground.guard }], guard := some (4, true) }
abbrev fxb2o5 : Oper := { dst := some 23, op := Op.pick (.tmp 11) (.tmp 22) (.const (.bool false)), type := 4, pos := "tcp.go:163", after := #[{ on := 4, ground := Ground.data }, { on := 15, ground := Ground.data }], guard := none }
abbrev fxb2o6 : Oper := { dst := some 21, op := Op.load 27 (.tmp 20), type := 27, pos := "tcp.go:163", after := #[{ on := 13, ground := Ground.data }, { on := 4, ground := Ground.guard }], guard := some (4, true) }
abbrev fxb2o7 : Oper := { dst := some 17, op := Op.load 27 (.tmp 16), type := 27, pos := "tcp.go:163", after := #[{ on := 9, ground := Ground.data }, { on := 4, ground := Ground.guard }], guard := some (4, true) }
abbrev fxb2o8 : Oper := { dst := some 9, op := Op.indexAddr 29 (.tmp 8) (.tmp 7), type := 0, pos := "tcp.go:163", after := #[{ on := 1, ground := Ground.data }, { on := 0, ground := Ground.data }], guard := none }
abbrev fxb2o9 : Oper := { dst := some 12, op := Op.load 110 (.tmp 5), type := 110, pos := "tcp.go:163", after := #[{ on := 4, ground := Ground.guard }], guard := some (4, true) }
abbrev fxb2o10 : Oper := { dst := some 15, op := Op.fieldAddr 31 (.tmp 3) 1, type := 0, pos := "tcp.go:163", after := #[{ on := 4, ground := Ground.guard }], guard := some (4, true) }
abbrev fxb2o11 : Oper := { dst := some 19, op := Op.fieldAddr 31 (.tmp 3) 2, type := 0, pos := "tcp.go:163", after := #[{ on := 4, ground := Ground.guard }], guard := some (4, true) }
abbrev fxb2o12 : Oper := { dst := some 14, op := Op.move (.tmp 1), type := 3, pos := "tcp.go:163", after := #[{ on := 4, ground := Ground.guard }], guard := some (4, true) }
abbrev fxb2o13 : Oper := { dst := some 18, op := Op.move (.tmp 1), type := 3, pos := "tcp.go:163", after := #[{ on := 4, ground := Ground.guard }], guard := some (4, true) }
abbrev fxb2o14 : Oper := { dst := some 10, op := Op.load 4 (.tmp 9), type := 4, pos := "tcp.go:163", after := #[{ on := 2, ground := Ground.data }], guard := none }
abbrev fxb2o15 : Oper := { dst := some 11, op := Op.move (.tmp 10), type := 4, pos := "tcp.go:163", after := #[{ on := 3, ground := Ground.data }], guard := none }
abbrev fxb2o16 : Oper := { dst := some 8, op := Op.fieldAddr 31 (.tmp 3) 3, type := 0, pos := "tcp.go:163", after := #[], guard := none }
abbrev fxb2o17 : Oper := { dst := some 7, op := Op.move (.tmp 1), type := 3, pos := "tcp.go:163", after := #[], guard := none }
end Go.Proofs.Ytfiembbmgdmagaa
namespace Go.Proofs.Ytfiembbmgdmagaa
open Go.RowKit
set_option linter.unusedVariables false
set_option linter.unusedSimpArgs false
theorem load_suba {W : World} {g : Nat} {t ty el : TypeId} {m : Nat} {cs : Array Value} (h : Blk W g t cs) (k : Nat) (sub : Array Value) (hs : (cs.toList.drop k).take sub.size = sub.toList) (hu : Try.prog.underlying ty = some (.array m el)) (hi : (Try.prog.info? ty).map (·.size) = some sub.size) :
    (loadVar ty ⟨g, k, none⟩).run Try.prog W = .ok (.agg sub) W := by
  have hl : (loadCells ⟨g, k, none⟩ sub.toList.length).run Try.prog W = .ok sub.toList.toArray W :=
    run_loadCells_list (P := Try.prog) W ⟨g, k, none⟩ sub.toList (fun j v hv => by
      have hadd : (⟨g, k, none⟩ : Addr).add j = ⟨g, k + j, none⟩ := Go.WideShapes.add_plain ..
      rw [hadd]
      refine h.cell (k + j) v ?_
      rw [← hs] at hv
      rw [List.getElem?_take] at hv
      split at hv
      · rw [List.getElem?_drop] at hv
        simpa using hv
      · cases hv)
  cases hq : Try.prog.info? ty with
  | none => simp [hq] at hi
  | some i =>
    have hs' : i.size = sub.size := by simpa [hq] using hi
    have hagg : (isAgg ty).run Try.prog W = .ok true W := by
      unfold isAgg
      rw [Sem.run_bind, run_underlying hu W]
      rfl
    simp only [Array.length_toList, Array.toArray_toList] at hl
    simp [loadVar, Sem.run_bind, hagg, sizeOf, typeInfo, hq, hs', hl]
theorem yieldsIf_suba_w {ops : Array Oper} {S : World → Prop} {o : Oper} {ac : Act} {m : Nat} {el : TypeId} (hw : Region.wanted o (yielded ops ac.tmps) = true) (ty : TypeId) (p : Operand) (ho : o.op = Op.load ty p) (g k : Nat) (t : TypeId) (hp : ac.eval p = .pointer (some ⟨g, k, none⟩)) (cs sub : Array Value)
    (hS : ∀ w, S w → Blk w g t cs) (hs : (cs.toList.drop k).take sub.size = sub.toList) (hu : Try.prog.underlying ty = some (.array m el)) (hi : (Try.prog.info? ty).map (·.size) = some sub.size) : YieldsIf Try.prog ops S o (.agg sub) ac := by
  refine .inl ⟨hw, fun w hw' => ?_⟩
  have hl := load_suba (hS w hw') k sub hs hu hi
  simp [execOp, ho, hp, Instr.loadAt, Instr.sureAddr, hl, Result.andThen]
theorem wpList_load_suba_w {ops : Array Oper} {rest : List Oper} {o : Oper} {ac : Act} {w : World} {Q : Exit → Act → World → Prop} {m : Nat} {el : TypeId} (hw : Region.wanted o (yielded ops ac.tmps) = true) (ty : TypeId) (p : Operand) (ho : o.op = Op.load ty p) (g k : Nat) (t : TypeId) (hp : ac.eval p = .pointer (some ⟨g, k, none⟩)) (cs sub : Array Value)
    (hb : Blk w g t cs) (hs : (cs.toList.drop k).take sub.size = sub.toList) (hu : Try.prog.underlying ty = some (.array m el)) (hi : (Try.prog.info? ty).map (·.size) = some sub.size) (h : wpList Try.prog ops Q rest (ac.put o.dst (.agg sub)) w) : wpList Try.prog ops Q (o :: rest) ac w := by
  refine wpList_step fun K hK => ?_
  rw [if_pos hw]
  have hl := load_suba hb k sub hs hu hi
  unfold Oper.wp
  simp [execOp, ho, hp, Instr.loadAt, Instr.sureAddr, hl, Result.andThen]
  exact hK _ _ h
set_option maxRecDepth 100000 in
set_option maxHeartbeats 4000000 in
theorem window0_tc (c : Cn) (g : Gt) (w : World) :
    Calls Try.prog 107 #[.agg c.v, .int .i64 0, .agg g.v] w fun e w' => e = .returned (.bool (c.win false g)) ∧ Below w.heap.size w w' := by
  obtain ⟨V, hV⟩ : ∃ V, c.win false g = V := ⟨_, rfl⟩
  have HV : Hid ((c.k0 && wiB g.e c.n0 c.e0) = V) := hV
  rw [hV]
  clear hV
  have KE : Hid (∀ W, Calls Try.prog 108 #[.agg g.v] W fun e w' => e = .returned (.int .u32 g.e) ∧ Below W.heap.size W w') := fun W => end_tc g W
  have KW : Hid (∀ W, Calls Try.prog 110 #[.int .u32 g.e, .int .u32 c.n0, .int .u32 c.e0] W fun e w' => e = .returned (.bool (wiB g.e c.n0 c.e0)) ∧ Below W.heap.size W w') := fun W => within_tc _ _ _ W
  generalize hP : wiB g.e c.n0 c.e0 = P at *
  clear hP
  generalize g.e = E at *
  obtain ⟨st, n0, n1, e0, e1, k0, k1, d0, d1⟩ := c
  dsimp only at *
  obtain ⟨W1, hW1⟩ : ∃ W, w.alloc (.cells (Cn.v ⟨st, n0, n1, e0, e1, k0, k1, d0, d1⟩) 31) = W := ⟨_, rfl⟩
  have b1 := bel_nw hW1
  have C1 := blk_nw hW1
  obtain ⟨W2, hW2⟩ : ∃ W, W1.alloc (.cells g.v 110) = W := ⟨_, rfl⟩
  have b2 := bel_al b1 hW2
  have C2 := C1.al hW2
  have G2 := blk_nw hW2
  clear b1 C1
  go_enter Try.func107, Try.ntmps107
  go_wp2_with fail
  cases k0 with
  | false =>
    have Cd := C2.drew
    have Gd := G2.drew
    have bd := b2.drew
    refine wp_region_noPanic ?_
    refine wp_region_held_drew (S := fun w' => Blk w' w.heap.size 31 (Cn.v ⟨st, n0, n1, e0, e1, false, k1, d0, d1⟩) ∧ Blk w' W1.heap.size 110 g.v) (by kernel_rfl) (by exact ⟨Cd, Gd⟩) (fun hHeld => ?_)
    refine wpAnyH_take (i := 0) (oi := fxb2o17) (v := (.int .i64 0)) rfl (by kernel_rfl) (by kernel_rfl) (by kernel_rfl) (fun _ _ _ h => h) (Or.inl ⟨by rfl, ?_⟩) hHeld ?_
    · intro w9 hSw
      try dsimp only at hSw
      go_simp
    try simp only [Act.put, List.setIfInBounds_toArray, List.set_cons_zero, List.set_cons_succ]
    refine wpAnyH_take (i := 1) (oi := fxb2o16) (v := (.pointer (some ⟨w.heap.size, 5, none⟩))) rfl (by kernel_rfl) (by kernel_rfl) (by kernel_rfl) (fun _ _ _ h => h) (Or.inl ⟨by rfl, ?_⟩) hHeld ?_
    · intro w9 hSw
      try dsimp only at hSw
      go_simp
    try simp only [Act.put, List.setIfInBounds_toArray, List.set_cons_zero, List.set_cons_succ]
    refine wpAnyH_take (i := 2) (oi := fxb2o8) (v := (.pointer (some ⟨w.heap.size, 5, none⟩))) rfl (by kernel_rfl) (by kernel_rfl) (by kernel_rfl) (fun _ _ _ h => h) (Or.inl ⟨by rfl, ?_⟩) hHeld ?_
    · intro w9 hSw
      try dsimp only at hSw
      go_simp
    try simp only [Act.put, List.setIfInBounds_toArray, List.set_cons_zero, List.set_cons_succ]
    refine wpAnyH_take (i := 3) (oi := fxb2o14) (v := (.bool false)) rfl (by kernel_rfl) (by kernel_rfl) (by kernel_rfl) (fun _ _ _ h => h) (Or.inl ⟨by rfl, ?_⟩) hHeld ?_
    · intro w9 hSw
      try dsimp only at hSw
      have hcc := hSw.1.cell 5 (.bool false) rfl
      go_simp
    try simp only [Act.put, List.setIfInBounds_toArray, List.set_cons_zero, List.set_cons_succ]
    refine wpAnyH_take (i := 4) (oi := fxb2o15) (v := (.bool false)) rfl (by kernel_rfl) (by kernel_rfl) (by kernel_rfl) (fun _ _ _ h => h) (Or.inl ⟨by rfl, ?_⟩) hHeld ?_
    · intro w9 hSw
      try dsimp only at hSw
      go_simp
    try simp only [Act.put, List.setIfInBounds_toArray, List.set_cons_zero, List.set_cons_succ]
    refine wpAnyH_take (i := 5) (oi := fxb2o9) (v := undef) rfl (by kernel_rfl) (by kernel_rfl) (by kernel_rfl) (fun _ _ _ h => h) (Or.inr ⟨by rfl, rfl⟩) hHeld ?_
    try simp only [Act.put, List.setIfInBounds_toArray, List.set_cons_zero, List.set_cons_succ]
    refine wpAnyH_take (i := 6) (oi := fxb2o2) (v := undef) rfl (by kernel_rfl) (by kernel_rfl) (by kernel_rfl) (fun _ _ _ h => h) (Or.inr ⟨by rfl, rfl⟩) hHeld ?_
    try simp only [Act.put, List.setIfInBounds_toArray, List.set_cons_zero, List.set_cons_succ]
    refine wpAnyH_take (i := 7) (oi := fxb2o12) (v := undef) rfl (by kernel_rfl) (by kernel_rfl) (by kernel_rfl) (fun _ _ _ h => h) (Or.inr ⟨by rfl, rfl⟩) hHeld ?_
    try simp only [Act.put, List.setIfInBounds_toArray, List.set_cons_zero, List.set_cons_succ]
    refine wpAnyH_take (i := 8) (oi := fxb2o10) (v := undef) rfl (by kernel_rfl) (by kernel_rfl) (by kernel_rfl) (fun _ _ _ h => h) (Or.inr ⟨by rfl, rfl⟩) hHeld ?_
    try simp only [Act.put, List.setIfInBounds_toArray, List.set_cons_zero, List.set_cons_succ]
    refine wpAnyH_take (i := 9) (oi := fxb2o4) (v := undef) rfl (by kernel_rfl) (by kernel_rfl) (by kernel_rfl) (fun _ _ _ h => h) (Or.inr ⟨by rfl, rfl⟩) hHeld ?_
    try simp only [Act.put, List.setIfInBounds_toArray, List.set_cons_zero, List.set_cons_succ]
    refine wpAnyH_take (i := 10) (oi := fxb2o7) (v := undef) rfl (by kernel_rfl) (by kernel_rfl) (by kernel_rfl) (fun _ _ _ h => h) (Or.inr ⟨by rfl, rfl⟩) hHeld ?_
    try simp only [Act.put, List.setIfInBounds_toArray, List.set_cons_zero, List.set_cons_succ]
    refine wpAnyH_take (i := 11) (oi := fxb2o13) (v := undef) rfl (by kernel_rfl) (by kernel_rfl) (by kernel_rfl) (fun _ _ _ h => h) (Or.inr ⟨by rfl, rfl⟩) hHeld ?_
    try simp only [Act.put, List.setIfInBounds_toArray, List.set_cons_zero, List.set_cons_succ]
    refine wpAnyH_take (i := 12) (oi := fxb2o11) (v := undef) rfl (by kernel_rfl) (by kernel_rfl) (by kernel_rfl) (fun _ _ _ h => h) (Or.inr ⟨by rfl, rfl⟩) hHeld ?_
    try simp only [Act.put, List.setIfInBounds_toArray, List.set_cons_zero, List.set_cons_succ]
    refine wpAnyH_take (i := 13) (oi := fxb2o3) (v := undef) rfl (by kernel_rfl) (by kernel_rfl) (by kernel_rfl) (fun _ _ _ h => h) (Or.inr ⟨by rfl, rfl⟩) hHeld ?_
    try simp only [Act.put, List.setIfInBounds_toArray, List.set_cons_zero, List.set_cons_succ]
    refine wpAnyH_take (i := 14) (oi := fxb2o6) (v := undef) rfl (by kernel_rfl) (by kernel_rfl) (by kernel_rfl) (fun _ _ _ h => h) (Or.inr ⟨by rfl, rfl⟩) hHeld ?_
    try simp only [Act.put, List.setIfInBounds_toArray, List.set_cons_zero, List.set_cons_succ]
    refine wpAnyH_take (i := 15) (oi := fxb2o1) (v := undef) rfl (by kernel_rfl) (by kernel_rfl) (by kernel_rfl) (fun _ _ _ h => h) (Or.inr ⟨by rfl, rfl⟩) hHeld ?_
    try simp only [Act.put, List.setIfInBounds_toArray, List.set_cons_zero, List.set_cons_succ]
    refine wpAnyH_take (i := 16) (oi := fxb2o5) (v := (.bool false)) rfl (by kernel_rfl) (by kernel_rfl) (by kernel_rfl) (fun _ _ _ h => h) (Or.inl ⟨by rfl, ?_⟩) hHeld ?_
    · intro w9 hSw
      try dsimp only at hSw
      go_simp
    try simp only [Act.put, List.setIfInBounds_toArray, List.set_cons_zero, List.set_cons_succ]
    refine wpAnyH_take (i := 17) (oi := fxb2o0) (v := (.bool false)) rfl (by kernel_rfl) (by kernel_rfl) (by kernel_rfl) (fun _ _ _ h => h) (Or.inl ⟨by rfl, ?_⟩) hHeld ?_
    · intro w9 hSw
      try dsimp only at hSw
      go_simp
    try simp only [Act.put, List.setIfInBounds_toArray, List.set_cons_zero, List.set_cons_succ]
    refine wpAnyH_done (by kernel_rfl) ?_ _
    refine NoPanic.normal ?_
    go_wp2
    go_ret
    exact ⟨retB_tc (by rw [← HV.out]; rfl), bd⟩

  | true =>
    have Cd := C2.drew
    have Gd := G2.drew
    have bd := b2.drew
    refine wp_region_noPanic ?_
    refine wp_region_held_drew (S := fun w' => Blk w' w.heap.size 31 (Cn.v ⟨st, n0, n1, e0, e1, true, k1, d0, d1⟩) ∧ Blk w' W1.heap.size 110 g.v) (by kernel_rfl) (by exact ⟨Cd, Gd⟩) (fun hHeld => ?_)
    refine wpAnyH_take (i := 0) (oi := fxb2o17) (v := (.int .i64 0)) rfl (by kernel_rfl) (by kernel_rfl) (by kernel_rfl) (fun _ _ _ h => h) (Or.inl ⟨by rfl, ?_⟩) hHeld ?_
    · intro w9 hSw
      try dsimp only at hSw
      go_simp
    try simp only [Act.put, List.setIfInBounds_toArray, List.set_cons_zero, List.set_cons_succ]
    refine wpAnyH_take (i := 1) (oi := fxb2o16) (v := (.pointer (some ⟨w.heap.size, 5, none⟩))) rfl (by kernel_rfl) (by kernel_rfl) (by kernel_rfl) (fun _ _ _ h => h) (Or.inl ⟨by rfl, ?_⟩) hHeld ?_
    · intro w9 hSw
      try dsimp only at hSw
      go_simp
    try simp only [Act.put, List.setIfInBounds_toArray, List.set_cons_zero, List.set_cons_succ]
    refine wpAnyH_take (i := 2) (oi := fxb2o8) (v := (.pointer (some ⟨w.heap.size, 5, none⟩))) rfl (by kernel_rfl) (by kernel_rfl) (by kernel_rfl) (fun _ _ _ h => h) (Or.inl ⟨by rfl, ?_⟩) hHeld ?_
    · intro w9 hSw
      try dsimp only at hSw
      go_simp
    try simp only [Act.put, List.setIfInBounds_toArray, List.set_cons_zero, List.set_cons_succ]
    refine wpAnyH_take (i := 3) (oi := fxb2o14) (v := (.bool true)) rfl (by kernel_rfl) (by kernel_rfl) (by kernel_rfl) (fun _ _ _ h => h) (Or.inl ⟨by rfl, ?_⟩) hHeld ?_
    · intro w9 hSw
      try dsimp only at hSw
      have hcc := hSw.1.cell 5 (.bool true) rfl
      go_simp
    try simp only [Act.put, List.setIfInBounds_toArray, List.set_cons_zero, List.set_cons_succ]
    refine wpAnyH_take (i := 4) (oi := fxb2o15) (v := (.bool true)) rfl (by kernel_rfl) (by kernel_rfl) (by kernel_rfl) (fun _ _ _ h => h) (Or.inl ⟨by rfl, ?_⟩) hHeld ?_
    · intro w9 hSw
      try dsimp only at hSw
      go_simp
    try simp only [Act.put, List.setIfInBounds_toArray, List.set_cons_zero, List.set_cons_succ]
    refine wpAnyH_take (i := 5) (oi := fxb2o9) (v := (.agg g.v)) rfl (by kernel_rfl) (by kernel_rfl) (by kernel_rfl) (fun _ _ _ h => h) (yieldsIf_blk_w (by kernel_rfl) _ _ rfl W1.heap.size (by rfl) _ (fun _ hSw => hSw.2) Try.underlying110 (by kernel_rfl)) hHeld ?_
    try simp only [Act.put, List.setIfInBounds_toArray, List.set_cons_zero, List.set_cons_succ]
    refine wpAnyH_take (i := 7) (oi := fxb2o12) (v := (.int .i64 0)) rfl (by kernel_rfl) (by kernel_rfl) (by kernel_rfl) (fun _ _ _ h => h) (Or.inl ⟨by rfl, ?_⟩) hHeld ?_
    · intro w9 hSw
      try dsimp only at hSw
      go_simp
    try simp only [Act.put, List.setIfInBounds_toArray, List.set_cons_zero, List.set_cons_succ]
    refine wpAnyH_take (i := 8) (oi := fxb2o10) (v := (.pointer (some ⟨w.heap.size, 1, none⟩))) rfl (by kernel_rfl) (by kernel_rfl) (by kernel_rfl) (fun _ _ _ h => h) (Or.inl ⟨by rfl, ?_⟩) hHeld ?_
    · intro w9 hSw
      try dsimp only at hSw
      go_simp
    try simp only [Act.put, List.setIfInBounds_toArray, List.set_cons_zero, List.set_cons_succ]
    refine wpAnyH_take (i := 9) (oi := fxb2o4) (v := (.pointer (some ⟨w.heap.size, 1, none⟩))) rfl (by kernel_rfl) (by kernel_rfl) (by kernel_rfl) (fun _ _ _ h => h) (Or.inl ⟨by rfl, ?_⟩) hHeld ?_
    · intro w9 hSw
      try dsimp only at hSw
      go_simp
    try simp only [Act.put, List.setIfInBounds_toArray, List.set_cons_zero, List.set_cons_succ]
    refine wpAnyH_take (i := 10) (oi := fxb2o7) (v := (.int .u32 n0)) rfl (by kernel_rfl) (by kernel_rfl) (by kernel_rfl) (fun _ _ _ h => h) (Or.inl ⟨by rfl, ?_⟩) hHeld ?_
    · intro w9 hSw
      try dsimp only at hSw
      have hcc := hSw.1.cell 1 (.int .u32 n0) rfl
      go_simp
    try simp only [Act.put, List.setIfInBounds_toArray, List.set_cons_zero, List.set_cons_succ]
    refine wpAnyH_take (i := 11) (oi := fxb2o13) (v := (.int .i64 0)) rfl (by kernel_rfl) (by kernel_rfl) (by kernel_rfl) (fun _ _ _ h => h) (Or.inl ⟨by rfl, ?_⟩) hHeld ?_
    · intro w9 hSw
      try dsimp only at hSw
      go_simp
    try simp only [Act.put, List.setIfInBounds_toArray, List.set_cons_zero, List.set_cons_succ]
    refine wpAnyH_take (i := 12) (oi := fxb2o11) (v := (.pointer (some ⟨w.heap.size, 3, none⟩))) rfl (by kernel_rfl) (by kernel_rfl) (by kernel_rfl) (fun _ _ _ h => h) (Or.inl ⟨by rfl, ?_⟩) hHeld ?_
    · intro w9 hSw
      try dsimp only at hSw
      go_simp
    try simp only [Act.put, List.setIfInBounds_toArray, List.set_cons_zero, List.set_cons_succ]
    refine wpAnyH_take (i := 13) (oi := fxb2o3) (v := (.pointer (some ⟨w.heap.size, 3, none⟩))) rfl (by kernel_rfl) (by kernel_rfl) (by kernel_rfl) (fun _ _ _ h => h) (Or.inl ⟨by rfl, ?_⟩) hHeld ?_
    · intro w9 hSw
      try dsimp only at hSw
      go_simp
    try simp only [Act.put, List.setIfInBounds_toArray, List.set_cons_zero, List.set_cons_succ]
    refine wpAnyH_take (i := 14) (oi := fxb2o6) (v := (.int .u32 e0)) rfl (by kernel_rfl) (by kernel_rfl) (by kernel_rfl) (fun _ _ _ h => h) (Or.inl ⟨by rfl, ?_⟩) hHeld ?_
    · intro w9 hSw
      try dsimp only at hSw
      have hcc := hSw.1.cell 3 (.int .u32 e0) rfl
      go_simp
    try simp only [Act.put, List.setIfInBounds_toArray, List.set_cons_zero, List.set_cons_succ]
    refine wpAnyH_ready (rs := [6]) (by kernel_rfl) (by simp) ?_
    refine AllReadyH.cons (o := fxb2o2) rfl (fun K hK => ?_) AllReadyH.nil
    go_simp
    refine Calls.mono (KE.out _) ?_
    rintro e Wx1 ⟨rfl, bb⟩
    have Cx1 := Cd.kept bb
    have Gx1 := Gd.kept bb
    have bx1 := bel_tr bd bb
    clear bb
    refine hK.out _ _ (by exact ⟨Cx1, Gx1⟩) (fun hHeld => ?_)
    clear hK K
    try simp only [Act.put, List.setIfInBounds_toArray, List.set_cons_zero, List.set_cons_succ]
    refine wpAnyH_ready (rs := [15]) (by kernel_rfl) (by simp) ?_
    refine AllReadyH.cons (o := fxb2o1) rfl (fun K hK => ?_) AllReadyH.nil
    go_simp
    refine Calls.mono (KW.out _) ?_
    rintro e Wx2 ⟨rfl, bb⟩
    have Cx2 := Cx1.kept bb
    have Gx2 := Gx1.kept bb
    have bx2 := bel_tr bx1 bb
    clear bb
    refine hK.out _ _ (by exact ⟨Cx2, Gx2⟩) (fun hHeld => ?_)
    clear hK K
    try simp only [Act.put, List.setIfInBounds_toArray, List.set_cons_zero, List.set_cons_succ]
    refine wpAnyH_take (i := 16) (oi := fxb2o5) (v := (.bool P)) rfl (by kernel_rfl) (by kernel_rfl) (by kernel_rfl) (fun _ _ _ h => h) (Or.inl ⟨by rfl, ?_⟩) hHeld ?_
    · intro w9 hSw
      try dsimp only at hSw
      go_simp
    try simp only [Act.put, List.setIfInBounds_toArray, List.set_cons_zero, List.set_cons_succ]
    refine wpAnyH_take (i := 17) (oi := fxb2o0) (v := (.bool P)) rfl (by kernel_rfl) (by kernel_rfl) (by kernel_rfl) (fun _ _ _ h => h) (Or.inl ⟨by rfl, ?_⟩) hHeld ?_
    · intro w9 hSw
      try dsimp only at hSw
      go_simp
    try simp only [Act.put, List.setIfInBounds_toArray, List.set_cons_zero, List.set_cons_succ]
    refine wpAnyH_done (by kernel_rfl) ?_ _
    refine NoPanic.normal ?_
    go_wp2
    go_ret
    exact ⟨retB_tc (by rw [← HV.out]; rfl), bx2⟩
set_option maxRecDepth 100000 in
set_option maxHeartbeats 4000000 in
theorem window1_tc (c : Cn) (g : Gt) (w : World) :
    Calls Try.prog 107 #[.agg c.v, .int .i64 1, .agg g.v] w fun e w' => e = .returned (.bool (c.win true g)) ∧ Below w.heap.size w w' := by
  obtain ⟨V, hV⟩ : ∃ V, c.win true g = V := ⟨_, rfl⟩
  have HV : Hid ((c.k1 && wiB g.e c.n1 c.e1) = V) := hV
  rw [hV]
  clear hV
  have KE : Hid (∀ W, Calls Try.prog 108 #[.agg g.v] W fun e w' => e = .returned (.int .u32 g.e) ∧ Below W.heap.size W w') := fun W => end_tc g W
  have KW : Hid (∀ W, Calls Try.prog 110 #[.int .u32 g.e, .int .u32 c.n1, .int .u32 c.e1] W fun e w' => e = .returned (.bool (wiB g.e c.n1 c.e1)) ∧ Below W.heap.size W w') := fun W => within_tc _ _ _ W
  generalize hP : wiB g.e c.n1 c.e1 = P at *
  clear hP
  generalize g.e = E at *
  obtain ⟨st, n0, n1, e0, e1, k0, k1, d0, d1⟩ := c
  dsimp only at *
  obtain ⟨W1, hW1⟩ : ∃ W, w.alloc (.cells (Cn.v ⟨st, n0, n1, e0, e1, k0, k1, d0, d1⟩) 31) = W := ⟨_, rfl⟩
  have b1 := bel_nw hW1
  have C1 := blk_nw hW1
  obtain ⟨W2, hW2⟩ : ∃ W, W1.alloc (.cells g.v 110) = W := ⟨_, rfl⟩
  have b2 := bel_al b1 hW2
  have C2 := C1.al hW2
  have G2 := blk_nw hW2
  clear b1 C1
  go_enter Try.func107, Try.ntmps107
  go_wp2_with fail
  cases k1 with
  | false =>
    have Cd := C2.drew
    have Gd := G2.drew
    have bd := b2.drew
    refine wp_region_noPanic ?_
    refine wp_region_held_drew (S := fun w' => Blk w' w.heap.size 31 (Cn.v ⟨st, n0, n1, e0, e1, k0, false, d0, d1⟩) ∧ Blk w' W1.heap.size 110 g.v) (by kernel_rfl) (by exact ⟨Cd, Gd⟩) (fun hHeld => ?_)
    refine wpAnyH_take (i := 0) (oi := fxb2o17) (v := (.int .i64 1)) rfl (by kernel_rfl) (by kernel_rfl) (by kernel_rfl) (fun _ _ _ h => h) (Or.inl ⟨by rfl, ?_⟩) hHeld ?_
    · intro w9 hSw
      try dsimp only at hSw
      go_simp
    try simp only [Act.put, List.setIfInBounds_toArray, List.set_cons_zero, List.set_cons_succ]
    refine wpAnyH_take (i := 1) (oi := fxb2o16) (v := (.pointer (some ⟨w.heap.size, 5, none⟩))) rfl (by kernel_rfl) (by kernel_rfl) (by kernel_rfl) (fun _ _ _ h => h) (Or.inl ⟨by rfl, ?_⟩) hHeld ?_
    · intro w9 hSw
      try dsimp only at hSw
      go_simp
    try simp only [Act.put, List.setIfInBounds_toArray, List.set_cons_zero, List.set_cons_succ]
    refine wpAnyH_take (i := 2) (oi := fxb2o8) (v := (.pointer (some ⟨w.heap.size, 6, none⟩))) rfl (by kernel_rfl) (by kernel_rfl) (by kernel_rfl) (fun _ _ _ h => h) (Or.inl ⟨by rfl, ?_⟩) hHeld ?_
    · intro w9 hSw
      try dsimp only at hSw
      go_simp
    try simp only [Act.put, List.setIfInBounds_toArray, List.set_cons_zero, List.set_cons_succ]
    refine wpAnyH_take (i := 3) (oi := fxb2o14) (v := (.bool false)) rfl (by kernel_rfl) (by kernel_rfl) (by kernel_rfl) (fun _ _ _ h => h) (Or.inl ⟨by rfl, ?_⟩) hHeld ?_
    · intro w9 hSw
      try dsimp only at hSw
      have hcc := hSw.1.cell 6 (.bool false) rfl
      go_simp
    try simp only [Act.put, List.setIfInBounds_toArray, List.set_cons_zero, List.set_cons_succ]
    refine wpAnyH_take (i := 4) (oi := fxb2o15) (v := (.bool false)) rfl (by kernel_rfl) (by kernel_rfl) (by kernel_rfl) (fun _ _ _ h => h) (Or.inl ⟨by rfl, ?_⟩) hHeld ?_
    · intro w9 hSw
      try dsimp only at hSw
      go_simp
    try simp only [Act.put, List.setIfInBounds_toArray, List.set_cons_zero, List.set_cons_succ]
    refine wpAnyH_take (i := 5) (oi := fxb2o9) (v := undef) rfl (by kernel_rfl) (by kernel_rfl) (by kernel_rfl) (fun _ _ _ h => h) (Or.inr ⟨by rfl, rfl⟩) hHeld ?_
    try simp only [Act.put, List.setIfInBounds_toArray, List.set_cons_zero, List.set_cons_succ]
    refine wpAnyH_take (i := 6) (oi := fxb2o2) (v := undef) rfl (by kernel_rfl) (by kernel_rfl) (by kernel_rfl) (fun _ _ _ h => h) (Or.inr ⟨by rfl, rfl⟩) hHeld ?_
    try simp only [Act.put, List.setIfInBounds_toArray, List.set_cons_zero, List.set_cons_succ]
    refine wpAnyH_take (i := 7) (oi := fxb2o12) (v := undef) rfl (by kernel_rfl) (by kernel_rfl) (by kernel_rfl) (fun _ _ _ h => h) (Or.inr ⟨by rfl, rfl⟩) hHeld ?_
    try simp only [Act.put, List.setIfInBounds_toArray, List.set_cons_zero, List.set_cons_succ]
    refine wpAnyH_take (i := 8) (oi := fxb2o10) (v := undef) rfl (by kernel_rfl) (by kernel_rfl) (by kernel_rfl) (fun _ _ _ h => h) (Or.inr ⟨by rfl, rfl⟩) hHeld ?_
    try simp only [Act.put, List.setIfInBounds_toArray, List.set_cons_zero, List.set_cons_succ]
    refine wpAnyH_take (i := 9) (oi := fxb2o4) (v := undef) rfl (by kernel_rfl) (by kernel_rfl) (by kernel_rfl) (fun _ _ _ h => h) (Or.inr ⟨by rfl, rfl⟩) hHeld ?_
    try simp only [Act.put, List.setIfInBounds_toArray, List.set_cons_zero, List.set_cons_succ]
    refine wpAnyH_take (i := 10) (oi := fxb2o7) (v := undef) rfl (by kernel_rfl) (by kernel_rfl) (by kernel_rfl) (fun _ _ _ h => h) (Or.inr ⟨by rfl, rfl⟩) hHeld ?_
    try simp only [Act.put, List.setIfInBounds_toArray, List.set_cons_zero, List.set_cons_succ]
    refine wpAnyH_take (i := 11) (oi := fxb2o13) (v := undef) rfl (by kernel_rfl) (by kernel_rfl) (by kernel_rfl) (fun _ _ _ h => h) (Or.inr ⟨by rfl, rfl⟩) hHeld ?_
    try simp only [Act.put, List.setIfInBounds_toArray, List.set_cons_zero, List.set_cons_succ]
    refine wpAnyH_take (i := 12) (oi := fxb2o11) (v := undef) rfl (by kernel_rfl) (by kernel_rfl) (by kernel_rfl) (fun _ _ _ h => h) (Or.inr ⟨by rfl, rfl⟩) hHeld ?_
    try simp only [Act.put, List.setIfInBounds_toArray, List.set_cons_zero, List.set_cons_succ]
    refine wpAnyH_take (i := 13) (oi := fxb2o3) (v := undef) rfl (by kernel_rfl) (by kernel_rfl) (by kernel_rfl) (fun _ _ _ h => h) (Or.inr ⟨by rfl, rfl⟩) hHeld ?_
    try simp only [Act.put, List.setIfInBounds_toArray, List.set_cons_zero, List.set_cons_succ]
    refine wpAnyH_take (i := 14) (oi := fxb2o6) (v := undef) rfl (by kernel_rfl) (by kernel_rfl) (by kernel_rfl) (fun _ _ _ h => h) (Or.inr ⟨by rfl, rfl⟩) hHeld ?_
    try simp only [Act.put, List.setIfInBounds_toArray, List.set_cons_zero, List.set_cons_succ]
    refine wpAnyH_take (i := 15) (oi := fxb2o1) (v := undef) rfl (by kernel_rfl) (by kernel_rfl) (by kernel_rfl) (fun _ _ _ h => h) (Or.inr ⟨by rfl, rfl⟩) hHeld ?_
    try simp only [Act.put, List.setIfInBounds_toArray, List.set_cons_zero, List.set_cons_succ]
    refine wpAnyH_take (i := 16) (oi := fxb2o5) (v := (.bool false)) rfl (by kernel_rfl) (by kernel_rfl) (by kernel_rfl) (fun _ _ _ h => h) (Or.inl ⟨by rfl, ?_⟩) hHeld ?_
    · intro w9 hSw
      try dsimp only at hSw
      go_simp
    try simp only [Act.put, List.setIfInBounds_toArray, List.set_cons_zero, List.set_cons_succ]
    refine wpAnyH_take (i := 17) (oi := fxb2o0) (v := (.bool false)) rfl (by kernel_rfl) (by kernel_rfl) (by kernel_rfl) (fun _ _ _ h => h) (Or.inl ⟨by rfl, ?_⟩) hHeld ?_
    · intro w9 hSw
      try dsimp only at hSw
      go_simp
    try simp only [Act.put, List.setIfInBounds_toArray, List.set_cons_zero, List.set_cons_succ]
    refine wpAnyH_done (by kernel_rfl) ?_ _
    refine NoPanic.normal ?_
    go_wp2
    go_ret
    exact ⟨retB_tc (by rw [← HV.out]; rfl), bd⟩

  | true =>
    have Cd := C2.drew
    have Gd := G2.drew
    have bd := b2.drew
    refine wp_region_noPanic ?_
    refine wp_region_held_drew (S := fun w' => Blk w' w.heap.size 31 (Cn.v ⟨st, n0, n1, e0, e1, k0, true, d0, d1⟩) ∧ Blk w' W1.heap.size 110 g.v) (by kernel_rfl) (by exact ⟨Cd, Gd⟩) (fun hHeld => ?_)
    refine wpAnyH_take (i := 0) (oi := fxb2o17) (v := (.int .i64 1)) rfl (by kernel_rfl) (by kernel_rfl) (by kernel_rfl) (fun _ _ _ h => h) (Or.inl ⟨by rfl, ?_⟩) hHeld ?_
    · intro w9 hSw
      try dsimp only at hSw
      go_simp
    try simp only [Act.put, List.setIfInBounds_toArray, List.set_cons_zero, List.set_cons_succ]
    refine wpAnyH_take (i := 1) (oi := fxb2o16) (v := (.pointer (some ⟨w.heap.size, 5, none⟩))) rfl (by kernel_rfl) (by kernel_rfl) (by kernel_rfl) (fun _ _ _ h => h) (Or.inl ⟨by rfl, ?_⟩) hHeld ?_
    · intro w9 hSw
      try dsimp only at hSw
      go_simp
    try simp only [Act.put, List.setIfInBounds_toArray, List.set_cons_zero, List.set_cons_succ]
    refine wpAnyH_take (i := 2) (oi := fxb2o8) (v := (.pointer (some ⟨w.heap.size, 6, none⟩))) rfl (by kernel_rfl) (by kernel_rfl) (by kernel_rfl) (fun _ _ _ h => h) (Or.inl ⟨by rfl, ?_⟩) hHeld ?_
    · intro w9 hSw
      try dsimp only at hSw
      go_simp
    try simp only [Act.put, List.setIfInBounds_toArray, List.set_cons_zero, List.set_cons_succ]
    refine wpAnyH_take (i := 3) (oi := fxb2o14) (v := (.bool true)) rfl (by kernel_rfl) (by kernel_rfl) (by kernel_rfl) (fun _ _ _ h => h) (Or.inl ⟨by rfl, ?_⟩) hHeld ?_
    · intro w9 hSw
      try dsimp only at hSw
      have hcc := hSw.1.cell 6 (.bool true) rfl
      go_simp
    try simp only [Act.put, List.setIfInBounds_toArray, List.set_cons_zero, List.set_cons_succ]
    refine wpAnyH_take (i := 4) (oi := fxb2o15) (v := (.bool true)) rfl (by kernel_rfl) (by kernel_rfl) (by kernel_rfl) (fun _ _ _ h => h) (Or.inl ⟨by rfl, ?_⟩) hHeld ?_
    · intro w9 hSw
      try dsimp only at hSw
      go_simp
    try simp only [Act.put, List.setIfInBounds_toArray, List.set_cons_zero, List.set_cons_succ]
    refine wpAnyH_take (i := 5) (oi := fxb2o9) (v := (.agg g.v)) rfl (by kernel_rfl) (by kernel_rfl) (by kernel_rfl) (fun _ _ _ h => h) (yieldsIf_blk_w (by kernel_rfl) _ _ rfl W1.heap.size (by rfl) _ (fun _ hSw => hSw.2) Try.underlying110 (by kernel_rfl)) hHeld ?_
    try simp only [Act.put, List.setIfInBounds_toArray, List.set_cons_zero, List.set_cons_succ]
    refine wpAnyH_take (i := 7) (oi := fxb2o12) (v := (.int .i64 1)) rfl (by kernel_rfl) (by kernel_rfl) (by kernel_rfl) (fun _ _ _ h => h) (Or.inl ⟨by rfl, ?_⟩) hHeld ?_
    · intro w9 hSw
      try dsimp only at hSw
      go_simp
    try simp only [Act.put, List.setIfInBounds_toArray, List.set_cons_zero, List.set_cons_succ]
    refine wpAnyH_take (i := 8) (oi := fxb2o10) (v := (.pointer (some ⟨w.heap.size, 1, none⟩))) rfl (by kernel_rfl) (by kernel_rfl) (by kernel_rfl) (fun _ _ _ h => h) (Or.inl ⟨by rfl, ?_⟩) hHeld ?_
    · intro w9 hSw
      try dsimp only at hSw
      go_simp
    try simp only [Act.put, List.setIfInBounds_toArray, List.set_cons_zero, List.set_cons_succ]
    refine wpAnyH_take (i := 9) (oi := fxb2o4) (v := (.pointer (some ⟨w.heap.size, 2, none⟩))) rfl (by kernel_rfl) (by kernel_rfl) (by kernel_rfl) (fun _ _ _ h => h) (Or.inl ⟨by rfl, ?_⟩) hHeld ?_
    · intro w9 hSw
      try dsimp only at hSw
      go_simp
    try simp only [Act.put, List.setIfInBounds_toArray, List.set_cons_zero, List.set_cons_succ]
    refine wpAnyH_take (i := 10) (oi := fxb2o7) (v := (.int .u32 n1)) rfl (by kernel_rfl) (by kernel_rfl) (by kernel_rfl) (fun _ _ _ h => h) (Or.inl ⟨by rfl, ?_⟩) hHeld ?_
    · intro w9 hSw
      try dsimp only at hSw
      have hcc := hSw.1.cell 2 (.int .u32 n1) rfl
      go_simp
    try simp only [Act.put, List.setIfInBounds_toArray, List.set_cons_zero, List.set_cons_succ]
    refine wpAnyH_take (i := 11) (oi := fxb2o13) (v := (.int .i64 1)) rfl (by kernel_rfl) (by kernel_rfl) (by kernel_rfl) (fun _ _ _ h => h) (Or.inl ⟨by rfl, ?_⟩) hHeld ?_
    · intro w9 hSw
      try dsimp only at hSw
      go_simp
    try simp only [Act.put, List.setIfInBounds_toArray, List.set_cons_zero, List.set_cons_succ]
    refine wpAnyH_take (i := 12) (oi := fxb2o11) (v := (.pointer (some ⟨w.heap.size, 3, none⟩))) rfl (by kernel_rfl) (by kernel_rfl) (by kernel_rfl) (fun _ _ _ h => h) (Or.inl ⟨by rfl, ?_⟩) hHeld ?_
    · intro w9 hSw
      try dsimp only at hSw
      go_simp
    try simp only [Act.put, List.setIfInBounds_toArray, List.set_cons_zero, List.set_cons_succ]
    refine wpAnyH_take (i := 13) (oi := fxb2o3) (v := (.pointer (some ⟨w.heap.size, 4, none⟩))) rfl (by kernel_rfl) (by kernel_rfl) (by kernel_rfl) (fun _ _ _ h => h) (Or.inl ⟨by rfl, ?_⟩) hHeld ?_
    · intro w9 hSw
      try dsimp only at hSw
      go_simp
    try simp only [Act.put, List.setIfInBounds_toArray, List.set_cons_zero, List.set_cons_succ]
    refine wpAnyH_take (i := 14) (oi := fxb2o6) (v := (.int .u32 e1)) rfl (by kernel_rfl) (by kernel_rfl) (by kernel_rfl) (fun _ _ _ h => h) (Or.inl ⟨by rfl, ?_⟩) hHeld ?_
    · intro w9 hSw
      try dsimp only at hSw
      have hcc := hSw.1.cell 4 (.int .u32 e1) rfl
      go_simp
    try simp only [Act.put, List.setIfInBounds_toArray, List.set_cons_zero, List.set_cons_succ]
    refine wpAnyH_ready (rs := [6]) (by kernel_rfl) (by simp) ?_
    refine AllReadyH.cons (o := fxb2o2) rfl (fun K hK => ?_) AllReadyH.nil
    go_simp
    refine Calls.mono (KE.out _) ?_
    rintro e Wx1 ⟨rfl, bb⟩
    have Cx1 := Cd.kept bb
    have Gx1 := Gd.kept bb
    have bx1 := bel_tr bd bb
    clear bb
    refine hK.out _ _ (by exact ⟨Cx1, Gx1⟩) (fun hHeld => ?_)
    clear hK K
    try simp only [Act.put, List.setIfInBounds_toArray, List.set_cons_zero, List.set_cons_succ]
    refine wpAnyH_ready (rs := [15]) (by kernel_rfl) (by simp) ?_
    refine AllReadyH.cons (o := fxb2o1) rfl (fun K hK => ?_) AllReadyH.nil
    go_simp
    refine Calls.mono (KW.out _) ?_
    rintro e Wx2 ⟨rfl, bb⟩
    have Cx2 := Cx1.kept bb
    have Gx2 := Gx1.kept bb
    have bx2 := bel_tr bx1 bb
    clear bb
    refine hK.out _ _ (by exact ⟨Cx2, Gx2⟩) (fun hHeld => ?_)
    clear hK K
    try simp only [Act.put, List.setIfInBounds_toArray, List.set_cons_zero, List.set_cons_succ]
    refine wpAnyH_take (i := 16) (oi := fxb2o5) (v := (.bool P)) rfl (by kernel_rfl) (by kernel_rfl) (by kernel_rfl) (fun _ _ _ h => h) (Or.inl ⟨by rfl, ?_⟩) hHeld ?_
    · intro w9 hSw
      try dsimp only at hSw
      go_simp
    try simp only [Act.put, List.setIfInBounds_toArray, List.set_cons_zero, List.set_cons_succ]
    refine wpAnyH_take (i := 17) (oi := fxb2o0) (v := (.bool P)) rfl (by kernel_rfl) (by kernel_rfl) (by kernel_rfl) (fun _ _ _ h => h) (Or.inl ⟨by rfl, ?_⟩) hHeld ?_
    · intro w9 hSw
      try dsimp only at hSw
      go_simp
    try simp only [Act.put, List.setIfInBounds_toArray, List.set_cons_zero, List.set_cons_succ]
    refine wpAnyH_done (by kernel_rfl) ?_ _
    refine NoPanic.normal ?_
    go_wp2
    go_ret
    exact ⟨retB_tc (by rw [← HV.out]; rfl), bx2⟩
set_option maxRecDepth 100000 in
set_option maxHeartbeats 4000000 in
theorem reset0_tc (c : Cn) (g : Gt) (w : World) :
    Calls Try.prog 98 #[.agg c.v, .int .i64 0, .agg g.v] w fun e w' => e = .returned (.tuple #[.agg ((c.rst false g).getD c).v, .bool (c.rst false g).isSome]) ∧ Below w.heap.size w w' := by
  obtain ⟨R, hR⟩ : ∃ R, c.rst false g = R := ⟨_, rfl⟩
  have HR : Hid ((if c.win false g || (false && (c.st == 1 && (flB g.fl 16 && g.ak == c.n0))) then some { c with st := 6 } else none) = R) := hR
  rw [hR]
  clear hR
  have KW : Hid (∀ W, Calls Try.prog 107 #[.agg c.v, .int .i64 0, .agg g.v] W fun e w' => e = .returned (.bool (c.win false g)) ∧ Below W.heap.size W w') := fun W => window0_tc c g W
  generalize c.win false g = P at *
  generalize hX : (c.st == 1) = X at *
  generalize flB g.fl 16 = A at *
  generalize hQ : (g.ak == c.n0) = Q at *
  obtain ⟨st, n0, n1, e0, e1, k0, k1, d0, d1⟩ := c
  dsimp only at *
  obtain ⟨W1, hW1⟩ : ∃ W, w.alloc (.cells (Cn.v ⟨st, n0, n1, e0, e1, k0, k1, d0, d1⟩) 31) = W := ⟨_, rfl⟩
  have b1 := bel_nw hW1
  have C1 := blk_nw hW1
  have g1 := C1.lt
  obtain ⟨W2, hW2⟩ : ∃ W, W1.alloc (.cells g.v 110) = W := ⟨_, rfl⟩
  have b2 := bel_al b1 hW2
  have C2 := C1.al hW2
  have G2 := blk_nw hW2
  have g2 := G2.lt
  obtain ⟨W3, hW3⟩ : ∃ W, W2.alloc (.cells #[.int .i64 0, .int .u32 0, .int .u32 0, .int .u32 0, .int .u32 0, .bool false, .bool false, .bool false, .bool false] 31) = W := ⟨_, rfl⟩
  have b3 := bel_al b2 hW3
  have C3 := C2.al hW3
  have G3 := G2.al hW3
  have Z3 := blk_nw hW3
  have nCG : w.heap.size ≠ W1.heap.size := by omega
  have nGC : W1.heap.size ≠ w.heap.size := by omega
  have nCZ : w.heap.size ≠ W2.heap.size := by omega
  have nGZ : W1.heap.size ≠ W2.heap.size := by omega
  have nZC : W2.heap.size ≠ w.heap.size := by omega
  have gZ : w.heap.size ≤ W2.heap.size := by omega
  have gG : w.heap.size ≤ W1.heap.size := by omega
  clear b1 b2 C1 C2 G2 g1 g2
  have c0 := C3.cell 0 (.int .i64 st) rfl
  have c1 := C3.cell 1 (.int .u32 n0) rfl
  have g4 := G3.cell 4 (.int .u32 g.ak) rfl
  go_enter Try.func98, Try.ntmps98
  go_wp2_with (first | (refine wpList_load_blk_w (by rfl) _ _ rfl w.heap.size (by rfl) _ C3 Try.underlying31 (by kernel_rfl) ?_) | (refine wpList_load_blk_w (by rfl) _ _ rfl W1.heap.size (by rfl) _ G3 Try.underlying110 (by kernel_rfl) ?_))
  clear c0 c1 g4
  refine Calls.mono (KW.out _) ?_
  rintro e Ww3 ⟨rfl, bb⟩
  have Cw3 := C3.kept bb
  have Gw3 := G3.kept bb
  have Zw3 := Z3.kept bb
  have bw3 := bel_tr b3 bb
  clear bb
  clear C3 G3 Z3 b3
  cases P with
  | false =>
    have Zf := Zw3.set (Cn.v ⟨st, n0, n1, e0, e1, k0, k1, d0, d1⟩)
    have bf := below_setRow bw3 gZ (Cn.v ⟨st, n0, n1, e0, e1, k0, k1, d0, d1⟩)
    go_wp2_with (first | (refine wpList_load_blk_w (by rfl) _ _ rfl w.heap.size (by rfl) _ Cw3 Try.underlying31 (by kernel_rfl) ?_) | (refine wpList_load_blk_w (by rfl) _ _ rfl W1.heap.size (by rfl) _ Gw3 Try.underlying110 (by kernel_rfl) ?_) | (refine wpList_store_row rfl _ _ _ rfl W2.heap.size (Cn.v ⟨st, n0, n1, e0, e1, k0, k1, d0, d1⟩) (by rfl) (by rfl) _ _ Zw3 (by kernel_rfl) (by rfl) (by kernel_rfl) ?_))
    obtain rfl : R = none := by rw [← HR.out]; first | rfl | simp [sdI, stOf, Cn.nx, Cn.ed, Cn.kn, Cn.ans, Cn.byR, *]
    exact ret_cell_tmp (k := 6) (j := 7) Try.f98 (by kernel_rfl) Zf Try.underlying31 (by kernel_rfl) (by rfl) (by rfl) rfl ⟨rfl, bf⟩

  | true =>
    have y0 := Cw3.cell 0 (.int .i64 st) rfl
    have z0 := Cw3.frozen 0
    obtain ⟨Wrw3, hWrw3⟩ : ∃ W, Ww3.setCell ⟨w.heap.size, 0, none⟩ (.int .i64 6) = W := ⟨_, rfl⟩
    have Crw3 : Blk Wrw3 w.heap.size 31 (Cn.v ⟨6, n0, n1, e0, e1, k0, k1, d0, d1⟩) := hWrw3 ▸ Cw3.put 0 (.int .i64 6)
    have Grw3 := hWrw3 ▸ Gw3.put_other Cw3 nGC 0 (.int .i64 6)
    have Zrw3 := hWrw3 ▸ Zw3.put_other Cw3 nZC 0 (.int .i64 6)
    have brw3 := hWrw3 ▸ bw3.setCell (p := ⟨w.heap.size, 0, none⟩) (Nat.le_refl _) (.int .i64 6)
    have Zf := Zrw3.set (Cn.v ⟨6, n0, n1, e0, e1, k0, k1, d0, d1⟩)
    have bf := below_setRow brw3 gZ (Cn.v ⟨6, n0, n1, e0, e1, k0, k1, d0, d1⟩)
    go_wp2_with (first | (refine wpList_load_blk_w (by rfl) _ _ rfl w.heap.size (by rfl) _ Crw3 Try.underlying31 (by kernel_rfl) ?_) | (refine wpList_load_blk_w (by rfl) _ _ rfl W1.heap.size (by rfl) _ Grw3 Try.underlying110 (by kernel_rfl) ?_) | (refine wpList_store_row rfl _ _ _ rfl W2.heap.size (Cn.v ⟨6, n0, n1, e0, e1, k0, k1, d0, d1⟩) (by rfl) (by rfl) _ _ Zrw3 (by kernel_rfl) (by rfl) (by kernel_rfl) ?_))
    obtain rfl : R = some ⟨6, n0, n1, e0, e1, k0, k1, d0, d1⟩ := by rw [← HR.out]; first | rfl | simp [sdI, stOf, Cn.nx, Cn.ed, Cn.kn, Cn.ans, Cn.byR, *]
    exact ret_cell_tmp (k := 6) (j := 7) Try.f98 (by kernel_rfl) Zf Try.underlying31 (by kernel_rfl) (by rfl) (by rfl) rfl ⟨rfl, bf⟩
set_option maxRecDepth 100000 in
set_option maxHeartbeats 4000000 in
theorem reset1_tc (c : Cn) (g : Gt) (w : World) :
    Calls Try.prog 98 #[.agg c.v, .int .i64 1, .agg g.v] w fun e w' => e = .returned (.tuple #[.agg ((c.rst true g).getD c).v, .bool (c.rst true g).isSome]) ∧ Below w.heap.size w w' := by
  obtain ⟨R, hR⟩ : ∃ R, c.rst true g = R := ⟨_, rfl⟩
  have HR : Hid ((if c.win true g || (true && (c.st == 1 && (flB g.fl 16 && g.ak == c.n0))) then some { c with st := 6 } else none) = R) := hR
  rw [hR]
  clear hR
  have KW : Hid (∀ W, Calls Try.prog 107 #[.agg c.v, .int .i64 1, .agg g.v] W fun e w' => e = .returned (.bool (c.win true g)) ∧ Below W.heap.size W w') := fun W => window1_tc c g W
  have KA : Hid (∀ W, Calls Try.prog 97 #[.agg g.v, .int .i64 16] W fun e w' => e = .returned (.bool (flB g.fl 16)) ∧ Below W.heap.size W w') := fun W => has_tc g 16 W
  generalize c.win true g = P at *
  generalize hX : (c.st == 1) = X at *
  generalize flB g.fl 16 = A at *
  generalize hQ : (g.ak == c.n0) = Q at *
  obtain ⟨st, n0, n1, e0, e1, k0, k1, d0, d1⟩ := c
  dsimp only at *
  obtain ⟨W1, hW1⟩ : ∃ W, w.alloc (.cells (Cn.v ⟨st, n0, n1, e0, e1, k0, k1, d0, d1⟩) 31) = W := ⟨_, rfl⟩
  have b1 := bel_nw hW1
  have C1 := blk_nw hW1
  have g1 := C1.lt
  obtain ⟨W2, hW2⟩ : ∃ W, W1.alloc (.cells g.v 110) = W := ⟨_, rfl⟩
  have b2 := bel_al b1 hW2
  have C2 := C1.al hW2
  have G2 := blk_nw hW2
  have g2 := G2.lt
  obtain ⟨W3, hW3⟩ : ∃ W, W2.alloc (.cells #[.int .i64 0, .int .u32 0, .int .u32 0, .int .u32 0, .int .u32 0, .bool false, .bool false, .bool false, .bool false] 31) = W := ⟨_, rfl⟩
  have b3 := bel_al b2 hW3
  have C3 := C2.al hW3
  have G3 := G2.al hW3
  have Z3 := blk_nw hW3
  have nCG : w.heap.size ≠ W1.heap.size := by omega
  have nGC : W1.heap.size ≠ w.heap.size := by omega
  have nCZ : w.heap.size ≠ W2.heap.size := by omega
  have nGZ : W1.heap.size ≠ W2.heap.size := by omega
  have nZC : W2.heap.size ≠ w.heap.size := by omega
  have gZ : w.heap.size ≤ W2.heap.size := by omega
  have gG : w.heap.size ≤ W1.heap.size := by omega
  clear b1 b2 C1 C2 G2 g1 g2
  have c0 := C3.cell 0 (.int .i64 st) rfl
  have c1 := C3.cell 1 (.int .u32 n0) rfl
  have g4 := G3.cell 4 (.int .u32 g.ak) rfl
  go_enter Try.func98, Try.ntmps98
  cases X with
  | false =>
    go_wp2_with (first | (refine wpList_load_blk_w (by rfl) _ _ rfl w.heap.size (by rfl) _ C3 Try.underlying31 (by kernel_rfl) ?_) | (refine wpList_load_blk_w (by rfl) _ _ rfl W1.heap.size (by rfl) _ G3 Try.underlying110 (by kernel_rfl) ?_))
    clear c0 c1 g4
    refine Calls.mono (KW.out _) ?_
    rintro e Ww3 ⟨rfl, bb⟩
    have Cw3 := C3.kept bb
    have Gw3 := G3.kept bb
    have Zw3 := Z3.kept bb
    have bw3 := bel_tr b3 bb
    clear bb
    clear C3 G3 Z3 b3
    cases P with
    | false =>
      have Zf := Zw3.set (Cn.v ⟨st, n0, n1, e0, e1, k0, k1, d0, d1⟩)
      have bf := below_setRow bw3 gZ (Cn.v ⟨st, n0, n1, e0, e1, k0, k1, d0, d1⟩)
      go_wp2_with (first | (refine wpList_load_blk_w (by rfl) _ _ rfl w.heap.size (by rfl) _ Cw3 Try.underlying31 (by kernel_rfl) ?_) | (refine wpList_load_blk_w (by rfl) _ _ rfl W1.heap.size (by rfl) _ Gw3 Try.underlying110 (by kernel_rfl) ?_) | (refine wpList_store_row rfl _ _ _ rfl W2.heap.size (Cn.v ⟨st, n0, n1, e0, e1, k0, k1, d0, d1⟩) (by rfl) (by rfl) _ _ Zw3 (by kernel_rfl) (by rfl) (by kernel_rfl) ?_))
      obtain rfl : R = none := by rw [← HR.out]; first | rfl | simp [sdI, stOf, Cn.nx, Cn.ed, Cn.kn, Cn.ans, Cn.byR, *]
      exact ret_cell_tmp (k := 6) (j := 7) Try.f98 (by kernel_rfl) Zf Try.underlying31 (by kernel_rfl) (by rfl) (by rfl) rfl ⟨rfl, bf⟩

    | true =>
      have y0 := Cw3.cell 0 (.int .i64 st) rfl
      have z0 := Cw3.frozen 0
      obtain ⟨Wrw3, hWrw3⟩ : ∃ W, Ww3.setCell ⟨w.heap.size, 0, none⟩ (.int .i64 6) = W := ⟨_, rfl⟩
      have Crw3 : Blk Wrw3 w.heap.size 31 (Cn.v ⟨6, n0, n1, e0, e1, k0, k1, d0, d1⟩) := hWrw3 ▸ Cw3.put 0 (.int .i64 6)
      have Grw3 := hWrw3 ▸ Gw3.put_other Cw3 nGC 0 (.int .i64 6)
      have Zrw3 := hWrw3 ▸ Zw3.put_other Cw3 nZC 0 (.int .i64 6)
      have brw3 := hWrw3 ▸ bw3.setCell (p := ⟨w.heap.size, 0, none⟩) (Nat.le_refl _) (.int .i64 6)
      have Zf := Zrw3.set (Cn.v ⟨6, n0, n1, e0, e1, k0, k1, d0, d1⟩)
      have bf := below_setRow brw3 gZ (Cn.v ⟨6, n0, n1, e0, e1, k0, k1, d0, d1⟩)
      go_wp2_with (first | (refine wpList_load_blk_w (by rfl) _ _ rfl w.heap.size (by rfl) _ Crw3 Try.underlying31 (by kernel_rfl) ?_) | (refine wpList_load_blk_w (by rfl) _ _ rfl W1.heap.size (by rfl) _ Grw3 Try.underlying110 (by kernel_rfl) ?_) | (refine wpList_store_row rfl _ _ _ rfl W2.heap.size (Cn.v ⟨6, n0, n1, e0, e1, k0, k1, d0, d1⟩) (by rfl) (by rfl) _ _ Zrw3 (by kernel_rfl) (by rfl) (by kernel_rfl) ?_))
      obtain rfl : R = some ⟨6, n0, n1, e0, e1, k0, k1, d0, d1⟩ := by rw [← HR.out]; first | rfl | simp [sdI, stOf, Cn.nx, Cn.ed, Cn.kn, Cn.ans, Cn.byR, *]
      exact ret_cell_tmp (k := 6) (j := 7) Try.f98 (by kernel_rfl) Zf Try.underlying31 (by kernel_rfl) (by rfl) (by rfl) rfl ⟨rfl, bf⟩


  | true =>
    go_wp2_with (refine wpList_load_blk_w (by rfl) _ _ rfl W1.heap.size (by rfl) _ G3 Try.underlying110 (by kernel_rfl) ?_)
    clear c0 c1 g4
    refine Calls.mono (KA.out _) ?_
    rintro e W4 ⟨rfl, bb⟩
    have C4 := C3.kept bb
    have G4 := G3.kept bb
    have Z4 := Z3.kept bb
    have b4 := bel_tr b3 bb
    clear bb
    clear C3 G3 Z3 b3
    have c0 := C4.cell 0 (.int .i64 st) rfl
    have c1 := C4.cell 1 (.int .u32 n0) rfl
    have g4 := G4.cell 4 (.int .u32 g.ak) rfl
    cases A with
    | false =>
      go_wp2_with (first | (refine wpList_load_blk_w (by rfl) _ _ rfl w.heap.size (by rfl) _ C4 Try.underlying31 (by kernel_rfl) ?_) | (refine wpList_load_blk_w (by rfl) _ _ rfl W1.heap.size (by rfl) _ G4 Try.underlying110 (by kernel_rfl) ?_))
      clear c0 c1 g4
      refine Calls.mono (KW.out _) ?_
      rintro e Ww4 ⟨rfl, bb⟩
      have Cw4 := C4.kept bb
      have Gw4 := G4.kept bb
      have Zw4 := Z4.kept bb
      have bw4 := bel_tr b4 bb
      clear bb
      clear C4 G4 Z4 b4
      cases P with
      | false =>
        have Zf := Zw4.set (Cn.v ⟨st, n0, n1, e0, e1, k0, k1, d0, d1⟩)
        have bf := below_setRow bw4 gZ (Cn.v ⟨st, n0, n1, e0, e1, k0, k1, d0, d1⟩)
        go_wp2_with (first | (refine wpList_load_blk_w (by rfl) _ _ rfl w.heap.size (by rfl) _ Cw4 Try.underlying31 (by kernel_rfl) ?_) | (refine wpList_load_blk_w (by rfl) _ _ rfl W1.heap.size (by rfl) _ Gw4 Try.underlying110 (by kernel_rfl) ?_) | (refine wpList_store_row rfl _ _ _ rfl W2.heap.size (Cn.v ⟨st, n0, n1, e0, e1, k0, k1, d0, d1⟩) (by rfl) (by rfl) _ _ Zw4 (by kernel_rfl) (by rfl) (by kernel_rfl) ?_))
        obtain rfl : R = none := by rw [← HR.out]; first | rfl | simp [sdI, stOf, Cn.nx, Cn.ed, Cn.kn, Cn.ans, Cn.byR, *]
        exact ret_cell_tmp (k := 6) (j := 7) Try.f98 (by kernel_rfl) Zf Try.underlying31 (by kernel_rfl) (by rfl) (by rfl) rfl ⟨rfl, bf⟩

      | true =>
        have y0 := Cw4.cell 0 (.int .i64 st) rfl
        have z0 := Cw4.frozen 0
        obtain ⟨Wrw4, hWrw4⟩ : ∃ W, Ww4.setCell ⟨w.heap.size, 0, none⟩ (.int .i64 6) = W := ⟨_, rfl⟩
        have Crw4 : Blk Wrw4 w.heap.size 31 (Cn.v ⟨6, n0, n1, e0, e1, k0, k1, d0, d1⟩) := hWrw4 ▸ Cw4.put 0 (.int .i64 6)
        have Grw4 := hWrw4 ▸ Gw4.put_other Cw4 nGC 0 (.int .i64 6)
        have Zrw4 := hWrw4 ▸ Zw4.put_other Cw4 nZC 0 (.int .i64 6)
        have brw4 := hWrw4 ▸ bw4.setCell (p := ⟨w.heap.size, 0, none⟩) (Nat.le_refl _) (.int .i64 6)
        have Zf := Zrw4.set (Cn.v ⟨6, n0, n1, e0, e1, k0, k1, d0, d1⟩)
        have bf := below_setRow brw4 gZ (Cn.v ⟨6, n0, n1, e0, e1, k0, k1, d0, d1⟩)
        go_wp2_with (first | (refine wpList_load_blk_w (by rfl) _ _ rfl w.heap.size (by rfl) _ Crw4 Try.underlying31 (by kernel_rfl) ?_) | (refine wpList_load_blk_w (by rfl) _ _ rfl W1.heap.size (by rfl) _ Grw4 Try.underlying110 (by kernel_rfl) ?_) | (refine wpList_store_row rfl _ _ _ rfl W2.heap.size (Cn.v ⟨6, n0, n1, e0, e1, k0, k1, d0, d1⟩) (by rfl) (by rfl) _ _ Zrw4 (by kernel_rfl) (by rfl) (by kernel_rfl) ?_))
        obtain rfl : R = some ⟨6, n0, n1, e0, e1, k0, k1, d0, d1⟩ := by rw [← HR.out]; first | rfl | simp [sdI, stOf, Cn.nx, Cn.ed, Cn.kn, Cn.ans, Cn.byR, *]
        exact ret_cell_tmp (k := 6) (j := 7) Try.f98 (by kernel_rfl) Zf Try.underlying31 (by kernel_rfl) (by rfl) (by rfl) rfl ⟨rfl, bf⟩


    | true =>
      cases Q with
      | false =>
        go_wp2_with (first | (refine wpList_load_blk_w (by rfl) _ _ rfl w.heap.size (by rfl) _ C4 Try.underlying31 (by kernel_rfl) ?_) | (refine wpList_load_blk_w (by rfl) _ _ rfl W1.heap.size (by rfl) _ G4 Try.underlying110 (by kernel_rfl) ?_))
        clear c0 c1 g4
        refine Calls.mono (KW.out _) ?_
        rintro e Ww4 ⟨rfl, bb⟩
        have Cw4 := C4.kept bb
        have Gw4 := G4.kept bb
        have Zw4 := Z4.kept bb
        have bw4 := bel_tr b4 bb
        clear bb
        clear C4 G4 Z4 b4
        cases P with
        | false =>
          have Zf := Zw4.set (Cn.v ⟨st, n0, n1, e0, e1, k0, k1, d0, d1⟩)
          have bf := below_setRow bw4 gZ (Cn.v ⟨st, n0, n1, e0, e1, k0, k1, d0, d1⟩)
          go_wp2_with (first | (refine wpList_load_blk_w (by rfl) _ _ rfl w.heap.size (by rfl) _ Cw4 Try.underlying31 (by kernel_rfl) ?_) | (refine wpList_load_blk_w (by rfl) _ _ rfl W1.heap.size (by rfl) _ Gw4 Try.underlying110 (by kernel_rfl) ?_) | (refine wpList_store_row rfl _ _ _ rfl W2.heap.size (Cn.v ⟨st, n0, n1, e0, e1, k0, k1, d0, d1⟩) (by rfl) (by rfl) _ _ Zw4 (by kernel_rfl) (by rfl) (by kernel_rfl) ?_))
          obtain rfl : R = none := by rw [← HR.out]; first | rfl | simp [sdI, stOf, Cn.nx, Cn.ed, Cn.kn, Cn.ans, Cn.byR, *]
          exact ret_cell_tmp (k := 6) (j := 7) Try.f98 (by kernel_rfl) Zf Try.underlying31 (by kernel_rfl) (by rfl) (by rfl) rfl ⟨rfl, bf⟩

        | true =>
          have y0 := Cw4.cell 0 (.int .i64 st) rfl
          have z0 := Cw4.frozen 0
          obtain ⟨Wrw4, hWrw4⟩ : ∃ W, Ww4.setCell ⟨w.heap.size, 0, none⟩ (.int .i64 6) = W := ⟨_, rfl⟩
          have Crw4 : Blk Wrw4 w.heap.size 31 (Cn.v ⟨6, n0, n1, e0, e1, k0, k1, d0, d1⟩) := hWrw4 ▸ Cw4.put 0 (.int .i64 6)
          have Grw4 := hWrw4 ▸ Gw4.put_other Cw4 nGC 0 (.int .i64 6)
          have Zrw4 := hWrw4 ▸ Zw4.put_other Cw4 nZC 0 (.int .i64 6)
          have brw4 := hWrw4 ▸ bw4.setCell (p := ⟨w.heap.size, 0, none⟩) (Nat.le_refl _) (.int .i64 6)
          have Zf := Zrw4.set (Cn.v ⟨6, n0, n1, e0, e1, k0, k1, d0, d1⟩)
          have bf := below_setRow brw4 gZ (Cn.v ⟨6, n0, n1, e0, e1, k0, k1, d0, d1⟩)
          go_wp2_with (first | (refine wpList_load_blk_w (by rfl) _ _ rfl w.heap.size (by rfl) _ Crw4 Try.underlying31 (by kernel_rfl) ?_) | (refine wpList_load_blk_w (by rfl) _ _ rfl W1.heap.size (by rfl) _ Grw4 Try.underlying110 (by kernel_rfl) ?_) | (refine wpList_store_row rfl _ _ _ rfl W2.heap.size (Cn.v ⟨6, n0, n1, e0, e1, k0, k1, d0, d1⟩) (by rfl) (by rfl) _ _ Zrw4 (by kernel_rfl) (by rfl) (by kernel_rfl) ?_))
          obtain rfl : R = some ⟨6, n0, n1, e0, e1, k0, k1, d0, d1⟩ := by rw [← HR.out]; first | rfl | simp [sdI, stOf, Cn.nx, Cn.ed, Cn.kn, Cn.ans, Cn.byR, *]
          exact ret_cell_tmp (k := 6) (j := 7) Try.f98 (by kernel_rfl) Zf Try.underlying31 (by kernel_rfl) (by rfl) (by rfl) rfl ⟨rfl, bf⟩


      | true =>
        have y0 := C4.cell 0 (.int .i64 st) rfl
        have z0 := C4.frozen 0
        obtain ⟨Wr4, hWr4⟩ : ∃ W, W4.setCell ⟨w.heap.size, 0, none⟩ (.int .i64 6) = W := ⟨_, rfl⟩
        have Cr4 : Blk Wr4 w.heap.size 31 (Cn.v ⟨6, n0, n1, e0, e1, k0, k1, d0, d1⟩) := hWr4 ▸ C4.put 0 (.int .i64 6)
        have Gr4 := hWr4 ▸ G4.put_other C4 nGC 0 (.int .i64 6)
        have Zr4 := hWr4 ▸ Z4.put_other C4 nZC 0 (.int .i64 6)
        have br4 := hWr4 ▸ b4.setCell (p := ⟨w.heap.size, 0, none⟩) (Nat.le_refl _) (.int .i64 6)
        have Zf := Zr4.set (Cn.v ⟨6, n0, n1, e0, e1, k0, k1, d0, d1⟩)
        have bf := below_setRow br4 gZ (Cn.v ⟨6, n0, n1, e0, e1, k0, k1, d0, d1⟩)
        go_wp2_with (first | (refine wpList_load_blk_w (by rfl) _ _ rfl w.heap.size (by rfl) _ Cr4 Try.underlying31 (by kernel_rfl) ?_) | (refine wpList_load_blk_w (by rfl) _ _ rfl W1.heap.size (by rfl) _ Gr4 Try.underlying110 (by kernel_rfl) ?_) | (refine wpList_store_row rfl _ _ _ rfl W2.heap.size (Cn.v ⟨6, n0, n1, e0, e1, k0, k1, d0, d1⟩) (by rfl) (by rfl) _ _ Zr4 (by kernel_rfl) (by rfl) (by kernel_rfl) ?_))
        obtain rfl : R = some ⟨6, n0, n1, e0, e1, k0, k1, d0, d1⟩ := by rw [← HR.out]; first | rfl | simp [sdI, stOf, Cn.nx, Cn.ed, Cn.kn, Cn.ans, Cn.byR, *]
        exact ret_cell_tmp (k := 6) (j := 7) Try.f98 (by kernel_rfl) Zf Try.underlying31 (by kernel_rfl) (by rfl) (by rfl) rfl ⟨rfl, bf⟩
end Go.Proofs.Ytfiembbmgdmagaa
