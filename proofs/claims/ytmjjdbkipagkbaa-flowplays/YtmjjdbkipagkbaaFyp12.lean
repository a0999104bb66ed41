/- Texts joined: TcC -/
import Derived.Test.YtmjjdbkipagkbaaFyp11
namespace Go.Proofs.Ytmjjdbkipagkbaa
abbrev fyp12o0 : Oper := { dst := some 6, op := Op.assign (.tmp 23), type := 4, pos := "tcp.go:163", after := #[{ on := 16, ground := Ground.data }, { on := 15, ground := Ground.chain }, { on := 0, ground := Ground.phase }, { on := 1, ground := Ground.phase }, { on := 2, ground := Ground.phase }, { on := 3, ground := Ground.phase }, { on := 4, ground := Ground.phase }, { on := 5, ground := Ground.phase }, { on := 6, ground := Ground.phase }, { on := 7, ground := Ground.phase }, { on := 8, ground := Ground.phase }, { on := 9, ground := Ground.phase }, { on := 10, ground := Ground.phase }, { on := 11, ground := Ground.phase }, { on := 12, ground := Ground.phase }, { on := 13, ground := Ground.phase }, { on := 14, ground := Ground.phase }, { on := 15, ground := Ground.phase }, { on := 16, ground := Ground.phase }], guard := none }
abbrev fyp12o1 : Oper := { dst := some 22, op := Op.call { callee := Callee.value (.func 110), args := #[.tmp 13, .tmp 17, .tmp 21], argTypes := #[27, 27, 27] }, type := 4, pos := "tcp.go:163", after := #[{ on := 6, ground := Ground.data }, { on := 10, ground := Ground.data }, { on := 14, ground := Ground.data }, { on := 6, ground := Ground.chain }, { on := 4, ground := Ground.guard }], guard := some (4, true) }
abbrev fyp12o2 : Oper := { dst := some 13, op := Op.call { callee := Callee.value (.func 108), args := #[.tmp 12], argTypes := #[110] }, type := 27, pos := "tcp.go:163", after := #[{ on := 5, ground := Ground.data }, { on := 4, ground := Ground.chain }, { on := 4, ground := Ground.guard }], guard := some (4, true) }
abbrev fyp12o3 : Oper := { dst := some 20, op := Op.indexAddr 28 (.tmp 19) (.tmp 18), type := 0, pos := "tcp.go:163", after := #[{ on := 12, ground := Ground.data }, { on := 11, ground := Ground.data }, { on := 4, ground := Ground.guard }], guard := some (4, true) }
abbrev fyp12o4 : Oper := { dst := some 16, op := Op.indexAddr 28 (.tmp 15) (.tmp 14), type := 0, pos := "tcp.go:163", after := #[{ on := 8, ground := Ground.data }, { on := 7, ground := Ground.data }, { on := 4, ground := Ground.guard }], guard := some (4, true) }
abbrev fyp12o5 : Oper := { dst := some 23, op := Op.pick (.tmp 11) (.tmp 22) (.const (.bool false)), type := 4, pos := "tcp.go:163", after := #[{ on := 4, ground := Ground.data }, { on := 15, ground := Ground.data }], guard := none }
abbrev fyp12o6 : Oper := { dst := some 21, op := Op.load 27 (.tmp 20), type := 27, pos := "tcp.go:163", after := #[{ on := 13, ground := Ground.data }, { on := 4, ground := Ground.guard }], guard := some (4, true) }
abbrev fyp12o7 : Oper := { dst := some 17, op := Op.load 27 (.tmp 16), type := 27, pos := "tcp.go:163", after := #[{ on := 9, ground := Ground.data }, { on := 4, ground := Ground.guard }], guard := some (4, true) }
abbrev fyp12o8 : Oper := { dst := some 9, op := Op.indexAddr 29 (.tmp 8) (.tmp 7), type := 0, pos := "tcp.go:163", after := #[{ on := 1, ground := Ground.data }, { on := 0, ground := Ground.data }], guard := none }
abbrev fyp12o9 : Oper := { dst := some 12, op := Op.load 110 (.tmp 5), type := 110, pos := "tcp.go:163", after := #[{ on := 4, ground := Ground.guard }], guard := some (4, true) }
abbrev fyp12o10 : Oper := { dst := some 15, op := Op.fieldAddr 31 (.tmp 3) 1, type := 0, pos := "tcp.go:163", after := #[{ on := 4, ground := Ground.guard }], guard := some (4, true) }
abbrev fyp12o11 : Oper := { dst := some 19, op := Op.fieldAddr 31 (.tmp 3) 2, type := 0, pos := "tcp.go:163", after := #[{ on := 4, ground := Ground.guard }], guard := some (4, true) }
abbrev fyp12o12 : Oper := { dst := some 14, op := Op.move (.tmp 1), type := 3, pos := "tcp.go:163", after := #[{ on := 4, ground := Ground.guard }], guard := some (4, true) }
abbrev fyp12o13 : Oper := { dst := some 18, op := Op.move (.tmp 1), type := 3, pos := "tcp.go:163", after := #[{ on := 4, ground := Ground.guard }], guard := some (4, true) }
abbrev fyp12o14 : Oper := { dst := some 10, op := Op.load 4 (.tmp 9), type := 4, pos := "tcp.go:163", after := #[{ on := 2, ground := Ground.data }], guard := none }
abbrev fyp12o15 : Oper := { dst := some 11, op := Op.move (.tmp 10), type := 4, pos := "tcp.go:163", after := #[{ on := 3, ground := Ground.data }], guard := none }
abbrev fyp12o16 : Oper := { dst := some 8, op := Op.fieldAddr 31 (.tmp 3) 3, type := 0, pos := "tcp.go:163", after := #[], guard := none }
abbrev fyp12o17 : Oper := { dst := some 7, op := Op.move (.tmp 1), type := 3, pos := "tcp.go:163", after := #[], guard := none }
end Go.Proofs.Ytmjjdbkipagkbaa
namespace Go.Proofs.Ytmjjdbkipagkbaa
open Go.RowKit
set_option linter.unusedVariables false
set_option linter.unusedSimpArgs false
theorem load_suba {W : World} {g : Nat} {t ty el : TypeId} {m : Nat} {cs : Array Value} (h : Blk W g t cs) (k : Nat) (sub : Array Value) (hs : (cs.toList.drop k).take sub.size = sub.toList) (hu : Try.prog.underlying ty = some (.array m el)) (hi : (Try.prog.info? ty).map (·.size) = some sub.size) :
    (loadVar ty ⟨g, k, none⟩).run Try.prog W = .ok (.agg sub) W := by
  have hl : (loadCells ⟨g, k, none⟩ sub.toList.length).run Try.prog W = .ok sub.toList.toArray W :=
    run_loadCells_list (P := Try.prog) W ⟨g, k, none⟩ sub.toList (fun j v hv => by
      have hadd : (⟨g, k, none⟩ : Addr).add j = ⟨g, k + j, none⟩ := Go.WideShapes.add_plain ..
      rw [hadd]
      refine h.cell (k + j) v ?_
      rw [← hs] at hv
      rw [List.getElem?_take] at hv
      split at hv
      · rw [List.getElem?_drop] at hv
        simpa using hv
      · cases hv)
  cases hq : Try.prog.info? ty with
  | none => simp [hq] at hi
  | some i =>
    have hs' : i.size = sub.size := by simpa [hq] using hi
    have hagg : (isAgg ty).run Try.prog W = .ok true W := by
      unfold isAgg
      rw [Sem.run_bind, run_underlying hu W]
      rfl
    simp only [Array.length_toList, Array.toArray_toList] at hl
    simp [loadVar, Sem.run_bind, hagg, sizeOf, typeInfo, hq, hs', hl]
theorem yieldsIf_suba_w {ops : Array Oper} {S : World → Prop} {o : Oper} {ac : Act} {m : Nat} {el : TypeId} (hw : Region.wanted o (yielded ops ac.tmps) = true) (ty : TypeId) (p : Operand) (ho : o.op = Op.load ty p) (g k : Nat) (t : TypeId) (hp : ac.eval p = .pointer (some ⟨g, k, none⟩)) (cs sub : Array Value)
    (hS : ∀ w, S w → Blk w g t cs) (hs : (cs.toList.drop k).take sub.size = sub.toList) (hu : Try.prog.underlying ty = some (.array m el)) (hi : (Try.prog.info? ty).map (·.size) = some sub.size) : YieldsIf Try.prog ops S o (.agg sub) ac := by
  refine .inl ⟨hw, fun w hw' => ?_⟩
  have hl := load_suba (hS w hw') k sub hs hu hi
  simp [execOp, ho, hp, Instr.loadAt, Instr.sureAddr, hl, Result.andThen]
theorem wpList_load_suba_w {ops : Array Oper} {rest : List Oper} {o : Oper} {ac : Act} {w : World} {Q : Exit → Act → World → Prop} {m : Nat} {el : TypeId} (hw : Region.wanted o (yielded ops ac.tmps) = true) (ty : TypeId) (p : Operand) (ho : o.op = Op.load ty p) (g k : Nat) (t : TypeId) (hp : ac.eval p = .pointer (some ⟨g, k, none⟩)) (cs sub : Array Value)
    (hb : Blk w g t cs) (hs : (cs.toList.drop k).take sub.size = sub.toList) (hu : Try.prog.underlying ty = some (.array m el)) (hi : (Try.prog.info? ty).map (·.size) = some sub.size) (h : wpList Try.prog ops Q rest (ac.put o.dst (.agg sub)) w) : wpList Try.prog ops Q (o :: rest) ac w := by
  refine wpList_step fun K hK => ?_
  rw [if_pos hw]
  have hl := load_suba hb k sub hs hu hi
  unfold Oper.wp
  simp [execOp, ho, hp, Instr.loadAt, Instr.sureAddr, hl, Result.andThen]
  exact hK _ _ h
set_option maxRecDepth 100000 in
set_option maxHeartbeats 4000000 in
theorem window0_tc (c : Cn) (g : Gt) (w : World) :
    Calls Try.prog 107 #[.agg c.v, .int .i64 0, .agg g.v] w fun e w' => e = .returned (.bool (c.win false g)) ∧ Below w.heap.size w w' := by
  obtain ⟨V, hV⟩ : ∃ V, c.win false g = V := ⟨_, rfl⟩
  have HV : Hid ((c.k0 && wiB g.e c.n0 c.e0) = V) := hV
  rw [hV]
  clear hV
  have KE : Hid (∀ W, Calls Try.prog 108 #[.agg g.v] W fun e w' => e = .returned (.int .u32 g.e) ∧ Below W.heap.size W w') := fun W => end_tc g W
  have KW : Hid (∀ W, Calls Try.prog 110 #[.int .u32 g.e, .int .u32 c.n0, .int .u32 c.e0] W fun e w' => e = .returned (.bool (wiB g.e c.n0 c.e0)) ∧ Below W.heap.size W w') := fun W => within_tc _ _ _ W
  generalize hP : wiB g.e c.n0 c.e0 = P at *
  clear hP
  generalize g.e = E at *
  obtain ⟨st, n0, n1, e0, e1, k0, k1, d0, d1⟩ := c
  dsimp only at *
  obtain ⟨W1, hW1⟩ : ∃ W, w.alloc (.cells (Cn.v ⟨st, n0, n1, e0, e1, k0, k1, d0, d1⟩) 31) = W := ⟨_, rfl⟩
  have b1 := bel_nw hW1
  have C1 := blk_nw hW1
  obtain ⟨W2, hW2⟩ : ∃ W, W1.alloc (.cells g.v 110) = W := ⟨_, rfl⟩
  have b2 := bel_al b1 hW2
  have C2 := C1.al hW2
  have G2 := blk_nw hW2
  clear b1 C1
  go_enter Try.func107, Try.ntmps107
  go_wp2_with fail
  cases k0 with
  | false =>
    have Cd := C2.drew
    have Gd := G2.drew
    have bd := b2.drew
    refine wp_region_noPanic ?_
    refine wp_region_held_drew (S := fun w' => Blk w' w.heap.size 31 (Cn.v ⟨st, n0, n1, e0, e1, false, k1, d0, d1⟩) ∧ Blk w' W1.heap.size 110 g.v) (by kernel_rfl) (by exact ⟨Cd, Gd⟩) (fun hHeld => ?_)
    refine qtk (i := 0) (oi := fyp12o17) (v := (.int .i64 0)) hHeld ?_ ?_
    · intro w9 hSw
      try dsimp only at hSw
      go_simp
    try simp only [qpu]
    refine qtk (i := 1) (oi := fyp12o16) (v := (.pointer (some ⟨w.heap.size, 5, none⟩))) hHeld ?_ ?_
    · intro w9 hSw
      try dsimp only at hSw
      go_simp
    try simp only [qpu]
    refine qtk (i := 2) (oi := fyp12o8) (v := (.pointer (some ⟨w.heap.size, 5, none⟩))) hHeld ?_ ?_
    · intro w9 hSw
      try dsimp only at hSw
      go_simp
    try simp only [qpu]
    refine qtk (i := 3) (oi := fyp12o14) (v := (.bool false)) hHeld ?_ ?_
    · intro w9 hSw
      try dsimp only at hSw
      have hcc := hSw.1.cell 5 (.bool false) rfl
      go_simp
    try simp only [qpu]
    refine qtk (i := 4) (oi := fyp12o15) (v := (.bool false)) hHeld ?_ ?_
    · intro w9 hSw
      try dsimp only at hSw
      go_simp
    try simp only [qpu]
    refine qtn (i := 5) (oi := fyp12o9) hHeld ?_
    try simp only [qpu]
    refine qtn (i := 6) (oi := fyp12o2) hHeld ?_
    try simp only [qpu]
    refine qtn (i := 7) (oi := fyp12o12) hHeld ?_
    try simp only [qpu]
    refine qtn (i := 8) (oi := fyp12o10) hHeld ?_
    try simp only [qpu]
    refine qtn (i := 9) (oi := fyp12o4) hHeld ?_
    try simp only [qpu]
    refine qtn (i := 10) (oi := fyp12o7) hHeld ?_
    try simp only [qpu]
    refine qtn (i := 11) (oi := fyp12o13) hHeld ?_
    try simp only [qpu]
    refine qtn (i := 12) (oi := fyp12o11) hHeld ?_
    try simp only [qpu]
    refine qtn (i := 13) (oi := fyp12o3) hHeld ?_
    try simp only [qpu]
    refine qtn (i := 14) (oi := fyp12o6) hHeld ?_
    try simp only [qpu]
    refine qtn (i := 15) (oi := fyp12o1) hHeld ?_
    try simp only [qpu]
    refine qtk (i := 16) (oi := fyp12o5) (v := (.bool false)) hHeld ?_ ?_
    · intro w9 hSw
      try dsimp only at hSw
      go_simp
    try simp only [qpu]
    refine qtk (i := 17) (oi := fyp12o0) (v := (.bool false)) hHeld ?_ ?_
    · intro w9 hSw
      try dsimp only at hSw
      go_simp
    try simp only [qpu]
    refine wpAnyH_done (by kernel_rfl) ?_ _
    refine NoPanic.normal ?_
    go_wp2
    go_ret
    exact ⟨retB_tc (by rw [← HV.out]; rfl), bd⟩

  | true =>
    have Cd := C2.drew
    have Gd := G2.drew
    have bd := b2.drew
    refine wp_region_noPanic ?_
    refine wp_region_held_drew (S := fun w' => Blk w' w.heap.size 31 (Cn.v ⟨st, n0, n1, e0, e1, true, k1, d0, d1⟩) ∧ Blk w' W1.heap.size 110 g.v) (by kernel_rfl) (by exact ⟨Cd, Gd⟩) (fun hHeld => ?_)
    refine qtk (i := 0) (oi := fyp12o17) (v := (.int .i64 0)) hHeld ?_ ?_
    · intro w9 hSw
      try dsimp only at hSw
      go_simp
    try simp only [qpu]
    refine qtk (i := 1) (oi := fyp12o16) (v := (.pointer (some ⟨w.heap.size, 5, none⟩))) hHeld ?_ ?_
    · intro w9 hSw
      try dsimp only at hSw
      go_simp
    try simp only [qpu]
    refine qtk (i := 2) (oi := fyp12o8) (v := (.pointer (some ⟨w.heap.size, 5, none⟩))) hHeld ?_ ?_
    · intro w9 hSw
      try dsimp only at hSw
      go_simp
    try simp only [qpu]
    refine qtk (i := 3) (oi := fyp12o14) (v := (.bool true)) hHeld ?_ ?_
    · intro w9 hSw
      try dsimp only at hSw
      have hcc := hSw.1.cell 5 (.bool true) rfl
      go_simp
    try simp only [qpu]
    refine qtk (i := 4) (oi := fyp12o15) (v := (.bool true)) hHeld ?_ ?_
    · intro w9 hSw
      try dsimp only at hSw
      go_simp
    try simp only [qpu]
    refine qty (i := 5) (oi := fyp12o9) (v := (.agg g.v)) (yieldsIf_blk_w (by kernel_rfl) _ _ rfl W1.heap.size (by rfl) _ (fun _ hSw => hSw.2) Try.underlying110 (by kernel_rfl)) hHeld ?_
    try simp only [qpu]
    refine qtk (i := 7) (oi := fyp12o12) (v := (.int .i64 0)) hHeld ?_ ?_
    · intro w9 hSw
      try dsimp only at hSw
      go_simp
    try simp only [qpu]
    refine qtk (i := 8) (oi := fyp12o10) (v := (.pointer (some ⟨w.heap.size, 1, none⟩))) hHeld ?_ ?_
    · intro w9 hSw
      try dsimp only at hSw
      go_simp
    try simp only [qpu]
    refine qtk (i := 9) (oi := fyp12o4) (v := (.pointer (some ⟨w.heap.size, 1, none⟩))) hHeld ?_ ?_
    · intro w9 hSw
      try dsimp only at hSw
      go_simp
    try simp only [qpu]
    refine qtk (i := 10) (oi := fyp12o7) (v := (.int .u32 n0)) hHeld ?_ ?_
    · intro w9 hSw
      try dsimp only at hSw
      have hcc := hSw.1.cell 1 (.int .u32 n0) rfl
      go_simp
    try simp only [qpu]
    refine qtk (i := 11) (oi := fyp12o13) (v := (.int .i64 0)) hHeld ?_ ?_
    · intro w9 hSw
      try dsimp only at hSw
      go_simp
    try simp only [qpu]
    refine qtk (i := 12) (oi := fyp12o11) (v := (.pointer (some ⟨w.heap.size, 3, none⟩))) hHeld ?_ ?_
    · intro w9 hSw
      try dsimp only at hSw
      go_simp
    try simp only [qpu]
    refine qtk (i := 13) (oi := fyp12o3) (v := (.pointer (some ⟨w.heap.size, 3, none⟩))) hHeld ?_ ?_
    · intro w9 hSw
      try dsimp only at hSw
      go_simp
    try simp only [qpu]
    refine qtk (i := 14) (oi := fyp12o6) (v := (.int .u32 e0)) hHeld ?_ ?_
    · intro w9 hSw
      try dsimp only at hSw
      have hcc := hSw.1.cell 3 (.int .u32 e0) rfl
      go_simp
    try simp only [qpu]
    refine wpAnyH_ready (rs := [6]) (by kernel_rfl) (by simp) ?_
    refine AllReadyH.cons (o := fyp12o2) rfl (fun K hK => ?_) AllReadyH.nil
    go_simp
    refine Calls.mono (KE.out _) ?_
    rintro e Wx1 ⟨rfl, bb⟩
    have Cx1 := Cd.kept bb
    have Gx1 := Gd.kept bb
    have bx1 := bel_tr bd bb
    clear bb
    refine hK.out _ _ (by exact ⟨Cx1, Gx1⟩) (fun hHeld => ?_)
    clear hK K
    try simp only [qpu]
    refine wpAnyH_ready (rs := [15]) (by kernel_rfl) (by simp) ?_
    refine AllReadyH.cons (o := fyp12o1) rfl (fun K hK => ?_) AllReadyH.nil
    go_simp
    refine Calls.mono (KW.out _) ?_
    rintro e Wx2 ⟨rfl, bb⟩
    have Cx2 := Cx1.kept bb
    have Gx2 := Gx1.kept bb
    have bx2 := bel_tr bx1 bb
    clear bb
    refine hK.out _ _ (by exact ⟨Cx2, Gx2⟩) (fun hHeld => ?_)
    clear hK K
    try simp only [qpu]
    refine qtk (i := 16) (oi := fyp12o5) (v := (.bool P)) hHeld ?_ ?_
    · intro w9 hSw
      try dsimp only at hSw
      go_simp
    try simp only [qpu]
    refine qtk (i := 17) (oi := fyp12o0) (v := (.bool P)) hHeld ?_ ?_
    · intro w9 hSw
      try dsimp only at hSw
      go_simp
    try simp only [qpu]
    refine wpAnyH_done (by kernel_rfl) ?_ _
    refine NoPanic.normal ?_
    go_wp2
    go_ret
    exact ⟨retB_tc (by rw [← HV.out]; rfl), bx2⟩
set_option maxRecDepth 100000 in
set_option maxHeartbeats 4000000 in
theorem window1_tc (c : Cn) (g : Gt) (w : World) :
    Calls Try.prog 107 #[.agg c.v, .int .i64 1, .agg g.v] w fun e w' => e = .returned (.bool (c.win true g)) ∧ Below w.heap.size w w' := by
  obtain ⟨V, hV⟩ : ∃ V, c.win true g = V := ⟨_, rfl⟩
  have HV : Hid ((c.k1 && wiB g.e c.n1 c.e1) = V) := hV
  rw [hV]
  clear hV
  have KE : Hid (∀ W, Calls Try.prog 108 #[.agg g.v] W fun e w' => e = .returned (.int .u32 g.e) ∧ Below W.heap.size W w') := fun W => end_tc g W
  have KW : Hid (∀ W, Calls Try.prog 110 #[.int .u32 g.e, .int .u32 c.n1, .int .u32 c.e1] W fun e w' => e = .returned (.bool (wiB g.e c.n1 c.e1)) ∧ Below W.heap.size W w') := fun W => within_tc _ _ _ W
  generalize hP : wiB g.e c.n1 c.e1 = P at *
  clear hP
  generalize g.e = E at *
  obtain ⟨st, n0, n1, e0, e1, k0, k1, d0, d1⟩ := c
  dsimp only at *
  obtain ⟨W1, hW1⟩ : ∃ W, w.alloc (.cells (Cn.v ⟨st, n0, n1, e0, e1, k0, k1, d0, d1⟩) 31) = W := ⟨_, rfl⟩
  have b1 := bel_nw hW1
  have C1 := blk_nw hW1
  obtain ⟨W2, hW2⟩ : ∃ W, W1.alloc (.cells g.v 110) = W := ⟨_, rfl⟩
  have b2 := bel_al b1 hW2
  have C2 := C1.al hW2
  have G2 := blk_nw hW2
  clear b1 C1
  go_enter Try.func107, Try.ntmps107
  go_wp2_with fail
  cases k1 with
  | false =>
    have Cd := C2.drew
    have Gd := G2.drew
    have bd := b2.drew
    refine wp_region_noPanic ?_
    refine wp_region_held_drew (S := fun w' => Blk w' w.heap.size 31 (Cn.v ⟨st, n0, n1, e0, e1, k0, false, d0, d1⟩) ∧ Blk w' W1.heap.size 110 g.v) (by kernel_rfl) (by exact ⟨Cd, Gd⟩) (fun hHeld => ?_)
    refine qtk (i := 0) (oi := fyp12o17) (v := (.int .i64 1)) hHeld ?_ ?_
    · intro w9 hSw
      try dsimp only at hSw
      go_simp
    try simp only [qpu]
    refine qtk (i := 1) (oi := fyp12o16) (v := (.pointer (some ⟨w.heap.size, 5, none⟩))) hHeld ?_ ?_
    · intro w9 hSw
      try dsimp only at hSw
      go_simp
    try simp only [qpu]
    refine qtk (i := 2) (oi := fyp12o8) (v := (.pointer (some ⟨w.heap.size, 6, none⟩))) hHeld ?_ ?_
    · intro w9 hSw
      try dsimp only at hSw
      go_simp
    try simp only [qpu]
    refine qtk (i := 3) (oi := fyp12o14) (v := (.bool false)) hHeld ?_ ?_
    · intro w9 hSw
      try dsimp only at hSw
      have hcc := hSw.1.cell 6 (.bool false) rfl
      go_simp
    try simp only [qpu]
    refine qtk (i := 4) (oi := fyp12o15) (v := (.bool false)) hHeld ?_ ?_
    · intro w9 hSw
      try dsimp only at hSw
      go_simp
    try simp only [qpu]
    refine qtn (i := 5) (oi := fyp12o9) hHeld ?_
    try simp only [qpu]
    refine qtn (i := 6) (oi := fyp12o2) hHeld ?_
    try simp only [qpu]
    refine qtn (i := 7) (oi := fyp12o12) hHeld ?_
    try simp only [qpu]
    refine qtn (i := 8) (oi := fyp12o10) hHeld ?_
    try simp only [qpu]
    refine qtn (i := 9) (oi := fyp12o4) hHeld ?_
    try simp only [qpu]
    refine qtn (i := 10) (oi := fyp12o7) hHeld ?_
    try simp only [qpu]
    refine qtn (i := 11) (oi := fyp12o13) hHeld ?_
    try simp only [qpu]
    refine qtn (i := 12) (oi := fyp12o11) hHeld ?_
    try simp only [qpu]
    refine qtn (i := 13) (oi := fyp12o3) hHeld ?_
    try simp only [qpu]
    refine qtn (i := 14) (oi := fyp12o6) hHeld ?_
    try simp only [qpu]
    refine qtn (i := 15) (oi := fyp12o1) hHeld ?_
    try simp only [qpu]
    refine qtk (i := 16) (oi := fyp12o5) (v := (.bool false)) hHeld ?_ ?_
    · intro w9 hSw
      try dsimp only at hSw
      go_simp
    try simp only [qpu]
    refine qtk (i := 17) (oi := fyp12o0) (v := (.bool false)) hHeld ?_ ?_
    · intro w9 hSw
      try dsimp only at hSw
      go_simp
    try simp only [qpu]
    refine wpAnyH_done (by kernel_rfl) ?_ _
    refine NoPanic.normal ?_
    go_wp2
    go_ret
    exact ⟨retB_tc (by rw [← HV.out]; rfl), bd⟩

  | true =>
    have Cd := C2.drew
    have Gd := G2.drew
    have bd := b2.drew
    refine wp_region_noPanic ?_
    refine wp_region_held_drew (S := fun w' => Blk w' w.heap.size 31 (Cn.v ⟨st, n0, n1, e0, e1, k0, true, d0, d1⟩) ∧ Blk w' W1.heap.size 110 g.v) (by kernel_rfl) (by exact ⟨Cd, Gd⟩) (fun hHeld => ?_)
    refine qtk (i := 0) (oi := fyp12o17) (v := (.int .i64 1)) hHeld ?_ ?_
    · intro w9 hSw
      try dsimp only at hSw
      go_simp
    try simp only [qpu]
    refine qtk (i := 1) (oi := fyp12o16) (v := (.pointer (some ⟨w.heap.size, 5, none⟩))) hHeld ?_ ?_
    · intro w9 hSw
      try dsimp only at hSw
      go_simp
    try simp only [qpu]
    refine qtk (i := 2) (oi := fyp12o8) (v := (.pointer (some ⟨w.heap.size, 6, none⟩))) hHeld ?_ ?_
    · intro w9 hSw
      try dsimp only at hSw
      go_simp
    try simp only [qpu]
    refine qtk (i := 3) (oi := fyp12o14) (v := (.bool true)) hHeld ?_ ?_
    · intro w9 hSw
      try dsimp only at hSw
      have hcc := hSw.1.cell 6 (.bool true) rfl
      go_simp
    try simp only [qpu]
    refine qtk (i := 4) (oi := fyp12o15) (v := (.bool true)) hHeld ?_ ?_
    · intro w9 hSw
      try dsimp only at hSw
      go_simp
    try simp only [qpu]
    refine qty (i := 5) (oi := fyp12o9) (v := (.agg g.v)) (yieldsIf_blk_w (by kernel_rfl) _ _ rfl W1.heap.size (by rfl) _ (fun _ hSw => hSw.2) Try.underlying110 (by kernel_rfl)) hHeld ?_
    try simp only [qpu]
    refine qtk (i := 7) (oi := fyp12o12) (v := (.int .i64 1)) hHeld ?_ ?_
    · intro w9 hSw
      try dsimp only at hSw
      go_simp
    try simp only [qpu]
    refine qtk (i := 8) (oi := fyp12o10) (v := (.pointer (some ⟨w.heap.size, 1, none⟩))) hHeld ?_ ?_
    · intro w9 hSw
      try dsimp only at hSw
      go_simp
    try simp only [qpu]
    refine qtk (i := 9) (oi := fyp12o4) (v := (.pointer (some ⟨w.heap.size, 2, none⟩))) hHeld ?_ ?_
    · intro w9 hSw
      try dsimp only at hSw
      go_simp
    try simp only [qpu]
    refine qtk (i := 10) (oi := fyp12o7) (v := (.int .u32 n1)) hHeld ?_ ?_
    · intro w9 hSw
      try dsimp only at hSw
      have hcc := hSw.1.cell 2 (.int .u32 n1) rfl
      go_simp
    try simp only [qpu]
    refine qtk (i := 11) (oi := fyp12o13) (v := (.int .i64 1)) hHeld ?_ ?_
    · intro w9 hSw
      try dsimp only at hSw
      go_simp
    try simp only [qpu]
    refine qtk (i := 12) (oi := fyp12o11) (v := (.pointer (some ⟨w.heap.size, 3, none⟩))) hHeld ?_ ?_
    · intro w9 hSw
      try dsimp only at hSw
      go_simp
    try simp only [qpu]
    refine qtk (i := 13) (oi := fyp12o3) (v := (.pointer (some ⟨w.heap.size, 4, none⟩))) hHeld ?_ ?_
    · intro w9 hSw
      try dsimp only at hSw
      go_simp
    try simp only [qpu]
    refine qtk (i := 14) (oi := fyp12o6) (v := (.int .u32 e1)) hHeld ?_ ?_
    · intro w9 hSw
      try dsimp only at hSw
      have hcc := hSw.1.cell 4 (.int .u32 e1) rfl
      go_simp
    try simp only [qpu]
    refine wpAnyH_ready (rs := [6]) (by kernel_rfl) (by simp) ?_
    refine AllReadyH.cons (o := fyp12o2) rfl (fun K hK => ?_) AllReadyH.nil
    go_simp
    refine Calls.mono (KE.out _) ?_
    rintro e Wx1 ⟨rfl, bb⟩
    have Cx1 := Cd.kept bb
    have Gx1 := Gd.kept bb
    have bx1 := bel_tr bd bb
    clear bb
    refine hK.out _ _ (by exact ⟨Cx1, Gx1⟩) (fun hHeld => ?_)
    clear hK K
    try simp only [qpu]
    refine wpAnyH_ready (rs := [15]) (by kernel_rfl) (by simp) ?_
    refine AllReadyH.cons (o := fyp12o1) rfl (fun K hK => ?_) AllReadyH.nil
    go_simp
    refine Calls.mono (KW.out _) ?_
    rintro e Wx2 ⟨rfl, bb⟩
    have Cx2 := Cx1.kept bb
    have Gx2 := Gx1.kept bb
    have bx2 := bel_tr bx1 bb
    clear bb
    refine hK.out _ _ (by exact ⟨Cx2, Gx2⟩) (fun hHeld => ?_)
    clear hK K
    try simp only [qpu]
    refine qtk (i := 16) (oi := fyp12o5) (v := (.bool P)) hHeld ?_ ?_
    · intro w9 hSw
      try dsimp only at hSw
      go_simp
    try simp only [qpu]
    refine qtk (i := 17) (oi := fyp12o0) (v := (.bool P)) hHeld ?_ ?_
    · intro w9 hSw
      try dsimp only at hSw
      go_simp
    try simp only [qpu]
    refine wpAnyH_done (by kernel_rfl) ?_ _
    refine NoPanic.normal ?_
    go_wp2
    go_ret
    exact ⟨retB_tc (by rw [← HV.out]; rfl), bx2⟩
end Go.Proofs.Ytmjjdbkipagkbaa
