/- Texts joined: TcE -/
import Derived.Test.YtmjjdbkipagkbaaFyp12
namespace Go.Proofs.Ytmjjdbkipagkbaa
abbrev fyp14o0 : Oper := { dst := none, op := Op.store 31 (.tmp 6) (.tmp 26), type := 0, pos := "tcp.go:122", after := #[{ on := 0, ground := Ground.data }, { on := 9, ground := Ground.chain }, { on := 0, ground := Ground.phase }, { on := 1, ground := Ground.textOnly Departure.lateStores }, { on := 2, ground := Ground.textOnly Departure.lateStores }, { on := 3, ground := Ground.textOnly Departure.lateStores }, { on := 4, ground := Ground.textOnly Departure.lateStores }, { on := 5, ground := Ground.textOnly Departure.lateStores }, { on := 6, ground := Ground.textOnly Departure.lateStoresUnsure }, { on := 7, ground := Ground.textOnly Departure.lateStores }, { on := 8, ground := Ground.textOnly Departure.lateStores }, { on := 9, ground := Ground.textOnly Departure.lateStores }, { on := 10, ground := Ground.textOnly Departure.lateStores }, { on := 11, ground := Ground.textOnly Departure.lateStores }], guard := none }
abbrev fyp14o1 : Oper := { dst := some 7, op := Op.assign (.tmp 37), type := 4, pos := "tcp.go:122", after := #[{ on := 11, ground := Ground.data }, { on := 12, ground := Ground.chain }, { on := 0, ground := Ground.phase }, { on := 1, ground := Ground.phase }, { on := 2, ground := Ground.phase }, { on := 3, ground := Ground.phase }, { on := 4, ground := Ground.phase }, { on := 5, ground := Ground.phase }, { on := 6, ground := Ground.phase }, { on := 7, ground := Ground.phase }, { on := 8, ground := Ground.phase }, { on := 9, ground := Ground.phase }, { on := 10, ground := Ground.phase }, { on := 11, ground := Ground.phase }, { on := 12, ground := Ground.phase }], guard := none }
abbrev fyp14o2 : Oper := { dst := none, op := Op.store 28 (.tmp 21) (.tmp 20), type := 0, pos := "tcp.go:138", after := #[{ on := 9, ground := Ground.data }, { on := 8, ground := Ground.data }, { on := 3, ground := Ground.chain }, { on := 0, ground := Ground.phase }, { on := 1, ground := Ground.phase }, { on := 2, ground := Ground.phase }, { on := 3, ground := Ground.phase }, { on := 4, ground := Ground.phase }, { on := 5, ground := Ground.phase }, { on := 6, ground := Ground.phase }, { on := 7, ground := Ground.phase }, { on := 8, ground := Ground.phase }], guard := none }
abbrev fyp14o3 : Oper := { dst := some 21, op := Op.fieldAddr 31 (.tmp 2) 2, type := 0, pos := "tcp.go:138", after := #[{ on := 0, ground := Ground.phase }, { on := 1, ground := Ground.phase }, { on := 2, ground := Ground.phase }, { on := 3, ground := Ground.phase }, { on := 4, ground := Ground.phase }, { on := 5, ground := Ground.phase }, { on := 6, ground := Ground.phase }, { on := 7, ground := Ground.phase }, { on := 8, ground := Ground.phase }], guard := none }
abbrev fyp14o4 : Oper := { dst := some 8, op := Op.assign (.tmp 23), type := 4, pos := "tcp.go:120", after := #[{ on := 6, ground := Ground.data }, { on := 1, ground := Ground.chain }, { on := 0, ground := Ground.phase }, { on := 1, ground := Ground.phase }, { on := 2, ground := Ground.phase }, { on := 3, ground := Ground.phase }, { on := 4, ground := Ground.phase }, { on := 5, ground := Ground.phase }, { on := 6, ground := Ground.phase }], guard := none }
abbrev fyp14o5 : Oper := { dst := some 37, op := Op.pick (.tmp 35) (.tmp 36) (.const (.bool false)), type := 4, pos := "tcp.go:122", after := #[{ on := 9, ground := Ground.data }, { on := 10, ground := Ground.data }, { on := 12, ground := Ground.gcOnly Departure.lateStores }], guard := none }
abbrev fyp14o6 : Oper := { dst := some 15, op := Op.call { callee := Callee.value (.func 108), args := #[.tmp 14], argTypes := #[110] }, type := 27, pos := "tcp.go:138", after := #[{ on := 2, ground := Ground.data }, { on := 1, ground := Ground.chain }], guard := none }
abbrev fyp14o7 : Oper := { dst := some 32, op := Op.call { callee := Callee.value (.func 97), args := #[.tmp 31, .const (.int .i64 16)], argTypes := #[110, 3] }, type := 4, pos := "tcp.go:122", after := #[{ on := 5, ground := Ground.data }, { on := 4, ground := Ground.chain }, { on := 4, ground := Ground.guard }], guard := some (4, true) }
abbrev fyp14o8 : Oper := { dst := some 19, op := Op.binOp BinOp.add 27 (.tmp 15) (.tmp 18) 27, type := 27, pos := "tcp.go:138", after := #[{ on := 3, ground := Ground.data }, { on := 6, ground := Ground.data }], guard := none }
abbrev fyp14o9 : Oper := { dst := some 20, op := Op.build 28 #[(0, .tmp 13), (1, .tmp 19)], type := 28, pos := "tcp.go:138", after := #[{ on := 1, ground := Ground.data }, { on := 7, ground := Ground.data }], guard := none }
abbrev fyp14o10 : Oper := { dst := some 36, op := Op.move (.tmp 8), type := 4, pos := "tcp.go:122", after := #[{ on := 9, ground := Ground.guard }, { on := 12, ground := Ground.gcOnly Departure.lateStores }], guard := some (9, true) }
abbrev fyp14o11 : Oper := { dst := some 34, op := Op.pick (.tmp 30) (.tmp 33) (.const (.bool false)), type := 4, pos := "tcp.go:122", after := #[{ on := 4, ground := Ground.data }, { on := 7, ground := Ground.data }], guard := none }
abbrev fyp14o12 : Oper := { dst := some 33, op := Op.unOp UnOp.not 4 (.tmp 32), type := 4, pos := "tcp.go:122", after := #[{ on := 6, ground := Ground.data }, { on := 4, ground := Ground.guard }], guard := some (4, true) }
abbrev fyp14o13 : Oper := { dst := some 35, op := Op.move (.tmp 34), type := 4, pos := "tcp.go:122", after := #[{ on := 8, ground := Ground.data }, { on := 6, ground := Ground.chain }], guard := none }
abbrev fyp14o14 : Oper := { dst := some 13, op := Op.call { callee := Callee.value (.func 112), args := #[.tmp 12], argTypes := #[110] }, type := 27, pos := "tcp.go:138", after := #[{ on := 0, ground := Ground.data }], guard := none }
abbrev fyp14o15 : Oper := { dst := some 18, op := Op.load 27 (.tmp 17), type := 27, pos := "tcp.go:138", after := #[{ on := 5, ground := Ground.data }], guard := none }
abbrev fyp14o16 : Oper := { dst := some 18, op := Op.call { callee := Callee.value (.func 108), args := #[.tmp 17], argTypes := #[110] }, type := 27, pos := "tcp.go:120", after := #[{ on := 0, ground := Ground.data }], guard := none }
abbrev fyp14o17 : Oper := { dst := some 23, op := Op.binOp BinOp.eql 27 (.tmp 18) (.tmp 22) 27, type := 4, pos := "tcp.go:120", after := #[{ on := 1, ground := Ground.data }, { on := 5, ground := Ground.data }], guard := none }
abbrev fyp14o18 : Oper := { dst := some 21, op := Op.indexAddr 28 (.tmp 20) (.tmp 19), type := 0, pos := "tcp.go:120", after := #[{ on := 3, ground := Ground.data }, { on := 2, ground := Ground.data }], guard := none }
abbrev fyp14o19 : Oper := { dst := some 29, op := Op.binOp BinOp.eql 3 (.tmp 28) (.const (.int .i64 1)) 3, type := 4, pos := "tcp.go:122", after := #[{ on := 2, ground := Ground.data }], guard := none }
abbrev fyp14o20 : Oper := { dst := some 31, op := Op.load 110 (.tmp 5), type := 110, pos := "tcp.go:122", after := #[{ on := 4, ground := Ground.guard }], guard := some (4, true) }
abbrev fyp14o21 : Oper := { dst := some 22, op := Op.load 27 (.tmp 21), type := 27, pos := "tcp.go:120", after := #[{ on := 4, ground := Ground.data }], guard := none }
abbrev fyp14o22 : Oper := { dst := some 28, op := Op.load 3 (.tmp 27), type := 3, pos := "tcp.go:122", after := #[{ on := 1, ground := Ground.data }], guard := none }
abbrev fyp14o23 : Oper := { dst := some 30, op := Op.move (.tmp 29), type := 4, pos := "tcp.go:122", after := #[{ on := 3, ground := Ground.data }], guard := none }
abbrev fyp14o24 : Oper := { dst := some 17, op := Op.load 110 (.tmp 5), type := 110, pos := "tcp.go:120", after := #[], guard := none }
abbrev fyp14o25 : Oper := { dst := some 26, op := Op.load 31 (.tmp 3), type := 31, pos := "tcp.go:122", after := #[], guard := none }
abbrev fyp14o26 : Oper := { dst := some 20, op := Op.fieldAddr 31 (.tmp 3) 1, type := 0, pos := "tcp.go:120", after := #[], guard := none }
abbrev fyp14o27 : Oper := { dst := some 27, op := Op.fieldAddr 31 (.tmp 3) 0, type := 0, pos := "tcp.go:122", after := #[], guard := none }
abbrev fyp14o28 : Oper := { dst := some 19, op := Op.move (.tmp 1), type := 3, pos := "tcp.go:120", after := #[], guard := none }
end Go.Proofs.Ytmjjdbkipagkbaa
namespace Go.Proofs.Ytmjjdbkipagkbaa
open Go.RowKit
set_option linter.unusedVariables false
set_option linter.unusedSimpArgs false
set_option maxRecDepth 100000 in
set_option maxHeartbeats 4000000 in
theorem answered_tc (c : Cn) (g : Gt) (w : World) :
    Calls Try.prog 109 #[.agg c.v, .agg g.v] w fun e w' => e = .returned (.agg (c.ans g).v) ∧ Below w.heap.size w w' := by
  have HR : Hid ((c.ans g).v = Cn.v ⟨2, c.n0, g.e, g.lim, (g.e + c.e1) % 4294967296, c.k0, true, c.d0, c.d1⟩) := rfl
  generalize (c.ans g).v = R at *
  have KE : Hid (∀ W, Calls Try.prog 108 #[.agg g.v] W fun e w' => e = .returned (.int .u32 g.e) ∧ Below W.heap.size W w') := fun W => end_tc g W
  have KL : Hid (∀ W, Calls Try.prog 112 #[.agg g.v] W fun e w' => e = .returned (.int .u32 g.lim) ∧ Below W.heap.size W w') := fun W => limit_tc g W
  generalize hE : g.e = E at *
  generalize hL : g.lim = L at *
  clear hE hL
  obtain ⟨st, n0, n1, e0, e1, k0, k1, d0, d1⟩ := c
  dsimp only at *
  obtain ⟨W1, hW1⟩ : ∃ W, w.alloc (.cells (Cn.v ⟨st, n0, n1, e0, e1, k0, k1, d0, d1⟩) 31) = W := ⟨_, rfl⟩
  have b1 := bel_nw hW1
  have C1 := blk_nw hW1
  have g1 := C1.lt
  obtain ⟨W2, hW2⟩ : ∃ W, W1.alloc (.cells g.v 110) = W := ⟨_, rfl⟩
  have b2 := bel_al b1 hW2
  have C2 := C1.al hW2
  have G2 := blk_nw hW2
  have g2 := G2.lt
  obtain ⟨W3, hW3⟩ : ∃ W, W2.alloc (.cells #[.int .i64 0, .int .u32 0, .int .u32 0, .int .u32 0, .int .u32 0, .bool false, .bool false, .bool false, .bool false] 31) = W := ⟨_, rfl⟩
  have b3 := bel_al b2 hW3
  have C3 := C2.al hW3
  have G3 := G2.al hW3
  have Z3 := blk_nw hW3
  have nCG : w.heap.size ≠ W1.heap.size := by omega
  have nGC : W1.heap.size ≠ w.heap.size := by omega
  have nCZ : w.heap.size ≠ W2.heap.size := by omega
  have nGZ : W1.heap.size ≠ W2.heap.size := by omega
  have nZC : W2.heap.size ≠ w.heap.size := by omega
  have gZ : w.heap.size ≤ W2.heap.size := by omega
  have gG : w.heap.size ≤ W1.heap.size := by omega
  clear b1 b2 C1 C2 G2 g1 g2
  go_enter Try.func109, Try.ntmps109
  have y0 := C3.cell 0 (.int .i64 st) rfl
  have z0 := C3.frozen 0
  obtain ⟨W4, hW4⟩ : ∃ W, W3.setCell ⟨w.heap.size, 0, none⟩ (.int .i64 2) = W := ⟨_, rfl⟩
  have C4 : Blk W4 w.heap.size 31 (Cn.v ⟨2, n0, n1, e0, e1, k0, k1, d0, d1⟩) := hW4 ▸ C3.put 0 (.int .i64 2)
  have G4 := hW4 ▸ G3.put_other C3 nGC 0 (.int .i64 2)
  have Z4 := hW4 ▸ Z3.put_other C3 nZC 0 (.int .i64 2)
  have b4 := hW4 ▸ b3.setCell (p := ⟨w.heap.size, 0, none⟩) (Nat.le_refl _) (.int .i64 2)
  have y6 := C4.cell 6 (.bool k1) rfl
  have z6 := C4.frozen 6
  obtain ⟨W5, hW5⟩ : ∃ W, W4.setCell ⟨w.heap.size, 6, none⟩ (.bool true) = W := ⟨_, rfl⟩
  have C5 : Blk W5 w.heap.size 31 (Cn.v ⟨2, n0, n1, e0, e1, k0, true, d0, d1⟩) := hW5 ▸ C4.put 6 (.bool true)
  have G5 := hW5 ▸ G4.put_other C4 nGC 6 (.bool true)
  have Z5 := hW5 ▸ Z4.put_other C4 nZC 6 (.bool true)
  have b5 := hW5 ▸ b4.setCell (p := ⟨w.heap.size, 6, none⟩) (Nat.le_refl _) (.bool true)
  go_wp2_with (first | (refine wpList_load_blk_w (by rfl) _ _ rfl w.heap.size (by rfl) _ C5 Try.underlying31 (by kernel_rfl) ?_) | (refine wpList_load_blk_w (by rfl) _ _ rfl W1.heap.size (by rfl) _ G5 Try.underlying110 (by kernel_rfl) ?_))
  clear y0 z0 y6 z6
  refine Calls.mono (KE.out _) ?_
  rintro e W6 ⟨rfl, bb⟩
  have C6 := C5.kept bb
  have G6 := G5.kept bb
  have Z6 := Z5.kept bb
  have b6 := bel_tr b5 bb
  clear bb
  clear C5 G5 Z5 b5
  clear C4 G4 Z4 b4 C3 G3 Z3 b3
  have y2 := C6.cell 2 (.int .u32 n1) rfl
  have z2 := C6.frozen 2
  obtain ⟨W7, hW7⟩ : ∃ W, W6.setCell ⟨w.heap.size, 2, none⟩ (.int .u32 E) = W := ⟨_, rfl⟩
  have C7 : Blk W7 w.heap.size 31 (Cn.v ⟨2, n0, E, e0, e1, k0, true, d0, d1⟩) := hW7 ▸ C6.put 2 (.int .u32 E)
  have G7 := hW7 ▸ G6.put_other C6 nGC 2 (.int .u32 E)
  have Z7 := hW7 ▸ Z6.put_other C6 nZC 2 (.int .u32 E)
  have b7 := hW7 ▸ b6.setCell (p := ⟨w.heap.size, 2, none⟩) (Nat.le_refl _) (.int .u32 E)
  go_wp2_with fail
  have Gd := G7.drew
  have Cd := C7.drew
  have Zd := Z7.drew
  have bd := b7.drew
  refine wp_region_noPanic ?_
  refine wp_region_held_drew (S := fun w' => Blk w' W1.heap.size 110 g.v) (by kernel_rfl) (by exact Gd) (fun hHeld => ?_)
  refine qty (i := 0) (oi := { dst := some 12, op := Op.load 110 (.tmp 3), type := 110, pos := "tcp.go:138", after := #[], guard := none }) (v := (.agg g.v)) (yieldsIf_blk_w (by kernel_rfl) _ _ rfl W1.heap.size (by rfl) _ (fun _ hSw => hSw) Try.underlying110 (by kernel_rfl)) hHeld ?_
  try simp only [qpu]
  refine qty (i := 2) (oi := { dst := some 14, op := Op.load 110 (.tmp 3), type := 110, pos := "tcp.go:138", after := #[], guard := none }) (v := (.agg g.v)) (yieldsIf_blk_w (by kernel_rfl) _ _ rfl W1.heap.size (by rfl) _ (fun _ hSw => hSw) Try.underlying110 (by kernel_rfl)) hHeld ?_
  try simp only [qpu]
  refine qtk (i := 4) (oi := { dst := some 16, op := Op.fieldAddr 31 (.tmp 2) 2, type := 0, pos := "tcp.go:138", after := #[], guard := none }) (v := (.pointer (some ⟨w.heap.size, 3, none⟩))) hHeld ?_ ?_
  · intro w9 hSw
    try dsimp only at hSw
    go_simp
  try simp only [qpu]
  refine qtk (i := 5) (oi := { dst := some 17, op := Op.indexAddr 28 (.tmp 16) (.const (.int .i64 1)), type := 0, pos := "tcp.go:138", after := #[{ on := 4, ground := Ground.data }], guard := none }) (v := (.pointer (some ⟨w.heap.size, 4, none⟩))) hHeld ?_ ?_
  · intro w9 hSw
    try dsimp only at hSw
    go_simp
  try simp only [qpu]
  refine wpAnyH_ready (rs := [1, 6]) (by kernel_rfl) (by simp) ?_
  refine AllReadyH.cons (o := fyp14o14) rfl (fun K hK => ?_) (AllReadyH.cons (o := fyp14o15) rfl (fun K hK => ?_) AllReadyH.nil)
  · go_simp
    refine Calls.mono (KL.out _) ?_
    rintro e Wx1 ⟨rfl, bb⟩
    have Gx1 := Gd.kept bb
    have Cx1 := Cd.kept bb
    have Zx1 := Zd.kept bb
    have bx1 := bel_tr bd bb
    clear bb
    refine hK.out _ _ (by exact Gx1) (fun hHeld => ?_)
    clear hK K
    try simp only [qpu]
    refine wpAnyH_ready (rs := [3, 6]) (by kernel_rfl) (by simp) ?_
    refine AllReadyH.cons (o := fyp14o6) rfl (fun K hK => ?_) (AllReadyH.cons (o := fyp14o15) rfl (fun K hK => ?_) AllReadyH.nil)
    · go_simp
      refine Calls.mono (KE.out _) ?_
      rintro e Wx2 ⟨rfl, bb⟩
      have Gx2 := Gx1.kept bb
      have Cx2 := Cx1.kept bb
      have Zx2 := Zx1.kept bb
      have bx2 := bel_tr bx1 bb
      clear bb
      refine hK.out _ _ (by exact Gx2) (fun hHeld => ?_)
      clear hK K
      try simp only [qpu]
      refine wpAnyH_ready (rs := [6]) (by kernel_rfl) (by simp) ?_
      refine AllReadyH.cons (o := fyp14o15) rfl (fun K hK => ?_) AllReadyH.nil
      have hcc := Cx2.cell 4 (.int .u32 e1) rfl
      go_simp
      refine hK.out _ _ (by exact Gx2) (fun hHeld => ?_)
      clear hK K hcc
      try simp only [qpu]
      refine qtk (i := 7) (oi := fyp14o8) (v := (.int .u32 ((E + e1) % 4294967296))) hHeld ?_ ?_
      · intro w9 hSw
        try dsimp only at hSw
        go_simp
        try rw [IntKind.wrap_u32]
      try simp only [qpu]
      refine qtk (i := 8) (oi := fyp14o9) (v := (.agg #[.int .u32 L, .int .u32 ((E + e1) % 4294967296)])) hHeld ?_ ?_
      · intro w9 hSw
        try dsimp only at hSw
        go_simp
      try simp only [qpu]
      refine qtk (i := 9) (oi := fyp14o3) (v := (.pointer (some ⟨w.heap.size, 3, none⟩))) hHeld ?_ ?_
      · intro w9 hSw
        try dsimp only at hSw
        go_simp
      try simp only [qpu]
      refine wpAnyH_ready (rs := [10]) (by kernel_rfl) (by simp) ?_
      refine AllReadyH.cons (o := fyp14o2) rfl (fun K hK => ?_) AllReadyH.nil
      have y3 := Cx2.cell 3 (.int .u32 e0) rfl
      have y4 := Cx2.cell 4 (.int .u32 e1) rfl
      have z3 := Cx2.frozen 3
      have z4 := Cx2.frozen 4
      have Cx2s : Blk ((Wx2.setCell ⟨w.heap.size, 3, none⟩ (.int .u32 L)).setCell ⟨w.heap.size, 4, none⟩ (.int .u32 ((E + e1) % 4294967296))) w.heap.size 31 (Cn.v ⟨2, n0, E, L, ((E + e1) % 4294967296), k0, true, d0, d1⟩) := (Cx2.put 3 (.int .u32 L)).put 4 (.int .u32 ((E + e1) % 4294967296))
      have Gx2s := (Gx2.put_other Cx2 nGC 3 (.int .u32 L)).put_other (Cx2.put 3 (.int .u32 L)) nGC 4 (.int .u32 ((E + e1) % 4294967296))
      have Zx2s := (Zx2.put_other Cx2 nZC 3 (.int .u32 L)).put_other (Cx2.put 3 (.int .u32 L)) nZC 4 (.int .u32 ((E + e1) % 4294967296))
      have bx2s := (bx2.setCell (p := ⟨w.heap.size, 3, none⟩) (Nat.le_refl _) (.int .u32 L)).setCell (p := ⟨w.heap.size, 4, none⟩) (Nat.le_refl _) (.int .u32 ((E + e1) % 4294967296))
      go_simp
      refine hK.out _ _ (by exact Gx2s) (fun hHeld => ?_)
      clear hK K y3 y4 z3 z4
      try simp only [qpu]
      refine wpAnyH_done (by kernel_rfl) ?_ _
      refine NoPanic.normal ?_
      have Zf := Zx2s.set (Cn.v ⟨2, n0, E, L, ((E + e1) % 4294967296), k0, true, d0, d1⟩)
      have bf := below_setRow bx2s gZ (Cn.v ⟨2, n0, E, L, ((E + e1) % 4294967296), k0, true, d0, d1⟩)
      go_wp2_with (first | (refine wpList_load_blk_w (by rfl) _ _ rfl w.heap.size (by rfl) _ Cx2s Try.underlying31 (by kernel_rfl) ?_) | (refine wpList_store_row rfl _ _ _ rfl W2.heap.size (Cn.v ⟨2, n0, E, L, ((E + e1) % 4294967296), k0, true, d0, d1⟩) (by rfl) (by rfl) _ _ Zx2s (by kernel_rfl) (by rfl) (by kernel_rfl) ?_))
      exact ret_cell (k := 4) Try.f109 (by kernel_rfl) Zf Try.underlying31 (by kernel_rfl) (by rfl) rfl ⟨by rw [HR.out], bf⟩
    · have hcc := Cx1.cell 4 (.int .u32 e1) rfl
      go_simp
      refine hK.out _ _ (by exact Gx1) (fun hHeld => ?_)
      clear hK K hcc
      try simp only [qpu]
      refine wpAnyH_ready (rs := [3]) (by kernel_rfl) (by simp) ?_
      refine AllReadyH.cons (o := fyp14o6) rfl (fun K hK => ?_) AllReadyH.nil
      go_simp
      refine Calls.mono (KE.out _) ?_
      rintro e Wx3 ⟨rfl, bb⟩
      have Gx3 := Gx1.kept bb
      have Cx3 := Cx1.kept bb
      have Zx3 := Zx1.kept bb
      have bx3 := bel_tr bx1 bb
      clear bb
      refine hK.out _ _ (by exact Gx3) (fun hHeld => ?_)
      clear hK K
      try simp only [qpu]
      refine qtk (i := 7) (oi := fyp14o8) (v := (.int .u32 ((E + e1) % 4294967296))) hHeld ?_ ?_
      · intro w9 hSw
        try dsimp only at hSw
        go_simp
        try rw [IntKind.wrap_u32]
      try simp only [qpu]
      refine qtk (i := 8) (oi := fyp14o9) (v := (.agg #[.int .u32 L, .int .u32 ((E + e1) % 4294967296)])) hHeld ?_ ?_
      · intro w9 hSw
        try dsimp only at hSw
        go_simp
      try simp only [qpu]
      refine qtk (i := 9) (oi := fyp14o3) (v := (.pointer (some ⟨w.heap.size, 3, none⟩))) hHeld ?_ ?_
      · intro w9 hSw
        try dsimp only at hSw
        go_simp
      try simp only [qpu]
      refine wpAnyH_ready (rs := [10]) (by kernel_rfl) (by simp) ?_
      refine AllReadyH.cons (o := fyp14o2) rfl (fun K hK => ?_) AllReadyH.nil
      have y3 := Cx3.cell 3 (.int .u32 e0) rfl
      have y4 := Cx3.cell 4 (.int .u32 e1) rfl
      have z3 := Cx3.frozen 3
      have z4 := Cx3.frozen 4
      have Cx3s : Blk ((Wx3.setCell ⟨w.heap.size, 3, none⟩ (.int .u32 L)).setCell ⟨w.heap.size, 4, none⟩ (.int .u32 ((E + e1) % 4294967296))) w.heap.size 31 (Cn.v ⟨2, n0, E, L, ((E + e1) % 4294967296), k0, true, d0, d1⟩) := (Cx3.put 3 (.int .u32 L)).put 4 (.int .u32 ((E + e1) % 4294967296))
      have Gx3s := (Gx3.put_other Cx3 nGC 3 (.int .u32 L)).put_other (Cx3.put 3 (.int .u32 L)) nGC 4 (.int .u32 ((E + e1) % 4294967296))
      have Zx3s := (Zx3.put_other Cx3 nZC 3 (.int .u32 L)).put_other (Cx3.put 3 (.int .u32 L)) nZC 4 (.int .u32 ((E + e1) % 4294967296))
      have bx3s := (bx3.setCell (p := ⟨w.heap.size, 3, none⟩) (Nat.le_refl _) (.int .u32 L)).setCell (p := ⟨w.heap.size, 4, none⟩) (Nat.le_refl _) (.int .u32 ((E + e1) % 4294967296))
      go_simp
      refine hK.out _ _ (by exact Gx3s) (fun hHeld => ?_)
      clear hK K y3 y4 z3 z4
      try simp only [qpu]
      refine wpAnyH_done (by kernel_rfl) ?_ _
      refine NoPanic.normal ?_
      have Zf := Zx3s.set (Cn.v ⟨2, n0, E, L, ((E + e1) % 4294967296), k0, true, d0, d1⟩)
      have bf := below_setRow bx3s gZ (Cn.v ⟨2, n0, E, L, ((E + e1) % 4294967296), k0, true, d0, d1⟩)
      go_wp2_with (first | (refine wpList_load_blk_w (by rfl) _ _ rfl w.heap.size (by rfl) _ Cx3s Try.underlying31 (by kernel_rfl) ?_) | (refine wpList_store_row rfl _ _ _ rfl W2.heap.size (Cn.v ⟨2, n0, E, L, ((E + e1) % 4294967296), k0, true, d0, d1⟩) (by rfl) (by rfl) _ _ Zx3s (by kernel_rfl) (by rfl) (by kernel_rfl) ?_))
      exact ret_cell (k := 4) Try.f109 (by kernel_rfl) Zf Try.underlying31 (by kernel_rfl) (by rfl) rfl ⟨by rw [HR.out], bf⟩
  · have hcc := Cd.cell 4 (.int .u32 e1) rfl
    go_simp
    refine hK.out _ _ (by exact Gd) (fun hHeld => ?_)
    clear hK K hcc
    try simp only [qpu]
    refine wpAnyH_ready (rs := [1]) (by kernel_rfl) (by simp) ?_
    refine AllReadyH.cons (o := fyp14o14) rfl (fun K hK => ?_) AllReadyH.nil
    go_simp
    refine Calls.mono (KL.out _) ?_
    rintro e Wx4 ⟨rfl, bb⟩
    have Gx4 := Gd.kept bb
    have Cx4 := Cd.kept bb
    have Zx4 := Zd.kept bb
    have bx4 := bel_tr bd bb
    clear bb
    refine hK.out _ _ (by exact Gx4) (fun hHeld => ?_)
    clear hK K
    try simp only [qpu]
    refine wpAnyH_ready (rs := [3]) (by kernel_rfl) (by simp) ?_
    refine AllReadyH.cons (o := fyp14o6) rfl (fun K hK => ?_) AllReadyH.nil
    go_simp
    refine Calls.mono (KE.out _) ?_
    rintro e Wx5 ⟨rfl, bb⟩
    have Gx5 := Gx4.kept bb
    have Cx5 := Cx4.kept bb
    have Zx5 := Zx4.kept bb
    have bx5 := bel_tr bx4 bb
    clear bb
    refine hK.out _ _ (by exact Gx5) (fun hHeld => ?_)
    clear hK K
    try simp only [qpu]
    refine qtk (i := 7) (oi := fyp14o8) (v := (.int .u32 ((E + e1) % 4294967296))) hHeld ?_ ?_
    · intro w9 hSw
      try dsimp only at hSw
      go_simp
      try rw [IntKind.wrap_u32]
    try simp only [qpu]
    refine qtk (i := 8) (oi := fyp14o9) (v := (.agg #[.int .u32 L, .int .u32 ((E + e1) % 4294967296)])) hHeld ?_ ?_
    · intro w9 hSw
      try dsimp only at hSw
      go_simp
    try simp only [qpu]
    refine qtk (i := 9) (oi := fyp14o3) (v := (.pointer (some ⟨w.heap.size, 3, none⟩))) hHeld ?_ ?_
    · intro w9 hSw
      try dsimp only at hSw
      go_simp
    try simp only [qpu]
    refine wpAnyH_ready (rs := [10]) (by kernel_rfl) (by simp) ?_
    refine AllReadyH.cons (o := fyp14o2) rfl (fun K hK => ?_) AllReadyH.nil
    have y3 := Cx5.cell 3 (.int .u32 e0) rfl
    have y4 := Cx5.cell 4 (.int .u32 e1) rfl
    have z3 := Cx5.frozen 3
    have z4 := Cx5.frozen 4
    have Cx5s : Blk ((Wx5.setCell ⟨w.heap.size, 3, none⟩ (.int .u32 L)).setCell ⟨w.heap.size, 4, none⟩ (.int .u32 ((E + e1) % 4294967296))) w.heap.size 31 (Cn.v ⟨2, n0, E, L, ((E + e1) % 4294967296), k0, true, d0, d1⟩) := (Cx5.put 3 (.int .u32 L)).put 4 (.int .u32 ((E + e1) % 4294967296))
    have Gx5s := (Gx5.put_other Cx5 nGC 3 (.int .u32 L)).put_other (Cx5.put 3 (.int .u32 L)) nGC 4 (.int .u32 ((E + e1) % 4294967296))
    have Zx5s := (Zx5.put_other Cx5 nZC 3 (.int .u32 L)).put_other (Cx5.put 3 (.int .u32 L)) nZC 4 (.int .u32 ((E + e1) % 4294967296))
    have bx5s := (bx5.setCell (p := ⟨w.heap.size, 3, none⟩) (Nat.le_refl _) (.int .u32 L)).setCell (p := ⟨w.heap.size, 4, none⟩) (Nat.le_refl _) (.int .u32 ((E + e1) % 4294967296))
    go_simp
    refine hK.out _ _ (by exact Gx5s) (fun hHeld => ?_)
    clear hK K y3 y4 z3 z4
    try simp only [qpu]
    refine wpAnyH_done (by kernel_rfl) ?_ _
    refine NoPanic.normal ?_
    have Zf := Zx5s.set (Cn.v ⟨2, n0, E, L, ((E + e1) % 4294967296), k0, true, d0, d1⟩)
    have bf := below_setRow bx5s gZ (Cn.v ⟨2, n0, E, L, ((E + e1) % 4294967296), k0, true, d0, d1⟩)
    go_wp2_with (first | (refine wpList_load_blk_w (by rfl) _ _ rfl w.heap.size (by rfl) _ Cx5s Try.underlying31 (by kernel_rfl) ?_) | (refine wpList_store_row rfl _ _ _ rfl W2.heap.size (Cn.v ⟨2, n0, E, L, ((E + e1) % 4294967296), k0, true, d0, d1⟩) (by rfl) (by rfl) _ _ Zx5s (by kernel_rfl) (by rfl) (by kernel_rfl) ?_))
    exact ret_cell (k := 4) Try.f109 (by kernel_rfl) Zf Try.underlying31 (by kernel_rfl) (by rfl) rfl ⟨by rw [HR.out], bf⟩
set_option maxRecDepth 100000 in
set_option maxHeartbeats 4000000 in
theorem syn0_tc (c : Cn) (g : Gt) (w : World) :
    Calls Try.prog 99 #[.agg c.v, .int .i64 0, .agg g.v] w fun e w' => e = .returned (.tuple #[.agg ((c.syn false g).getD c).v, .bool (c.syn false g).isSome]) ∧ Below w.heap.size w w' := by
  obtain ⟨R, hR⟩ : ∃ R, c.syn false g = R := ⟨_, rfl⟩
  have HR : Hid ((if flB g.fl 1 || g.sz != 0 then none else (if c.st == 1 && (!flB g.fl 16 && g.e == c.n0) then some c else none)) = R) := hR
  rw [hR]
  clear hR
  have KF : Hid (∀ W, Calls Try.prog 97 #[.agg g.v, .int .i64 1] W fun e w' => e = .returned (.bool (flB g.fl 1)) ∧ Below W.heap.size W w') := fun W => has_tc g 1 W
  have KA : Hid (∀ W, Calls Try.prog 97 #[.agg g.v, .int .i64 16] W fun e w' => e = .returned (.bool (flB g.fl 16)) ∧ Below W.heap.size W w') := fun W => has_tc g 16 W
  have KE : Hid (∀ W, Calls Try.prog 108 #[.agg g.v] W fun e w' => e = .returned (.int .u32 g.e) ∧ Below W.heap.size W w') := fun W => end_tc g W
  generalize hX : (c.st == 1) = X at *
  generalize flB g.fl 16 = A at *
  generalize flB g.fl 1 = F at *
  generalize hN : (g.sz != 0) = N at *
  generalize hE : g.e = E at *
  generalize hQ : (E == c.n0) = Q at *
  clear hE
  obtain ⟨st, n0, n1, e0, e1, k0, k1, d0, d1⟩ := c
  dsimp only at *
  obtain ⟨W1, hW1⟩ : ∃ W, w.alloc (.cells (Cn.v ⟨st, n0, n1, e0, e1, k0, k1, d0, d1⟩) 31) = W := ⟨_, rfl⟩
  have b1 := bel_nw hW1
  have C1 := blk_nw hW1
  have g1 := C1.lt
  obtain ⟨W2, hW2⟩ : ∃ W, W1.alloc (.cells g.v 110) = W := ⟨_, rfl⟩
  have b2 := bel_al b1 hW2
  have C2 := C1.al hW2
  have G2 := blk_nw hW2
  have g2 := G2.lt
  obtain ⟨W3, hW3⟩ : ∃ W, W2.alloc (.cells #[.int .i64 0, .int .u32 0, .int .u32 0, .int .u32 0, .int .u32 0, .bool false, .bool false, .bool false, .bool false] 31) = W := ⟨_, rfl⟩
  have b3 := bel_al b2 hW3
  have C3 := C2.al hW3
  have G3 := G2.al hW3
  have Z3 := blk_nw hW3
  have nCG : w.heap.size ≠ W1.heap.size := by omega
  have nGC : W1.heap.size ≠ w.heap.size := by omega
  have nCZ : w.heap.size ≠ W2.heap.size := by omega
  have nGZ : W1.heap.size ≠ W2.heap.size := by omega
  have nZC : W2.heap.size ≠ w.heap.size := by omega
  have gZ : w.heap.size ≤ W2.heap.size := by omega
  have gG : w.heap.size ≤ W1.heap.size := by omega
  clear b1 b2 C1 C2 G2 g1 g2
  have g2 := G3.cell 2 (.int .i64 g.sz) rfl
  go_enter Try.func99, Try.ntmps99
  go_wp2_with (refine wpList_load_blk_w (by rfl) _ _ rfl W1.heap.size (by rfl) _ G3 Try.underlying110 (by kernel_rfl) ?_)
  refine Calls.mono (KF.out _) ?_
  rintro e W4 ⟨rfl, bb⟩
  have C4 := C3.kept bb
  have G4 := G3.kept bb
  have Z4 := Z3.kept bb
  have b4 := bel_tr b3 bb
  clear bb
  clear C3 G3 Z3 b3
  clear g2
  have g2 := G4.cell 2 (.int .i64 g.sz) rfl
  cases F with
  | false =>
    cases N with
    | false =>
      go_wp2_with fail
      have Cd := C4.drew
      have Gd := G4.drew
      have Zd := Z4.drew
      have bd := b4.drew
      refine wp_region_noPanic ?_
      refine wp_region_held_drew (S := fun w' => Blk w' w.heap.size 31 (Cn.v ⟨st, n0, n1, e0, e1, k0, k1, d0, d1⟩) ∧ Blk w' W1.heap.size 110 g.v) (by kernel_rfl) (by exact ⟨Cd, Gd⟩) (fun hHeld => ?_)
      refine qty (i := 0) (oi := fyp14o24) (v := (.agg g.v)) (yieldsIf_blk_w (by kernel_rfl) _ _ rfl W1.heap.size (by rfl) _ (fun _ hSw => hSw.2) Try.underlying110 (by kernel_rfl)) hHeld ?_
      try simp only [qpu]
      refine qtk (i := 2) (oi := fyp14o28) (v := (.int .i64 0)) hHeld ?_ ?_
      · intro w9 hSw
        try dsimp only at hSw
        go_simp
      try simp only [qpu]
      refine qtk (i := 3) (oi := fyp14o26) (v := (.pointer (some ⟨w.heap.size, 1, none⟩))) hHeld ?_ ?_
      · intro w9 hSw
        try dsimp only at hSw
        go_simp
      try simp only [qpu]
      refine qtk (i := 4) (oi := fyp14o18) (v := (.pointer (some ⟨w.heap.size, 1, none⟩))) hHeld ?_ ?_
      · intro w9 hSw
        try dsimp only at hSw
        go_simp
      try simp only [qpu]
      refine qtk (i := 5) (oi := fyp14o21) (v := (.int .u32 n0)) hHeld ?_ ?_
      · intro w9 hSw
        try dsimp only at hSw
        have hcc := hSw.1.cell 1 (.int .u32 n0) rfl
        go_simp
      try simp only [qpu]
      refine wpAnyH_ready (rs := [1]) (by kernel_rfl) (by simp) ?_
      refine AllReadyH.cons (o := fyp14o16) rfl (fun K hK => ?_) AllReadyH.nil
      go_simp
      refine Calls.mono (KE.out _) ?_
      rintro e Wx1 ⟨rfl, bb⟩
      have Cx1 := Cd.kept bb
      have Gx1 := Gd.kept bb
      have Zx1 := Zd.kept bb
      have bx1 := bel_tr bd bb
      clear bb
      refine hK.out _ _ (by exact ⟨Cx1, Gx1⟩) (fun hHeld => ?_)
      clear hK K
      try simp only [qpu]
      refine qtk (i := 6) (oi := fyp14o17) (v := (.bool Q)) hHeld ?_ ?_
      · intro w9 hSw
        try dsimp only at hSw
        go_simp
      try simp only [qpu]
      refine qtk (i := 7) (oi := fyp14o4) (v := (.bool Q)) hHeld ?_ ?_
      · intro w9 hSw
        try dsimp only at hSw
        go_simp
      try simp only [qpu]
      refine wpAnyH_done (by kernel_rfl) ?_ _
      refine NoPanic.normal ?_
      go_wp2_with fail
      cases X with
      | false =>
        have Cd := Cx1.drew
        have Gd := Gx1.drew
        have Zd := Zx1.drew
        have bd := bx1.drew
        refine wp_region_noPanic ?_
        refine wp_region_held_drew (S := fun w' => Blk w' w.heap.size 31 (Cn.v ⟨st, n0, n1, e0, e1, k0, k1, d0, d1⟩) ∧ Blk w' W1.heap.size 110 g.v) (by kernel_rfl) (by exact ⟨Cd, Gd⟩) (fun hHeld => ?_)
        refine qty (i := 0) (oi := fyp14o25) (v := (.agg (Cn.v ⟨st, n0, n1, e0, e1, k0, k1, d0, d1⟩))) (yieldsIf_blk_w (by kernel_rfl) _ _ rfl w.heap.size (by rfl) _ (fun _ hSw => hSw.1) Try.underlying31 (by kernel_rfl)) hHeld ?_
        try simp only [qpu]
        refine qtk (i := 1) (oi := fyp14o27) (v := (.pointer (some ⟨w.heap.size, 0, none⟩))) hHeld ?_ ?_
        · intro w9 hSw
          try dsimp only at hSw
          go_simp
        try simp only [qpu]
        refine qtk (i := 2) (oi := fyp14o22) (v := (.int .i64 st)) hHeld ?_ ?_
        · intro w9 hSw
          try dsimp only at hSw
          have hcc := hSw.1.cell 0 (.int .i64 st) rfl
          go_simp
        try simp only [qpu]
        refine qtk (i := 3) (oi := fyp14o19) (v := (.bool false)) hHeld ?_ ?_
        · intro w9 hSw
          try dsimp only at hSw
          go_simp
        try simp only [qpu]
        refine qtk (i := 4) (oi := fyp14o23) (v := (.bool false)) hHeld ?_ ?_
        · intro w9 hSw
          try dsimp only at hSw
          go_simp
        try simp only [qpu]
        refine qtn (i := 5) (oi := fyp14o20) hHeld ?_
        try simp only [qpu]
        refine qtn (i := 6) (oi := fyp14o7) hHeld ?_
        try simp only [qpu]
        refine qtn (i := 7) (oi := fyp14o12) hHeld ?_
        try simp only [qpu]
        refine qtk (i := 8) (oi := fyp14o11) (v := (.bool false)) hHeld ?_ ?_
        · intro w9 hSw
          try dsimp only at hSw
          go_simp
        try simp only [qpu]
        refine qtk (i := 9) (oi := fyp14o13) (v := (.bool false)) hHeld ?_ ?_
        · intro w9 hSw
          try dsimp only at hSw
          go_simp
        try simp only [qpu]
        refine qtn (i := 10) (oi := fyp14o10) hHeld ?_
        try simp only [qpu]
        refine qtk (i := 11) (oi := fyp14o5) (v := (.bool false)) hHeld ?_ ?_
        · intro w9 hSw
          try dsimp only at hSw
          go_simp
        try simp only [qpu]
        refine wpAnyH_ready (rs := [12]) (by kernel_rfl) (by simp) ?_
        refine AllReadyH.cons (o := fyp14o0) rfl (fun K hK => ?_) AllReadyH.nil
        refine step_store_blk rfl _ _ _ rfl W2.heap.size (Cn.v ⟨st, n0, n1, e0, e1, k0, k1, d0, d1⟩) _ (by rfl) (by rfl) Zd (by kernel_rfl) (by rfl) (by kernel_rfl) ?_
        have Cx11 := Cd.other nCZ (Cn.v ⟨st, n0, n1, e0, e1, k0, k1, d0, d1⟩)
        have Gx11 := Gd.other nGZ (Cn.v ⟨st, n0, n1, e0, e1, k0, k1, d0, d1⟩)
        have Zx11 := Zd.set (Cn.v ⟨st, n0, n1, e0, e1, k0, k1, d0, d1⟩)
        have bx11 := below_setRow bd gZ (Cn.v ⟨st, n0, n1, e0, e1, k0, k1, d0, d1⟩)
        refine hK.out _ _ (by exact ⟨Cx11, Gx11⟩) (fun hHeld => ?_)
        clear hK K
        try simp only [qpu]
        refine qtk (i := 13) (oi := fyp14o1) (v := (.bool false)) hHeld ?_ ?_
        · intro w9 hSw
          try dsimp only at hSw
          go_simp
        try simp only [qpu]
        refine wpAnyH_done (by kernel_rfl) ?_ _
        refine NoPanic.normal ?_
        go_wp2_with fail
        refine ret_cell_tmp (k := 6) (j := 7) Try.f99 (by kernel_rfl) Zx11 Try.underlying31 (by kernel_rfl) (by rfl) (by rfl) rfl ⟨?_, bx11⟩
        rw [← HR.out]
        try cases Q
        all_goals first | rfl | simp

      | true =>
        have Cd := Cx1.drew
        have Gd := Gx1.drew
        have Zd := Zx1.drew
        have bd := bx1.drew
        refine wp_region_noPanic ?_
        refine wp_region_held_drew (S := fun w' => Blk w' w.heap.size 31 (Cn.v ⟨st, n0, n1, e0, e1, k0, k1, d0, d1⟩) ∧ Blk w' W1.heap.size 110 g.v) (by kernel_rfl) (by exact ⟨Cd, Gd⟩) (fun hHeld => ?_)
        refine qty (i := 0) (oi := fyp14o25) (v := (.agg (Cn.v ⟨st, n0, n1, e0, e1, k0, k1, d0, d1⟩))) (yieldsIf_blk_w (by kernel_rfl) _ _ rfl w.heap.size (by rfl) _ (fun _ hSw => hSw.1) Try.underlying31 (by kernel_rfl)) hHeld ?_
        try simp only [qpu]
        refine qtk (i := 1) (oi := fyp14o27) (v := (.pointer (some ⟨w.heap.size, 0, none⟩))) hHeld ?_ ?_
        · intro w9 hSw
          try dsimp only at hSw
          go_simp
        try simp only [qpu]
        refine qtk (i := 2) (oi := fyp14o22) (v := (.int .i64 st)) hHeld ?_ ?_
        · intro w9 hSw
          try dsimp only at hSw
          have hcc := hSw.1.cell 0 (.int .i64 st) rfl
          go_simp
        try simp only [qpu]
        refine qtk (i := 3) (oi := fyp14o19) (v := (.bool true)) hHeld ?_ ?_
        · intro w9 hSw
          try dsimp only at hSw
          go_simp
        try simp only [qpu]
        refine qtk (i := 4) (oi := fyp14o23) (v := (.bool true)) hHeld ?_ ?_
        · intro w9 hSw
          try dsimp only at hSw
          go_simp
        try simp only [qpu]
        refine qty (i := 5) (oi := fyp14o20) (v := (.agg g.v)) (yieldsIf_blk_w (by kernel_rfl) _ _ rfl W1.heap.size (by rfl) _ (fun _ hSw => hSw.2) Try.underlying110 (by kernel_rfl)) hHeld ?_
        try simp only [qpu]
        refine wpAnyH_ready (rs := [6]) (by kernel_rfl) (by simp) ?_
        refine AllReadyH.cons (o := fyp14o7) rfl (fun K hK => ?_) AllReadyH.nil
        go_simp
        refine Calls.mono (KA.out _) ?_
        rintro e Wx31 ⟨rfl, bb⟩
        have Cx31 := Cd.kept bb
        have Gx31 := Gd.kept bb
        have Zx31 := Zd.kept bb
        have bx31 := bel_tr bd bb
        clear bb
        refine hK.out _ _ (by exact ⟨Cx31, Gx31⟩) (fun hHeld => ?_)
        clear hK K
        try simp only [qpu]
        cases A with
        | false =>
          refine qtk (i := 7) (oi := fyp14o12) (v := (.bool true)) hHeld ?_ ?_
          · intro w9 hSw
            try dsimp only at hSw
            go_simp
          try simp only [qpu]
          refine qtk (i := 8) (oi := fyp14o11) (v := (.bool true)) hHeld ?_ ?_
          · intro w9 hSw
            try dsimp only at hSw
            go_simp
          try simp only [qpu]
          refine qtk (i := 9) (oi := fyp14o13) (v := (.bool true)) hHeld ?_ ?_
          · intro w9 hSw
            try dsimp only at hSw
            go_simp
          try simp only [qpu]
          refine qtk (i := 10) (oi := fyp14o10) (v := (.bool Q)) hHeld ?_ ?_
          · intro w9 hSw
            try dsimp only at hSw
            go_simp
          try simp only [qpu]
          refine qtk (i := 11) (oi := fyp14o5) (v := (.bool Q)) hHeld ?_ ?_
          · intro w9 hSw
            try dsimp only at hSw
            go_simp
          try simp only [qpu]
          refine wpAnyH_ready (rs := [12]) (by kernel_rfl) (by simp) ?_
          refine AllReadyH.cons (o := fyp14o0) rfl (fun K hK => ?_) AllReadyH.nil
          refine step_store_blk rfl _ _ _ rfl W2.heap.size (Cn.v ⟨st, n0, n1, e0, e1, k0, k1, d0, d1⟩) _ (by rfl) (by rfl) Zx31 (by kernel_rfl) (by rfl) (by kernel_rfl) ?_
          have Cx32 := Cx31.other nCZ (Cn.v ⟨st, n0, n1, e0, e1, k0, k1, d0, d1⟩)
          have Gx32 := Gx31.other nGZ (Cn.v ⟨st, n0, n1, e0, e1, k0, k1, d0, d1⟩)
          have Zx32 := Zx31.set (Cn.v ⟨st, n0, n1, e0, e1, k0, k1, d0, d1⟩)
          have bx32 := below_setRow bx31 gZ (Cn.v ⟨st, n0, n1, e0, e1, k0, k1, d0, d1⟩)
          refine hK.out _ _ (by exact ⟨Cx32, Gx32⟩) (fun hHeld => ?_)
          clear hK K
          try simp only [qpu]
          refine qtk (i := 13) (oi := fyp14o1) (v := (.bool Q)) hHeld ?_ ?_
          · intro w9 hSw
            try dsimp only at hSw
            go_simp
          try simp only [qpu]
          refine wpAnyH_done (by kernel_rfl) ?_ _
          refine NoPanic.normal ?_
          go_wp2_with fail
          refine ret_cell_tmp (k := 6) (j := 7) Try.f99 (by kernel_rfl) Zx32 Try.underlying31 (by kernel_rfl) (by rfl) (by rfl) rfl ⟨?_, bx32⟩
          rw [← HR.out]
          try cases Q
          all_goals first | rfl | simp

        | true =>
          refine qtk (i := 7) (oi := fyp14o12) (v := (.bool false)) hHeld ?_ ?_
          · intro w9 hSw
            try dsimp only at hSw
            go_simp
          try simp only [qpu]
          refine qtk (i := 8) (oi := fyp14o11) (v := (.bool false)) hHeld ?_ ?_
          · intro w9 hSw
            try dsimp only at hSw
            go_simp
          try simp only [qpu]
          refine qtk (i := 9) (oi := fyp14o13) (v := (.bool false)) hHeld ?_ ?_
          · intro w9 hSw
            try dsimp only at hSw
            go_simp
          try simp only [qpu]
          refine qtn (i := 10) (oi := fyp14o10) hHeld ?_
          try simp only [qpu]
          refine qtk (i := 11) (oi := fyp14o5) (v := (.bool false)) hHeld ?_ ?_
          · intro w9 hSw
            try dsimp only at hSw
            go_simp
          try simp only [qpu]
          refine wpAnyH_ready (rs := [12]) (by kernel_rfl) (by simp) ?_
          refine AllReadyH.cons (o := fyp14o0) rfl (fun K hK => ?_) AllReadyH.nil
          refine step_store_blk rfl _ _ _ rfl W2.heap.size (Cn.v ⟨st, n0, n1, e0, e1, k0, k1, d0, d1⟩) _ (by rfl) (by rfl) Zx31 (by kernel_rfl) (by rfl) (by kernel_rfl) ?_
          have Cx33 := Cx31.other nCZ (Cn.v ⟨st, n0, n1, e0, e1, k0, k1, d0, d1⟩)
          have Gx33 := Gx31.other nGZ (Cn.v ⟨st, n0, n1, e0, e1, k0, k1, d0, d1⟩)
          have Zx33 := Zx31.set (Cn.v ⟨st, n0, n1, e0, e1, k0, k1, d0, d1⟩)
          have bx33 := below_setRow bx31 gZ (Cn.v ⟨st, n0, n1, e0, e1, k0, k1, d0, d1⟩)
          refine hK.out _ _ (by exact ⟨Cx33, Gx33⟩) (fun hHeld => ?_)
          clear hK K
          try simp only [qpu]
          refine qtk (i := 13) (oi := fyp14o1) (v := (.bool false)) hHeld ?_ ?_
          · intro w9 hSw
            try dsimp only at hSw
            go_simp
          try simp only [qpu]
          refine wpAnyH_done (by kernel_rfl) ?_ _
          refine NoPanic.normal ?_
          go_wp2_with fail
          refine ret_cell_tmp (k := 6) (j := 7) Try.f99 (by kernel_rfl) Zx33 Try.underlying31 (by kernel_rfl) (by rfl) (by rfl) rfl ⟨?_, bx33⟩
          rw [← HR.out]
          try cases Q
          all_goals first | rfl | simp



    | true =>
      have Zf := Z4.set (Cn.v ⟨st, n0, n1, e0, e1, k0, k1, d0, d1⟩)
      have bf := below_setRow b4 gZ (Cn.v ⟨st, n0, n1, e0, e1, k0, k1, d0, d1⟩)
      go_wp2_with (first | (refine wpList_load_blk_w (by rfl) _ _ rfl w.heap.size (by rfl) _ C4 Try.underlying31 (by kernel_rfl) ?_) | (refine wpList_load_blk_w (by rfl) _ _ rfl W1.heap.size (by rfl) _ G4 Try.underlying110 (by kernel_rfl) ?_) | (refine wpList_store_row rfl _ _ _ rfl W2.heap.size (Cn.v ⟨st, n0, n1, e0, e1, k0, k1, d0, d1⟩) (by rfl) (by rfl) _ _ Z4 (by kernel_rfl) (by rfl) (by kernel_rfl) ?_))
      obtain rfl : R = none := by rw [← HR.out]; first | rfl | simp [sdI, stOf, Cn.nx, Cn.ed, Cn.kn, Cn.ans, Cn.byR, *]
      exact ret_cell_tmp (k := 6) (j := 7) Try.f99 (by kernel_rfl) Zf Try.underlying31 (by kernel_rfl) (by rfl) (by rfl) rfl ⟨rfl, bf⟩


  | true =>
    have Zf := Z4.set (Cn.v ⟨st, n0, n1, e0, e1, k0, k1, d0, d1⟩)
    have bf := below_setRow b4 gZ (Cn.v ⟨st, n0, n1, e0, e1, k0, k1, d0, d1⟩)
    go_wp2_with (first | (refine wpList_load_blk_w (by rfl) _ _ rfl w.heap.size (by rfl) _ C4 Try.underlying31 (by kernel_rfl) ?_) | (refine wpList_load_blk_w (by rfl) _ _ rfl W1.heap.size (by rfl) _ G4 Try.underlying110 (by kernel_rfl) ?_) | (refine wpList_store_row rfl _ _ _ rfl W2.heap.size (Cn.v ⟨st, n0, n1, e0, e1, k0, k1, d0, d1⟩) (by rfl) (by rfl) _ _ Z4 (by kernel_rfl) (by rfl) (by kernel_rfl) ?_))
    obtain rfl : R = none := by rw [← HR.out]; first | rfl | simp [sdI, stOf, Cn.nx, Cn.ed, Cn.kn, Cn.ans, Cn.byR, *]
    exact ret_cell_tmp (k := 6) (j := 7) Try.f99 (by kernel_rfl) Zf Try.underlying31 (by kernel_rfl) (by rfl) (by rfl) rfl ⟨rfl, bf⟩
set_option maxRecDepth 100000 in
set_option maxHeartbeats 4000000 in
theorem syn1_tc (c : Cn) (g : Gt) (w : World) :
    Calls Try.prog 99 #[.agg c.v, .int .i64 1, .agg g.v] w fun e w' => e = .returned (.tuple #[.agg ((c.syn true g).getD c).v, .bool (c.syn true g).isSome]) ∧ Below w.heap.size w w' := by
  obtain ⟨R, hR⟩ : ∃ R, c.syn true g = R := ⟨_, rfl⟩
  have HR : Hid ((if flB g.fl 1 || g.sz != 0 then none else (if !flB g.fl 16 || g.ak != c.n0 then none else if c.st == 1 then some (c.ans g) else if c.st == 2 && g.e == c.n1 then some c else none)) = R) := hR
  rw [hR]
  clear hR
  have KF : Hid (∀ W, Calls Try.prog 97 #[.agg g.v, .int .i64 1] W fun e w' => e = .returned (.bool (flB g.fl 1)) ∧ Below W.heap.size W w') := fun W => has_tc g 1 W
  have KA : Hid (∀ W, Calls Try.prog 97 #[.agg g.v, .int .i64 16] W fun e w' => e = .returned (.bool (flB g.fl 16)) ∧ Below W.heap.size W w') := fun W => has_tc g 16 W
  have KE : Hid (∀ W, Calls Try.prog 108 #[.agg g.v] W fun e w' => e = .returned (.int .u32 g.e) ∧ Below W.heap.size W w') := fun W => end_tc g W
  have KN : Hid (∀ W, Calls Try.prog 109 #[.agg c.v, .agg g.v] W fun e w' => e = .returned (.agg (c.ans g).v) ∧ Below W.heap.size W w') := fun W => answered_tc c g W
  generalize c.ans g = D at *
  generalize hX : (c.st == 1) = X at *
  generalize hY : (c.st == 2) = Y at *
  generalize flB g.fl 16 = A at *
  generalize flB g.fl 1 = F at *
  generalize hN : (g.sz != 0) = N at *
  generalize hE : g.e = E at *
  generalize hQ : (E == c.n1) = Q at *
  generalize hM : (g.ak != c.n0) = M at *
  clear hE
  obtain ⟨st, n0, n1, e0, e1, k0, k1, d0, d1⟩ := c
  dsimp only at *
  obtain ⟨W1, hW1⟩ : ∃ W, w.alloc (.cells (Cn.v ⟨st, n0, n1, e0, e1, k0, k1, d0, d1⟩) 31) = W := ⟨_, rfl⟩
  have b1 := bel_nw hW1
  have C1 := blk_nw hW1
  have g1 := C1.lt
  obtain ⟨W2, hW2⟩ : ∃ W, W1.alloc (.cells g.v 110) = W := ⟨_, rfl⟩
  have b2 := bel_al b1 hW2
  have C2 := C1.al hW2
  have G2 := blk_nw hW2
  have g2 := G2.lt
  obtain ⟨W3, hW3⟩ : ∃ W, W2.alloc (.cells #[.int .i64 0, .int .u32 0, .int .u32 0, .int .u32 0, .int .u32 0, .bool false, .bool false, .bool false, .bool false] 31) = W := ⟨_, rfl⟩
  have b3 := bel_al b2 hW3
  have C3 := C2.al hW3
  have G3 := G2.al hW3
  have Z3 := blk_nw hW3
  have nCG : w.heap.size ≠ W1.heap.size := by omega
  have nGC : W1.heap.size ≠ w.heap.size := by omega
  have nCZ : w.heap.size ≠ W2.heap.size := by omega
  have nGZ : W1.heap.size ≠ W2.heap.size := by omega
  have nZC : W2.heap.size ≠ w.heap.size := by omega
  have gZ : w.heap.size ≤ W2.heap.size := by omega
  have gG : w.heap.size ≤ W1.heap.size := by omega
  clear b1 b2 C1 C2 G2 g1 g2
  have g2 := G3.cell 2 (.int .i64 g.sz) rfl
  go_enter Try.func99, Try.ntmps99
  go_wp2_with (refine wpList_load_blk_w (by rfl) _ _ rfl W1.heap.size (by rfl) _ G3 Try.underlying110 (by kernel_rfl) ?_)
  refine Calls.mono (KF.out _) ?_
  rintro e W4 ⟨rfl, bb⟩
  have C4 := C3.kept bb
  have G4 := G3.kept bb
  have Z4 := Z3.kept bb
  have b4 := bel_tr b3 bb
  clear bb
  clear C3 G3 Z3 b3
  clear g2
  have g2 := G4.cell 2 (.int .i64 g.sz) rfl
  cases F with
  | false =>
    cases N with
    | false =>
      go_wp2_with fail
      have Cd := C4.drew
      have Gd := G4.drew
      have Zd := Z4.drew
      have bd := b4.drew
      refine wp_region_noPanic ?_
      refine wp_region_held_drew (S := fun w' => Blk w' w.heap.size 31 (Cn.v ⟨st, n0, n1, e0, e1, k0, k1, d0, d1⟩) ∧ Blk w' W1.heap.size 110 g.v) (by kernel_rfl) (by exact ⟨Cd, Gd⟩) (fun hHeld => ?_)
      refine qty (i := 0) (oi := fyp14o24) (v := (.agg g.v)) (yieldsIf_blk_w (by kernel_rfl) _ _ rfl W1.heap.size (by rfl) _ (fun _ hSw => hSw.2) Try.underlying110 (by kernel_rfl)) hHeld ?_
      try simp only [qpu]
      refine qtk (i := 2) (oi := fyp14o28) (v := (.int .i64 1)) hHeld ?_ ?_
      · intro w9 hSw
        try dsimp only at hSw
        go_simp
      try simp only [qpu]
      refine qtk (i := 3) (oi := fyp14o26) (v := (.pointer (some ⟨w.heap.size, 1, none⟩))) hHeld ?_ ?_
      · intro w9 hSw
        try dsimp only at hSw
        go_simp
      try simp only [qpu]
      refine qtk (i := 4) (oi := fyp14o18) (v := (.pointer (some ⟨w.heap.size, 2, none⟩))) hHeld ?_ ?_
      · intro w9 hSw
        try dsimp only at hSw
        go_simp
      try simp only [qpu]
      refine qtk (i := 5) (oi := fyp14o21) (v := (.int .u32 n1)) hHeld ?_ ?_
      · intro w9 hSw
        try dsimp only at hSw
        have hcc := hSw.1.cell 2 (.int .u32 n1) rfl
        go_simp
      try simp only [qpu]
      refine wpAnyH_ready (rs := [1]) (by kernel_rfl) (by simp) ?_
      refine AllReadyH.cons (o := fyp14o16) rfl (fun K hK => ?_) AllReadyH.nil
      go_simp
      refine Calls.mono (KE.out _) ?_
      rintro e Wx1 ⟨rfl, bb⟩
      have Cx1 := Cd.kept bb
      have Gx1 := Gd.kept bb
      have Zx1 := Zd.kept bb
      have bx1 := bel_tr bd bb
      clear bb
      refine hK.out _ _ (by exact ⟨Cx1, Gx1⟩) (fun hHeld => ?_)
      clear hK K
      try simp only [qpu]
      refine qtk (i := 6) (oi := fyp14o17) (v := (.bool Q)) hHeld ?_ ?_
      · intro w9 hSw
        try dsimp only at hSw
        go_simp
      try simp only [qpu]
      refine qtk (i := 7) (oi := fyp14o4) (v := (.bool Q)) hHeld ?_ ?_
      · intro w9 hSw
        try dsimp only at hSw
        go_simp
      try simp only [qpu]
      refine wpAnyH_done (by kernel_rfl) ?_ _
      refine NoPanic.normal ?_
      have c0 := Cx1.cell 0 (.int .i64 st) rfl
      have c1 := Cx1.cell 1 (.int .u32 n0) rfl
      have g4 := Gx1.cell 4 (.int .u32 g.ak) rfl
      go_wp2_with (refine wpList_load_blk_w (by rfl) _ _ rfl W1.heap.size (by rfl) _ Gx1 Try.underlying110 (by kernel_rfl) ?_)
      refine Calls.mono (KA.out _) ?_
      rintro e Wx1a ⟨rfl, bb⟩
      have Cx1a := Cx1.kept bb
      have Gx1a := Gx1.kept bb
      have Zx1a := Zx1.kept bb
      have bx1a := bel_tr bx1 bb
      clear bb
      clear Cx1 Gx1 Zx1 bx1
      clear c0 c1 g4
      cases A with
      | false =>
        have Zf := Zx1a.set (Cn.v ⟨st, n0, n1, e0, e1, k0, k1, d0, d1⟩)
        have bf := below_setRow bx1a gZ (Cn.v ⟨st, n0, n1, e0, e1, k0, k1, d0, d1⟩)
        go_wp2_with (first | (refine wpList_load_blk_w (by rfl) _ _ rfl w.heap.size (by rfl) _ Cx1a Try.underlying31 (by kernel_rfl) ?_) | (refine wpList_load_blk_w (by rfl) _ _ rfl W1.heap.size (by rfl) _ Gx1a Try.underlying110 (by kernel_rfl) ?_) | (refine wpList_store_row rfl _ _ _ rfl W2.heap.size (Cn.v ⟨st, n0, n1, e0, e1, k0, k1, d0, d1⟩) (by rfl) (by rfl) _ _ Zx1a (by kernel_rfl) (by rfl) (by kernel_rfl) ?_))
        obtain rfl : R = none := by rw [← HR.out]; first | rfl | simp [sdI, stOf, Cn.nx, Cn.ed, Cn.kn, Cn.ans, Cn.byR, *]
        exact ret_cell_tmp (k := 6) (j := 7) Try.f99 (by kernel_rfl) Zf Try.underlying31 (by kernel_rfl) (by rfl) (by rfl) rfl ⟨rfl, bf⟩

      | true =>
        have c0 := Cx1a.cell 0 (.int .i64 st) rfl
        have c1 := Cx1a.cell 1 (.int .u32 n0) rfl
        have g4 := Gx1a.cell 4 (.int .u32 g.ak) rfl
        cases M with
        | false =>
          cases X with
          | false =>
            cases Y with
            | false =>
              have Zf := Zx1a.set (Cn.v ⟨st, n0, n1, e0, e1, k0, k1, d0, d1⟩)
              have bf := below_setRow bx1a gZ (Cn.v ⟨st, n0, n1, e0, e1, k0, k1, d0, d1⟩)
              go_wp2_with (first | (refine wpList_load_blk_w (by rfl) _ _ rfl w.heap.size (by rfl) _ Cx1a Try.underlying31 (by kernel_rfl) ?_) | (refine wpList_load_blk_w (by rfl) _ _ rfl W1.heap.size (by rfl) _ Gx1a Try.underlying110 (by kernel_rfl) ?_) | (refine wpList_store_row rfl _ _ _ rfl W2.heap.size (Cn.v ⟨st, n0, n1, e0, e1, k0, k1, d0, d1⟩) (by rfl) (by rfl) _ _ Zx1a (by kernel_rfl) (by rfl) (by kernel_rfl) ?_))
              obtain rfl : R = none := by rw [← HR.out]; first | rfl | simp [sdI, stOf, Cn.nx, Cn.ed, Cn.kn, Cn.ans, Cn.byR, *]
              exact ret_cell_tmp (k := 6) (j := 7) Try.f99 (by kernel_rfl) Zf Try.underlying31 (by kernel_rfl) (by rfl) (by rfl) rfl ⟨rfl, bf⟩

            | true =>
              cases Q with
              | false =>
                have Zf := Zx1a.set (Cn.v ⟨st, n0, n1, e0, e1, k0, k1, d0, d1⟩)
                have bf := below_setRow bx1a gZ (Cn.v ⟨st, n0, n1, e0, e1, k0, k1, d0, d1⟩)
                go_wp2_with (first | (refine wpList_load_blk_w (by rfl) _ _ rfl w.heap.size (by rfl) _ Cx1a Try.underlying31 (by kernel_rfl) ?_) | (refine wpList_load_blk_w (by rfl) _ _ rfl W1.heap.size (by rfl) _ Gx1a Try.underlying110 (by kernel_rfl) ?_) | (refine wpList_store_row rfl _ _ _ rfl W2.heap.size (Cn.v ⟨st, n0, n1, e0, e1, k0, k1, d0, d1⟩) (by rfl) (by rfl) _ _ Zx1a (by kernel_rfl) (by rfl) (by kernel_rfl) ?_))
                obtain rfl : R = none := by rw [← HR.out]; first | rfl | simp [sdI, stOf, Cn.nx, Cn.ed, Cn.kn, Cn.ans, Cn.byR, *]
                exact ret_cell_tmp (k := 6) (j := 7) Try.f99 (by kernel_rfl) Zf Try.underlying31 (by kernel_rfl) (by rfl) (by rfl) rfl ⟨rfl, bf⟩

              | true =>
                have Zf := Zx1a.set (Cn.v ⟨st, n0, n1, e0, e1, k0, k1, d0, d1⟩)
                have bf := below_setRow bx1a gZ (Cn.v ⟨st, n0, n1, e0, e1, k0, k1, d0, d1⟩)
                go_wp2_with (first | (refine wpList_load_blk_w (by rfl) _ _ rfl w.heap.size (by rfl) _ Cx1a Try.underlying31 (by kernel_rfl) ?_) | (refine wpList_load_blk_w (by rfl) _ _ rfl W1.heap.size (by rfl) _ Gx1a Try.underlying110 (by kernel_rfl) ?_) | (refine wpList_store_row rfl _ _ _ rfl W2.heap.size (Cn.v ⟨st, n0, n1, e0, e1, k0, k1, d0, d1⟩) (by rfl) (by rfl) _ _ Zx1a (by kernel_rfl) (by rfl) (by kernel_rfl) ?_))
                obtain rfl : R = some ⟨st, n0, n1, e0, e1, k0, k1, d0, d1⟩ := by rw [← HR.out]; first | rfl | simp [sdI, stOf, Cn.nx, Cn.ed, Cn.kn, Cn.ans, Cn.byR, *]
                exact ret_cell_tmp (k := 6) (j := 7) Try.f99 (by kernel_rfl) Zf Try.underlying31 (by kernel_rfl) (by rfl) (by rfl) rfl ⟨rfl, bf⟩



          | true =>
            go_wp2_with (first | (refine wpList_load_blk_w (by rfl) _ _ rfl w.heap.size (by rfl) _ Cx1a Try.underlying31 (by kernel_rfl) ?_) | (refine wpList_load_blk_w (by rfl) _ _ rfl W1.heap.size (by rfl) _ Gx1a Try.underlying110 (by kernel_rfl) ?_))
            refine Calls.mono (KN.out _) ?_
            rintro e Wx1an ⟨rfl, bb⟩
            have Cx1an := Cx1a.kept bb
            have Gx1an := Gx1a.kept bb
            have Zx1an := Zx1a.kept bb
            have bx1an := bel_tr bx1a bb
            clear bb
            clear Cx1a Gx1a Zx1a bx1a
            have Zf := Zx1an.set D.v
            have bf := below_setRow bx1an gZ D.v
            go_wp2_with (refine wpList_store_row rfl _ _ _ rfl W2.heap.size D.v (by rfl) (by rfl) _ _ Zx1an (by kernel_rfl) (by rfl) (by kernel_rfl) ?_)
            obtain rfl : R = some D := by rw [← HR.out]; first | rfl | simp [sdI, stOf, Cn.nx, Cn.ed, Cn.kn, Cn.ans, Cn.byR, *]
            exact ret_cell_tmp (k := 6) (j := 7) Try.f99 (by kernel_rfl) Zf Try.underlying31 (by kernel_rfl) (by rfl) (by rfl) rfl ⟨rfl, bf⟩


        | true =>
          have Zf := Zx1a.set (Cn.v ⟨st, n0, n1, e0, e1, k0, k1, d0, d1⟩)
          have bf := below_setRow bx1a gZ (Cn.v ⟨st, n0, n1, e0, e1, k0, k1, d0, d1⟩)
          go_wp2_with (first | (refine wpList_load_blk_w (by rfl) _ _ rfl w.heap.size (by rfl) _ Cx1a Try.underlying31 (by kernel_rfl) ?_) | (refine wpList_load_blk_w (by rfl) _ _ rfl W1.heap.size (by rfl) _ Gx1a Try.underlying110 (by kernel_rfl) ?_) | (refine wpList_store_row rfl _ _ _ rfl W2.heap.size (Cn.v ⟨st, n0, n1, e0, e1, k0, k1, d0, d1⟩) (by rfl) (by rfl) _ _ Zx1a (by kernel_rfl) (by rfl) (by kernel_rfl) ?_))
          obtain rfl : R = none := by rw [← HR.out]; first | rfl | simp [sdI, stOf, Cn.nx, Cn.ed, Cn.kn, Cn.ans, Cn.byR, *]
          exact ret_cell_tmp (k := 6) (j := 7) Try.f99 (by kernel_rfl) Zf Try.underlying31 (by kernel_rfl) (by rfl) (by rfl) rfl ⟨rfl, bf⟩



    | true =>
      have Zf := Z4.set (Cn.v ⟨st, n0, n1, e0, e1, k0, k1, d0, d1⟩)
      have bf := below_setRow b4 gZ (Cn.v ⟨st, n0, n1, e0, e1, k0, k1, d0, d1⟩)
      go_wp2_with (first | (refine wpList_load_blk_w (by rfl) _ _ rfl w.heap.size (by rfl) _ C4 Try.underlying31 (by kernel_rfl) ?_) | (refine wpList_load_blk_w (by rfl) _ _ rfl W1.heap.size (by rfl) _ G4 Try.underlying110 (by kernel_rfl) ?_) | (refine wpList_store_row rfl _ _ _ rfl W2.heap.size (Cn.v ⟨st, n0, n1, e0, e1, k0, k1, d0, d1⟩) (by rfl) (by rfl) _ _ Z4 (by kernel_rfl) (by rfl) (by kernel_rfl) ?_))
      obtain rfl : R = none := by rw [← HR.out]; first | rfl | simp [sdI, stOf, Cn.nx, Cn.ed, Cn.kn, Cn.ans, Cn.byR, *]
      exact ret_cell_tmp (k := 6) (j := 7) Try.f99 (by kernel_rfl) Zf Try.underlying31 (by kernel_rfl) (by rfl) (by rfl) rfl ⟨rfl, bf⟩


  | true =>
    have Zf := Z4.set (Cn.v ⟨st, n0, n1, e0, e1, k0, k1, d0, d1⟩)
    have bf := below_setRow b4 gZ (Cn.v ⟨st, n0, n1, e0, e1, k0, k1, d0, d1⟩)
    go_wp2_with (first | (refine wpList_load_blk_w (by rfl) _ _ rfl w.heap.size (by rfl) _ C4 Try.underlying31 (by kernel_rfl) ?_) | (refine wpList_load_blk_w (by rfl) _ _ rfl W1.heap.size (by rfl) _ G4 Try.underlying110 (by kernel_rfl) ?_) | (refine wpList_store_row rfl _ _ _ rfl W2.heap.size (Cn.v ⟨st, n0, n1, e0, e1, k0, k1, d0, d1⟩) (by rfl) (by rfl) _ _ Z4 (by kernel_rfl) (by rfl) (by kernel_rfl) ?_))
    obtain rfl : R = none := by rw [← HR.out]; first | rfl | simp [sdI, stOf, Cn.nx, Cn.ed, Cn.kn, Cn.ans, Cn.byR, *]
    exact ret_cell_tmp (k := 6) (j := 7) Try.f99 (by kernel_rfl) Zf Try.underlying31 (by kernel_rfl) (by rfl) (by rfl) rfl ⟨rfl, bf⟩
end Go.Proofs.Ytmjjdbkipagkbaa
