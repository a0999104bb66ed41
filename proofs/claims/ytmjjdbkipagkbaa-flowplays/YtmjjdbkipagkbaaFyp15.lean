/- Texts joined: TcF0 -/
import Derived.Test.YtmjjdbkipagkbaaFyp12
namespace Go.Proofs.Ytmjjdbkipagkbaa
abbrev fyp15o0 : Oper := { dst := some 27, op := Op.call { callee := Callee.value (.func 110), args := #[.tmp 18, .tmp 22, .tmp 26], argTypes := #[27, 27, 27] }, type := 4, pos := "tcp.go:145", after := #[{ on := 7, ground := Ground.data }, { on := 11, ground := Ground.data }, { on := 15, ground := Ground.data }, { on := 5, ground := Ground.chain }, { on := 5, ground := Ground.guard }], guard := some (5, false) }
abbrev fyp15o1 : Oper := { dst := some 49, op := Op.call { callee := Callee.value (.func 111), args := #[.tmp 44, .tmp 48], argTypes := #[27, 27] }, type := 4, pos := "tcp.go:151", after := #[{ on := 1, ground := Ground.data }, { on := 5, ground := Ground.data }, { on := 1, ground := Ground.chain }], guard := none }
abbrev fyp15o2 : Oper := { dst := some 29, op := Op.pick (.tmp 16) (.const (.bool true)) (.tmp 28), type := 4, pos := "tcp.go:145", after := #[{ on := 5, ground := Ground.data }, { on := 17, ground := Ground.data }], guard := none }
abbrev fyp15o3 : Oper := { dst := some 28, op := Op.unOp UnOp.not 4 (.tmp 27), type := 4, pos := "tcp.go:145", after := #[{ on := 16, ground := Ground.data }, { on := 5, ground := Ground.guard }], guard := some (5, false) }
abbrev fyp15o4 : Oper := { dst := some 25, op := Op.indexAddr 28 (.tmp 24) (.tmp 23), type := 0, pos := "tcp.go:145", after := #[{ on := 13, ground := Ground.data }, { on := 12, ground := Ground.data }, { on := 5, ground := Ground.guard }], guard := some (5, false) }
abbrev fyp15o5 : Oper := { dst := some 21, op := Op.indexAddr 28 (.tmp 20) (.tmp 19), type := 0, pos := "tcp.go:145", after := #[{ on := 9, ground := Ground.data }, { on := 8, ground := Ground.data }, { on := 5, ground := Ground.guard }], guard := some (5, false) }
abbrev fyp15o6 : Oper := { dst := some 44, op := Op.call { callee := Callee.value (.func 112), args := #[.tmp 43], argTypes := #[110] }, type := 27, pos := "tcp.go:151", after := #[{ on := 0, ground := Ground.data }], guard := none }
abbrev fyp15o7 : Oper := { dst := some 22, op := Op.load 27 (.tmp 21), type := 27, pos := "tcp.go:145", after := #[{ on := 10, ground := Ground.data }, { on := 5, ground := Ground.guard }], guard := some (5, false) }
abbrev fyp15o8 : Oper := { dst := some 26, op := Op.load 27 (.tmp 25), type := 27, pos := "tcp.go:145", after := #[{ on := 14, ground := Ground.data }, { on := 5, ground := Ground.guard }], guard := some (5, false) }
abbrev fyp15o9 : Oper := { dst := some 18, op := Op.load 27 (.tmp 17), type := 27, pos := "tcp.go:145", after := #[{ on := 6, ground := Ground.data }, { on := 5, ground := Ground.guard }], guard := some (5, false) }
abbrev fyp15o10 : Oper := { dst := some 47, op := Op.indexAddr 28 (.tmp 46) (.tmp 45), type := 0, pos := "tcp.go:151", after := #[{ on := 3, ground := Ground.data }, { on := 2, ground := Ground.data }], guard := none }
abbrev fyp15o11 : Oper := { dst := some 16, op := Op.move (.tmp 15), type := 4, pos := "tcp.go:145", after := #[{ on := 4, ground := Ground.data }, { on := 3, ground := Ground.chain }], guard := none }
abbrev fyp15o13 : Oper := { dst := some 17, op := Op.fieldAddr 110 (.tmp 5) 4, type := 0, pos := "tcp.go:145", after := #[{ on := 5, ground := Ground.guard }], guard := some (5, false) }
abbrev fyp15o14 : Oper := { dst := some 20, op := Op.fieldAddr 31 (.tmp 3) 1, type := 0, pos := "tcp.go:145", after := #[{ on := 5, ground := Ground.guard }], guard := some (5, false) }
abbrev fyp15o15 : Oper := { dst := some 24, op := Op.fieldAddr 31 (.tmp 3) 1, type := 0, pos := "tcp.go:145", after := #[{ on := 5, ground := Ground.guard }], guard := some (5, false) }
abbrev fyp15o16 : Oper := { dst := some 15, op := Op.unOp UnOp.not 4 (.tmp 14), type := 4, pos := "tcp.go:145", after := #[{ on := 3, ground := Ground.data }], guard := none }
abbrev fyp15o18 : Oper := { dst := some 48, op := Op.load 27 (.tmp 47), type := 27, pos := "tcp.go:151", after := #[{ on := 4, ground := Ground.data }], guard := none }
abbrev fyp15o19 : Oper := { dst := some 19, op := Op.move (.tmp 8), type := 3, pos := "tcp.go:145", after := #[{ on := 5, ground := Ground.guard }], guard := some (5, false) }
abbrev fyp15o20 : Oper := { dst := some 23, op := Op.move (.tmp 8), type := 3, pos := "tcp.go:145", after := #[{ on := 5, ground := Ground.guard }], guard := some (5, false) }
abbrev fyp15o21 : Oper := { dst := some 43, op := Op.load 110 (.tmp 5), type := 110, pos := "tcp.go:151", after := #[], guard := none }
abbrev fyp15o22 : Oper := { dst := some 46, op := Op.fieldAddr 31 (.tmp 3) 2, type := 0, pos := "tcp.go:151", after := #[], guard := none }
abbrev fyp15o24 : Oper := { dst := some 45, op := Op.move (.tmp 8), type := 3, pos := "tcp.go:151", after := #[], guard := none }
end Go.Proofs.Ytmjjdbkipagkbaa
namespace Go.Proofs.Ytmjjdbkipagkbaa
open Go.RowKit
set_option linter.unusedVariables false
set_option linter.unusedSimpArgs false
set_option maxRecDepth 100000 in
set_option maxHeartbeats 4000000 in
theorem byt0_tc (c : Cn) (g : Gt) (w : World) :
    Calls Try.prog 100 #[.agg c.v, .int .i64 0, .agg g.v] w fun e w' => e = .returned (.tuple #[.agg ((c.byt false g).getD c).v, .bool (c.byt false g).isSome]) ∧ Below w.heap.size w w' := by
  obtain ⟨R, hR⟩ : ∃ R, c.byt false g = R := ⟨_, rfl⟩
  have HR : Hid ((if c.win false g && wiB g.ak c.n1 c.n1 then some (c.byR false g.e g.lim (frB g.e c.n0) (frB g.lim c.e1) (flB g.fl 1)) else none) = R) := hR
  rw [hR]
  clear hR
  have KW : Hid (∀ W, Calls Try.prog 107 #[.agg c.v, .int .i64 0, .agg g.v] W fun e w' => e = .returned (.bool (c.win false g)) ∧ Below W.heap.size W w') := fun W => window0_tc c g W
  have KI : Hid (∀ W, Calls Try.prog 110 #[.int .u32 g.ak, .int .u32 c.n1, .int .u32 c.n1] W fun e w' => e = .returned (.bool (wiB g.ak c.n1 c.n1)) ∧ Below W.heap.size W w') := fun W => within_tc _ _ _ W
  have KE : Hid (∀ W, Calls Try.prog 108 #[.agg g.v] W fun e w' => e = .returned (.int .u32 g.e) ∧ Below W.heap.size W w') := fun W => end_tc g W
  have KL : Hid (∀ W, Calls Try.prog 112 #[.agg g.v] W fun e w' => e = .returned (.int .u32 g.lim) ∧ Below W.heap.size W w') := fun W => limit_tc g W
  have KP : Hid (∀ W, Calls Try.prog 111 #[.int .u32 g.e, .int .u32 c.n0] W fun e w' => e = .returned (.bool (frB g.e c.n0)) ∧ Below W.heap.size W w') := fun W => from_tc _ _ W
  have KO : Hid (∀ W, Calls Try.prog 111 #[.int .u32 g.lim, .int .u32 c.e1] W fun e w' => e = .returned (.bool (frB g.lim c.e1)) ∧ Below W.heap.size W w') := fun W => from_tc _ _ W
  have KF : Hid (∀ W, Calls Try.prog 97 #[.agg g.v, .int .i64 1] W fun e w' => e = .returned (.bool (flB g.fl 1)) ∧ Below W.heap.size W w') := fun W => has_tc g 1 W
  have KS : Hid (∀ (a b : Bool) W, Calls Try.prog 82 #[.agg #[.bool a, .bool b]] W fun e w' => e = .returned (.int .i64 (stOf a b)) ∧ Below W.heap.size W w') := fun a b W => state_tc a b W
  generalize hV : c.win false g = V at *
  clear hV
  generalize hQ : wiB g.ak c.n1 c.n1 = Q at *
  clear hQ
  generalize hP : frB g.e c.n0 = P at *
  clear hP
  generalize hO : frB g.lim c.e1 = O at *
  clear hO
  generalize hF : flB g.fl 1 = F at *
  clear hF
  generalize hE : g.e = E at *
  clear hE
  generalize hL : g.lim = L at *
  clear hL
  obtain ⟨st, n0, n1, e0, e1, k0, k1, d0, d1⟩ := c
  dsimp only at *
  obtain ⟨W1, hW1⟩ : ∃ W, w.alloc (.cells (Cn.v ⟨st, n0, n1, e0, e1, k0, k1, d0, d1⟩) 31) = W := ⟨_, rfl⟩
  have b1 := bel_nw hW1
  have C1 := blk_nw hW1
  have g1 := C1.lt
  obtain ⟨W2, hW2⟩ : ∃ W, W1.alloc (.cells g.v 110) = W := ⟨_, rfl⟩
  have b2 := bel_al b1 hW2
  have C2 := C1.al hW2
  have G2 := blk_nw hW2
  have g2 := G2.lt
  obtain ⟨W3, hW3⟩ : ∃ W, W2.alloc (.cells #[.int .i64 0, .int .u32 0, .int .u32 0, .int .u32 0, .int .u32 0, .bool false, .bool false, .bool false, .bool false] 31) = W := ⟨_, rfl⟩
  have b3 := bel_al b2 hW3
  have C3 := C2.al hW3
  have G3 := G2.al hW3
  have Z3 := blk_nw hW3
  have nCG : w.heap.size ≠ W1.heap.size := by omega
  have nGC : W1.heap.size ≠ w.heap.size := by omega
  have nCZ : w.heap.size ≠ W2.heap.size := by omega
  have nGZ : W1.heap.size ≠ W2.heap.size := by omega
  have nZC : W2.heap.size ≠ w.heap.size := by omega
  have gZ : w.heap.size ≤ W2.heap.size := by omega
  have gG : w.heap.size ≤ W1.heap.size := by omega
  clear b1 b2 C1 C2 G2 g1 g2
  go_enter Try.func100, Try.ntmps100
  go_wp2_with fail
  have Cd := C3.drew
  have Gd := G3.drew
  have Zd := Z3.drew
  have bd := b3.drew
  refine wp_region_noPanic ?_
  refine wp_region_held_drew (S := fun w' => Blk w' w.heap.size 31 (Cn.v ⟨st, n0, n1, e0, e1, k0, k1, d0, d1⟩) ∧ Blk w' W1.heap.size 110 g.v) (by kernel_rfl) (by exact ⟨Cd, Gd⟩) (fun hHeld => ?_)
  refine qty (i := 0) (oi := { dst := some 11, op := Op.load 31 (.tmp 3), type := 31, pos := "tcp.go:145", after := #[], guard := none }) (v := (.agg (Cn.v ⟨st, n0, n1, e0, e1, k0, k1, d0, d1⟩))) (yieldsIf_blk_w (by kernel_rfl) _ _ rfl w.heap.size (by rfl) _ (fun _ hSw => hSw.1) Try.underlying31 (by kernel_rfl)) hHeld ?_
  try simp only [qpu]
  refine qtk (i := 1) (oi := { dst := some 12, op := Op.move (.tmp 1), type := 3, pos := "tcp.go:145", after := #[], guard := none }) (v := (.int .i64 0)) hHeld ?_ ?_
  · intro w9 hSw
    try dsimp only at hSw
    go_simp
  try simp only [qpu]
  refine qty (i := 2) (oi := { dst := some 13, op := Op.load 110 (.tmp 5), type := 110, pos := "tcp.go:145", after := #[], guard := none }) (v := (.agg g.v)) (yieldsIf_blk_w (by kernel_rfl) _ _ rfl W1.heap.size (by rfl) _ (fun _ hSw => hSw.2) Try.underlying110 (by kernel_rfl)) hHeld ?_
  try simp only [qpu]
  refine wpAnyH_ready (rs := [3]) (by kernel_rfl) (by simp) ?_
  refine AllReadyH.cons (o := { dst := some 14, op := Op.call { callee := Callee.value (.func 107), args := #[.tmp 11, .tmp 12, .tmp 13], argTypes := #[31, 3, 110] }, type := 4, pos := "tcp.go:145", after := #[{ on := 0, ground := Ground.data }, { on := 1, ground := Ground.data }, { on := 2, ground := Ground.data }], guard := none }) rfl (fun K hK => ?_) AllReadyH.nil
  go_simp
  refine Calls.mono (KW.out _) ?_
  rintro e Wx41 ⟨rfl, bb⟩
  have Cx41 := Cd.kept bb
  have Gx41 := Gd.kept bb
  have Zx41 := Zd.kept bb
  have bx41 := bel_tr bd bb
  clear bb
  refine hK.out _ _ (by exact ⟨Cx41, Gx41⟩) (fun hHeld => ?_)
  clear hK K
  try simp only [qpu]
  cases V with
  | false =>
    refine qtk (i := 4) (oi := fyp15o16) (v := (.bool true)) hHeld ?_ ?_
    · intro w9 hSw
      try dsimp only at hSw
      go_simp
    try simp only [qpu]
    refine qtk (i := 5) (oi := fyp15o11) (v := (.bool true)) hHeld ?_ ?_
    · intro w9 hSw
      try dsimp only at hSw
      go_simp
    try simp only [qpu]
    refine qtn (i := 6) (oi := fyp15o13) hHeld ?_
    try simp only [qpu]
    refine qtn (i := 7) (oi := fyp15o9) hHeld ?_
    try simp only [qpu]
    refine qtn (i := 8) (oi := fyp15o19) hHeld ?_
    try simp only [qpu]
    refine qtn (i := 9) (oi := fyp15o14) hHeld ?_
    try simp only [qpu]
    refine qtn (i := 10) (oi := fyp15o5) hHeld ?_
    try simp only [qpu]
    refine qtn (i := 11) (oi := fyp15o7) hHeld ?_
    try simp only [qpu]
    refine qtn (i := 12) (oi := fyp15o20) hHeld ?_
    try simp only [qpu]
    refine qtn (i := 13) (oi := fyp15o15) hHeld ?_
    try simp only [qpu]
    refine qtn (i := 14) (oi := fyp15o4) hHeld ?_
    try simp only [qpu]
    refine qtn (i := 15) (oi := fyp15o8) hHeld ?_
    try simp only [qpu]
    refine qtn (i := 16) (oi := fyp15o0) hHeld ?_
    try simp only [qpu]
    refine qtn (i := 17) (oi := fyp15o3) hHeld ?_
    try simp only [qpu]
    refine qtk (i := 18) (oi := fyp15o2) (v := (.bool true)) hHeld ?_ ?_
    · intro w9 hSw
      try dsimp only at hSw
      go_simp
    try simp only [qpu]
    refine wpAnyH_done (by kernel_rfl) ?_ _
    refine NoPanic.normal ?_
    have Zf := Zx41.set (Cn.v ⟨st, n0, n1, e0, e1, k0, k1, d0, d1⟩)
    have bf := below_setRow bx41 gZ (Cn.v ⟨st, n0, n1, e0, e1, k0, k1, d0, d1⟩)
    go_wp2_with (first | (refine wpList_load_blk_w (by rfl) _ _ rfl w.heap.size (by rfl) _ Cx41 Try.underlying31 (by kernel_rfl) ?_) | (refine wpList_load_blk_w (by rfl) _ _ rfl W1.heap.size (by rfl) _ Gx41 Try.underlying110 (by kernel_rfl) ?_) | (refine wpList_store_row rfl _ _ _ rfl W2.heap.size (Cn.v ⟨st, n0, n1, e0, e1, k0, k1, d0, d1⟩) (by rfl) (by rfl) _ _ Zx41 (by kernel_rfl) (by rfl) (by kernel_rfl) ?_))
    obtain rfl : R = none := by rw [← HR.out]; first | rfl | simp [sdI, stOf, Cn.nx, Cn.ed, Cn.kn, Cn.ans, Cn.byR, *]
    exact ret_cell_tmp (k := 6) (j := 7) Try.f100 (by kernel_rfl) Zf Try.underlying31 (by kernel_rfl) (by rfl) (by rfl) rfl ⟨rfl, bf⟩

  | true =>
    refine qtk (i := 4) (oi := fyp15o16) (v := (.bool false)) hHeld ?_ ?_
    · intro w9 hSw
      try dsimp only at hSw
      go_simp
    try simp only [qpu]
    refine qtk (i := 5) (oi := fyp15o11) (v := (.bool false)) hHeld ?_ ?_
    · intro w9 hSw
      try dsimp only at hSw
      go_simp
    try simp only [qpu]
    refine qtk (i := 6) (oi := fyp15o13) (v := (.pointer (some ⟨W1.heap.size, 4, none⟩))) hHeld ?_ ?_
    · intro w9 hSw
      try dsimp only at hSw
      go_simp
    try simp only [qpu]
    refine qtk (i := 7) (oi := fyp15o9) (v := (.int .u32 g.ak)) hHeld ?_ ?_
    · intro w9 hSw
      try dsimp only at hSw
      have hcc := hSw.2.cell 4 (.int .u32 g.ak) rfl
      go_simp
    try simp only [qpu]
    refine qtk (i := 8) (oi := fyp15o19) (v := (.int .i64 1)) hHeld ?_ ?_
    · intro w9 hSw
      try dsimp only at hSw
      go_simp
    try simp only [qpu]
    refine qtk (i := 9) (oi := fyp15o14) (v := (.pointer (some ⟨w.heap.size, 1, none⟩))) hHeld ?_ ?_
    · intro w9 hSw
      try dsimp only at hSw
      go_simp
    try simp only [qpu]
    refine qtk (i := 10) (oi := fyp15o5) (v := (.pointer (some ⟨w.heap.size, 2, none⟩))) hHeld ?_ ?_
    · intro w9 hSw
      try dsimp only at hSw
      go_simp
    try simp only [qpu]
    refine qtk (i := 11) (oi := fyp15o7) (v := (.int .u32 n1)) hHeld ?_ ?_
    · intro w9 hSw
      try dsimp only at hSw
      have hcc := hSw.1.cell 2 (.int .u32 n1) rfl
      go_simp
    try simp only [qpu]
    refine qtk (i := 12) (oi := fyp15o20) (v := (.int .i64 1)) hHeld ?_ ?_
    · intro w9 hSw
      try dsimp only at hSw
      go_simp
    try simp only [qpu]
    refine qtk (i := 13) (oi := fyp15o15) (v := (.pointer (some ⟨w.heap.size, 1, none⟩))) hHeld ?_ ?_
    · intro w9 hSw
      try dsimp only at hSw
      go_simp
    try simp only [qpu]
    refine qtk (i := 14) (oi := fyp15o4) (v := (.pointer (some ⟨w.heap.size, 2, none⟩))) hHeld ?_ ?_
    · intro w9 hSw
      try dsimp only at hSw
      go_simp
    try simp only [qpu]
    refine qtk (i := 15) (oi := fyp15o8) (v := (.int .u32 n1)) hHeld ?_ ?_
    · intro w9 hSw
      try dsimp only at hSw
      have hcc := hSw.1.cell 2 (.int .u32 n1) rfl
      go_simp
    try simp only [qpu]
    refine wpAnyH_ready (rs := [16]) (by kernel_rfl) (by simp) ?_
    refine AllReadyH.cons (o := fyp15o0) rfl (fun K hK => ?_) AllReadyH.nil
    go_simp
    refine Calls.mono (KI.out _) ?_
    rintro e Wx42 ⟨rfl, bb⟩
    have Cx42 := Cx41.kept bb
    have Gx42 := Gx41.kept bb
    have Zx42 := Zx41.kept bb
    have bx42 := bel_tr bx41 bb
    clear bb
    refine hK.out _ _ (by exact ⟨Cx42, Gx42⟩) (fun hHeld => ?_)
    clear hK K
    try simp only [qpu]
    cases Q with
    | false =>
      refine qtk (i := 17) (oi := fyp15o3) (v := (.bool true)) hHeld ?_ ?_
      · intro w9 hSw
        try dsimp only at hSw
        go_simp
      try simp only [qpu]
      refine qtk (i := 18) (oi := fyp15o2) (v := (.bool true)) hHeld ?_ ?_
      · intro w9 hSw
        try dsimp only at hSw
        go_simp
      try simp only [qpu]
      refine wpAnyH_done (by kernel_rfl) ?_ _
      refine NoPanic.normal ?_
      have Zf := Zx42.set (Cn.v ⟨st, n0, n1, e0, e1, k0, k1, d0, d1⟩)
      have bf := below_setRow bx42 gZ (Cn.v ⟨st, n0, n1, e0, e1, k0, k1, d0, d1⟩)
      go_wp2_with (first | (refine wpList_load_blk_w (by rfl) _ _ rfl w.heap.size (by rfl) _ Cx42 Try.underlying31 (by kernel_rfl) ?_) | (refine wpList_load_blk_w (by rfl) _ _ rfl W1.heap.size (by rfl) _ Gx42 Try.underlying110 (by kernel_rfl) ?_) | (refine wpList_store_row rfl _ _ _ rfl W2.heap.size (Cn.v ⟨st, n0, n1, e0, e1, k0, k1, d0, d1⟩) (by rfl) (by rfl) _ _ Zx42 (by kernel_rfl) (by rfl) (by kernel_rfl) ?_))
      obtain rfl : R = none := by rw [← HR.out]; first | rfl | simp [sdI, stOf, Cn.nx, Cn.ed, Cn.kn, Cn.ans, Cn.byR, *]
      exact ret_cell_tmp (k := 6) (j := 7) Try.f100 (by kernel_rfl) Zf Try.underlying31 (by kernel_rfl) (by rfl) (by rfl) rfl ⟨rfl, bf⟩

    | true =>
      refine qtk (i := 17) (oi := fyp15o3) (v := (.bool false)) hHeld ?_ ?_
      · intro w9 hSw
        try dsimp only at hSw
        go_simp
      try simp only [qpu]
      refine qtk (i := 18) (oi := fyp15o2) (v := (.bool false)) hHeld ?_ ?_
      · intro w9 hSw
        try dsimp only at hSw
        go_simp
      try simp only [qpu]
      refine wpAnyH_done (by kernel_rfl) ?_ _
      refine NoPanic.normal ?_
      go_wp2_with (first | (refine wpList_load_blk_w (by rfl) _ _ rfl w.heap.size (by rfl) _ Cx42 Try.underlying31 (by kernel_rfl) ?_) | (refine wpList_load_blk_w (by rfl) _ _ rfl W1.heap.size (by rfl) _ Gx42 Try.underlying110 (by kernel_rfl) ?_))
      have Cd := Cx42.drew
      have Gd := Gx42.drew
      have Zd := Zx42.drew
      have bd := bx42.drew
      refine wp_region_noPanic ?_
      refine wp_region_held_drew (S := fun w' => Blk w' w.heap.size 31 (Cn.v ⟨st, n0, n1, e0, e1, k0, k1, d0, d1⟩) ∧ Blk w' W1.heap.size 110 g.v) (by kernel_rfl) (by exact ⟨Cd, Gd⟩) (fun hHeld => ?_)
      refine qty (i := 0) (oi := { dst := some 31, op := Op.load 110 (.tmp 5), type := 110, pos := "tcp.go:148", after := #[], guard := none }) (v := (.agg g.v)) (yieldsIf_blk_w (by kernel_rfl) _ _ rfl W1.heap.size (by rfl) _ (fun _ hSw => hSw.2) Try.underlying110 (by kernel_rfl)) hHeld ?_
      try simp only [qpu]
      refine qtk (i := 2) (oi := { dst := some 33, op := Op.move (.tmp 1), type := 3, pos := "tcp.go:148", after := #[], guard := none }) (v := (.int .i64 0)) hHeld ?_ ?_
      · intro w9 hSw
        try dsimp only at hSw
        go_simp
      try simp only [qpu]
      refine qtk (i := 3) (oi := { dst := some 34, op := Op.fieldAddr 31 (.tmp 3) 1, type := 0, pos := "tcp.go:148", after := #[], guard := none }) (v := (.pointer (some ⟨w.heap.size, 1, none⟩))) hHeld ?_ ?_
      · intro w9 hSw
        try dsimp only at hSw
        go_simp
      try simp only [qpu]
      refine qtk (i := 4) (oi := { dst := some 35, op := Op.indexAddr 28 (.tmp 34) (.tmp 33), type := 0, pos := "tcp.go:148", after := #[{ on := 3, ground := Ground.data }, { on := 2, ground := Ground.data }], guard := none }) (v := (.pointer (some ⟨w.heap.size, 1, none⟩))) hHeld ?_ ?_
      · intro w9 hSw
        try dsimp only at hSw
        go_simp
      try simp only [qpu]
      refine qtk (i := 5) (oi := { dst := some 36, op := Op.load 27 (.tmp 35), type := 27, pos := "tcp.go:148", after := #[{ on := 4, ground := Ground.data }], guard := none }) (v := (.int .u32 n0)) hHeld ?_ ?_
      · intro w9 hSw
        try dsimp only at hSw
        have hcc := hSw.1.cell 1 (.int .u32 n0) rfl
        go_simp
      try simp only [qpu]
      refine wpAnyH_ready (rs := [1]) (by kernel_rfl) (by simp) ?_
      refine AllReadyH.cons (o := { dst := some 32, op := Op.call { callee := Callee.value (.func 108), args := #[.tmp 31], argTypes := #[110] }, type := 27, pos := "tcp.go:148", after := #[{ on := 0, ground := Ground.data }], guard := none }) rfl (fun K hK => ?_) AllReadyH.nil
      go_simp
      refine Calls.mono (KE.out _) ?_
      rintro e Wx81 ⟨rfl, bb⟩
      have Cx81 := Cd.kept bb
      have Gx81 := Gd.kept bb
      have Zx81 := Zd.kept bb
      have bx81 := bel_tr bd bb
      clear bb
      refine hK.out _ _ (by exact ⟨Cx81, Gx81⟩) (fun hHeld => ?_)
      clear hK K
      try simp only [qpu]
      refine wpAnyH_ready (rs := [6]) (by kernel_rfl) (by simp) ?_
      refine AllReadyH.cons (o := { dst := some 37, op := Op.call { callee := Callee.value (.func 111), args := #[.tmp 32, .tmp 36], argTypes := #[27, 27] }, type := 4, pos := "tcp.go:148", after := #[{ on := 1, ground := Ground.data }, { on := 5, ground := Ground.data }, { on := 1, ground := Ground.chain }], guard := none }) rfl (fun K hK => ?_) AllReadyH.nil
      go_simp
      refine Calls.mono (KP.out _) ?_
      rintro e Wx82 ⟨rfl, bb⟩
      have Cx82 := Cx81.kept bb
      have Gx82 := Gx81.kept bb
      have Zx82 := Zx81.kept bb
      have bx82 := bel_tr bx81 bb
      clear bb
      refine hK.out _ _ (by exact ⟨Cx82, Gx82⟩) (fun hHeld => ?_)
      clear hK K
      try simp only [qpu]
      cases P with
      | false =>
        refine wpAnyH_done (by kernel_rfl) ?_ _
        refine NoPanic.normal ?_
        go_wp2_with (first | (refine wpList_load_blk_w (by rfl) _ _ rfl w.heap.size (by rfl) _ Cx82 Try.underlying31 (by kernel_rfl) ?_) | (refine wpList_load_blk_w (by rfl) _ _ rfl W1.heap.size (by rfl) _ Gx82 Try.underlying110 (by kernel_rfl) ?_))
        have Cd := Cx82.drew
        have Gd := Gx82.drew
        have Zd := Zx82.drew
        have bd := bx82.drew
        refine wp_region_noPanic ?_
        refine wp_region_held_drew (S := fun w' => Blk w' w.heap.size 31 (Cn.v ⟨st, n0, n1, e0, e1, k0, k1, d0, d1⟩) ∧ Blk w' W1.heap.size 110 g.v) (by kernel_rfl) (by exact ⟨Cd, Gd⟩) (fun hHeld => ?_)
        refine qty (i := 0) (oi := fyp15o21) (v := (.agg g.v)) (yieldsIf_blk_w (by kernel_rfl) _ _ rfl W1.heap.size (by rfl) _ (fun _ hSw => hSw.2) Try.underlying110 (by kernel_rfl)) hHeld ?_
        try simp only [qpu]
        refine qtk (i := 2) (oi := fyp15o24) (v := (.int .i64 1)) hHeld ?_ ?_
        · intro w9 hSw
          try dsimp only at hSw
          go_simp
        try simp only [qpu]
        refine qtk (i := 3) (oi := fyp15o22) (v := (.pointer (some ⟨w.heap.size, 3, none⟩))) hHeld ?_ ?_
        · intro w9 hSw
          try dsimp only at hSw
          go_simp
        try simp only [qpu]
        refine qtk (i := 4) (oi := fyp15o10) (v := (.pointer (some ⟨w.heap.size, 4, none⟩))) hHeld ?_ ?_
        · intro w9 hSw
          try dsimp only at hSw
          go_simp
        try simp only [qpu]
        refine qtk (i := 5) (oi := fyp15o18) (v := (.int .u32 e1)) hHeld ?_ ?_
        · intro w9 hSw
          try dsimp only at hSw
          have hcc := hSw.1.cell 4 (.int .u32 e1) rfl
          go_simp
        try simp only [qpu]
        refine wpAnyH_ready (rs := [1]) (by kernel_rfl) (by simp) ?_
        refine AllReadyH.cons (o := fyp15o6) rfl (fun K hK => ?_) AllReadyH.nil
        go_simp
        refine Calls.mono (KL.out _) ?_
        rintro e Wx121 ⟨rfl, bb⟩
        have Cx121 := Cd.kept bb
        have Gx121 := Gd.kept bb
        have Zx121 := Zd.kept bb
        have bx121 := bel_tr bd bb
        clear bb
        refine hK.out _ _ (by exact ⟨Cx121, Gx121⟩) (fun hHeld => ?_)
        clear hK K
        try simp only [qpu]
        refine wpAnyH_ready (rs := [6]) (by kernel_rfl) (by simp) ?_
        refine AllReadyH.cons (o := fyp15o1) rfl (fun K hK => ?_) AllReadyH.nil
        go_simp
        refine Calls.mono (KO.out _) ?_
        rintro e Wx122 ⟨rfl, bb⟩
        have Cx122 := Cx121.kept bb
        have Gx122 := Gx121.kept bb
        have Zx122 := Zx121.kept bb
        have bx122 := bel_tr bx121 bb
        clear bb
        refine hK.out _ _ (by exact ⟨Cx122, Gx122⟩) (fun hHeld => ?_)
        clear hK K
        try simp only [qpu]
        cases O with
        | false =>
          refine wpAnyH_done (by kernel_rfl) ?_ _
          refine NoPanic.normal ?_
          go_wp2_with (first | (refine wpList_load_blk_w (by rfl) _ _ rfl w.heap.size (by rfl) _ Cx122 Try.underlying31 (by kernel_rfl) ?_) | (refine wpList_load_blk_w (by rfl) _ _ rfl W1.heap.size (by rfl) _ Gx122 Try.underlying110 (by kernel_rfl) ?_))
          refine Calls.mono (KF.out _) ?_
          rintro e Wx122f ⟨rfl, bb⟩
          have Cx122f := Cx122.kept bb
          have Gx122f := Gx122.kept bb
          have Zx122f := Zx122.kept bb
          have bx122f := bel_tr bx122 bb
          clear bb
          clear Cx122 Gx122 Zx122 bx122
          cases F with
          | false =>
            go_wp2_with (first | (refine wpList_load_blk_w (by rfl) _ _ rfl w.heap.size (by rfl) _ Cx122f Try.underlying31 (by kernel_rfl) ?_) | (refine wpList_load_blk_w (by rfl) _ _ rfl W1.heap.size (by rfl) _ Gx122f Try.underlying110 (by kernel_rfl) ?_) | (refine wpList_load_suba_w (by rfl) _ _ rfl w.heap.size 7 _ (by rfl) _ #[.bool d0, .bool d1] Cx122f (by rfl) Try.underlying29 (by kernel_rfl) ?_))
            refine Calls.mono (KS.out d0 d1 _) ?_
            rintro e Wx122fg ⟨rfl, bb⟩
            have Cx122fg := Cx122f.kept bb
            have Gx122fg := Gx122f.kept bb
            have Zx122fg := Zx122f.kept bb
            have bx122fg := bel_tr bx122f bb
            clear bb
            clear Cx122f Gx122f Zx122f bx122f
            have y0 := Cx122fg.cell 0 (.int .i64 st) rfl
            have z0 := Cx122fg.frozen 0
            obtain ⟨Wx122fgh, hWx122fgh⟩ : ∃ W, Wx122fg.setCell ⟨w.heap.size, 0, none⟩ (.int .i64 (stOf d0 d1)) = W := ⟨_, rfl⟩
            have Cx122fgh : Blk Wx122fgh w.heap.size 31 (Cn.v ⟨(stOf d0 d1), n0, n1, e0, e1, k0, k1, d0, d1⟩) := hWx122fgh ▸ Cx122fg.put 0 (.int .i64 (stOf d0 d1))
            have Gx122fgh := hWx122fgh ▸ Gx122fg.put_other Cx122fg nGC 0 (.int .i64 (stOf d0 d1))
            have Zx122fgh := hWx122fgh ▸ Zx122fg.put_other Cx122fg nZC 0 (.int .i64 (stOf d0 d1))
            have bx122fgh := hWx122fgh ▸ bx122fg.setCell (p := ⟨w.heap.size, 0, none⟩) (Nat.le_refl _) (.int .i64 (stOf d0 d1))
            have Zf := Zx122fgh.set (Cn.v ⟨(stOf d0 d1), n0, n1, e0, e1, k0, k1, d0, d1⟩)
            have bf := below_setRow bx122fgh gZ (Cn.v ⟨(stOf d0 d1), n0, n1, e0, e1, k0, k1, d0, d1⟩)
            go_wp2_with (first | (refine wpList_load_blk_w (by rfl) _ _ rfl w.heap.size (by rfl) _ Cx122fgh Try.underlying31 (by kernel_rfl) ?_) | (refine wpList_load_blk_w (by rfl) _ _ rfl W1.heap.size (by rfl) _ Gx122fgh Try.underlying110 (by kernel_rfl) ?_) | (refine wpList_store_row rfl _ _ _ rfl W2.heap.size (Cn.v ⟨(stOf d0 d1), n0, n1, e0, e1, k0, k1, d0, d1⟩) (by rfl) (by rfl) _ _ Zx122fgh (by kernel_rfl) (by rfl) (by kernel_rfl) ?_))
            obtain rfl : R = some ⟨(stOf d0 d1), n0, n1, e0, e1, k0, k1, d0, d1⟩ := by rw [← HR.out]; first | rfl | simp [sdI, stOf, Cn.nx, Cn.ed, Cn.kn, Cn.ans, Cn.byR, *]
            exact ret_cell_tmp (k := 6) (j := 7) Try.f100 (by kernel_rfl) Zf Try.underlying31 (by kernel_rfl) (by rfl) (by rfl) rfl ⟨rfl, bf⟩

          | true =>
            have y7 := Cx122f.cell 7 (.bool d0) rfl
            have z7 := Cx122f.frozen 7
            obtain ⟨Wx122fk, hWx122fk⟩ : ∃ W, Wx122f.setCell ⟨w.heap.size, 7, none⟩ (.bool true) = W := ⟨_, rfl⟩
            have Cx122fk : Blk Wx122fk w.heap.size 31 (Cn.v ⟨st, n0, n1, e0, e1, k0, k1, true, d1⟩) := hWx122fk ▸ Cx122f.put 7 (.bool true)
            have Gx122fk := hWx122fk ▸ Gx122f.put_other Cx122f nGC 7 (.bool true)
            have Zx122fk := hWx122fk ▸ Zx122f.put_other Cx122f nZC 7 (.bool true)
            have bx122fk := hWx122fk ▸ bx122f.setCell (p := ⟨w.heap.size, 7, none⟩) (Nat.le_refl _) (.bool true)
            go_wp2_with (first | (refine wpList_load_blk_w (by rfl) _ _ rfl w.heap.size (by rfl) _ Cx122fk Try.underlying31 (by kernel_rfl) ?_) | (refine wpList_load_blk_w (by rfl) _ _ rfl W1.heap.size (by rfl) _ Gx122fk Try.underlying110 (by kernel_rfl) ?_) | (refine wpList_load_suba_w (by rfl) _ _ rfl w.heap.size 7 _ (by rfl) _ #[.bool true, .bool d1] Cx122fk (by rfl) Try.underlying29 (by kernel_rfl) ?_))
            refine Calls.mono (KS.out true d1 _) ?_
            rintro e Wx122fkg ⟨rfl, bb⟩
            have Cx122fkg := Cx122fk.kept bb
            have Gx122fkg := Gx122fk.kept bb
            have Zx122fkg := Zx122fk.kept bb
            have bx122fkg := bel_tr bx122fk bb
            clear bb
            clear Cx122fk Gx122fk Zx122fk bx122fk
            have y0 := Cx122fkg.cell 0 (.int .i64 st) rfl
            have z0 := Cx122fkg.frozen 0
            obtain ⟨Wx122fkgh, hWx122fkgh⟩ : ∃ W, Wx122fkg.setCell ⟨w.heap.size, 0, none⟩ (.int .i64 (stOf true d1)) = W := ⟨_, rfl⟩
            have Cx122fkgh : Blk Wx122fkgh w.heap.size 31 (Cn.v ⟨(stOf true d1), n0, n1, e0, e1, k0, k1, true, d1⟩) := hWx122fkgh ▸ Cx122fkg.put 0 (.int .i64 (stOf true d1))
            have Gx122fkgh := hWx122fkgh ▸ Gx122fkg.put_other Cx122fkg nGC 0 (.int .i64 (stOf true d1))
            have Zx122fkgh := hWx122fkgh ▸ Zx122fkg.put_other Cx122fkg nZC 0 (.int .i64 (stOf true d1))
            have bx122fkgh := hWx122fkgh ▸ bx122fkg.setCell (p := ⟨w.heap.size, 0, none⟩) (Nat.le_refl _) (.int .i64 (stOf true d1))
            have Zf := Zx122fkgh.set (Cn.v ⟨(stOf true d1), n0, n1, e0, e1, k0, k1, true, d1⟩)
            have bf := below_setRow bx122fkgh gZ (Cn.v ⟨(stOf true d1), n0, n1, e0, e1, k0, k1, true, d1⟩)
            go_wp2_with (first | (refine wpList_load_blk_w (by rfl) _ _ rfl w.heap.size (by rfl) _ Cx122fkgh Try.underlying31 (by kernel_rfl) ?_) | (refine wpList_load_blk_w (by rfl) _ _ rfl W1.heap.size (by rfl) _ Gx122fkgh Try.underlying110 (by kernel_rfl) ?_) | (refine wpList_store_row rfl _ _ _ rfl W2.heap.size (Cn.v ⟨(stOf true d1), n0, n1, e0, e1, k0, k1, true, d1⟩) (by rfl) (by rfl) _ _ Zx122fkgh (by kernel_rfl) (by rfl) (by kernel_rfl) ?_))
            obtain rfl : R = some ⟨(stOf true d1), n0, n1, e0, e1, k0, k1, true, d1⟩ := by rw [← HR.out]; first | rfl | simp [sdI, stOf, Cn.nx, Cn.ed, Cn.kn, Cn.ans, Cn.byR, *]
            exact ret_cell_tmp (k := 6) (j := 7) Try.f100 (by kernel_rfl) Zf Try.underlying31 (by kernel_rfl) (by rfl) (by rfl) rfl ⟨rfl, bf⟩


        | true =>
          refine wpAnyH_done (by kernel_rfl) ?_ _
          refine NoPanic.normal ?_
          go_wp2_with (first | (refine wpList_load_blk_w (by rfl) _ _ rfl w.heap.size (by rfl) _ Cx122 Try.underlying31 (by kernel_rfl) ?_) | (refine wpList_load_blk_w (by rfl) _ _ rfl W1.heap.size (by rfl) _ Gx122 Try.underlying110 (by kernel_rfl) ?_))
          refine Calls.mono (KL.out _) ?_
          rintro e Wx122e ⟨rfl, bb⟩
          have Cx122e := Cx122.kept bb
          have Gx122e := Gx122.kept bb
          have Zx122e := Zx122.kept bb
          have bx122e := bel_tr bx122 bb
          clear bb
          clear Cx122 Gx122 Zx122 bx122
          have y4 := Cx122e.cell 4 (.int .u32 e1) rfl
          have z4 := Cx122e.frozen 4
          obtain ⟨Wx122p, hWx122p⟩ : ∃ W, Wx122e.setCell ⟨w.heap.size, 4, none⟩ (.int .u32 L) = W := ⟨_, rfl⟩
          have Cx122p : Blk Wx122p w.heap.size 31 (Cn.v ⟨st, n0, n1, e0, L, k0, k1, d0, d1⟩) := hWx122p ▸ Cx122e.put 4 (.int .u32 L)
          have Gx122p := hWx122p ▸ Gx122e.put_other Cx122e nGC 4 (.int .u32 L)
          have Zx122p := hWx122p ▸ Zx122e.put_other Cx122e nZC 4 (.int .u32 L)
          have bx122p := hWx122p ▸ bx122e.setCell (p := ⟨w.heap.size, 4, none⟩) (Nat.le_refl _) (.int .u32 L)
          go_wp2_with (first | (refine wpList_load_blk_w (by rfl) _ _ rfl w.heap.size (by rfl) _ Cx122p Try.underlying31 (by kernel_rfl) ?_) | (refine wpList_load_blk_w (by rfl) _ _ rfl W1.heap.size (by rfl) _ Gx122p Try.underlying110 (by kernel_rfl) ?_))
          refine Calls.mono (KF.out _) ?_
          rintro e Wx122pf ⟨rfl, bb⟩
          have Cx122pf := Cx122p.kept bb
          have Gx122pf := Gx122p.kept bb
          have Zx122pf := Zx122p.kept bb
          have bx122pf := bel_tr bx122p bb
          clear bb
          clear Cx122p Gx122p Zx122p bx122p
          cases F with
          | false =>
            go_wp2_with (first | (refine wpList_load_blk_w (by rfl) _ _ rfl w.heap.size (by rfl) _ Cx122pf Try.underlying31 (by kernel_rfl) ?_) | (refine wpList_load_blk_w (by rfl) _ _ rfl W1.heap.size (by rfl) _ Gx122pf Try.underlying110 (by kernel_rfl) ?_) | (refine wpList_load_suba_w (by rfl) _ _ rfl w.heap.size 7 _ (by rfl) _ #[.bool d0, .bool d1] Cx122pf (by rfl) Try.underlying29 (by kernel_rfl) ?_))
            refine Calls.mono (KS.out d0 d1 _) ?_
            rintro e Wx122pfg ⟨rfl, bb⟩
            have Cx122pfg := Cx122pf.kept bb
            have Gx122pfg := Gx122pf.kept bb
            have Zx122pfg := Zx122pf.kept bb
            have bx122pfg := bel_tr bx122pf bb
            clear bb
            clear Cx122pf Gx122pf Zx122pf bx122pf
            have y0 := Cx122pfg.cell 0 (.int .i64 st) rfl
            have z0 := Cx122pfg.frozen 0
            obtain ⟨Wx122pfgh, hWx122pfgh⟩ : ∃ W, Wx122pfg.setCell ⟨w.heap.size, 0, none⟩ (.int .i64 (stOf d0 d1)) = W := ⟨_, rfl⟩
            have Cx122pfgh : Blk Wx122pfgh w.heap.size 31 (Cn.v ⟨(stOf d0 d1), n0, n1, e0, L, k0, k1, d0, d1⟩) := hWx122pfgh ▸ Cx122pfg.put 0 (.int .i64 (stOf d0 d1))
            have Gx122pfgh := hWx122pfgh ▸ Gx122pfg.put_other Cx122pfg nGC 0 (.int .i64 (stOf d0 d1))
            have Zx122pfgh := hWx122pfgh ▸ Zx122pfg.put_other Cx122pfg nZC 0 (.int .i64 (stOf d0 d1))
            have bx122pfgh := hWx122pfgh ▸ bx122pfg.setCell (p := ⟨w.heap.size, 0, none⟩) (Nat.le_refl _) (.int .i64 (stOf d0 d1))
            have Zf := Zx122pfgh.set (Cn.v ⟨(stOf d0 d1), n0, n1, e0, L, k0, k1, d0, d1⟩)
            have bf := below_setRow bx122pfgh gZ (Cn.v ⟨(stOf d0 d1), n0, n1, e0, L, k0, k1, d0, d1⟩)
            go_wp2_with (first | (refine wpList_load_blk_w (by rfl) _ _ rfl w.heap.size (by rfl) _ Cx122pfgh Try.underlying31 (by kernel_rfl) ?_) | (refine wpList_load_blk_w (by rfl) _ _ rfl W1.heap.size (by rfl) _ Gx122pfgh Try.underlying110 (by kernel_rfl) ?_) | (refine wpList_store_row rfl _ _ _ rfl W2.heap.size (Cn.v ⟨(stOf d0 d1), n0, n1, e0, L, k0, k1, d0, d1⟩) (by rfl) (by rfl) _ _ Zx122pfgh (by kernel_rfl) (by rfl) (by kernel_rfl) ?_))
            obtain rfl : R = some ⟨(stOf d0 d1), n0, n1, e0, L, k0, k1, d0, d1⟩ := by rw [← HR.out]; first | rfl | simp [sdI, stOf, Cn.nx, Cn.ed, Cn.kn, Cn.ans, Cn.byR, *]
            exact ret_cell_tmp (k := 6) (j := 7) Try.f100 (by kernel_rfl) Zf Try.underlying31 (by kernel_rfl) (by rfl) (by rfl) rfl ⟨rfl, bf⟩

          | true =>
            have y7 := Cx122pf.cell 7 (.bool d0) rfl
            have z7 := Cx122pf.frozen 7
            obtain ⟨Wx122pfk, hWx122pfk⟩ : ∃ W, Wx122pf.setCell ⟨w.heap.size, 7, none⟩ (.bool true) = W := ⟨_, rfl⟩
            have Cx122pfk : Blk Wx122pfk w.heap.size 31 (Cn.v ⟨st, n0, n1, e0, L, k0, k1, true, d1⟩) := hWx122pfk ▸ Cx122pf.put 7 (.bool true)
            have Gx122pfk := hWx122pfk ▸ Gx122pf.put_other Cx122pf nGC 7 (.bool true)
            have Zx122pfk := hWx122pfk ▸ Zx122pf.put_other Cx122pf nZC 7 (.bool true)
            have bx122pfk := hWx122pfk ▸ bx122pf.setCell (p := ⟨w.heap.size, 7, none⟩) (Nat.le_refl _) (.bool true)
            go_wp2_with (first | (refine wpList_load_blk_w (by rfl) _ _ rfl w.heap.size (by rfl) _ Cx122pfk Try.underlying31 (by kernel_rfl) ?_) | (refine wpList_load_blk_w (by rfl) _ _ rfl W1.heap.size (by rfl) _ Gx122pfk Try.underlying110 (by kernel_rfl) ?_) | (refine wpList_load_suba_w (by rfl) _ _ rfl w.heap.size 7 _ (by rfl) _ #[.bool true, .bool d1] Cx122pfk (by rfl) Try.underlying29 (by kernel_rfl) ?_))
            refine Calls.mono (KS.out true d1 _) ?_
            rintro e Wx122pfkg ⟨rfl, bb⟩
            have Cx122pfkg := Cx122pfk.kept bb
            have Gx122pfkg := Gx122pfk.kept bb
            have Zx122pfkg := Zx122pfk.kept bb
            have bx122pfkg := bel_tr bx122pfk bb
            clear bb
            clear Cx122pfk Gx122pfk Zx122pfk bx122pfk
            have y0 := Cx122pfkg.cell 0 (.int .i64 st) rfl
            have z0 := Cx122pfkg.frozen 0
            obtain ⟨Wx122pfkgh, hWx122pfkgh⟩ : ∃ W, Wx122pfkg.setCell ⟨w.heap.size, 0, none⟩ (.int .i64 (stOf true d1)) = W := ⟨_, rfl⟩
            have Cx122pfkgh : Blk Wx122pfkgh w.heap.size 31 (Cn.v ⟨(stOf true d1), n0, n1, e0, L, k0, k1, true, d1⟩) := hWx122pfkgh ▸ Cx122pfkg.put 0 (.int .i64 (stOf true d1))
            have Gx122pfkgh := hWx122pfkgh ▸ Gx122pfkg.put_other Cx122pfkg nGC 0 (.int .i64 (stOf true d1))
            have Zx122pfkgh := hWx122pfkgh ▸ Zx122pfkg.put_other Cx122pfkg nZC 0 (.int .i64 (stOf true d1))
            have bx122pfkgh := hWx122pfkgh ▸ bx122pfkg.setCell (p := ⟨w.heap.size, 0, none⟩) (Nat.le_refl _) (.int .i64 (stOf true d1))
            have Zf := Zx122pfkgh.set (Cn.v ⟨(stOf true d1), n0, n1, e0, L, k0, k1, true, d1⟩)
            have bf := below_setRow bx122pfkgh gZ (Cn.v ⟨(stOf true d1), n0, n1, e0, L, k0, k1, true, d1⟩)
            go_wp2_with (first | (refine wpList_load_blk_w (by rfl) _ _ rfl w.heap.size (by rfl) _ Cx122pfkgh Try.underlying31 (by kernel_rfl) ?_) | (refine wpList_load_blk_w (by rfl) _ _ rfl W1.heap.size (by rfl) _ Gx122pfkgh Try.underlying110 (by kernel_rfl) ?_) | (refine wpList_store_row rfl _ _ _ rfl W2.heap.size (Cn.v ⟨(stOf true d1), n0, n1, e0, L, k0, k1, true, d1⟩) (by rfl) (by rfl) _ _ Zx122pfkgh (by kernel_rfl) (by rfl) (by kernel_rfl) ?_))
            obtain rfl : R = some ⟨(stOf true d1), n0, n1, e0, L, k0, k1, true, d1⟩ := by rw [← HR.out]; first | rfl | simp [sdI, stOf, Cn.nx, Cn.ed, Cn.kn, Cn.ans, Cn.byR, *]
            exact ret_cell_tmp (k := 6) (j := 7) Try.f100 (by kernel_rfl) Zf Try.underlying31 (by kernel_rfl) (by rfl) (by rfl) rfl ⟨rfl, bf⟩



      | true =>
        refine wpAnyH_done (by kernel_rfl) ?_ _
        refine NoPanic.normal ?_
        go_wp2_with (first | (refine wpList_load_blk_w (by rfl) _ _ rfl w.heap.size (by rfl) _ Cx82 Try.underlying31 (by kernel_rfl) ?_) | (refine wpList_load_blk_w (by rfl) _ _ rfl W1.heap.size (by rfl) _ Gx82 Try.underlying110 (by kernel_rfl) ?_))
        refine Calls.mono (KE.out _) ?_
        rintro e Wx82e ⟨rfl, bb⟩
        have Cx82e := Cx82.kept bb
        have Gx82e := Gx82.kept bb
        have Zx82e := Zx82.kept bb
        have bx82e := bel_tr bx82 bb
        clear bb
        clear Cx82 Gx82 Zx82 bx82
        have y1 := Cx82e.cell 1 (.int .u32 n0) rfl
        have z1 := Cx82e.frozen 1
        obtain ⟨Wx82p, hWx82p⟩ : ∃ W, Wx82e.setCell ⟨w.heap.size, 1, none⟩ (.int .u32 E) = W := ⟨_, rfl⟩
        have Cx82p : Blk Wx82p w.heap.size 31 (Cn.v ⟨st, E, n1, e0, e1, k0, k1, d0, d1⟩) := hWx82p ▸ Cx82e.put 1 (.int .u32 E)
        have Gx82p := hWx82p ▸ Gx82e.put_other Cx82e nGC 1 (.int .u32 E)
        have Zx82p := hWx82p ▸ Zx82e.put_other Cx82e nZC 1 (.int .u32 E)
        have bx82p := hWx82p ▸ bx82e.setCell (p := ⟨w.heap.size, 1, none⟩) (Nat.le_refl _) (.int .u32 E)
        go_wp2_with (first | (refine wpList_load_blk_w (by rfl) _ _ rfl w.heap.size (by rfl) _ Cx82p Try.underlying31 (by kernel_rfl) ?_) | (refine wpList_load_blk_w (by rfl) _ _ rfl W1.heap.size (by rfl) _ Gx82p Try.underlying110 (by kernel_rfl) ?_))
        have Cd := Cx82p.drew
        have Gd := Gx82p.drew
        have Zd := Zx82p.drew
        have bd := bx82p.drew
        refine wp_region_noPanic ?_
        refine wp_region_held_drew (S := fun w' => Blk w' w.heap.size 31 (Cn.v ⟨st, E, n1, e0, e1, k0, k1, d0, d1⟩) ∧ Blk w' W1.heap.size 110 g.v) (by kernel_rfl) (by exact ⟨Cd, Gd⟩) (fun hHeld => ?_)
        refine qty (i := 0) (oi := fyp15o21) (v := (.agg g.v)) (yieldsIf_blk_w (by kernel_rfl) _ _ rfl W1.heap.size (by rfl) _ (fun _ hSw => hSw.2) Try.underlying110 (by kernel_rfl)) hHeld ?_
        try simp only [qpu]
        refine qtk (i := 2) (oi := fyp15o24) (v := (.int .i64 1)) hHeld ?_ ?_
        · intro w9 hSw
          try dsimp only at hSw
          go_simp
        try simp only [qpu]
        refine qtk (i := 3) (oi := fyp15o22) (v := (.pointer (some ⟨w.heap.size, 3, none⟩))) hHeld ?_ ?_
        · intro w9 hSw
          try dsimp only at hSw
          go_simp
        try simp only [qpu]
        refine qtk (i := 4) (oi := fyp15o10) (v := (.pointer (some ⟨w.heap.size, 4, none⟩))) hHeld ?_ ?_
        · intro w9 hSw
          try dsimp only at hSw
          go_simp
        try simp only [qpu]
        refine qtk (i := 5) (oi := fyp15o18) (v := (.int .u32 e1)) hHeld ?_ ?_
        · intro w9 hSw
          try dsimp only at hSw
          have hcc := hSw.1.cell 4 (.int .u32 e1) rfl
          go_simp
        try simp only [qpu]
        refine wpAnyH_ready (rs := [1]) (by kernel_rfl) (by simp) ?_
        refine AllReadyH.cons (o := fyp15o6) rfl (fun K hK => ?_) AllReadyH.nil
        go_simp
        refine Calls.mono (KL.out _) ?_
        rintro e Wx161 ⟨rfl, bb⟩
        have Cx161 := Cd.kept bb
        have Gx161 := Gd.kept bb
        have Zx161 := Zd.kept bb
        have bx161 := bel_tr bd bb
        clear bb
        refine hK.out _ _ (by exact ⟨Cx161, Gx161⟩) (fun hHeld => ?_)
        clear hK K
        try simp only [qpu]
        refine wpAnyH_ready (rs := [6]) (by kernel_rfl) (by simp) ?_
        refine AllReadyH.cons (o := fyp15o1) rfl (fun K hK => ?_) AllReadyH.nil
        go_simp
        refine Calls.mono (KO.out _) ?_
        rintro e Wx162 ⟨rfl, bb⟩
        have Cx162 := Cx161.kept bb
        have Gx162 := Gx161.kept bb
        have Zx162 := Zx161.kept bb
        have bx162 := bel_tr bx161 bb
        clear bb
        refine hK.out _ _ (by exact ⟨Cx162, Gx162⟩) (fun hHeld => ?_)
        clear hK K
        try simp only [qpu]
        cases O with
        | false =>
          refine wpAnyH_done (by kernel_rfl) ?_ _
          refine NoPanic.normal ?_
          go_wp2_with (first | (refine wpList_load_blk_w (by rfl) _ _ rfl w.heap.size (by rfl) _ Cx162 Try.underlying31 (by kernel_rfl) ?_) | (refine wpList_load_blk_w (by rfl) _ _ rfl W1.heap.size (by rfl) _ Gx162 Try.underlying110 (by kernel_rfl) ?_))
          refine Calls.mono (KF.out _) ?_
          rintro e Wx162f ⟨rfl, bb⟩
          have Cx162f := Cx162.kept bb
          have Gx162f := Gx162.kept bb
          have Zx162f := Zx162.kept bb
          have bx162f := bel_tr bx162 bb
          clear bb
          clear Cx162 Gx162 Zx162 bx162
          cases F with
          | false =>
            go_wp2_with (first | (refine wpList_load_blk_w (by rfl) _ _ rfl w.heap.size (by rfl) _ Cx162f Try.underlying31 (by kernel_rfl) ?_) | (refine wpList_load_blk_w (by rfl) _ _ rfl W1.heap.size (by rfl) _ Gx162f Try.underlying110 (by kernel_rfl) ?_) | (refine wpList_load_suba_w (by rfl) _ _ rfl w.heap.size 7 _ (by rfl) _ #[.bool d0, .bool d1] Cx162f (by rfl) Try.underlying29 (by kernel_rfl) ?_))
            refine Calls.mono (KS.out d0 d1 _) ?_
            rintro e Wx162fg ⟨rfl, bb⟩
            have Cx162fg := Cx162f.kept bb
            have Gx162fg := Gx162f.kept bb
            have Zx162fg := Zx162f.kept bb
            have bx162fg := bel_tr bx162f bb
            clear bb
            clear Cx162f Gx162f Zx162f bx162f
            have y0 := Cx162fg.cell 0 (.int .i64 st) rfl
            have z0 := Cx162fg.frozen 0
            obtain ⟨Wx162fgh, hWx162fgh⟩ : ∃ W, Wx162fg.setCell ⟨w.heap.size, 0, none⟩ (.int .i64 (stOf d0 d1)) = W := ⟨_, rfl⟩
            have Cx162fgh : Blk Wx162fgh w.heap.size 31 (Cn.v ⟨(stOf d0 d1), E, n1, e0, e1, k0, k1, d0, d1⟩) := hWx162fgh ▸ Cx162fg.put 0 (.int .i64 (stOf d0 d1))
            have Gx162fgh := hWx162fgh ▸ Gx162fg.put_other Cx162fg nGC 0 (.int .i64 (stOf d0 d1))
            have Zx162fgh := hWx162fgh ▸ Zx162fg.put_other Cx162fg nZC 0 (.int .i64 (stOf d0 d1))
            have bx162fgh := hWx162fgh ▸ bx162fg.setCell (p := ⟨w.heap.size, 0, none⟩) (Nat.le_refl _) (.int .i64 (stOf d0 d1))
            have Zf := Zx162fgh.set (Cn.v ⟨(stOf d0 d1), E, n1, e0, e1, k0, k1, d0, d1⟩)
            have bf := below_setRow bx162fgh gZ (Cn.v ⟨(stOf d0 d1), E, n1, e0, e1, k0, k1, d0, d1⟩)
            go_wp2_with (first | (refine wpList_load_blk_w (by rfl) _ _ rfl w.heap.size (by rfl) _ Cx162fgh Try.underlying31 (by kernel_rfl) ?_) | (refine wpList_load_blk_w (by rfl) _ _ rfl W1.heap.size (by rfl) _ Gx162fgh Try.underlying110 (by kernel_rfl) ?_) | (refine wpList_store_row rfl _ _ _ rfl W2.heap.size (Cn.v ⟨(stOf d0 d1), E, n1, e0, e1, k0, k1, d0, d1⟩) (by rfl) (by rfl) _ _ Zx162fgh (by kernel_rfl) (by rfl) (by kernel_rfl) ?_))
            obtain rfl : R = some ⟨(stOf d0 d1), E, n1, e0, e1, k0, k1, d0, d1⟩ := by rw [← HR.out]; first | rfl | simp [sdI, stOf, Cn.nx, Cn.ed, Cn.kn, Cn.ans, Cn.byR, *]
            exact ret_cell_tmp (k := 6) (j := 7) Try.f100 (by kernel_rfl) Zf Try.underlying31 (by kernel_rfl) (by rfl) (by rfl) rfl ⟨rfl, bf⟩

          | true =>
            have y7 := Cx162f.cell 7 (.bool d0) rfl
            have z7 := Cx162f.frozen 7
            obtain ⟨Wx162fk, hWx162fk⟩ : ∃ W, Wx162f.setCell ⟨w.heap.size, 7, none⟩ (.bool true) = W := ⟨_, rfl⟩
            have Cx162fk : Blk Wx162fk w.heap.size 31 (Cn.v ⟨st, E, n1, e0, e1, k0, k1, true, d1⟩) := hWx162fk ▸ Cx162f.put 7 (.bool true)
            have Gx162fk := hWx162fk ▸ Gx162f.put_other Cx162f nGC 7 (.bool true)
            have Zx162fk := hWx162fk ▸ Zx162f.put_other Cx162f nZC 7 (.bool true)
            have bx162fk := hWx162fk ▸ bx162f.setCell (p := ⟨w.heap.size, 7, none⟩) (Nat.le_refl _) (.bool true)
            go_wp2_with (first | (refine wpList_load_blk_w (by rfl) _ _ rfl w.heap.size (by rfl) _ Cx162fk Try.underlying31 (by kernel_rfl) ?_) | (refine wpList_load_blk_w (by rfl) _ _ rfl W1.heap.size (by rfl) _ Gx162fk Try.underlying110 (by kernel_rfl) ?_) | (refine wpList_load_suba_w (by rfl) _ _ rfl w.heap.size 7 _ (by rfl) _ #[.bool true, .bool d1] Cx162fk (by rfl) Try.underlying29 (by kernel_rfl) ?_))
            refine Calls.mono (KS.out true d1 _) ?_
            rintro e Wx162fkg ⟨rfl, bb⟩
            have Cx162fkg := Cx162fk.kept bb
            have Gx162fkg := Gx162fk.kept bb
            have Zx162fkg := Zx162fk.kept bb
            have bx162fkg := bel_tr bx162fk bb
            clear bb
            clear Cx162fk Gx162fk Zx162fk bx162fk
            have y0 := Cx162fkg.cell 0 (.int .i64 st) rfl
            have z0 := Cx162fkg.frozen 0
            obtain ⟨Wx162fkgh, hWx162fkgh⟩ : ∃ W, Wx162fkg.setCell ⟨w.heap.size, 0, none⟩ (.int .i64 (stOf true d1)) = W := ⟨_, rfl⟩
            have Cx162fkgh : Blk Wx162fkgh w.heap.size 31 (Cn.v ⟨(stOf true d1), E, n1, e0, e1, k0, k1, true, d1⟩) := hWx162fkgh ▸ Cx162fkg.put 0 (.int .i64 (stOf true d1))
            have Gx162fkgh := hWx162fkgh ▸ Gx162fkg.put_other Cx162fkg nGC 0 (.int .i64 (stOf true d1))
            have Zx162fkgh := hWx162fkgh ▸ Zx162fkg.put_other Cx162fkg nZC 0 (.int .i64 (stOf true d1))
            have bx162fkgh := hWx162fkgh ▸ bx162fkg.setCell (p := ⟨w.heap.size, 0, none⟩) (Nat.le_refl _) (.int .i64 (stOf true d1))
            have Zf := Zx162fkgh.set (Cn.v ⟨(stOf true d1), E, n1, e0, e1, k0, k1, true, d1⟩)
            have bf := below_setRow bx162fkgh gZ (Cn.v ⟨(stOf true d1), E, n1, e0, e1, k0, k1, true, d1⟩)
            go_wp2_with (first | (refine wpList_load_blk_w (by rfl) _ _ rfl w.heap.size (by rfl) _ Cx162fkgh Try.underlying31 (by kernel_rfl) ?_) | (refine wpList_load_blk_w (by rfl) _ _ rfl W1.heap.size (by rfl) _ Gx162fkgh Try.underlying110 (by kernel_rfl) ?_) | (refine wpList_store_row rfl _ _ _ rfl W2.heap.size (Cn.v ⟨(stOf true d1), E, n1, e0, e1, k0, k1, true, d1⟩) (by rfl) (by rfl) _ _ Zx162fkgh (by kernel_rfl) (by rfl) (by kernel_rfl) ?_))
            obtain rfl : R = some ⟨(stOf true d1), E, n1, e0, e1, k0, k1, true, d1⟩ := by rw [← HR.out]; first | rfl | simp [sdI, stOf, Cn.nx, Cn.ed, Cn.kn, Cn.ans, Cn.byR, *]
            exact ret_cell_tmp (k := 6) (j := 7) Try.f100 (by kernel_rfl) Zf Try.underlying31 (by kernel_rfl) (by rfl) (by rfl) rfl ⟨rfl, bf⟩


        | true =>
          refine wpAnyH_done (by kernel_rfl) ?_ _
          refine NoPanic.normal ?_
          go_wp2_with (first | (refine wpList_load_blk_w (by rfl) _ _ rfl w.heap.size (by rfl) _ Cx162 Try.underlying31 (by kernel_rfl) ?_) | (refine wpList_load_blk_w (by rfl) _ _ rfl W1.heap.size (by rfl) _ Gx162 Try.underlying110 (by kernel_rfl) ?_))
          refine Calls.mono (KL.out _) ?_
          rintro e Wx162e ⟨rfl, bb⟩
          have Cx162e := Cx162.kept bb
          have Gx162e := Gx162.kept bb
          have Zx162e := Zx162.kept bb
          have bx162e := bel_tr bx162 bb
          clear bb
          clear Cx162 Gx162 Zx162 bx162
          have y4 := Cx162e.cell 4 (.int .u32 e1) rfl
          have z4 := Cx162e.frozen 4
          obtain ⟨Wx162p, hWx162p⟩ : ∃ W, Wx162e.setCell ⟨w.heap.size, 4, none⟩ (.int .u32 L) = W := ⟨_, rfl⟩
          have Cx162p : Blk Wx162p w.heap.size 31 (Cn.v ⟨st, E, n1, e0, L, k0, k1, d0, d1⟩) := hWx162p ▸ Cx162e.put 4 (.int .u32 L)
          have Gx162p := hWx162p ▸ Gx162e.put_other Cx162e nGC 4 (.int .u32 L)
          have Zx162p := hWx162p ▸ Zx162e.put_other Cx162e nZC 4 (.int .u32 L)
          have bx162p := hWx162p ▸ bx162e.setCell (p := ⟨w.heap.size, 4, none⟩) (Nat.le_refl _) (.int .u32 L)
          go_wp2_with (first | (refine wpList_load_blk_w (by rfl) _ _ rfl w.heap.size (by rfl) _ Cx162p Try.underlying31 (by kernel_rfl) ?_) | (refine wpList_load_blk_w (by rfl) _ _ rfl W1.heap.size (by rfl) _ Gx162p Try.underlying110 (by kernel_rfl) ?_))
          refine Calls.mono (KF.out _) ?_
          rintro e Wx162pf ⟨rfl, bb⟩
          have Cx162pf := Cx162p.kept bb
          have Gx162pf := Gx162p.kept bb
          have Zx162pf := Zx162p.kept bb
          have bx162pf := bel_tr bx162p bb
          clear bb
          clear Cx162p Gx162p Zx162p bx162p
          cases F with
          | false =>
            go_wp2_with (first | (refine wpList_load_blk_w (by rfl) _ _ rfl w.heap.size (by rfl) _ Cx162pf Try.underlying31 (by kernel_rfl) ?_) | (refine wpList_load_blk_w (by rfl) _ _ rfl W1.heap.size (by rfl) _ Gx162pf Try.underlying110 (by kernel_rfl) ?_) | (refine wpList_load_suba_w (by rfl) _ _ rfl w.heap.size 7 _ (by rfl) _ #[.bool d0, .bool d1] Cx162pf (by rfl) Try.underlying29 (by kernel_rfl) ?_))
            refine Calls.mono (KS.out d0 d1 _) ?_
            rintro e Wx162pfg ⟨rfl, bb⟩
            have Cx162pfg := Cx162pf.kept bb
            have Gx162pfg := Gx162pf.kept bb
            have Zx162pfg := Zx162pf.kept bb
            have bx162pfg := bel_tr bx162pf bb
            clear bb
            clear Cx162pf Gx162pf Zx162pf bx162pf
            have y0 := Cx162pfg.cell 0 (.int .i64 st) rfl
            have z0 := Cx162pfg.frozen 0
            obtain ⟨Wx162pfgh, hWx162pfgh⟩ : ∃ W, Wx162pfg.setCell ⟨w.heap.size, 0, none⟩ (.int .i64 (stOf d0 d1)) = W := ⟨_, rfl⟩
            have Cx162pfgh : Blk Wx162pfgh w.heap.size 31 (Cn.v ⟨(stOf d0 d1), E, n1, e0, L, k0, k1, d0, d1⟩) := hWx162pfgh ▸ Cx162pfg.put 0 (.int .i64 (stOf d0 d1))
            have Gx162pfgh := hWx162pfgh ▸ Gx162pfg.put_other Cx162pfg nGC 0 (.int .i64 (stOf d0 d1))
            have Zx162pfgh := hWx162pfgh ▸ Zx162pfg.put_other Cx162pfg nZC 0 (.int .i64 (stOf d0 d1))
            have bx162pfgh := hWx162pfgh ▸ bx162pfg.setCell (p := ⟨w.heap.size, 0, none⟩) (Nat.le_refl _) (.int .i64 (stOf d0 d1))
            have Zf := Zx162pfgh.set (Cn.v ⟨(stOf d0 d1), E, n1, e0, L, k0, k1, d0, d1⟩)
            have bf := below_setRow bx162pfgh gZ (Cn.v ⟨(stOf d0 d1), E, n1, e0, L, k0, k1, d0, d1⟩)
            go_wp2_with (first | (refine wpList_load_blk_w (by rfl) _ _ rfl w.heap.size (by rfl) _ Cx162pfgh Try.underlying31 (by kernel_rfl) ?_) | (refine wpList_load_blk_w (by rfl) _ _ rfl W1.heap.size (by rfl) _ Gx162pfgh Try.underlying110 (by kernel_rfl) ?_) | (refine wpList_store_row rfl _ _ _ rfl W2.heap.size (Cn.v ⟨(stOf d0 d1), E, n1, e0, L, k0, k1, d0, d1⟩) (by rfl) (by rfl) _ _ Zx162pfgh (by kernel_rfl) (by rfl) (by kernel_rfl) ?_))
            obtain rfl : R = some ⟨(stOf d0 d1), E, n1, e0, L, k0, k1, d0, d1⟩ := by rw [← HR.out]; first | rfl | simp [sdI, stOf, Cn.nx, Cn.ed, Cn.kn, Cn.ans, Cn.byR, *]
            exact ret_cell_tmp (k := 6) (j := 7) Try.f100 (by kernel_rfl) Zf Try.underlying31 (by kernel_rfl) (by rfl) (by rfl) rfl ⟨rfl, bf⟩

          | true =>
            have y7 := Cx162pf.cell 7 (.bool d0) rfl
            have z7 := Cx162pf.frozen 7
            obtain ⟨Wx162pfk, hWx162pfk⟩ : ∃ W, Wx162pf.setCell ⟨w.heap.size, 7, none⟩ (.bool true) = W := ⟨_, rfl⟩
            have Cx162pfk : Blk Wx162pfk w.heap.size 31 (Cn.v ⟨st, E, n1, e0, L, k0, k1, true, d1⟩) := hWx162pfk ▸ Cx162pf.put 7 (.bool true)
            have Gx162pfk := hWx162pfk ▸ Gx162pf.put_other Cx162pf nGC 7 (.bool true)
            have Zx162pfk := hWx162pfk ▸ Zx162pf.put_other Cx162pf nZC 7 (.bool true)
            have bx162pfk := hWx162pfk ▸ bx162pf.setCell (p := ⟨w.heap.size, 7, none⟩) (Nat.le_refl _) (.bool true)
            go_wp2_with (first | (refine wpList_load_blk_w (by rfl) _ _ rfl w.heap.size (by rfl) _ Cx162pfk Try.underlying31 (by kernel_rfl) ?_) | (refine wpList_load_blk_w (by rfl) _ _ rfl W1.heap.size (by rfl) _ Gx162pfk Try.underlying110 (by kernel_rfl) ?_) | (refine wpList_load_suba_w (by rfl) _ _ rfl w.heap.size 7 _ (by rfl) _ #[.bool true, .bool d1] Cx162pfk (by rfl) Try.underlying29 (by kernel_rfl) ?_))
            refine Calls.mono (KS.out true d1 _) ?_
            rintro e Wx162pfkg ⟨rfl, bb⟩
            have Cx162pfkg := Cx162pfk.kept bb
            have Gx162pfkg := Gx162pfk.kept bb
            have Zx162pfkg := Zx162pfk.kept bb
            have bx162pfkg := bel_tr bx162pfk bb
            clear bb
            clear Cx162pfk Gx162pfk Zx162pfk bx162pfk
            have y0 := Cx162pfkg.cell 0 (.int .i64 st) rfl
            have z0 := Cx162pfkg.frozen 0
            obtain ⟨Wx162pfkgh, hWx162pfkgh⟩ : ∃ W, Wx162pfkg.setCell ⟨w.heap.size, 0, none⟩ (.int .i64 (stOf true d1)) = W := ⟨_, rfl⟩
            have Cx162pfkgh : Blk Wx162pfkgh w.heap.size 31 (Cn.v ⟨(stOf true d1), E, n1, e0, L, k0, k1, true, d1⟩) := hWx162pfkgh ▸ Cx162pfkg.put 0 (.int .i64 (stOf true d1))
            have Gx162pfkgh := hWx162pfkgh ▸ Gx162pfkg.put_other Cx162pfkg nGC 0 (.int .i64 (stOf true d1))
            have Zx162pfkgh := hWx162pfkgh ▸ Zx162pfkg.put_other Cx162pfkg nZC 0 (.int .i64 (stOf true d1))
            have bx162pfkgh := hWx162pfkgh ▸ bx162pfkg.setCell (p := ⟨w.heap.size, 0, none⟩) (Nat.le_refl _) (.int .i64 (stOf true d1))
            have Zf := Zx162pfkgh.set (Cn.v ⟨(stOf true d1), E, n1, e0, L, k0, k1, true, d1⟩)
            have bf := below_setRow bx162pfkgh gZ (Cn.v ⟨(stOf true d1), E, n1, e0, L, k0, k1, true, d1⟩)
            go_wp2_with (first | (refine wpList_load_blk_w (by rfl) _ _ rfl w.heap.size (by rfl) _ Cx162pfkgh Try.underlying31 (by kernel_rfl) ?_) | (refine wpList_load_blk_w (by rfl) _ _ rfl W1.heap.size (by rfl) _ Gx162pfkgh Try.underlying110 (by kernel_rfl) ?_) | (refine wpList_store_row rfl _ _ _ rfl W2.heap.size (Cn.v ⟨(stOf true d1), E, n1, e0, L, k0, k1, true, d1⟩) (by rfl) (by rfl) _ _ Zx162pfkgh (by kernel_rfl) (by rfl) (by kernel_rfl) ?_))
            obtain rfl : R = some ⟨(stOf true d1), E, n1, e0, L, k0, k1, true, d1⟩ := by rw [← HR.out]; first | rfl | simp [sdI, stOf, Cn.nx, Cn.ed, Cn.kn, Cn.ans, Cn.byR, *]
            exact ret_cell_tmp (k := 6) (j := 7) Try.f100 (by kernel_rfl) Zf Try.underlying31 (by kernel_rfl) (by rfl) (by rfl) rfl ⟨rfl, bf⟩
end Go.Proofs.Ytmjjdbkipagkbaa
