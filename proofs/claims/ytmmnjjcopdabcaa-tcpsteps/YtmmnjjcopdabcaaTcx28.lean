/- Texts joined: TcK -/
import Derived.Test.YtmmnjjcopdabcaaTcx16
namespace Go.Proofs.Ytmmnjjcopdabcaa
abbrev tcx28o0 : Oper := { dst := some 6, op := Op.assign (.tmp 29), type := 4, pos := "ref.go:73", after := #[{ on := 22, ground := Ground.data }, { on := 21, ground := Ground.chain }, { on := 0, ground := Ground.phase }, { on := 1, ground := Ground.phase }, { on := 2, ground := Ground.phase }, { on := 3, ground := Ground.phase }, { on := 4, ground := Ground.phase }, { on := 5, ground := Ground.phase }, { on := 6, ground := Ground.phase }, { on := 7, ground := Ground.phase }, { on := 8, ground := Ground.phase }, { on := 9, ground := Ground.phase }, { on := 10, ground := Ground.phase }, { on := 11, ground := Ground.phase }, { on := 12, ground := Ground.phase }, { on := 13, ground := Ground.phase }, { on := 14, ground := Ground.phase }, { on := 15, ground := Ground.phase }, { on := 16, ground := Ground.phase }, { on := 17, ground := Ground.phase }, { on := 18, ground := Ground.phase }, { on := 19, ground := Ground.phase }, { on := 20, ground := Ground.phase }, { on := 21, ground := Ground.phase }, { on := 22, ground := Ground.phase }], guard := none }
abbrev tcx28o1 : Oper := { dst := some 28, op := Op.call { callee := Callee.value (.func 27), args := #[.tmp 25, .tmp 27], argTypes := #[22, 22] }, type := 4, pos := "ref.go:73", after := #[{ on := 18, ground := Ground.data }, { on := 20, ground := Ground.data }, { on := 20, ground := Ground.chain }, { on := 14, ground := Ground.guard }], guard := some (14, true) }
abbrev tcx28o2 : Oper := { dst := some 27, op := Op.call { callee := Callee.value (.func 28), args := #[.tmp 26], argTypes := #[24] }, type := 22, pos := "ref.go:73", after := #[{ on := 19, ground := Ground.data }, { on := 14, ground := Ground.chain }, { on := 14, ground := Ground.guard }], guard := some (14, true) }
abbrev tcx28o3 : Oper := { dst := some 19, op := Op.call { callee := Callee.value (.func 27), args := #[.tmp 13, .tmp 18], argTypes := #[22, 22] }, type := 4, pos := "ref.go:73", after := #[{ on := 6, ground := Ground.data }, { on := 11, ground := Ground.data }, { on := 6, ground := Ground.chain }, { on := 4, ground := Ground.guard }], guard := some (4, true) }
abbrev tcx28o4 : Oper := { dst := some 24, op := Op.indexAddr 25 (.tmp 23) (.tmp 22), type := 0, pos := "ref.go:73", after := #[{ on := 16, ground := Ground.data }, { on := 15, ground := Ground.data }, { on := 14, ground := Ground.guard }], guard := some (14, true) }
abbrev tcx28o5 : Oper := { dst := some 13, op := Op.call { callee := Callee.value (.func 28), args := #[.tmp 12], argTypes := #[24] }, type := 22, pos := "ref.go:73", after := #[{ on := 5, ground := Ground.data }, { on := 4, ground := Ground.chain }, { on := 4, ground := Ground.guard }], guard := some (4, true) }
abbrev tcx28o6 : Oper := { dst := some 29, op := Op.pick (.tmp 21) (.tmp 28) (.const (.bool false)), type := 4, pos := "ref.go:73", after := #[{ on := 14, ground := Ground.data }, { on := 21, ground := Ground.data }], guard := none }
abbrev tcx28o7 : Oper := { dst := some 20, op := Op.pick (.tmp 11) (.tmp 19) (.const (.bool false)), type := 4, pos := "ref.go:73", after := #[{ on := 4, ground := Ground.data }, { on := 12, ground := Ground.data }], guard := none }
abbrev tcx28o8 : Oper := { dst := some 25, op := Op.load 22 (.tmp 24), type := 22, pos := "ref.go:73", after := #[{ on := 17, ground := Ground.data }, { on := 14, ground := Ground.guard }], guard := some (14, true) }
abbrev tcx28o9 : Oper := { dst := some 26, op := Op.load 24 (.tmp 5), type := 24, pos := "ref.go:73", after := #[{ on := 14, ground := Ground.guard }], guard := some (14, true) }
abbrev tcx28o10 : Oper := { dst := some 21, op := Op.move (.tmp 20), type := 4, pos := "ref.go:73", after := #[{ on := 13, ground := Ground.data }, { on := 12, ground := Ground.chain }], guard := none }
abbrev tcx28o11 : Oper := { dst := some 18, op := Op.binOp BinOp.sub 22 (.tmp 17) (.const (.int .u32 65535)) 22, type := 22, pos := "ref.go:73", after := #[{ on := 10, ground := Ground.data }, { on := 4, ground := Ground.guard }], guard := some (4, true) }
abbrev tcx28o12 : Oper := { dst := some 23, op := Op.fieldAddr 28 (.tmp 3) 2, type := 0, pos := "ref.go:73", after := #[{ on := 14, ground := Ground.guard }], guard := some (14, true) }
abbrev tcx28o13 : Oper := { dst := some 16, op := Op.indexAddr 25 (.tmp 15) (.tmp 14), type := 0, pos := "ref.go:73", after := #[{ on := 8, ground := Ground.data }, { on := 7, ground := Ground.data }, { on := 4, ground := Ground.guard }], guard := some (4, true) }
abbrev tcx28o14 : Oper := { dst := some 22, op := Op.move (.tmp 1), type := 3, pos := "ref.go:73", after := #[{ on := 14, ground := Ground.guard }], guard := some (14, true) }
abbrev tcx28o15 : Oper := { dst := some 17, op := Op.load 22 (.tmp 16), type := 22, pos := "ref.go:73", after := #[{ on := 9, ground := Ground.data }, { on := 4, ground := Ground.guard }], guard := some (4, true) }
abbrev tcx28o16 : Oper := { dst := some 9, op := Op.indexAddr 26 (.tmp 8) (.tmp 7), type := 0, pos := "ref.go:73", after := #[{ on := 1, ground := Ground.data }, { on := 0, ground := Ground.data }], guard := none }
abbrev tcx28o17 : Oper := { dst := some 12, op := Op.load 24 (.tmp 5), type := 24, pos := "ref.go:73", after := #[{ on := 4, ground := Ground.guard }], guard := some (4, true) }
abbrev tcx28o18 : Oper := { dst := some 15, op := Op.fieldAddr 28 (.tmp 3) 1, type := 0, pos := "ref.go:73", after := #[{ on := 4, ground := Ground.guard }], guard := some (4, true) }
abbrev tcx28o19 : Oper := { dst := some 14, op := Op.move (.tmp 1), type := 3, pos := "ref.go:73", after := #[{ on := 4, ground := Ground.guard }], guard := some (4, true) }
abbrev tcx28o20 : Oper := { dst := some 10, op := Op.load 4 (.tmp 9), type := 4, pos := "ref.go:73", after := #[{ on := 2, ground := Ground.data }], guard := none }
abbrev tcx28o21 : Oper := { dst := some 11, op := Op.move (.tmp 10), type := 4, pos := "ref.go:73", after := #[{ on := 3, ground := Ground.data }], guard := none }
abbrev tcx28o22 : Oper := { dst := some 8, op := Op.fieldAddr 28 (.tmp 3) 3, type := 0, pos := "ref.go:73", after := #[], guard := none }
abbrev tcx28o23 : Oper := { dst := some 7, op := Op.move (.tmp 1), type := 3, pos := "ref.go:73", after := #[], guard := none }
end Go.Proofs.Ytmmnjjcopdabcaa
namespace Go.Proofs.Ytmmnjjcopdabcaa
open Go.RowKit
set_option linter.unusedVariables false
set_option linter.unusedSimpArgs false
def Cn.ret (o : Option Cn) : Cn × Int := match o with | some d => (d, 0) | none => (cn0, 23)
set_option maxRecDepth 100000 in
set_option maxHeartbeats 4000000 in
theorem rwindow0_tc (c : Cn) (g : Gt) (w : World) :
  Calls Try.prog 25 #[.agg c.v, .int .i64 0, .agg g.v] w fun e w' => e = .returned (.bool (c.win false g)) ∧ Below w.heap.size w w' := by
 obtain ⟨V, hV⟩ : ∃ V, c.win false g = V := ⟨_, rfl⟩
 have HV : Hid ((c.k0 && wiB g.e c.n0 c.e0) = V) := hV
 rw [hV]
 clear hV
 have KE : Hid (∀ W, Calls Try.prog 28 #[.agg g.v] W fun e w' => e = .returned (.int .u32 g.e) ∧ Below W.heap.size W w') := fun W => rend_tc g W
 have K1 : Hid (∀ W, Calls Try.prog 27 #[.int .u32 g.e, .int .u32 ((c.n0 - 65535) % 4294967296)] W fun e w' => e = .returned (.bool (frB g.e ((c.n0 - 65535) % 4294967296))) ∧ Below W.heap.size W w') := fun W => rfrom_tc _ _ W
 have K2 : Hid (∀ W, Calls Try.prog 27 #[.int .u32 c.e0, .int .u32 g.e] W fun e w' => e = .returned (.bool (frB c.e0 g.e)) ∧ Below W.heap.size W w') := fun W => rfrom_tc _ _ W
 have HV : Hid ((c.k0 && (frB g.e ((c.n0 - 65535) % 4294967296) && frB c.e0 g.e)) = V) := HV
 generalize hP : frB g.e ((c.n0 - 65535) % 4294967296) = P at *
 generalize hQ : frB c.e0 g.e = Q at *
 clear hP hQ
 generalize g.e = E at *
 obtain ⟨st, n0, n1, e0, e1, k0, k1, d0, d1⟩ := c
 dsimp only at *
 obtain ⟨W1, hW1⟩ : ∃ W, w.alloc (.cells (Cn.v ⟨st, n0, n1, e0, e1, k0, k1, d0, d1⟩) 28) = W := ⟨_, rfl⟩
 have b1 := bel_nw hW1
 have C1 := blk_nw hW1
 obtain ⟨W2, hW2⟩ : ∃ W, W1.alloc (.cells g.v 24) = W := ⟨_, rfl⟩
 have b2 := bel_al b1 hW2
 have C2 := C1.al hW2
 have G2 := blk_nw hW2
 clear b1 C1
 go_enter Try.func25, Try.ntmps25
 go_wp2_with fail
 cases k0 with
 | false =>
  have Cd := C2.drew
  have Gd := G2.drew
  have bd := b2.drew
  refine wp_region_noPanic ?_
  refine wp_region_held_drew (S := fun w' => Blk w' w.heap.size 28 (Cn.v ⟨st, n0, n1, e0, e1, false, k1, d0, d1⟩) ∧ Blk w' W1.heap.size 24 g.v) (by kernel_rfl) (by exact ⟨Cd, Gd⟩) (fun hHeld => ?_)
  refine qtk (i := 0) (oi := tcx28o23) (v := (.int .i64 0)) hHeld ?_ ?_
  ·intro w9 hSw
   try dsimp only at hSw
   go_simp
  try simp only [qpu]
  refine qtk (i := 1) (oi := tcx28o22) (v := (.pointer (some ⟨w.heap.size, 5, none⟩))) hHeld ?_ ?_
  ·intro w9 hSw
   try dsimp only at hSw
   go_simp
  try simp only [qpu]
  refine qtk (i := 2) (oi := tcx28o16) (v := (.pointer (some ⟨w.heap.size, 5, none⟩))) hHeld ?_ ?_
  ·intro w9 hSw
   try dsimp only at hSw
   go_simp
  try simp only [qpu]
  refine qtk (i := 3) (oi := tcx28o20) (v := (.bool false)) hHeld ?_ ?_
  ·intro w9 hSw
   try dsimp only at hSw
   have hcc := hSw.1.cell 5 (.bool false) rfl
   go_simp
  try simp only [qpu]
  refine qtk (i := 4) (oi := tcx28o21) (v := (.bool false)) hHeld ?_ ?_
  ·intro w9 hSw
   try dsimp only at hSw
   go_simp
  try simp only [qpu]
  refine qtn (i := 5) (oi := tcx28o17) hHeld ?_
  try simp only [qpu]
  refine qtn (i := 6) (oi := tcx28o5) hHeld ?_
  try simp only [qpu]
  refine qtn (i := 7) (oi := tcx28o19) hHeld ?_
  try simp only [qpu]
  refine qtn (i := 8) (oi := tcx28o18) hHeld ?_
  try simp only [qpu]
  refine qtn (i := 9) (oi := tcx28o13) hHeld ?_
  try simp only [qpu]
  refine qtn (i := 10) (oi := tcx28o15) hHeld ?_
  try simp only [qpu]
  refine qtn (i := 11) (oi := tcx28o11) hHeld ?_
  try simp only [qpu]
  refine qtn (i := 12) (oi := tcx28o3) hHeld ?_
  try simp only [qpu]
  refine qtk (i := 13) (oi := tcx28o7) (v := (.bool false)) hHeld ?_ ?_
  ·intro w9 hSw
   try dsimp only at hSw
   go_simp
  try simp only [qpu]
  refine qtk (i := 14) (oi := tcx28o10) (v := (.bool false)) hHeld ?_ ?_
  ·intro w9 hSw
   try dsimp only at hSw
   go_simp
  try simp only [qpu]
  refine qtn (i := 15) (oi := tcx28o14) hHeld ?_
  try simp only [qpu]
  refine qtn (i := 16) (oi := tcx28o12) hHeld ?_
  try simp only [qpu]
  refine qtn (i := 17) (oi := tcx28o4) hHeld ?_
  try simp only [qpu]
  refine qtn (i := 18) (oi := tcx28o8) hHeld ?_
  try simp only [qpu]
  refine qtn (i := 19) (oi := tcx28o9) hHeld ?_
  try simp only [qpu]
  refine qtn (i := 20) (oi := tcx28o2) hHeld ?_
  try simp only [qpu]
  refine qtn (i := 21) (oi := tcx28o1) hHeld ?_
  try simp only [qpu]
  refine qtk (i := 22) (oi := tcx28o6) (v := (.bool false)) hHeld ?_ ?_
  ·intro w9 hSw
   try dsimp only at hSw
   go_simp
  try simp only [qpu]
  refine qtk (i := 23) (oi := tcx28o0) (v := (.bool false)) hHeld ?_ ?_
  ·intro w9 hSw
   try dsimp only at hSw
   go_simp
  try simp only [qpu]
  refine wpAnyH_done (by kernel_rfl) ?_ _
  refine NoPanic.normal ?_
  go_wp2
  go_ret
  exact ⟨retB_tc (by rw [← HV.out]; rfl), bd⟩

 | true =>
  have Cd := C2.drew
  have Gd := G2.drew
  have bd := b2.drew
  refine wp_region_noPanic ?_
  refine wp_region_held_drew (S := fun w' => Blk w' w.heap.size 28 (Cn.v ⟨st, n0, n1, e0, e1, true, k1, d0, d1⟩) ∧ Blk w' W1.heap.size 24 g.v) (by kernel_rfl) (by exact ⟨Cd, Gd⟩) (fun hHeld => ?_)
  refine qtk (i := 0) (oi := tcx28o23) (v := (.int .i64 0)) hHeld ?_ ?_
  ·intro w9 hSw
   try dsimp only at hSw
   go_simp
  try simp only [qpu]
  refine qtk (i := 1) (oi := tcx28o22) (v := (.pointer (some ⟨w.heap.size, 5, none⟩))) hHeld ?_ ?_
  ·intro w9 hSw
   try dsimp only at hSw
   go_simp
  try simp only [qpu]
  refine qtk (i := 2) (oi := tcx28o16) (v := (.pointer (some ⟨w.heap.size, 5, none⟩))) hHeld ?_ ?_
  ·intro w9 hSw
   try dsimp only at hSw
   go_simp
  try simp only [qpu]
  refine qtk (i := 3) (oi := tcx28o20) (v := (.bool true)) hHeld ?_ ?_
  ·intro w9 hSw
   try dsimp only at hSw
   have hcc := hSw.1.cell 5 (.bool true) rfl
   go_simp
  try simp only [qpu]
  refine qtk (i := 4) (oi := tcx28o21) (v := (.bool true)) hHeld ?_ ?_
  ·intro w9 hSw
   try dsimp only at hSw
   go_simp
  try simp only [qpu]
  refine qty (i := 5) (oi := tcx28o17) (v := (.agg g.v)) (yieldsIf_blk_w (by kernel_rfl) _ _ rfl W1.heap.size (by rfl) _ (fun _ hSw => hSw.2) Try.underlying24 (by kernel_rfl)) hHeld ?_
  try simp only [qpu]
  refine qtk (i := 7) (oi := tcx28o19) (v := (.int .i64 0)) hHeld ?_ ?_
  ·intro w9 hSw
   try dsimp only at hSw
   go_simp
  try simp only [qpu]
  refine qtk (i := 8) (oi := tcx28o18) (v := (.pointer (some ⟨w.heap.size, 1, none⟩))) hHeld ?_ ?_
  ·intro w9 hSw
   try dsimp only at hSw
   go_simp
  try simp only [qpu]
  refine qtk (i := 9) (oi := tcx28o13) (v := (.pointer (some ⟨w.heap.size, 1, none⟩))) hHeld ?_ ?_
  ·intro w9 hSw
   try dsimp only at hSw
   go_simp
  try simp only [qpu]
  refine qtk (i := 10) (oi := tcx28o15) (v := (.int .u32 n0)) hHeld ?_ ?_
  ·intro w9 hSw
   try dsimp only at hSw
   have hcc := hSw.1.cell 1 (.int .u32 n0) rfl
   go_simp
  try simp only [qpu]
  refine qtk (i := 11) (oi := tcx28o11) (v := (.int .u32 ((n0 - 65535) % 4294967296))) hHeld ?_ ?_
  ·intro w9 hSw
   try dsimp only at hSw
   go_simp
   try rw [IntKind.wrap_u32]
  try simp only [qpu]
  refine wpAnyH_ready (rs := [6]) (by kernel_rfl) (by simp) ?_
  refine AllReadyH.cons (o := tcx28o5) rfl (fun K hK => ?_) AllReadyH.nil
  go_simp
  refine Calls.mono (KE.out _) ?_
  rintro e Wx1 ⟨rfl, bb⟩
  have Cx1 := Cd.kept bb
  have Gx1 := Gd.kept bb
  have bx1 := bel_tr bd bb
  clear bb
  refine hK.out _ _ (by exact ⟨Cx1, Gx1⟩) (fun hHeld => ?_)
  clear hK K
  try simp only [qpu]
  refine wpAnyH_ready (rs := [12]) (by kernel_rfl) (by simp) ?_
  refine AllReadyH.cons (o := tcx28o3) rfl (fun K hK => ?_) AllReadyH.nil
  go_simp
  refine Calls.mono (K1.out _) ?_
  rintro e Wx2 ⟨rfl, bb⟩
  have Cx2 := Cx1.kept bb
  have Gx2 := Gx1.kept bb
  have bx2 := bel_tr bx1 bb
  clear bb
  refine hK.out _ _ (by exact ⟨Cx2, Gx2⟩) (fun hHeld => ?_)
  clear hK K
  try simp only [qpu]
  cases P with
  | false =>
   refine qtk (i := 13) (oi := tcx28o7) (v := (.bool false)) hHeld ?_ ?_
   ·intro w9 hSw
    try dsimp only at hSw
    go_simp
   try simp only [qpu]
   refine qtk (i := 14) (oi := tcx28o10) (v := (.bool false)) hHeld ?_ ?_
   ·intro w9 hSw
    try dsimp only at hSw
    go_simp
   try simp only [qpu]
   refine qtn (i := 15) (oi := tcx28o14) hHeld ?_
   try simp only [qpu]
   refine qtn (i := 16) (oi := tcx28o12) hHeld ?_
   try simp only [qpu]
   refine qtn (i := 17) (oi := tcx28o4) hHeld ?_
   try simp only [qpu]
   refine qtn (i := 18) (oi := tcx28o8) hHeld ?_
   try simp only [qpu]
   refine qtn (i := 19) (oi := tcx28o9) hHeld ?_
   try simp only [qpu]
   refine qtn (i := 20) (oi := tcx28o2) hHeld ?_
   try simp only [qpu]
   refine qtn (i := 21) (oi := tcx28o1) hHeld ?_
   try simp only [qpu]
   refine qtk (i := 22) (oi := tcx28o6) (v := (.bool false)) hHeld ?_ ?_
   ·intro w9 hSw
    try dsimp only at hSw
    go_simp
   try simp only [qpu]
   refine qtk (i := 23) (oi := tcx28o0) (v := (.bool false)) hHeld ?_ ?_
   ·intro w9 hSw
    try dsimp only at hSw
    go_simp
   try simp only [qpu]
   refine wpAnyH_done (by kernel_rfl) ?_ _
   refine NoPanic.normal ?_
   go_wp2
   go_ret
   exact ⟨retB_tc (by rw [← HV.out]; rfl), bx2⟩

  | true =>
   refine qtk (i := 13) (oi := tcx28o7) (v := (.bool true)) hHeld ?_ ?_
   ·intro w9 hSw
    try dsimp only at hSw
    go_simp
   try simp only [qpu]
   refine qtk (i := 14) (oi := tcx28o10) (v := (.bool true)) hHeld ?_ ?_
   ·intro w9 hSw
    try dsimp only at hSw
    go_simp
   try simp only [qpu]
   refine qtk (i := 15) (oi := tcx28o14) (v := (.int .i64 0)) hHeld ?_ ?_
   ·intro w9 hSw
    try dsimp only at hSw
    go_simp
   try simp only [qpu]
   refine qtk (i := 16) (oi := tcx28o12) (v := (.pointer (some ⟨w.heap.size, 3, none⟩))) hHeld ?_ ?_
   ·intro w9 hSw
    try dsimp only at hSw
    go_simp
   try simp only [qpu]
   refine qtk (i := 17) (oi := tcx28o4) (v := (.pointer (some ⟨w.heap.size, 3, none⟩))) hHeld ?_ ?_
   ·intro w9 hSw
    try dsimp only at hSw
    go_simp
   try simp only [qpu]
   refine qtk (i := 18) (oi := tcx28o8) (v := (.int .u32 e0)) hHeld ?_ ?_
   ·intro w9 hSw
    try dsimp only at hSw
    have hcc := hSw.1.cell 3 (.int .u32 e0) rfl
    go_simp
   try simp only [qpu]
   refine qty (i := 19) (oi := tcx28o9) (v := (.agg g.v)) (yieldsIf_blk_w (by kernel_rfl) _ _ rfl W1.heap.size (by rfl) _ (fun _ hSw => hSw.2) Try.underlying24 (by kernel_rfl)) hHeld ?_
   try simp only [qpu]
   refine wpAnyH_ready (rs := [20]) (by kernel_rfl) (by simp) ?_
   refine AllReadyH.cons (o := tcx28o2) rfl (fun K hK => ?_) AllReadyH.nil
   go_simp
   refine Calls.mono (KE.out _) ?_
   rintro e Wx3 ⟨rfl, bb⟩
   have Cx3 := Cx2.kept bb
   have Gx3 := Gx2.kept bb
   have bx3 := bel_tr bx2 bb
   clear bb
   refine hK.out _ _ (by exact ⟨Cx3, Gx3⟩) (fun hHeld => ?_)
   clear hK K
   try simp only [qpu]
   refine wpAnyH_ready (rs := [21]) (by kernel_rfl) (by simp) ?_
   refine AllReadyH.cons (o := tcx28o1) rfl (fun K hK => ?_) AllReadyH.nil
   go_simp
   refine Calls.mono (K2.out _) ?_
   rintro e Wx4 ⟨rfl, bb⟩
   have Cx4 := Cx3.kept bb
   have Gx4 := Gx3.kept bb
   have bx4 := bel_tr bx3 bb
   clear bb
   refine hK.out _ _ (by exact ⟨Cx4, Gx4⟩) (fun hHeld => ?_)
   clear hK K
   try simp only [qpu]
   refine qtk (i := 22) (oi := tcx28o6) (v := (.bool Q)) hHeld ?_ ?_
   ·intro w9 hSw
    try dsimp only at hSw
    go_simp
   try simp only [qpu]
   refine qtk (i := 23) (oi := tcx28o0) (v := (.bool Q)) hHeld ?_ ?_
   ·intro w9 hSw
    try dsimp only at hSw
    go_simp
   try simp only [qpu]
   refine wpAnyH_done (by kernel_rfl) ?_ _
   refine NoPanic.normal ?_
   go_wp2
   go_ret
   exact ⟨retB_tc (by rw [← HV.out]; rfl), bx4⟩
set_option maxRecDepth 100000 in
set_option maxHeartbeats 4000000 in
theorem rwindow1_tc (c : Cn) (g : Gt) (w : World) :
  Calls Try.prog 25 #[.agg c.v, .int .i64 1, .agg g.v] w fun e w' => e = .returned (.bool (c.win true g)) ∧ Below w.heap.size w w' := by
 obtain ⟨V, hV⟩ : ∃ V, c.win true g = V := ⟨_, rfl⟩
 have HV : Hid ((c.k1 && wiB g.e c.n1 c.e1) = V) := hV
 rw [hV]
 clear hV
 have KE : Hid (∀ W, Calls Try.prog 28 #[.agg g.v] W fun e w' => e = .returned (.int .u32 g.e) ∧ Below W.heap.size W w') := fun W => rend_tc g W
 have K1 : Hid (∀ W, Calls Try.prog 27 #[.int .u32 g.e, .int .u32 ((c.n1 - 65535) % 4294967296)] W fun e w' => e = .returned (.bool (frB g.e ((c.n1 - 65535) % 4294967296))) ∧ Below W.heap.size W w') := fun W => rfrom_tc _ _ W
 have K2 : Hid (∀ W, Calls Try.prog 27 #[.int .u32 c.e1, .int .u32 g.e] W fun e w' => e = .returned (.bool (frB c.e1 g.e)) ∧ Below W.heap.size W w') := fun W => rfrom_tc _ _ W
 have HV : Hid ((c.k1 && (frB g.e ((c.n1 - 65535) % 4294967296) && frB c.e1 g.e)) = V) := HV
 generalize hP : frB g.e ((c.n1 - 65535) % 4294967296) = P at *
 generalize hQ : frB c.e1 g.e = Q at *
 clear hP hQ
 generalize g.e = E at *
 obtain ⟨st, n0, n1, e0, e1, k0, k1, d0, d1⟩ := c
 dsimp only at *
 obtain ⟨W1, hW1⟩ : ∃ W, w.alloc (.cells (Cn.v ⟨st, n0, n1, e0, e1, k0, k1, d0, d1⟩) 28) = W := ⟨_, rfl⟩
 have b1 := bel_nw hW1
 have C1 := blk_nw hW1
 obtain ⟨W2, hW2⟩ : ∃ W, W1.alloc (.cells g.v 24) = W := ⟨_, rfl⟩
 have b2 := bel_al b1 hW2
 have C2 := C1.al hW2
 have G2 := blk_nw hW2
 clear b1 C1
 go_enter Try.func25, Try.ntmps25
 go_wp2_with fail
 cases k1 with
 | false =>
  have Cd := C2.drew
  have Gd := G2.drew
  have bd := b2.drew
  refine wp_region_noPanic ?_
  refine wp_region_held_drew (S := fun w' => Blk w' w.heap.size 28 (Cn.v ⟨st, n0, n1, e0, e1, k0, false, d0, d1⟩) ∧ Blk w' W1.heap.size 24 g.v) (by kernel_rfl) (by exact ⟨Cd, Gd⟩) (fun hHeld => ?_)
  refine qtk (i := 0) (oi := tcx28o23) (v := (.int .i64 1)) hHeld ?_ ?_
  ·intro w9 hSw
   try dsimp only at hSw
   go_simp
  try simp only [qpu]
  refine qtk (i := 1) (oi := tcx28o22) (v := (.pointer (some ⟨w.heap.size, 5, none⟩))) hHeld ?_ ?_
  ·intro w9 hSw
   try dsimp only at hSw
   go_simp
  try simp only [qpu]
  refine qtk (i := 2) (oi := tcx28o16) (v := (.pointer (some ⟨w.heap.size, 6, none⟩))) hHeld ?_ ?_
  ·intro w9 hSw
   try dsimp only at hSw
   go_simp
  try simp only [qpu]
  refine qtk (i := 3) (oi := tcx28o20) (v := (.bool false)) hHeld ?_ ?_
  ·intro w9 hSw
   try dsimp only at hSw
   have hcc := hSw.1.cell 6 (.bool false) rfl
   go_simp
  try simp only [qpu]
  refine qtk (i := 4) (oi := tcx28o21) (v := (.bool false)) hHeld ?_ ?_
  ·intro w9 hSw
   try dsimp only at hSw
   go_simp
  try simp only [qpu]
  refine qtn (i := 5) (oi := tcx28o17) hHeld ?_
  try simp only [qpu]
  refine qtn (i := 6) (oi := tcx28o5) hHeld ?_
  try simp only [qpu]
  refine qtn (i := 7) (oi := tcx28o19) hHeld ?_
  try simp only [qpu]
  refine qtn (i := 8) (oi := tcx28o18) hHeld ?_
  try simp only [qpu]
  refine qtn (i := 9) (oi := tcx28o13) hHeld ?_
  try simp only [qpu]
  refine qtn (i := 10) (oi := tcx28o15) hHeld ?_
  try simp only [qpu]
  refine qtn (i := 11) (oi := tcx28o11) hHeld ?_
  try simp only [qpu]
  refine qtn (i := 12) (oi := tcx28o3) hHeld ?_
  try simp only [qpu]
  refine qtk (i := 13) (oi := tcx28o7) (v := (.bool false)) hHeld ?_ ?_
  ·intro w9 hSw
   try dsimp only at hSw
   go_simp
  try simp only [qpu]
  refine qtk (i := 14) (oi := tcx28o10) (v := (.bool false)) hHeld ?_ ?_
  ·intro w9 hSw
   try dsimp only at hSw
   go_simp
  try simp only [qpu]
  refine qtn (i := 15) (oi := tcx28o14) hHeld ?_
  try simp only [qpu]
  refine qtn (i := 16) (oi := tcx28o12) hHeld ?_
  try simp only [qpu]
  refine qtn (i := 17) (oi := tcx28o4) hHeld ?_
  try simp only [qpu]
  refine qtn (i := 18) (oi := tcx28o8) hHeld ?_
  try simp only [qpu]
  refine qtn (i := 19) (oi := tcx28o9) hHeld ?_
  try simp only [qpu]
  refine qtn (i := 20) (oi := tcx28o2) hHeld ?_
  try simp only [qpu]
  refine qtn (i := 21) (oi := tcx28o1) hHeld ?_
  try simp only [qpu]
  refine qtk (i := 22) (oi := tcx28o6) (v := (.bool false)) hHeld ?_ ?_
  ·intro w9 hSw
   try dsimp only at hSw
   go_simp
  try simp only [qpu]
  refine qtk (i := 23) (oi := tcx28o0) (v := (.bool false)) hHeld ?_ ?_
  ·intro w9 hSw
   try dsimp only at hSw
   go_simp
  try simp only [qpu]
  refine wpAnyH_done (by kernel_rfl) ?_ _
  refine NoPanic.normal ?_
  go_wp2
  go_ret
  exact ⟨retB_tc (by rw [← HV.out]; rfl), bd⟩

 | true =>
  have Cd := C2.drew
  have Gd := G2.drew
  have bd := b2.drew
  refine wp_region_noPanic ?_
  refine wp_region_held_drew (S := fun w' => Blk w' w.heap.size 28 (Cn.v ⟨st, n0, n1, e0, e1, k0, true, d0, d1⟩) ∧ Blk w' W1.heap.size 24 g.v) (by kernel_rfl) (by exact ⟨Cd, Gd⟩) (fun hHeld => ?_)
  refine qtk (i := 0) (oi := tcx28o23) (v := (.int .i64 1)) hHeld ?_ ?_
  ·intro w9 hSw
   try dsimp only at hSw
   go_simp
  try simp only [qpu]
  refine qtk (i := 1) (oi := tcx28o22) (v := (.pointer (some ⟨w.heap.size, 5, none⟩))) hHeld ?_ ?_
  ·intro w9 hSw
   try dsimp only at hSw
   go_simp
  try simp only [qpu]
  refine qtk (i := 2) (oi := tcx28o16) (v := (.pointer (some ⟨w.heap.size, 6, none⟩))) hHeld ?_ ?_
  ·intro w9 hSw
   try dsimp only at hSw
   go_simp
  try simp only [qpu]
  refine qtk (i := 3) (oi := tcx28o20) (v := (.bool true)) hHeld ?_ ?_
  ·intro w9 hSw
   try dsimp only at hSw
   have hcc := hSw.1.cell 6 (.bool true) rfl
   go_simp
  try simp only [qpu]
  refine qtk (i := 4) (oi := tcx28o21) (v := (.bool true)) hHeld ?_ ?_
  ·intro w9 hSw
   try dsimp only at hSw
   go_simp
  try simp only [qpu]
  refine qty (i := 5) (oi := tcx28o17) (v := (.agg g.v)) (yieldsIf_blk_w (by kernel_rfl) _ _ rfl W1.heap.size (by rfl) _ (fun _ hSw => hSw.2) Try.underlying24 (by kernel_rfl)) hHeld ?_
  try simp only [qpu]
  refine qtk (i := 7) (oi := tcx28o19) (v := (.int .i64 1)) hHeld ?_ ?_
  ·intro w9 hSw
   try dsimp only at hSw
   go_simp
  try simp only [qpu]
  refine qtk (i := 8) (oi := tcx28o18) (v := (.pointer (some ⟨w.heap.size, 1, none⟩))) hHeld ?_ ?_
  ·intro w9 hSw
   try dsimp only at hSw
   go_simp
  try simp only [qpu]
  refine qtk (i := 9) (oi := tcx28o13) (v := (.pointer (some ⟨w.heap.size, 2, none⟩))) hHeld ?_ ?_
  ·intro w9 hSw
   try dsimp only at hSw
   go_simp
  try simp only [qpu]
  refine qtk (i := 10) (oi := tcx28o15) (v := (.int .u32 n1)) hHeld ?_ ?_
  ·intro w9 hSw
   try dsimp only at hSw
   have hcc := hSw.1.cell 2 (.int .u32 n1) rfl
   go_simp
  try simp only [qpu]
  refine qtk (i := 11) (oi := tcx28o11) (v := (.int .u32 ((n1 - 65535) % 4294967296))) hHeld ?_ ?_
  ·intro w9 hSw
   try dsimp only at hSw
   go_simp
   try rw [IntKind.wrap_u32]
  try simp only [qpu]
  refine wpAnyH_ready (rs := [6]) (by kernel_rfl) (by simp) ?_
  refine AllReadyH.cons (o := tcx28o5) rfl (fun K hK => ?_) AllReadyH.nil
  go_simp
  refine Calls.mono (KE.out _) ?_
  rintro e Wx1 ⟨rfl, bb⟩
  have Cx1 := Cd.kept bb
  have Gx1 := Gd.kept bb
  have bx1 := bel_tr bd bb
  clear bb
  refine hK.out _ _ (by exact ⟨Cx1, Gx1⟩) (fun hHeld => ?_)
  clear hK K
  try simp only [qpu]
  refine wpAnyH_ready (rs := [12]) (by kernel_rfl) (by simp) ?_
  refine AllReadyH.cons (o := tcx28o3) rfl (fun K hK => ?_) AllReadyH.nil
  go_simp
  refine Calls.mono (K1.out _) ?_
  rintro e Wx2 ⟨rfl, bb⟩
  have Cx2 := Cx1.kept bb
  have Gx2 := Gx1.kept bb
  have bx2 := bel_tr bx1 bb
  clear bb
  refine hK.out _ _ (by exact ⟨Cx2, Gx2⟩) (fun hHeld => ?_)
  clear hK K
  try simp only [qpu]
  cases P with
  | false =>
   refine qtk (i := 13) (oi := tcx28o7) (v := (.bool false)) hHeld ?_ ?_
   ·intro w9 hSw
    try dsimp only at hSw
    go_simp
   try simp only [qpu]
   refine qtk (i := 14) (oi := tcx28o10) (v := (.bool false)) hHeld ?_ ?_
   ·intro w9 hSw
    try dsimp only at hSw
    go_simp
   try simp only [qpu]
   refine qtn (i := 15) (oi := tcx28o14) hHeld ?_
   try simp only [qpu]
   refine qtn (i := 16) (oi := tcx28o12) hHeld ?_
   try simp only [qpu]
   refine qtn (i := 17) (oi := tcx28o4) hHeld ?_
   try simp only [qpu]
   refine qtn (i := 18) (oi := tcx28o8) hHeld ?_
   try simp only [qpu]
   refine qtn (i := 19) (oi := tcx28o9) hHeld ?_
   try simp only [qpu]
   refine qtn (i := 20) (oi := tcx28o2) hHeld ?_
   try simp only [qpu]
   refine qtn (i := 21) (oi := tcx28o1) hHeld ?_
   try simp only [qpu]
   refine qtk (i := 22) (oi := tcx28o6) (v := (.bool false)) hHeld ?_ ?_
   ·intro w9 hSw
    try dsimp only at hSw
    go_simp
   try simp only [qpu]
   refine qtk (i := 23) (oi := tcx28o0) (v := (.bool false)) hHeld ?_ ?_
   ·intro w9 hSw
    try dsimp only at hSw
    go_simp
   try simp only [qpu]
   refine wpAnyH_done (by kernel_rfl) ?_ _
   refine NoPanic.normal ?_
   go_wp2
   go_ret
   exact ⟨retB_tc (by rw [← HV.out]; rfl), bx2⟩

  | true =>
   refine qtk (i := 13) (oi := tcx28o7) (v := (.bool true)) hHeld ?_ ?_
   ·intro w9 hSw
    try dsimp only at hSw
    go_simp
   try simp only [qpu]
   refine qtk (i := 14) (oi := tcx28o10) (v := (.bool true)) hHeld ?_ ?_
   ·intro w9 hSw
    try dsimp only at hSw
    go_simp
   try simp only [qpu]
   refine qtk (i := 15) (oi := tcx28o14) (v := (.int .i64 1)) hHeld ?_ ?_
   ·intro w9 hSw
    try dsimp only at hSw
    go_simp
   try simp only [qpu]
   refine qtk (i := 16) (oi := tcx28o12) (v := (.pointer (some ⟨w.heap.size, 3, none⟩))) hHeld ?_ ?_
   ·intro w9 hSw
    try dsimp only at hSw
    go_simp
   try simp only [qpu]
   refine qtk (i := 17) (oi := tcx28o4) (v := (.pointer (some ⟨w.heap.size, 4, none⟩))) hHeld ?_ ?_
   ·intro w9 hSw
    try dsimp only at hSw
    go_simp
   try simp only [qpu]
   refine qtk (i := 18) (oi := tcx28o8) (v := (.int .u32 e1)) hHeld ?_ ?_
   ·intro w9 hSw
    try dsimp only at hSw
    have hcc := hSw.1.cell 4 (.int .u32 e1) rfl
    go_simp
   try simp only [qpu]
   refine qty (i := 19) (oi := tcx28o9) (v := (.agg g.v)) (yieldsIf_blk_w (by kernel_rfl) _ _ rfl W1.heap.size (by rfl) _ (fun _ hSw => hSw.2) Try.underlying24 (by kernel_rfl)) hHeld ?_
   try simp only [qpu]
   refine wpAnyH_ready (rs := [20]) (by kernel_rfl) (by simp) ?_
   refine AllReadyH.cons (o := tcx28o2) rfl (fun K hK => ?_) AllReadyH.nil
   go_simp
   refine Calls.mono (KE.out _) ?_
   rintro e Wx3 ⟨rfl, bb⟩
   have Cx3 := Cx2.kept bb
   have Gx3 := Gx2.kept bb
   have bx3 := bel_tr bx2 bb
   clear bb
   refine hK.out _ _ (by exact ⟨Cx3, Gx3⟩) (fun hHeld => ?_)
   clear hK K
   try simp only [qpu]
   refine wpAnyH_ready (rs := [21]) (by kernel_rfl) (by simp) ?_
   refine AllReadyH.cons (o := tcx28o1) rfl (fun K hK => ?_) AllReadyH.nil
   go_simp
   refine Calls.mono (K2.out _) ?_
   rintro e Wx4 ⟨rfl, bb⟩
   have Cx4 := Cx3.kept bb
   have Gx4 := Gx3.kept bb
   have bx4 := bel_tr bx3 bb
   clear bb
   refine hK.out _ _ (by exact ⟨Cx4, Gx4⟩) (fun hHeld => ?_)
   clear hK K
   try simp only [qpu]
   refine qtk (i := 22) (oi := tcx28o6) (v := (.bool Q)) hHeld ?_ ?_
   ·intro w9 hSw
    try dsimp only at hSw
    go_simp
   try simp only [qpu]
   refine qtk (i := 23) (oi := tcx28o0) (v := (.bool Q)) hHeld ?_ ?_
   ·intro w9 hSw
    try dsimp only at hSw
    go_simp
   try simp only [qpu]
   refine wpAnyH_done (by kernel_rfl) ?_ _
   refine NoPanic.normal ?_
   go_wp2
   go_ret
   exact ⟨retB_tc (by rw [← HV.out]; rfl), bx4⟩
set_option maxRecDepth 100000 in
set_option maxHeartbeats 4000000 in
theorem rsyn0_tc (c : Cn) (g : Gt) (w : World) :
  Calls Try.prog 26 #[.agg c.v, .int .i64 0, .agg g.v] w fun e w' => e = .returned (.tuple #[.agg (Cn.ret (c.syn false g)).1.v, .int .i64 (Cn.ret (c.syn false g)).2]) ∧ Below w.heap.size w w' := by
 obtain ⟨R, hR⟩ : ∃ R, Cn.ret (c.syn false g) = R := ⟨_, rfl⟩
 have HR : Hid (Cn.ret (if flB g.fl 1 || g.sz != 0 then none else (if c.st == 1 && (!flB g.fl 16 && g.e == c.n0) then some c else none)) = R) := hR
 rw [hR]
 clear hR
 have KE : Hid (∀ W, Calls Try.prog 28 #[.agg g.v] W fun e w' => e = .returned (.int .u32 g.e) ∧ Below W.heap.size W w') := fun W => rend_tc g W
 obtain ⟨fl, win, sz, sq, ak⟩ := g
 obtain ⟨st, n0, n1, e0, e1, k0, k1, d0, d1⟩ := c
 dsimp only at *
 have hA : (bits .and .i64 fl 16 != 0) = flB fl 16 := rfl
 have hF : (bits .and .i64 fl 1 != 0) = flB fl 1 := rfl
 generalize flB fl 16 = A at *
 generalize flB fl 1 = F at *
 generalize hN : (sz != 0) = N at *
 generalize hX : (st == 1) = X at *
 generalize hE : Gt.e ⟨fl, win, sz, sq, ak⟩ = E at *
 clear hE
 generalize hQ : (E == n0) = Q at *
 obtain ⟨W1, hW1⟩ : ∃ W, w.alloc (.cells (Cn.v ⟨st, n0, n1, e0, e1, k0, k1, d0, d1⟩) 28) = W := ⟨_, rfl⟩
 have b1 := bel_nw hW1
 have C1 := blk_nw hW1
 have g1 := C1.lt
 obtain ⟨W2, hW2⟩ : ∃ W, W1.alloc (.cells (Gt.v ⟨fl, win, sz, sq, ak⟩) 24) = W := ⟨_, rfl⟩
 have b2 := bel_al b1 hW2
 have C2 := C1.al hW2
 have G2 := blk_nw hW2
 have g2 := G2.lt
 obtain ⟨W3, hW3⟩ : ∃ W, W2.alloc (.cells #[.int .i64 0, .int .u32 0, .int .u32 0, .int .u32 0, .int .u32 0, .bool false, .bool false, .bool false, .bool false] 28) = W := ⟨_, rfl⟩
 have b3 := bel_al b2 hW3
 have C3 := C2.al hW3
 have G3 := G2.al hW3
 have Z3 := blk_nw hW3
 have nCG : w.heap.size ≠ W1.heap.size := by omega
 have nGC : W1.heap.size ≠ w.heap.size := by omega
 have nCZ : w.heap.size ≠ W2.heap.size := by omega
 have nGZ : W1.heap.size ≠ W2.heap.size := by omega
 have nZC : W2.heap.size ≠ w.heap.size := by omega
 have gZ : w.heap.size ≤ W2.heap.size := by omega
 have gG : w.heap.size ≤ W1.heap.size := by omega
 clear b1 b2 C1 C2 G2 g1 g2
 go_enter Try.func26, Try.ntmps26
 have c0 := C3.cell 0 (.int .i64 st) rfl
 have c1 := C3.cell 1 (.int .u32 n0) rfl
 have c2 := C3.cell 2 (.int .u32 n1) rfl
 have c4 := C3.cell 4 (.int .u32 e1) rfl
 have g0 := G3.cell 0 (.int .i64 fl) rfl
 have g1 := G3.cell 1 (.int .i64 win) rfl
 have g2 := G3.cell 2 (.int .i64 sz) rfl
 have g4 := G3.cell 4 (.int .u32 ak) rfl
 cases F with
 | false =>
  cases N with
  | false =>
   go_wp2_with (first | (refine wpList_load_blk_w (by rfl) _ _ rfl w.heap.size (by rfl) _ C3 Try.underlying28 (by kernel_rfl) ?_) | (refine wpList_load_blk_w (by rfl) _ _ rfl W1.heap.size (by rfl) _ G3 Try.underlying24 (by kernel_rfl) ?_))
   clear c0 c1 c2 c4 g0 g1 g2 g4
   refine Calls.mono (KE.out _) ?_
   rintro e W3e ⟨rfl, bb⟩
   have C3e := C3.kept bb
   have G3e := G3.kept bb
   have Z3e := Z3.kept bb
   have b3e := bel_tr b3 bb
   clear bb
   clear C3 G3 Z3 b3
   have c0 := C3e.cell 0 (.int .i64 st) rfl
   have c1 := C3e.cell 1 (.int .u32 n0) rfl
   have c2 := C3e.cell 2 (.int .u32 n1) rfl
   have c4 := C3e.cell 4 (.int .u32 e1) rfl
   have g0 := G3e.cell 0 (.int .i64 fl) rfl
   have g1 := G3e.cell 1 (.int .i64 win) rfl
   have g2 := G3e.cell 2 (.int .i64 sz) rfl
   have g4 := G3e.cell 4 (.int .u32 ak) rfl
   cases X with
   | false =>
    have Zf := Z3e.set cn0.v
    have bf := below_setRow b3e gZ cn0.v
    go_wp2_with (first | (refine wpList_load_blk_w (by rfl) _ _ rfl w.heap.size (by rfl) _ C3e Try.underlying28 (by kernel_rfl) ?_) | (refine wpList_load_blk_w (by rfl) _ _ rfl W1.heap.size (by rfl) _ G3e Try.underlying24 (by kernel_rfl) ?_) | (refine wpList_store_row rfl _ _ _ rfl W2.heap.size cn0.v (by rfl) (by rfl) _ _ Z3e (by kernel_rfl) (by rfl) (by kernel_rfl) ?_))
    obtain rfl : (cn0, (23 : Int)) = R := by rw [← HR.out]; first | rfl | simp [Cn.ret]
    exact ret_cell_tmp (k := 6) (j := 7) Try.f26 (by kernel_rfl) Zf Try.underlying28 (by kernel_rfl) (by rfl) (by rfl) rfl ⟨rfl, bf⟩

   | true =>
    cases A with
    | false =>
     cases Q with
     | false =>
      have Zf := Z3e.set cn0.v
      have bf := below_setRow b3e gZ cn0.v
      go_wp2_with (first | (refine wpList_load_blk_w (by rfl) _ _ rfl w.heap.size (by rfl) _ C3e Try.underlying28 (by kernel_rfl) ?_) | (refine wpList_load_blk_w (by rfl) _ _ rfl W1.heap.size (by rfl) _ G3e Try.underlying24 (by kernel_rfl) ?_) | (refine wpList_store_row rfl _ _ _ rfl W2.heap.size cn0.v (by rfl) (by rfl) _ _ Z3e (by kernel_rfl) (by rfl) (by kernel_rfl) ?_))
      obtain rfl : (cn0, (23 : Int)) = R := by rw [← HR.out]; first | rfl | simp [Cn.ret]
      exact ret_cell_tmp (k := 6) (j := 7) Try.f26 (by kernel_rfl) Zf Try.underlying28 (by kernel_rfl) (by rfl) (by rfl) rfl ⟨rfl, bf⟩

     | true =>
      have Zf := Z3e.set (Cn.v ⟨st, n0, n1, e0, e1, k0, k1, d0, d1⟩)
      have bf := below_setRow b3e gZ (Cn.v ⟨st, n0, n1, e0, e1, k0, k1, d0, d1⟩)
      go_wp2_with (first | (refine wpList_load_blk_w (by rfl) _ _ rfl w.heap.size (by rfl) _ C3e Try.underlying28 (by kernel_rfl) ?_) | (refine wpList_load_blk_w (by rfl) _ _ rfl W1.heap.size (by rfl) _ G3e Try.underlying24 (by kernel_rfl) ?_) | (refine wpList_store_row rfl _ _ _ rfl W2.heap.size (Cn.v ⟨st, n0, n1, e0, e1, k0, k1, d0, d1⟩) (by rfl) (by rfl) _ _ Z3e (by kernel_rfl) (by rfl) (by kernel_rfl) ?_))
      obtain rfl : ((⟨st, n0, n1, e0, e1, k0, k1, d0, d1⟩ : Cn), (0 : Int)) = R := by rw [← HR.out]; first | rfl | simp [Cn.ret]
      exact ret_cell_tmp (k := 6) (j := 7) Try.f26 (by kernel_rfl) Zf Try.underlying28 (by kernel_rfl) (by rfl) (by rfl) rfl ⟨rfl, bf⟩


    | true =>
     have Zf := Z3e.set cn0.v
     have bf := below_setRow b3e gZ cn0.v
     go_wp2_with (first | (refine wpList_load_blk_w (by rfl) _ _ rfl w.heap.size (by rfl) _ C3e Try.underlying28 (by kernel_rfl) ?_) | (refine wpList_load_blk_w (by rfl) _ _ rfl W1.heap.size (by rfl) _ G3e Try.underlying24 (by kernel_rfl) ?_) | (refine wpList_store_row rfl _ _ _ rfl W2.heap.size cn0.v (by rfl) (by rfl) _ _ Z3e (by kernel_rfl) (by rfl) (by kernel_rfl) ?_))
     obtain rfl : (cn0, (23 : Int)) = R := by rw [← HR.out]; first | rfl | simp [Cn.ret]
     exact ret_cell_tmp (k := 6) (j := 7) Try.f26 (by kernel_rfl) Zf Try.underlying28 (by kernel_rfl) (by rfl) (by rfl) rfl ⟨rfl, bf⟩



  | true =>
   have Zf := Z3.set cn0.v
   have bf := below_setRow b3 gZ cn0.v
   go_wp2_with (first | (refine wpList_load_blk_w (by rfl) _ _ rfl w.heap.size (by rfl) _ C3 Try.underlying28 (by kernel_rfl) ?_) | (refine wpList_load_blk_w (by rfl) _ _ rfl W1.heap.size (by rfl) _ G3 Try.underlying24 (by kernel_rfl) ?_) | (refine wpList_store_row rfl _ _ _ rfl W2.heap.size cn0.v (by rfl) (by rfl) _ _ Z3 (by kernel_rfl) (by rfl) (by kernel_rfl) ?_))
   obtain rfl : (cn0, (23 : Int)) = R := by rw [← HR.out]; first | rfl | simp [Cn.ret]
   exact ret_cell_tmp (k := 6) (j := 7) Try.f26 (by kernel_rfl) Zf Try.underlying28 (by kernel_rfl) (by rfl) (by rfl) rfl ⟨rfl, bf⟩


 | true =>
  have Zf := Z3.set cn0.v
  have bf := below_setRow b3 gZ cn0.v
  go_wp2_with (first | (refine wpList_load_blk_w (by rfl) _ _ rfl w.heap.size (by rfl) _ C3 Try.underlying28 (by kernel_rfl) ?_) | (refine wpList_load_blk_w (by rfl) _ _ rfl W1.heap.size (by rfl) _ G3 Try.underlying24 (by kernel_rfl) ?_) | (refine wpList_store_row rfl _ _ _ rfl W2.heap.size cn0.v (by rfl) (by rfl) _ _ Z3 (by kernel_rfl) (by rfl) (by kernel_rfl) ?_))
  obtain rfl : (cn0, (23 : Int)) = R := by rw [← HR.out]; first | rfl | simp [Cn.ret]
  exact ret_cell_tmp (k := 6) (j := 7) Try.f26 (by kernel_rfl) Zf Try.underlying28 (by kernel_rfl) (by rfl) (by rfl) rfl ⟨rfl, bf⟩
set_option maxRecDepth 100000 in
set_option maxHeartbeats 4000000 in
theorem rsyn1_tc (c : Cn) (g : Gt) (w : World) :
  Calls Try.prog 26 #[.agg c.v, .int .i64 1, .agg g.v] w fun e w' => e = .returned (.tuple #[.agg (Cn.ret (c.syn true g)).1.v, .int .i64 (Cn.ret (c.syn true g)).2]) ∧ Below w.heap.size w w' := by
 obtain ⟨R, hR⟩ : ∃ R, Cn.ret (c.syn true g) = R := ⟨_, rfl⟩
 have HR : Hid (Cn.ret (if flB g.fl 1 || g.sz != 0 then none else (if !flB g.fl 16 || g.ak != c.n0 then none else if c.st == 1 then some ⟨2, c.n0, g.e, g.lim, (g.e + c.e1) % 4294967296, c.k0, true, c.d0, c.d1⟩ else if c.st == 2 && g.e == c.n1 then some c else none)) = R) := hR
 rw [hR]
 clear hR
 have KE : Hid (∀ W, Calls Try.prog 28 #[.agg g.v] W fun e w' => e = .returned (.int .u32 g.e) ∧ Below W.heap.size W w') := fun W => rend_tc g W
 have eL : g.lim = (g.ak + g.win) % 4294967296 := rfl
 rw [eL] at HR
 clear eL
 obtain ⟨fl, win, sz, sq, ak⟩ := g
 obtain ⟨st, n0, n1, e0, e1, k0, k1, d0, d1⟩ := c
 dsimp only at *
 have hA : (bits .and .i64 fl 16 != 0) = flB fl 16 := rfl
 have hF : (bits .and .i64 fl 1 != 0) = flB fl 1 := rfl
 generalize flB fl 16 = A at *
 generalize flB fl 1 = F at *
 generalize hN : (sz != 0) = N at *
 generalize hX : (st == 1) = X at *
 generalize hE : Gt.e ⟨fl, win, sz, sq, ak⟩ = E at *
 clear hE
 generalize hQ : (E == n1) = Q at *
 have hM0 : (ak != n0) = !(ak == n0) := rfl
 rw [hM0] at HR
 clear hM0
 generalize hM : (ak == n0) = M at *
 generalize hY : (st == 2) = Y at *
 obtain ⟨W1, hW1⟩ : ∃ W, w.alloc (.cells (Cn.v ⟨st, n0, n1, e0, e1, k0, k1, d0, d1⟩) 28) = W := ⟨_, rfl⟩
 have b1 := bel_nw hW1
 have C1 := blk_nw hW1
 have g1 := C1.lt
 obtain ⟨W2, hW2⟩ : ∃ W, W1.alloc (.cells (Gt.v ⟨fl, win, sz, sq, ak⟩) 24) = W := ⟨_, rfl⟩
 have b2 := bel_al b1 hW2
 have C2 := C1.al hW2
 have G2 := blk_nw hW2
 have g2 := G2.lt
 obtain ⟨W3, hW3⟩ : ∃ W, W2.alloc (.cells #[.int .i64 0, .int .u32 0, .int .u32 0, .int .u32 0, .int .u32 0, .bool false, .bool false, .bool false, .bool false] 28) = W := ⟨_, rfl⟩
 have b3 := bel_al b2 hW3
 have C3 := C2.al hW3
 have G3 := G2.al hW3
 have Z3 := blk_nw hW3
 have nCG : w.heap.size ≠ W1.heap.size := by omega
 have nGC : W1.heap.size ≠ w.heap.size := by omega
 have nCZ : w.heap.size ≠ W2.heap.size := by omega
 have nGZ : W1.heap.size ≠ W2.heap.size := by omega
 have nZC : W2.heap.size ≠ w.heap.size := by omega
 have gZ : w.heap.size ≤ W2.heap.size := by omega
 have gG : w.heap.size ≤ W1.heap.size := by omega
 clear b1 b2 C1 C2 G2 g1 g2
 go_enter Try.func26, Try.ntmps26
 have c0 := C3.cell 0 (.int .i64 st) rfl
 have c1 := C3.cell 1 (.int .u32 n0) rfl
 have c2 := C3.cell 2 (.int .u32 n1) rfl
 have c4 := C3.cell 4 (.int .u32 e1) rfl
 have g0 := G3.cell 0 (.int .i64 fl) rfl
 have g1 := G3.cell 1 (.int .i64 win) rfl
 have g2 := G3.cell 2 (.int .i64 sz) rfl
 have g4 := G3.cell 4 (.int .u32 ak) rfl
 cases F with
 | false =>
  cases N with
  | false =>
   go_wp2_with (first | (refine wpList_load_blk_w (by rfl) _ _ rfl w.heap.size (by rfl) _ C3 Try.underlying28 (by kernel_rfl) ?_) | (refine wpList_load_blk_w (by rfl) _ _ rfl W1.heap.size (by rfl) _ G3 Try.underlying24 (by kernel_rfl) ?_))
   clear c0 c1 c2 c4 g0 g1 g2 g4
   refine Calls.mono (KE.out _) ?_
   rintro e W3e ⟨rfl, bb⟩
   have C3e := C3.kept bb
   have G3e := G3.kept bb
   have Z3e := Z3.kept bb
   have b3e := bel_tr b3 bb
   clear bb
   clear C3 G3 Z3 b3
   have c0 := C3e.cell 0 (.int .i64 st) rfl
   have c1 := C3e.cell 1 (.int .u32 n0) rfl
   have c2 := C3e.cell 2 (.int .u32 n1) rfl
   have c4 := C3e.cell 4 (.int .u32 e1) rfl
   have g0 := G3e.cell 0 (.int .i64 fl) rfl
   have g1 := G3e.cell 1 (.int .i64 win) rfl
   have g2 := G3e.cell 2 (.int .i64 sz) rfl
   have g4 := G3e.cell 4 (.int .u32 ak) rfl
   cases A with
   | false =>
    have Zf := Z3e.set cn0.v
    have bf := below_setRow b3e gZ cn0.v
    go_wp2_with (first | (refine wpList_load_blk_w (by rfl) _ _ rfl w.heap.size (by rfl) _ C3e Try.underlying28 (by kernel_rfl) ?_) | (refine wpList_load_blk_w (by rfl) _ _ rfl W1.heap.size (by rfl) _ G3e Try.underlying24 (by kernel_rfl) ?_) | (refine wpList_store_row rfl _ _ _ rfl W2.heap.size cn0.v (by rfl) (by rfl) _ _ Z3e (by kernel_rfl) (by rfl) (by kernel_rfl) ?_))
    obtain rfl : (cn0, (23 : Int)) = R := by rw [← HR.out]; first | rfl | simp [Cn.ret]
    exact ret_cell_tmp (k := 6) (j := 7) Try.f26 (by kernel_rfl) Zf Try.underlying28 (by kernel_rfl) (by rfl) (by rfl) rfl ⟨rfl, bf⟩

   | true =>
    cases M with
    | false =>
     have Zf := Z3e.set cn0.v
     have bf := below_setRow b3e gZ cn0.v
     go_wp2_with (first | (refine wpList_load_blk_w (by rfl) _ _ rfl w.heap.size (by rfl) _ C3e Try.underlying28 (by kernel_rfl) ?_) | (refine wpList_load_blk_w (by rfl) _ _ rfl W1.heap.size (by rfl) _ G3e Try.underlying24 (by kernel_rfl) ?_) | (refine wpList_store_row rfl _ _ _ rfl W2.heap.size cn0.v (by rfl) (by rfl) _ _ Z3e (by kernel_rfl) (by rfl) (by kernel_rfl) ?_))
     obtain rfl : (cn0, (23 : Int)) = R := by rw [← HR.out]; first | rfl | simp [Cn.ret]
     exact ret_cell_tmp (k := 6) (j := 7) Try.f26 (by kernel_rfl) Zf Try.underlying28 (by kernel_rfl) (by rfl) (by rfl) rfl ⟨rfl, bf⟩

    | true =>
     cases X with
     | false =>
      cases Y with
      | false =>
       have Zf := Z3e.set cn0.v
       have bf := below_setRow b3e gZ cn0.v
       go_wp2_with (first | (refine wpList_load_blk_w (by rfl) _ _ rfl w.heap.size (by rfl) _ C3e Try.underlying28 (by kernel_rfl) ?_) | (refine wpList_load_blk_w (by rfl) _ _ rfl W1.heap.size (by rfl) _ G3e Try.underlying24 (by kernel_rfl) ?_) | (refine wpList_store_row rfl _ _ _ rfl W2.heap.size cn0.v (by rfl) (by rfl) _ _ Z3e (by kernel_rfl) (by rfl) (by kernel_rfl) ?_))
       obtain rfl : (cn0, (23 : Int)) = R := by rw [← HR.out]; first | rfl | simp [Cn.ret]
       exact ret_cell_tmp (k := 6) (j := 7) Try.f26 (by kernel_rfl) Zf Try.underlying28 (by kernel_rfl) (by rfl) (by rfl) rfl ⟨rfl, bf⟩

      | true =>
       cases Q with
       | false =>
        have Zf := Z3e.set cn0.v
        have bf := below_setRow b3e gZ cn0.v
        go_wp2_with (first | (refine wpList_load_blk_w (by rfl) _ _ rfl w.heap.size (by rfl) _ C3e Try.underlying28 (by kernel_rfl) ?_) | (refine wpList_load_blk_w (by rfl) _ _ rfl W1.heap.size (by rfl) _ G3e Try.underlying24 (by kernel_rfl) ?_) | (refine wpList_store_row rfl _ _ _ rfl W2.heap.size cn0.v (by rfl) (by rfl) _ _ Z3e (by kernel_rfl) (by rfl) (by kernel_rfl) ?_))
        obtain rfl : (cn0, (23 : Int)) = R := by rw [← HR.out]; first | rfl | simp [Cn.ret]
        exact ret_cell_tmp (k := 6) (j := 7) Try.f26 (by kernel_rfl) Zf Try.underlying28 (by kernel_rfl) (by rfl) (by rfl) rfl ⟨rfl, bf⟩

       | true =>
        have Zf := Z3e.set (Cn.v ⟨st, n0, n1, e0, e1, k0, k1, d0, d1⟩)
        have bf := below_setRow b3e gZ (Cn.v ⟨st, n0, n1, e0, e1, k0, k1, d0, d1⟩)
        go_wp2_with (first | (refine wpList_load_blk_w (by rfl) _ _ rfl w.heap.size (by rfl) _ C3e Try.underlying28 (by kernel_rfl) ?_) | (refine wpList_load_blk_w (by rfl) _ _ rfl W1.heap.size (by rfl) _ G3e Try.underlying24 (by kernel_rfl) ?_) | (refine wpList_store_row rfl _ _ _ rfl W2.heap.size (Cn.v ⟨st, n0, n1, e0, e1, k0, k1, d0, d1⟩) (by rfl) (by rfl) _ _ Z3e (by kernel_rfl) (by rfl) (by kernel_rfl) ?_))
        obtain rfl : ((⟨st, n0, n1, e0, e1, k0, k1, d0, d1⟩ : Cn), (0 : Int)) = R := by rw [← HR.out]; first | rfl | simp [Cn.ret]
        exact ret_cell_tmp (k := 6) (j := 7) Try.f26 (by kernel_rfl) Zf Try.underlying28 (by kernel_rfl) (by rfl) (by rfl) rfl ⟨rfl, bf⟩



     | true =>
      have y6 := C3e.cell 6 (.bool k1) rfl
      have z6 := C3e.frozen 6
      obtain ⟨W3ep, hW3ep⟩ : ∃ W, W3e.setCell ⟨w.heap.size, 6, none⟩ (.bool true) = W := ⟨_, rfl⟩
      have C3ep : Blk W3ep w.heap.size 28 (Cn.v ⟨st, n0, n1, e0, e1, k0, true, d0, d1⟩) := hW3ep ▸ C3e.put 6 (.bool true)
      have G3ep := hW3ep ▸ G3e.put_other C3e nGC 6 (.bool true)
      have Z3ep := hW3ep ▸ Z3e.put_other C3e nZC 6 (.bool true)
      have b3ep := hW3ep ▸ b3e.setCell (p := ⟨w.heap.size, 6, none⟩) (Nat.le_refl _) (.bool true)
      have y2 := C3ep.cell 2 (.int .u32 n1) rfl
      have z2 := C3ep.frozen 2
      obtain ⟨W3epp, hW3epp⟩ : ∃ W, W3ep.setCell ⟨w.heap.size, 2, none⟩ (.int .u32 E) = W := ⟨_, rfl⟩
      have C3epp : Blk W3epp w.heap.size 28 (Cn.v ⟨st, n0, E, e0, e1, k0, true, d0, d1⟩) := hW3epp ▸ C3ep.put 2 (.int .u32 E)
      have G3epp := hW3epp ▸ G3ep.put_other C3ep nGC 2 (.int .u32 E)
      have Z3epp := hW3epp ▸ Z3ep.put_other C3ep nZC 2 (.int .u32 E)
      have b3epp := hW3epp ▸ b3ep.setCell (p := ⟨w.heap.size, 2, none⟩) (Nat.le_refl _) (.int .u32 E)
      have y4 := C3epp.cell 4 (.int .u32 e1) rfl
      have z4 := C3epp.frozen 4
      obtain ⟨W3eppp, hW3eppp⟩ : ∃ W, W3epp.setCell ⟨w.heap.size, 4, none⟩ (.int .u32 ((E + e1) % 4294967296)) = W := ⟨_, rfl⟩
      have C3eppp : Blk W3eppp w.heap.size 28 (Cn.v ⟨st, n0, E, e0, ((E + e1) % 4294967296), k0, true, d0, d1⟩) := hW3eppp ▸ C3epp.put 4 (.int .u32 ((E + e1) % 4294967296))
      have G3eppp := hW3eppp ▸ G3epp.put_other C3epp nGC 4 (.int .u32 ((E + e1) % 4294967296))
      have Z3eppp := hW3eppp ▸ Z3epp.put_other C3epp nZC 4 (.int .u32 ((E + e1) % 4294967296))
      have b3eppp := hW3eppp ▸ b3epp.setCell (p := ⟨w.heap.size, 4, none⟩) (Nat.le_refl _) (.int .u32 ((E + e1) % 4294967296))
      have q1 := G3eppp.cell 1 (.int .i64 win) rfl
      have q4 := G3eppp.cell 4 (.int .u32 ak) rfl
      have y3 := C3eppp.cell 3 (.int .u32 e0) rfl
      have z3 := C3eppp.frozen 3
      obtain ⟨W3epppp, hW3epppp⟩ : ∃ W, W3eppp.setCell ⟨w.heap.size, 3, none⟩ (.int .u32 ((ak + win) % 4294967296)) = W := ⟨_, rfl⟩
      have C3epppp : Blk W3epppp w.heap.size 28 (Cn.v ⟨st, n0, E, ((ak + win) % 4294967296), ((E + e1) % 4294967296), k0, true, d0, d1⟩) := hW3epppp ▸ C3eppp.put 3 (.int .u32 ((ak + win) % 4294967296))
      have G3epppp := hW3epppp ▸ G3eppp.put_other C3eppp nGC 3 (.int .u32 ((ak + win) % 4294967296))
      have Z3epppp := hW3epppp ▸ Z3eppp.put_other C3eppp nZC 3 (.int .u32 ((ak + win) % 4294967296))
      have b3epppp := hW3epppp ▸ b3eppp.setCell (p := ⟨w.heap.size, 3, none⟩) (Nat.le_refl _) (.int .u32 ((ak + win) % 4294967296))
      have y0 := C3epppp.cell 0 (.int .i64 st) rfl
      have z0 := C3epppp.frozen 0
      obtain ⟨W3eppppp, hW3eppppp⟩ : ∃ W, W3epppp.setCell ⟨w.heap.size, 0, none⟩ (.int .i64 2) = W := ⟨_, rfl⟩
      have C3eppppp : Blk W3eppppp w.heap.size 28 (Cn.v ⟨2, n0, E, ((ak + win) % 4294967296), ((E + e1) % 4294967296), k0, true, d0, d1⟩) := hW3eppppp ▸ C3epppp.put 0 (.int .i64 2)
      have G3eppppp := hW3eppppp ▸ G3epppp.put_other C3epppp nGC 0 (.int .i64 2)
      have Z3eppppp := hW3eppppp ▸ Z3epppp.put_other C3epppp nZC 0 (.int .i64 2)
      have b3eppppp := hW3eppppp ▸ b3epppp.setCell (p := ⟨w.heap.size, 0, none⟩) (Nat.le_refl _) (.int .i64 2)
      have Zf := Z3eppppp.set (Cn.v ⟨2, n0, E, ((ak + win) % 4294967296), ((E + e1) % 4294967296), k0, true, d0, d1⟩)
      have bf := below_setRow b3eppppp gZ (Cn.v ⟨2, n0, E, ((ak + win) % 4294967296), ((E + e1) % 4294967296), k0, true, d0, d1⟩)
      go_wp2_with (first | (refine wpList_load_blk_w (by rfl) _ _ rfl w.heap.size (by rfl) _ C3eppppp Try.underlying28 (by kernel_rfl) ?_) | (refine wpList_load_blk_w (by rfl) _ _ rfl W1.heap.size (by rfl) _ G3eppppp Try.underlying24 (by kernel_rfl) ?_) | (refine wpList_store_row rfl _ _ _ rfl W2.heap.size (Cn.v ⟨2, n0, E, ((ak + win) % 4294967296), ((E + e1) % 4294967296), k0, true, d0, d1⟩) (by rfl) (by rfl) _ _ Z3eppppp (by kernel_rfl) (by rfl) (by kernel_rfl) ?_))
      obtain rfl : ((⟨2, n0, E, ((ak + win) % 4294967296), ((E + e1) % 4294967296), k0, true, d0, d1⟩ : Cn), (0 : Int)) = R := by rw [← HR.out]; first | rfl | simp [Cn.ret]
      exact ret_cell_tmp (k := 6) (j := 7) Try.f26 (by kernel_rfl) Zf Try.underlying28 (by kernel_rfl) (by rfl) (by rfl) rfl ⟨rfl, bf⟩




  | true =>
   have Zf := Z3.set cn0.v
   have bf := below_setRow b3 gZ cn0.v
   go_wp2_with (first | (refine wpList_load_blk_w (by rfl) _ _ rfl w.heap.size (by rfl) _ C3 Try.underlying28 (by kernel_rfl) ?_) | (refine wpList_load_blk_w (by rfl) _ _ rfl W1.heap.size (by rfl) _ G3 Try.underlying24 (by kernel_rfl) ?_) | (refine wpList_store_row rfl _ _ _ rfl W2.heap.size cn0.v (by rfl) (by rfl) _ _ Z3 (by kernel_rfl) (by rfl) (by kernel_rfl) ?_))
   obtain rfl : (cn0, (23 : Int)) = R := by rw [← HR.out]; first | rfl | simp [Cn.ret]
   exact ret_cell_tmp (k := 6) (j := 7) Try.f26 (by kernel_rfl) Zf Try.underlying28 (by kernel_rfl) (by rfl) (by rfl) rfl ⟨rfl, bf⟩


 | true =>
  have Zf := Z3.set cn0.v
  have bf := below_setRow b3 gZ cn0.v
  go_wp2_with (first | (refine wpList_load_blk_w (by rfl) _ _ rfl w.heap.size (by rfl) _ C3 Try.underlying28 (by kernel_rfl) ?_) | (refine wpList_load_blk_w (by rfl) _ _ rfl W1.heap.size (by rfl) _ G3 Try.underlying24 (by kernel_rfl) ?_) | (refine wpList_store_row rfl _ _ _ rfl W2.heap.size cn0.v (by rfl) (by rfl) _ _ Z3 (by kernel_rfl) (by rfl) (by kernel_rfl) ?_))
  obtain rfl : (cn0, (23 : Int)) = R := by rw [← HR.out]; first | rfl | simp [Cn.ret]
  exact ret_cell_tmp (k := 6) (j := 7) Try.f26 (by kernel_rfl) Zf Try.underlying28 (by kernel_rfl) (by rfl) (by rfl) rfl ⟨rfl, bf⟩
end Go.Proofs.Ytmmnjjcopdabcaa
