/- Texts joined: TcH -/
import Derived.Test.YtmjjdbkipagkbaaFyp12
namespace Go.Proofs.Ytmjjdbkipagkbaa
abbrev fyp19o0 : Oper := { dst := some 2, op := Op.assign (.tmp 44), type := 4, pos := "tcp.go:72", after := #[{ on := 11, ground := Ground.data }, { on := 9, ground := Ground.chain }, { on := 0, ground := Ground.phase }, { on := 1, ground := Ground.phase }, { on := 2, ground := Ground.phase }, { on := 3, ground := Ground.phase }, { on := 4, ground := Ground.phase }, { on := 5, ground := Ground.phase }, { on := 6, ground := Ground.phase }, { on := 7, ground := Ground.phase }, { on := 8, ground := Ground.phase }, { on := 9, ground := Ground.phase }, { on := 10, ground := Ground.phase }, { on := 11, ground := Ground.phase }], guard := none }
abbrev fyp19o1 : Oper := { dst := some 42, op := Op.call { callee := Callee.value (.func 82), args := #[.tmp 41], argTypes := #[29] }, type := 3, pos := "tcp.go:72", after := #[{ on := 8, ground := Ground.data }, { on := 4, ground := Ground.chain }, { on := 4, ground := Ground.guard }], guard := some (4, true) }
abbrev fyp19o2 : Oper := { dst := some 43, op := Op.binOp BinOp.eql 3 (.tmp 39) (.tmp 42) 3, type := 4, pos := "tcp.go:72", after := #[{ on := 6, ground := Ground.data }, { on := 9, ground := Ground.data }, { on := 4, ground := Ground.guard }], guard := some (4, true) }
abbrev fyp19o3 : Oper := { dst := some 36, op := Op.binOp BinOp.eql 29 (.tmp 34) (.tmp 35) 29, type := 4, pos := "tcp.go:72", after := #[{ on := 1, ground := Ground.data }, { on := 2, ground := Ground.data }], guard := none }
abbrev fyp19o4 : Oper := { dst := some 44, op := Op.pick (.tmp 37) (.tmp 43) (.const (.bool false)), type := 4, pos := "tcp.go:72", after := #[{ on := 4, ground := Ground.data }, { on := 10, ground := Ground.data }], guard := none }
abbrev fyp19o5 : Oper := { dst := some 41, op := Op.load 29 (.tmp 40), type := 29, pos := "tcp.go:72", after := #[{ on := 7, ground := Ground.data }, { on := 4, ground := Ground.guard }], guard := some (4, true) }
abbrev fyp19o6 : Oper := { dst := some 39, op := Op.load 3 (.tmp 38), type := 3, pos := "tcp.go:72", after := #[{ on := 5, ground := Ground.data }, { on := 4, ground := Ground.guard }], guard := some (4, true) }
abbrev fyp19o7 : Oper := { dst := some 35, op := Op.build 29 #[(0, .const (.bool true)), (1, .const (.bool true))], type := 29, pos := "tcp.go:72", after := #[], guard := none }
abbrev fyp19o8 : Oper := { dst := some 38, op := Op.fieldAddr 31 (.tmp 1) 0, type := 0, pos := "tcp.go:72", after := #[{ on := 4, ground := Ground.guard }], guard := some (4, true) }
abbrev fyp19o9 : Oper := { dst := some 40, op := Op.fieldAddr 31 (.tmp 1) 4, type := 0, pos := "tcp.go:72", after := #[{ on := 4, ground := Ground.guard }], guard := some (4, true) }
abbrev fyp19o10 : Oper := { dst := some 34, op := Op.load 29 (.tmp 33), type := 29, pos := "tcp.go:72", after := #[{ on := 0, ground := Ground.data }], guard := none }
abbrev fyp19o11 : Oper := { dst := some 37, op := Op.move (.tmp 36), type := 4, pos := "tcp.go:72", after := #[{ on := 3, ground := Ground.data }], guard := none }
abbrev fyp19o12 : Oper := { dst := some 33, op := Op.fieldAddr 31 (.tmp 1) 3, type := 0, pos := "tcp.go:72", after := #[], guard := none }
end Go.Proofs.Ytmjjdbkipagkbaa
namespace Go.Proofs.Ytmjjdbkipagkbaa
open Go.RowKit
set_option linter.unusedVariables false
set_option linter.unusedSimpArgs false
theorem eqA_tc (a b c d : Bool) : ∀ W, (Op.equalIn 10000 29 (.agg #[.bool a, .bool b]) (.agg #[.bool c, .bool d])).run Try.prog W = .ok (a == c && b == d) W := by
  intro W
  cases a <;> cases b <;> cases c <;> cases d <;> kernel_rfl
theorem eq2_tc (a b : Bool) : ∀ W, (Op.equalIn 10000 29 (.agg #[.bool a, .bool b]) (.agg #[.bool true, .bool true])).run Try.prog W = .ok (a && b) W := by
  intro W
  cases a <;> cases b <;> kernel_rfl
set_option maxRecDepth 100000 in
set_option maxHeartbeats 4000000 in
theorem right_tc (c : Cn) (w : World) :
    Calls Try.prog 67 #[.agg c.v] w fun e w' => e = .returned (.bool c.right) ∧ Below w.heap.size w w' := by
  obtain ⟨R, hR⟩ : ∃ R, c.right = R := ⟨_, rfl⟩
  have HR : Hid ((if c.st == 1 then c.k0 && (!c.k1 && (!c.d0 && !c.d1)) else if c.st == 2 then c.k0 && (c.k1 && (!c.d0 && !c.d1)) else if c.st == 3 || (c.st == 4 || c.st == 5) then c.k0 && (c.k1 && c.st == stOf c.d0 c.d1) else if c.st == 6 then c.k0 else false) = R) := hR
  rw [hR]
  clear hR
  obtain ⟨st, n0, n1, e0, e1, k0, k1, d0, d1⟩ := c
  dsimp only at *
  have KS : Hid (∀ W, Calls Try.prog 82 #[.agg #[.bool d0, .bool d1]] W fun e w' => e = .returned (.int .i64 (stOf d0 d1)) ∧ Below W.heap.size W w') := fun W => state_tc d0 d1 W
  generalize hT : (st == stOf d0 d1) = T at *
  generalize stOf d0 d1 = SD at *
  generalize h1 : (st == 1) = X1 at *
  generalize h2 : (st == 2) = X2 at *
  generalize h3 : (st == 3) = X3 at *
  generalize h4 : (st == 4) = X4 at *
  generalize h5 : (st == 5) = X5 at *
  generalize h6 : (st == 6) = X6 at *
  cases X1 with
  | false =>
    cases X2 with
    | false =>
      cases X3 with
      | false =>
        cases X4 with
        | false =>
          cases X5 with
          | false =>
            cases X6 with
            | false =>
              obtain ⟨W1, hW1⟩ : ∃ W, w.alloc (.cells (Cn.v ⟨st, n0, n1, e0, e1, k0, k1, d0, d1⟩) 31) = W := ⟨_, rfl⟩
              have b1 := bel_nw hW1
              have C1 := blk_nw hW1
              have c0 := C1.cell 0 (.int .i64 st) rfl
              have c5 := C1.cell 5 (.bool k0) rfl
              have c6 := C1.cell 6 (.bool k1) rfl
              have c7 := C1.cell 7 (.bool d0) rfl
              have c8 := C1.cell 8 (.bool d1) rfl
              go_enter Try.func67, Try.ntmps67
              go_wp2_with (first | (refine wpList_load_suba_w (by rfl) _ _ rfl w.heap.size 5 _ (by rfl) _ #[.bool k0, .bool k1] C1 (by rfl) Try.underlying29 (by kernel_rfl) ?_) | (refine wpList_load_suba_w (by rfl) _ _ rfl w.heap.size 7 _ (by rfl) _ #[.bool d0, .bool d1] C1 (by rfl) Try.underlying29 (by kernel_rfl) ?_))
              go_ret
              exact ⟨retB_tc (by rw [← HR.out]; first | rfl | simp), b1⟩

            | true =>
              obtain ⟨W1, hW1⟩ : ∃ W, w.alloc (.cells (Cn.v ⟨st, n0, n1, e0, e1, k0, k1, d0, d1⟩) 31) = W := ⟨_, rfl⟩
              have b1 := bel_nw hW1
              have C1 := blk_nw hW1
              have c0 := C1.cell 0 (.int .i64 st) rfl
              have c5 := C1.cell 5 (.bool k0) rfl
              have c6 := C1.cell 6 (.bool k1) rfl
              have c7 := C1.cell 7 (.bool d0) rfl
              have c8 := C1.cell 8 (.bool d1) rfl
              go_enter Try.func67, Try.ntmps67
              go_wp2_with (first | (refine wpList_load_suba_w (by rfl) _ _ rfl w.heap.size 5 _ (by rfl) _ #[.bool k0, .bool k1] C1 (by rfl) Try.underlying29 (by kernel_rfl) ?_) | (refine wpList_load_suba_w (by rfl) _ _ rfl w.heap.size 7 _ (by rfl) _ #[.bool d0, .bool d1] C1 (by rfl) Try.underlying29 (by kernel_rfl) ?_))
              go_ret
              exact ⟨retB_tc (by rw [← HR.out]; first | rfl | simp), b1⟩


          | true =>
            cases k0 <;> cases k1
            · obtain ⟨W1, hW1⟩ : ∃ W, w.alloc (.cells (Cn.v ⟨st, n0, n1, e0, e1, false, false, d0, d1⟩) 31) = W := ⟨_, rfl⟩
              have b1 := bel_nw hW1
              have C1 := blk_nw hW1
              have c0 := C1.cell 0 (.int .i64 st) rfl
              have c5 := C1.cell 5 (.bool false) rfl
              have c6 := C1.cell 6 (.bool false) rfl
              have c7 := C1.cell 7 (.bool d0) rfl
              have c8 := C1.cell 8 (.bool d1) rfl
              go_enter Try.func67, Try.ntmps67
              go_wp2_with (first | (refine wpList_load_suba_w (by rfl) _ _ rfl w.heap.size 5 _ (by rfl) _ #[.bool false, .bool false] C1 (by rfl) Try.underlying29 (by kernel_rfl) ?_) | (refine wpList_load_suba_w (by rfl) _ _ rfl w.heap.size 7 _ (by rfl) _ #[.bool d0, .bool d1] C1 (by rfl) Try.underlying29 (by kernel_rfl) ?_))
              have Cd := C1.drew
              have bd := b1.drew
              refine wp_region_noPanic ?_
              refine wp_region_held_drew (S := fun w' => Blk w' w.heap.size 31 (Cn.v ⟨st, n0, n1, e0, e1, false, false, d0, d1⟩)) (by kernel_rfl) (by exact Cd) (fun hHeld => ?_)
              refine qtk (i := 0) (oi := fyp19o12) (v := (.pointer (some ⟨w.heap.size, 5, none⟩))) hHeld ?_ ?_
              · intro w9 hSw
                try dsimp only at hSw
                go_simp
              try simp only [qpu]
              refine qty (i := 1) (oi := fyp19o10) (v := (.agg #[.bool false, .bool false])) (yieldsIf_suba_w (by kernel_rfl) _ _ rfl w.heap.size 5 _ (by rfl) _ #[.bool false, .bool false] (fun _ hSw => hSw) (by rfl) Try.underlying29 (by kernel_rfl)) hHeld ?_
              try simp only [qpu]
              refine qtk (i := 2) (oi := fyp19o7) (v := (.agg #[.bool true, .bool true])) hHeld ?_ ?_
              · intro w9 hSw
                try dsimp only at hSw
                go_simp
              try simp only [qpu]
              refine qtk (i := 3) (oi := fyp19o3) (v := (.bool false)) hHeld ?_ ?_
              · intro w9 hSw
                try dsimp only at hSw
                have hcc := eq2_tc false false
                go_simp
              try simp only [qpu]
              refine qtk (i := 4) (oi := fyp19o11) (v := (.bool false)) hHeld ?_ ?_
              · intro w9 hSw
                try dsimp only at hSw
                go_simp
              try simp only [qpu]
              refine qtn (i := 5) (oi := fyp19o8) hHeld ?_
              try simp only [qpu]
              refine qtn (i := 6) (oi := fyp19o6) hHeld ?_
              try simp only [qpu]
              refine qtn (i := 7) (oi := fyp19o9) hHeld ?_
              try simp only [qpu]
              refine qtn (i := 8) (oi := fyp19o5) hHeld ?_
              try simp only [qpu]
              refine qtn (i := 9) (oi := fyp19o1) hHeld ?_
              try simp only [qpu]
              refine qtn (i := 10) (oi := fyp19o2) hHeld ?_
              try simp only [qpu]
              refine qtk (i := 11) (oi := fyp19o4) (v := (.bool false)) hHeld ?_ ?_
              · intro w9 hSw
                try dsimp only at hSw
                go_simp
              try simp only [qpu]
              refine qtk (i := 12) (oi := fyp19o0) (v := (.bool false)) hHeld ?_ ?_
              · intro w9 hSw
                try dsimp only at hSw
                go_simp
              try simp only [qpu]
              refine wpAnyH_done (by kernel_rfl) ?_ _
              refine NoPanic.normal ?_
              go_wp2
              go_ret
              exact ⟨retB_tc (by rw [← HR.out]; first | rfl | simp), bd⟩
            · obtain ⟨W1, hW1⟩ : ∃ W, w.alloc (.cells (Cn.v ⟨st, n0, n1, e0, e1, false, true, d0, d1⟩) 31) = W := ⟨_, rfl⟩
              have b1 := bel_nw hW1
              have C1 := blk_nw hW1
              have c0 := C1.cell 0 (.int .i64 st) rfl
              have c5 := C1.cell 5 (.bool false) rfl
              have c6 := C1.cell 6 (.bool true) rfl
              have c7 := C1.cell 7 (.bool d0) rfl
              have c8 := C1.cell 8 (.bool d1) rfl
              go_enter Try.func67, Try.ntmps67
              go_wp2_with (first | (refine wpList_load_suba_w (by rfl) _ _ rfl w.heap.size 5 _ (by rfl) _ #[.bool false, .bool true] C1 (by rfl) Try.underlying29 (by kernel_rfl) ?_) | (refine wpList_load_suba_w (by rfl) _ _ rfl w.heap.size 7 _ (by rfl) _ #[.bool d0, .bool d1] C1 (by rfl) Try.underlying29 (by kernel_rfl) ?_))
              have Cd := C1.drew
              have bd := b1.drew
              refine wp_region_noPanic ?_
              refine wp_region_held_drew (S := fun w' => Blk w' w.heap.size 31 (Cn.v ⟨st, n0, n1, e0, e1, false, true, d0, d1⟩)) (by kernel_rfl) (by exact Cd) (fun hHeld => ?_)
              refine qtk (i := 0) (oi := fyp19o12) (v := (.pointer (some ⟨w.heap.size, 5, none⟩))) hHeld ?_ ?_
              · intro w9 hSw
                try dsimp only at hSw
                go_simp
              try simp only [qpu]
              refine qty (i := 1) (oi := fyp19o10) (v := (.agg #[.bool false, .bool true])) (yieldsIf_suba_w (by kernel_rfl) _ _ rfl w.heap.size 5 _ (by rfl) _ #[.bool false, .bool true] (fun _ hSw => hSw) (by rfl) Try.underlying29 (by kernel_rfl)) hHeld ?_
              try simp only [qpu]
              refine qtk (i := 2) (oi := fyp19o7) (v := (.agg #[.bool true, .bool true])) hHeld ?_ ?_
              · intro w9 hSw
                try dsimp only at hSw
                go_simp
              try simp only [qpu]
              refine qtk (i := 3) (oi := fyp19o3) (v := (.bool false)) hHeld ?_ ?_
              · intro w9 hSw
                try dsimp only at hSw
                have hcc := eq2_tc false true
                go_simp
              try simp only [qpu]
              refine qtk (i := 4) (oi := fyp19o11) (v := (.bool false)) hHeld ?_ ?_
              · intro w9 hSw
                try dsimp only at hSw
                go_simp
              try simp only [qpu]
              refine qtn (i := 5) (oi := fyp19o8) hHeld ?_
              try simp only [qpu]
              refine qtn (i := 6) (oi := fyp19o6) hHeld ?_
              try simp only [qpu]
              refine qtn (i := 7) (oi := fyp19o9) hHeld ?_
              try simp only [qpu]
              refine qtn (i := 8) (oi := fyp19o5) hHeld ?_
              try simp only [qpu]
              refine qtn (i := 9) (oi := fyp19o1) hHeld ?_
              try simp only [qpu]
              refine qtn (i := 10) (oi := fyp19o2) hHeld ?_
              try simp only [qpu]
              refine qtk (i := 11) (oi := fyp19o4) (v := (.bool false)) hHeld ?_ ?_
              · intro w9 hSw
                try dsimp only at hSw
                go_simp
              try simp only [qpu]
              refine qtk (i := 12) (oi := fyp19o0) (v := (.bool false)) hHeld ?_ ?_
              · intro w9 hSw
                try dsimp only at hSw
                go_simp
              try simp only [qpu]
              refine wpAnyH_done (by kernel_rfl) ?_ _
              refine NoPanic.normal ?_
              go_wp2
              go_ret
              exact ⟨retB_tc (by rw [← HR.out]; first | rfl | simp), bd⟩
            · obtain ⟨W1, hW1⟩ : ∃ W, w.alloc (.cells (Cn.v ⟨st, n0, n1, e0, e1, true, false, d0, d1⟩) 31) = W := ⟨_, rfl⟩
              have b1 := bel_nw hW1
              have C1 := blk_nw hW1
              have c0 := C1.cell 0 (.int .i64 st) rfl
              have c5 := C1.cell 5 (.bool true) rfl
              have c6 := C1.cell 6 (.bool false) rfl
              have c7 := C1.cell 7 (.bool d0) rfl
              have c8 := C1.cell 8 (.bool d1) rfl
              go_enter Try.func67, Try.ntmps67
              go_wp2_with (first | (refine wpList_load_suba_w (by rfl) _ _ rfl w.heap.size 5 _ (by rfl) _ #[.bool true, .bool false] C1 (by rfl) Try.underlying29 (by kernel_rfl) ?_) | (refine wpList_load_suba_w (by rfl) _ _ rfl w.heap.size 7 _ (by rfl) _ #[.bool d0, .bool d1] C1 (by rfl) Try.underlying29 (by kernel_rfl) ?_))
              have Cd := C1.drew
              have bd := b1.drew
              refine wp_region_noPanic ?_
              refine wp_region_held_drew (S := fun w' => Blk w' w.heap.size 31 (Cn.v ⟨st, n0, n1, e0, e1, true, false, d0, d1⟩)) (by kernel_rfl) (by exact Cd) (fun hHeld => ?_)
              refine qtk (i := 0) (oi := fyp19o12) (v := (.pointer (some ⟨w.heap.size, 5, none⟩))) hHeld ?_ ?_
              · intro w9 hSw
                try dsimp only at hSw
                go_simp
              try simp only [qpu]
              refine qty (i := 1) (oi := fyp19o10) (v := (.agg #[.bool true, .bool false])) (yieldsIf_suba_w (by kernel_rfl) _ _ rfl w.heap.size 5 _ (by rfl) _ #[.bool true, .bool false] (fun _ hSw => hSw) (by rfl) Try.underlying29 (by kernel_rfl)) hHeld ?_
              try simp only [qpu]
              refine qtk (i := 2) (oi := fyp19o7) (v := (.agg #[.bool true, .bool true])) hHeld ?_ ?_
              · intro w9 hSw
                try dsimp only at hSw
                go_simp
              try simp only [qpu]
              refine qtk (i := 3) (oi := fyp19o3) (v := (.bool false)) hHeld ?_ ?_
              · intro w9 hSw
                try dsimp only at hSw
                have hcc := eq2_tc true false
                go_simp
              try simp only [qpu]
              refine qtk (i := 4) (oi := fyp19o11) (v := (.bool false)) hHeld ?_ ?_
              · intro w9 hSw
                try dsimp only at hSw
                go_simp
              try simp only [qpu]
              refine qtn (i := 5) (oi := fyp19o8) hHeld ?_
              try simp only [qpu]
              refine qtn (i := 6) (oi := fyp19o6) hHeld ?_
              try simp only [qpu]
              refine qtn (i := 7) (oi := fyp19o9) hHeld ?_
              try simp only [qpu]
              refine qtn (i := 8) (oi := fyp19o5) hHeld ?_
              try simp only [qpu]
              refine qtn (i := 9) (oi := fyp19o1) hHeld ?_
              try simp only [qpu]
              refine qtn (i := 10) (oi := fyp19o2) hHeld ?_
              try simp only [qpu]
              refine qtk (i := 11) (oi := fyp19o4) (v := (.bool false)) hHeld ?_ ?_
              · intro w9 hSw
                try dsimp only at hSw
                go_simp
              try simp only [qpu]
              refine qtk (i := 12) (oi := fyp19o0) (v := (.bool false)) hHeld ?_ ?_
              · intro w9 hSw
                try dsimp only at hSw
                go_simp
              try simp only [qpu]
              refine wpAnyH_done (by kernel_rfl) ?_ _
              refine NoPanic.normal ?_
              go_wp2
              go_ret
              exact ⟨retB_tc (by rw [← HR.out]; first | rfl | simp), bd⟩
            · obtain ⟨W1, hW1⟩ : ∃ W, w.alloc (.cells (Cn.v ⟨st, n0, n1, e0, e1, true, true, d0, d1⟩) 31) = W := ⟨_, rfl⟩
              have b1 := bel_nw hW1
              have C1 := blk_nw hW1
              have c0 := C1.cell 0 (.int .i64 st) rfl
              have c5 := C1.cell 5 (.bool true) rfl
              have c6 := C1.cell 6 (.bool true) rfl
              have c7 := C1.cell 7 (.bool d0) rfl
              have c8 := C1.cell 8 (.bool d1) rfl
              go_enter Try.func67, Try.ntmps67
              go_wp2_with (first | (refine wpList_load_suba_w (by rfl) _ _ rfl w.heap.size 5 _ (by rfl) _ #[.bool true, .bool true] C1 (by rfl) Try.underlying29 (by kernel_rfl) ?_) | (refine wpList_load_suba_w (by rfl) _ _ rfl w.heap.size 7 _ (by rfl) _ #[.bool d0, .bool d1] C1 (by rfl) Try.underlying29 (by kernel_rfl) ?_))
              have Cd := C1.drew
              have bd := b1.drew
              refine wp_region_noPanic ?_
              refine wp_region_held_drew (S := fun w' => Blk w' w.heap.size 31 (Cn.v ⟨st, n0, n1, e0, e1, true, true, d0, d1⟩)) (by kernel_rfl) (by exact Cd) (fun hHeld => ?_)
              refine qtk (i := 0) (oi := fyp19o12) (v := (.pointer (some ⟨w.heap.size, 5, none⟩))) hHeld ?_ ?_
              · intro w9 hSw
                try dsimp only at hSw
                go_simp
              try simp only [qpu]
              refine qty (i := 1) (oi := fyp19o10) (v := (.agg #[.bool true, .bool true])) (yieldsIf_suba_w (by kernel_rfl) _ _ rfl w.heap.size 5 _ (by rfl) _ #[.bool true, .bool true] (fun _ hSw => hSw) (by rfl) Try.underlying29 (by kernel_rfl)) hHeld ?_
              try simp only [qpu]
              refine qtk (i := 2) (oi := fyp19o7) (v := (.agg #[.bool true, .bool true])) hHeld ?_ ?_
              · intro w9 hSw
                try dsimp only at hSw
                go_simp
              try simp only [qpu]
              refine qtk (i := 3) (oi := fyp19o3) (v := (.bool true)) hHeld ?_ ?_
              · intro w9 hSw
                try dsimp only at hSw
                have hcc := eq2_tc true true
                go_simp
              try simp only [qpu]
              refine qtk (i := 4) (oi := fyp19o11) (v := (.bool true)) hHeld ?_ ?_
              · intro w9 hSw
                try dsimp only at hSw
                go_simp
              try simp only [qpu]
              refine qtk (i := 5) (oi := fyp19o8) (v := (.pointer (some ⟨w.heap.size, 0, none⟩))) hHeld ?_ ?_
              · intro w9 hSw
                try dsimp only at hSw
                go_simp
              try simp only [qpu]
              refine qtk (i := 6) (oi := fyp19o6) (v := (.int .i64 st)) hHeld ?_ ?_
              · intro w9 hSw
                try dsimp only at hSw
                have hcc := hSw.cell 0 (.int .i64 st) rfl
                go_simp
              try simp only [qpu]
              refine qtk (i := 7) (oi := fyp19o9) (v := (.pointer (some ⟨w.heap.size, 7, none⟩))) hHeld ?_ ?_
              · intro w9 hSw
                try dsimp only at hSw
                go_simp
              try simp only [qpu]
              refine qty (i := 8) (oi := fyp19o5) (v := (.agg #[.bool d0, .bool d1])) (yieldsIf_suba_w (by kernel_rfl) _ _ rfl w.heap.size 7 _ (by rfl) _ #[.bool d0, .bool d1] (fun _ hSw => hSw) (by rfl) Try.underlying29 (by kernel_rfl)) hHeld ?_
              try simp only [qpu]
              refine wpAnyH_ready (rs := [9]) (by kernel_rfl) (by simp) ?_
              refine AllReadyH.cons (o := fyp19o1) rfl (fun K hK => ?_) AllReadyH.nil
              go_simp
              refine Calls.mono (KS.out _) ?_
              rintro e Wx1 ⟨rfl, bb⟩
              have Cx1 := Cd.kept bb
              have bx1 := bel_tr bd bb
              clear bb
              refine hK.out _ _ (by exact Cx1) (fun hHeld => ?_)
              clear hK K
              try simp only [qpu]
              refine qtk (i := 10) (oi := fyp19o2) (v := (.bool T)) hHeld ?_ ?_
              · intro w9 hSw
                try dsimp only at hSw
                go_simp
              try simp only [qpu]
              refine qtk (i := 11) (oi := fyp19o4) (v := (.bool T)) hHeld ?_ ?_
              · intro w9 hSw
                try dsimp only at hSw
                go_simp
              try simp only [qpu]
              refine qtk (i := 12) (oi := fyp19o0) (v := (.bool T)) hHeld ?_ ?_
              · intro w9 hSw
                try dsimp only at hSw
                go_simp
              try simp only [qpu]
              refine wpAnyH_done (by kernel_rfl) ?_ _
              refine NoPanic.normal ?_
              go_wp2
              go_ret
              exact ⟨retB_tc (by rw [← HR.out]; first | rfl | simp), bx1⟩


        | true =>
          cases k0 <;> cases k1
          · obtain ⟨W1, hW1⟩ : ∃ W, w.alloc (.cells (Cn.v ⟨st, n0, n1, e0, e1, false, false, d0, d1⟩) 31) = W := ⟨_, rfl⟩
            have b1 := bel_nw hW1
            have C1 := blk_nw hW1
            have c0 := C1.cell 0 (.int .i64 st) rfl
            have c5 := C1.cell 5 (.bool false) rfl
            have c6 := C1.cell 6 (.bool false) rfl
            have c7 := C1.cell 7 (.bool d0) rfl
            have c8 := C1.cell 8 (.bool d1) rfl
            go_enter Try.func67, Try.ntmps67
            go_wp2_with (first | (refine wpList_load_suba_w (by rfl) _ _ rfl w.heap.size 5 _ (by rfl) _ #[.bool false, .bool false] C1 (by rfl) Try.underlying29 (by kernel_rfl) ?_) | (refine wpList_load_suba_w (by rfl) _ _ rfl w.heap.size 7 _ (by rfl) _ #[.bool d0, .bool d1] C1 (by rfl) Try.underlying29 (by kernel_rfl) ?_))
            have Cd := C1.drew
            have bd := b1.drew
            refine wp_region_noPanic ?_
            refine wp_region_held_drew (S := fun w' => Blk w' w.heap.size 31 (Cn.v ⟨st, n0, n1, e0, e1, false, false, d0, d1⟩)) (by kernel_rfl) (by exact Cd) (fun hHeld => ?_)
            refine qtk (i := 0) (oi := fyp19o12) (v := (.pointer (some ⟨w.heap.size, 5, none⟩))) hHeld ?_ ?_
            · intro w9 hSw
              try dsimp only at hSw
              go_simp
            try simp only [qpu]
            refine qty (i := 1) (oi := fyp19o10) (v := (.agg #[.bool false, .bool false])) (yieldsIf_suba_w (by kernel_rfl) _ _ rfl w.heap.size 5 _ (by rfl) _ #[.bool false, .bool false] (fun _ hSw => hSw) (by rfl) Try.underlying29 (by kernel_rfl)) hHeld ?_
            try simp only [qpu]
            refine qtk (i := 2) (oi := fyp19o7) (v := (.agg #[.bool true, .bool true])) hHeld ?_ ?_
            · intro w9 hSw
              try dsimp only at hSw
              go_simp
            try simp only [qpu]
            refine qtk (i := 3) (oi := fyp19o3) (v := (.bool false)) hHeld ?_ ?_
            · intro w9 hSw
              try dsimp only at hSw
              have hcc := eq2_tc false false
              go_simp
            try simp only [qpu]
            refine qtk (i := 4) (oi := fyp19o11) (v := (.bool false)) hHeld ?_ ?_
            · intro w9 hSw
              try dsimp only at hSw
              go_simp
            try simp only [qpu]
            refine qtn (i := 5) (oi := fyp19o8) hHeld ?_
            try simp only [qpu]
            refine qtn (i := 6) (oi := fyp19o6) hHeld ?_
            try simp only [qpu]
            refine qtn (i := 7) (oi := fyp19o9) hHeld ?_
            try simp only [qpu]
            refine qtn (i := 8) (oi := fyp19o5) hHeld ?_
            try simp only [qpu]
            refine qtn (i := 9) (oi := fyp19o1) hHeld ?_
            try simp only [qpu]
            refine qtn (i := 10) (oi := fyp19o2) hHeld ?_
            try simp only [qpu]
            refine qtk (i := 11) (oi := fyp19o4) (v := (.bool false)) hHeld ?_ ?_
            · intro w9 hSw
              try dsimp only at hSw
              go_simp
            try simp only [qpu]
            refine qtk (i := 12) (oi := fyp19o0) (v := (.bool false)) hHeld ?_ ?_
            · intro w9 hSw
              try dsimp only at hSw
              go_simp
            try simp only [qpu]
            refine wpAnyH_done (by kernel_rfl) ?_ _
            refine NoPanic.normal ?_
            go_wp2
            go_ret
            exact ⟨retB_tc (by rw [← HR.out]; first | rfl | simp), bd⟩
          · obtain ⟨W1, hW1⟩ : ∃ W, w.alloc (.cells (Cn.v ⟨st, n0, n1, e0, e1, false, true, d0, d1⟩) 31) = W := ⟨_, rfl⟩
            have b1 := bel_nw hW1
            have C1 := blk_nw hW1
            have c0 := C1.cell 0 (.int .i64 st) rfl
            have c5 := C1.cell 5 (.bool false) rfl
            have c6 := C1.cell 6 (.bool true) rfl
            have c7 := C1.cell 7 (.bool d0) rfl
            have c8 := C1.cell 8 (.bool d1) rfl
            go_enter Try.func67, Try.ntmps67
            go_wp2_with (first | (refine wpList_load_suba_w (by rfl) _ _ rfl w.heap.size 5 _ (by rfl) _ #[.bool false, .bool true] C1 (by rfl) Try.underlying29 (by kernel_rfl) ?_) | (refine wpList_load_suba_w (by rfl) _ _ rfl w.heap.size 7 _ (by rfl) _ #[.bool d0, .bool d1] C1 (by rfl) Try.underlying29 (by kernel_rfl) ?_))
            have Cd := C1.drew
            have bd := b1.drew
            refine wp_region_noPanic ?_
            refine wp_region_held_drew (S := fun w' => Blk w' w.heap.size 31 (Cn.v ⟨st, n0, n1, e0, e1, false, true, d0, d1⟩)) (by kernel_rfl) (by exact Cd) (fun hHeld => ?_)
            refine qtk (i := 0) (oi := fyp19o12) (v := (.pointer (some ⟨w.heap.size, 5, none⟩))) hHeld ?_ ?_
            · intro w9 hSw
              try dsimp only at hSw
              go_simp
            try simp only [qpu]
            refine qty (i := 1) (oi := fyp19o10) (v := (.agg #[.bool false, .bool true])) (yieldsIf_suba_w (by kernel_rfl) _ _ rfl w.heap.size 5 _ (by rfl) _ #[.bool false, .bool true] (fun _ hSw => hSw) (by rfl) Try.underlying29 (by kernel_rfl)) hHeld ?_
            try simp only [qpu]
            refine qtk (i := 2) (oi := fyp19o7) (v := (.agg #[.bool true, .bool true])) hHeld ?_ ?_
            · intro w9 hSw
              try dsimp only at hSw
              go_simp
            try simp only [qpu]
            refine qtk (i := 3) (oi := fyp19o3) (v := (.bool false)) hHeld ?_ ?_
            · intro w9 hSw
              try dsimp only at hSw
              have hcc := eq2_tc false true
              go_simp
            try simp only [qpu]
            refine qtk (i := 4) (oi := fyp19o11) (v := (.bool false)) hHeld ?_ ?_
            · intro w9 hSw
              try dsimp only at hSw
              go_simp
            try simp only [qpu]
            refine qtn (i := 5) (oi := fyp19o8) hHeld ?_
            try simp only [qpu]
            refine qtn (i := 6) (oi := fyp19o6) hHeld ?_
            try simp only [qpu]
            refine qtn (i := 7) (oi := fyp19o9) hHeld ?_
            try simp only [qpu]
            refine qtn (i := 8) (oi := fyp19o5) hHeld ?_
            try simp only [qpu]
            refine qtn (i := 9) (oi := fyp19o1) hHeld ?_
            try simp only [qpu]
            refine qtn (i := 10) (oi := fyp19o2) hHeld ?_
            try simp only [qpu]
            refine qtk (i := 11) (oi := fyp19o4) (v := (.bool false)) hHeld ?_ ?_
            · intro w9 hSw
              try dsimp only at hSw
              go_simp
            try simp only [qpu]
            refine qtk (i := 12) (oi := fyp19o0) (v := (.bool false)) hHeld ?_ ?_
            · intro w9 hSw
              try dsimp only at hSw
              go_simp
            try simp only [qpu]
            refine wpAnyH_done (by kernel_rfl) ?_ _
            refine NoPanic.normal ?_
            go_wp2
            go_ret
            exact ⟨retB_tc (by rw [← HR.out]; first | rfl | simp), bd⟩
          · obtain ⟨W1, hW1⟩ : ∃ W, w.alloc (.cells (Cn.v ⟨st, n0, n1, e0, e1, true, false, d0, d1⟩) 31) = W := ⟨_, rfl⟩
            have b1 := bel_nw hW1
            have C1 := blk_nw hW1
            have c0 := C1.cell 0 (.int .i64 st) rfl
            have c5 := C1.cell 5 (.bool true) rfl
            have c6 := C1.cell 6 (.bool false) rfl
            have c7 := C1.cell 7 (.bool d0) rfl
            have c8 := C1.cell 8 (.bool d1) rfl
            go_enter Try.func67, Try.ntmps67
            go_wp2_with (first | (refine wpList_load_suba_w (by rfl) _ _ rfl w.heap.size 5 _ (by rfl) _ #[.bool true, .bool false] C1 (by rfl) Try.underlying29 (by kernel_rfl) ?_) | (refine wpList_load_suba_w (by rfl) _ _ rfl w.heap.size 7 _ (by rfl) _ #[.bool d0, .bool d1] C1 (by rfl) Try.underlying29 (by kernel_rfl) ?_))
            have Cd := C1.drew
            have bd := b1.drew
            refine wp_region_noPanic ?_
            refine wp_region_held_drew (S := fun w' => Blk w' w.heap.size 31 (Cn.v ⟨st, n0, n1, e0, e1, true, false, d0, d1⟩)) (by kernel_rfl) (by exact Cd) (fun hHeld => ?_)
            refine qtk (i := 0) (oi := fyp19o12) (v := (.pointer (some ⟨w.heap.size, 5, none⟩))) hHeld ?_ ?_
            · intro w9 hSw
              try dsimp only at hSw
              go_simp
            try simp only [qpu]
            refine qty (i := 1) (oi := fyp19o10) (v := (.agg #[.bool true, .bool false])) (yieldsIf_suba_w (by kernel_rfl) _ _ rfl w.heap.size 5 _ (by rfl) _ #[.bool true, .bool false] (fun _ hSw => hSw) (by rfl) Try.underlying29 (by kernel_rfl)) hHeld ?_
            try simp only [qpu]
            refine qtk (i := 2) (oi := fyp19o7) (v := (.agg #[.bool true, .bool true])) hHeld ?_ ?_
            · intro w9 hSw
              try dsimp only at hSw
              go_simp
            try simp only [qpu]
            refine qtk (i := 3) (oi := fyp19o3) (v := (.bool false)) hHeld ?_ ?_
            · intro w9 hSw
              try dsimp only at hSw
              have hcc := eq2_tc true false
              go_simp
            try simp only [qpu]
            refine qtk (i := 4) (oi := fyp19o11) (v := (.bool false)) hHeld ?_ ?_
            · intro w9 hSw
              try dsimp only at hSw
              go_simp
            try simp only [qpu]
            refine qtn (i := 5) (oi := fyp19o8) hHeld ?_
            try simp only [qpu]
            refine qtn (i := 6) (oi := fyp19o6) hHeld ?_
            try simp only [qpu]
            refine qtn (i := 7) (oi := fyp19o9) hHeld ?_
            try simp only [qpu]
            refine qtn (i := 8) (oi := fyp19o5) hHeld ?_
            try simp only [qpu]
            refine qtn (i := 9) (oi := fyp19o1) hHeld ?_
            try simp only [qpu]
            refine qtn (i := 10) (oi := fyp19o2) hHeld ?_
            try simp only [qpu]
            refine qtk (i := 11) (oi := fyp19o4) (v := (.bool false)) hHeld ?_ ?_
            · intro w9 hSw
              try dsimp only at hSw
              go_simp
            try simp only [qpu]
            refine qtk (i := 12) (oi := fyp19o0) (v := (.bool false)) hHeld ?_ ?_
            · intro w9 hSw
              try dsimp only at hSw
              go_simp
            try simp only [qpu]
            refine wpAnyH_done (by kernel_rfl) ?_ _
            refine NoPanic.normal ?_
            go_wp2
            go_ret
            exact ⟨retB_tc (by rw [← HR.out]; first | rfl | simp), bd⟩
          · obtain ⟨W1, hW1⟩ : ∃ W, w.alloc (.cells (Cn.v ⟨st, n0, n1, e0, e1, true, true, d0, d1⟩) 31) = W := ⟨_, rfl⟩
            have b1 := bel_nw hW1
            have C1 := blk_nw hW1
            have c0 := C1.cell 0 (.int .i64 st) rfl
            have c5 := C1.cell 5 (.bool true) rfl
            have c6 := C1.cell 6 (.bool true) rfl
            have c7 := C1.cell 7 (.bool d0) rfl
            have c8 := C1.cell 8 (.bool d1) rfl
            go_enter Try.func67, Try.ntmps67
            go_wp2_with (first | (refine wpList_load_suba_w (by rfl) _ _ rfl w.heap.size 5 _ (by rfl) _ #[.bool true, .bool true] C1 (by rfl) Try.underlying29 (by kernel_rfl) ?_) | (refine wpList_load_suba_w (by rfl) _ _ rfl w.heap.size 7 _ (by rfl) _ #[.bool d0, .bool d1] C1 (by rfl) Try.underlying29 (by kernel_rfl) ?_))
            have Cd := C1.drew
            have bd := b1.drew
            refine wp_region_noPanic ?_
            refine wp_region_held_drew (S := fun w' => Blk w' w.heap.size 31 (Cn.v ⟨st, n0, n1, e0, e1, true, true, d0, d1⟩)) (by kernel_rfl) (by exact Cd) (fun hHeld => ?_)
            refine qtk (i := 0) (oi := fyp19o12) (v := (.pointer (some ⟨w.heap.size, 5, none⟩))) hHeld ?_ ?_
            · intro w9 hSw
              try dsimp only at hSw
              go_simp
            try simp only [qpu]
            refine qty (i := 1) (oi := fyp19o10) (v := (.agg #[.bool true, .bool true])) (yieldsIf_suba_w (by kernel_rfl) _ _ rfl w.heap.size 5 _ (by rfl) _ #[.bool true, .bool true] (fun _ hSw => hSw) (by rfl) Try.underlying29 (by kernel_rfl)) hHeld ?_
            try simp only [qpu]
            refine qtk (i := 2) (oi := fyp19o7) (v := (.agg #[.bool true, .bool true])) hHeld ?_ ?_
            · intro w9 hSw
              try dsimp only at hSw
              go_simp
            try simp only [qpu]
            refine qtk (i := 3) (oi := fyp19o3) (v := (.bool true)) hHeld ?_ ?_
            · intro w9 hSw
              try dsimp only at hSw
              have hcc := eq2_tc true true
              go_simp
            try simp only [qpu]
            refine qtk (i := 4) (oi := fyp19o11) (v := (.bool true)) hHeld ?_ ?_
            · intro w9 hSw
              try dsimp only at hSw
              go_simp
            try simp only [qpu]
            refine qtk (i := 5) (oi := fyp19o8) (v := (.pointer (some ⟨w.heap.size, 0, none⟩))) hHeld ?_ ?_
            · intro w9 hSw
              try dsimp only at hSw
              go_simp
            try simp only [qpu]
            refine qtk (i := 6) (oi := fyp19o6) (v := (.int .i64 st)) hHeld ?_ ?_
            · intro w9 hSw
              try dsimp only at hSw
              have hcc := hSw.cell 0 (.int .i64 st) rfl
              go_simp
            try simp only [qpu]
            refine qtk (i := 7) (oi := fyp19o9) (v := (.pointer (some ⟨w.heap.size, 7, none⟩))) hHeld ?_ ?_
            · intro w9 hSw
              try dsimp only at hSw
              go_simp
            try simp only [qpu]
            refine qty (i := 8) (oi := fyp19o5) (v := (.agg #[.bool d0, .bool d1])) (yieldsIf_suba_w (by kernel_rfl) _ _ rfl w.heap.size 7 _ (by rfl) _ #[.bool d0, .bool d1] (fun _ hSw => hSw) (by rfl) Try.underlying29 (by kernel_rfl)) hHeld ?_
            try simp only [qpu]
            refine wpAnyH_ready (rs := [9]) (by kernel_rfl) (by simp) ?_
            refine AllReadyH.cons (o := fyp19o1) rfl (fun K hK => ?_) AllReadyH.nil
            go_simp
            refine Calls.mono (KS.out _) ?_
            rintro e Wx1 ⟨rfl, bb⟩
            have Cx1 := Cd.kept bb
            have bx1 := bel_tr bd bb
            clear bb
            refine hK.out _ _ (by exact Cx1) (fun hHeld => ?_)
            clear hK K
            try simp only [qpu]
            refine qtk (i := 10) (oi := fyp19o2) (v := (.bool T)) hHeld ?_ ?_
            · intro w9 hSw
              try dsimp only at hSw
              go_simp
            try simp only [qpu]
            refine qtk (i := 11) (oi := fyp19o4) (v := (.bool T)) hHeld ?_ ?_
            · intro w9 hSw
              try dsimp only at hSw
              go_simp
            try simp only [qpu]
            refine qtk (i := 12) (oi := fyp19o0) (v := (.bool T)) hHeld ?_ ?_
            · intro w9 hSw
              try dsimp only at hSw
              go_simp
            try simp only [qpu]
            refine wpAnyH_done (by kernel_rfl) ?_ _
            refine NoPanic.normal ?_
            go_wp2
            go_ret
            exact ⟨retB_tc (by rw [← HR.out]; first | rfl | simp), bx1⟩


      | true =>
        cases k0 <;> cases k1
        · obtain ⟨W1, hW1⟩ : ∃ W, w.alloc (.cells (Cn.v ⟨st, n0, n1, e0, e1, false, false, d0, d1⟩) 31) = W := ⟨_, rfl⟩
          have b1 := bel_nw hW1
          have C1 := blk_nw hW1
          have c0 := C1.cell 0 (.int .i64 st) rfl
          have c5 := C1.cell 5 (.bool false) rfl
          have c6 := C1.cell 6 (.bool false) rfl
          have c7 := C1.cell 7 (.bool d0) rfl
          have c8 := C1.cell 8 (.bool d1) rfl
          go_enter Try.func67, Try.ntmps67
          go_wp2_with (first | (refine wpList_load_suba_w (by rfl) _ _ rfl w.heap.size 5 _ (by rfl) _ #[.bool false, .bool false] C1 (by rfl) Try.underlying29 (by kernel_rfl) ?_) | (refine wpList_load_suba_w (by rfl) _ _ rfl w.heap.size 7 _ (by rfl) _ #[.bool d0, .bool d1] C1 (by rfl) Try.underlying29 (by kernel_rfl) ?_))
          have Cd := C1.drew
          have bd := b1.drew
          refine wp_region_noPanic ?_
          refine wp_region_held_drew (S := fun w' => Blk w' w.heap.size 31 (Cn.v ⟨st, n0, n1, e0, e1, false, false, d0, d1⟩)) (by kernel_rfl) (by exact Cd) (fun hHeld => ?_)
          refine qtk (i := 0) (oi := fyp19o12) (v := (.pointer (some ⟨w.heap.size, 5, none⟩))) hHeld ?_ ?_
          · intro w9 hSw
            try dsimp only at hSw
            go_simp
          try simp only [qpu]
          refine qty (i := 1) (oi := fyp19o10) (v := (.agg #[.bool false, .bool false])) (yieldsIf_suba_w (by kernel_rfl) _ _ rfl w.heap.size 5 _ (by rfl) _ #[.bool false, .bool false] (fun _ hSw => hSw) (by rfl) Try.underlying29 (by kernel_rfl)) hHeld ?_
          try simp only [qpu]
          refine qtk (i := 2) (oi := fyp19o7) (v := (.agg #[.bool true, .bool true])) hHeld ?_ ?_
          · intro w9 hSw
            try dsimp only at hSw
            go_simp
          try simp only [qpu]
          refine qtk (i := 3) (oi := fyp19o3) (v := (.bool false)) hHeld ?_ ?_
          · intro w9 hSw
            try dsimp only at hSw
            have hcc := eq2_tc false false
            go_simp
          try simp only [qpu]
          refine qtk (i := 4) (oi := fyp19o11) (v := (.bool false)) hHeld ?_ ?_
          · intro w9 hSw
            try dsimp only at hSw
            go_simp
          try simp only [qpu]
          refine qtn (i := 5) (oi := fyp19o8) hHeld ?_
          try simp only [qpu]
          refine qtn (i := 6) (oi := fyp19o6) hHeld ?_
          try simp only [qpu]
          refine qtn (i := 7) (oi := fyp19o9) hHeld ?_
          try simp only [qpu]
          refine qtn (i := 8) (oi := fyp19o5) hHeld ?_
          try simp only [qpu]
          refine qtn (i := 9) (oi := fyp19o1) hHeld ?_
          try simp only [qpu]
          refine qtn (i := 10) (oi := fyp19o2) hHeld ?_
          try simp only [qpu]
          refine qtk (i := 11) (oi := fyp19o4) (v := (.bool false)) hHeld ?_ ?_
          · intro w9 hSw
            try dsimp only at hSw
            go_simp
          try simp only [qpu]
          refine qtk (i := 12) (oi := fyp19o0) (v := (.bool false)) hHeld ?_ ?_
          · intro w9 hSw
            try dsimp only at hSw
            go_simp
          try simp only [qpu]
          refine wpAnyH_done (by kernel_rfl) ?_ _
          refine NoPanic.normal ?_
          go_wp2
          go_ret
          exact ⟨retB_tc (by rw [← HR.out]; first | rfl | simp), bd⟩
        · obtain ⟨W1, hW1⟩ : ∃ W, w.alloc (.cells (Cn.v ⟨st, n0, n1, e0, e1, false, true, d0, d1⟩) 31) = W := ⟨_, rfl⟩
          have b1 := bel_nw hW1
          have C1 := blk_nw hW1
          have c0 := C1.cell 0 (.int .i64 st) rfl
          have c5 := C1.cell 5 (.bool false) rfl
          have c6 := C1.cell 6 (.bool true) rfl
          have c7 := C1.cell 7 (.bool d0) rfl
          have c8 := C1.cell 8 (.bool d1) rfl
          go_enter Try.func67, Try.ntmps67
          go_wp2_with (first | (refine wpList_load_suba_w (by rfl) _ _ rfl w.heap.size 5 _ (by rfl) _ #[.bool false, .bool true] C1 (by rfl) Try.underlying29 (by kernel_rfl) ?_) | (refine wpList_load_suba_w (by rfl) _ _ rfl w.heap.size 7 _ (by rfl) _ #[.bool d0, .bool d1] C1 (by rfl) Try.underlying29 (by kernel_rfl) ?_))
          have Cd := C1.drew
          have bd := b1.drew
          refine wp_region_noPanic ?_
          refine wp_region_held_drew (S := fun w' => Blk w' w.heap.size 31 (Cn.v ⟨st, n0, n1, e0, e1, false, true, d0, d1⟩)) (by kernel_rfl) (by exact Cd) (fun hHeld => ?_)
          refine qtk (i := 0) (oi := fyp19o12) (v := (.pointer (some ⟨w.heap.size, 5, none⟩))) hHeld ?_ ?_
          · intro w9 hSw
            try dsimp only at hSw
            go_simp
          try simp only [qpu]
          refine qty (i := 1) (oi := fyp19o10) (v := (.agg #[.bool false, .bool true])) (yieldsIf_suba_w (by kernel_rfl) _ _ rfl w.heap.size 5 _ (by rfl) _ #[.bool false, .bool true] (fun _ hSw => hSw) (by rfl) Try.underlying29 (by kernel_rfl)) hHeld ?_
          try simp only [qpu]
          refine qtk (i := 2) (oi := fyp19o7) (v := (.agg #[.bool true, .bool true])) hHeld ?_ ?_
          · intro w9 hSw
            try dsimp only at hSw
            go_simp
          try simp only [qpu]
          refine qtk (i := 3) (oi := fyp19o3) (v := (.bool false)) hHeld ?_ ?_
          · intro w9 hSw
            try dsimp only at hSw
            have hcc := eq2_tc false true
            go_simp
          try simp only [qpu]
          refine qtk (i := 4) (oi := fyp19o11) (v := (.bool false)) hHeld ?_ ?_
          · intro w9 hSw
            try dsimp only at hSw
            go_simp
          try simp only [qpu]
          refine qtn (i := 5) (oi := fyp19o8) hHeld ?_
          try simp only [qpu]
          refine qtn (i := 6) (oi := fyp19o6) hHeld ?_
          try simp only [qpu]
          refine qtn (i := 7) (oi := fyp19o9) hHeld ?_
          try simp only [qpu]
          refine qtn (i := 8) (oi := fyp19o5) hHeld ?_
          try simp only [qpu]
          refine qtn (i := 9) (oi := fyp19o1) hHeld ?_
          try simp only [qpu]
          refine qtn (i := 10) (oi := fyp19o2) hHeld ?_
          try simp only [qpu]
          refine qtk (i := 11) (oi := fyp19o4) (v := (.bool false)) hHeld ?_ ?_
          · intro w9 hSw
            try dsimp only at hSw
            go_simp
          try simp only [qpu]
          refine qtk (i := 12) (oi := fyp19o0) (v := (.bool false)) hHeld ?_ ?_
          · intro w9 hSw
            try dsimp only at hSw
            go_simp
          try simp only [qpu]
          refine wpAnyH_done (by kernel_rfl) ?_ _
          refine NoPanic.normal ?_
          go_wp2
          go_ret
          exact ⟨retB_tc (by rw [← HR.out]; first | rfl | simp), bd⟩
        · obtain ⟨W1, hW1⟩ : ∃ W, w.alloc (.cells (Cn.v ⟨st, n0, n1, e0, e1, true, false, d0, d1⟩) 31) = W := ⟨_, rfl⟩
          have b1 := bel_nw hW1
          have C1 := blk_nw hW1
          have c0 := C1.cell 0 (.int .i64 st) rfl
          have c5 := C1.cell 5 (.bool true) rfl
          have c6 := C1.cell 6 (.bool false) rfl
          have c7 := C1.cell 7 (.bool d0) rfl
          have c8 := C1.cell 8 (.bool d1) rfl
          go_enter Try.func67, Try.ntmps67
          go_wp2_with (first | (refine wpList_load_suba_w (by rfl) _ _ rfl w.heap.size 5 _ (by rfl) _ #[.bool true, .bool false] C1 (by rfl) Try.underlying29 (by kernel_rfl) ?_) | (refine wpList_load_suba_w (by rfl) _ _ rfl w.heap.size 7 _ (by rfl) _ #[.bool d0, .bool d1] C1 (by rfl) Try.underlying29 (by kernel_rfl) ?_))
          have Cd := C1.drew
          have bd := b1.drew
          refine wp_region_noPanic ?_
          refine wp_region_held_drew (S := fun w' => Blk w' w.heap.size 31 (Cn.v ⟨st, n0, n1, e0, e1, true, false, d0, d1⟩)) (by kernel_rfl) (by exact Cd) (fun hHeld => ?_)
          refine qtk (i := 0) (oi := fyp19o12) (v := (.pointer (some ⟨w.heap.size, 5, none⟩))) hHeld ?_ ?_
          · intro w9 hSw
            try dsimp only at hSw
            go_simp
          try simp only [qpu]
          refine qty (i := 1) (oi := fyp19o10) (v := (.agg #[.bool true, .bool false])) (yieldsIf_suba_w (by kernel_rfl) _ _ rfl w.heap.size 5 _ (by rfl) _ #[.bool true, .bool false] (fun _ hSw => hSw) (by rfl) Try.underlying29 (by kernel_rfl)) hHeld ?_
          try simp only [qpu]
          refine qtk (i := 2) (oi := fyp19o7) (v := (.agg #[.bool true, .bool true])) hHeld ?_ ?_
          · intro w9 hSw
            try dsimp only at hSw
            go_simp
          try simp only [qpu]
          refine qtk (i := 3) (oi := fyp19o3) (v := (.bool false)) hHeld ?_ ?_
          · intro w9 hSw
            try dsimp only at hSw
            have hcc := eq2_tc true false
            go_simp
          try simp only [qpu]
          refine qtk (i := 4) (oi := fyp19o11) (v := (.bool false)) hHeld ?_ ?_
          · intro w9 hSw
            try dsimp only at hSw
            go_simp
          try simp only [qpu]
          refine qtn (i := 5) (oi := fyp19o8) hHeld ?_
          try simp only [qpu]
          refine qtn (i := 6) (oi := fyp19o6) hHeld ?_
          try simp only [qpu]
          refine qtn (i := 7) (oi := fyp19o9) hHeld ?_
          try simp only [qpu]
          refine qtn (i := 8) (oi := fyp19o5) hHeld ?_
          try simp only [qpu]
          refine qtn (i := 9) (oi := fyp19o1) hHeld ?_
          try simp only [qpu]
          refine qtn (i := 10) (oi := fyp19o2) hHeld ?_
          try simp only [qpu]
          refine qtk (i := 11) (oi := fyp19o4) (v := (.bool false)) hHeld ?_ ?_
          · intro w9 hSw
            try dsimp only at hSw
            go_simp
          try simp only [qpu]
          refine qtk (i := 12) (oi := fyp19o0) (v := (.bool false)) hHeld ?_ ?_
          · intro w9 hSw
            try dsimp only at hSw
            go_simp
          try simp only [qpu]
          refine wpAnyH_done (by kernel_rfl) ?_ _
          refine NoPanic.normal ?_
          go_wp2
          go_ret
          exact ⟨retB_tc (by rw [← HR.out]; first | rfl | simp), bd⟩
        · obtain ⟨W1, hW1⟩ : ∃ W, w.alloc (.cells (Cn.v ⟨st, n0, n1, e0, e1, true, true, d0, d1⟩) 31) = W := ⟨_, rfl⟩
          have b1 := bel_nw hW1
          have C1 := blk_nw hW1
          have c0 := C1.cell 0 (.int .i64 st) rfl
          have c5 := C1.cell 5 (.bool true) rfl
          have c6 := C1.cell 6 (.bool true) rfl
          have c7 := C1.cell 7 (.bool d0) rfl
          have c8 := C1.cell 8 (.bool d1) rfl
          go_enter Try.func67, Try.ntmps67
          go_wp2_with (first | (refine wpList_load_suba_w (by rfl) _ _ rfl w.heap.size 5 _ (by rfl) _ #[.bool true, .bool true] C1 (by rfl) Try.underlying29 (by kernel_rfl) ?_) | (refine wpList_load_suba_w (by rfl) _ _ rfl w.heap.size 7 _ (by rfl) _ #[.bool d0, .bool d1] C1 (by rfl) Try.underlying29 (by kernel_rfl) ?_))
          have Cd := C1.drew
          have bd := b1.drew
          refine wp_region_noPanic ?_
          refine wp_region_held_drew (S := fun w' => Blk w' w.heap.size 31 (Cn.v ⟨st, n0, n1, e0, e1, true, true, d0, d1⟩)) (by kernel_rfl) (by exact Cd) (fun hHeld => ?_)
          refine qtk (i := 0) (oi := fyp19o12) (v := (.pointer (some ⟨w.heap.size, 5, none⟩))) hHeld ?_ ?_
          · intro w9 hSw
            try dsimp only at hSw
            go_simp
          try simp only [qpu]
          refine qty (i := 1) (oi := fyp19o10) (v := (.agg #[.bool true, .bool true])) (yieldsIf_suba_w (by kernel_rfl) _ _ rfl w.heap.size 5 _ (by rfl) _ #[.bool true, .bool true] (fun _ hSw => hSw) (by rfl) Try.underlying29 (by kernel_rfl)) hHeld ?_
          try simp only [qpu]
          refine qtk (i := 2) (oi := fyp19o7) (v := (.agg #[.bool true, .bool true])) hHeld ?_ ?_
          · intro w9 hSw
            try dsimp only at hSw
            go_simp
          try simp only [qpu]
          refine qtk (i := 3) (oi := fyp19o3) (v := (.bool true)) hHeld ?_ ?_
          · intro w9 hSw
            try dsimp only at hSw
            have hcc := eq2_tc true true
            go_simp
          try simp only [qpu]
          refine qtk (i := 4) (oi := fyp19o11) (v := (.bool true)) hHeld ?_ ?_
          · intro w9 hSw
            try dsimp only at hSw
            go_simp
          try simp only [qpu]
          refine qtk (i := 5) (oi := fyp19o8) (v := (.pointer (some ⟨w.heap.size, 0, none⟩))) hHeld ?_ ?_
          · intro w9 hSw
            try dsimp only at hSw
            go_simp
          try simp only [qpu]
          refine qtk (i := 6) (oi := fyp19o6) (v := (.int .i64 st)) hHeld ?_ ?_
          · intro w9 hSw
            try dsimp only at hSw
            have hcc := hSw.cell 0 (.int .i64 st) rfl
            go_simp
          try simp only [qpu]
          refine qtk (i := 7) (oi := fyp19o9) (v := (.pointer (some ⟨w.heap.size, 7, none⟩))) hHeld ?_ ?_
          · intro w9 hSw
            try dsimp only at hSw
            go_simp
          try simp only [qpu]
          refine qty (i := 8) (oi := fyp19o5) (v := (.agg #[.bool d0, .bool d1])) (yieldsIf_suba_w (by kernel_rfl) _ _ rfl w.heap.size 7 _ (by rfl) _ #[.bool d0, .bool d1] (fun _ hSw => hSw) (by rfl) Try.underlying29 (by kernel_rfl)) hHeld ?_
          try simp only [qpu]
          refine wpAnyH_ready (rs := [9]) (by kernel_rfl) (by simp) ?_
          refine AllReadyH.cons (o := fyp19o1) rfl (fun K hK => ?_) AllReadyH.nil
          go_simp
          refine Calls.mono (KS.out _) ?_
          rintro e Wx1 ⟨rfl, bb⟩
          have Cx1 := Cd.kept bb
          have bx1 := bel_tr bd bb
          clear bb
          refine hK.out _ _ (by exact Cx1) (fun hHeld => ?_)
          clear hK K
          try simp only [qpu]
          refine qtk (i := 10) (oi := fyp19o2) (v := (.bool T)) hHeld ?_ ?_
          · intro w9 hSw
            try dsimp only at hSw
            go_simp
          try simp only [qpu]
          refine qtk (i := 11) (oi := fyp19o4) (v := (.bool T)) hHeld ?_ ?_
          · intro w9 hSw
            try dsimp only at hSw
            go_simp
          try simp only [qpu]
          refine qtk (i := 12) (oi := fyp19o0) (v := (.bool T)) hHeld ?_ ?_
          · intro w9 hSw
            try dsimp only at hSw
            go_simp
          try simp only [qpu]
          refine wpAnyH_done (by kernel_rfl) ?_ _
          refine NoPanic.normal ?_
          go_wp2
          go_ret
          exact ⟨retB_tc (by rw [← HR.out]; first | rfl | simp), bx1⟩


    | true =>
      cases k0 <;> cases k1 <;> cases d0 <;> cases d1
      · obtain ⟨W1, hW1⟩ : ∃ W, w.alloc (.cells (Cn.v ⟨st, n0, n1, e0, e1, false, false, false, false⟩) 31) = W := ⟨_, rfl⟩
        have b1 := bel_nw hW1
        have C1 := blk_nw hW1
        have c0 := C1.cell 0 (.int .i64 st) rfl
        have c5 := C1.cell 5 (.bool false) rfl
        have c6 := C1.cell 6 (.bool false) rfl
        have c7 := C1.cell 7 (.bool false) rfl
        have c8 := C1.cell 8 (.bool false) rfl
        go_enter Try.func67, Try.ntmps67
        have q1 : ∀ W, (Op.equalIn 10000 29 (.agg #[.bool false, .bool false]) (.agg #[.bool true, .bool false])).run Try.prog W = .ok false W := eqA_tc false false true false
        have q2 : ∀ W, (Op.equalIn 10000 29 (.agg #[.bool false, .bool false]) (.agg #[.bool true, .bool true])).run Try.prog W = .ok false W := eqA_tc false false true true
        have q3 : ∀ W, (Op.equalIn 10000 29 (.agg #[.bool false, .bool false]) (.agg #[.bool false, .bool false])).run Try.prog W = .ok true W := eqA_tc false false false false
        go_wp2_with (first | (refine wpList_load_suba_w (by rfl) _ _ rfl w.heap.size 5 _ (by rfl) _ #[.bool false, .bool false] C1 (by rfl) Try.underlying29 (by kernel_rfl) ?_) | (refine wpList_load_suba_w (by rfl) _ _ rfl w.heap.size 7 _ (by rfl) _ #[.bool false, .bool false] C1 (by rfl) Try.underlying29 (by kernel_rfl) ?_))
        go_ret
        exact ⟨retB_tc (by rw [← HR.out]; first | rfl | simp), b1⟩
      · obtain ⟨W1, hW1⟩ : ∃ W, w.alloc (.cells (Cn.v ⟨st, n0, n1, e0, e1, false, false, false, true⟩) 31) = W := ⟨_, rfl⟩
        have b1 := bel_nw hW1
        have C1 := blk_nw hW1
        have c0 := C1.cell 0 (.int .i64 st) rfl
        have c5 := C1.cell 5 (.bool false) rfl
        have c6 := C1.cell 6 (.bool false) rfl
        have c7 := C1.cell 7 (.bool false) rfl
        have c8 := C1.cell 8 (.bool true) rfl
        go_enter Try.func67, Try.ntmps67
        have q1 : ∀ W, (Op.equalIn 10000 29 (.agg #[.bool false, .bool false]) (.agg #[.bool true, .bool false])).run Try.prog W = .ok false W := eqA_tc false false true false
        have q2 : ∀ W, (Op.equalIn 10000 29 (.agg #[.bool false, .bool false]) (.agg #[.bool true, .bool true])).run Try.prog W = .ok false W := eqA_tc false false true true
        have q3 : ∀ W, (Op.equalIn 10000 29 (.agg #[.bool false, .bool true]) (.agg #[.bool false, .bool false])).run Try.prog W = .ok false W := eqA_tc false true false false
        go_wp2_with (first | (refine wpList_load_suba_w (by rfl) _ _ rfl w.heap.size 5 _ (by rfl) _ #[.bool false, .bool false] C1 (by rfl) Try.underlying29 (by kernel_rfl) ?_) | (refine wpList_load_suba_w (by rfl) _ _ rfl w.heap.size 7 _ (by rfl) _ #[.bool false, .bool true] C1 (by rfl) Try.underlying29 (by kernel_rfl) ?_))
        go_ret
        exact ⟨retB_tc (by rw [← HR.out]; first | rfl | simp), b1⟩
      · obtain ⟨W1, hW1⟩ : ∃ W, w.alloc (.cells (Cn.v ⟨st, n0, n1, e0, e1, false, false, true, false⟩) 31) = W := ⟨_, rfl⟩
        have b1 := bel_nw hW1
        have C1 := blk_nw hW1
        have c0 := C1.cell 0 (.int .i64 st) rfl
        have c5 := C1.cell 5 (.bool false) rfl
        have c6 := C1.cell 6 (.bool false) rfl
        have c7 := C1.cell 7 (.bool true) rfl
        have c8 := C1.cell 8 (.bool false) rfl
        go_enter Try.func67, Try.ntmps67
        have q1 : ∀ W, (Op.equalIn 10000 29 (.agg #[.bool false, .bool false]) (.agg #[.bool true, .bool false])).run Try.prog W = .ok false W := eqA_tc false false true false
        have q2 : ∀ W, (Op.equalIn 10000 29 (.agg #[.bool false, .bool false]) (.agg #[.bool true, .bool true])).run Try.prog W = .ok false W := eqA_tc false false true true
        have q3 : ∀ W, (Op.equalIn 10000 29 (.agg #[.bool true, .bool false]) (.agg #[.bool false, .bool false])).run Try.prog W = .ok false W := eqA_tc true false false false
        go_wp2_with (first | (refine wpList_load_suba_w (by rfl) _ _ rfl w.heap.size 5 _ (by rfl) _ #[.bool false, .bool false] C1 (by rfl) Try.underlying29 (by kernel_rfl) ?_) | (refine wpList_load_suba_w (by rfl) _ _ rfl w.heap.size 7 _ (by rfl) _ #[.bool true, .bool false] C1 (by rfl) Try.underlying29 (by kernel_rfl) ?_))
        go_ret
        exact ⟨retB_tc (by rw [← HR.out]; first | rfl | simp), b1⟩
      · obtain ⟨W1, hW1⟩ : ∃ W, w.alloc (.cells (Cn.v ⟨st, n0, n1, e0, e1, false, false, true, true⟩) 31) = W := ⟨_, rfl⟩
        have b1 := bel_nw hW1
        have C1 := blk_nw hW1
        have c0 := C1.cell 0 (.int .i64 st) rfl
        have c5 := C1.cell 5 (.bool false) rfl
        have c6 := C1.cell 6 (.bool false) rfl
        have c7 := C1.cell 7 (.bool true) rfl
        have c8 := C1.cell 8 (.bool true) rfl
        go_enter Try.func67, Try.ntmps67
        have q1 : ∀ W, (Op.equalIn 10000 29 (.agg #[.bool false, .bool false]) (.agg #[.bool true, .bool false])).run Try.prog W = .ok false W := eqA_tc false false true false
        have q2 : ∀ W, (Op.equalIn 10000 29 (.agg #[.bool false, .bool false]) (.agg #[.bool true, .bool true])).run Try.prog W = .ok false W := eqA_tc false false true true
        have q3 : ∀ W, (Op.equalIn 10000 29 (.agg #[.bool true, .bool true]) (.agg #[.bool false, .bool false])).run Try.prog W = .ok false W := eqA_tc true true false false
        go_wp2_with (first | (refine wpList_load_suba_w (by rfl) _ _ rfl w.heap.size 5 _ (by rfl) _ #[.bool false, .bool false] C1 (by rfl) Try.underlying29 (by kernel_rfl) ?_) | (refine wpList_load_suba_w (by rfl) _ _ rfl w.heap.size 7 _ (by rfl) _ #[.bool true, .bool true] C1 (by rfl) Try.underlying29 (by kernel_rfl) ?_))
        go_ret
        exact ⟨retB_tc (by rw [← HR.out]; first | rfl | simp), b1⟩
      · obtain ⟨W1, hW1⟩ : ∃ W, w.alloc (.cells (Cn.v ⟨st, n0, n1, e0, e1, false, true, false, false⟩) 31) = W := ⟨_, rfl⟩
        have b1 := bel_nw hW1
        have C1 := blk_nw hW1
        have c0 := C1.cell 0 (.int .i64 st) rfl
        have c5 := C1.cell 5 (.bool false) rfl
        have c6 := C1.cell 6 (.bool true) rfl
        have c7 := C1.cell 7 (.bool false) rfl
        have c8 := C1.cell 8 (.bool false) rfl
        go_enter Try.func67, Try.ntmps67
        have q1 : ∀ W, (Op.equalIn 10000 29 (.agg #[.bool false, .bool true]) (.agg #[.bool true, .bool false])).run Try.prog W = .ok false W := eqA_tc false true true false
        have q2 : ∀ W, (Op.equalIn 10000 29 (.agg #[.bool false, .bool true]) (.agg #[.bool true, .bool true])).run Try.prog W = .ok false W := eqA_tc false true true true
        have q3 : ∀ W, (Op.equalIn 10000 29 (.agg #[.bool false, .bool false]) (.agg #[.bool false, .bool false])).run Try.prog W = .ok true W := eqA_tc false false false false
        go_wp2_with (first | (refine wpList_load_suba_w (by rfl) _ _ rfl w.heap.size 5 _ (by rfl) _ #[.bool false, .bool true] C1 (by rfl) Try.underlying29 (by kernel_rfl) ?_) | (refine wpList_load_suba_w (by rfl) _ _ rfl w.heap.size 7 _ (by rfl) _ #[.bool false, .bool false] C1 (by rfl) Try.underlying29 (by kernel_rfl) ?_))
        go_ret
        exact ⟨retB_tc (by rw [← HR.out]; first | rfl | simp), b1⟩
      · obtain ⟨W1, hW1⟩ : ∃ W, w.alloc (.cells (Cn.v ⟨st, n0, n1, e0, e1, false, true, false, true⟩) 31) = W := ⟨_, rfl⟩
        have b1 := bel_nw hW1
        have C1 := blk_nw hW1
        have c0 := C1.cell 0 (.int .i64 st) rfl
        have c5 := C1.cell 5 (.bool false) rfl
        have c6 := C1.cell 6 (.bool true) rfl
        have c7 := C1.cell 7 (.bool false) rfl
        have c8 := C1.cell 8 (.bool true) rfl
        go_enter Try.func67, Try.ntmps67
        have q1 : ∀ W, (Op.equalIn 10000 29 (.agg #[.bool false, .bool true]) (.agg #[.bool true, .bool false])).run Try.prog W = .ok false W := eqA_tc false true true false
        have q2 : ∀ W, (Op.equalIn 10000 29 (.agg #[.bool false, .bool true]) (.agg #[.bool true, .bool true])).run Try.prog W = .ok false W := eqA_tc false true true true
        have q3 : ∀ W, (Op.equalIn 10000 29 (.agg #[.bool false, .bool true]) (.agg #[.bool false, .bool false])).run Try.prog W = .ok false W := eqA_tc false true false false
        go_wp2_with (first | (refine wpList_load_suba_w (by rfl) _ _ rfl w.heap.size 5 _ (by rfl) _ #[.bool false, .bool true] C1 (by rfl) Try.underlying29 (by kernel_rfl) ?_) | (refine wpList_load_suba_w (by rfl) _ _ rfl w.heap.size 7 _ (by rfl) _ #[.bool false, .bool true] C1 (by rfl) Try.underlying29 (by kernel_rfl) ?_))
        go_ret
        exact ⟨retB_tc (by rw [← HR.out]; first | rfl | simp), b1⟩
      · obtain ⟨W1, hW1⟩ : ∃ W, w.alloc (.cells (Cn.v ⟨st, n0, n1, e0, e1, false, true, true, false⟩) 31) = W := ⟨_, rfl⟩
        have b1 := bel_nw hW1
        have C1 := blk_nw hW1
        have c0 := C1.cell 0 (.int .i64 st) rfl
        have c5 := C1.cell 5 (.bool false) rfl
        have c6 := C1.cell 6 (.bool true) rfl
        have c7 := C1.cell 7 (.bool true) rfl
        have c8 := C1.cell 8 (.bool false) rfl
        go_enter Try.func67, Try.ntmps67
        have q1 : ∀ W, (Op.equalIn 10000 29 (.agg #[.bool false, .bool true]) (.agg #[.bool true, .bool false])).run Try.prog W = .ok false W := eqA_tc false true true false
        have q2 : ∀ W, (Op.equalIn 10000 29 (.agg #[.bool false, .bool true]) (.agg #[.bool true, .bool true])).run Try.prog W = .ok false W := eqA_tc false true true true
        have q3 : ∀ W, (Op.equalIn 10000 29 (.agg #[.bool true, .bool false]) (.agg #[.bool false, .bool false])).run Try.prog W = .ok false W := eqA_tc true false false false
        go_wp2_with (first | (refine wpList_load_suba_w (by rfl) _ _ rfl w.heap.size 5 _ (by rfl) _ #[.bool false, .bool true] C1 (by rfl) Try.underlying29 (by kernel_rfl) ?_) | (refine wpList_load_suba_w (by rfl) _ _ rfl w.heap.size 7 _ (by rfl) _ #[.bool true, .bool false] C1 (by rfl) Try.underlying29 (by kernel_rfl) ?_))
        go_ret
        exact ⟨retB_tc (by rw [← HR.out]; first | rfl | simp), b1⟩
      · obtain ⟨W1, hW1⟩ : ∃ W, w.alloc (.cells (Cn.v ⟨st, n0, n1, e0, e1, false, true, true, true⟩) 31) = W := ⟨_, rfl⟩
        have b1 := bel_nw hW1
        have C1 := blk_nw hW1
        have c0 := C1.cell 0 (.int .i64 st) rfl
        have c5 := C1.cell 5 (.bool false) rfl
        have c6 := C1.cell 6 (.bool true) rfl
        have c7 := C1.cell 7 (.bool true) rfl
        have c8 := C1.cell 8 (.bool true) rfl
        go_enter Try.func67, Try.ntmps67
        have q1 : ∀ W, (Op.equalIn 10000 29 (.agg #[.bool false, .bool true]) (.agg #[.bool true, .bool false])).run Try.prog W = .ok false W := eqA_tc false true true false
        have q2 : ∀ W, (Op.equalIn 10000 29 (.agg #[.bool false, .bool true]) (.agg #[.bool true, .bool true])).run Try.prog W = .ok false W := eqA_tc false true true true
        have q3 : ∀ W, (Op.equalIn 10000 29 (.agg #[.bool true, .bool true]) (.agg #[.bool false, .bool false])).run Try.prog W = .ok false W := eqA_tc true true false false
        go_wp2_with (first | (refine wpList_load_suba_w (by rfl) _ _ rfl w.heap.size 5 _ (by rfl) _ #[.bool false, .bool true] C1 (by rfl) Try.underlying29 (by kernel_rfl) ?_) | (refine wpList_load_suba_w (by rfl) _ _ rfl w.heap.size 7 _ (by rfl) _ #[.bool true, .bool true] C1 (by rfl) Try.underlying29 (by kernel_rfl) ?_))
        go_ret
        exact ⟨retB_tc (by rw [← HR.out]; first | rfl | simp), b1⟩
      · obtain ⟨W1, hW1⟩ : ∃ W, w.alloc (.cells (Cn.v ⟨st, n0, n1, e0, e1, true, false, false, false⟩) 31) = W := ⟨_, rfl⟩
        have b1 := bel_nw hW1
        have C1 := blk_nw hW1
        have c0 := C1.cell 0 (.int .i64 st) rfl
        have c5 := C1.cell 5 (.bool true) rfl
        have c6 := C1.cell 6 (.bool false) rfl
        have c7 := C1.cell 7 (.bool false) rfl
        have c8 := C1.cell 8 (.bool false) rfl
        go_enter Try.func67, Try.ntmps67
        have q1 : ∀ W, (Op.equalIn 10000 29 (.agg #[.bool true, .bool false]) (.agg #[.bool true, .bool false])).run Try.prog W = .ok true W := eqA_tc true false true false
        have q2 : ∀ W, (Op.equalIn 10000 29 (.agg #[.bool true, .bool false]) (.agg #[.bool true, .bool true])).run Try.prog W = .ok false W := eqA_tc true false true true
        have q3 : ∀ W, (Op.equalIn 10000 29 (.agg #[.bool false, .bool false]) (.agg #[.bool false, .bool false])).run Try.prog W = .ok true W := eqA_tc false false false false
        go_wp2_with (first | (refine wpList_load_suba_w (by rfl) _ _ rfl w.heap.size 5 _ (by rfl) _ #[.bool true, .bool false] C1 (by rfl) Try.underlying29 (by kernel_rfl) ?_) | (refine wpList_load_suba_w (by rfl) _ _ rfl w.heap.size 7 _ (by rfl) _ #[.bool false, .bool false] C1 (by rfl) Try.underlying29 (by kernel_rfl) ?_))
        go_ret
        exact ⟨retB_tc (by rw [← HR.out]; first | rfl | simp), b1⟩
      · obtain ⟨W1, hW1⟩ : ∃ W, w.alloc (.cells (Cn.v ⟨st, n0, n1, e0, e1, true, false, false, true⟩) 31) = W := ⟨_, rfl⟩
        have b1 := bel_nw hW1
        have C1 := blk_nw hW1
        have c0 := C1.cell 0 (.int .i64 st) rfl
        have c5 := C1.cell 5 (.bool true) rfl
        have c6 := C1.cell 6 (.bool false) rfl
        have c7 := C1.cell 7 (.bool false) rfl
        have c8 := C1.cell 8 (.bool true) rfl
        go_enter Try.func67, Try.ntmps67
        have q1 : ∀ W, (Op.equalIn 10000 29 (.agg #[.bool true, .bool false]) (.agg #[.bool true, .bool false])).run Try.prog W = .ok true W := eqA_tc true false true false
        have q2 : ∀ W, (Op.equalIn 10000 29 (.agg #[.bool true, .bool false]) (.agg #[.bool true, .bool true])).run Try.prog W = .ok false W := eqA_tc true false true true
        have q3 : ∀ W, (Op.equalIn 10000 29 (.agg #[.bool false, .bool true]) (.agg #[.bool false, .bool false])).run Try.prog W = .ok false W := eqA_tc false true false false
        go_wp2_with (first | (refine wpList_load_suba_w (by rfl) _ _ rfl w.heap.size 5 _ (by rfl) _ #[.bool true, .bool false] C1 (by rfl) Try.underlying29 (by kernel_rfl) ?_) | (refine wpList_load_suba_w (by rfl) _ _ rfl w.heap.size 7 _ (by rfl) _ #[.bool false, .bool true] C1 (by rfl) Try.underlying29 (by kernel_rfl) ?_))
        go_ret
        exact ⟨retB_tc (by rw [← HR.out]; first | rfl | simp), b1⟩
      · obtain ⟨W1, hW1⟩ : ∃ W, w.alloc (.cells (Cn.v ⟨st, n0, n1, e0, e1, true, false, true, false⟩) 31) = W := ⟨_, rfl⟩
        have b1 := bel_nw hW1
        have C1 := blk_nw hW1
        have c0 := C1.cell 0 (.int .i64 st) rfl
        have c5 := C1.cell 5 (.bool true) rfl
        have c6 := C1.cell 6 (.bool false) rfl
        have c7 := C1.cell 7 (.bool true) rfl
        have c8 := C1.cell 8 (.bool false) rfl
        go_enter Try.func67, Try.ntmps67
        have q1 : ∀ W, (Op.equalIn 10000 29 (.agg #[.bool true, .bool false]) (.agg #[.bool true, .bool false])).run Try.prog W = .ok true W := eqA_tc true false true false
        have q2 : ∀ W, (Op.equalIn 10000 29 (.agg #[.bool true, .bool false]) (.agg #[.bool true, .bool true])).run Try.prog W = .ok false W := eqA_tc true false true true
        have q3 : ∀ W, (Op.equalIn 10000 29 (.agg #[.bool true, .bool false]) (.agg #[.bool false, .bool false])).run Try.prog W = .ok false W := eqA_tc true false false false
        go_wp2_with (first | (refine wpList_load_suba_w (by rfl) _ _ rfl w.heap.size 5 _ (by rfl) _ #[.bool true, .bool false] C1 (by rfl) Try.underlying29 (by kernel_rfl) ?_) | (refine wpList_load_suba_w (by rfl) _ _ rfl w.heap.size 7 _ (by rfl) _ #[.bool true, .bool false] C1 (by rfl) Try.underlying29 (by kernel_rfl) ?_))
        go_ret
        exact ⟨retB_tc (by rw [← HR.out]; first | rfl | simp), b1⟩
      · obtain ⟨W1, hW1⟩ : ∃ W, w.alloc (.cells (Cn.v ⟨st, n0, n1, e0, e1, true, false, true, true⟩) 31) = W := ⟨_, rfl⟩
        have b1 := bel_nw hW1
        have C1 := blk_nw hW1
        have c0 := C1.cell 0 (.int .i64 st) rfl
        have c5 := C1.cell 5 (.bool true) rfl
        have c6 := C1.cell 6 (.bool false) rfl
        have c7 := C1.cell 7 (.bool true) rfl
        have c8 := C1.cell 8 (.bool true) rfl
        go_enter Try.func67, Try.ntmps67
        have q1 : ∀ W, (Op.equalIn 10000 29 (.agg #[.bool true, .bool false]) (.agg #[.bool true, .bool false])).run Try.prog W = .ok true W := eqA_tc true false true false
        have q2 : ∀ W, (Op.equalIn 10000 29 (.agg #[.bool true, .bool false]) (.agg #[.bool true, .bool true])).run Try.prog W = .ok false W := eqA_tc true false true true
        have q3 : ∀ W, (Op.equalIn 10000 29 (.agg #[.bool true, .bool true]) (.agg #[.bool false, .bool false])).run Try.prog W = .ok false W := eqA_tc true true false false
        go_wp2_with (first | (refine wpList_load_suba_w (by rfl) _ _ rfl w.heap.size 5 _ (by rfl) _ #[.bool true, .bool false] C1 (by rfl) Try.underlying29 (by kernel_rfl) ?_) | (refine wpList_load_suba_w (by rfl) _ _ rfl w.heap.size 7 _ (by rfl) _ #[.bool true, .bool true] C1 (by rfl) Try.underlying29 (by kernel_rfl) ?_))
        go_ret
        exact ⟨retB_tc (by rw [← HR.out]; first | rfl | simp), b1⟩
      · obtain ⟨W1, hW1⟩ : ∃ W, w.alloc (.cells (Cn.v ⟨st, n0, n1, e0, e1, true, true, false, false⟩) 31) = W := ⟨_, rfl⟩
        have b1 := bel_nw hW1
        have C1 := blk_nw hW1
        have c0 := C1.cell 0 (.int .i64 st) rfl
        have c5 := C1.cell 5 (.bool true) rfl
        have c6 := C1.cell 6 (.bool true) rfl
        have c7 := C1.cell 7 (.bool false) rfl
        have c8 := C1.cell 8 (.bool false) rfl
        go_enter Try.func67, Try.ntmps67
        have q1 : ∀ W, (Op.equalIn 10000 29 (.agg #[.bool true, .bool true]) (.agg #[.bool true, .bool false])).run Try.prog W = .ok false W := eqA_tc true true true false
        have q2 : ∀ W, (Op.equalIn 10000 29 (.agg #[.bool true, .bool true]) (.agg #[.bool true, .bool true])).run Try.prog W = .ok true W := eqA_tc true true true true
        have q3 : ∀ W, (Op.equalIn 10000 29 (.agg #[.bool false, .bool false]) (.agg #[.bool false, .bool false])).run Try.prog W = .ok true W := eqA_tc false false false false
        go_wp2_with (first | (refine wpList_load_suba_w (by rfl) _ _ rfl w.heap.size 5 _ (by rfl) _ #[.bool true, .bool true] C1 (by rfl) Try.underlying29 (by kernel_rfl) ?_) | (refine wpList_load_suba_w (by rfl) _ _ rfl w.heap.size 7 _ (by rfl) _ #[.bool false, .bool false] C1 (by rfl) Try.underlying29 (by kernel_rfl) ?_))
        go_ret
        exact ⟨retB_tc (by rw [← HR.out]; first | rfl | simp), b1⟩
      · obtain ⟨W1, hW1⟩ : ∃ W, w.alloc (.cells (Cn.v ⟨st, n0, n1, e0, e1, true, true, false, true⟩) 31) = W := ⟨_, rfl⟩
        have b1 := bel_nw hW1
        have C1 := blk_nw hW1
        have c0 := C1.cell 0 (.int .i64 st) rfl
        have c5 := C1.cell 5 (.bool true) rfl
        have c6 := C1.cell 6 (.bool true) rfl
        have c7 := C1.cell 7 (.bool false) rfl
        have c8 := C1.cell 8 (.bool true) rfl
        go_enter Try.func67, Try.ntmps67
        have q1 : ∀ W, (Op.equalIn 10000 29 (.agg #[.bool true, .bool true]) (.agg #[.bool true, .bool false])).run Try.prog W = .ok false W := eqA_tc true true true false
        have q2 : ∀ W, (Op.equalIn 10000 29 (.agg #[.bool true, .bool true]) (.agg #[.bool true, .bool true])).run Try.prog W = .ok true W := eqA_tc true true true true
        have q3 : ∀ W, (Op.equalIn 10000 29 (.agg #[.bool false, .bool true]) (.agg #[.bool false, .bool false])).run Try.prog W = .ok false W := eqA_tc false true false false
        go_wp2_with (first | (refine wpList_load_suba_w (by rfl) _ _ rfl w.heap.size 5 _ (by rfl) _ #[.bool true, .bool true] C1 (by rfl) Try.underlying29 (by kernel_rfl) ?_) | (refine wpList_load_suba_w (by rfl) _ _ rfl w.heap.size 7 _ (by rfl) _ #[.bool false, .bool true] C1 (by rfl) Try.underlying29 (by kernel_rfl) ?_))
        go_ret
        exact ⟨retB_tc (by rw [← HR.out]; first | rfl | simp), b1⟩
      · obtain ⟨W1, hW1⟩ : ∃ W, w.alloc (.cells (Cn.v ⟨st, n0, n1, e0, e1, true, true, true, false⟩) 31) = W := ⟨_, rfl⟩
        have b1 := bel_nw hW1
        have C1 := blk_nw hW1
        have c0 := C1.cell 0 (.int .i64 st) rfl
        have c5 := C1.cell 5 (.bool true) rfl
        have c6 := C1.cell 6 (.bool true) rfl
        have c7 := C1.cell 7 (.bool true) rfl
        have c8 := C1.cell 8 (.bool false) rfl
        go_enter Try.func67, Try.ntmps67
        have q1 : ∀ W, (Op.equalIn 10000 29 (.agg #[.bool true, .bool true]) (.agg #[.bool true, .bool false])).run Try.prog W = .ok false W := eqA_tc true true true false
        have q2 : ∀ W, (Op.equalIn 10000 29 (.agg #[.bool true, .bool true]) (.agg #[.bool true, .bool true])).run Try.prog W = .ok true W := eqA_tc true true true true
        have q3 : ∀ W, (Op.equalIn 10000 29 (.agg #[.bool true, .bool false]) (.agg #[.bool false, .bool false])).run Try.prog W = .ok false W := eqA_tc true false false false
        go_wp2_with (first | (refine wpList_load_suba_w (by rfl) _ _ rfl w.heap.size 5 _ (by rfl) _ #[.bool true, .bool true] C1 (by rfl) Try.underlying29 (by kernel_rfl) ?_) | (refine wpList_load_suba_w (by rfl) _ _ rfl w.heap.size 7 _ (by rfl) _ #[.bool true, .bool false] C1 (by rfl) Try.underlying29 (by kernel_rfl) ?_))
        go_ret
        exact ⟨retB_tc (by rw [← HR.out]; first | rfl | simp), b1⟩
      · obtain ⟨W1, hW1⟩ : ∃ W, w.alloc (.cells (Cn.v ⟨st, n0, n1, e0, e1, true, true, true, true⟩) 31) = W := ⟨_, rfl⟩
        have b1 := bel_nw hW1
        have C1 := blk_nw hW1
        have c0 := C1.cell 0 (.int .i64 st) rfl
        have c5 := C1.cell 5 (.bool true) rfl
        have c6 := C1.cell 6 (.bool true) rfl
        have c7 := C1.cell 7 (.bool true) rfl
        have c8 := C1.cell 8 (.bool true) rfl
        go_enter Try.func67, Try.ntmps67
        have q1 : ∀ W, (Op.equalIn 10000 29 (.agg #[.bool true, .bool true]) (.agg #[.bool true, .bool false])).run Try.prog W = .ok false W := eqA_tc true true true false
        have q2 : ∀ W, (Op.equalIn 10000 29 (.agg #[.bool true, .bool true]) (.agg #[.bool true, .bool true])).run Try.prog W = .ok true W := eqA_tc true true true true
        have q3 : ∀ W, (Op.equalIn 10000 29 (.agg #[.bool true, .bool true]) (.agg #[.bool false, .bool false])).run Try.prog W = .ok false W := eqA_tc true true false false
        go_wp2_with (first | (refine wpList_load_suba_w (by rfl) _ _ rfl w.heap.size 5 _ (by rfl) _ #[.bool true, .bool true] C1 (by rfl) Try.underlying29 (by kernel_rfl) ?_) | (refine wpList_load_suba_w (by rfl) _ _ rfl w.heap.size 7 _ (by rfl) _ #[.bool true, .bool true] C1 (by rfl) Try.underlying29 (by kernel_rfl) ?_))
        go_ret
        exact ⟨retB_tc (by rw [← HR.out]; first | rfl | simp), b1⟩


  | true =>
    cases k0 <;> cases k1 <;> cases d0 <;> cases d1
    · obtain ⟨W1, hW1⟩ : ∃ W, w.alloc (.cells (Cn.v ⟨st, n0, n1, e0, e1, false, false, false, false⟩) 31) = W := ⟨_, rfl⟩
      have b1 := bel_nw hW1
      have C1 := blk_nw hW1
      have c0 := C1.cell 0 (.int .i64 st) rfl
      have c5 := C1.cell 5 (.bool false) rfl
      have c6 := C1.cell 6 (.bool false) rfl
      have c7 := C1.cell 7 (.bool false) rfl
      have c8 := C1.cell 8 (.bool false) rfl
      go_enter Try.func67, Try.ntmps67
      have q1 : ∀ W, (Op.equalIn 10000 29 (.agg #[.bool false, .bool false]) (.agg #[.bool true, .bool false])).run Try.prog W = .ok false W := eqA_tc false false true false
      have q2 : ∀ W, (Op.equalIn 10000 29 (.agg #[.bool false, .bool false]) (.agg #[.bool true, .bool true])).run Try.prog W = .ok false W := eqA_tc false false true true
      have q3 : ∀ W, (Op.equalIn 10000 29 (.agg #[.bool false, .bool false]) (.agg #[.bool false, .bool false])).run Try.prog W = .ok true W := eqA_tc false false false false
      go_wp2_with (first | (refine wpList_load_suba_w (by rfl) _ _ rfl w.heap.size 5 _ (by rfl) _ #[.bool false, .bool false] C1 (by rfl) Try.underlying29 (by kernel_rfl) ?_) | (refine wpList_load_suba_w (by rfl) _ _ rfl w.heap.size 7 _ (by rfl) _ #[.bool false, .bool false] C1 (by rfl) Try.underlying29 (by kernel_rfl) ?_))
      go_ret
      exact ⟨retB_tc (by rw [← HR.out]; first | rfl | simp), b1⟩
    · obtain ⟨W1, hW1⟩ : ∃ W, w.alloc (.cells (Cn.v ⟨st, n0, n1, e0, e1, false, false, false, true⟩) 31) = W := ⟨_, rfl⟩
      have b1 := bel_nw hW1
      have C1 := blk_nw hW1
      have c0 := C1.cell 0 (.int .i64 st) rfl
      have c5 := C1.cell 5 (.bool false) rfl
      have c6 := C1.cell 6 (.bool false) rfl
      have c7 := C1.cell 7 (.bool false) rfl
      have c8 := C1.cell 8 (.bool true) rfl
      go_enter Try.func67, Try.ntmps67
      have q1 : ∀ W, (Op.equalIn 10000 29 (.agg #[.bool false, .bool false]) (.agg #[.bool true, .bool false])).run Try.prog W = .ok false W := eqA_tc false false true false
      have q2 : ∀ W, (Op.equalIn 10000 29 (.agg #[.bool false, .bool false]) (.agg #[.bool true, .bool true])).run Try.prog W = .ok false W := eqA_tc false false true true
      have q3 : ∀ W, (Op.equalIn 10000 29 (.agg #[.bool false, .bool true]) (.agg #[.bool false, .bool false])).run Try.prog W = .ok false W := eqA_tc false true false false
      go_wp2_with (first | (refine wpList_load_suba_w (by rfl) _ _ rfl w.heap.size 5 _ (by rfl) _ #[.bool false, .bool false] C1 (by rfl) Try.underlying29 (by kernel_rfl) ?_) | (refine wpList_load_suba_w (by rfl) _ _ rfl w.heap.size 7 _ (by rfl) _ #[.bool false, .bool true] C1 (by rfl) Try.underlying29 (by kernel_rfl) ?_))
      go_ret
      exact ⟨retB_tc (by rw [← HR.out]; first | rfl | simp), b1⟩
    · obtain ⟨W1, hW1⟩ : ∃ W, w.alloc (.cells (Cn.v ⟨st, n0, n1, e0, e1, false, false, true, false⟩) 31) = W := ⟨_, rfl⟩
      have b1 := bel_nw hW1
      have C1 := blk_nw hW1
      have c0 := C1.cell 0 (.int .i64 st) rfl
      have c5 := C1.cell 5 (.bool false) rfl
      have c6 := C1.cell 6 (.bool false) rfl
      have c7 := C1.cell 7 (.bool true) rfl
      have c8 := C1.cell 8 (.bool false) rfl
      go_enter Try.func67, Try.ntmps67
      have q1 : ∀ W, (Op.equalIn 10000 29 (.agg #[.bool false, .bool false]) (.agg #[.bool true, .bool false])).run Try.prog W = .ok false W := eqA_tc false false true false
      have q2 : ∀ W, (Op.equalIn 10000 29 (.agg #[.bool false, .bool false]) (.agg #[.bool true, .bool true])).run Try.prog W = .ok false W := eqA_tc false false true true
      have q3 : ∀ W, (Op.equalIn 10000 29 (.agg #[.bool true, .bool false]) (.agg #[.bool false, .bool false])).run Try.prog W = .ok false W := eqA_tc true false false false
      go_wp2_with (first | (refine wpList_load_suba_w (by rfl) _ _ rfl w.heap.size 5 _ (by rfl) _ #[.bool false, .bool false] C1 (by rfl) Try.underlying29 (by kernel_rfl) ?_) | (refine wpList_load_suba_w (by rfl) _ _ rfl w.heap.size 7 _ (by rfl) _ #[.bool true, .bool false] C1 (by rfl) Try.underlying29 (by kernel_rfl) ?_))
      go_ret
      exact ⟨retB_tc (by rw [← HR.out]; first | rfl | simp), b1⟩
    · obtain ⟨W1, hW1⟩ : ∃ W, w.alloc (.cells (Cn.v ⟨st, n0, n1, e0, e1, false, false, true, true⟩) 31) = W := ⟨_, rfl⟩
      have b1 := bel_nw hW1
      have C1 := blk_nw hW1
      have c0 := C1.cell 0 (.int .i64 st) rfl
      have c5 := C1.cell 5 (.bool false) rfl
      have c6 := C1.cell 6 (.bool false) rfl
      have c7 := C1.cell 7 (.bool true) rfl
      have c8 := C1.cell 8 (.bool true) rfl
      go_enter Try.func67, Try.ntmps67
      have q1 : ∀ W, (Op.equalIn 10000 29 (.agg #[.bool false, .bool false]) (.agg #[.bool true, .bool false])).run Try.prog W = .ok false W := eqA_tc false false true false
      have q2 : ∀ W, (Op.equalIn 10000 29 (.agg #[.bool false, .bool false]) (.agg #[.bool true, .bool true])).run Try.prog W = .ok false W := eqA_tc false false true true
      have q3 : ∀ W, (Op.equalIn 10000 29 (.agg #[.bool true, .bool true]) (.agg #[.bool false, .bool false])).run Try.prog W = .ok false W := eqA_tc true true false false
      go_wp2_with (first | (refine wpList_load_suba_w (by rfl) _ _ rfl w.heap.size 5 _ (by rfl) _ #[.bool false, .bool false] C1 (by rfl) Try.underlying29 (by kernel_rfl) ?_) | (refine wpList_load_suba_w (by rfl) _ _ rfl w.heap.size 7 _ (by rfl) _ #[.bool true, .bool true] C1 (by rfl) Try.underlying29 (by kernel_rfl) ?_))
      go_ret
      exact ⟨retB_tc (by rw [← HR.out]; first | rfl | simp), b1⟩
    · obtain ⟨W1, hW1⟩ : ∃ W, w.alloc (.cells (Cn.v ⟨st, n0, n1, e0, e1, false, true, false, false⟩) 31) = W := ⟨_, rfl⟩
      have b1 := bel_nw hW1
      have C1 := blk_nw hW1
      have c0 := C1.cell 0 (.int .i64 st) rfl
      have c5 := C1.cell 5 (.bool false) rfl
      have c6 := C1.cell 6 (.bool true) rfl
      have c7 := C1.cell 7 (.bool false) rfl
      have c8 := C1.cell 8 (.bool false) rfl
      go_enter Try.func67, Try.ntmps67
      have q1 : ∀ W, (Op.equalIn 10000 29 (.agg #[.bool false, .bool true]) (.agg #[.bool true, .bool false])).run Try.prog W = .ok false W := eqA_tc false true true false
      have q2 : ∀ W, (Op.equalIn 10000 29 (.agg #[.bool false, .bool true]) (.agg #[.bool true, .bool true])).run Try.prog W = .ok false W := eqA_tc false true true true
      have q3 : ∀ W, (Op.equalIn 10000 29 (.agg #[.bool false, .bool false]) (.agg #[.bool false, .bool false])).run Try.prog W = .ok true W := eqA_tc false false false false
      go_wp2_with (first | (refine wpList_load_suba_w (by rfl) _ _ rfl w.heap.size 5 _ (by rfl) _ #[.bool false, .bool true] C1 (by rfl) Try.underlying29 (by kernel_rfl) ?_) | (refine wpList_load_suba_w (by rfl) _ _ rfl w.heap.size 7 _ (by rfl) _ #[.bool false, .bool false] C1 (by rfl) Try.underlying29 (by kernel_rfl) ?_))
      go_ret
      exact ⟨retB_tc (by rw [← HR.out]; first | rfl | simp), b1⟩
    · obtain ⟨W1, hW1⟩ : ∃ W, w.alloc (.cells (Cn.v ⟨st, n0, n1, e0, e1, false, true, false, true⟩) 31) = W := ⟨_, rfl⟩
      have b1 := bel_nw hW1
      have C1 := blk_nw hW1
      have c0 := C1.cell 0 (.int .i64 st) rfl
      have c5 := C1.cell 5 (.bool false) rfl
      have c6 := C1.cell 6 (.bool true) rfl
      have c7 := C1.cell 7 (.bool false) rfl
      have c8 := C1.cell 8 (.bool true) rfl
      go_enter Try.func67, Try.ntmps67
      have q1 : ∀ W, (Op.equalIn 10000 29 (.agg #[.bool false, .bool true]) (.agg #[.bool true, .bool false])).run Try.prog W = .ok false W := eqA_tc false true true false
      have q2 : ∀ W, (Op.equalIn 10000 29 (.agg #[.bool false, .bool true]) (.agg #[.bool true, .bool true])).run Try.prog W = .ok false W := eqA_tc false true true true
      have q3 : ∀ W, (Op.equalIn 10000 29 (.agg #[.bool false, .bool true]) (.agg #[.bool false, .bool false])).run Try.prog W = .ok false W := eqA_tc false true false false
      go_wp2_with (first | (refine wpList_load_suba_w (by rfl) _ _ rfl w.heap.size 5 _ (by rfl) _ #[.bool false, .bool true] C1 (by rfl) Try.underlying29 (by kernel_rfl) ?_) | (refine wpList_load_suba_w (by rfl) _ _ rfl w.heap.size 7 _ (by rfl) _ #[.bool false, .bool true] C1 (by rfl) Try.underlying29 (by kernel_rfl) ?_))
      go_ret
      exact ⟨retB_tc (by rw [← HR.out]; first | rfl | simp), b1⟩
    · obtain ⟨W1, hW1⟩ : ∃ W, w.alloc (.cells (Cn.v ⟨st, n0, n1, e0, e1, false, true, true, false⟩) 31) = W := ⟨_, rfl⟩
      have b1 := bel_nw hW1
      have C1 := blk_nw hW1
      have c0 := C1.cell 0 (.int .i64 st) rfl
      have c5 := C1.cell 5 (.bool false) rfl
      have c6 := C1.cell 6 (.bool true) rfl
      have c7 := C1.cell 7 (.bool true) rfl
      have c8 := C1.cell 8 (.bool false) rfl
      go_enter Try.func67, Try.ntmps67
      have q1 : ∀ W, (Op.equalIn 10000 29 (.agg #[.bool false, .bool true]) (.agg #[.bool true, .bool false])).run Try.prog W = .ok false W := eqA_tc false true true false
      have q2 : ∀ W, (Op.equalIn 10000 29 (.agg #[.bool false, .bool true]) (.agg #[.bool true, .bool true])).run Try.prog W = .ok false W := eqA_tc false true true true
      have q3 : ∀ W, (Op.equalIn 10000 29 (.agg #[.bool true, .bool false]) (.agg #[.bool false, .bool false])).run Try.prog W = .ok false W := eqA_tc true false false false
      go_wp2_with (first | (refine wpList_load_suba_w (by rfl) _ _ rfl w.heap.size 5 _ (by rfl) _ #[.bool false, .bool true] C1 (by rfl) Try.underlying29 (by kernel_rfl) ?_) | (refine wpList_load_suba_w (by rfl) _ _ rfl w.heap.size 7 _ (by rfl) _ #[.bool true, .bool false] C1 (by rfl) Try.underlying29 (by kernel_rfl) ?_))
      go_ret
      exact ⟨retB_tc (by rw [← HR.out]; first | rfl | simp), b1⟩
    · obtain ⟨W1, hW1⟩ : ∃ W, w.alloc (.cells (Cn.v ⟨st, n0, n1, e0, e1, false, true, true, true⟩) 31) = W := ⟨_, rfl⟩
      have b1 := bel_nw hW1
      have C1 := blk_nw hW1
      have c0 := C1.cell 0 (.int .i64 st) rfl
      have c5 := C1.cell 5 (.bool false) rfl
      have c6 := C1.cell 6 (.bool true) rfl
      have c7 := C1.cell 7 (.bool true) rfl
      have c8 := C1.cell 8 (.bool true) rfl
      go_enter Try.func67, Try.ntmps67
      have q1 : ∀ W, (Op.equalIn 10000 29 (.agg #[.bool false, .bool true]) (.agg #[.bool true, .bool false])).run Try.prog W = .ok false W := eqA_tc false true true false
      have q2 : ∀ W, (Op.equalIn 10000 29 (.agg #[.bool false, .bool true]) (.agg #[.bool true, .bool true])).run Try.prog W = .ok false W := eqA_tc false true true true
      have q3 : ∀ W, (Op.equalIn 10000 29 (.agg #[.bool true, .bool true]) (.agg #[.bool false, .bool false])).run Try.prog W = .ok false W := eqA_tc true true false false
      go_wp2_with (first | (refine wpList_load_suba_w (by rfl) _ _ rfl w.heap.size 5 _ (by rfl) _ #[.bool false, .bool true] C1 (by rfl) Try.underlying29 (by kernel_rfl) ?_) | (refine wpList_load_suba_w (by rfl) _ _ rfl w.heap.size 7 _ (by rfl) _ #[.bool true, .bool true] C1 (by rfl) Try.underlying29 (by kernel_rfl) ?_))
      go_ret
      exact ⟨retB_tc (by rw [← HR.out]; first | rfl | simp), b1⟩
    · obtain ⟨W1, hW1⟩ : ∃ W, w.alloc (.cells (Cn.v ⟨st, n0, n1, e0, e1, true, false, false, false⟩) 31) = W := ⟨_, rfl⟩
      have b1 := bel_nw hW1
      have C1 := blk_nw hW1
      have c0 := C1.cell 0 (.int .i64 st) rfl
      have c5 := C1.cell 5 (.bool true) rfl
      have c6 := C1.cell 6 (.bool false) rfl
      have c7 := C1.cell 7 (.bool false) rfl
      have c8 := C1.cell 8 (.bool false) rfl
      go_enter Try.func67, Try.ntmps67
      have q1 : ∀ W, (Op.equalIn 10000 29 (.agg #[.bool true, .bool false]) (.agg #[.bool true, .bool false])).run Try.prog W = .ok true W := eqA_tc true false true false
      have q2 : ∀ W, (Op.equalIn 10000 29 (.agg #[.bool true, .bool false]) (.agg #[.bool true, .bool true])).run Try.prog W = .ok false W := eqA_tc true false true true
      have q3 : ∀ W, (Op.equalIn 10000 29 (.agg #[.bool false, .bool false]) (.agg #[.bool false, .bool false])).run Try.prog W = .ok true W := eqA_tc false false false false
      go_wp2_with (first | (refine wpList_load_suba_w (by rfl) _ _ rfl w.heap.size 5 _ (by rfl) _ #[.bool true, .bool false] C1 (by rfl) Try.underlying29 (by kernel_rfl) ?_) | (refine wpList_load_suba_w (by rfl) _ _ rfl w.heap.size 7 _ (by rfl) _ #[.bool false, .bool false] C1 (by rfl) Try.underlying29 (by kernel_rfl) ?_))
      go_ret
      exact ⟨retB_tc (by rw [← HR.out]; first | rfl | simp), b1⟩
    · obtain ⟨W1, hW1⟩ : ∃ W, w.alloc (.cells (Cn.v ⟨st, n0, n1, e0, e1, true, false, false, true⟩) 31) = W := ⟨_, rfl⟩
      have b1 := bel_nw hW1
      have C1 := blk_nw hW1
      have c0 := C1.cell 0 (.int .i64 st) rfl
      have c5 := C1.cell 5 (.bool true) rfl
      have c6 := C1.cell 6 (.bool false) rfl
      have c7 := C1.cell 7 (.bool false) rfl
      have c8 := C1.cell 8 (.bool true) rfl
      go_enter Try.func67, Try.ntmps67
      have q1 : ∀ W, (Op.equalIn 10000 29 (.agg #[.bool true, .bool false]) (.agg #[.bool true, .bool false])).run Try.prog W = .ok true W := eqA_tc true false true false
      have q2 : ∀ W, (Op.equalIn 10000 29 (.agg #[.bool true, .bool false]) (.agg #[.bool true, .bool true])).run Try.prog W = .ok false W := eqA_tc true false true true
      have q3 : ∀ W, (Op.equalIn 10000 29 (.agg #[.bool false, .bool true]) (.agg #[.bool false, .bool false])).run Try.prog W = .ok false W := eqA_tc false true false false
      go_wp2_with (first | (refine wpList_load_suba_w (by rfl) _ _ rfl w.heap.size 5 _ (by rfl) _ #[.bool true, .bool false] C1 (by rfl) Try.underlying29 (by kernel_rfl) ?_) | (refine wpList_load_suba_w (by rfl) _ _ rfl w.heap.size 7 _ (by rfl) _ #[.bool false, .bool true] C1 (by rfl) Try.underlying29 (by kernel_rfl) ?_))
      go_ret
      exact ⟨retB_tc (by rw [← HR.out]; first | rfl | simp), b1⟩
    · obtain ⟨W1, hW1⟩ : ∃ W, w.alloc (.cells (Cn.v ⟨st, n0, n1, e0, e1, true, false, true, false⟩) 31) = W := ⟨_, rfl⟩
      have b1 := bel_nw hW1
      have C1 := blk_nw hW1
      have c0 := C1.cell 0 (.int .i64 st) rfl
      have c5 := C1.cell 5 (.bool true) rfl
      have c6 := C1.cell 6 (.bool false) rfl
      have c7 := C1.cell 7 (.bool true) rfl
      have c8 := C1.cell 8 (.bool false) rfl
      go_enter Try.func67, Try.ntmps67
      have q1 : ∀ W, (Op.equalIn 10000 29 (.agg #[.bool true, .bool false]) (.agg #[.bool true, .bool false])).run Try.prog W = .ok true W := eqA_tc true false true false
      have q2 : ∀ W, (Op.equalIn 10000 29 (.agg #[.bool true, .bool false]) (.agg #[.bool true, .bool true])).run Try.prog W = .ok false W := eqA_tc true false true true
      have q3 : ∀ W, (Op.equalIn 10000 29 (.agg #[.bool true, .bool false]) (.agg #[.bool false, .bool false])).run Try.prog W = .ok false W := eqA_tc true false false false
      go_wp2_with (first | (refine wpList_load_suba_w (by rfl) _ _ rfl w.heap.size 5 _ (by rfl) _ #[.bool true, .bool false] C1 (by rfl) Try.underlying29 (by kernel_rfl) ?_) | (refine wpList_load_suba_w (by rfl) _ _ rfl w.heap.size 7 _ (by rfl) _ #[.bool true, .bool false] C1 (by rfl) Try.underlying29 (by kernel_rfl) ?_))
      go_ret
      exact ⟨retB_tc (by rw [← HR.out]; first | rfl | simp), b1⟩
    · obtain ⟨W1, hW1⟩ : ∃ W, w.alloc (.cells (Cn.v ⟨st, n0, n1, e0, e1, true, false, true, true⟩) 31) = W := ⟨_, rfl⟩
      have b1 := bel_nw hW1
      have C1 := blk_nw hW1
      have c0 := C1.cell 0 (.int .i64 st) rfl
      have c5 := C1.cell 5 (.bool true) rfl
      have c6 := C1.cell 6 (.bool false) rfl
      have c7 := C1.cell 7 (.bool true) rfl
      have c8 := C1.cell 8 (.bool true) rfl
      go_enter Try.func67, Try.ntmps67
      have q1 : ∀ W, (Op.equalIn 10000 29 (.agg #[.bool true, .bool false]) (.agg #[.bool true, .bool false])).run Try.prog W = .ok true W := eqA_tc true false true false
      have q2 : ∀ W, (Op.equalIn 10000 29 (.agg #[.bool true, .bool false]) (.agg #[.bool true, .bool true])).run Try.prog W = .ok false W := eqA_tc true false true true
      have q3 : ∀ W, (Op.equalIn 10000 29 (.agg #[.bool true, .bool true]) (.agg #[.bool false, .bool false])).run Try.prog W = .ok false W := eqA_tc true true false false
      go_wp2_with (first | (refine wpList_load_suba_w (by rfl) _ _ rfl w.heap.size 5 _ (by rfl) _ #[.bool true, .bool false] C1 (by rfl) Try.underlying29 (by kernel_rfl) ?_) | (refine wpList_load_suba_w (by rfl) _ _ rfl w.heap.size 7 _ (by rfl) _ #[.bool true, .bool true] C1 (by rfl) Try.underlying29 (by kernel_rfl) ?_))
      go_ret
      exact ⟨retB_tc (by rw [← HR.out]; first | rfl | simp), b1⟩
    · obtain ⟨W1, hW1⟩ : ∃ W, w.alloc (.cells (Cn.v ⟨st, n0, n1, e0, e1, true, true, false, false⟩) 31) = W := ⟨_, rfl⟩
      have b1 := bel_nw hW1
      have C1 := blk_nw hW1
      have c0 := C1.cell 0 (.int .i64 st) rfl
      have c5 := C1.cell 5 (.bool true) rfl
      have c6 := C1.cell 6 (.bool true) rfl
      have c7 := C1.cell 7 (.bool false) rfl
      have c8 := C1.cell 8 (.bool false) rfl
      go_enter Try.func67, Try.ntmps67
      have q1 : ∀ W, (Op.equalIn 10000 29 (.agg #[.bool true, .bool true]) (.agg #[.bool true, .bool false])).run Try.prog W = .ok false W := eqA_tc true true true false
      have q2 : ∀ W, (Op.equalIn 10000 29 (.agg #[.bool true, .bool true]) (.agg #[.bool true, .bool true])).run Try.prog W = .ok true W := eqA_tc true true true true
      have q3 : ∀ W, (Op.equalIn 10000 29 (.agg #[.bool false, .bool false]) (.agg #[.bool false, .bool false])).run Try.prog W = .ok true W := eqA_tc false false false false
      go_wp2_with (first | (refine wpList_load_suba_w (by rfl) _ _ rfl w.heap.size 5 _ (by rfl) _ #[.bool true, .bool true] C1 (by rfl) Try.underlying29 (by kernel_rfl) ?_) | (refine wpList_load_suba_w (by rfl) _ _ rfl w.heap.size 7 _ (by rfl) _ #[.bool false, .bool false] C1 (by rfl) Try.underlying29 (by kernel_rfl) ?_))
      go_ret
      exact ⟨retB_tc (by rw [← HR.out]; first | rfl | simp), b1⟩
    · obtain ⟨W1, hW1⟩ : ∃ W, w.alloc (.cells (Cn.v ⟨st, n0, n1, e0, e1, true, true, false, true⟩) 31) = W := ⟨_, rfl⟩
      have b1 := bel_nw hW1
      have C1 := blk_nw hW1
      have c0 := C1.cell 0 (.int .i64 st) rfl
      have c5 := C1.cell 5 (.bool true) rfl
      have c6 := C1.cell 6 (.bool true) rfl
      have c7 := C1.cell 7 (.bool false) rfl
      have c8 := C1.cell 8 (.bool true) rfl
      go_enter Try.func67, Try.ntmps67
      have q1 : ∀ W, (Op.equalIn 10000 29 (.agg #[.bool true, .bool true]) (.agg #[.bool true, .bool false])).run Try.prog W = .ok false W := eqA_tc true true true false
      have q2 : ∀ W, (Op.equalIn 10000 29 (.agg #[.bool true, .bool true]) (.agg #[.bool true, .bool true])).run Try.prog W = .ok true W := eqA_tc true true true true
      have q3 : ∀ W, (Op.equalIn 10000 29 (.agg #[.bool false, .bool true]) (.agg #[.bool false, .bool false])).run Try.prog W = .ok false W := eqA_tc false true false false
      go_wp2_with (first | (refine wpList_load_suba_w (by rfl) _ _ rfl w.heap.size 5 _ (by rfl) _ #[.bool true, .bool true] C1 (by rfl) Try.underlying29 (by kernel_rfl) ?_) | (refine wpList_load_suba_w (by rfl) _ _ rfl w.heap.size 7 _ (by rfl) _ #[.bool false, .bool true] C1 (by rfl) Try.underlying29 (by kernel_rfl) ?_))
      go_ret
      exact ⟨retB_tc (by rw [← HR.out]; first | rfl | simp), b1⟩
    · obtain ⟨W1, hW1⟩ : ∃ W, w.alloc (.cells (Cn.v ⟨st, n0, n1, e0, e1, true, true, true, false⟩) 31) = W := ⟨_, rfl⟩
      have b1 := bel_nw hW1
      have C1 := blk_nw hW1
      have c0 := C1.cell 0 (.int .i64 st) rfl
      have c5 := C1.cell 5 (.bool true) rfl
      have c6 := C1.cell 6 (.bool true) rfl
      have c7 := C1.cell 7 (.bool true) rfl
      have c8 := C1.cell 8 (.bool false) rfl
      go_enter Try.func67, Try.ntmps67
      have q1 : ∀ W, (Op.equalIn 10000 29 (.agg #[.bool true, .bool true]) (.agg #[.bool true, .bool false])).run Try.prog W = .ok false W := eqA_tc true true true false
      have q2 : ∀ W, (Op.equalIn 10000 29 (.agg #[.bool true, .bool true]) (.agg #[.bool true, .bool true])).run Try.prog W = .ok true W := eqA_tc true true true true
      have q3 : ∀ W, (Op.equalIn 10000 29 (.agg #[.bool true, .bool false]) (.agg #[.bool false, .bool false])).run Try.prog W = .ok false W := eqA_tc true false false false
      go_wp2_with (first | (refine wpList_load_suba_w (by rfl) _ _ rfl w.heap.size 5 _ (by rfl) _ #[.bool true, .bool true] C1 (by rfl) Try.underlying29 (by kernel_rfl) ?_) | (refine wpList_load_suba_w (by rfl) _ _ rfl w.heap.size 7 _ (by rfl) _ #[.bool true, .bool false] C1 (by rfl) Try.underlying29 (by kernel_rfl) ?_))
      go_ret
      exact ⟨retB_tc (by rw [← HR.out]; first | rfl | simp), b1⟩
    · obtain ⟨W1, hW1⟩ : ∃ W, w.alloc (.cells (Cn.v ⟨st, n0, n1, e0, e1, true, true, true, true⟩) 31) = W := ⟨_, rfl⟩
      have b1 := bel_nw hW1
      have C1 := blk_nw hW1
      have c0 := C1.cell 0 (.int .i64 st) rfl
      have c5 := C1.cell 5 (.bool true) rfl
      have c6 := C1.cell 6 (.bool true) rfl
      have c7 := C1.cell 7 (.bool true) rfl
      have c8 := C1.cell 8 (.bool true) rfl
      go_enter Try.func67, Try.ntmps67
      have q1 : ∀ W, (Op.equalIn 10000 29 (.agg #[.bool true, .bool true]) (.agg #[.bool true, .bool false])).run Try.prog W = .ok false W := eqA_tc true true true false
      have q2 : ∀ W, (Op.equalIn 10000 29 (.agg #[.bool true, .bool true]) (.agg #[.bool true, .bool true])).run Try.prog W = .ok true W := eqA_tc true true true true
      have q3 : ∀ W, (Op.equalIn 10000 29 (.agg #[.bool true, .bool true]) (.agg #[.bool false, .bool false])).run Try.prog W = .ok false W := eqA_tc true true false false
      go_wp2_with (first | (refine wpList_load_suba_w (by rfl) _ _ rfl w.heap.size 5 _ (by rfl) _ #[.bool true, .bool true] C1 (by rfl) Try.underlying29 (by kernel_rfl) ?_) | (refine wpList_load_suba_w (by rfl) _ _ rfl w.heap.size 7 _ (by rfl) _ #[.bool true, .bool true] C1 (by rfl) Try.underlying29 (by kernel_rfl) ?_))
      go_ret
      exact ⟨retB_tc (by rw [← HR.out]; first | rfl | simp), b1⟩
set_option maxRecDepth 100000 in
set_option maxHeartbeats 4000000 in
theorem life_tc (c : Cn) (w : World) :
    Calls Try.prog 80 #[.agg c.v] w fun e w' => e = .returned (.int .i64 c.life) ∧ Below w.heap.size w w' := by
  obtain ⟨R, hR⟩ : ∃ R, c.life = R := ⟨_, rfl⟩
  have HR : Hid ((if c.right then (if c.st == 3 then 3600 else if c.st == 4 then 60 else if c.st == 6 then 1 else 30) else 0) = R) := hR
  rw [hR]
  clear hR
  have KR : Hid (∀ W, Calls Try.prog 67 #[.agg c.v] W fun e w' => e = .returned (.bool c.right) ∧ Below W.heap.size W w') := fun W => right_tc c W
  generalize c.right = Q at *
  generalize h3 : (c.st == 3) = X3 at *
  generalize h4 : (c.st == 4) = X4 at *
  generalize h6 : (c.st == 6) = X6 at *
  obtain ⟨W1, hW1⟩ : ∃ W, w.alloc (.cells c.v 31) = W := ⟨_, rfl⟩
  have b1 := bel_nw hW1
  have C1 := blk_nw hW1
  go_enter Try.func80, Try.ntmps80
  go_wp2_with (refine wpList_load_blk_w (by rfl) _ _ rfl w.heap.size (by rfl) _ C1 Try.underlying31 (by kernel_rfl) ?_)
  refine Calls.mono (KR.out _) ?_
  rintro e W2 ⟨rfl, bb⟩
  have C2 := C1.kept bb
  have b2 := bel_tr b1 bb
  clear bb
  have c0 := C2.cell 0 (.int .i64 c.st) rfl
  cases Q with
  | false =>
    go_wp2
    go_ret
    exact ⟨retN_tc (by rw [← HR.out]; first | rfl | simp), b2⟩

  | true =>
    cases X3 with
    | false =>
      cases X4 with
      | false =>
        cases X6 with
        | false =>
          go_wp2
          go_ret
          exact ⟨retN_tc (by rw [← HR.out]; first | rfl | simp), b2⟩

        | true =>
          go_wp2
          go_ret
          exact ⟨retN_tc (by rw [← HR.out]; first | rfl | simp), b2⟩


      | true =>
        go_wp2
        go_ret
        exact ⟨retN_tc (by rw [← HR.out]; first | rfl | simp), b2⟩


    | true =>
      go_wp2
      go_ret
      exact ⟨retN_tc (by rw [← HR.out]; first | rfl | simp), b2⟩
end Go.Proofs.Ytmjjdbkipagkbaa
