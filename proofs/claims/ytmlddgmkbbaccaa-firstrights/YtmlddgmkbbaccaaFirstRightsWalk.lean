/- The law FirstRights returns true. -/
import Derived.Test.YtmlddgmkbbaccaaFrG
import Derived.Test.YtmlddgmkbbaccaaFrQ
namespace Go.Proofs.Ytmlddgmkbbaccaa
open Go.RowKit
set_option linter.unusedVariables false
set_option linter.unusedSimpArgs false
set_option maxRecDepth 100000 in
set_option maxHeartbeats 4000000 in
theorem firstRights_walk (r : Rl) (k : Ky) (w : World) (ho : r.ok) (ko : k.ok) :
    Calls Try.prog 3 #[.agg r.v, .agg k.v] w fun e w' => e = .returned (.bool true) ∧ Below w.heap.size w w' := by
  have hs1 := info_rl r
  have hs2 := info_ky k
  have K1 : Hid (∀ W, Calls Try.prog 9 #[.agg k.v] W fun e w' => e = .returned (.bool k.right) ∧ Below W.heap.size W w') := fun W => rightKey_any k W ko
  have K2 : Hid (∀ W, Calls Try.prog 10 #[.agg k.v] W fun e w' => e = .returned (.bool k.right) ∧ Below W.heap.size W w') := fun W => rrightKey_any k W ko
  have K3 : Hid (∀ W, Calls Try.prog 11 #[.agg r.v] W fun e w' => e = .returned (.bool r.right) ∧ Below W.heap.size W w') := fun W => rightRule_any r W ho
  have K4 : Hid (∀ W, Calls Try.prog 12 #[.agg r.v] W fun e w' => e = .returned (.bool r.right) ∧ Below W.heap.size W w') := fun W => rrightRule_any r W ho
  have K5 : Hid (∀ W, Calls Try.prog 13 #[.agg r.v, .agg k.v] W fun e w' => e = .returned (.bool (r.takes k)) ∧ Below W.heap.size W w') := fun W => takes_any r k W ho ko
  have K6 : Hid (∀ W, Calls Try.prog 14 #[.agg r.v, .agg k.v] W fun e w' => e = .returned (.bool (r.takes k)) ∧ Below W.heap.size W w') := fun W => rtakes_any r k W ho ko
  have KA : Hid (∀ W, Calls Try.prog 15 #[] W fun e w' => e = .returned (.bool true) ∧ Below W.heap.size W w') := alive_any
  generalize k.right = q1 at *
  generalize r.right = q2 at *
  generalize r.takes k = q3 at *
  generalize r.v = RA at *
  generalize k.v = KV at *
  clear ho ko
  have bel : Below w.heap.size w ((w.alloc (.cells RA 30)).alloc (.cells KV 32)) := bel_al (bel_nw rfl) rfl
  have hD := (blk_new w RA 30).alloc (.cells KV 32)
  have hKy := blk_new (w.alloc (.cells RA 30)) KV 32
  rw [World.size_alloc] at hKy
  go_enter Try.func3, Try.ntmps3
  go_wp2_with fail
  have hD := hD.drew
  have hKy := hKy.drew
  have bel := bel.drew
  refine wp_region_noPanic ?_
  refine wp_region_held_drew (S := fun w'' => Blk w'' w.heap.size 30 RA ∧ Blk w'' (w.heap.size + 1) 32 KV) (by kernel_rfl) (by exact ⟨hD, hKy⟩) (fun hHeld => ?_)
  refine wpAnyH_take (i := 0) (oi := { dst := some 5, op := Op.load 32 (.tmp 3), type := 32, pos := "law.go:27", after := #[], guard := none }) (v := (.agg KV)) rfl (by kernel_rfl) (by kernel_rfl) (by kernel_rfl) (fun _ _ _ h => h) (yieldsIf_at (by rfl) _ _ rfl (w.heap.size + 1) 0 (by rfl) _ (fun _ h => h.2.at_) Try.underlying32 hs2) hHeld ?_
  try simp only [Act.put, List.setIfInBounds_toArray, List.set_cons_zero, List.set_cons_succ]
  refine wpAnyH_take (i := 2) (oi := { dst := some 7, op := Op.load 32 (.tmp 3), type := 32, pos := "law.go:27", after := #[], guard := none }) (v := (.agg KV)) rfl (by kernel_rfl) (by kernel_rfl) (by kernel_rfl) (fun _ _ _ h => h) (yieldsIf_at (by rfl) _ _ rfl (w.heap.size + 1) 0 (by rfl) _ (fun _ h => h.2.at_) Try.underlying32 hs2) hHeld ?_
  try simp only [Act.put, List.setIfInBounds_toArray, List.set_cons_zero, List.set_cons_succ]
  refine wpAnyH_ready (rs := [1]) (by kernel_rfl) (by simp) ?_
  refine AllReadyH.cons (o := { dst := some 6, op := Op.call { callee := Callee.value (.func 9), args := #[.tmp 5], argTypes := #[32] }, type := 4, pos := "law.go:27", after := #[{ on := 0, ground := Ground.data }], guard := none }) rfl (fun K hK => ?_) AllReadyH.nil
  go_simp
  refine Calls.mono (K1.out _) ?_
  rintro e W101 ⟨rfl, bb⟩
  have hD := hD.kept bb
  have hKy := hKy.kept bb
  have bel := bel_tr bel bb
  refine hK.out _ _ ?_ (fun hHeld => ?_)
  · exact ⟨hD, hKy⟩
  clear hK K bb
  try simp only [Act.put, List.setIfInBounds_toArray, List.set_cons_zero, List.set_cons_succ]
  refine wpAnyH_ready (rs := [3]) (by kernel_rfl) (by simp) ?_
  refine AllReadyH.cons (o := { dst := some 8, op := Op.call { callee := Callee.value (.func 10), args := #[.tmp 7], argTypes := #[32] }, type := 4, pos := "law.go:27", after := #[{ on := 2, ground := Ground.data }, { on := 1, ground := Ground.chain }], guard := none }) rfl (fun K hK => ?_) AllReadyH.nil
  go_simp
  refine Calls.mono (K2.out _) ?_
  rintro e W102 ⟨rfl, bb⟩
  have hD := hD.kept bb
  have hKy := hKy.kept bb
  have bel := bel_tr bel bb
  refine hK.out _ _ ?_ (fun hHeld => ?_)
  · exact ⟨hD, hKy⟩
  clear hK K bb
  try simp only [Act.put, List.setIfInBounds_toArray, List.set_cons_zero, List.set_cons_succ]
  refine wpAnyH_take (i := 4) (oi := { dst := some 9, op := Op.binOp BinOp.eql 4 (.tmp 6) (.tmp 8) 4, type := 4, pos := "law.go:27", after := #[{ on := 1, ground := Ground.data }, { on := 3, ground := Ground.data }], guard := none }) (v := (.bool true)) rfl (by kernel_rfl) (by kernel_rfl) (by kernel_rfl) (fun _ _ _ h => h) (Or.inl ⟨by rfl, ?_⟩) hHeld ?_
  · intro w9 hSw
    try dsimp only at hSw
    go_simp
  try simp only [Act.put, List.setIfInBounds_toArray, List.set_cons_zero, List.set_cons_succ]
  refine wpAnyH_take (i := 5) (oi := { dst := some 10, op := Op.move (.tmp 9), type := 4, pos := "law.go:27", after := #[{ on := 4, ground := Ground.data }, { on := 3, ground := Ground.chain }], guard := none }) (v := (.bool true)) rfl (by kernel_rfl) (by kernel_rfl) (by kernel_rfl) (fun _ _ _ h => h) (Or.inl ⟨by rfl, ?_⟩) hHeld ?_
  · intro w9 hSw
    try dsimp only at hSw
    go_simp
  try simp only [Act.put, List.setIfInBounds_toArray, List.set_cons_zero, List.set_cons_succ]
  refine wpAnyH_take (i := 6) (oi := { dst := some 11, op := Op.load 30 (.tmp 2), type := 30, pos := "law.go:27", after := #[{ on := 5, ground := Ground.guard }], guard := some (5, true) }) (v := (.agg RA)) rfl (by kernel_rfl) (by kernel_rfl) (by kernel_rfl) (fun _ _ _ h => h) (yieldsIf_at (by rfl) _ _ rfl w.heap.size 0 (by rfl) _ (fun _ h => h.1.at_) Try.underlying30 hs1) hHeld ?_
  try simp only [Act.put, List.setIfInBounds_toArray, List.set_cons_zero, List.set_cons_succ]
  refine wpAnyH_take (i := 8) (oi := { dst := some 13, op := Op.load 30 (.tmp 2), type := 30, pos := "law.go:27", after := #[{ on := 5, ground := Ground.guard }], guard := some (5, true) }) (v := (.agg RA)) rfl (by kernel_rfl) (by kernel_rfl) (by kernel_rfl) (fun _ _ _ h => h) (yieldsIf_at (by rfl) _ _ rfl w.heap.size 0 (by rfl) _ (fun _ h => h.1.at_) Try.underlying30 hs1) hHeld ?_
  try simp only [Act.put, List.setIfInBounds_toArray, List.set_cons_zero, List.set_cons_succ]
  refine wpAnyH_ready (rs := [7]) (by kernel_rfl) (by simp) ?_
  refine AllReadyH.cons (o := { dst := some 12, op := Op.call { callee := Callee.value (.func 11), args := #[.tmp 11], argTypes := #[30] }, type := 4, pos := "law.go:27", after := #[{ on := 6, ground := Ground.data }, { on := 5, ground := Ground.chain }, { on := 5, ground := Ground.guard }], guard := some (5, true) }) rfl (fun K hK => ?_) AllReadyH.nil
  go_simp
  refine Calls.mono (K3.out _) ?_
  rintro e W103 ⟨rfl, bb⟩
  have hD := hD.kept bb
  have hKy := hKy.kept bb
  have bel := bel_tr bel bb
  refine hK.out _ _ ?_ (fun hHeld => ?_)
  · exact ⟨hD, hKy⟩
  clear hK K bb
  try simp only [Act.put, List.setIfInBounds_toArray, List.set_cons_zero, List.set_cons_succ]
  refine wpAnyH_ready (rs := [9]) (by kernel_rfl) (by simp) ?_
  refine AllReadyH.cons (o := { dst := some 14, op := Op.call { callee := Callee.value (.func 12), args := #[.tmp 13], argTypes := #[30] }, type := 4, pos := "law.go:27", after := #[{ on := 8, ground := Ground.data }, { on := 7, ground := Ground.chain }, { on := 5, ground := Ground.guard }], guard := some (5, true) }) rfl (fun K hK => ?_) AllReadyH.nil
  go_simp
  refine Calls.mono (K4.out _) ?_
  rintro e W104 ⟨rfl, bb⟩
  have hD := hD.kept bb
  have hKy := hKy.kept bb
  have bel := bel_tr bel bb
  refine hK.out _ _ ?_ (fun hHeld => ?_)
  · exact ⟨hD, hKy⟩
  clear hK K bb
  try simp only [Act.put, List.setIfInBounds_toArray, List.set_cons_zero, List.set_cons_succ]
  refine wpAnyH_take (i := 10) (oi := { dst := some 15, op := Op.binOp BinOp.eql 4 (.tmp 12) (.tmp 14) 4, type := 4, pos := "law.go:27", after := #[{ on := 7, ground := Ground.data }, { on := 9, ground := Ground.data }, { on := 5, ground := Ground.guard }], guard := some (5, true) }) (v := (.bool true)) rfl (by kernel_rfl) (by kernel_rfl) (by kernel_rfl) (fun _ _ _ h => h) (Or.inl ⟨by rfl, ?_⟩) hHeld ?_
  · intro w9 hSw
    try dsimp only at hSw
    go_simp
  try simp only [Act.put, List.setIfInBounds_toArray, List.set_cons_zero, List.set_cons_succ]
  refine wpAnyH_take (i := 11) (oi := { dst := some 16, op := Op.pick (.tmp 10) (.tmp 15) (.const (.bool false)), type := 4, pos := "law.go:27", after := #[{ on := 5, ground := Ground.data }, { on := 10, ground := Ground.data }], guard := none }) (v := (.bool true)) rfl (by kernel_rfl) (by kernel_rfl) (by kernel_rfl) (fun _ _ _ h => h) (Or.inl ⟨by rfl, ?_⟩) hHeld ?_
  · intro w9 hSw
    try dsimp only at hSw
    go_simp
  try simp only [Act.put, List.setIfInBounds_toArray, List.set_cons_zero, List.set_cons_succ]
  refine wpAnyH_take (i := 12) (oi := { dst := some 17, op := Op.move (.tmp 16), type := 4, pos := "law.go:27", after := #[{ on := 11, ground := Ground.data }, { on := 9, ground := Ground.chain }], guard := none }) (v := (.bool true)) rfl (by kernel_rfl) (by kernel_rfl) (by kernel_rfl) (fun _ _ _ h => h) (Or.inl ⟨by rfl, ?_⟩) hHeld ?_
  · intro w9 hSw
    try dsimp only at hSw
    go_simp
  try simp only [Act.put, List.setIfInBounds_toArray, List.set_cons_zero, List.set_cons_succ]
  refine wpAnyH_take (i := 13) (oi := { dst := some 18, op := Op.load 30 (.tmp 2), type := 30, pos := "law.go:27", after := #[{ on := 12, ground := Ground.guard }], guard := some (12, true) }) (v := (.agg RA)) rfl (by kernel_rfl) (by kernel_rfl) (by kernel_rfl) (fun _ _ _ h => h) (yieldsIf_at (by rfl) _ _ rfl w.heap.size 0 (by rfl) _ (fun _ h => h.1.at_) Try.underlying30 hs1) hHeld ?_
  try simp only [Act.put, List.setIfInBounds_toArray, List.set_cons_zero, List.set_cons_succ]
  refine wpAnyH_take (i := 14) (oi := { dst := some 19, op := Op.load 32 (.tmp 3), type := 32, pos := "law.go:27", after := #[{ on := 12, ground := Ground.guard }], guard := some (12, true) }) (v := (.agg KV)) rfl (by kernel_rfl) (by kernel_rfl) (by kernel_rfl) (fun _ _ _ h => h) (yieldsIf_at (by rfl) _ _ rfl (w.heap.size + 1) 0 (by rfl) _ (fun _ h => h.2.at_) Try.underlying32 hs2) hHeld ?_
  try simp only [Act.put, List.setIfInBounds_toArray, List.set_cons_zero, List.set_cons_succ]
  refine wpAnyH_take (i := 16) (oi := { dst := some 21, op := Op.load 30 (.tmp 2), type := 30, pos := "law.go:27", after := #[{ on := 12, ground := Ground.guard }], guard := some (12, true) }) (v := (.agg RA)) rfl (by kernel_rfl) (by kernel_rfl) (by kernel_rfl) (fun _ _ _ h => h) (yieldsIf_at (by rfl) _ _ rfl w.heap.size 0 (by rfl) _ (fun _ h => h.1.at_) Try.underlying30 hs1) hHeld ?_
  try simp only [Act.put, List.setIfInBounds_toArray, List.set_cons_zero, List.set_cons_succ]
  refine wpAnyH_take (i := 17) (oi := { dst := some 22, op := Op.load 32 (.tmp 3), type := 32, pos := "law.go:27", after := #[{ on := 12, ground := Ground.guard }], guard := some (12, true) }) (v := (.agg KV)) rfl (by kernel_rfl) (by kernel_rfl) (by kernel_rfl) (fun _ _ _ h => h) (yieldsIf_at (by rfl) _ _ rfl (w.heap.size + 1) 0 (by rfl) _ (fun _ h => h.2.at_) Try.underlying32 hs2) hHeld ?_
  try simp only [Act.put, List.setIfInBounds_toArray, List.set_cons_zero, List.set_cons_succ]
  refine wpAnyH_ready (rs := [15]) (by kernel_rfl) (by simp) ?_
  refine AllReadyH.cons (o := { dst := some 20, op := Op.call { callee := Callee.value (.func 13), args := #[.tmp 18, .tmp 19], argTypes := #[30, 32] }, type := 4, pos := "law.go:27", after := #[{ on := 13, ground := Ground.data }, { on := 14, ground := Ground.data }, { on := 12, ground := Ground.chain }, { on := 12, ground := Ground.guard }], guard := some (12, true) }) rfl (fun K hK => ?_) AllReadyH.nil
  go_simp
  refine Calls.mono (K5.out _) ?_
  rintro e W105 ⟨rfl, bb⟩
  have hD := hD.kept bb
  have hKy := hKy.kept bb
  have bel := bel_tr bel bb
  refine hK.out _ _ ?_ (fun hHeld => ?_)
  · exact ⟨hD, hKy⟩
  clear hK K bb
  try simp only [Act.put, List.setIfInBounds_toArray, List.set_cons_zero, List.set_cons_succ]
  refine wpAnyH_ready (rs := [18]) (by kernel_rfl) (by simp) ?_
  refine AllReadyH.cons (o := { dst := some 23, op := Op.call { callee := Callee.value (.func 14), args := #[.tmp 21, .tmp 22], argTypes := #[30, 32] }, type := 4, pos := "law.go:27", after := #[{ on := 16, ground := Ground.data }, { on := 17, ground := Ground.data }, { on := 15, ground := Ground.chain }, { on := 12, ground := Ground.guard }], guard := some (12, true) }) rfl (fun K hK => ?_) AllReadyH.nil
  go_simp
  refine Calls.mono (K6.out _) ?_
  rintro e W106 ⟨rfl, bb⟩
  have hD := hD.kept bb
  have hKy := hKy.kept bb
  have bel := bel_tr bel bb
  refine hK.out _ _ ?_ (fun hHeld => ?_)
  · exact ⟨hD, hKy⟩
  clear hK K bb
  try simp only [Act.put, List.setIfInBounds_toArray, List.set_cons_zero, List.set_cons_succ]
  refine wpAnyH_take (i := 19) (oi := { dst := some 24, op := Op.binOp BinOp.eql 4 (.tmp 20) (.tmp 23) 4, type := 4, pos := "law.go:27", after := #[{ on := 15, ground := Ground.data }, { on := 18, ground := Ground.data }, { on := 12, ground := Ground.guard }], guard := some (12, true) }) (v := (.bool true)) rfl (by kernel_rfl) (by kernel_rfl) (by kernel_rfl) (fun _ _ _ h => h) (Or.inl ⟨by rfl, ?_⟩) hHeld ?_
  · intro w9 hSw
    try dsimp only at hSw
    go_simp
  try simp only [Act.put, List.setIfInBounds_toArray, List.set_cons_zero, List.set_cons_succ]
  refine wpAnyH_take (i := 20) (oi := { dst := some 25, op := Op.pick (.tmp 17) (.tmp 24) (.const (.bool false)), type := 4, pos := "law.go:27", after := #[{ on := 12, ground := Ground.data }, { on := 19, ground := Ground.data }], guard := none }) (v := (.bool true)) rfl (by kernel_rfl) (by kernel_rfl) (by kernel_rfl) (fun _ _ _ h => h) (Or.inl ⟨by rfl, ?_⟩) hHeld ?_
  · intro w9 hSw
    try dsimp only at hSw
    go_simp
  try simp only [Act.put, List.setIfInBounds_toArray, List.set_cons_zero, List.set_cons_succ]
  refine wpAnyH_take (i := 21) (oi := { dst := some 26, op := Op.move (.tmp 25), type := 4, pos := "law.go:27", after := #[{ on := 20, ground := Ground.data }, { on := 18, ground := Ground.chain }], guard := none }) (v := (.bool true)) rfl (by kernel_rfl) (by kernel_rfl) (by kernel_rfl) (fun _ _ _ h => h) (Or.inl ⟨by rfl, ?_⟩) hHeld ?_
  · intro w9 hSw
    try dsimp only at hSw
    go_simp
  try simp only [Act.put, List.setIfInBounds_toArray, List.set_cons_zero, List.set_cons_succ]
  refine wpAnyH_ready (rs := [22]) (by kernel_rfl) (by simp) ?_
  refine AllReadyH.cons (o := { dst := some 27, op := Op.call { callee := Callee.value (.func 15), args := #[], argTypes := #[] }, type := 4, pos := "law.go:27", after := #[{ on := 21, ground := Ground.chain }, { on := 21, ground := Ground.guard }], guard := some (21, true) }) rfl (fun K hK => ?_) AllReadyH.nil
  go_simp
  refine Calls.mono (KA.out _) ?_
  rintro e W107 ⟨rfl, bb⟩
  have hD := hD.kept bb
  have hKy := hKy.kept bb
  have bel := bel_tr bel bb
  refine hK.out _ _ ?_ (fun hHeld => ?_)
  · exact ⟨hD, hKy⟩
  clear hK K bb
  try simp only [Act.put, List.setIfInBounds_toArray, List.set_cons_zero, List.set_cons_succ]
  refine wpAnyH_take (i := 23) (oi := { dst := some 28, op := Op.pick (.tmp 26) (.tmp 27) (.const (.bool false)), type := 4, pos := "law.go:27", after := #[{ on := 21, ground := Ground.data }, { on := 22, ground := Ground.data }], guard := none }) (v := (.bool true)) rfl (by kernel_rfl) (by kernel_rfl) (by kernel_rfl) (fun _ _ _ h => h) (Or.inl ⟨by rfl, ?_⟩) hHeld ?_
  · intro w9 hSw
    try dsimp only at hSw
    go_simp
  try simp only [Act.put, List.setIfInBounds_toArray, List.set_cons_zero, List.set_cons_succ]
  refine wpAnyH_take (i := 24) (oi := { dst := some 4, op := Op.assign (.tmp 28), type := 4, pos := "law.go:27", after := #[{ on := 23, ground := Ground.data }, { on := 22, ground := Ground.chain }, { on := 0, ground := Ground.phase }, { on := 1, ground := Ground.phase }, { on := 2, ground := Ground.phase }, { on := 3, ground := Ground.phase }, { on := 4, ground := Ground.phase }, { on := 5, ground := Ground.phase }, { on := 6, ground := Ground.phase }, { on := 7, ground := Ground.phase }, { on := 8, ground := Ground.phase }, { on := 9, ground := Ground.phase }, { on := 10, ground := Ground.phase }, { on := 11, ground := Ground.phase }, { on := 12, ground := Ground.phase }, { on := 13, ground := Ground.phase }, { on := 14, ground := Ground.phase }, { on := 15, ground := Ground.phase }, { on := 16, ground := Ground.phase }, { on := 17, ground := Ground.phase }, { on := 18, ground := Ground.phase }, { on := 19, ground := Ground.phase }, { on := 20, ground := Ground.phase }, { on := 21, ground := Ground.phase }, { on := 22, ground := Ground.phase }, { on := 23, ground := Ground.phase }], guard := none }) (v := (.bool true)) rfl (by kernel_rfl) (by kernel_rfl) (by kernel_rfl) (fun _ _ _ h => h) (Or.inl ⟨by rfl, ?_⟩) hHeld ?_
  · intro w9 hSw
    try dsimp only at hSw
    go_simp
  try simp only [Act.put, List.setIfInBounds_toArray, List.set_cons_zero, List.set_cons_succ]
  refine wpAnyH_done (by kernel_rfl) ?_ _
  refine NoPanic.normal ?_
  go_wp2
  go_ret
  exact ⟨rfl, bel⟩
end Go.Proofs.Ytmlddgmkbbaccaa
