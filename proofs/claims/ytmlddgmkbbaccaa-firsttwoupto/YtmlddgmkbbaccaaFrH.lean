/- The questions of a rule that ask for addresses. -/
import Derived.Test.YtmlddgmkbbaccaaFrE
namespace Go.Proofs.Ytmlddgmkbbaccaa
open Go.RowKit
set_option linter.unusedVariables false
set_option linter.unusedSimpArgs false
set_option maxRecDepth 100000 in
set_option maxHeartbeats 2000000 in
theorem asks3_any (r : Rl) (k : Ky) (b off g : Nat) (w : World) (hr : CellsAt w b off r.v) (hk : CellsAt w g 0 k.v) (ko : k.s.ok) :
    Calls Try.prog 42 #[.pointer (some ⟨b, off, none⟩), .pointer (some ⟨g, 0, none⟩)] w fun e w' => e = .returned (.bool (hasB r.s r.sn k.s)) ∧ Below w.heap.size w w' := by
  have r2 : w.cell? ⟨b, off + 2, none⟩ = some (.int .i64 r.s.fam) := by have := hr.2 2 _ rfl; simpa using this
  have r3 : w.cell? ⟨b, off + 3, none⟩ = some (.int .u64 r.s.hi) := by have := hr.2 3 _ rfl; simpa using this
  have r4 : w.cell? ⟨b, off + 4, none⟩ = some (.int .u64 r.s.lo) := by have := hr.2 4 _ rfl; simpa using this
  have r5 : w.cell? ⟨b, off + 5, none⟩ = some (.int .i64 r.sn) := by have := hr.2 5 _ rfl; simpa using this
  have k2 : w.cell? ⟨g, 2, none⟩ = some (.int .i64 k.s.fam) := by have := hk.2 2 _ rfl; simpa using this
  have k3 : w.cell? ⟨g, 3, none⟩ = some (.int .u64 k.s.hi) := by have := hk.2 3 _ rfl; simpa using this
  have k4 : w.cell? ⟨g, 4, none⟩ = some (.int .u64 k.s.lo) := by have := hk.2 4 _ rfl; simpa using this
  have K1 := every_any r.s.fam r.s.hi r.s.lo r.sn
  have K2 := fun W => has_any r.s.fam r.s.hi r.s.lo r.sn k.s.fam k.s.hi k.s.lo W ko
  unfold hasB
  have e1 : zeroP r.s r.sn = zeroP ⟨r.s.fam, r.s.hi, r.s.lo⟩ r.sn := rfl
  have e2 : Ad.has r.s r.sn k.s = Ad.has ⟨r.s.fam, r.s.hi, r.s.lo⟩ r.sn ⟨k.s.fam, k.s.hi, k.s.lo⟩ := rfl
  rw [e1, e2]
  clear e1 e2
  generalize zeroP ⟨r.s.fam, r.s.hi, r.s.lo⟩ r.sn = q1 at *
  generalize Ad.has ⟨r.s.fam, r.s.hi, r.s.lo⟩ r.sn ⟨k.s.fam, k.s.hi, k.s.lo⟩ = q2 at *
  clear hr hk
  go_enter Try.func42, Try.ntmps42
  cases q1
  · go_wp2
    refine wp_region_noPanic ?_
    refine wp_region_held_drew (S := fun w'' => w''.cell? ⟨b, off + 2, none⟩ = some (.int .i64 r.s.fam) ∧ w''.cell? ⟨b, off + 3, none⟩ = some (.int .u64 r.s.hi) ∧ w''.cell? ⟨b, off + 4, none⟩ = some (.int .u64 r.s.lo) ∧ w''.cell? ⟨b, off + 5, none⟩ = some (.int .i64 r.sn) ∧ w''.cell? ⟨g, 2, none⟩ = some (.int .i64 k.s.fam) ∧ w''.cell? ⟨g, 3, none⟩ = some (.int .u64 k.s.hi) ∧ w''.cell? ⟨g, 4, none⟩ = some (.int .u64 k.s.lo)) (by kernel_rfl) (by exact ⟨r2, r3, r4, r5, k2, k3, k4⟩) (fun hHeld => ?_)
    refine wpAnyH_take (i := 0) (oi := { dst := some 4, op := Op.move (.tmp 0), type := 54, pos := "first.go:61", after := #[], guard := none }) (v := (.pointer (some ⟨b, off, none⟩))) rfl (by kernel_rfl) (by kernel_rfl) (by kernel_rfl) (fun _ _ _ h => h) (Or.inl ⟨by rfl, ?_⟩) hHeld ?_
    · intro w9 hSw
      try dsimp only at hSw
      go_simp
    try simp only [Act.put, List.setIfInBounds_toArray, List.set_cons_zero, List.set_cons_succ]
    refine wpAnyH_take (i := 1) (oi := { dst := some 5, op := Op.nilCheck (.tmp 4), type := 0, pos := "first.go:61", after := #[{ on := 0, ground := Ground.data }], guard := none }) (v := (.pointer (some ⟨b, off, none⟩))) rfl (by kernel_rfl) (by kernel_rfl) (by kernel_rfl) (fun _ _ _ h => h) (Or.inl ⟨by rfl, ?_⟩) hHeld ?_
    · intro w9 hSw
      try dsimp only at hSw
      go_simp
    try simp only [Act.put, List.setIfInBounds_toArray, List.set_cons_zero, List.set_cons_succ]
    refine wpAnyH_take (i := 2) (oi := { dst := some 6, op := Op.fieldAddr 30 (.tmp 5) 2, type := 0, pos := "first.go:61", after := #[{ on := 1, ground := Ground.data }], guard := none }) (v := (.pointer (some ⟨b, off + 2, none⟩))) rfl (by kernel_rfl) (by kernel_rfl) (by kernel_rfl) (fun _ _ _ h => h) (Or.inl ⟨by rfl, ?_⟩) hHeld ?_
    · intro w9 hSw
      try dsimp only at hSw
      go_simp
    try simp only [Act.put, List.setIfInBounds_toArray, List.set_cons_zero, List.set_cons_succ]
    refine wpAnyH_take (i := 3) (oi := { dst := some 7, op := Op.load 26 (.tmp 6), type := 26, pos := "first.go:61", after := #[{ on := 2, ground := Ground.data }], guard := none }) (v := (.agg #[.int .i64 r.s.fam, .int .u64 r.s.hi, .int .u64 r.s.lo, .int .i64 r.sn])) rfl (by kernel_rfl) (by kernel_rfl) (by kernel_rfl) (fun _ _ _ h => h) (Or.inl ⟨by rfl, ?_⟩) hHeld ?_
    · intro w9 hSw
      try dsimp only at hSw
      go_simp
    try simp only [Act.put, List.setIfInBounds_toArray, List.set_cons_zero, List.set_cons_succ]
    refine wpAnyH_ready (rs := [4]) (by kernel_rfl) (by simp) ?_
    refine AllReadyH.cons (o := { dst := some 8, op := Op.call { callee := Callee.value (.func 37), args := #[.tmp 7], argTypes := #[26] }, type := 4, pos := "first.go:61", after := #[{ on := 3, ground := Ground.data }], guard := none }) rfl (fun K hK => ?_) AllReadyH.nil
    go_simp
    refine Calls.mono (K1 _) ?_
    rintro e W1 ⟨rfl, bb⟩
    have r2' := kept bb r2
    have r3' := kept bb r3
    have r4' := kept bb r4
    have r5' := kept bb r5
    have k2' := kept bb k2
    have k3' := kept bb k3
    have k4' := kept bb k4
    have b1 := bel_tr ((Below.refl w.heap.size w).drew) bb
    refine hK.out _ _ ?_ (fun hHeld => ?_)
    · exact ⟨r2', r3', r4', r5', k2', k3', k4'⟩
    clear hK K
    try simp only [Act.put, List.setIfInBounds_toArray, List.set_cons_zero, List.set_cons_succ]
    refine wpAnyH_take (i := 5) (oi := { dst := some 9, op := Op.move (.tmp 8), type := 4, pos := "first.go:61", after := #[{ on := 4, ground := Ground.data }, { on := 4, ground := Ground.chain }], guard := none }) (v := (.bool false)) rfl (by kernel_rfl) (by kernel_rfl) (by kernel_rfl) (fun _ _ _ h => h) (Or.inl ⟨by rfl, ?_⟩) hHeld ?_
    · intro w9 hSw
      try dsimp only at hSw
      go_simp
    try simp only [Act.put, List.setIfInBounds_toArray, List.set_cons_zero, List.set_cons_succ]
    refine wpAnyH_take (i := 6) (oi := { dst := some 10, op := Op.move (.tmp 0), type := 54, pos := "first.go:61", after := #[{ on := 5, ground := Ground.guard }], guard := some (5, false) }) (v := (.pointer (some ⟨b, off, none⟩))) rfl (by kernel_rfl) (by kernel_rfl) (by kernel_rfl) (fun _ _ _ h => h) (Or.inl ⟨by rfl, ?_⟩) hHeld ?_
    · intro w9 hSw
      try dsimp only at hSw
      go_simp
    try simp only [Act.put, List.setIfInBounds_toArray, List.set_cons_zero, List.set_cons_succ]
    refine wpAnyH_take (i := 7) (oi := { dst := some 11, op := Op.nilCheck (.tmp 10), type := 0, pos := "first.go:61", after := #[{ on := 6, ground := Ground.data }, { on := 5, ground := Ground.guard }], guard := some (5, false) }) (v := (.pointer (some ⟨b, off, none⟩))) rfl (by kernel_rfl) (by kernel_rfl) (by kernel_rfl) (fun _ _ _ h => h) (Or.inl ⟨by rfl, ?_⟩) hHeld ?_
    · intro w9 hSw
      try dsimp only at hSw
      go_simp
    try simp only [Act.put, List.setIfInBounds_toArray, List.set_cons_zero, List.set_cons_succ]
    refine wpAnyH_take (i := 8) (oi := { dst := some 12, op := Op.fieldAddr 30 (.tmp 11) 2, type := 0, pos := "first.go:61", after := #[{ on := 7, ground := Ground.data }, { on := 5, ground := Ground.guard }], guard := some (5, false) }) (v := (.pointer (some ⟨b, off + 2, none⟩))) rfl (by kernel_rfl) (by kernel_rfl) (by kernel_rfl) (fun _ _ _ h => h) (Or.inl ⟨by rfl, ?_⟩) hHeld ?_
    · intro w9 hSw
      try dsimp only at hSw
      go_simp
    try simp only [Act.put, List.setIfInBounds_toArray, List.set_cons_zero, List.set_cons_succ]
    refine wpAnyH_take (i := 9) (oi := { dst := some 13, op := Op.load 26 (.tmp 12), type := 26, pos := "first.go:61", after := #[{ on := 8, ground := Ground.data }, { on := 5, ground := Ground.guard }], guard := some (5, false) }) (v := (.agg #[.int .i64 r.s.fam, .int .u64 r.s.hi, .int .u64 r.s.lo, .int .i64 r.sn])) rfl (by kernel_rfl) (by kernel_rfl) (by kernel_rfl) (fun _ _ _ h => h) (Or.inl ⟨by rfl, ?_⟩) hHeld ?_
    · intro w9 hSw
      try dsimp only at hSw
      go_simp
    try simp only [Act.put, List.setIfInBounds_toArray, List.set_cons_zero, List.set_cons_succ]
    refine wpAnyH_take (i := 10) (oi := { dst := some 14, op := Op.fieldAddr 32 (.tmp 1) 2, type := 0, pos := "first.go:61", after := #[{ on := 5, ground := Ground.guard }], guard := some (5, false) }) (v := (.pointer (some ⟨g, 2, none⟩))) rfl (by kernel_rfl) (by kernel_rfl) (by kernel_rfl) (fun _ _ _ h => h) (Or.inl ⟨by rfl, ?_⟩) hHeld ?_
    · intro w9 hSw
      try dsimp only at hSw
      go_simp
    try simp only [Act.put, List.setIfInBounds_toArray, List.set_cons_zero, List.set_cons_succ]
    refine wpAnyH_take (i := 11) (oi := { dst := some 15, op := Op.load 24 (.tmp 14), type := 24, pos := "first.go:61", after := #[{ on := 10, ground := Ground.data }, { on := 5, ground := Ground.guard }], guard := some (5, false) }) (v := (.agg #[.int .i64 k.s.fam, .int .u64 k.s.hi, .int .u64 k.s.lo])) rfl (by kernel_rfl) (by kernel_rfl) (by kernel_rfl) (fun _ _ _ h => h) (Or.inl ⟨by rfl, ?_⟩) hHeld ?_
    · intro w9 hSw
      try dsimp only at hSw
      go_simp
    try simp only [Act.put, List.setIfInBounds_toArray, List.set_cons_zero, List.set_cons_succ]
    refine wpAnyH_ready (rs := [12]) (by kernel_rfl) (by simp) ?_
    refine AllReadyH.cons (o := { dst := some 16, op := Op.call { callee := Callee.value (.func 43), args := #[.tmp 13, .tmp 15], argTypes := #[26, 24] }, type := 4, pos := "first.go:61", after := #[{ on := 9, ground := Ground.data }, { on := 11, ground := Ground.data }, { on := 5, ground := Ground.chain }, { on := 5, ground := Ground.guard }], guard := some (5, false) }) rfl (fun K hK => ?_) AllReadyH.nil
    go_simp
    refine Calls.mono (K2 _) ?_
    rintro e W2 ⟨rfl, bb2⟩
    refine hK.out _ _ ?_ (fun hHeld => ?_)
    · exact ⟨kept bb2 r2', kept bb2 r3', kept bb2 r4', kept bb2 r5', kept bb2 k2', kept bb2 k3', kept bb2 k4'⟩
    clear hK K
    try simp only [Act.put, List.setIfInBounds_toArray, List.set_cons_zero, List.set_cons_succ]
    refine wpAnyH_take (i := 13) (oi := { dst := some 17, op := Op.pick (.tmp 9) (.const (.bool true)) (.tmp 16), type := 4, pos := "first.go:61", after := #[{ on := 5, ground := Ground.data }, { on := 12, ground := Ground.data }], guard := none }) (v := (.bool q2)) rfl (by kernel_rfl) (by kernel_rfl) (by kernel_rfl) (fun _ _ _ h => h) (Or.inl ⟨by rfl, ?_⟩) hHeld ?_
    · intro w9 hSw
      try dsimp only at hSw
      go_simp
    try simp only [Act.put, List.setIfInBounds_toArray, List.set_cons_zero, List.set_cons_succ]
    refine wpAnyH_take (i := 14) (oi := { dst := some 3, op := Op.assign (.tmp 17), type := 4, pos := "first.go:61", after := #[{ on := 13, ground := Ground.data }, { on := 12, ground := Ground.chain }, { on := 0, ground := Ground.phase }, { on := 1, ground := Ground.phase }, { on := 2, ground := Ground.phase }, { on := 3, ground := Ground.phase }, { on := 4, ground := Ground.phase }, { on := 5, ground := Ground.phase }, { on := 6, ground := Ground.phase }, { on := 7, ground := Ground.phase }, { on := 8, ground := Ground.phase }, { on := 9, ground := Ground.phase }, { on := 10, ground := Ground.phase }, { on := 11, ground := Ground.phase }, { on := 12, ground := Ground.phase }, { on := 13, ground := Ground.phase }], guard := none }) (v := (.bool q2)) rfl (by kernel_rfl) (by kernel_rfl) (by kernel_rfl) (fun _ _ _ h => h) (Or.inl ⟨by rfl, ?_⟩) hHeld ?_
    · intro w9 hSw
      try dsimp only at hSw
      go_simp
    try simp only [Act.put, List.setIfInBounds_toArray, List.set_cons_zero, List.set_cons_succ]
    refine wpAnyH_done (by kernel_rfl) ?_ _
    refine NoPanic.normal ?_
    go_wp2
    go_ret
    exact ⟨by simp, bel_tr b1 bb2⟩
  · go_wp2
    refine wp_region_noPanic ?_
    refine wp_region_held_drew (S := fun w'' => w''.cell? ⟨b, off + 2, none⟩ = some (.int .i64 r.s.fam) ∧ w''.cell? ⟨b, off + 3, none⟩ = some (.int .u64 r.s.hi) ∧ w''.cell? ⟨b, off + 4, none⟩ = some (.int .u64 r.s.lo) ∧ w''.cell? ⟨b, off + 5, none⟩ = some (.int .i64 r.sn) ∧ w''.cell? ⟨g, 2, none⟩ = some (.int .i64 k.s.fam) ∧ w''.cell? ⟨g, 3, none⟩ = some (.int .u64 k.s.hi) ∧ w''.cell? ⟨g, 4, none⟩ = some (.int .u64 k.s.lo)) (by kernel_rfl) (by exact ⟨r2, r3, r4, r5, k2, k3, k4⟩) (fun hHeld => ?_)
    refine wpAnyH_take (i := 0) (oi := { dst := some 4, op := Op.move (.tmp 0), type := 54, pos := "first.go:61", after := #[], guard := none }) (v := (.pointer (some ⟨b, off, none⟩))) rfl (by kernel_rfl) (by kernel_rfl) (by kernel_rfl) (fun _ _ _ h => h) (Or.inl ⟨by rfl, ?_⟩) hHeld ?_
    · intro w9 hSw
      try dsimp only at hSw
      go_simp
    try simp only [Act.put, List.setIfInBounds_toArray, List.set_cons_zero, List.set_cons_succ]
    refine wpAnyH_take (i := 1) (oi := { dst := some 5, op := Op.nilCheck (.tmp 4), type := 0, pos := "first.go:61", after := #[{ on := 0, ground := Ground.data }], guard := none }) (v := (.pointer (some ⟨b, off, none⟩))) rfl (by kernel_rfl) (by kernel_rfl) (by kernel_rfl) (fun _ _ _ h => h) (Or.inl ⟨by rfl, ?_⟩) hHeld ?_
    · intro w9 hSw
      try dsimp only at hSw
      go_simp
    try simp only [Act.put, List.setIfInBounds_toArray, List.set_cons_zero, List.set_cons_succ]
    refine wpAnyH_take (i := 2) (oi := { dst := some 6, op := Op.fieldAddr 30 (.tmp 5) 2, type := 0, pos := "first.go:61", after := #[{ on := 1, ground := Ground.data }], guard := none }) (v := (.pointer (some ⟨b, off + 2, none⟩))) rfl (by kernel_rfl) (by kernel_rfl) (by kernel_rfl) (fun _ _ _ h => h) (Or.inl ⟨by rfl, ?_⟩) hHeld ?_
    · intro w9 hSw
      try dsimp only at hSw
      go_simp
    try simp only [Act.put, List.setIfInBounds_toArray, List.set_cons_zero, List.set_cons_succ]
    refine wpAnyH_take (i := 3) (oi := { dst := some 7, op := Op.load 26 (.tmp 6), type := 26, pos := "first.go:61", after := #[{ on := 2, ground := Ground.data }], guard := none }) (v := (.agg #[.int .i64 r.s.fam, .int .u64 r.s.hi, .int .u64 r.s.lo, .int .i64 r.sn])) rfl (by kernel_rfl) (by kernel_rfl) (by kernel_rfl) (fun _ _ _ h => h) (Or.inl ⟨by rfl, ?_⟩) hHeld ?_
    · intro w9 hSw
      try dsimp only at hSw
      go_simp
    try simp only [Act.put, List.setIfInBounds_toArray, List.set_cons_zero, List.set_cons_succ]
    refine wpAnyH_ready (rs := [4]) (by kernel_rfl) (by simp) ?_
    refine AllReadyH.cons (o := { dst := some 8, op := Op.call { callee := Callee.value (.func 37), args := #[.tmp 7], argTypes := #[26] }, type := 4, pos := "first.go:61", after := #[{ on := 3, ground := Ground.data }], guard := none }) rfl (fun K hK => ?_) AllReadyH.nil
    go_simp
    refine Calls.mono (K1 _) ?_
    rintro e W1 ⟨rfl, bb⟩
    have r2' := kept bb r2
    have r3' := kept bb r3
    have r4' := kept bb r4
    have r5' := kept bb r5
    have k2' := kept bb k2
    have k3' := kept bb k3
    have k4' := kept bb k4
    have b1 := bel_tr ((Below.refl w.heap.size w).drew) bb
    refine hK.out _ _ ?_ (fun hHeld => ?_)
    · exact ⟨r2', r3', r4', r5', k2', k3', k4'⟩
    clear hK K
    try simp only [Act.put, List.setIfInBounds_toArray, List.set_cons_zero, List.set_cons_succ]
    refine wpAnyH_take (i := 5) (oi := { dst := some 9, op := Op.move (.tmp 8), type := 4, pos := "first.go:61", after := #[{ on := 4, ground := Ground.data }, { on := 4, ground := Ground.chain }], guard := none }) (v := (.bool true)) rfl (by kernel_rfl) (by kernel_rfl) (by kernel_rfl) (fun _ _ _ h => h) (Or.inl ⟨by rfl, ?_⟩) hHeld ?_
    · intro w9 hSw
      try dsimp only at hSw
      go_simp
    try simp only [Act.put, List.setIfInBounds_toArray, List.set_cons_zero, List.set_cons_succ]
    refine wpAnyH_take (i := 6) (oi := { dst := some 10, op := Op.move (.tmp 0), type := 54, pos := "first.go:61", after := #[{ on := 5, ground := Ground.guard }], guard := some (5, false) }) (v := undef) rfl (by kernel_rfl) (by kernel_rfl) (by kernel_rfl) (fun _ _ _ h => h) (Or.inr ⟨by rfl, rfl⟩) hHeld ?_
    try simp only [Act.put, List.setIfInBounds_toArray, List.set_cons_zero, List.set_cons_succ]
    refine wpAnyH_take (i := 7) (oi := { dst := some 11, op := Op.nilCheck (.tmp 10), type := 0, pos := "first.go:61", after := #[{ on := 6, ground := Ground.data }, { on := 5, ground := Ground.guard }], guard := some (5, false) }) (v := undef) rfl (by kernel_rfl) (by kernel_rfl) (by kernel_rfl) (fun _ _ _ h => h) (Or.inr ⟨by rfl, rfl⟩) hHeld ?_
    try simp only [Act.put, List.setIfInBounds_toArray, List.set_cons_zero, List.set_cons_succ]
    refine wpAnyH_take (i := 8) (oi := { dst := some 12, op := Op.fieldAddr 30 (.tmp 11) 2, type := 0, pos := "first.go:61", after := #[{ on := 7, ground := Ground.data }, { on := 5, ground := Ground.guard }], guard := some (5, false) }) (v := undef) rfl (by kernel_rfl) (by kernel_rfl) (by kernel_rfl) (fun _ _ _ h => h) (Or.inr ⟨by rfl, rfl⟩) hHeld ?_
    try simp only [Act.put, List.setIfInBounds_toArray, List.set_cons_zero, List.set_cons_succ]
    refine wpAnyH_take (i := 9) (oi := { dst := some 13, op := Op.load 26 (.tmp 12), type := 26, pos := "first.go:61", after := #[{ on := 8, ground := Ground.data }, { on := 5, ground := Ground.guard }], guard := some (5, false) }) (v := undef) rfl (by kernel_rfl) (by kernel_rfl) (by kernel_rfl) (fun _ _ _ h => h) (Or.inr ⟨by rfl, rfl⟩) hHeld ?_
    try simp only [Act.put, List.setIfInBounds_toArray, List.set_cons_zero, List.set_cons_succ]
    refine wpAnyH_take (i := 10) (oi := { dst := some 14, op := Op.fieldAddr 32 (.tmp 1) 2, type := 0, pos := "first.go:61", after := #[{ on := 5, ground := Ground.guard }], guard := some (5, false) }) (v := undef) rfl (by kernel_rfl) (by kernel_rfl) (by kernel_rfl) (fun _ _ _ h => h) (Or.inr ⟨by rfl, rfl⟩) hHeld ?_
    try simp only [Act.put, List.setIfInBounds_toArray, List.set_cons_zero, List.set_cons_succ]
    refine wpAnyH_take (i := 11) (oi := { dst := some 15, op := Op.load 24 (.tmp 14), type := 24, pos := "first.go:61", after := #[{ on := 10, ground := Ground.data }, { on := 5, ground := Ground.guard }], guard := some (5, false) }) (v := undef) rfl (by kernel_rfl) (by kernel_rfl) (by kernel_rfl) (fun _ _ _ h => h) (Or.inr ⟨by rfl, rfl⟩) hHeld ?_
    try simp only [Act.put, List.setIfInBounds_toArray, List.set_cons_zero, List.set_cons_succ]
    refine wpAnyH_take (i := 12) (oi := { dst := some 16, op := Op.call { callee := Callee.value (.func 43), args := #[.tmp 13, .tmp 15], argTypes := #[26, 24] }, type := 4, pos := "first.go:61", after := #[{ on := 9, ground := Ground.data }, { on := 11, ground := Ground.data }, { on := 5, ground := Ground.chain }, { on := 5, ground := Ground.guard }], guard := some (5, false) }) (v := undef) rfl (by kernel_rfl) (by kernel_rfl) (by kernel_rfl) (fun _ _ _ h => h) (Or.inr ⟨by rfl, rfl⟩) hHeld ?_
    try simp only [Act.put, List.setIfInBounds_toArray, List.set_cons_zero, List.set_cons_succ]
    refine wpAnyH_take (i := 13) (oi := { dst := some 17, op := Op.pick (.tmp 9) (.const (.bool true)) (.tmp 16), type := 4, pos := "first.go:61", after := #[{ on := 5, ground := Ground.data }, { on := 12, ground := Ground.data }], guard := none }) (v := (.bool true)) rfl (by kernel_rfl) (by kernel_rfl) (by kernel_rfl) (fun _ _ _ h => h) (Or.inl ⟨by rfl, ?_⟩) hHeld ?_
    · intro w9 hSw
      try dsimp only at hSw
      go_simp
    try simp only [Act.put, List.setIfInBounds_toArray, List.set_cons_zero, List.set_cons_succ]
    refine wpAnyH_take (i := 14) (oi := { dst := some 3, op := Op.assign (.tmp 17), type := 4, pos := "first.go:61", after := #[{ on := 13, ground := Ground.data }, { on := 12, ground := Ground.chain }, { on := 0, ground := Ground.phase }, { on := 1, ground := Ground.phase }, { on := 2, ground := Ground.phase }, { on := 3, ground := Ground.phase }, { on := 4, ground := Ground.phase }, { on := 5, ground := Ground.phase }, { on := 6, ground := Ground.phase }, { on := 7, ground := Ground.phase }, { on := 8, ground := Ground.phase }, { on := 9, ground := Ground.phase }, { on := 10, ground := Ground.phase }, { on := 11, ground := Ground.phase }, { on := 12, ground := Ground.phase }, { on := 13, ground := Ground.phase }], guard := none }) (v := (.bool true)) rfl (by kernel_rfl) (by kernel_rfl) (by kernel_rfl) (fun _ _ _ h => h) (Or.inl ⟨by rfl, ?_⟩) hHeld ?_
    · intro w9 hSw
      try dsimp only at hSw
      go_simp
    try simp only [Act.put, List.setIfInBounds_toArray, List.set_cons_zero, List.set_cons_succ]
    refine wpAnyH_done (by kernel_rfl) ?_ _
    refine NoPanic.normal ?_
    go_wp2
    go_ret
    exact ⟨by simp, b1⟩
set_option maxRecDepth 100000 in
set_option maxHeartbeats 2000000 in
theorem asks4_any (r : Rl) (k : Ky) (b off g : Nat) (w : World) (hr : CellsAt w b off r.v) (hk : CellsAt w g 0 k.v) (ko : k.d.ok) :
    Calls Try.prog 44 #[.pointer (some ⟨b, off, none⟩), .pointer (some ⟨g, 0, none⟩)] w fun e w' => e = .returned (.bool (hasB r.d r.dn k.d)) ∧ Below w.heap.size w w' := by
  have r6 : w.cell? ⟨b, off + 6, none⟩ = some (.int .i64 r.d.fam) := by have := hr.2 6 _ rfl; simpa using this
  have r7 : w.cell? ⟨b, off + 7, none⟩ = some (.int .u64 r.d.hi) := by have := hr.2 7 _ rfl; simpa using this
  have r8 : w.cell? ⟨b, off + 8, none⟩ = some (.int .u64 r.d.lo) := by have := hr.2 8 _ rfl; simpa using this
  have r9 : w.cell? ⟨b, off + 9, none⟩ = some (.int .i64 r.dn) := by have := hr.2 9 _ rfl; simpa using this
  have k5 : w.cell? ⟨g, 5, none⟩ = some (.int .i64 k.d.fam) := by have := hk.2 5 _ rfl; simpa using this
  have k6 : w.cell? ⟨g, 6, none⟩ = some (.int .u64 k.d.hi) := by have := hk.2 6 _ rfl; simpa using this
  have k7 : w.cell? ⟨g, 7, none⟩ = some (.int .u64 k.d.lo) := by have := hk.2 7 _ rfl; simpa using this
  have K1 := every_any r.d.fam r.d.hi r.d.lo r.dn
  have K2 := fun W => has_any r.d.fam r.d.hi r.d.lo r.dn k.d.fam k.d.hi k.d.lo W ko
  unfold hasB
  have e1 : zeroP r.d r.dn = zeroP ⟨r.d.fam, r.d.hi, r.d.lo⟩ r.dn := rfl
  have e2 : Ad.has r.d r.dn k.d = Ad.has ⟨r.d.fam, r.d.hi, r.d.lo⟩ r.dn ⟨k.d.fam, k.d.hi, k.d.lo⟩ := rfl
  rw [e1, e2]
  clear e1 e2
  generalize zeroP ⟨r.d.fam, r.d.hi, r.d.lo⟩ r.dn = q1 at *
  generalize Ad.has ⟨r.d.fam, r.d.hi, r.d.lo⟩ r.dn ⟨k.d.fam, k.d.hi, k.d.lo⟩ = q2 at *
  clear hr hk
  go_enter Try.func44, Try.ntmps44
  cases q1
  · go_wp2
    refine wp_region_noPanic ?_
    refine wp_region_held_drew (S := fun w'' => w''.cell? ⟨b, off + 6, none⟩ = some (.int .i64 r.d.fam) ∧ w''.cell? ⟨b, off + 7, none⟩ = some (.int .u64 r.d.hi) ∧ w''.cell? ⟨b, off + 8, none⟩ = some (.int .u64 r.d.lo) ∧ w''.cell? ⟨b, off + 9, none⟩ = some (.int .i64 r.dn) ∧ w''.cell? ⟨g, 5, none⟩ = some (.int .i64 k.d.fam) ∧ w''.cell? ⟨g, 6, none⟩ = some (.int .u64 k.d.hi) ∧ w''.cell? ⟨g, 7, none⟩ = some (.int .u64 k.d.lo)) (by kernel_rfl) (by exact ⟨r6, r7, r8, r9, k5, k6, k7⟩) (fun hHeld => ?_)
    refine wpAnyH_take (i := 0) (oi := { dst := some 4, op := Op.move (.tmp 0), type := 54, pos := "first.go:62", after := #[], guard := none }) (v := (.pointer (some ⟨b, off, none⟩))) rfl (by kernel_rfl) (by kernel_rfl) (by kernel_rfl) (fun _ _ _ h => h) (Or.inl ⟨by rfl, ?_⟩) hHeld ?_
    · intro w9 hSw
      try dsimp only at hSw
      go_simp
    try simp only [Act.put, List.setIfInBounds_toArray, List.set_cons_zero, List.set_cons_succ]
    refine wpAnyH_take (i := 1) (oi := { dst := some 5, op := Op.nilCheck (.tmp 4), type := 0, pos := "first.go:62", after := #[{ on := 0, ground := Ground.data }], guard := none }) (v := (.pointer (some ⟨b, off, none⟩))) rfl (by kernel_rfl) (by kernel_rfl) (by kernel_rfl) (fun _ _ _ h => h) (Or.inl ⟨by rfl, ?_⟩) hHeld ?_
    · intro w9 hSw
      try dsimp only at hSw
      go_simp
    try simp only [Act.put, List.setIfInBounds_toArray, List.set_cons_zero, List.set_cons_succ]
    refine wpAnyH_take (i := 2) (oi := { dst := some 6, op := Op.fieldAddr 30 (.tmp 5) 3, type := 0, pos := "first.go:62", after := #[{ on := 1, ground := Ground.data }], guard := none }) (v := (.pointer (some ⟨b, off + 6, none⟩))) rfl (by kernel_rfl) (by kernel_rfl) (by kernel_rfl) (fun _ _ _ h => h) (Or.inl ⟨by rfl, ?_⟩) hHeld ?_
    · intro w9 hSw
      try dsimp only at hSw
      go_simp
    try simp only [Act.put, List.setIfInBounds_toArray, List.set_cons_zero, List.set_cons_succ]
    refine wpAnyH_take (i := 3) (oi := { dst := some 7, op := Op.load 26 (.tmp 6), type := 26, pos := "first.go:62", after := #[{ on := 2, ground := Ground.data }], guard := none }) (v := (.agg #[.int .i64 r.d.fam, .int .u64 r.d.hi, .int .u64 r.d.lo, .int .i64 r.dn])) rfl (by kernel_rfl) (by kernel_rfl) (by kernel_rfl) (fun _ _ _ h => h) (Or.inl ⟨by rfl, ?_⟩) hHeld ?_
    · intro w9 hSw
      try dsimp only at hSw
      go_simp
    try simp only [Act.put, List.setIfInBounds_toArray, List.set_cons_zero, List.set_cons_succ]
    refine wpAnyH_ready (rs := [4]) (by kernel_rfl) (by simp) ?_
    refine AllReadyH.cons (o := { dst := some 8, op := Op.call { callee := Callee.value (.func 37), args := #[.tmp 7], argTypes := #[26] }, type := 4, pos := "first.go:62", after := #[{ on := 3, ground := Ground.data }], guard := none }) rfl (fun K hK => ?_) AllReadyH.nil
    go_simp
    refine Calls.mono (K1 _) ?_
    rintro e W1 ⟨rfl, bb⟩
    have r6' := kept bb r6
    have r7' := kept bb r7
    have r8' := kept bb r8
    have r9' := kept bb r9
    have k5' := kept bb k5
    have k6' := kept bb k6
    have k7' := kept bb k7
    have b1 := bel_tr ((Below.refl w.heap.size w).drew) bb
    refine hK.out _ _ ?_ (fun hHeld => ?_)
    · exact ⟨r6', r7', r8', r9', k5', k6', k7'⟩
    clear hK K
    try simp only [Act.put, List.setIfInBounds_toArray, List.set_cons_zero, List.set_cons_succ]
    refine wpAnyH_take (i := 5) (oi := { dst := some 9, op := Op.move (.tmp 8), type := 4, pos := "first.go:62", after := #[{ on := 4, ground := Ground.data }, { on := 4, ground := Ground.chain }], guard := none }) (v := (.bool false)) rfl (by kernel_rfl) (by kernel_rfl) (by kernel_rfl) (fun _ _ _ h => h) (Or.inl ⟨by rfl, ?_⟩) hHeld ?_
    · intro w9 hSw
      try dsimp only at hSw
      go_simp
    try simp only [Act.put, List.setIfInBounds_toArray, List.set_cons_zero, List.set_cons_succ]
    refine wpAnyH_take (i := 6) (oi := { dst := some 10, op := Op.move (.tmp 0), type := 54, pos := "first.go:62", after := #[{ on := 5, ground := Ground.guard }], guard := some (5, false) }) (v := (.pointer (some ⟨b, off, none⟩))) rfl (by kernel_rfl) (by kernel_rfl) (by kernel_rfl) (fun _ _ _ h => h) (Or.inl ⟨by rfl, ?_⟩) hHeld ?_
    · intro w9 hSw
      try dsimp only at hSw
      go_simp
    try simp only [Act.put, List.setIfInBounds_toArray, List.set_cons_zero, List.set_cons_succ]
    refine wpAnyH_take (i := 7) (oi := { dst := some 11, op := Op.nilCheck (.tmp 10), type := 0, pos := "first.go:62", after := #[{ on := 6, ground := Ground.data }, { on := 5, ground := Ground.guard }], guard := some (5, false) }) (v := (.pointer (some ⟨b, off, none⟩))) rfl (by kernel_rfl) (by kernel_rfl) (by kernel_rfl) (fun _ _ _ h => h) (Or.inl ⟨by rfl, ?_⟩) hHeld ?_
    · intro w9 hSw
      try dsimp only at hSw
      go_simp
    try simp only [Act.put, List.setIfInBounds_toArray, List.set_cons_zero, List.set_cons_succ]
    refine wpAnyH_take (i := 8) (oi := { dst := some 12, op := Op.fieldAddr 30 (.tmp 11) 3, type := 0, pos := "first.go:62", after := #[{ on := 7, ground := Ground.data }, { on := 5, ground := Ground.guard }], guard := some (5, false) }) (v := (.pointer (some ⟨b, off + 6, none⟩))) rfl (by kernel_rfl) (by kernel_rfl) (by kernel_rfl) (fun _ _ _ h => h) (Or.inl ⟨by rfl, ?_⟩) hHeld ?_
    · intro w9 hSw
      try dsimp only at hSw
      go_simp
    try simp only [Act.put, List.setIfInBounds_toArray, List.set_cons_zero, List.set_cons_succ]
    refine wpAnyH_take (i := 9) (oi := { dst := some 13, op := Op.load 26 (.tmp 12), type := 26, pos := "first.go:62", after := #[{ on := 8, ground := Ground.data }, { on := 5, ground := Ground.guard }], guard := some (5, false) }) (v := (.agg #[.int .i64 r.d.fam, .int .u64 r.d.hi, .int .u64 r.d.lo, .int .i64 r.dn])) rfl (by kernel_rfl) (by kernel_rfl) (by kernel_rfl) (fun _ _ _ h => h) (Or.inl ⟨by rfl, ?_⟩) hHeld ?_
    · intro w9 hSw
      try dsimp only at hSw
      go_simp
    try simp only [Act.put, List.setIfInBounds_toArray, List.set_cons_zero, List.set_cons_succ]
    refine wpAnyH_take (i := 10) (oi := { dst := some 14, op := Op.fieldAddr 32 (.tmp 1) 3, type := 0, pos := "first.go:62", after := #[{ on := 5, ground := Ground.guard }], guard := some (5, false) }) (v := (.pointer (some ⟨g, 5, none⟩))) rfl (by kernel_rfl) (by kernel_rfl) (by kernel_rfl) (fun _ _ _ h => h) (Or.inl ⟨by rfl, ?_⟩) hHeld ?_
    · intro w9 hSw
      try dsimp only at hSw
      go_simp
    try simp only [Act.put, List.setIfInBounds_toArray, List.set_cons_zero, List.set_cons_succ]
    refine wpAnyH_take (i := 11) (oi := { dst := some 15, op := Op.load 24 (.tmp 14), type := 24, pos := "first.go:62", after := #[{ on := 10, ground := Ground.data }, { on := 5, ground := Ground.guard }], guard := some (5, false) }) (v := (.agg #[.int .i64 k.d.fam, .int .u64 k.d.hi, .int .u64 k.d.lo])) rfl (by kernel_rfl) (by kernel_rfl) (by kernel_rfl) (fun _ _ _ h => h) (Or.inl ⟨by rfl, ?_⟩) hHeld ?_
    · intro w9 hSw
      try dsimp only at hSw
      go_simp
    try simp only [Act.put, List.setIfInBounds_toArray, List.set_cons_zero, List.set_cons_succ]
    refine wpAnyH_ready (rs := [12]) (by kernel_rfl) (by simp) ?_
    refine AllReadyH.cons (o := { dst := some 16, op := Op.call { callee := Callee.value (.func 43), args := #[.tmp 13, .tmp 15], argTypes := #[26, 24] }, type := 4, pos := "first.go:62", after := #[{ on := 9, ground := Ground.data }, { on := 11, ground := Ground.data }, { on := 5, ground := Ground.chain }, { on := 5, ground := Ground.guard }], guard := some (5, false) }) rfl (fun K hK => ?_) AllReadyH.nil
    go_simp
    refine Calls.mono (K2 _) ?_
    rintro e W2 ⟨rfl, bb2⟩
    refine hK.out _ _ ?_ (fun hHeld => ?_)
    · exact ⟨kept bb2 r6', kept bb2 r7', kept bb2 r8', kept bb2 r9', kept bb2 k5', kept bb2 k6', kept bb2 k7'⟩
    clear hK K
    try simp only [Act.put, List.setIfInBounds_toArray, List.set_cons_zero, List.set_cons_succ]
    refine wpAnyH_take (i := 13) (oi := { dst := some 17, op := Op.pick (.tmp 9) (.const (.bool true)) (.tmp 16), type := 4, pos := "first.go:62", after := #[{ on := 5, ground := Ground.data }, { on := 12, ground := Ground.data }], guard := none }) (v := (.bool q2)) rfl (by kernel_rfl) (by kernel_rfl) (by kernel_rfl) (fun _ _ _ h => h) (Or.inl ⟨by rfl, ?_⟩) hHeld ?_
    · intro w9 hSw
      try dsimp only at hSw
      go_simp
    try simp only [Act.put, List.setIfInBounds_toArray, List.set_cons_zero, List.set_cons_succ]
    refine wpAnyH_take (i := 14) (oi := { dst := some 3, op := Op.assign (.tmp 17), type := 4, pos := "first.go:62", after := #[{ on := 13, ground := Ground.data }, { on := 12, ground := Ground.chain }, { on := 0, ground := Ground.phase }, { on := 1, ground := Ground.phase }, { on := 2, ground := Ground.phase }, { on := 3, ground := Ground.phase }, { on := 4, ground := Ground.phase }, { on := 5, ground := Ground.phase }, { on := 6, ground := Ground.phase }, { on := 7, ground := Ground.phase }, { on := 8, ground := Ground.phase }, { on := 9, ground := Ground.phase }, { on := 10, ground := Ground.phase }, { on := 11, ground := Ground.phase }, { on := 12, ground := Ground.phase }, { on := 13, ground := Ground.phase }], guard := none }) (v := (.bool q2)) rfl (by kernel_rfl) (by kernel_rfl) (by kernel_rfl) (fun _ _ _ h => h) (Or.inl ⟨by rfl, ?_⟩) hHeld ?_
    · intro w9 hSw
      try dsimp only at hSw
      go_simp
    try simp only [Act.put, List.setIfInBounds_toArray, List.set_cons_zero, List.set_cons_succ]
    refine wpAnyH_done (by kernel_rfl) ?_ _
    refine NoPanic.normal ?_
    go_wp2
    go_ret
    exact ⟨by simp, bel_tr b1 bb2⟩
  · go_wp2
    refine wp_region_noPanic ?_
    refine wp_region_held_drew (S := fun w'' => w''.cell? ⟨b, off + 6, none⟩ = some (.int .i64 r.d.fam) ∧ w''.cell? ⟨b, off + 7, none⟩ = some (.int .u64 r.d.hi) ∧ w''.cell? ⟨b, off + 8, none⟩ = some (.int .u64 r.d.lo) ∧ w''.cell? ⟨b, off + 9, none⟩ = some (.int .i64 r.dn) ∧ w''.cell? ⟨g, 5, none⟩ = some (.int .i64 k.d.fam) ∧ w''.cell? ⟨g, 6, none⟩ = some (.int .u64 k.d.hi) ∧ w''.cell? ⟨g, 7, none⟩ = some (.int .u64 k.d.lo)) (by kernel_rfl) (by exact ⟨r6, r7, r8, r9, k5, k6, k7⟩) (fun hHeld => ?_)
    refine wpAnyH_take (i := 0) (oi := { dst := some 4, op := Op.move (.tmp 0), type := 54, pos := "first.go:62", after := #[], guard := none }) (v := (.pointer (some ⟨b, off, none⟩))) rfl (by kernel_rfl) (by kernel_rfl) (by kernel_rfl) (fun _ _ _ h => h) (Or.inl ⟨by rfl, ?_⟩) hHeld ?_
    · intro w9 hSw
      try dsimp only at hSw
      go_simp
    try simp only [Act.put, List.setIfInBounds_toArray, List.set_cons_zero, List.set_cons_succ]
    refine wpAnyH_take (i := 1) (oi := { dst := some 5, op := Op.nilCheck (.tmp 4), type := 0, pos := "first.go:62", after := #[{ on := 0, ground := Ground.data }], guard := none }) (v := (.pointer (some ⟨b, off, none⟩))) rfl (by kernel_rfl) (by kernel_rfl) (by kernel_rfl) (fun _ _ _ h => h) (Or.inl ⟨by rfl, ?_⟩) hHeld ?_
    · intro w9 hSw
      try dsimp only at hSw
      go_simp
    try simp only [Act.put, List.setIfInBounds_toArray, List.set_cons_zero, List.set_cons_succ]
    refine wpAnyH_take (i := 2) (oi := { dst := some 6, op := Op.fieldAddr 30 (.tmp 5) 3, type := 0, pos := "first.go:62", after := #[{ on := 1, ground := Ground.data }], guard := none }) (v := (.pointer (some ⟨b, off + 6, none⟩))) rfl (by kernel_rfl) (by kernel_rfl) (by kernel_rfl) (fun _ _ _ h => h) (Or.inl ⟨by rfl, ?_⟩) hHeld ?_
    · intro w9 hSw
      try dsimp only at hSw
      go_simp
    try simp only [Act.put, List.setIfInBounds_toArray, List.set_cons_zero, List.set_cons_succ]
    refine wpAnyH_take (i := 3) (oi := { dst := some 7, op := Op.load 26 (.tmp 6), type := 26, pos := "first.go:62", after := #[{ on := 2, ground := Ground.data }], guard := none }) (v := (.agg #[.int .i64 r.d.fam, .int .u64 r.d.hi, .int .u64 r.d.lo, .int .i64 r.dn])) rfl (by kernel_rfl) (by kernel_rfl) (by kernel_rfl) (fun _ _ _ h => h) (Or.inl ⟨by rfl, ?_⟩) hHeld ?_
    · intro w9 hSw
      try dsimp only at hSw
      go_simp
    try simp only [Act.put, List.setIfInBounds_toArray, List.set_cons_zero, List.set_cons_succ]
    refine wpAnyH_ready (rs := [4]) (by kernel_rfl) (by simp) ?_
    refine AllReadyH.cons (o := { dst := some 8, op := Op.call { callee := Callee.value (.func 37), args := #[.tmp 7], argTypes := #[26] }, type := 4, pos := "first.go:62", after := #[{ on := 3, ground := Ground.data }], guard := none }) rfl (fun K hK => ?_) AllReadyH.nil
    go_simp
    refine Calls.mono (K1 _) ?_
    rintro e W1 ⟨rfl, bb⟩
    have r6' := kept bb r6
    have r7' := kept bb r7
    have r8' := kept bb r8
    have r9' := kept bb r9
    have k5' := kept bb k5
    have k6' := kept bb k6
    have k7' := kept bb k7
    have b1 := bel_tr ((Below.refl w.heap.size w).drew) bb
    refine hK.out _ _ ?_ (fun hHeld => ?_)
    · exact ⟨r6', r7', r8', r9', k5', k6', k7'⟩
    clear hK K
    try simp only [Act.put, List.setIfInBounds_toArray, List.set_cons_zero, List.set_cons_succ]
    refine wpAnyH_take (i := 5) (oi := { dst := some 9, op := Op.move (.tmp 8), type := 4, pos := "first.go:62", after := #[{ on := 4, ground := Ground.data }, { on := 4, ground := Ground.chain }], guard := none }) (v := (.bool true)) rfl (by kernel_rfl) (by kernel_rfl) (by kernel_rfl) (fun _ _ _ h => h) (Or.inl ⟨by rfl, ?_⟩) hHeld ?_
    · intro w9 hSw
      try dsimp only at hSw
      go_simp
    try simp only [Act.put, List.setIfInBounds_toArray, List.set_cons_zero, List.set_cons_succ]
    refine wpAnyH_take (i := 6) (oi := { dst := some 10, op := Op.move (.tmp 0), type := 54, pos := "first.go:62", after := #[{ on := 5, ground := Ground.guard }], guard := some (5, false) }) (v := undef) rfl (by kernel_rfl) (by kernel_rfl) (by kernel_rfl) (fun _ _ _ h => h) (Or.inr ⟨by rfl, rfl⟩) hHeld ?_
    try simp only [Act.put, List.setIfInBounds_toArray, List.set_cons_zero, List.set_cons_succ]
    refine wpAnyH_take (i := 7) (oi := { dst := some 11, op := Op.nilCheck (.tmp 10), type := 0, pos := "first.go:62", after := #[{ on := 6, ground := Ground.data }, { on := 5, ground := Ground.guard }], guard := some (5, false) }) (v := undef) rfl (by kernel_rfl) (by kernel_rfl) (by kernel_rfl) (fun _ _ _ h => h) (Or.inr ⟨by rfl, rfl⟩) hHeld ?_
    try simp only [Act.put, List.setIfInBounds_toArray, List.set_cons_zero, List.set_cons_succ]
    refine wpAnyH_take (i := 8) (oi := { dst := some 12, op := Op.fieldAddr 30 (.tmp 11) 3, type := 0, pos := "first.go:62", after := #[{ on := 7, ground := Ground.data }, { on := 5, ground := Ground.guard }], guard := some (5, false) }) (v := undef) rfl (by kernel_rfl) (by kernel_rfl) (by kernel_rfl) (fun _ _ _ h => h) (Or.inr ⟨by rfl, rfl⟩) hHeld ?_
    try simp only [Act.put, List.setIfInBounds_toArray, List.set_cons_zero, List.set_cons_succ]
    refine wpAnyH_take (i := 9) (oi := { dst := some 13, op := Op.load 26 (.tmp 12), type := 26, pos := "first.go:62", after := #[{ on := 8, ground := Ground.data }, { on := 5, ground := Ground.guard }], guard := some (5, false) }) (v := undef) rfl (by kernel_rfl) (by kernel_rfl) (by kernel_rfl) (fun _ _ _ h => h) (Or.inr ⟨by rfl, rfl⟩) hHeld ?_
    try simp only [Act.put, List.setIfInBounds_toArray, List.set_cons_zero, List.set_cons_succ]
    refine wpAnyH_take (i := 10) (oi := { dst := some 14, op := Op.fieldAddr 32 (.tmp 1) 3, type := 0, pos := "first.go:62", after := #[{ on := 5, ground := Ground.guard }], guard := some (5, false) }) (v := undef) rfl (by kernel_rfl) (by kernel_rfl) (by kernel_rfl) (fun _ _ _ h => h) (Or.inr ⟨by rfl, rfl⟩) hHeld ?_
    try simp only [Act.put, List.setIfInBounds_toArray, List.set_cons_zero, List.set_cons_succ]
    refine wpAnyH_take (i := 11) (oi := { dst := some 15, op := Op.load 24 (.tmp 14), type := 24, pos := "first.go:62", after := #[{ on := 10, ground := Ground.data }, { on := 5, ground := Ground.guard }], guard := some (5, false) }) (v := undef) rfl (by kernel_rfl) (by kernel_rfl) (by kernel_rfl) (fun _ _ _ h => h) (Or.inr ⟨by rfl, rfl⟩) hHeld ?_
    try simp only [Act.put, List.setIfInBounds_toArray, List.set_cons_zero, List.set_cons_succ]
    refine wpAnyH_take (i := 12) (oi := { dst := some 16, op := Op.call { callee := Callee.value (.func 43), args := #[.tmp 13, .tmp 15], argTypes := #[26, 24] }, type := 4, pos := "first.go:62", after := #[{ on := 9, ground := Ground.data }, { on := 11, ground := Ground.data }, { on := 5, ground := Ground.chain }, { on := 5, ground := Ground.guard }], guard := some (5, false) }) (v := undef) rfl (by kernel_rfl) (by kernel_rfl) (by kernel_rfl) (fun _ _ _ h => h) (Or.inr ⟨by rfl, rfl⟩) hHeld ?_
    try simp only [Act.put, List.setIfInBounds_toArray, List.set_cons_zero, List.set_cons_succ]
    refine wpAnyH_take (i := 13) (oi := { dst := some 17, op := Op.pick (.tmp 9) (.const (.bool true)) (.tmp 16), type := 4, pos := "first.go:62", after := #[{ on := 5, ground := Ground.data }, { on := 12, ground := Ground.data }], guard := none }) (v := (.bool true)) rfl (by kernel_rfl) (by kernel_rfl) (by kernel_rfl) (fun _ _ _ h => h) (Or.inl ⟨by rfl, ?_⟩) hHeld ?_
    · intro w9 hSw
      try dsimp only at hSw
      go_simp
    try simp only [Act.put, List.setIfInBounds_toArray, List.set_cons_zero, List.set_cons_succ]
    refine wpAnyH_take (i := 14) (oi := { dst := some 3, op := Op.assign (.tmp 17), type := 4, pos := "first.go:62", after := #[{ on := 13, ground := Ground.data }, { on := 12, ground := Ground.chain }, { on := 0, ground := Ground.phase }, { on := 1, ground := Ground.phase }, { on := 2, ground := Ground.phase }, { on := 3, ground := Ground.phase }, { on := 4, ground := Ground.phase }, { on := 5, ground := Ground.phase }, { on := 6, ground := Ground.phase }, { on := 7, ground := Ground.phase }, { on := 8, ground := Ground.phase }, { on := 9, ground := Ground.phase }, { on := 10, ground := Ground.phase }, { on := 11, ground := Ground.phase }, { on := 12, ground := Ground.phase }, { on := 13, ground := Ground.phase }], guard := none }) (v := (.bool true)) rfl (by kernel_rfl) (by kernel_rfl) (by kernel_rfl) (fun _ _ _ h => h) (Or.inl ⟨by rfl, ?_⟩) hHeld ?_
    · intro w9 hSw
      try dsimp only at hSw
      go_simp
    try simp only [Act.put, List.setIfInBounds_toArray, List.set_cons_zero, List.set_cons_succ]
    refine wpAnyH_done (by kernel_rfl) ?_ _
    refine NoPanic.normal ?_
    go_wp2
    go_ret
    exact ⟨by simp, b1⟩
end Go.Proofs.Ytmlddgmkbbaccaa
