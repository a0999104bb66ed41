/- For every input the law SegPseudos returns true and leaves its arguments as they were. -/
import Derived.Test.YtgdpcomcndidcaaSgqH
import Derived.Test.YtgdpcomcndidcaaSgqG
import Derived.Test.YtgdpcomcndidcaaSgqF
import Derived.Test.YtgdpcomcndidcaaRows
import Derived.Test.YtgdpcomcndidcaaArgs
import Derived.WalkKit
import Derived.ProofKit
import Derived.OpenShut
import Derived.ShutString
import Derived.ChangeOld
import Derived.Below
import Derived.SizedLaws
namespace Go.Proofs.Ytgdpcomcndidcaa
open Go.RowKit
set_option linter.unusedVariables false
set_option linter.unusedSimpArgs false

set_option maxRecDepth 100000 in
set_option maxHeartbeats 4000000 in
theorem segPseudos_walk (t : Tp) (sz k : Int) (w : World) (tk : t.ok) (w1 : (Lit.int .i64 sz).wf = true) (w2 : (Lit.int .i64 k).wf = true) :
    Calls Try.prog 3 #[.agg #[.int .i64 t.fam, .int .i64 t.pr, .int .i64 t.s.fam, .int .u64 t.s.hi, .int .u64 t.s.lo, .int .i64 t.d.fam, .int .u64 t.d.hi, .int .u64 t.d.lo, .int .i64 t.sp, .int .i64 t.dp], .int .i64 sz, .int .i64 k] w fun e w' => e = .returned (.bool true) ∧ Below w.heap.size w w' := by
  obtain ⟨W1, hW1⟩ : ∃ W1, w.alloc (.cells #[.int .i64 t.fam, .int .i64 t.pr, .int .i64 t.s.fam, .int .u64 t.s.hi, .int .u64 t.s.lo, .int .i64 t.d.fam, .int .u64 t.d.hi, .int .u64 t.d.lo, .int .i64 t.sp, .int .i64 t.dp] 26) = W1 := ⟨_, rfl⟩
  have b1 : Below w.heap.size w W1 := by rw [← hW1]; exact (Below.refl _ _).alloc (Nat.le_refl _) _
  have B1 : Blk W1 w.heap.size 26 #[.int .i64 t.fam, .int .i64 t.pr, .int .i64 t.s.fam, .int .u64 t.s.hi, .int .u64 t.s.lo, .int .i64 t.d.fam, .int .u64 t.d.hi, .int .u64 t.d.lo, .int .i64 t.sp, .int .i64 t.dp] := by rw [← hW1]; exact blk_new _ _ _
  have KA : Hid _ := segAlive_any
  obtain ⟨L, hL⟩ : ∃ L, pseudo t.s t.d t.pr sz = L := ⟨_, rfl⟩
  obtain ⟨IB, hIB⟩ : ∃ b, isErr t.fam k = b := ⟨_, rfl⟩
  have K1 : Hid (∀ W, Calls Try.prog 11 #[.agg #[.int .i64 t.s.fam, .int .u64 t.s.hi, .int .u64 t.s.lo], .agg #[.int .i64 t.d.fam, .int .u64 t.d.hi, .int .u64 t.d.lo], .int .i64 t.pr, .int .i64 sz] W fun e w' => ∃ a c, e = .returned (.slice a L.length c) ∧ Fresh W w' a c L) := fun W => by
    have := pseudo_any t.s.fam t.s.hi t.s.lo t.d.fam t.d.hi t.d.lo t.pr sz W tk.s tk.d
    rw [show pseudo ⟨t.s.fam, t.s.hi, t.s.lo⟩ ⟨t.d.fam, t.d.hi, t.d.lo⟩ t.pr sz = L from hL] at this
    exact this
  have K2 : Hid (∀ W, Calls Try.prog 12 #[.agg #[.int .i64 t.s.fam, .int .u64 t.s.hi, .int .u64 t.s.lo], .agg #[.int .i64 t.d.fam, .int .u64 t.d.hi, .int .u64 t.d.lo], .int .i64 t.pr, .int .i64 sz] W fun e w' => ∃ a c, e = .returned (.slice a L.length c) ∧ Fresh W w' a c L) := fun W => by
    have := rpseudo_any t.s.fam t.s.hi t.s.lo t.d.fam t.d.hi t.d.lo t.pr sz W tk.s tk.d
    rw [show pseudo ⟨t.s.fam, t.s.hi, t.s.lo⟩ ⟨t.d.fam, t.d.hi, t.d.lo⟩ t.pr sz = L from hL] at this
    exact this
  have K3 : Hid (∀ W, Calls Try.prog 13 #[.int .i64 t.fam, .int .i64 k] W fun e w' => e = .returned (.bool IB) ∧ w' = W) := fun W => by
    have := isError_any t.fam k W
    rw [hIB] at this
    exact this
  have K4 : Hid (∀ W, Calls Try.prog 14 #[.int .i64 t.fam, .int .i64 k] W fun e w' => e = .returned (.bool IB) ∧ w' = W) := fun W => by
    have := rIsError_any t.fam k W
    rw [hIB] at this
    exact this
  clear hL hIB
  go_enter Try.func3, Try.ntmps3
  go_wp2_with fail
  refine wp_region_noPanic ?_
  refine wp_region_held_drew (S := fun w' => Blk w' w.heap.size 26 #[.int .i64 t.fam, .int .i64 t.pr, .int .i64 t.s.fam, .int .u64 t.s.hi, .int .u64 t.s.lo, .int .i64 t.d.fam, .int .u64 t.d.hi, .int .u64 t.d.lo, .int .i64 t.sp, .int .i64 t.dp] ∧ w'.cell? ⟨w.heap.size, 0, none⟩ = some (.int .i64 t.fam) ∧ w'.cell? ⟨w.heap.size, 1, none⟩ = some (.int .i64 t.pr)) (by kernel_rfl) (by exact ⟨B1.drew, B1.drew.cell 0 _ rfl, B1.drew.cell 1 _ rfl⟩) (fun hHeld => ?_)
  refine wpAnyH_take (i := 0) (oi := { dst := some 7, op := Op.fieldAddr 26 (.tmp 3) 2, type := 0, pos := "law.go:31", after := #[], guard := none }) (v := (.pointer (some ⟨w.heap.size, 2, none⟩))) rfl (by kernel_rfl) (by kernel_rfl) (by kernel_rfl) (fun _ _ _ h => h) (Or.inl ⟨by rfl, ?_⟩) hHeld ?_
  · intro w9 hSw
    try dsimp only at hSw
    go_simp
  try simp only [Act.put, List.setIfInBounds_toArray, List.set_cons_zero, List.set_cons_succ]
  refine wpAnyH_take (i := 1) (oi := { dst := some 8, op := Op.load 24 (.tmp 7), type := 24, pos := "law.go:31", after := #[{ on := 0, ground := Ground.data }], guard := none }) (v := (.agg #[.int .i64 t.s.fam, .int .u64 t.s.hi, .int .u64 t.s.lo])) rfl (by kernel_rfl) (by kernel_rfl) (by kernel_rfl) (fun _ _ _ h => h) (yieldsIf_sub rfl _ _ rfl w.heap.size 2 26 (by rfl) _ _ (fun _ hSw => hSw.1) (by rfl) Try.underlying24 (by kernel_rfl)) hHeld ?_
  try simp only [Act.put, List.setIfInBounds_toArray, List.set_cons_zero, List.set_cons_succ]
  refine wpAnyH_take (i := 2) (oi := { dst := some 9, op := Op.fieldAddr 26 (.tmp 3) 3, type := 0, pos := "law.go:31", after := #[], guard := none }) (v := (.pointer (some ⟨w.heap.size, 5, none⟩))) rfl (by kernel_rfl) (by kernel_rfl) (by kernel_rfl) (fun _ _ _ h => h) (Or.inl ⟨by rfl, ?_⟩) hHeld ?_
  · intro w9 hSw
    try dsimp only at hSw
    go_simp
  try simp only [Act.put, List.setIfInBounds_toArray, List.set_cons_zero, List.set_cons_succ]
  refine wpAnyH_take (i := 3) (oi := { dst := some 10, op := Op.load 24 (.tmp 9), type := 24, pos := "law.go:31", after := #[{ on := 2, ground := Ground.data }], guard := none }) (v := (.agg #[.int .i64 t.d.fam, .int .u64 t.d.hi, .int .u64 t.d.lo])) rfl (by kernel_rfl) (by kernel_rfl) (by kernel_rfl) (fun _ _ _ h => h) (yieldsIf_sub rfl _ _ rfl w.heap.size 5 26 (by rfl) _ _ (fun _ hSw => hSw.1) (by rfl) Try.underlying24 (by kernel_rfl)) hHeld ?_
  try simp only [Act.put, List.setIfInBounds_toArray, List.set_cons_zero, List.set_cons_succ]
  refine wpAnyH_take (i := 4) (oi := { dst := some 11, op := Op.fieldAddr 26 (.tmp 3) 1, type := 0, pos := "law.go:31", after := #[], guard := none }) (v := (.pointer (some ⟨w.heap.size, 1, none⟩))) rfl (by kernel_rfl) (by kernel_rfl) (by kernel_rfl) (fun _ _ _ h => h) (Or.inl ⟨by rfl, ?_⟩) hHeld ?_
  · intro w9 hSw
    try dsimp only at hSw
    go_simp
  try simp only [Act.put, List.setIfInBounds_toArray, List.set_cons_zero, List.set_cons_succ]
  refine wpAnyH_take (i := 5) (oi := { dst := some 12, op := Op.load 3 (.tmp 11), type := 3, pos := "law.go:31", after := #[{ on := 4, ground := Ground.data }], guard := none }) (v := (.int .i64 t.pr)) rfl (by kernel_rfl) (by kernel_rfl) (by kernel_rfl) (fun _ _ _ h => h) (Or.inl ⟨by rfl, ?_⟩) hHeld ?_
  · intro w9 hSw
    try dsimp only at hSw
    go_simp
  try simp only [Act.put, List.setIfInBounds_toArray, List.set_cons_zero, List.set_cons_succ]
  refine wpAnyH_take (i := 6) (oi := { dst := some 13, op := Op.move (.tmp 1), type := 3, pos := "law.go:31", after := #[], guard := none }) (v := (.int .i64 sz)) rfl (by kernel_rfl) (by kernel_rfl) (by kernel_rfl) (fun _ _ _ h => h) (Or.inl ⟨by rfl, ?_⟩) hHeld ?_
  · intro w9 hSw
    try dsimp only at hSw
    go_simp
  try simp only [Act.put, List.setIfInBounds_toArray, List.set_cons_zero, List.set_cons_succ]
  refine wpAnyH_take (i := 8) (oi := { dst := some 15, op := Op.fieldAddr 26 (.tmp 3) 2, type := 0, pos := "law.go:31", after := #[], guard := none }) (v := (.pointer (some ⟨w.heap.size, 2, none⟩))) rfl (by kernel_rfl) (by kernel_rfl) (by kernel_rfl) (fun _ _ _ h => h) (Or.inl ⟨by rfl, ?_⟩) hHeld ?_
  · intro w9 hSw
    try dsimp only at hSw
    go_simp
  try simp only [Act.put, List.setIfInBounds_toArray, List.set_cons_zero, List.set_cons_succ]
  refine wpAnyH_take (i := 9) (oi := { dst := some 16, op := Op.load 24 (.tmp 15), type := 24, pos := "law.go:31", after := #[{ on := 8, ground := Ground.data }], guard := none }) (v := (.agg #[.int .i64 t.s.fam, .int .u64 t.s.hi, .int .u64 t.s.lo])) rfl (by kernel_rfl) (by kernel_rfl) (by kernel_rfl) (fun _ _ _ h => h) (yieldsIf_sub rfl _ _ rfl w.heap.size 2 26 (by rfl) _ _ (fun _ hSw => hSw.1) (by rfl) Try.underlying24 (by kernel_rfl)) hHeld ?_
  try simp only [Act.put, List.setIfInBounds_toArray, List.set_cons_zero, List.set_cons_succ]
  refine wpAnyH_take (i := 10) (oi := { dst := some 17, op := Op.fieldAddr 26 (.tmp 3) 3, type := 0, pos := "law.go:31", after := #[], guard := none }) (v := (.pointer (some ⟨w.heap.size, 5, none⟩))) rfl (by kernel_rfl) (by kernel_rfl) (by kernel_rfl) (fun _ _ _ h => h) (Or.inl ⟨by rfl, ?_⟩) hHeld ?_
  · intro w9 hSw
    try dsimp only at hSw
    go_simp
  try simp only [Act.put, List.setIfInBounds_toArray, List.set_cons_zero, List.set_cons_succ]
  refine wpAnyH_take (i := 11) (oi := { dst := some 18, op := Op.load 24 (.tmp 17), type := 24, pos := "law.go:31", after := #[{ on := 10, ground := Ground.data }], guard := none }) (v := (.agg #[.int .i64 t.d.fam, .int .u64 t.d.hi, .int .u64 t.d.lo])) rfl (by kernel_rfl) (by kernel_rfl) (by kernel_rfl) (fun _ _ _ h => h) (yieldsIf_sub rfl _ _ rfl w.heap.size 5 26 (by rfl) _ _ (fun _ hSw => hSw.1) (by rfl) Try.underlying24 (by kernel_rfl)) hHeld ?_
  try simp only [Act.put, List.setIfInBounds_toArray, List.set_cons_zero, List.set_cons_succ]
  refine wpAnyH_take (i := 12) (oi := { dst := some 19, op := Op.fieldAddr 26 (.tmp 3) 1, type := 0, pos := "law.go:31", after := #[], guard := none }) (v := (.pointer (some ⟨w.heap.size, 1, none⟩))) rfl (by kernel_rfl) (by kernel_rfl) (by kernel_rfl) (fun _ _ _ h => h) (Or.inl ⟨by rfl, ?_⟩) hHeld ?_
  · intro w9 hSw
    try dsimp only at hSw
    go_simp
  try simp only [Act.put, List.setIfInBounds_toArray, List.set_cons_zero, List.set_cons_succ]
  refine wpAnyH_take (i := 13) (oi := { dst := some 20, op := Op.load 3 (.tmp 19), type := 3, pos := "law.go:31", after := #[{ on := 12, ground := Ground.data }], guard := none }) (v := (.int .i64 t.pr)) rfl (by kernel_rfl) (by kernel_rfl) (by kernel_rfl) (fun _ _ _ h => h) (Or.inl ⟨by rfl, ?_⟩) hHeld ?_
  · intro w9 hSw
    try dsimp only at hSw
    go_simp
  try simp only [Act.put, List.setIfInBounds_toArray, List.set_cons_zero, List.set_cons_succ]
  refine wpAnyH_take (i := 14) (oi := { dst := some 21, op := Op.move (.tmp 1), type := 3, pos := "law.go:31", after := #[], guard := none }) (v := (.int .i64 sz)) rfl (by kernel_rfl) (by kernel_rfl) (by kernel_rfl) (fun _ _ _ h => h) (Or.inl ⟨by rfl, ?_⟩) hHeld ?_
  · intro w9 hSw
    try dsimp only at hSw
    go_simp
  try simp only [Act.put, List.setIfInBounds_toArray, List.set_cons_zero, List.set_cons_succ]
  refine wpAnyH_ready (rs := [7]) (by kernel_rfl) (by simp) ?_
  refine AllReadyH.cons (o := { dst := some 14, op := Op.call { callee := Callee.value (.func 11), args := #[.tmp 8, .tmp 10, .tmp 12, .tmp 13], argTypes := #[24, 24, 3, 3] }, type := 28, pos := "law.go:31", after := #[{ on := 1, ground := Ground.data }, { on := 3, ground := Ground.data }, { on := 5, ground := Ground.data }, { on := 6, ground := Ground.data }], guard := none }) rfl (fun K hK => ?_) AllReadyH.nil
  go_simp
  refine Calls.mono (K1.out _) ?_
  rintro e W2 ⟨a2, c2, rfl, f2⟩
  have B2 := B1.drew.kept f2.below
  have b2 : Below w.heap.size w W2 := b1.drew.trans (f2.below.mono b1.drew.size)
  refine hK.out _ _ ?_ (fun hHeld => ?_)
  · exact ⟨B2, B2.cell 0 _ rfl, B2.cell 1 _ rfl⟩
  clear hK K
  try simp only [Act.put, List.setIfInBounds_toArray, List.set_cons_zero, List.set_cons_succ]
  refine wpAnyH_ready (rs := [15]) (by kernel_rfl) (by simp) ?_
  refine AllReadyH.cons (o := { dst := some 22, op := Op.call { callee := Callee.value (.func 12), args := #[.tmp 16, .tmp 18, .tmp 20, .tmp 21], argTypes := #[24, 24, 3, 3] }, type := 28, pos := "law.go:31", after := #[{ on := 9, ground := Ground.data }, { on := 11, ground := Ground.data }, { on := 13, ground := Ground.data }, { on := 14, ground := Ground.data }, { on := 7, ground := Ground.chain }], guard := none }) rfl (fun K hK => ?_) AllReadyH.nil
  go_simp
  refine Calls.mono (K2.out _) ?_
  rintro e W3 ⟨a3, c3, rfl, f3⟩
  have B3 := B2.kept f3.below
  have b3 : Below w.heap.size w W3 := b2.trans (f3.below.mono b2.size)
  refine hK.out _ _ ?_ (fun hHeld => ?_)
  · exact ⟨B3, B3.cell 0 _ rfl, B3.cell 1 _ rfl⟩
  clear hK K
  try simp only [Act.put, List.setIfInBounds_toArray, List.set_cons_zero, List.set_cons_succ]
  refine wpAnyH_ready (rs := [16]) (by kernel_rfl) (by simp) ?_
  refine AllReadyH.cons (o := { dst := some 23, op := Op.call { callee := Callee.value (.func 10), args := #[.tmp 14, .tmp 22], argTypes := #[28, 28] }, type := 4, pos := "law.go:31", after := #[{ on := 7, ground := Ground.data }, { on := 15, ground := Ground.data }, { on := 15, ground := Ground.chain }], guard := none }) rfl (fun K hK => ?_) AllReadyH.nil
  go_simp
  refine Calls.mono (same_any a2 a3 c2 c3 L W3 (f2.row.below f3.below) f3.row) ?_
  rintro e W4 ⟨rfl, hW4⟩
  rw [hW4]
  clear hW4 W4
  refine hK.out _ _ ?_ (fun hHeld => ?_)
  · exact ⟨B3, B3.cell 0 _ rfl, B3.cell 1 _ rfl⟩
  clear hK K
  try simp only [Act.put, List.setIfInBounds_toArray, List.set_cons_zero, List.set_cons_succ]
  refine wpAnyH_take (i := 17) (oi := { dst := some 24, op := Op.move (.tmp 23), type := 4, pos := "law.go:31", after := #[{ on := 16, ground := Ground.data }, { on := 16, ground := Ground.chain }], guard := none }) (v := (.bool true)) rfl (by kernel_rfl) (by kernel_rfl) (by kernel_rfl) (fun _ _ _ h => h) (Or.inl ⟨by rfl, ?_⟩) hHeld ?_
  · intro w9 hSw
    try dsimp only at hSw
    go_simp
  try simp only [Act.put, List.setIfInBounds_toArray, List.set_cons_zero, List.set_cons_succ]
  refine wpAnyH_take (i := 18) (oi := { dst := some 25, op := Op.fieldAddr 26 (.tmp 3) 0, type := 0, pos := "law.go:31", after := #[{ on := 17, ground := Ground.guard }], guard := some (17, true) }) (v := (.pointer (some ⟨w.heap.size, 0, none⟩))) rfl (by kernel_rfl) (by kernel_rfl) (by kernel_rfl) (fun _ _ _ h => h) (Or.inl ⟨by rfl, ?_⟩) hHeld ?_
  · intro w9 hSw
    try dsimp only at hSw
    go_simp
  try simp only [Act.put, List.setIfInBounds_toArray, List.set_cons_zero, List.set_cons_succ]
  refine wpAnyH_take (i := 19) (oi := { dst := some 26, op := Op.load 3 (.tmp 25), type := 3, pos := "law.go:31", after := #[{ on := 18, ground := Ground.data }, { on := 17, ground := Ground.guard }], guard := some (17, true) }) (v := (.int .i64 t.fam)) rfl (by kernel_rfl) (by kernel_rfl) (by kernel_rfl) (fun _ _ _ h => h) (Or.inl ⟨by rfl, ?_⟩) hHeld ?_
  · intro w9 hSw
    try dsimp only at hSw
    go_simp
  try simp only [Act.put, List.setIfInBounds_toArray, List.set_cons_zero, List.set_cons_succ]
  refine wpAnyH_take (i := 20) (oi := { dst := some 27, op := Op.move (.tmp 2), type := 3, pos := "law.go:31", after := #[{ on := 17, ground := Ground.guard }], guard := some (17, true) }) (v := (.int .i64 k)) rfl (by kernel_rfl) (by kernel_rfl) (by kernel_rfl) (fun _ _ _ h => h) (Or.inl ⟨by rfl, ?_⟩) hHeld ?_
  · intro w9 hSw
    try dsimp only at hSw
    go_simp
  try simp only [Act.put, List.setIfInBounds_toArray, List.set_cons_zero, List.set_cons_succ]
  refine wpAnyH_take (i := 22) (oi := { dst := some 29, op := Op.fieldAddr 26 (.tmp 3) 0, type := 0, pos := "law.go:31", after := #[{ on := 17, ground := Ground.guard }], guard := some (17, true) }) (v := (.pointer (some ⟨w.heap.size, 0, none⟩))) rfl (by kernel_rfl) (by kernel_rfl) (by kernel_rfl) (fun _ _ _ h => h) (Or.inl ⟨by rfl, ?_⟩) hHeld ?_
  · intro w9 hSw
    try dsimp only at hSw
    go_simp
  try simp only [Act.put, List.setIfInBounds_toArray, List.set_cons_zero, List.set_cons_succ]
  refine wpAnyH_take (i := 23) (oi := { dst := some 30, op := Op.load 3 (.tmp 29), type := 3, pos := "law.go:31", after := #[{ on := 22, ground := Ground.data }, { on := 17, ground := Ground.guard }], guard := some (17, true) }) (v := (.int .i64 t.fam)) rfl (by kernel_rfl) (by kernel_rfl) (by kernel_rfl) (fun _ _ _ h => h) (Or.inl ⟨by rfl, ?_⟩) hHeld ?_
  · intro w9 hSw
    try dsimp only at hSw
    go_simp
  try simp only [Act.put, List.setIfInBounds_toArray, List.set_cons_zero, List.set_cons_succ]
  refine wpAnyH_take (i := 24) (oi := { dst := some 31, op := Op.move (.tmp 2), type := 3, pos := "law.go:31", after := #[{ on := 17, ground := Ground.guard }], guard := some (17, true) }) (v := (.int .i64 k)) rfl (by kernel_rfl) (by kernel_rfl) (by kernel_rfl) (fun _ _ _ h => h) (Or.inl ⟨by rfl, ?_⟩) hHeld ?_
  · intro w9 hSw
    try dsimp only at hSw
    go_simp
  try simp only [Act.put, List.setIfInBounds_toArray, List.set_cons_zero, List.set_cons_succ]
  refine wpAnyH_ready (rs := [21]) (by kernel_rfl) (by simp) ?_
  refine AllReadyH.cons (o := { dst := some 28, op := Op.call { callee := Callee.value (.func 13), args := #[.tmp 26, .tmp 27], argTypes := #[3, 3] }, type := 4, pos := "law.go:31", after := #[{ on := 19, ground := Ground.data }, { on := 20, ground := Ground.data }, { on := 17, ground := Ground.chain }, { on := 17, ground := Ground.guard }], guard := some (17, true) }) rfl (fun K hK => ?_) AllReadyH.nil
  go_simp
  refine Calls.mono (K3.out _) ?_
  rintro e W4 ⟨rfl, hW4⟩
  rw [hW4]
  clear hW4 W4
  refine hK.out _ _ ?_ (fun hHeld => ?_)
  · exact ⟨B3, B3.cell 0 _ rfl, B3.cell 1 _ rfl⟩
  clear hK K
  try simp only [Act.put, List.setIfInBounds_toArray, List.set_cons_zero, List.set_cons_succ]
  refine wpAnyH_ready (rs := [25]) (by kernel_rfl) (by simp) ?_
  refine AllReadyH.cons (o := { dst := some 32, op := Op.call { callee := Callee.value (.func 14), args := #[.tmp 30, .tmp 31], argTypes := #[3, 3] }, type := 4, pos := "law.go:31", after := #[{ on := 23, ground := Ground.data }, { on := 24, ground := Ground.data }, { on := 21, ground := Ground.chain }, { on := 17, ground := Ground.guard }], guard := some (17, true) }) rfl (fun K hK => ?_) AllReadyH.nil
  go_simp
  refine Calls.mono (K4.out _) ?_
  rintro e W4 ⟨rfl, hW4⟩
  rw [hW4]
  clear hW4 W4
  refine hK.out _ _ ?_ (fun hHeld => ?_)
  · exact ⟨B3, B3.cell 0 _ rfl, B3.cell 1 _ rfl⟩
  clear hK K
  try simp only [Act.put, List.setIfInBounds_toArray, List.set_cons_zero, List.set_cons_succ]
  refine wpAnyH_take (i := 26) (oi := { dst := some 33, op := Op.binOp BinOp.eql 4 (.tmp 28) (.tmp 32) 4, type := 4, pos := "law.go:31", after := #[{ on := 21, ground := Ground.data }, { on := 25, ground := Ground.data }, { on := 17, ground := Ground.guard }], guard := some (17, true) }) (v := (.bool true)) rfl (by kernel_rfl) (by kernel_rfl) (by kernel_rfl) (fun _ _ _ h => h) (Or.inl ⟨by rfl, ?_⟩) hHeld ?_
  · intro w9 hSw
    try dsimp only at hSw
    go_simp
  try simp only [Act.put, List.setIfInBounds_toArray, List.set_cons_zero, List.set_cons_succ]
  refine wpAnyH_take (i := 27) (oi := { dst := some 34, op := Op.pick (.tmp 24) (.tmp 33) (.const (.bool false)), type := 4, pos := "law.go:31", after := #[{ on := 17, ground := Ground.data }, { on := 26, ground := Ground.data }], guard := none }) (v := (.bool true)) rfl (by kernel_rfl) (by kernel_rfl) (by kernel_rfl) (fun _ _ _ h => h) (Or.inl ⟨by rfl, ?_⟩) hHeld ?_
  · intro w9 hSw
    try dsimp only at hSw
    go_simp
  try simp only [Act.put, List.setIfInBounds_toArray, List.set_cons_zero, List.set_cons_succ]
  refine wpAnyH_take (i := 28) (oi := { dst := some 35, op := Op.move (.tmp 34), type := 4, pos := "law.go:31", after := #[{ on := 27, ground := Ground.data }, { on := 25, ground := Ground.chain }], guard := none }) (v := (.bool true)) rfl (by kernel_rfl) (by kernel_rfl) (by kernel_rfl) (fun _ _ _ h => h) (Or.inl ⟨by rfl, ?_⟩) hHeld ?_
  · intro w9 hSw
    try dsimp only at hSw
    go_simp
  try simp only [Act.put, List.setIfInBounds_toArray, List.set_cons_zero, List.set_cons_succ]
  refine wpAnyH_ready (rs := [29]) (by kernel_rfl) (by simp) ?_
  refine AllReadyH.cons (o := { dst := some 36, op := Op.call { callee := Callee.value (.func 15), args := #[], argTypes := #[] }, type := 4, pos := "law.go:31", after := #[{ on := 28, ground := Ground.chain }, { on := 28, ground := Ground.guard }], guard := some (28, true) }) rfl (fun K hK => ?_) AllReadyH.nil
  go_simp
  refine Calls.mono (KA.out _) ?_
  rintro e W5 ⟨rfl, bb⟩
  have B5 := B3.kept bb
  have b5 : Below w.heap.size w W5 := b3.trans (bb.mono b3.size)
  refine hK.out _ _ ?_ (fun hHeld => ?_)
  · exact ⟨B5, B5.cell 0 _ rfl, B5.cell 1 _ rfl⟩
  clear hK K
  try simp only [Act.put, List.setIfInBounds_toArray, List.set_cons_zero, List.set_cons_succ]
  refine wpAnyH_take (i := 30) (oi := { dst := some 37, op := Op.pick (.tmp 35) (.tmp 36) (.const (.bool false)), type := 4, pos := "law.go:31", after := #[{ on := 28, ground := Ground.data }, { on := 29, ground := Ground.data }], guard := none }) (v := (.bool true)) rfl (by kernel_rfl) (by kernel_rfl) (by kernel_rfl) (fun _ _ _ h => h) (Or.inl ⟨by rfl, ?_⟩) hHeld ?_
  · intro w9 hSw
    try dsimp only at hSw
    go_simp
  try simp only [Act.put, List.setIfInBounds_toArray, List.set_cons_zero, List.set_cons_succ]
  refine wpAnyH_take (i := 31) (oi := { dst := some 6, op := Op.assign (.tmp 37), type := 4, pos := "law.go:31", after := #[{ on := 30, ground := Ground.data }, { on := 29, ground := Ground.chain }, { on := 0, ground := Ground.phase }, { on := 1, ground := Ground.phase }, { on := 2, ground := Ground.phase }, { on := 3, ground := Ground.phase }, { on := 4, ground := Ground.phase }, { on := 5, ground := Ground.phase }, { on := 6, ground := Ground.phase }, { on := 7, ground := Ground.phase }, { on := 8, ground := Ground.phase }, { on := 9, ground := Ground.phase }, { on := 10, ground := Ground.phase }, { on := 11, ground := Ground.phase }, { on := 12, ground := Ground.phase }, { on := 13, ground := Ground.phase }, { on := 14, ground := Ground.phase }, { on := 15, ground := Ground.phase }, { on := 16, ground := Ground.phase }, { on := 17, ground := Ground.phase }, { on := 18, ground := Ground.phase }, { on := 19, ground := Ground.phase }, { on := 20, ground := Ground.phase }, { on := 21, ground := Ground.phase }, { on := 22, ground := Ground.phase }, { on := 23, ground := Ground.phase }, { on := 24, ground := Ground.phase }, { on := 25, ground := Ground.phase }, { on := 26, ground := Ground.phase }, { on := 27, ground := Ground.phase }, { on := 28, ground := Ground.phase }, { on := 29, ground := Ground.phase }, { on := 30, ground := Ground.phase }], guard := none }) (v := (.bool true)) rfl (by kernel_rfl) (by kernel_rfl) (by kernel_rfl) (fun _ _ _ h => h) (Or.inl ⟨by rfl, ?_⟩) hHeld ?_
  · intro w9 hSw
    try dsimp only at hSw
    go_simp
  try simp only [Act.put, List.setIfInBounds_toArray, List.set_cons_zero, List.set_cons_succ]
  refine wpAnyH_done (by kernel_rfl) ?_ _
  refine NoPanic.normal ?_
  go_wp2
  go_ret
  exact ⟨rfl, b5⟩

end Go.Proofs.Ytgdpcomcndidcaa

namespace Go.Proofs.Ytgdpcomcndidcaa.segPseudos
open Go.ChangeShapes Go.WideShapes Go.ChangeAt Go.RowKit
open Go.ChangeMaps (open_string shut_string)
set_option linter.unusedVariables false

theorem own : ownKnob Try.prog.godebug = none := by kernel_rfl
theorem laidOut : laidOutB Try.prog = true := by kernel_rfl

set_option maxRecDepth 100000 in
theorem lifted (os : Os) (started : os.Started) (H : Type) (enc : TypeId × Value → H) :
    ReturnsInHanded {} Try.checked os 3 .any (Rows.segPseudosSpec.pre6 enc Try.prog Try.f3 Rows.segPseudosRow.domain false) (Rows.segPseudosSpec.post enc Try.prog Try.f3 false true false false) := by
  refine returnsInHanded_of_change_sized (C := Try.checked) own started (by kernel_rfl) Try.func3
    (ChangeSpec.witness6 (enc := enc) (C := Try.checked) false ⟨#[], #[.agg #[.int .i64 0, .int .i64 0, .int .i64 0, .int .u64 0, .int .u64 0, .int .i64 0, .int .u64 0, .int .u64 0, .int .i64 0, .int .i64 0], .int .i64 0, .int .i64 0], []⟩ 8 (by kernel_rfl) (by kernel_rfl) (by kernel_rfl) (by kernel_rfl)) ?_
  intro W base args ds gs before hval0 hW hcnd hsz0 _
  have hval : ∀ (j : Nat) t v, Try.f3.params[j]? = some t → args[j]? = some v → Value.okWide Try.prog W .any base t v := hval0
  have hW' := hW
  obtain ⟨p, q, hA0, hV, rfl, hfz, hnd⟩ := hW
  have hA : DataW.TrodAll enc Try.prog W 0 (fun _ => true) true Try.f3.params.toList args.toList ds p := hA0
  have hsz : (DataW.weightsEach Try.prog (Try.f3.params.toList ++ Rows.segPseudosSpec.plain.varTypes Try.prog) (ds ++ gs)).all (· ≤ reachBytes) = true := hsz0
  rw [Try.params3] at hA hval hsz
  obtain ⟨v0, vs0, d0, ds0, p0, q0, hargs, rfl, rfl, h0, r0⟩ := trodAll_cons hA
  obtain ⟨v1, vs1, d1, ds1, p1, q1, rfl, rfl, rfl, h1, r1⟩ := trodAll_cons r0
  obtain ⟨v2, vs2, d2, ds2, p2, q2, rfl, rfl, rfl, h2, r2⟩ := trodAll_cons r1
  obtain ⟨rfl, rfl, rfl⟩ := trodAll_nil r2
  obtain rfl : args = #[v0, v1, v2] := by cases args; simp_all
  obtain ⟨rfl, rfl⟩ := trodVars_none hV
  have lt0 : ∀ x ∈ p0, x.block < W.heap.size := by obtain ⟨m, hm⟩ := h0; exact DataW.trod_lt m _ _ _ hm
  have s0 : ∀ n ∈ d0.weights Try.prog 26, n ≤ reachBytes := fun n hn => by simpa using List.all_eq_true.1 hsz n (DataW.weights_mem_each (j := 0) (t := 26) rfl rfl n hn)
  obtain ⟨q0, rfl, tk0⟩ := open_tuple (hval 0 26 v0 rfl rfl) h0
  obtain ⟨x1, rfl, rfl, rfl, w1⟩ := open_int Try.underlying3 (hval 1 3 v1 rfl rfl) h1
  obtain ⟨x2, rfl, rfl, rfl, w2⟩ := open_int Try.underlying3 (hval 2 3 v2 rfl rfl) h2
  clear hA0 hval0 hsz0
  refine (segPseudos_walk q0 x1 x2 W tk0 w1 w2).mono fun e W' ⟨he, bel⟩ => ?_
  subst he
  exact ⟨_, rfl, _, _, _, [], _, [], hW', trodAll_mk1 (shut_bool Try.underlying4 _), (trodAll_cons_mk (Below.trod laidOut (by kernel_rfl) (of_decide_eq_true (by kernel_rfl)) h0 bel lt0) (trodAll_cons_mk (shut_int Try.underlying3 w1) (trodAll_cons_mk (shut_int Try.underlying3 w2) trodAll_mk0))), rfl, bel.frame _, fun h => by cases h⟩

theorem over : Rows.segPseudosRow.holds Try.pinned (OpenSpec.ofChange Rows.segPseudosSpec) :=
  OpenClaim.holds_of_wide 3 Try.f3 rfl rfl rfl rfl rfl rfl rfl ⟨rfl, rfl, rfl, rfl, rfl⟩ rfl rfl rfl rfl rfl (by kernel_rfl) Try.func3 (by kernel_rfl)
    (of_decide_eq_true (by kernel_rfl)) (by unfold Func.isWrapper; first | (rw [if_pos (by decide +kernel)]; kernel_rfl) | (rw [if_neg (by decide +kernel)]; exact ⟨rfl, rfl⟩))
    (fun os started H enc _ => lifted os started H enc)
end Go.Proofs.Ytgdpcomcndidcaa.segPseudos
namespace Go.Proofs.Ytgdpcomcndidcaa
theorem segPseudos_holds : Rows.SegPseudosSaid := segPseudos.over
end Go.Proofs.Ytgdpcomcndidcaa
