/- The law's own rules; alive. -/
import Derived.Test.YtmlddgmkbbaccaaFrN
import Derived.Test.YtmlddgmkbbaccaaFrO
namespace Go.Proofs.Ytmlddgmkbbaccaa
open Go.RowKit
set_option linter.unusedVariables false
set_option linter.unusedSimpArgs false
def wideR : Rl := ⟨-1, -1, ⟨0, 0, 0⟩, 0, ⟨0, 0, 0⟩, 0, 0, 0, 65535, 0, 65535, 1, 0⟩
def denyR : Rl := ⟨-1, -1, ⟨0, 0, 0⟩, 0, ⟨0, 0, 0⟩, 0, 6, 0, 65535, 0, 65535, 0, 0⟩
def keyA : Ky := ⟨0, 0, ⟨4, 0, 1⟩, ⟨4, 0, 2⟩, 17, 0, 0⟩
abbrev wideV : Array Value := #[.int .i64 (-1), .int .i64 (-1), .int .i64 0, .int .u64 0, .int .u64 0, .int .i64 0, .int .i64 0, .int .u64 0, .int .u64 0, .int .i64 0, .int .i64 0, .int .i64 0, .int .i64 65535, .int .i64 0, .int .i64 65535, .int .i64 1, .int .i64 0]
abbrev denyV : Array Value := #[.int .i64 (-1), .int .i64 (-1), .int .i64 0, .int .u64 0, .int .u64 0, .int .i64 0, .int .i64 0, .int .u64 0, .int .u64 0, .int .i64 0, .int .i64 6, .int .i64 0, .int .i64 65535, .int .i64 0, .int .i64 65535, .int .i64 0, .int .i64 0]
abbrev keyV : Array Value := #[.int .i64 0, .int .i64 0, .int .i64 4, .int .u64 0, .int .u64 1, .int .i64 4, .int .u64 0, .int .u64 2, .int .i64 17, .int .i64 0, .int .i64 0]
theorem ok_small {f h l : Int} (h1 : 0 ≤ f ∧ f ≤ 10) (h2 : 0 ≤ h ∧ h ≤ 10) (h3 : 0 ≤ l ∧ l ≤ 10) : Ad.ok ⟨f, h, l⟩ := ⟨by simp only; omega, by simp only; omega, by simp only; omega⟩
theorem wide_ok : wideR.ok := ⟨ok_small (by decide) (by decide) (by decide), ok_small (by decide) (by decide) (by decide)⟩
theorem deny_ok : denyR.ok := ⟨ok_small (by decide) (by decide) (by decide), ok_small (by decide) (by decide) (by decide)⟩
theorem key_ok : keyA.ok := ⟨ok_small (by decide) (by decide) (by decide), ok_small (by decide) (by decide) (by decide)⟩
set_option maxRecDepth 100000 in
theorem wide_any (w : World) : Calls Try.prog 32 #[] w fun e w' => e = .returned (.agg wideV) ∧ Below w.heap.size w w' := by
  have hst : (Instr.storeAt 30 (.pointer (some ⟨w.heap.size, 0, none⟩)) (.agg wideV)).run Try.prog (w.alloc (.cells z17 30)) = .ok () (w.alloc (.cells wideV 30)) := store_rl w wideR
  have hbd : ∀ W : World, (Instr.build 30 #[(0, .int .i64 (-1)), (1, .int .i64 (-1)), (5, .agg #[.int .i64 0, .int .i64 65535]), (6, .agg #[.int .i64 0, .int .i64 65535]), (7, .int .i64 1)]).run Try.prog W = .ok (.agg wideV) W := fun W => by kernel_rfl
  go_enter Try.func32, Try.ntmps32
  go_wp2_with (first | (refine wpList_store_new _ _ rfl _ _ _ rfl _ _ rfl rfl hst ?_))
  exact ret_cell (k := 0) Try.f32 (by kernel_rfl) (blk_new w wideV 30) Try.underlying30 (by kernel_rfl) (by rfl) rfl ⟨rfl, bel_nw rfl⟩
theorem row2 (w W : World) (p q : Rl) (A : Array Value) (t : TypeId) (hA : A = p.v ++ q.v) (h : w.alloc (.cells A t) = W) (hp : p.ok) (hq : q.ok) : RowR W (some ⟨w.heap.size, 0, none⟩) [p, q] := by
  subst hA
  have B := blk_nw h
  refine ⟨fun r hr => ?_, fun i r hr => ?_⟩
  · simp only [List.mem_cons, List.not_mem_nil, or_false] at hr
    rcases hr with rfl | rfl
    · exact hp
    · exact hq
  · refine ⟨w.heap.size, 0, rfl, B.lt, fun j v hv => ?_⟩
    match i, hr with
    | 0, hr =>
      cases hr
      have hj : j < 17 := (Array.getElem?_eq_some_iff.1 hv).1
      refine B.cell _ v ?_
      rw [show 0 + 0 * 17 + j = j by omega, Array.getElem?_append_left (by simpa using hj)]
      exact hv
    | 1, hr =>
      cases hr
      refine B.cell _ v ?_
      rw [show 0 + 1 * 17 + j = 17 + j by omega, Array.getElem?_append_right (by simp)]
      have e : 17 + j - p.v.size = j := by simp
      rw [e]
      exact hv
theorem rowi1 (w W : World) (t : TypeId) (h : w.alloc (.cells #[.int .i64 0] t) = W) : RowI W (some ⟨w.heap.size, 0, none⟩) [0] :=
  ⟨by simp, fun _ => ⟨_, _, rfl, fun i hi => by
    have : i = 0 := by simp at hi; omega
    subst this
    exact (blk_nw h).cell 0 _ rfl⟩⟩
theorem find1 : findL [denyR, wideR] keyA = some 1 := by kernel_rfl
theorem keep1 : keepL [wideR, denyR] = [0] := by kernel_rfl
theorem key1 : keyA.right = true := by kernel_rfl
set_option maxRecDepth 100000 in
set_option maxHeartbeats 4000000 in
theorem alive_any (w : World) : Calls Try.prog 15 #[] w fun e w' => e = .returned (.bool true) ∧ Below w.heap.size w w' := by
  have K1 : Hid (∀ W, Calls Try.prog 32 #[] W fun e w' => e = .returned (.agg wideV) ∧ Below W.heap.size W w') := wide_any
  have KF : Hid (∀ (W : World) (a : Option Addr), RowR W a [denyR, wideR] → Calls Try.prog 16 #[.slice a 2 2, .agg keyV] W fun e w' => e = .returned (.tuple #[.int .i64 1, .bool true]) ∧ Below W.heap.size W w') := fun W a h => by
    have := find_any a 2 [denyR, wideR] keyA W (by simp) h key_ok
    rw [find1] at this
    exact this
  have KR : Hid (∀ W, Calls Try.prog 9 #[.agg keyV] W fun e w' => e = .returned (.bool true) ∧ Below W.heap.size W w') := fun W => by
    have := rightKey_any keyA W key_ok
    rw [key1] at this
    exact this
  have KK : Hid (∀ (W : World) (a : Option Addr), RowR W a [wideR, denyR] → Calls Try.prog 19 #[.slice a 2 2] W fun e w' => ∃ a' c', e = .returned (.slice a' 1 c') ∧ RowI w' a' [0] ∧ Below W.heap.size W w') := fun W a h => by
    have := keep_any a 2 [wideR, denyR] W (by simp) h
    rw [keep1] at this
    exact this
  have KS : Hid (∀ (W : World) (a b : Option Addr) (c d : Nat), RowI W a [0] → RowI W b [0] → Calls Try.prog 18 #[.slice a 1 c, .slice b 1 d] W fun e w' => e = .returned (.bool true) ∧ Below W.heap.size W w') := fun W a b c d h h' =>
    (sameI_any a b c d [0] [0] W h h').mono (by rintro e w' ⟨rfl, n, rfl⟩; exact ⟨rfl, below_drewN (Below.refl _ _) n⟩)
  have hst : ∀ W : World, (Instr.storeAt 30 (.pointer (some ⟨W.heap.size, 0, none⟩)) (.agg wideV)).run Try.prog (W.alloc (.cells z17 30)) = .ok () (W.alloc (.cells wideV 30)) := fun W => store_rl W wideR
  go_enter Try.func15, Try.ntmps15
  go_wp2_with fail
  refine (K1.out _).mono ?_
  rintro e W1 ⟨rfl, b1⟩
  have hs1 := hst W1
  go_upto_region 4 with (first | (refine wpList_store_new _ _ rfl _ _ _ rfl _ _ rfl rfl hs1 ?_))
  obtain ⟨W2, hW2⟩ : ∃ W2, W1.alloc (.cells denyV 30) = W2 := ⟨_, rfl⟩
  obtain ⟨W3, hW3⟩ : ∃ W3, W2.alloc (.cells keyV 32) = W3 := ⟨_, rfl⟩
  have hz2 : W2.heap.size = W1.heap.size + 1 := by rw [← hW2]; simp
  have hD := (blk_nw hW2).al hW3
  have hKy := blk_nw hW3
  rw [hz2] at hKy
  have bel := bel_al (bel_al b1 hW2) hW3
  have HZ2 : Hid (W2.heap.size = W1.heap.size + 1) := hz2
  clear b1 hst hz2
  rw [show W1.alloc (.cells #[.int .i64 (-1), .int .i64 (-1), .int .i64 0, .int .u64 0, .int .u64 0, .int .i64 0, .int .i64 0, .int .u64 0, .int .u64 0, .int .i64 0, .int .i64 6, .int .i64 0, .int .i64 65535, .int .i64 0, .int .i64 65535, .int .i64 0, .int .i64 0] 30) = W2 from hW2, show W2.alloc (.cells #[.int .i64 0, .int .i64 0, .int .i64 4, .int .u64 0, .int .u64 1, .int .i64 4, .int .u64 0, .int .u64 2, .int .i64 17, .int .i64 0, .int .i64 0] 32) = W3 from hW3]
  have hD := hD.drew
  have hKy := hKy.drew
  have bel := bel.drew
  clear hW2 hW3 hs1
  refine wp_region_noPanic ?_
  refine wp_region_held_drew (S := fun w'' => Blk w'' W1.heap.size 30 denyV ∧ Blk w'' (W1.heap.size + 1) 32 keyV) (by kernel_rfl) (by exact ⟨hD, hKy⟩) (fun hHeld => ?_)
  refine wpAnyH_take (i := 0) (oi := { dst := some 12, op := Op.load 30 (.tmp 1), type := 30, pos := "law.go:21", after := #[], guard := none }) (v := (.agg denyV)) rfl (by kernel_rfl) (by kernel_rfl) (by kernel_rfl) (fun _ _ _ h => h) (yieldsIf_at (by rfl) _ _ rfl W1.heap.size 0 (by rfl) _ (fun _ h => h.1.at_) Try.underlying30 (by kernel_rfl)) hHeld ?_
  try simp only [Act.put, List.setIfInBounds_toArray, List.set_cons_zero, List.set_cons_succ]
  refine wpAnyH_take (i := 3) (oi := { dst := some 15, op := Op.load 32 (.tmp 2), type := 32, pos := "law.go:21", after := #[], guard := none }) (v := (.agg keyV)) rfl (by kernel_rfl) (by kernel_rfl) (by kernel_rfl) (fun _ _ _ h => h) (yieldsIf_at (by rfl) _ _ rfl (W1.heap.size + 1) 0 (by rfl) _ (fun _ h => h.2.at_) Try.underlying32 (by kernel_rfl)) hHeld ?_
  try simp only [Act.put, List.setIfInBounds_toArray, List.set_cons_zero, List.set_cons_succ]
  refine wpAnyH_ready (rs := [1]) (by kernel_rfl) (by simp) ?_
  refine AllReadyH.cons (o := { dst := some 13, op := Op.call { callee := Callee.value (.func 32), args := #[], argTypes := #[] }, type := 30, pos := "law.go:21", after := #[], guard := none }) rfl (fun K hK => ?_) AllReadyH.nil
  go_simp
  refine Calls.mono (K1.out _) ?_
  rintro e W101 ⟨rfl, bb⟩
  have hD := hD.kept bb
  have hKy := hKy.kept bb
  have bel := bel_tr bel bb
  refine hK.out _ _ ?_ (fun hHeld => ?_)
  · exact ⟨hD, hKy⟩
  clear hK K bb
  try simp only [Act.put, List.setIfInBounds_toArray, List.set_cons_zero, List.set_cons_succ]
  refine wpAnyH_ready (rs := [2]) (by kernel_rfl) (by simp) ?_
  refine AllReadyH.cons (o := { dst := some 14, op := Op.buildSlice 37 2 #[(0, .tmp 12), (1, .tmp 13)], type := 37, pos := "law.go:21", after := #[{ on := 0, ground := Ground.data }, { on := 1, ground := Ground.data }], guard := none }) rfl (fun K hK => ?_) AllReadyH.nil
  obtain ⟨W102, hW102⟩ : ∃ X, W101.alloc (.cells #[.int .i64 (-1), .int .i64 (-1), .int .i64 0, .int .u64 0, .int .u64 0, .int .i64 0, .int .i64 0, .int .u64 0, .int .u64 0, .int .i64 0, .int .i64 6, .int .i64 0, .int .i64 65535, .int .i64 0, .int .i64 65535, .int .i64 0, .int .i64 0, .int .i64 (-1), .int .i64 (-1), .int .i64 0, .int .u64 0, .int .u64 0, .int .i64 0, .int .i64 0, .int .u64 0, .int .u64 0, .int .i64 0, .int .i64 0, .int .i64 0, .int .i64 65535, .int .i64 0, .int .i64 65535, .int .i64 1, .int .i64 0] 30) = X := ⟨_, rfl⟩
  have bb := bel_nw hW102
  have hT := row2 W101 W102 denyR wideR _ _ (by rfl) hW102 deny_ok wide_ok
  go_simp
  have hD := hD.kept bb
  have hKy := hKy.kept bb
  have bel := bel_tr bel bb
  clear hW102
  refine hK.out _ _ ?_ (fun hHeld => ?_)
  · exact ⟨hD, hKy⟩
  clear hK K bb
  try simp only [Act.put, List.setIfInBounds_toArray, List.set_cons_zero, List.set_cons_succ]
  refine wpAnyH_ready (rs := [4]) (by kernel_rfl) (by simp) ?_
  refine AllReadyH.cons (o := { dst := some 16, op := Op.call { callee := Callee.value (.func 16), args := #[.tmp 14, .tmp 15], argTypes := #[37, 32] }, type := 38, pos := "law.go:21", after := #[{ on := 2, ground := Ground.data }, { on := 3, ground := Ground.data }, { on := 1, ground := Ground.chain }], guard := none }) rfl (fun K hK => ?_) AllReadyH.nil
  go_simp
  refine Calls.mono (KF.out _ _ hT) ?_
  rintro e W103 ⟨rfl, bb⟩
  have hD := hD.kept bb
  have hKy := hKy.kept bb
  have bel := bel_tr bel bb
  have hT := RowR.low hT bb
  refine hK.out _ _ ?_ (fun hHeld => ?_)
  · exact ⟨hD, hKy⟩
  clear hK K bb
  try simp only [Act.put, List.setIfInBounds_toArray, List.set_cons_zero, List.set_cons_succ]
  refine wpAnyH_take (i := 5) (oi := { dst := some 11, op := Op.move (.tmp 16), type := 38, pos := "law.go:21", after := #[{ on := 4, ground := Ground.data }], guard := none }) (v := (.tuple #[.int .i64 1, .bool true])) rfl (by kernel_rfl) (by kernel_rfl) (by kernel_rfl) (fun _ _ _ h => h) (Or.inl ⟨by rfl, ?_⟩) hHeld ?_
  · intro w9 hSw
    try dsimp only at hSw
    go_simp
  try simp only [Act.put, List.setIfInBounds_toArray, List.set_cons_zero, List.set_cons_succ]
  refine wpAnyH_take (i := 6) (oi := { dst := some 17, op := Op.extract (.tmp 11) 0, type := 3, pos := "law.go:21", after := #[{ on := 5, ground := Ground.data }], guard := none }) (v := (.int .i64 1)) rfl (by kernel_rfl) (by kernel_rfl) (by kernel_rfl) (fun _ _ _ h => h) (Or.inl ⟨by rfl, ?_⟩) hHeld ?_
  · intro w9 hSw
    try dsimp only at hSw
    go_simp
  try simp only [Act.put, List.setIfInBounds_toArray, List.set_cons_zero, List.set_cons_succ]
  refine wpAnyH_take (i := 7) (oi := { dst := some 18, op := Op.extract (.tmp 11) 1, type := 4, pos := "law.go:21", after := #[{ on := 5, ground := Ground.data }, { on := 8, ground := Ground.gcOnly Departure.lateStores }], guard := none }) (v := (.bool true)) rfl (by kernel_rfl) (by kernel_rfl) (by kernel_rfl) (fun _ _ _ h => h) (Or.inl ⟨by rfl, ?_⟩) hHeld ?_
  · intro w9 hSw
    try dsimp only at hSw
    go_simp
  try simp only [Act.put, List.setIfInBounds_toArray, List.set_cons_zero, List.set_cons_succ]
  refine wpAnyH_take (i := 8) (oi := { dst := some 3, op := Op.assign (.tmp 17), type := 3, pos := "law.go:21", after := #[{ on := 6, ground := Ground.data }, { on := 4, ground := Ground.chain }, { on := 0, ground := Ground.phase }, { on := 1, ground := Ground.phase }, { on := 2, ground := Ground.phase }, { on := 3, ground := Ground.phase }, { on := 4, ground := Ground.phase }, { on := 5, ground := Ground.phase }, { on := 6, ground := Ground.phase }, { on := 7, ground := Ground.textOnly Departure.lateStores }], guard := none }) (v := (.int .i64 1)) rfl (by kernel_rfl) (by kernel_rfl) (by kernel_rfl) (fun _ _ _ h => h) (Or.inl ⟨by rfl, ?_⟩) hHeld ?_
  · intro w9 hSw
    try dsimp only at hSw
    go_simp
  try simp only [Act.put, List.setIfInBounds_toArray, List.set_cons_zero, List.set_cons_succ]
  refine wpAnyH_take (i := 9) (oi := { dst := some 4, op := Op.assign (.tmp 18), type := 4, pos := "law.go:21", after := #[{ on := 7, ground := Ground.data }, { on := 8, ground := Ground.chain }, { on := 0, ground := Ground.phase }, { on := 1, ground := Ground.phase }, { on := 2, ground := Ground.phase }, { on := 3, ground := Ground.phase }, { on := 4, ground := Ground.phase }, { on := 5, ground := Ground.phase }, { on := 6, ground := Ground.phase }, { on := 7, ground := Ground.phase }, { on := 8, ground := Ground.phase }], guard := none }) (v := (.bool true)) rfl (by kernel_rfl) (by kernel_rfl) (by kernel_rfl) (fun _ _ _ h => h) (Or.inl ⟨by rfl, ?_⟩) hHeld ?_
  · intro w9 hSw
    try dsimp only at hSw
    go_simp
  try simp only [Act.put, List.setIfInBounds_toArray, List.set_cons_zero, List.set_cons_succ]
  refine wpAnyH_done (by kernel_rfl) ?_ _
  refine NoPanic.normal ?_
  go_wp2
  have hD := hD.drew
  have hKy := hKy.drew
  have bel := bel.drew
  refine wp_region_noPanic ?_
  refine wp_region_held_drew (S := fun w'' => Blk w'' W1.heap.size 30 denyV ∧ Blk w'' (W1.heap.size + 1) 32 keyV) (by kernel_rfl) (by exact ⟨hD, hKy⟩) (fun hHeld => ?_)
  refine wpAnyH_take (i := 0) (oi := { dst := some 19, op := Op.move (.tmp 3), type := 3, pos := "law.go:22", after := #[], guard := none }) (v := (.int .i64 1)) rfl (by kernel_rfl) (by kernel_rfl) (by kernel_rfl) (fun _ _ _ h => h) (Or.inl ⟨by rfl, ?_⟩) hHeld ?_
  · intro w9 hSw
    try dsimp only at hSw
    go_simp
  try simp only [Act.put, List.setIfInBounds_toArray, List.set_cons_zero, List.set_cons_succ]
  refine wpAnyH_take (i := 1) (oi := { dst := some 20, op := Op.binOp BinOp.eql 3 (.tmp 19) (.const (.int .i64 1)) 3, type := 4, pos := "law.go:22", after := #[{ on := 0, ground := Ground.data }], guard := none }) (v := (.bool true)) rfl (by kernel_rfl) (by kernel_rfl) (by kernel_rfl) (fun _ _ _ h => h) (Or.inl ⟨by rfl, ?_⟩) hHeld ?_
  · intro w9 hSw
    try dsimp only at hSw
    go_simp
  try simp only [Act.put, List.setIfInBounds_toArray, List.set_cons_zero, List.set_cons_succ]
  refine wpAnyH_take (i := 2) (oi := { dst := some 21, op := Op.move (.tmp 20), type := 4, pos := "law.go:22", after := #[{ on := 1, ground := Ground.data }], guard := none }) (v := (.bool true)) rfl (by kernel_rfl) (by kernel_rfl) (by kernel_rfl) (fun _ _ _ h => h) (Or.inl ⟨by rfl, ?_⟩) hHeld ?_
  · intro w9 hSw
    try dsimp only at hSw
    go_simp
  try simp only [Act.put, List.setIfInBounds_toArray, List.set_cons_zero, List.set_cons_succ]
  refine wpAnyH_take (i := 3) (oi := { dst := some 22, op := Op.move (.tmp 4), type := 4, pos := "law.go:22", after := #[{ on := 2, ground := Ground.guard }], guard := some (2, true) }) (v := (.bool true)) rfl (by kernel_rfl) (by kernel_rfl) (by kernel_rfl) (fun _ _ _ h => h) (Or.inl ⟨by rfl, ?_⟩) hHeld ?_
  · intro w9 hSw
    try dsimp only at hSw
    go_simp
  try simp only [Act.put, List.setIfInBounds_toArray, List.set_cons_zero, List.set_cons_succ]
  refine wpAnyH_take (i := 4) (oi := { dst := some 23, op := Op.pick (.tmp 21) (.tmp 22) (.const (.bool false)), type := 4, pos := "law.go:22", after := #[{ on := 2, ground := Ground.data }, { on := 3, ground := Ground.data }], guard := none }) (v := (.bool true)) rfl (by kernel_rfl) (by kernel_rfl) (by kernel_rfl) (fun _ _ _ h => h) (Or.inl ⟨by rfl, ?_⟩) hHeld ?_
  · intro w9 hSw
    try dsimp only at hSw
    go_simp
  try simp only [Act.put, List.setIfInBounds_toArray, List.set_cons_zero, List.set_cons_succ]
  refine wpAnyH_take (i := 5) (oi := { dst := some 24, op := Op.move (.tmp 23), type := 4, pos := "law.go:22", after := #[{ on := 4, ground := Ground.data }, { on := 2, ground := Ground.chain }], guard := none }) (v := (.bool true)) rfl (by kernel_rfl) (by kernel_rfl) (by kernel_rfl) (fun _ _ _ h => h) (Or.inl ⟨by rfl, ?_⟩) hHeld ?_
  · intro w9 hSw
    try dsimp only at hSw
    go_simp
  try simp only [Act.put, List.setIfInBounds_toArray, List.set_cons_zero, List.set_cons_succ]
  refine wpAnyH_take (i := 6) (oi := { dst := some 25, op := Op.load 32 (.tmp 2), type := 32, pos := "law.go:22", after := #[{ on := 5, ground := Ground.guard }], guard := some (5, true) }) (v := (.agg keyV)) rfl (by kernel_rfl) (by kernel_rfl) (by kernel_rfl) (fun _ _ _ h => h) (yieldsIf_at (by rfl) _ _ rfl (W1.heap.size + 1) 0 (by rfl) _ (fun _ h => h.2.at_) Try.underlying32 (by kernel_rfl)) hHeld ?_
  try simp only [Act.put, List.setIfInBounds_toArray, List.set_cons_zero, List.set_cons_succ]
  refine wpAnyH_ready (rs := [7]) (by kernel_rfl) (by simp) ?_
  refine AllReadyH.cons (o := { dst := some 26, op := Op.call { callee := Callee.value (.func 9), args := #[.tmp 25], argTypes := #[32] }, type := 4, pos := "law.go:22", after := #[{ on := 6, ground := Ground.data }, { on := 5, ground := Ground.chain }, { on := 5, ground := Ground.guard }], guard := some (5, true) }) rfl (fun K hK => ?_) AllReadyH.nil
  go_simp
  refine Calls.mono (KR.out _) ?_
  rintro e W104 ⟨rfl, bb⟩
  have hD := hD.kept bb
  have hKy := hKy.kept bb
  have bel := bel_tr bel bb
  refine hK.out _ _ ?_ (fun hHeld => ?_)
  · exact ⟨hD, hKy⟩
  clear hK K bb
  try simp only [Act.put, List.setIfInBounds_toArray, List.set_cons_zero, List.set_cons_succ]
  refine wpAnyH_take (i := 8) (oi := { dst := some 27, op := Op.pick (.tmp 24) (.tmp 26) (.const (.bool false)), type := 4, pos := "law.go:22", after := #[{ on := 5, ground := Ground.data }, { on := 7, ground := Ground.data }], guard := none }) (v := (.bool true)) rfl (by kernel_rfl) (by kernel_rfl) (by kernel_rfl) (fun _ _ _ h => h) (Or.inl ⟨by rfl, ?_⟩) hHeld ?_
  · intro w9 hSw
    try dsimp only at hSw
    go_simp
  try simp only [Act.put, List.setIfInBounds_toArray, List.set_cons_zero, List.set_cons_succ]
  refine wpAnyH_take (i := 9) (oi := { dst := some 28, op := Op.move (.tmp 27), type := 4, pos := "law.go:22", after := #[{ on := 8, ground := Ground.data }, { on := 7, ground := Ground.chain }], guard := none }) (v := (.bool true)) rfl (by kernel_rfl) (by kernel_rfl) (by kernel_rfl) (fun _ _ _ h => h) (Or.inl ⟨by rfl, ?_⟩) hHeld ?_
  · intro w9 hSw
    try dsimp only at hSw
    go_simp
  try simp only [Act.put, List.setIfInBounds_toArray, List.set_cons_zero, List.set_cons_succ]
  refine wpAnyH_take (i := 11) (oi := { dst := some 30, op := Op.load 30 (.tmp 1), type := 30, pos := "law.go:22", after := #[{ on := 9, ground := Ground.guard }], guard := some (9, true) }) (v := (.agg denyV)) rfl (by kernel_rfl) (by kernel_rfl) (by kernel_rfl) (fun _ _ _ h => h) (yieldsIf_at (by rfl) _ _ rfl W1.heap.size 0 (by rfl) _ (fun _ h => h.1.at_) Try.underlying30 (by kernel_rfl)) hHeld ?_
  try simp only [Act.put, List.setIfInBounds_toArray, List.set_cons_zero, List.set_cons_succ]
  refine wpAnyH_ready (rs := [10, 14]) (by kernel_rfl) (by simp) ?_
  refine AllReadyH.cons (o := { dst := some 29, op := Op.call { callee := Callee.value (.func 32), args := #[], argTypes := #[] }, type := 30, pos := "law.go:22", after := #[{ on := 9, ground := Ground.chain }, { on := 9, ground := Ground.guard }], guard := some (9, true) }) rfl (fun K hK => ?_) (AllReadyH.cons (o := { dst := some 33, op := Op.buildSlice 42 1 #[(0, .const (.int .i64 0))], type := 42, pos := "law.go:22", after := #[{ on := 9, ground := Ground.guard }], guard := some (9, true) }) rfl (fun K hK => ?_) AllReadyH.nil)
  · go_simp
    refine Calls.mono (K1.out _) ?_
    rintro e W105 ⟨rfl, bb⟩
    have hD := hD.kept bb
    have hKy := hKy.kept bb
    have bel := bel_tr bel bb
    refine hK.out _ _ ?_ (fun hHeld => ?_)
    · exact ⟨hD, hKy⟩
    clear hK K bb
    try simp only [Act.put, List.setIfInBounds_toArray, List.set_cons_zero, List.set_cons_succ]
    refine wpAnyH_ready (rs := [12, 14]) (by kernel_rfl) (by simp) ?_
    refine AllReadyH.cons (o := { dst := some 31, op := Op.buildSlice 37 2 #[(0, .tmp 29), (1, .tmp 30)], type := 37, pos := "law.go:22", after := #[{ on := 10, ground := Ground.data }, { on := 11, ground := Ground.data }, { on := 9, ground := Ground.guard }], guard := some (9, true) }) rfl (fun K hK => ?_) (AllReadyH.cons (o := { dst := some 33, op := Op.buildSlice 42 1 #[(0, .const (.int .i64 0))], type := 42, pos := "law.go:22", after := #[{ on := 9, ground := Ground.guard }], guard := some (9, true) }) rfl (fun K hK => ?_) AllReadyH.nil)
    · obtain ⟨W106, hW106⟩ : ∃ X, W105.alloc (.cells #[.int .i64 (-1), .int .i64 (-1), .int .i64 0, .int .u64 0, .int .u64 0, .int .i64 0, .int .i64 0, .int .u64 0, .int .u64 0, .int .i64 0, .int .i64 0, .int .i64 0, .int .i64 65535, .int .i64 0, .int .i64 65535, .int .i64 1, .int .i64 0, .int .i64 (-1), .int .i64 (-1), .int .i64 0, .int .u64 0, .int .u64 0, .int .i64 0, .int .i64 0, .int .u64 0, .int .u64 0, .int .i64 0, .int .i64 6, .int .i64 0, .int .i64 65535, .int .i64 0, .int .i64 65535, .int .i64 0, .int .i64 0] 30) = X := ⟨_, rfl⟩
      have bb := bel_nw hW106
      have hT := row2 W105 W106 wideR denyR _ _ (by rfl) hW106 wide_ok deny_ok
      go_simp
      have hD := hD.kept bb
      have hKy := hKy.kept bb
      have bel := bel_tr bel bb
      clear hW106
      refine hK.out _ _ ?_ (fun hHeld => ?_)
      · exact ⟨hD, hKy⟩
      clear hK K bb
      try simp only [Act.put, List.setIfInBounds_toArray, List.set_cons_zero, List.set_cons_succ]
      refine wpAnyH_ready (rs := [13, 14]) (by kernel_rfl) (by simp) ?_
      refine AllReadyH.cons (o := { dst := some 32, op := Op.call { callee := Callee.value (.func 19), args := #[.tmp 31], argTypes := #[37] }, type := 42, pos := "law.go:22", after := #[{ on := 12, ground := Ground.data }, { on := 10, ground := Ground.chain }, { on := 9, ground := Ground.guard }], guard := some (9, true) }) rfl (fun K hK => ?_) (AllReadyH.cons (o := { dst := some 33, op := Op.buildSlice 42 1 #[(0, .const (.int .i64 0))], type := 42, pos := "law.go:22", after := #[{ on := 9, ground := Ground.guard }], guard := some (9, true) }) rfl (fun K hK => ?_) AllReadyH.nil)
      · go_simp
        refine Calls.mono (KK.out _ _ hT) ?_
        rintro e W107 ⟨ra, rc, rfl, hP, bb⟩
        have hD := hD.kept bb
        have hKy := hKy.kept bb
        have bel := bel_tr bel bb
        have hT := RowR.low hT bb
        refine hK.out _ _ ?_ (fun hHeld => ?_)
        · exact ⟨hD, hKy⟩
        clear hK K bb
        try simp only [Act.put, List.setIfInBounds_toArray, List.set_cons_zero, List.set_cons_succ]
        refine wpAnyH_ready (rs := [14]) (by kernel_rfl) (by simp) ?_
        refine AllReadyH.cons (o := { dst := some 33, op := Op.buildSlice 42 1 #[(0, .const (.int .i64 0))], type := 42, pos := "law.go:22", after := #[{ on := 9, ground := Ground.guard }], guard := some (9, true) }) rfl (fun K hK => ?_) AllReadyH.nil
        obtain ⟨W108, hW108⟩ : ∃ X, W107.alloc (.cells #[.int .i64 0] 3) = X := ⟨_, rfl⟩
        have bb := bel_nw hW108
        have hO := rowi1 W107 W108 _ hW108
        go_simp
        have hD := hD.kept bb
        have hKy := hKy.kept bb
        have bel := bel_tr bel bb
        have hT := RowR.low hT bb
        have hP := hP.below bb
        clear hW108
        refine hK.out _ _ ?_ (fun hHeld => ?_)
        · exact ⟨hD, hKy⟩
        clear hK K bb
        try simp only [Act.put, List.setIfInBounds_toArray, List.set_cons_zero, List.set_cons_succ]
        refine wpAnyH_ready (rs := [15]) (by kernel_rfl) (by simp) ?_
        refine AllReadyH.cons (o := { dst := some 34, op := Op.call { callee := Callee.value (.func 18), args := #[.tmp 32, .tmp 33], argTypes := #[42, 42] }, type := 4, pos := "law.go:22", after := #[{ on := 13, ground := Ground.data }, { on := 14, ground := Ground.data }, { on := 13, ground := Ground.chain }, { on := 9, ground := Ground.guard }], guard := some (9, true) }) rfl (fun K hK => ?_) AllReadyH.nil
        go_simp
        refine Calls.mono (KS.out _ _ _ _ _ hP hO) ?_
        rintro e W109 ⟨rfl, bb⟩
        have hD := hD.kept bb
        have hKy := hKy.kept bb
        have bel := bel_tr bel bb
        have hT := RowR.low hT bb
        have hP := hP.below bb
        have hO := hO.below bb
        refine hK.out _ _ ?_ (fun hHeld => ?_)
        · exact ⟨hD, hKy⟩
        clear hK K bb
        try simp only [Act.put, List.setIfInBounds_toArray, List.set_cons_zero, List.set_cons_succ]
        refine wpAnyH_take (i := 16) (oi := { dst := some 35, op := Op.pick (.tmp 28) (.tmp 34) (.const (.bool false)), type := 4, pos := "law.go:22", after := #[{ on := 9, ground := Ground.data }, { on := 15, ground := Ground.data }], guard := none }) (v := (.bool true)) rfl (by kernel_rfl) (by kernel_rfl) (by kernel_rfl) (fun _ _ _ h => h) (Or.inl ⟨by rfl, ?_⟩) hHeld ?_
        · intro w9 hSw
          try dsimp only at hSw
          go_simp
        try simp only [Act.put, List.setIfInBounds_toArray, List.set_cons_zero, List.set_cons_succ]
        refine wpAnyH_take (i := 17) (oi := { dst := some 0, op := Op.assign (.tmp 35), type := 4, pos := "law.go:22", after := #[{ on := 16, ground := Ground.data }, { on := 15, ground := Ground.chain }, { on := 0, ground := Ground.phase }, { on := 1, ground := Ground.phase }, { on := 2, ground := Ground.phase }, { on := 3, ground := Ground.phase }, { on := 4, ground := Ground.phase }, { on := 5, ground := Ground.phase }, { on := 6, ground := Ground.phase }, { on := 7, ground := Ground.phase }, { on := 8, ground := Ground.phase }, { on := 9, ground := Ground.phase }, { on := 10, ground := Ground.phase }, { on := 11, ground := Ground.phase }, { on := 12, ground := Ground.phase }, { on := 13, ground := Ground.phase }, { on := 14, ground := Ground.phase }, { on := 15, ground := Ground.phase }, { on := 16, ground := Ground.phase }], guard := none }) (v := (.bool true)) rfl (by kernel_rfl) (by kernel_rfl) (by kernel_rfl) (fun _ _ _ h => h) (Or.inl ⟨by rfl, ?_⟩) hHeld ?_
        · intro w9 hSw
          try dsimp only at hSw
          go_simp
        try simp only [Act.put, List.setIfInBounds_toArray, List.set_cons_zero, List.set_cons_succ]
        refine wpAnyH_done (by kernel_rfl) ?_ _
        refine NoPanic.normal ?_
        go_wp2
        go_ret
        exact ⟨rfl, bel⟩
      · obtain ⟨W110, hW110⟩ : ∃ X, W106.alloc (.cells #[.int .i64 0] 3) = X := ⟨_, rfl⟩
        have bb := bel_nw hW110
        have hO := rowi1 W106 W110 _ hW110
        go_simp
        have hD := hD.kept bb
        have hKy := hKy.kept bb
        have bel := bel_tr bel bb
        have hT := RowR.low hT bb
        clear hW110
        refine hK.out _ _ ?_ (fun hHeld => ?_)
        · exact ⟨hD, hKy⟩
        clear hK K bb
        try simp only [Act.put, List.setIfInBounds_toArray, List.set_cons_zero, List.set_cons_succ]
        refine wpAnyH_ready (rs := [13]) (by kernel_rfl) (by simp) ?_
        refine AllReadyH.cons (o := { dst := some 32, op := Op.call { callee := Callee.value (.func 19), args := #[.tmp 31], argTypes := #[37] }, type := 42, pos := "law.go:22", after := #[{ on := 12, ground := Ground.data }, { on := 10, ground := Ground.chain }, { on := 9, ground := Ground.guard }], guard := some (9, true) }) rfl (fun K hK => ?_) AllReadyH.nil
        go_simp
        refine Calls.mono (KK.out _ _ hT) ?_
        rintro e W111 ⟨ra, rc, rfl, hP, bb⟩
        have hD := hD.kept bb
        have hKy := hKy.kept bb
        have bel := bel_tr bel bb
        have hT := RowR.low hT bb
        have hO := hO.below bb
        refine hK.out _ _ ?_ (fun hHeld => ?_)
        · exact ⟨hD, hKy⟩
        clear hK K bb
        try simp only [Act.put, List.setIfInBounds_toArray, List.set_cons_zero, List.set_cons_succ]
        refine wpAnyH_ready (rs := [15]) (by kernel_rfl) (by simp) ?_
        refine AllReadyH.cons (o := { dst := some 34, op := Op.call { callee := Callee.value (.func 18), args := #[.tmp 32, .tmp 33], argTypes := #[42, 42] }, type := 4, pos := "law.go:22", after := #[{ on := 13, ground := Ground.data }, { on := 14, ground := Ground.data }, { on := 13, ground := Ground.chain }, { on := 9, ground := Ground.guard }], guard := some (9, true) }) rfl (fun K hK => ?_) AllReadyH.nil
        go_simp
        refine Calls.mono (KS.out _ _ _ _ _ hP hO) ?_
        rintro e W112 ⟨rfl, bb⟩
        have hD := hD.kept bb
        have hKy := hKy.kept bb
        have bel := bel_tr bel bb
        have hT := RowR.low hT bb
        have hO := hO.below bb
        have hP := hP.below bb
        refine hK.out _ _ ?_ (fun hHeld => ?_)
        · exact ⟨hD, hKy⟩
        clear hK K bb
        try simp only [Act.put, List.setIfInBounds_toArray, List.set_cons_zero, List.set_cons_succ]
        refine wpAnyH_take (i := 16) (oi := { dst := some 35, op := Op.pick (.tmp 28) (.tmp 34) (.const (.bool false)), type := 4, pos := "law.go:22", after := #[{ on := 9, ground := Ground.data }, { on := 15, ground := Ground.data }], guard := none }) (v := (.bool true)) rfl (by kernel_rfl) (by kernel_rfl) (by kernel_rfl) (fun _ _ _ h => h) (Or.inl ⟨by rfl, ?_⟩) hHeld ?_
        · intro w9 hSw
          try dsimp only at hSw
          go_simp
        try simp only [Act.put, List.setIfInBounds_toArray, List.set_cons_zero, List.set_cons_succ]
        refine wpAnyH_take (i := 17) (oi := { dst := some 0, op := Op.assign (.tmp 35), type := 4, pos := "law.go:22", after := #[{ on := 16, ground := Ground.data }, { on := 15, ground := Ground.chain }, { on := 0, ground := Ground.phase }, { on := 1, ground := Ground.phase }, { on := 2, ground := Ground.phase }, { on := 3, ground := Ground.phase }, { on := 4, ground := Ground.phase }, { on := 5, ground := Ground.phase }, { on := 6, ground := Ground.phase }, { on := 7, ground := Ground.phase }, { on := 8, ground := Ground.phase }, { on := 9, ground := Ground.phase }, { on := 10, ground := Ground.phase }, { on := 11, ground := Ground.phase }, { on := 12, ground := Ground.phase }, { on := 13, ground := Ground.phase }, { on := 14, ground := Ground.phase }, { on := 15, ground := Ground.phase }, { on := 16, ground := Ground.phase }], guard := none }) (v := (.bool true)) rfl (by kernel_rfl) (by kernel_rfl) (by kernel_rfl) (fun _ _ _ h => h) (Or.inl ⟨by rfl, ?_⟩) hHeld ?_
        · intro w9 hSw
          try dsimp only at hSw
          go_simp
        try simp only [Act.put, List.setIfInBounds_toArray, List.set_cons_zero, List.set_cons_succ]
        refine wpAnyH_done (by kernel_rfl) ?_ _
        refine NoPanic.normal ?_
        go_wp2
        go_ret
        exact ⟨rfl, bel⟩
    · obtain ⟨W113, hW113⟩ : ∃ X, W105.alloc (.cells #[.int .i64 0] 3) = X := ⟨_, rfl⟩
      have bb := bel_nw hW113
      have hO := rowi1 W105 W113 _ hW113
      go_simp
      have hD := hD.kept bb
      have hKy := hKy.kept bb
      have bel := bel_tr bel bb
      clear hW113
      refine hK.out _ _ ?_ (fun hHeld => ?_)
      · exact ⟨hD, hKy⟩
      clear hK K bb
      try simp only [Act.put, List.setIfInBounds_toArray, List.set_cons_zero, List.set_cons_succ]
      refine wpAnyH_ready (rs := [12]) (by kernel_rfl) (by simp) ?_
      refine AllReadyH.cons (o := { dst := some 31, op := Op.buildSlice 37 2 #[(0, .tmp 29), (1, .tmp 30)], type := 37, pos := "law.go:22", after := #[{ on := 10, ground := Ground.data }, { on := 11, ground := Ground.data }, { on := 9, ground := Ground.guard }], guard := some (9, true) }) rfl (fun K hK => ?_) AllReadyH.nil
      obtain ⟨W114, hW114⟩ : ∃ X, W113.alloc (.cells #[.int .i64 (-1), .int .i64 (-1), .int .i64 0, .int .u64 0, .int .u64 0, .int .i64 0, .int .i64 0, .int .u64 0, .int .u64 0, .int .i64 0, .int .i64 0, .int .i64 0, .int .i64 65535, .int .i64 0, .int .i64 65535, .int .i64 1, .int .i64 0, .int .i64 (-1), .int .i64 (-1), .int .i64 0, .int .u64 0, .int .u64 0, .int .i64 0, .int .i64 0, .int .u64 0, .int .u64 0, .int .i64 0, .int .i64 6, .int .i64 0, .int .i64 65535, .int .i64 0, .int .i64 65535, .int .i64 0, .int .i64 0] 30) = X := ⟨_, rfl⟩
      have bb := bel_nw hW114
      have hT := row2 W113 W114 wideR denyR _ _ (by rfl) hW114 wide_ok deny_ok
      go_simp
      have hD := hD.kept bb
      have hKy := hKy.kept bb
      have bel := bel_tr bel bb
      have hO := hO.below bb
      clear hW114
      refine hK.out _ _ ?_ (fun hHeld => ?_)
      · exact ⟨hD, hKy⟩
      clear hK K bb
      try simp only [Act.put, List.setIfInBounds_toArray, List.set_cons_zero, List.set_cons_succ]
      refine wpAnyH_ready (rs := [13]) (by kernel_rfl) (by simp) ?_
      refine AllReadyH.cons (o := { dst := some 32, op := Op.call { callee := Callee.value (.func 19), args := #[.tmp 31], argTypes := #[37] }, type := 42, pos := "law.go:22", after := #[{ on := 12, ground := Ground.data }, { on := 10, ground := Ground.chain }, { on := 9, ground := Ground.guard }], guard := some (9, true) }) rfl (fun K hK => ?_) AllReadyH.nil
      go_simp
      refine Calls.mono (KK.out _ _ hT) ?_
      rintro e W115 ⟨ra, rc, rfl, hP, bb⟩
      have hD := hD.kept bb
      have hKy := hKy.kept bb
      have bel := bel_tr bel bb
      have hO := hO.below bb
      have hT := RowR.low hT bb
      refine hK.out _ _ ?_ (fun hHeld => ?_)
      · exact ⟨hD, hKy⟩
      clear hK K bb
      try simp only [Act.put, List.setIfInBounds_toArray, List.set_cons_zero, List.set_cons_succ]
      refine wpAnyH_ready (rs := [15]) (by kernel_rfl) (by simp) ?_
      refine AllReadyH.cons (o := { dst := some 34, op := Op.call { callee := Callee.value (.func 18), args := #[.tmp 32, .tmp 33], argTypes := #[42, 42] }, type := 4, pos := "law.go:22", after := #[{ on := 13, ground := Ground.data }, { on := 14, ground := Ground.data }, { on := 13, ground := Ground.chain }, { on := 9, ground := Ground.guard }], guard := some (9, true) }) rfl (fun K hK => ?_) AllReadyH.nil
      go_simp
      refine Calls.mono (KS.out _ _ _ _ _ hP hO) ?_
      rintro e W116 ⟨rfl, bb⟩
      have hD := hD.kept bb
      have hKy := hKy.kept bb
      have bel := bel_tr bel bb
      have hO := hO.below bb
      have hT := RowR.low hT bb
      have hP := hP.below bb
      refine hK.out _ _ ?_ (fun hHeld => ?_)
      · exact ⟨hD, hKy⟩
      clear hK K bb
      try simp only [Act.put, List.setIfInBounds_toArray, List.set_cons_zero, List.set_cons_succ]
      refine wpAnyH_take (i := 16) (oi := { dst := some 35, op := Op.pick (.tmp 28) (.tmp 34) (.const (.bool false)), type := 4, pos := "law.go:22", after := #[{ on := 9, ground := Ground.data }, { on := 15, ground := Ground.data }], guard := none }) (v := (.bool true)) rfl (by kernel_rfl) (by kernel_rfl) (by kernel_rfl) (fun _ _ _ h => h) (Or.inl ⟨by rfl, ?_⟩) hHeld ?_
      · intro w9 hSw
        try dsimp only at hSw
        go_simp
      try simp only [Act.put, List.setIfInBounds_toArray, List.set_cons_zero, List.set_cons_succ]
      refine wpAnyH_take (i := 17) (oi := { dst := some 0, op := Op.assign (.tmp 35), type := 4, pos := "law.go:22", after := #[{ on := 16, ground := Ground.data }, { on := 15, ground := Ground.chain }, { on := 0, ground := Ground.phase }, { on := 1, ground := Ground.phase }, { on := 2, ground := Ground.phase }, { on := 3, ground := Ground.phase }, { on := 4, ground := Ground.phase }, { on := 5, ground := Ground.phase }, { on := 6, ground := Ground.phase }, { on := 7, ground := Ground.phase }, { on := 8, ground := Ground.phase }, { on := 9, ground := Ground.phase }, { on := 10, ground := Ground.phase }, { on := 11, ground := Ground.phase }, { on := 12, ground := Ground.phase }, { on := 13, ground := Ground.phase }, { on := 14, ground := Ground.phase }, { on := 15, ground := Ground.phase }, { on := 16, ground := Ground.phase }], guard := none }) (v := (.bool true)) rfl (by kernel_rfl) (by kernel_rfl) (by kernel_rfl) (fun _ _ _ h => h) (Or.inl ⟨by rfl, ?_⟩) hHeld ?_
      · intro w9 hSw
        try dsimp only at hSw
        go_simp
      try simp only [Act.put, List.setIfInBounds_toArray, List.set_cons_zero, List.set_cons_succ]
      refine wpAnyH_done (by kernel_rfl) ?_ _
      refine NoPanic.normal ?_
      go_wp2
      go_ret
      exact ⟨rfl, bel⟩
  · obtain ⟨W117, hW117⟩ : ∃ X, W104.alloc (.cells #[.int .i64 0] 3) = X := ⟨_, rfl⟩
    have bb := bel_nw hW117
    have hO := rowi1 W104 W117 _ hW117
    go_simp
    have hD := hD.kept bb
    have hKy := hKy.kept bb
    have bel := bel_tr bel bb
    clear hW117
    refine hK.out _ _ ?_ (fun hHeld => ?_)
    · exact ⟨hD, hKy⟩
    clear hK K bb
    try simp only [Act.put, List.setIfInBounds_toArray, List.set_cons_zero, List.set_cons_succ]
    refine wpAnyH_ready (rs := [10]) (by kernel_rfl) (by simp) ?_
    refine AllReadyH.cons (o := { dst := some 29, op := Op.call { callee := Callee.value (.func 32), args := #[], argTypes := #[] }, type := 30, pos := "law.go:22", after := #[{ on := 9, ground := Ground.chain }, { on := 9, ground := Ground.guard }], guard := some (9, true) }) rfl (fun K hK => ?_) AllReadyH.nil
    go_simp
    refine Calls.mono (K1.out _) ?_
    rintro e W118 ⟨rfl, bb⟩
    have hD := hD.kept bb
    have hKy := hKy.kept bb
    have bel := bel_tr bel bb
    have hO := hO.below bb
    refine hK.out _ _ ?_ (fun hHeld => ?_)
    · exact ⟨hD, hKy⟩
    clear hK K bb
    try simp only [Act.put, List.setIfInBounds_toArray, List.set_cons_zero, List.set_cons_succ]
    refine wpAnyH_ready (rs := [12]) (by kernel_rfl) (by simp) ?_
    refine AllReadyH.cons (o := { dst := some 31, op := Op.buildSlice 37 2 #[(0, .tmp 29), (1, .tmp 30)], type := 37, pos := "law.go:22", after := #[{ on := 10, ground := Ground.data }, { on := 11, ground := Ground.data }, { on := 9, ground := Ground.guard }], guard := some (9, true) }) rfl (fun K hK => ?_) AllReadyH.nil
    obtain ⟨W119, hW119⟩ : ∃ X, W118.alloc (.cells #[.int .i64 (-1), .int .i64 (-1), .int .i64 0, .int .u64 0, .int .u64 0, .int .i64 0, .int .i64 0, .int .u64 0, .int .u64 0, .int .i64 0, .int .i64 0, .int .i64 0, .int .i64 65535, .int .i64 0, .int .i64 65535, .int .i64 1, .int .i64 0, .int .i64 (-1), .int .i64 (-1), .int .i64 0, .int .u64 0, .int .u64 0, .int .i64 0, .int .i64 0, .int .u64 0, .int .u64 0, .int .i64 0, .int .i64 6, .int .i64 0, .int .i64 65535, .int .i64 0, .int .i64 65535, .int .i64 0, .int .i64 0] 30) = X := ⟨_, rfl⟩
    have bb := bel_nw hW119
    have hT := row2 W118 W119 wideR denyR _ _ (by rfl) hW119 wide_ok deny_ok
    go_simp
    have hD := hD.kept bb
    have hKy := hKy.kept bb
    have bel := bel_tr bel bb
    have hO := hO.below bb
    clear hW119
    refine hK.out _ _ ?_ (fun hHeld => ?_)
    · exact ⟨hD, hKy⟩
    clear hK K bb
    try simp only [Act.put, List.setIfInBounds_toArray, List.set_cons_zero, List.set_cons_succ]
    refine wpAnyH_ready (rs := [13]) (by kernel_rfl) (by simp) ?_
    refine AllReadyH.cons (o := { dst := some 32, op := Op.call { callee := Callee.value (.func 19), args := #[.tmp 31], argTypes := #[37] }, type := 42, pos := "law.go:22", after := #[{ on := 12, ground := Ground.data }, { on := 10, ground := Ground.chain }, { on := 9, ground := Ground.guard }], guard := some (9, true) }) rfl (fun K hK => ?_) AllReadyH.nil
    go_simp
    refine Calls.mono (KK.out _ _ hT) ?_
    rintro e W120 ⟨ra, rc, rfl, hP, bb⟩
    have hD := hD.kept bb
    have hKy := hKy.kept bb
    have bel := bel_tr bel bb
    have hO := hO.below bb
    have hT := RowR.low hT bb
    refine hK.out _ _ ?_ (fun hHeld => ?_)
    · exact ⟨hD, hKy⟩
    clear hK K bb
    try simp only [Act.put, List.setIfInBounds_toArray, List.set_cons_zero, List.set_cons_succ]
    refine wpAnyH_ready (rs := [15]) (by kernel_rfl) (by simp) ?_
    refine AllReadyH.cons (o := { dst := some 34, op := Op.call { callee := Callee.value (.func 18), args := #[.tmp 32, .tmp 33], argTypes := #[42, 42] }, type := 4, pos := "law.go:22", after := #[{ on := 13, ground := Ground.data }, { on := 14, ground := Ground.data }, { on := 13, ground := Ground.chain }, { on := 9, ground := Ground.guard }], guard := some (9, true) }) rfl (fun K hK => ?_) AllReadyH.nil
    go_simp
    refine Calls.mono (KS.out _ _ _ _ _ hP hO) ?_
    rintro e W121 ⟨rfl, bb⟩
    have hD := hD.kept bb
    have hKy := hKy.kept bb
    have bel := bel_tr bel bb
    have hO := hO.below bb
    have hT := RowR.low hT bb
    have hP := hP.below bb
    refine hK.out _ _ ?_ (fun hHeld => ?_)
    · exact ⟨hD, hKy⟩
    clear hK K bb
    try simp only [Act.put, List.setIfInBounds_toArray, List.set_cons_zero, List.set_cons_succ]
    refine wpAnyH_take (i := 16) (oi := { dst := some 35, op := Op.pick (.tmp 28) (.tmp 34) (.const (.bool false)), type := 4, pos := "law.go:22", after := #[{ on := 9, ground := Ground.data }, { on := 15, ground := Ground.data }], guard := none }) (v := (.bool true)) rfl (by kernel_rfl) (by kernel_rfl) (by kernel_rfl) (fun _ _ _ h => h) (Or.inl ⟨by rfl, ?_⟩) hHeld ?_
    · intro w9 hSw
      try dsimp only at hSw
      go_simp
    try simp only [Act.put, List.setIfInBounds_toArray, List.set_cons_zero, List.set_cons_succ]
    refine wpAnyH_take (i := 17) (oi := { dst := some 0, op := Op.assign (.tmp 35), type := 4, pos := "law.go:22", after := #[{ on := 16, ground := Ground.data }, { on := 15, ground := Ground.chain }, { on := 0, ground := Ground.phase }, { on := 1, ground := Ground.phase }, { on := 2, ground := Ground.phase }, { on := 3, ground := Ground.phase }, { on := 4, ground := Ground.phase }, { on := 5, ground := Ground.phase }, { on := 6, ground := Ground.phase }, { on := 7, ground := Ground.phase }, { on := 8, ground := Ground.phase }, { on := 9, ground := Ground.phase }, { on := 10, ground := Ground.phase }, { on := 11, ground := Ground.phase }, { on := 12, ground := Ground.phase }, { on := 13, ground := Ground.phase }, { on := 14, ground := Ground.phase }, { on := 15, ground := Ground.phase }, { on := 16, ground := Ground.phase }], guard := none }) (v := (.bool true)) rfl (by kernel_rfl) (by kernel_rfl) (by kernel_rfl) (fun _ _ _ h => h) (Or.inl ⟨by rfl, ?_⟩) hHeld ?_
    · intro w9 hSw
      try dsimp only at hSw
      go_simp
    try simp only [Act.put, List.setIfInBounds_toArray, List.set_cons_zero, List.set_cons_succ]
    refine wpAnyH_done (by kernel_rfl) ?_ _
    refine NoPanic.normal ?_
    go_wp2
    go_ret
    exact ⟨rfl, bel⟩
end Go.Proofs.Ytmlddgmkbbaccaa
