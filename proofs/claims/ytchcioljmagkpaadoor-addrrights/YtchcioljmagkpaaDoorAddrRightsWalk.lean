/- The law AddrRights returns true. -/
import Derived.Test.YtchcioljmagkpaaDoorRHasB
import Derived.Test.YtchcioljmagkpaaDoorOrd2
import Derived.Test.YtchcioljmagkpaaDoorAlv
import Derived.Test.YtchcioljmagkpaaDoorBlkY
import Derived.Deep.DeepCutAuto
namespace Go.Proofs.YtchcioljmagkpaaDoor
open Go.RowKit
set_option linter.unusedVariables false
set_option linter.unusedSimpArgs false

set_option maxRecDepth 100000 in
set_option maxHeartbeats 4000000 in
theorem addrRights_walk (f h l f' h' l' pf ph pl pb : Int) (w : World) (m : Int) (hoa : Ad.ok ⟨f, h, l⟩) (hob : Ad.ok ⟨f', h', l'⟩) (hop : Ad.ok ⟨pf, ph, pl⟩) (hm : w.cell? ⟨0, 0, none⟩ = some (.int .i64 m)) (ht : w.cell? ⟨5, 15, none⟩ = some (.int .u8 4)) :
    Calls Tryd.prog 3 #[.agg #[.int .i64 f, .int .u64 h, .int .u64 l], .agg #[.int .i64 f', .int .u64 h', .int .u64 l'], .agg #[.int .i64 pf, .int .u64 ph, .int .u64 pl, .int .i64 pb]] w fun e w' => e = .returned (.bool true) ∧ Below w.heap.size w w' := by
  obtain ⟨r1, hr1⟩ : ∃ r, Ad.right ⟨f, h, l⟩ = r := ⟨_, rfl⟩
  obtain ⟨r2, hr2⟩ : ∃ r, Ad.order ⟨f, h, l⟩ ⟨f', h', l'⟩ = r := ⟨_, rfl⟩
  obtain ⟨r3, hr3⟩ : ∃ r, Ad.rightPrefix ⟨pf, ph, pl⟩ pb = r := ⟨_, rfl⟩
  obtain ⟨r4, hr4⟩ : ∃ r, Ad.has ⟨pf, ph, pl⟩ pb ⟨f, h, l⟩ = r := ⟨_, rfl⟩
  have K1 : Hid (∀ W, Calls Tryd.prog 7 #[.agg #[.int .i64 f, .int .u64 h, .int .u64 l]] W fun e w' => e = .returned (.bool r1) ∧ Below W.heap.size W w') := fun W => by rw [← hr1]; exact (Calls.mono (right_any f h l W) (by rintro e w' ⟨rfl, rfl⟩; exact ⟨rfl, (Below.refl _ _).alloc (Nat.le_refl _) _⟩))
  have K2 : Hid (∀ W, Calls Tryd.prog 8 #[.agg #[.int .i64 f, .int .u64 h, .int .u64 l]] W fun e w' => e = .returned (.bool r1) ∧ Below W.heap.size W w') := fun W => by rw [← hr1]; exact (Calls.mono (rright_any f h l W hoa.2.2.1) (by rintro e w' ⟨rfl, rfl⟩; exact ⟨rfl, (Below.refl _ _).alloc (Nat.le_refl _) _⟩))
  have K3 : Hid (∀ W, Calls Tryd.prog 9 #[.agg #[.int .i64 f, .int .u64 h, .int .u64 l], .agg #[.int .i64 f', .int .u64 h', .int .u64 l']] W fun e w' => e = .returned (.int .i64 r2) ∧ Below W.heap.size W w') := fun W => by rw [← hr2]; exact order_any f h l f' h' l' W
  have K4 : Hid (∀ W, Calls Tryd.prog 10 #[.agg #[.int .i64 f, .int .u64 h, .int .u64 l], .agg #[.int .i64 f', .int .u64 h', .int .u64 l']] W fun e w' => e = .returned (.int .i64 r2) ∧ Below W.heap.size W w') := fun W => by rw [← hr2]; exact rorder_any f h l f' h' l' W
  have K5 : Hid (∀ W, Calls Tryd.prog 11 #[.agg #[.int .i64 pf, .int .u64 ph, .int .u64 pl, .int .i64 pb]] W fun e w' => e = .returned (.bool r3) ∧ Below W.heap.size W w') := fun W => by rw [← hr3]; exact rightPrefix_any pf ph pl pb W hop
  have K6 : Hid (∀ W, Calls Tryd.prog 12 #[.agg #[.int .i64 pf, .int .u64 ph, .int .u64 pl, .int .i64 pb]] W fun e w' => e = .returned (.bool r3) ∧ Below W.heap.size W w') := fun W => by rw [← hr3]; exact rrightPrefix_any pf ph pl pb W hop
  have K7 : Hid (∀ W, Calls Tryd.prog 13 #[.agg #[.int .i64 pf, .int .u64 ph, .int .u64 pl, .int .i64 pb], .agg #[.int .i64 f, .int .u64 h, .int .u64 l]] W fun e w' => e = .returned (.bool r4) ∧ Below W.heap.size W w') := fun W => by rw [← hr4]; exact has_any pf ph pl pb f h l W hoa
  have K8 : Hid (∀ W, Calls Tryd.prog 14 #[.agg #[.int .i64 pf, .int .u64 ph, .int .u64 pl, .int .i64 pb], .agg #[.int .i64 f, .int .u64 h, .int .u64 l]] W fun e w' => e = .returned (.bool r4) ∧ Below W.heap.size W w') := fun W => by rw [← hr4]; exact rhas_any pf ph pl pb f h l W hop hoa
  have KL : Hid (∀ W, Below w.heap.size w W → Calls Tryd.prog 15 #[] W fun e w' => e = .returned (.bool true) ∧ Below W.heap.size W w') := fun W hb => alive_any W m (kept hb hm) (kept hb ht)
  clear hr1 hr2 hr3 hr4 hoa hob hop
  obtain ⟨W1, hW1⟩ : ∃ W1, w.alloc (.cells #[.int .i64 f, .int .u64 h, .int .u64 l] 24) = W1 := ⟨_, rfl⟩
  have b1 := bel_nw hW1
  have A1 := blk_nw hW1
  obtain ⟨W2, hW2⟩ : ∃ W2, W1.alloc (.cells #[.int .i64 f', .int .u64 h', .int .u64 l'] 24) = W2 := ⟨_, rfl⟩
  have b2 := bel_al b1 hW2
  have A2 := A1.al hW2
  have B2 := blk_nw hW2
  obtain ⟨W3, hW3⟩ : ∃ W3, W2.alloc (.cells #[.int .i64 pf, .int .u64 ph, .int .u64 pl, .int .i64 pb] 26) = W3 := ⟨_, rfl⟩
  have b3 := bel_al b2 hW3
  have A3 := A2.al hW3
  have B3 := B2.al hW3
  have P3 := blk_nw hW3
  clear A1 A2 B2 b1 b2 hm ht
  go_enter Tryd.func3, Tryd.ntmps3
  go_wp2_with fail
  have Ad_ := A3.drew
  have Bd := B3.drew
  have Pd := P3.drew
  have bd := b3.drew
  refine wp_region_noPanic ?_
  refine wp_region_held_drew (S := fun w' => Blk w' w.heap.size 24 #[.int .i64 f, .int .u64 h, .int .u64 l] ∧ Blk w' W1.heap.size 24 #[.int .i64 f', .int .u64 h', .int .u64 l'] ∧ Blk w' W2.heap.size 26 #[.int .i64 pf, .int .u64 ph, .int .u64 pl, .int .i64 pb]) (by kernel_rfl) (by exact ⟨Ad_, Bd, Pd⟩) (fun hHeld => ?_)
  refine wpAnyH_take (i := 0) (oi := { dst := some 7, op := Op.load 24 (.tmp 3), type := 24, pos := "law.go:22", after := #[], guard := none }) (v := (.agg #[.int .i64 f, .int .u64 h, .int .u64 l])) rfl (by kernel_rfl) (by kernel_rfl) (by kernel_rfl) (fun _ _ _ h => h) (yieldsIf_blk_w (by kernel_rfl) _ _ rfl w.heap.size (by rfl) _ (fun _ hSw => hSw.1) Tryd.underlying24 (by kernel_rfl)) hHeld ?_
  try simp only [Act.put, List.setIfInBounds_toArray, List.set_cons_zero, List.set_cons_succ]
  refine wpAnyH_take (i := 2) (oi := { dst := some 9, op := Op.load 24 (.tmp 3), type := 24, pos := "law.go:22", after := #[], guard := none }) (v := (.agg #[.int .i64 f, .int .u64 h, .int .u64 l])) rfl (by kernel_rfl) (by kernel_rfl) (by kernel_rfl) (fun _ _ _ h => h) (yieldsIf_blk_w (by kernel_rfl) _ _ rfl w.heap.size (by rfl) _ (fun _ hSw => hSw.1) Tryd.underlying24 (by kernel_rfl)) hHeld ?_
  try simp only [Act.put, List.setIfInBounds_toArray, List.set_cons_zero, List.set_cons_succ]
  refine wpAnyH_ready (rs := [1]) (by kernel_rfl) (by simp) ?_
  refine AllReadyH.cons (o := { dst := some 8, op := Op.call { callee := Callee.value (.func 7), args := #[.tmp 7], argTypes := #[24] }, type := 4, pos := "law.go:22", after := #[{ on := 0, ground := Ground.data }], guard := none }) rfl (fun K hK => ?_) AllReadyH.nil
  go_simp
  refine Calls.mono (K1.out _) ?_
  rintro e W4 ⟨rfl, bb⟩
  have A4 := Ad_.kept bb
  have B4 := Bd.kept bb
  have P4 := Pd.kept bb
  have b4 := bel_tr bd bb
  refine hK.out _ _ ?_ (fun hHeld => ?_)
  · exact ⟨A4, B4, P4⟩
  clear hK K
  try simp only [Act.put, List.setIfInBounds_toArray, List.set_cons_zero, List.set_cons_succ]
  clear bb Ad_ Bd Pd bd K1
  refine wpAnyH_ready (rs := [3]) (by kernel_rfl) (by simp) ?_
  refine AllReadyH.cons (o := { dst := some 10, op := Op.call { callee := Callee.value (.func 8), args := #[.tmp 9], argTypes := #[24] }, type := 4, pos := "law.go:22", after := #[{ on := 2, ground := Ground.data }, { on := 1, ground := Ground.chain }], guard := none }) rfl (fun K hK => ?_) AllReadyH.nil
  go_simp
  refine Calls.mono (K2.out _) ?_
  rintro e W5 ⟨rfl, bb⟩
  have A5 := A4.kept bb
  have B5 := B4.kept bb
  have P5 := P4.kept bb
  have b5 := bel_tr b4 bb
  refine hK.out _ _ ?_ (fun hHeld => ?_)
  · exact ⟨A5, B5, P5⟩
  clear hK K
  try simp only [Act.put, List.setIfInBounds_toArray, List.set_cons_zero, List.set_cons_succ]
  clear bb A4 B4 P4 b4 K2
  refine wpAnyH_take (i := 4) (oi := { dst := some 11, op := Op.binOp BinOp.eql 4 (.tmp 8) (.tmp 10) 4, type := 4, pos := "law.go:22", after := #[{ on := 1, ground := Ground.data }, { on := 3, ground := Ground.data }], guard := none }) (v := (.bool true)) rfl (by kernel_rfl) (by kernel_rfl) (by kernel_rfl) (fun _ _ _ h => h) (Or.inl ⟨by rfl, ?_⟩) hHeld ?_
  · intro w9 hSw
    try dsimp only at hSw
    go_simp
  try simp only [Act.put, List.setIfInBounds_toArray, List.set_cons_zero, List.set_cons_succ]
  refine wpAnyH_take (i := 5) (oi := { dst := some 12, op := Op.move (.tmp 11), type := 4, pos := "law.go:22", after := #[{ on := 4, ground := Ground.data }, { on := 3, ground := Ground.chain }], guard := none }) (v := (.bool true)) rfl (by kernel_rfl) (by kernel_rfl) (by kernel_rfl) (fun _ _ _ h => h) (Or.inl ⟨by rfl, ?_⟩) hHeld ?_
  · intro w9 hSw
    try dsimp only at hSw
    go_simp
  try simp only [Act.put, List.setIfInBounds_toArray, List.set_cons_zero, List.set_cons_succ]
  refine wpAnyH_take (i := 6) (oi := { dst := some 13, op := Op.load 24 (.tmp 3), type := 24, pos := "law.go:22", after := #[{ on := 5, ground := Ground.guard }], guard := some (5, true) }) (v := (.agg #[.int .i64 f, .int .u64 h, .int .u64 l])) rfl (by kernel_rfl) (by kernel_rfl) (by kernel_rfl) (fun _ _ _ h => h) (yieldsIf_blk_w (by kernel_rfl) _ _ rfl w.heap.size (by rfl) _ (fun _ hSw => hSw.1) Tryd.underlying24 (by kernel_rfl)) hHeld ?_
  try simp only [Act.put, List.setIfInBounds_toArray, List.set_cons_zero, List.set_cons_succ]
  refine wpAnyH_take (i := 7) (oi := { dst := some 14, op := Op.load 24 (.tmp 4), type := 24, pos := "law.go:22", after := #[{ on := 5, ground := Ground.guard }], guard := some (5, true) }) (v := (.agg #[.int .i64 f', .int .u64 h', .int .u64 l'])) rfl (by kernel_rfl) (by kernel_rfl) (by kernel_rfl) (fun _ _ _ h => h) (yieldsIf_blk_w (by kernel_rfl) _ _ rfl W1.heap.size (by rfl) _ (fun _ hSw => hSw.2.1) Tryd.underlying24 (by kernel_rfl)) hHeld ?_
  try simp only [Act.put, List.setIfInBounds_toArray, List.set_cons_zero, List.set_cons_succ]
  refine wpAnyH_take (i := 9) (oi := { dst := some 16, op := Op.load 24 (.tmp 3), type := 24, pos := "law.go:22", after := #[{ on := 5, ground := Ground.guard }], guard := some (5, true) }) (v := (.agg #[.int .i64 f, .int .u64 h, .int .u64 l])) rfl (by kernel_rfl) (by kernel_rfl) (by kernel_rfl) (fun _ _ _ h => h) (yieldsIf_blk_w (by kernel_rfl) _ _ rfl w.heap.size (by rfl) _ (fun _ hSw => hSw.1) Tryd.underlying24 (by kernel_rfl)) hHeld ?_
  try simp only [Act.put, List.setIfInBounds_toArray, List.set_cons_zero, List.set_cons_succ]
  refine wpAnyH_take (i := 10) (oi := { dst := some 17, op := Op.load 24 (.tmp 4), type := 24, pos := "law.go:22", after := #[{ on := 5, ground := Ground.guard }], guard := some (5, true) }) (v := (.agg #[.int .i64 f', .int .u64 h', .int .u64 l'])) rfl (by kernel_rfl) (by kernel_rfl) (by kernel_rfl) (fun _ _ _ h => h) (yieldsIf_blk_w (by kernel_rfl) _ _ rfl W1.heap.size (by rfl) _ (fun _ hSw => hSw.2.1) Tryd.underlying24 (by kernel_rfl)) hHeld ?_
  try simp only [Act.put, List.setIfInBounds_toArray, List.set_cons_zero, List.set_cons_succ]
  refine wpAnyH_ready (rs := [8]) (by kernel_rfl) (by simp) ?_
  refine AllReadyH.cons (o := { dst := some 15, op := Op.call { callee := Callee.value (.func 9), args := #[.tmp 13, .tmp 14], argTypes := #[24, 24] }, type := 3, pos := "law.go:22", after := #[{ on := 6, ground := Ground.data }, { on := 7, ground := Ground.data }, { on := 5, ground := Ground.chain }, { on := 5, ground := Ground.guard }], guard := some (5, true) }) rfl (fun K hK => ?_) AllReadyH.nil
  go_simp
  refine Calls.mono (K3.out _) ?_
  rintro e W6 ⟨rfl, bb⟩
  have A6 := A5.kept bb
  have B6 := B5.kept bb
  have P6 := P5.kept bb
  have b6 := bel_tr b5 bb
  refine hK.out _ _ ?_ (fun hHeld => ?_)
  · exact ⟨A6, B6, P6⟩
  clear hK K
  try simp only [Act.put, List.setIfInBounds_toArray, List.set_cons_zero, List.set_cons_succ]
  clear bb A5 B5 P5 b5 K3
  refine wpAnyH_ready (rs := [11]) (by kernel_rfl) (by simp) ?_
  refine AllReadyH.cons (o := { dst := some 18, op := Op.call { callee := Callee.value (.func 10), args := #[.tmp 16, .tmp 17], argTypes := #[24, 24] }, type := 3, pos := "law.go:22", after := #[{ on := 9, ground := Ground.data }, { on := 10, ground := Ground.data }, { on := 8, ground := Ground.chain }, { on := 5, ground := Ground.guard }], guard := some (5, true) }) rfl (fun K hK => ?_) AllReadyH.nil
  go_simp
  refine Calls.mono (K4.out _) ?_
  rintro e W7 ⟨rfl, bb⟩
  have A7 := A6.kept bb
  have B7 := B6.kept bb
  have P7 := P6.kept bb
  have b7 := bel_tr b6 bb
  refine hK.out _ _ ?_ (fun hHeld => ?_)
  · exact ⟨A7, B7, P7⟩
  clear hK K
  try simp only [Act.put, List.setIfInBounds_toArray, List.set_cons_zero, List.set_cons_succ]
  clear bb A6 B6 P6 b6 K4
  refine wpAnyH_take (i := 12) (oi := { dst := some 19, op := Op.binOp BinOp.eql 3 (.tmp 15) (.tmp 18) 3, type := 4, pos := "law.go:22", after := #[{ on := 8, ground := Ground.data }, { on := 11, ground := Ground.data }, { on := 5, ground := Ground.guard }], guard := some (5, true) }) (v := (.bool true)) rfl (by kernel_rfl) (by kernel_rfl) (by kernel_rfl) (fun _ _ _ h => h) (Or.inl ⟨by rfl, ?_⟩) hHeld ?_
  · intro w9 hSw
    try dsimp only at hSw
    go_simp
  try simp only [Act.put, List.setIfInBounds_toArray, List.set_cons_zero, List.set_cons_succ]
  refine wpAnyH_take (i := 13) (oi := { dst := some 20, op := Op.pick (.tmp 12) (.tmp 19) (.const (.bool false)), type := 4, pos := "law.go:22", after := #[{ on := 5, ground := Ground.data }, { on := 12, ground := Ground.data }], guard := none }) (v := (.bool true)) rfl (by kernel_rfl) (by kernel_rfl) (by kernel_rfl) (fun _ _ _ h => h) (Or.inl ⟨by rfl, ?_⟩) hHeld ?_
  · intro w9 hSw
    try dsimp only at hSw
    go_simp
  try simp only [Act.put, List.setIfInBounds_toArray, List.set_cons_zero, List.set_cons_succ]
  refine wpAnyH_take (i := 14) (oi := { dst := some 21, op := Op.move (.tmp 20), type := 4, pos := "law.go:22", after := #[{ on := 13, ground := Ground.data }, { on := 11, ground := Ground.chain }], guard := none }) (v := (.bool true)) rfl (by kernel_rfl) (by kernel_rfl) (by kernel_rfl) (fun _ _ _ h => h) (Or.inl ⟨by rfl, ?_⟩) hHeld ?_
  · intro w9 hSw
    try dsimp only at hSw
    go_simp
  try simp only [Act.put, List.setIfInBounds_toArray, List.set_cons_zero, List.set_cons_succ]
  refine wpAnyH_take (i := 15) (oi := { dst := some 22, op := Op.load 26 (.tmp 5), type := 26, pos := "law.go:22", after := #[{ on := 14, ground := Ground.guard }], guard := some (14, true) }) (v := (.agg #[.int .i64 pf, .int .u64 ph, .int .u64 pl, .int .i64 pb])) rfl (by kernel_rfl) (by kernel_rfl) (by kernel_rfl) (fun _ _ _ h => h) (yieldsIf_blk_w (by kernel_rfl) _ _ rfl W2.heap.size (by rfl) _ (fun _ hSw => hSw.2.2) Tryd.underlying26 (by kernel_rfl)) hHeld ?_
  try simp only [Act.put, List.setIfInBounds_toArray, List.set_cons_zero, List.set_cons_succ]
  refine wpAnyH_take (i := 17) (oi := { dst := some 24, op := Op.load 26 (.tmp 5), type := 26, pos := "law.go:22", after := #[{ on := 14, ground := Ground.guard }], guard := some (14, true) }) (v := (.agg #[.int .i64 pf, .int .u64 ph, .int .u64 pl, .int .i64 pb])) rfl (by kernel_rfl) (by kernel_rfl) (by kernel_rfl) (fun _ _ _ h => h) (yieldsIf_blk_w (by kernel_rfl) _ _ rfl W2.heap.size (by rfl) _ (fun _ hSw => hSw.2.2) Tryd.underlying26 (by kernel_rfl)) hHeld ?_
  try simp only [Act.put, List.setIfInBounds_toArray, List.set_cons_zero, List.set_cons_succ]
  refine wpAnyH_ready (rs := [16]) (by kernel_rfl) (by simp) ?_
  refine AllReadyH.cons (o := { dst := some 23, op := Op.call { callee := Callee.value (.func 11), args := #[.tmp 22], argTypes := #[26] }, type := 4, pos := "law.go:22", after := #[{ on := 15, ground := Ground.data }, { on := 14, ground := Ground.chain }, { on := 14, ground := Ground.guard }], guard := some (14, true) }) rfl (fun K hK => ?_) AllReadyH.nil
  go_simp
  refine Calls.mono (K5.out _) ?_
  rintro e W8 ⟨rfl, bb⟩
  have A8 := A7.kept bb
  have B8 := B7.kept bb
  have P8 := P7.kept bb
  have b8 := bel_tr b7 bb
  refine hK.out _ _ ?_ (fun hHeld => ?_)
  · exact ⟨A8, B8, P8⟩
  clear hK K
  try simp only [Act.put, List.setIfInBounds_toArray, List.set_cons_zero, List.set_cons_succ]
  clear bb A7 B7 P7 b7 K5
  refine wpAnyH_ready (rs := [18]) (by kernel_rfl) (by simp) ?_
  refine AllReadyH.cons (o := { dst := some 25, op := Op.call { callee := Callee.value (.func 12), args := #[.tmp 24], argTypes := #[26] }, type := 4, pos := "law.go:22", after := #[{ on := 17, ground := Ground.data }, { on := 16, ground := Ground.chain }, { on := 14, ground := Ground.guard }], guard := some (14, true) }) rfl (fun K hK => ?_) AllReadyH.nil
  go_simp
  refine Calls.mono (K6.out _) ?_
  rintro e W9 ⟨rfl, bb⟩
  have A9 := A8.kept bb
  have B9 := B8.kept bb
  have P9 := P8.kept bb
  have b9 := bel_tr b8 bb
  refine hK.out _ _ ?_ (fun hHeld => ?_)
  · exact ⟨A9, B9, P9⟩
  clear hK K
  try simp only [Act.put, List.setIfInBounds_toArray, List.set_cons_zero, List.set_cons_succ]
  clear bb A8 B8 P8 b8 K6
  refine wpAnyH_take (i := 19) (oi := { dst := some 26, op := Op.binOp BinOp.eql 4 (.tmp 23) (.tmp 25) 4, type := 4, pos := "law.go:22", after := #[{ on := 16, ground := Ground.data }, { on := 18, ground := Ground.data }, { on := 14, ground := Ground.guard }], guard := some (14, true) }) (v := (.bool true)) rfl (by kernel_rfl) (by kernel_rfl) (by kernel_rfl) (fun _ _ _ h => h) (Or.inl ⟨by rfl, ?_⟩) hHeld ?_
  · intro w9 hSw
    try dsimp only at hSw
    go_simp
  try simp only [Act.put, List.setIfInBounds_toArray, List.set_cons_zero, List.set_cons_succ]
  refine wpAnyH_take (i := 20) (oi := { dst := some 27, op := Op.pick (.tmp 21) (.tmp 26) (.const (.bool false)), type := 4, pos := "law.go:22", after := #[{ on := 14, ground := Ground.data }, { on := 19, ground := Ground.data }], guard := none }) (v := (.bool true)) rfl (by kernel_rfl) (by kernel_rfl) (by kernel_rfl) (fun _ _ _ h => h) (Or.inl ⟨by rfl, ?_⟩) hHeld ?_
  · intro w9 hSw
    try dsimp only at hSw
    go_simp
  try simp only [Act.put, List.setIfInBounds_toArray, List.set_cons_zero, List.set_cons_succ]
  refine wpAnyH_take (i := 21) (oi := { dst := some 28, op := Op.move (.tmp 27), type := 4, pos := "law.go:22", after := #[{ on := 20, ground := Ground.data }, { on := 18, ground := Ground.chain }], guard := none }) (v := (.bool true)) rfl (by kernel_rfl) (by kernel_rfl) (by kernel_rfl) (fun _ _ _ h => h) (Or.inl ⟨by rfl, ?_⟩) hHeld ?_
  · intro w9 hSw
    try dsimp only at hSw
    go_simp
  try simp only [Act.put, List.setIfInBounds_toArray, List.set_cons_zero, List.set_cons_succ]
  refine wpAnyH_take (i := 22) (oi := { dst := some 29, op := Op.load 26 (.tmp 5), type := 26, pos := "law.go:22", after := #[{ on := 21, ground := Ground.guard }], guard := some (21, true) }) (v := (.agg #[.int .i64 pf, .int .u64 ph, .int .u64 pl, .int .i64 pb])) rfl (by kernel_rfl) (by kernel_rfl) (by kernel_rfl) (fun _ _ _ h => h) (yieldsIf_blk_w (by kernel_rfl) _ _ rfl W2.heap.size (by rfl) _ (fun _ hSw => hSw.2.2) Tryd.underlying26 (by kernel_rfl)) hHeld ?_
  try simp only [Act.put, List.setIfInBounds_toArray, List.set_cons_zero, List.set_cons_succ]
  refine wpAnyH_take (i := 23) (oi := { dst := some 30, op := Op.load 24 (.tmp 3), type := 24, pos := "law.go:22", after := #[{ on := 21, ground := Ground.guard }], guard := some (21, true) }) (v := (.agg #[.int .i64 f, .int .u64 h, .int .u64 l])) rfl (by kernel_rfl) (by kernel_rfl) (by kernel_rfl) (fun _ _ _ h => h) (yieldsIf_blk_w (by kernel_rfl) _ _ rfl w.heap.size (by rfl) _ (fun _ hSw => hSw.1) Tryd.underlying24 (by kernel_rfl)) hHeld ?_
  try simp only [Act.put, List.setIfInBounds_toArray, List.set_cons_zero, List.set_cons_succ]
  refine wpAnyH_take (i := 25) (oi := { dst := some 32, op := Op.load 26 (.tmp 5), type := 26, pos := "law.go:22", after := #[{ on := 21, ground := Ground.guard }], guard := some (21, true) }) (v := (.agg #[.int .i64 pf, .int .u64 ph, .int .u64 pl, .int .i64 pb])) rfl (by kernel_rfl) (by kernel_rfl) (by kernel_rfl) (fun _ _ _ h => h) (yieldsIf_blk_w (by kernel_rfl) _ _ rfl W2.heap.size (by rfl) _ (fun _ hSw => hSw.2.2) Tryd.underlying26 (by kernel_rfl)) hHeld ?_
  try simp only [Act.put, List.setIfInBounds_toArray, List.set_cons_zero, List.set_cons_succ]
  refine wpAnyH_take (i := 26) (oi := { dst := some 33, op := Op.load 24 (.tmp 3), type := 24, pos := "law.go:22", after := #[{ on := 21, ground := Ground.guard }], guard := some (21, true) }) (v := (.agg #[.int .i64 f, .int .u64 h, .int .u64 l])) rfl (by kernel_rfl) (by kernel_rfl) (by kernel_rfl) (fun _ _ _ h => h) (yieldsIf_blk_w (by kernel_rfl) _ _ rfl w.heap.size (by rfl) _ (fun _ hSw => hSw.1) Tryd.underlying24 (by kernel_rfl)) hHeld ?_
  try simp only [Act.put, List.setIfInBounds_toArray, List.set_cons_zero, List.set_cons_succ]
  refine wpAnyH_ready (rs := [24]) (by kernel_rfl) (by simp) ?_
  refine AllReadyH.cons (o := { dst := some 31, op := Op.call { callee := Callee.value (.func 13), args := #[.tmp 29, .tmp 30], argTypes := #[26, 24] }, type := 4, pos := "law.go:22", after := #[{ on := 22, ground := Ground.data }, { on := 23, ground := Ground.data }, { on := 21, ground := Ground.chain }, { on := 21, ground := Ground.guard }], guard := some (21, true) }) rfl (fun K hK => ?_) AllReadyH.nil
  go_simp
  refine Calls.mono (K7.out _) ?_
  rintro e W10 ⟨rfl, bb⟩
  have A10 := A9.kept bb
  have B10 := B9.kept bb
  have P10 := P9.kept bb
  have b10 := bel_tr b9 bb
  refine hK.out _ _ ?_ (fun hHeld => ?_)
  · exact ⟨A10, B10, P10⟩
  clear hK K
  try simp only [Act.put, List.setIfInBounds_toArray, List.set_cons_zero, List.set_cons_succ]
  clear bb A9 B9 P9 b9 K7
  refine wpAnyH_ready (rs := [27]) (by kernel_rfl) (by simp) ?_
  refine AllReadyH.cons (o := { dst := some 34, op := Op.call { callee := Callee.value (.func 14), args := #[.tmp 32, .tmp 33], argTypes := #[26, 24] }, type := 4, pos := "law.go:22", after := #[{ on := 25, ground := Ground.data }, { on := 26, ground := Ground.data }, { on := 24, ground := Ground.chain }, { on := 21, ground := Ground.guard }], guard := some (21, true) }) rfl (fun K hK => ?_) AllReadyH.nil
  go_simp
  refine Calls.mono (K8.out _) ?_
  rintro e W11 ⟨rfl, bb⟩
  have A11 := A10.kept bb
  have B11 := B10.kept bb
  have P11 := P10.kept bb
  have b11 := bel_tr b10 bb
  refine hK.out _ _ ?_ (fun hHeld => ?_)
  · exact ⟨A11, B11, P11⟩
  clear hK K
  try simp only [Act.put, List.setIfInBounds_toArray, List.set_cons_zero, List.set_cons_succ]
  clear bb A10 B10 P10 b10 K8
  refine wpAnyH_take (i := 28) (oi := { dst := some 35, op := Op.binOp BinOp.eql 4 (.tmp 31) (.tmp 34) 4, type := 4, pos := "law.go:22", after := #[{ on := 24, ground := Ground.data }, { on := 27, ground := Ground.data }, { on := 21, ground := Ground.guard }], guard := some (21, true) }) (v := (.bool true)) rfl (by kernel_rfl) (by kernel_rfl) (by kernel_rfl) (fun _ _ _ h => h) (Or.inl ⟨by rfl, ?_⟩) hHeld ?_
  · intro w9 hSw
    try dsimp only at hSw
    go_simp
  try simp only [Act.put, List.setIfInBounds_toArray, List.set_cons_zero, List.set_cons_succ]
  refine wpAnyH_take (i := 29) (oi := { dst := some 36, op := Op.pick (.tmp 28) (.tmp 35) (.const (.bool false)), type := 4, pos := "law.go:22", after := #[{ on := 21, ground := Ground.data }, { on := 28, ground := Ground.data }], guard := none }) (v := (.bool true)) rfl (by kernel_rfl) (by kernel_rfl) (by kernel_rfl) (fun _ _ _ h => h) (Or.inl ⟨by rfl, ?_⟩) hHeld ?_
  · intro w9 hSw
    try dsimp only at hSw
    go_simp
  try simp only [Act.put, List.setIfInBounds_toArray, List.set_cons_zero, List.set_cons_succ]
  refine wpAnyH_take (i := 30) (oi := { dst := some 37, op := Op.move (.tmp 36), type := 4, pos := "law.go:22", after := #[{ on := 29, ground := Ground.data }, { on := 27, ground := Ground.chain }], guard := none }) (v := (.bool true)) rfl (by kernel_rfl) (by kernel_rfl) (by kernel_rfl) (fun _ _ _ h => h) (Or.inl ⟨by rfl, ?_⟩) hHeld ?_
  · intro w9 hSw
    try dsimp only at hSw
    go_simp
  try simp only [Act.put, List.setIfInBounds_toArray, List.set_cons_zero, List.set_cons_succ]
  refine wpAnyH_ready (rs := [31]) (by kernel_rfl) (by simp) ?_
  refine AllReadyH.cons (o := { dst := some 38, op := Op.call { callee := Callee.value (.func 15), args := #[], argTypes := #[] }, type := 4, pos := "law.go:22", after := #[{ on := 30, ground := Ground.chain }, { on := 30, ground := Ground.guard }], guard := some (30, true) }) rfl (fun K hK => ?_) AllReadyH.nil
  go_simp
  refine Calls.mono (KL.out _ b11) ?_
  rintro e W12 ⟨rfl, bb⟩
  have A12 := A11.kept bb
  have B12 := B11.kept bb
  have P12 := P11.kept bb
  have b12 := bel_tr b11 bb
  refine hK.out _ _ ?_ (fun hHeld => ?_)
  · exact ⟨A12, B12, P12⟩
  clear hK K
  try simp only [Act.put, List.setIfInBounds_toArray, List.set_cons_zero, List.set_cons_succ]
  clear bb A11 B11 P11 b11 KL
  refine wpAnyH_take (i := 32) (oi := { dst := some 39, op := Op.pick (.tmp 37) (.tmp 38) (.const (.bool false)), type := 4, pos := "law.go:22", after := #[{ on := 30, ground := Ground.data }, { on := 31, ground := Ground.data }], guard := none }) (v := (.bool true)) rfl (by kernel_rfl) (by kernel_rfl) (by kernel_rfl) (fun _ _ _ h => h) (Or.inl ⟨by rfl, ?_⟩) hHeld ?_
  · intro w9 hSw
    try dsimp only at hSw
    go_simp
  try simp only [Act.put, List.setIfInBounds_toArray, List.set_cons_zero, List.set_cons_succ]
  refine wpAnyH_take (i := 33) (oi := { dst := some 6, op := Op.assign (.tmp 39), type := 4, pos := "law.go:22", after := #[{ on := 32, ground := Ground.data }, { on := 31, ground := Ground.chain }, { on := 0, ground := Ground.phase }, { on := 1, ground := Ground.phase }, { on := 2, ground := Ground.phase }, { on := 3, ground := Ground.phase }, { on := 4, ground := Ground.phase }, { on := 5, ground := Ground.phase }, { on := 6, ground := Ground.phase }, { on := 7, ground := Ground.phase }, { on := 8, ground := Ground.phase }, { on := 9, ground := Ground.phase }, { on := 10, ground := Ground.phase }, { on := 11, ground := Ground.phase }, { on := 12, ground := Ground.phase }, { on := 13, ground := Ground.phase }, { on := 14, ground := Ground.phase }, { on := 15, ground := Ground.phase }, { on := 16, ground := Ground.phase }, { on := 17, ground := Ground.phase }, { on := 18, ground := Ground.phase }, { on := 19, ground := Ground.phase }, { on := 20, ground := Ground.phase }, { on := 21, ground := Ground.phase }, { on := 22, ground := Ground.phase }, { on := 23, ground := Ground.phase }, { on := 24, ground := Ground.phase }, { on := 25, ground := Ground.phase }, { on := 26, ground := Ground.phase }, { on := 27, ground := Ground.phase }, { on := 28, ground := Ground.phase }, { on := 29, ground := Ground.phase }, { on := 30, ground := Ground.phase }, { on := 31, ground := Ground.phase }, { on := 32, ground := Ground.phase }], guard := none }) (v := (.bool true)) rfl (by kernel_rfl) (by kernel_rfl) (by kernel_rfl) (fun _ _ _ h => h) (Or.inl ⟨by rfl, ?_⟩) hHeld ?_
  · intro w9 hSw
    try dsimp only at hSw
    go_simp
  try simp only [Act.put, List.setIfInBounds_toArray, List.set_cons_zero, List.set_cons_succ]
  refine wpAnyH_done (by kernel_rfl) ?_ _
  refine NoPanic.normal ?_
  go_wp2
  go_ret
  exact ⟨rfl, b12⟩

end Go.Proofs.YtchcioljmagkpaaDoor
