/- For every input the law TupleKinds returns true and leaves its arguments as they were; the tables of Go's library that its row lists hold what they are listed with (the card ties them). -/
import Derived.Test.YtjdapofjlbifjaaDoorTpa30
import Derived.Test.YtjdapofjlbifjaaDoorTpa38
import Derived.Test.YtjdapofjlbifjaaDoorCards
import Derived.Test.YtjdapofjlbifjaaDoorTie
import Derived.WalkKit
import Derived.ProofKit
import Derived.OpenShut
import Derived.ChangeOld
import Derived.Below
import Derived.Carry
import Derived.SizedLaws
import Derived.Deep.DeepHandedRow
import Derived.SevenTiedAt
namespace Go.Proofs.YtjdapofjlbifjaaDoor
abbrev tpa42o0 : Oper := { dst := some 2, op := Op.assign (.tmp 26), type := 4, pos := "law.go:32", after := #[{ on := 23, ground := Ground.data }, { on := 22, ground := Ground.chain }, { on := 0, ground := Ground.phase }, { on := 1, ground := Ground.phase }, { on := 2, ground := Ground.phase }, { on := 3, ground := Ground.phase }, { on := 4, ground := Ground.phase }, { on := 5, ground := Ground.phase }, { on := 6, ground := Ground.phase }, { on := 7, ground := Ground.phase }, { on := 8, ground := Ground.phase }, { on := 9, ground := Ground.phase }, { on := 10, ground := Ground.phase }, { on := 11, ground := Ground.phase }, { on := 12, ground := Ground.phase }, { on := 13, ground := Ground.phase }, { on := 14, ground := Ground.phase }, { on := 15, ground := Ground.phase }, { on := 16, ground := Ground.phase }, { on := 17, ground := Ground.phase }, { on := 18, ground := Ground.phase }, { on := 19, ground := Ground.phase }, { on := 20, ground := Ground.phase }, { on := 21, ground := Ground.phase }, { on := 22, ground := Ground.phase }, { on := 23, ground := Ground.phase }], guard := none }
abbrev tpa42o1 : Oper := { dst := some 12, op := Op.call { callee := Callee.value (.func 23), args := #[.tmp 11], argTypes := #[24] }, type := 4, pos := "law.go:32", after := #[{ on := 8, ground := Ground.data }, { on := 7, ground := Ground.chain }, { on := 5, ground := Ground.guard }], guard := some (5, true) }
abbrev tpa42o2 : Oper := { dst := some 17, op := Op.call { callee := Callee.value (.func 20), args := #[.tmp 16], argTypes := #[24] }, type := 4, pos := "law.go:32", after := #[{ on := 13, ground := Ground.data }, { on := 12, ground := Ground.chain }, { on := 12, ground := Ground.guard }], guard := some (12, true) }
abbrev tpa42o3 : Oper := { dst := some 20, op := Op.call { callee := Callee.value (.func 22), args := #[.tmp 19], argTypes := #[24] }, type := 4, pos := "law.go:32", after := #[{ on := 16, ground := Ground.data }, { on := 15, ground := Ground.chain }, { on := 15, ground := Ground.guard }], guard := some (15, true) }
abbrev tpa42o4 : Oper := { dst := some 10, op := Op.call { callee := Callee.value (.func 22), args := #[.tmp 9], argTypes := #[24] }, type := 4, pos := "law.go:32", after := #[{ on := 6, ground := Ground.data }, { on := 5, ground := Ground.chain }, { on := 5, ground := Ground.guard }], guard := some (5, true) }
abbrev tpa42o5 : Oper := { dst := some 6, op := Op.call { callee := Callee.value (.func 21), args := #[.tmp 5], argTypes := #[24] }, type := 4, pos := "law.go:32", after := #[{ on := 2, ground := Ground.data }, { on := 1, ground := Ground.chain }], guard := none }
abbrev tpa42o6 : Oper := { dst := some 25, op := Op.call { callee := Callee.value (.func 15), args := #[], argTypes := #[] }, type := 4, pos := "law.go:32", after := #[{ on := 21, ground := Ground.chain }, { on := 21, ground := Ground.guard }], guard := some (21, true) }
abbrev tpa42o7 : Oper := { dst := some 13, op := Op.binOp BinOp.eql 4 (.tmp 10) (.tmp 12) 4, type := 4, pos := "law.go:32", after := #[{ on := 7, ground := Ground.data }, { on := 9, ground := Ground.data }, { on := 5, ground := Ground.guard }], guard := some (5, true) }
abbrev tpa42o8 : Oper := { dst := some 21, op := Op.pick (.tmp 18) (.tmp 20) (.const (.bool false)), type := 4, pos := "law.go:32", after := #[{ on := 15, ground := Ground.data }, { on := 17, ground := Ground.data }, { on := 12, ground := Ground.guard }], guard := some (12, true) }
abbrev tpa42o9 : Oper := { dst := some 4, op := Op.call { callee := Callee.value (.func 20), args := #[.tmp 3], argTypes := #[24] }, type := 4, pos := "law.go:32", after := #[{ on := 0, ground := Ground.data }], guard := none }
abbrev tpa42o10 : Oper := { dst := some 18, op := Op.move (.tmp 17), type := 4, pos := "law.go:32", after := #[{ on := 14, ground := Ground.data }, { on := 14, ground := Ground.chain }, { on := 12, ground := Ground.guard }], guard := some (12, true) }
abbrev tpa42o11 : Oper := { dst := some 7, op := Op.binOp BinOp.eql 4 (.tmp 4) (.tmp 6) 4, type := 4, pos := "law.go:32", after := #[{ on := 1, ground := Ground.data }, { on := 3, ground := Ground.data }], guard := none }
abbrev tpa42o12 : Oper := { dst := some 23, op := Op.pick (.tmp 15) (.tmp 22) (.const (.bool false)), type := 4, pos := "law.go:32", after := #[{ on := 12, ground := Ground.data }, { on := 19, ground := Ground.data }], guard := none }
abbrev tpa42o13 : Oper := { dst := some 26, op := Op.pick (.tmp 24) (.tmp 25) (.const (.bool false)), type := 4, pos := "law.go:32", after := #[{ on := 21, ground := Ground.data }, { on := 22, ground := Ground.data }], guard := none }
abbrev tpa42o14 : Oper := { dst := some 14, op := Op.pick (.tmp 8) (.tmp 13) (.const (.bool false)), type := 4, pos := "law.go:32", after := #[{ on := 5, ground := Ground.data }, { on := 10, ground := Ground.data }], guard := none }
abbrev tpa42o15 : Oper := { dst := some 22, op := Op.unOp UnOp.not 4 (.tmp 21), type := 4, pos := "law.go:32", after := #[{ on := 18, ground := Ground.data }, { on := 12, ground := Ground.guard }], guard := some (12, true) }
abbrev tpa42o16 : Oper := { dst := some 24, op := Op.move (.tmp 23), type := 4, pos := "law.go:32", after := #[{ on := 20, ground := Ground.data }, { on := 17, ground := Ground.chain }], guard := none }
abbrev tpa42o17 : Oper := { dst := some 15, op := Op.move (.tmp 14), type := 4, pos := "law.go:32", after := #[{ on := 11, ground := Ground.data }, { on := 9, ground := Ground.chain }], guard := none }
abbrev tpa42o18 : Oper := { dst := some 8, op := Op.move (.tmp 7), type := 4, pos := "law.go:32", after := #[{ on := 4, ground := Ground.data }, { on := 3, ground := Ground.chain }], guard := none }
abbrev tpa42o19 : Oper := { dst := some 16, op := Op.load 24 (.tmp 1), type := 24, pos := "law.go:32", after := #[{ on := 12, ground := Ground.guard }], guard := some (12, true) }
abbrev tpa42o20 : Oper := { dst := some 19, op := Op.load 24 (.tmp 1), type := 24, pos := "law.go:32", after := #[{ on := 15, ground := Ground.guard }], guard := some (15, true) }
abbrev tpa42o21 : Oper := { dst := some 11, op := Op.load 24 (.tmp 1), type := 24, pos := "law.go:32", after := #[{ on := 5, ground := Ground.guard }], guard := some (5, true) }
abbrev tpa42o22 : Oper := { dst := some 9, op := Op.load 24 (.tmp 1), type := 24, pos := "law.go:32", after := #[{ on := 5, ground := Ground.guard }], guard := some (5, true) }
abbrev tpa42o23 : Oper := { dst := some 3, op := Op.load 24 (.tmp 1), type := 24, pos := "law.go:32", after := #[], guard := none }
abbrev tpa42o24 : Oper := { dst := some 5, op := Op.load 24 (.tmp 1), type := 24, pos := "law.go:32", after := #[], guard := none }
end Go.Proofs.YtjdapofjlbifjaaDoor
namespace Go.Proofs.YtjdapofjlbifjaaDoor
open Go.RowKit
set_option linter.unusedVariables false
set_option linter.unusedSimpArgs false
set_option maxRecDepth 100000 in
set_option maxHeartbeats 4000000 in
theorem tupleKinds_walk (f h l : Int) (w : World) (oka : Ad.ok ⟨f, h, l⟩) (ht : w.cell? ⟨3, 15, none⟩ = some (.int .u8 4)) (htab : Lib.TabIs Tryd.prog w "internal/strconv.uint64pow10" .u64 Lib.pow10Tab) :
    Calls Tryd.prog 5 #[.agg #[.int .i64 f, .int .u64 h, .int .u64 l]] w fun e w' => e = .returned (.bool true) ∧ Below w.heap.size w w' := by
  have gp : Tryd.prog.globalNamed "internal/strconv.uint64pow10" = some 0 := by kernel_rfl
  have cells : ∀ W, Below w.heap.size w W → W.cell? ⟨3, 15, none⟩ = some (.int .u8 4) ∧ Lib.TabIs Tryd.prog W "internal/strconv.uint64pow10" .u64 Lib.pow10Tab := fun W hW => ⟨kept hW ht, Go.Joins.tab_stays gp htab hW (Nat.le_refl _)⟩
  have KL : Hid (∀ W, Below w.heap.size w W → Calls Tryd.prog 15 #[] W fun e w' => e = .returned (.bool true) ∧ Below W.heap.size W w') := fun W hb => alive_t W (cells W hb).1 (cells W hb).2
  have K1 : Hid (∀ W, Below w.heap.size w W → Calls Tryd.prog 20 #[.agg #[.int .i64 f, .int .u64 h, .int .u64 l]] W fun e w' => e = .returned (.bool (manyB ⟨f, h, l⟩)) ∧ Below W.heap.size W w') := fun W hb => by have := many_t f h l W oka; rw [many_eq oka] at this; exact this
  have K2 : Hid (∀ W, Below w.heap.size w W → Calls Tryd.prog 21 #[.agg #[.int .i64 f, .int .u64 h, .int .u64 l]] W fun e w' => e = .returned (.bool (manyB ⟨f, h, l⟩)) ∧ Below W.heap.size W w') := fun W hb => rmany_t f h l W oka
  have K3 : Hid (∀ W, Below w.heap.size w W → Calls Tryd.prog 22 #[.agg #[.int .i64 f, .int .u64 h, .int .u64 l]] W fun e w' => e = .returned (.bool (hostB ⟨f, h, l⟩)) ∧ Below W.heap.size W w') := fun W hb => by have := host_t f h l W oka; rw [host_eq oka] at this; exact this
  have K4 : Hid (∀ W, Below w.heap.size w W → Calls Tryd.prog 23 #[.agg #[.int .i64 f, .int .u64 h, .int .u64 l]] W fun e w' => e = .returned (.bool (hostB ⟨f, h, l⟩)) ∧ Below W.heap.size W w') := fun W hb => rhost_t f h l W oka
  have hn := not_both ⟨f, h, l⟩
  generalize manyB ⟨f, h, l⟩ = M at *
  generalize hostB ⟨f, h, l⟩ = H at *
  clear oka ht htab gp cells
  obtain ⟨W1, hW1⟩ : ∃ W, w.alloc (.cells #[.int .i64 f, .int .u64 h, .int .u64 l] 24) = W := ⟨_, rfl⟩
  have b1 := bel_nw hW1
  have A1 := blk_nw hW1
  cases M with
  | false =>
    clear hn
    go_enter Tryd.func5, Tryd.ntmps5
    go_wp2_with fail
    have Ad := A1.drew
    have bd := b1.drew
    refine wp_region_noPanic ?_
    refine wp_region_held_drew (S := fun w' => Blk w' w.heap.size 24 #[.int .i64 f, .int .u64 h, .int .u64 l]) (by kernel_rfl) (by exact Ad) (fun hHeld => ?_)
    refine wpAnyH_take (i := 0) (oi := tpa42o23) (v := (.agg #[.int .i64 f, .int .u64 h, .int .u64 l])) rfl (by kernel_rfl) (by kernel_rfl) (by kernel_rfl) (fun _ _ _ h => h) (yieldsIf_blk_w (by kernel_rfl) _ _ rfl w.heap.size (by rfl) _ (fun _ hSw => hSw) Tryd.underlying24 (by kernel_rfl)) hHeld ?_
    try simp only [Act.put, List.setIfInBounds_toArray, List.set_cons_zero, List.set_cons_succ]
    refine wpAnyH_take (i := 2) (oi := tpa42o24) (v := (.agg #[.int .i64 f, .int .u64 h, .int .u64 l])) rfl (by kernel_rfl) (by kernel_rfl) (by kernel_rfl) (fun _ _ _ h => h) (yieldsIf_blk_w (by kernel_rfl) _ _ rfl w.heap.size (by rfl) _ (fun _ hSw => hSw) Tryd.underlying24 (by kernel_rfl)) hHeld ?_
    try simp only [Act.put, List.setIfInBounds_toArray, List.set_cons_zero, List.set_cons_succ]
    refine wpAnyH_ready (rs := [1]) (by kernel_rfl) (by simp) ?_
    refine AllReadyH.cons (o := tpa42o9) rfl (fun K hK => ?_) AllReadyH.nil
    go_simp
    refine Calls.mono (K1.out _ bd) ?_
    rintro e Wx0 ⟨rfl, bb⟩
    have Ax0 := Ad.kept bb
    have bx0 := bel_tr bd bb
    clear bb
    refine hK.out _ _ (by exact Ax0) (fun hHeld => ?_)
    clear hK K
    try simp only [Act.put, List.setIfInBounds_toArray, List.set_cons_zero, List.set_cons_succ]
    refine wpAnyH_ready (rs := [3]) (by kernel_rfl) (by simp) ?_
    refine AllReadyH.cons (o := tpa42o5) rfl (fun K hK => ?_) AllReadyH.nil
    go_simp
    refine Calls.mono (K2.out _ bx0) ?_
    rintro e Wx1 ⟨rfl, bb⟩
    have Ax1 := Ax0.kept bb
    have bx1 := bel_tr bx0 bb
    clear bb
    refine hK.out _ _ (by exact Ax1) (fun hHeld => ?_)
    clear hK K
    try simp only [Act.put, List.setIfInBounds_toArray, List.set_cons_zero, List.set_cons_succ]
    refine wpAnyH_take (i := 4) (oi := tpa42o11) (v := (.bool true)) rfl (by kernel_rfl) (by kernel_rfl) (by kernel_rfl) (fun _ _ _ h => h) (Or.inl ⟨by rfl, ?_⟩) hHeld ?_
    · intro w9 hSw
      try dsimp only at hSw
      go_simp
    try simp only [Act.put, List.setIfInBounds_toArray, List.set_cons_zero, List.set_cons_succ]
    refine wpAnyH_take (i := 5) (oi := tpa42o18) (v := (.bool true)) rfl (by kernel_rfl) (by kernel_rfl) (by kernel_rfl) (fun _ _ _ h => h) (Or.inl ⟨by rfl, ?_⟩) hHeld ?_
    · intro w9 hSw
      try dsimp only at hSw
      go_simp
    try simp only [Act.put, List.setIfInBounds_toArray, List.set_cons_zero, List.set_cons_succ]
    refine wpAnyH_take (i := 6) (oi := tpa42o22) (v := (.agg #[.int .i64 f, .int .u64 h, .int .u64 l])) rfl (by kernel_rfl) (by kernel_rfl) (by kernel_rfl) (fun _ _ _ h => h) (yieldsIf_blk_w (by kernel_rfl) _ _ rfl w.heap.size (by rfl) _ (fun _ hSw => hSw) Tryd.underlying24 (by kernel_rfl)) hHeld ?_
    try simp only [Act.put, List.setIfInBounds_toArray, List.set_cons_zero, List.set_cons_succ]
    refine wpAnyH_take (i := 8) (oi := tpa42o21) (v := (.agg #[.int .i64 f, .int .u64 h, .int .u64 l])) rfl (by kernel_rfl) (by kernel_rfl) (by kernel_rfl) (fun _ _ _ h => h) (yieldsIf_blk_w (by kernel_rfl) _ _ rfl w.heap.size (by rfl) _ (fun _ hSw => hSw) Tryd.underlying24 (by kernel_rfl)) hHeld ?_
    try simp only [Act.put, List.setIfInBounds_toArray, List.set_cons_zero, List.set_cons_succ]
    refine wpAnyH_ready (rs := [7]) (by kernel_rfl) (by simp) ?_
    refine AllReadyH.cons (o := tpa42o4) rfl (fun K hK => ?_) AllReadyH.nil
    go_simp
    refine Calls.mono (K3.out _ bx1) ?_
    rintro e Wx2 ⟨rfl, bb⟩
    have Ax2 := Ax1.kept bb
    have bx2 := bel_tr bx1 bb
    clear bb
    refine hK.out _ _ (by exact Ax2) (fun hHeld => ?_)
    clear hK K
    try simp only [Act.put, List.setIfInBounds_toArray, List.set_cons_zero, List.set_cons_succ]
    refine wpAnyH_ready (rs := [9]) (by kernel_rfl) (by simp) ?_
    refine AllReadyH.cons (o := tpa42o1) rfl (fun K hK => ?_) AllReadyH.nil
    go_simp
    refine Calls.mono (K4.out _ bx2) ?_
    rintro e Wx3 ⟨rfl, bb⟩
    have Ax3 := Ax2.kept bb
    have bx3 := bel_tr bx2 bb
    clear bb
    refine hK.out _ _ (by exact Ax3) (fun hHeld => ?_)
    clear hK K
    try simp only [Act.put, List.setIfInBounds_toArray, List.set_cons_zero, List.set_cons_succ]
    refine wpAnyH_take (i := 10) (oi := tpa42o7) (v := (.bool true)) rfl (by kernel_rfl) (by kernel_rfl) (by kernel_rfl) (fun _ _ _ h => h) (Or.inl ⟨by rfl, ?_⟩) hHeld ?_
    · intro w9 hSw
      try dsimp only at hSw
      go_simp
    try simp only [Act.put, List.setIfInBounds_toArray, List.set_cons_zero, List.set_cons_succ]
    refine wpAnyH_take (i := 11) (oi := tpa42o14) (v := (.bool true)) rfl (by kernel_rfl) (by kernel_rfl) (by kernel_rfl) (fun _ _ _ h => h) (Or.inl ⟨by rfl, ?_⟩) hHeld ?_
    · intro w9 hSw
      try dsimp only at hSw
      go_simp
    try simp only [Act.put, List.setIfInBounds_toArray, List.set_cons_zero, List.set_cons_succ]
    refine wpAnyH_take (i := 12) (oi := tpa42o17) (v := (.bool true)) rfl (by kernel_rfl) (by kernel_rfl) (by kernel_rfl) (fun _ _ _ h => h) (Or.inl ⟨by rfl, ?_⟩) hHeld ?_
    · intro w9 hSw
      try dsimp only at hSw
      go_simp
    try simp only [Act.put, List.setIfInBounds_toArray, List.set_cons_zero, List.set_cons_succ]
    refine wpAnyH_take (i := 13) (oi := tpa42o19) (v := (.agg #[.int .i64 f, .int .u64 h, .int .u64 l])) rfl (by kernel_rfl) (by kernel_rfl) (by kernel_rfl) (fun _ _ _ h => h) (yieldsIf_blk_w (by kernel_rfl) _ _ rfl w.heap.size (by rfl) _ (fun _ hSw => hSw) Tryd.underlying24 (by kernel_rfl)) hHeld ?_
    try simp only [Act.put, List.setIfInBounds_toArray, List.set_cons_zero, List.set_cons_succ]
    refine wpAnyH_ready (rs := [14]) (by kernel_rfl) (by simp) ?_
    refine AllReadyH.cons (o := tpa42o2) rfl (fun K hK => ?_) AllReadyH.nil
    go_simp
    refine Calls.mono (K1.out _ bx3) ?_
    rintro e Wx4 ⟨rfl, bb⟩
    have Ax4 := Ax3.kept bb
    have bx4 := bel_tr bx3 bb
    clear bb
    refine hK.out _ _ (by exact Ax4) (fun hHeld => ?_)
    clear hK K
    try simp only [Act.put, List.setIfInBounds_toArray, List.set_cons_zero, List.set_cons_succ]
    refine wpAnyH_take (i := 15) (oi := tpa42o10) (v := (.bool false)) rfl (by kernel_rfl) (by kernel_rfl) (by kernel_rfl) (fun _ _ _ h => h) (Or.inl ⟨by rfl, ?_⟩) hHeld ?_
    · intro w9 hSw
      try dsimp only at hSw
      go_simp
    try simp only [Act.put, List.setIfInBounds_toArray, List.set_cons_zero, List.set_cons_succ]
    refine wpAnyH_take (i := 16) (oi := tpa42o20) (v := undef) rfl (by kernel_rfl) (by kernel_rfl) (by kernel_rfl) (fun _ _ _ h => h) (Or.inr ⟨by rfl, rfl⟩) hHeld ?_
    try simp only [Act.put, List.setIfInBounds_toArray, List.set_cons_zero, List.set_cons_succ]
    refine wpAnyH_take (i := 17) (oi := tpa42o3) (v := undef) rfl (by kernel_rfl) (by kernel_rfl) (by kernel_rfl) (fun _ _ _ h => h) (Or.inr ⟨by rfl, rfl⟩) hHeld ?_
    try simp only [Act.put, List.setIfInBounds_toArray, List.set_cons_zero, List.set_cons_succ]
    refine wpAnyH_take (i := 18) (oi := tpa42o8) (v := (.bool false)) rfl (by kernel_rfl) (by kernel_rfl) (by kernel_rfl) (fun _ _ _ h => h) (Or.inl ⟨by rfl, ?_⟩) hHeld ?_
    · intro w9 hSw
      try dsimp only at hSw
      go_simp
    try simp only [Act.put, List.setIfInBounds_toArray, List.set_cons_zero, List.set_cons_succ]
    refine wpAnyH_take (i := 19) (oi := tpa42o15) (v := (.bool true)) rfl (by kernel_rfl) (by kernel_rfl) (by kernel_rfl) (fun _ _ _ h => h) (Or.inl ⟨by rfl, ?_⟩) hHeld ?_
    · intro w9 hSw
      try dsimp only at hSw
      go_simp
    try simp only [Act.put, List.setIfInBounds_toArray, List.set_cons_zero, List.set_cons_succ]
    refine wpAnyH_take (i := 20) (oi := tpa42o12) (v := (.bool true)) rfl (by kernel_rfl) (by kernel_rfl) (by kernel_rfl) (fun _ _ _ h => h) (Or.inl ⟨by rfl, ?_⟩) hHeld ?_
    · intro w9 hSw
      try dsimp only at hSw
      go_simp
    try simp only [Act.put, List.setIfInBounds_toArray, List.set_cons_zero, List.set_cons_succ]
    refine wpAnyH_take (i := 21) (oi := tpa42o16) (v := (.bool true)) rfl (by kernel_rfl) (by kernel_rfl) (by kernel_rfl) (fun _ _ _ h => h) (Or.inl ⟨by rfl, ?_⟩) hHeld ?_
    · intro w9 hSw
      try dsimp only at hSw
      go_simp
    try simp only [Act.put, List.setIfInBounds_toArray, List.set_cons_zero, List.set_cons_succ]
    refine wpAnyH_ready (rs := [22]) (by kernel_rfl) (by simp) ?_
    refine AllReadyH.cons (o := tpa42o6) rfl (fun K hK => ?_) AllReadyH.nil
    go_simp
    refine Calls.mono (KL.out _ bx4) ?_
    rintro e Wx5 ⟨rfl, bb⟩
    have Ax5 := Ax4.kept bb
    have bx5 := bel_tr bx4 bb
    clear bb
    refine hK.out _ _ (by exact Ax5) (fun hHeld => ?_)
    clear hK K
    try simp only [Act.put, List.setIfInBounds_toArray, List.set_cons_zero, List.set_cons_succ]
    refine wpAnyH_take (i := 23) (oi := tpa42o13) (v := (.bool true)) rfl (by kernel_rfl) (by kernel_rfl) (by kernel_rfl) (fun _ _ _ h => h) (Or.inl ⟨by rfl, ?_⟩) hHeld ?_
    · intro w9 hSw
      try dsimp only at hSw
      go_simp
    try simp only [Act.put, List.setIfInBounds_toArray, List.set_cons_zero, List.set_cons_succ]
    refine wpAnyH_take (i := 24) (oi := tpa42o0) (v := (.bool true)) rfl (by kernel_rfl) (by kernel_rfl) (by kernel_rfl) (fun _ _ _ h => h) (Or.inl ⟨by rfl, ?_⟩) hHeld ?_
    · intro w9 hSw
      try dsimp only at hSw
      go_simp
    try simp only [Act.put, List.setIfInBounds_toArray, List.set_cons_zero, List.set_cons_succ]
    refine wpAnyH_done (by kernel_rfl) ?_ _
    refine NoPanic.normal ?_
    go_wp2
    go_ret
    exact ⟨rfl, bx5⟩
  | true =>
    obtain rfl : H = false := by simpa using hn
    clear hn
    go_enter Tryd.func5, Tryd.ntmps5
    go_wp2_with fail
    have Ad := A1.drew
    have bd := b1.drew
    refine wp_region_noPanic ?_
    refine wp_region_held_drew (S := fun w' => Blk w' w.heap.size 24 #[.int .i64 f, .int .u64 h, .int .u64 l]) (by kernel_rfl) (by exact Ad) (fun hHeld => ?_)
    refine wpAnyH_take (i := 0) (oi := tpa42o23) (v := (.agg #[.int .i64 f, .int .u64 h, .int .u64 l])) rfl (by kernel_rfl) (by kernel_rfl) (by kernel_rfl) (fun _ _ _ h => h) (yieldsIf_blk_w (by kernel_rfl) _ _ rfl w.heap.size (by rfl) _ (fun _ hSw => hSw) Tryd.underlying24 (by kernel_rfl)) hHeld ?_
    try simp only [Act.put, List.setIfInBounds_toArray, List.set_cons_zero, List.set_cons_succ]
    refine wpAnyH_take (i := 2) (oi := tpa42o24) (v := (.agg #[.int .i64 f, .int .u64 h, .int .u64 l])) rfl (by kernel_rfl) (by kernel_rfl) (by kernel_rfl) (fun _ _ _ h => h) (yieldsIf_blk_w (by kernel_rfl) _ _ rfl w.heap.size (by rfl) _ (fun _ hSw => hSw) Tryd.underlying24 (by kernel_rfl)) hHeld ?_
    try simp only [Act.put, List.setIfInBounds_toArray, List.set_cons_zero, List.set_cons_succ]
    refine wpAnyH_ready (rs := [1]) (by kernel_rfl) (by simp) ?_
    refine AllReadyH.cons (o := tpa42o9) rfl (fun K hK => ?_) AllReadyH.nil
    go_simp
    refine Calls.mono (K1.out _ bd) ?_
    rintro e Wx0 ⟨rfl, bb⟩
    have Ax0 := Ad.kept bb
    have bx0 := bel_tr bd bb
    clear bb
    refine hK.out _ _ (by exact Ax0) (fun hHeld => ?_)
    clear hK K
    try simp only [Act.put, List.setIfInBounds_toArray, List.set_cons_zero, List.set_cons_succ]
    refine wpAnyH_ready (rs := [3]) (by kernel_rfl) (by simp) ?_
    refine AllReadyH.cons (o := tpa42o5) rfl (fun K hK => ?_) AllReadyH.nil
    go_simp
    refine Calls.mono (K2.out _ bx0) ?_
    rintro e Wx1 ⟨rfl, bb⟩
    have Ax1 := Ax0.kept bb
    have bx1 := bel_tr bx0 bb
    clear bb
    refine hK.out _ _ (by exact Ax1) (fun hHeld => ?_)
    clear hK K
    try simp only [Act.put, List.setIfInBounds_toArray, List.set_cons_zero, List.set_cons_succ]
    refine wpAnyH_take (i := 4) (oi := tpa42o11) (v := (.bool true)) rfl (by kernel_rfl) (by kernel_rfl) (by kernel_rfl) (fun _ _ _ h => h) (Or.inl ⟨by rfl, ?_⟩) hHeld ?_
    · intro w9 hSw
      try dsimp only at hSw
      go_simp
    try simp only [Act.put, List.setIfInBounds_toArray, List.set_cons_zero, List.set_cons_succ]
    refine wpAnyH_take (i := 5) (oi := tpa42o18) (v := (.bool true)) rfl (by kernel_rfl) (by kernel_rfl) (by kernel_rfl) (fun _ _ _ h => h) (Or.inl ⟨by rfl, ?_⟩) hHeld ?_
    · intro w9 hSw
      try dsimp only at hSw
      go_simp
    try simp only [Act.put, List.setIfInBounds_toArray, List.set_cons_zero, List.set_cons_succ]
    refine wpAnyH_take (i := 6) (oi := tpa42o22) (v := (.agg #[.int .i64 f, .int .u64 h, .int .u64 l])) rfl (by kernel_rfl) (by kernel_rfl) (by kernel_rfl) (fun _ _ _ h => h) (yieldsIf_blk_w (by kernel_rfl) _ _ rfl w.heap.size (by rfl) _ (fun _ hSw => hSw) Tryd.underlying24 (by kernel_rfl)) hHeld ?_
    try simp only [Act.put, List.setIfInBounds_toArray, List.set_cons_zero, List.set_cons_succ]
    refine wpAnyH_take (i := 8) (oi := tpa42o21) (v := (.agg #[.int .i64 f, .int .u64 h, .int .u64 l])) rfl (by kernel_rfl) (by kernel_rfl) (by kernel_rfl) (fun _ _ _ h => h) (yieldsIf_blk_w (by kernel_rfl) _ _ rfl w.heap.size (by rfl) _ (fun _ hSw => hSw) Tryd.underlying24 (by kernel_rfl)) hHeld ?_
    try simp only [Act.put, List.setIfInBounds_toArray, List.set_cons_zero, List.set_cons_succ]
    refine wpAnyH_ready (rs := [7]) (by kernel_rfl) (by simp) ?_
    refine AllReadyH.cons (o := tpa42o4) rfl (fun K hK => ?_) AllReadyH.nil
    go_simp
    refine Calls.mono (K3.out _ bx1) ?_
    rintro e Wx2 ⟨rfl, bb⟩
    have Ax2 := Ax1.kept bb
    have bx2 := bel_tr bx1 bb
    clear bb
    refine hK.out _ _ (by exact Ax2) (fun hHeld => ?_)
    clear hK K
    try simp only [Act.put, List.setIfInBounds_toArray, List.set_cons_zero, List.set_cons_succ]
    refine wpAnyH_ready (rs := [9]) (by kernel_rfl) (by simp) ?_
    refine AllReadyH.cons (o := tpa42o1) rfl (fun K hK => ?_) AllReadyH.nil
    go_simp
    refine Calls.mono (K4.out _ bx2) ?_
    rintro e Wx3 ⟨rfl, bb⟩
    have Ax3 := Ax2.kept bb
    have bx3 := bel_tr bx2 bb
    clear bb
    refine hK.out _ _ (by exact Ax3) (fun hHeld => ?_)
    clear hK K
    try simp only [Act.put, List.setIfInBounds_toArray, List.set_cons_zero, List.set_cons_succ]
    refine wpAnyH_take (i := 10) (oi := tpa42o7) (v := (.bool true)) rfl (by kernel_rfl) (by kernel_rfl) (by kernel_rfl) (fun _ _ _ h => h) (Or.inl ⟨by rfl, ?_⟩) hHeld ?_
    · intro w9 hSw
      try dsimp only at hSw
      go_simp
    try simp only [Act.put, List.setIfInBounds_toArray, List.set_cons_zero, List.set_cons_succ]
    refine wpAnyH_take (i := 11) (oi := tpa42o14) (v := (.bool true)) rfl (by kernel_rfl) (by kernel_rfl) (by kernel_rfl) (fun _ _ _ h => h) (Or.inl ⟨by rfl, ?_⟩) hHeld ?_
    · intro w9 hSw
      try dsimp only at hSw
      go_simp
    try simp only [Act.put, List.setIfInBounds_toArray, List.set_cons_zero, List.set_cons_succ]
    refine wpAnyH_take (i := 12) (oi := tpa42o17) (v := (.bool true)) rfl (by kernel_rfl) (by kernel_rfl) (by kernel_rfl) (fun _ _ _ h => h) (Or.inl ⟨by rfl, ?_⟩) hHeld ?_
    · intro w9 hSw
      try dsimp only at hSw
      go_simp
    try simp only [Act.put, List.setIfInBounds_toArray, List.set_cons_zero, List.set_cons_succ]
    refine wpAnyH_take (i := 13) (oi := tpa42o19) (v := (.agg #[.int .i64 f, .int .u64 h, .int .u64 l])) rfl (by kernel_rfl) (by kernel_rfl) (by kernel_rfl) (fun _ _ _ h => h) (yieldsIf_blk_w (by kernel_rfl) _ _ rfl w.heap.size (by rfl) _ (fun _ hSw => hSw) Tryd.underlying24 (by kernel_rfl)) hHeld ?_
    try simp only [Act.put, List.setIfInBounds_toArray, List.set_cons_zero, List.set_cons_succ]
    refine wpAnyH_ready (rs := [14]) (by kernel_rfl) (by simp) ?_
    refine AllReadyH.cons (o := tpa42o2) rfl (fun K hK => ?_) AllReadyH.nil
    go_simp
    refine Calls.mono (K1.out _ bx3) ?_
    rintro e Wx4 ⟨rfl, bb⟩
    have Ax4 := Ax3.kept bb
    have bx4 := bel_tr bx3 bb
    clear bb
    refine hK.out _ _ (by exact Ax4) (fun hHeld => ?_)
    clear hK K
    try simp only [Act.put, List.setIfInBounds_toArray, List.set_cons_zero, List.set_cons_succ]
    refine wpAnyH_take (i := 15) (oi := tpa42o10) (v := (.bool true)) rfl (by kernel_rfl) (by kernel_rfl) (by kernel_rfl) (fun _ _ _ h => h) (Or.inl ⟨by rfl, ?_⟩) hHeld ?_
    · intro w9 hSw
      try dsimp only at hSw
      go_simp
    try simp only [Act.put, List.setIfInBounds_toArray, List.set_cons_zero, List.set_cons_succ]
    refine wpAnyH_take (i := 16) (oi := tpa42o20) (v := (.agg #[.int .i64 f, .int .u64 h, .int .u64 l])) rfl (by kernel_rfl) (by kernel_rfl) (by kernel_rfl) (fun _ _ _ h => h) (yieldsIf_blk_w (by kernel_rfl) _ _ rfl w.heap.size (by rfl) _ (fun _ hSw => hSw) Tryd.underlying24 (by kernel_rfl)) hHeld ?_
    try simp only [Act.put, List.setIfInBounds_toArray, List.set_cons_zero, List.set_cons_succ]
    refine wpAnyH_ready (rs := [17]) (by kernel_rfl) (by simp) ?_
    refine AllReadyH.cons (o := tpa42o3) rfl (fun K hK => ?_) AllReadyH.nil
    go_simp
    refine Calls.mono (K3.out _ bx4) ?_
    rintro e Wx5 ⟨rfl, bb⟩
    have Ax5 := Ax4.kept bb
    have bx5 := bel_tr bx4 bb
    clear bb
    refine hK.out _ _ (by exact Ax5) (fun hHeld => ?_)
    clear hK K
    try simp only [Act.put, List.setIfInBounds_toArray, List.set_cons_zero, List.set_cons_succ]
    refine wpAnyH_take (i := 18) (oi := tpa42o8) (v := (.bool false)) rfl (by kernel_rfl) (by kernel_rfl) (by kernel_rfl) (fun _ _ _ h => h) (Or.inl ⟨by rfl, ?_⟩) hHeld ?_
    · intro w9 hSw
      try dsimp only at hSw
      go_simp
    try simp only [Act.put, List.setIfInBounds_toArray, List.set_cons_zero, List.set_cons_succ]
    refine wpAnyH_take (i := 19) (oi := tpa42o15) (v := (.bool true)) rfl (by kernel_rfl) (by kernel_rfl) (by kernel_rfl) (fun _ _ _ h => h) (Or.inl ⟨by rfl, ?_⟩) hHeld ?_
    · intro w9 hSw
      try dsimp only at hSw
      go_simp
    try simp only [Act.put, List.setIfInBounds_toArray, List.set_cons_zero, List.set_cons_succ]
    refine wpAnyH_take (i := 20) (oi := tpa42o12) (v := (.bool true)) rfl (by kernel_rfl) (by kernel_rfl) (by kernel_rfl) (fun _ _ _ h => h) (Or.inl ⟨by rfl, ?_⟩) hHeld ?_
    · intro w9 hSw
      try dsimp only at hSw
      go_simp
    try simp only [Act.put, List.setIfInBounds_toArray, List.set_cons_zero, List.set_cons_succ]
    refine wpAnyH_take (i := 21) (oi := tpa42o16) (v := (.bool true)) rfl (by kernel_rfl) (by kernel_rfl) (by kernel_rfl) (fun _ _ _ h => h) (Or.inl ⟨by rfl, ?_⟩) hHeld ?_
    · intro w9 hSw
      try dsimp only at hSw
      go_simp
    try simp only [Act.put, List.setIfInBounds_toArray, List.set_cons_zero, List.set_cons_succ]
    refine wpAnyH_ready (rs := [22]) (by kernel_rfl) (by simp) ?_
    refine AllReadyH.cons (o := tpa42o6) rfl (fun K hK => ?_) AllReadyH.nil
    go_simp
    refine Calls.mono (KL.out _ bx5) ?_
    rintro e Wx6 ⟨rfl, bb⟩
    have Ax6 := Ax5.kept bb
    have bx6 := bel_tr bx5 bb
    clear bb
    refine hK.out _ _ (by exact Ax6) (fun hHeld => ?_)
    clear hK K
    try simp only [Act.put, List.setIfInBounds_toArray, List.set_cons_zero, List.set_cons_succ]
    refine wpAnyH_take (i := 23) (oi := tpa42o13) (v := (.bool true)) rfl (by kernel_rfl) (by kernel_rfl) (by kernel_rfl) (fun _ _ _ h => h) (Or.inl ⟨by rfl, ?_⟩) hHeld ?_
    · intro w9 hSw
      try dsimp only at hSw
      go_simp
    try simp only [Act.put, List.setIfInBounds_toArray, List.set_cons_zero, List.set_cons_succ]
    refine wpAnyH_take (i := 24) (oi := tpa42o0) (v := (.bool true)) rfl (by kernel_rfl) (by kernel_rfl) (by kernel_rfl) (fun _ _ _ h => h) (Or.inl ⟨by rfl, ?_⟩) hHeld ?_
    · intro w9 hSw
      try dsimp only at hSw
      go_simp
    try simp only [Act.put, List.setIfInBounds_toArray, List.set_cons_zero, List.set_cons_succ]
    refine wpAnyH_done (by kernel_rfl) ?_ _
    refine NoPanic.normal ?_
    go_wp2
    go_ret
    exact ⟨rfl, bx6⟩
end Go.Proofs.YtjdapofjlbifjaaDoor
namespace Go.Proofs.YtjdapofjlbifjaaDoor.tupleKinds
open Go.ChangeShapes Go.WideShapes Go.ChangeAt Go.RowKit
set_option linter.unusedVariables false
set_option linter.unusedSimpArgs false
theorem own : ownKnob Tryd.prog.godebug = none := by kernel_rfl
theorem laidOut : laidOutB Tryd.prog = true := by kernel_rfl
set_option maxRecDepth 100000 in
theorem contract (H : Type) (enc : TypeId × Value → H) (W : World) (base : Nat) (args : Array Value) (ds gs : List (DataW H)) (before : List MemPlace)
    (hval : ∀ (j : Nat) t v, Tryd.f5.params[j]? = some t → args[j]? = some v → Value.okWide Tryd.prog W .any base t v)
    (hW : DataW.Whole enc Tryd.prog Tryd.f5.params.toList Rows.tupleKindsSpec.vars false W args.toList ds gs before)
    (hsz : (DataW.weightsEach Tryd.prog (Tryd.f5.params.toList ++ Rows.tupleKindsSpec.plain.varTypes Tryd.prog) (ds ++ gs)).all (· ≤ reachBytes) = true)
    (hL : laidMetH Tryd.prog Rows.tupleKindsRow.laid W) (hsh : W.ShapedOpen Tryd.prog) :
    Calls Tryd.prog 5 args W fun e W' => ∃ v, e = .returned v ∧ Rows.tupleKindsSpec.post enc Tryd.prog Tryd.f5 false true false false W args v W' := by
  have hW' := hW
  obtain ⟨p, q, hA0, hV, rfl, hfz, hnd⟩ := hW
  have hA : DataW.TrodAll enc Tryd.prog W 0 (fun _ => true) true Tryd.f5.params.toList args.toList ds p := hA0
  rw [Tryd.params5] at hA hval hsz
  obtain ⟨v0, vs0, d0, ds0, p0, q0, hargs, rfl, rfl, h0, r0⟩ := trodAll_cons hA
  obtain ⟨rfl, rfl, rfl⟩ := trodAll_nil r0
  obtain rfl : args = #[v0] := by cases args; simp_all
  obtain ⟨rfl, rfl⟩ := trodVars_none hV
  have lt0 : ∀ x ∈ p0, x.block < W.heap.size := by obtain ⟨m, hm⟩ := h0; exact DataW.trod_lt m _ _ _ hm
  obtain ⟨f0, hh0, l0, rfl, ok0⟩ := open_addr (hval 0 24 v0 rfl rfl) h0
  have ht : W.cell? ⟨3, 15, none⟩ = some (.int .u8 4) := db_cell (show laidMet Tryd.prog Rows.tupleKindsRow.laid W from hL)
  have htab := ten_tab (show laidMet Tryd.prog Rows.tupleKindsRow.laid W from hL)
  clear hA0 hval
  refine (tupleKinds_walk f0 hh0 l0 W ok0 ht htab).mono fun e W' ⟨he, bel⟩ => ?_
  subst he
  exact ⟨_, rfl, _, _, _, [], _, [], hW', trodAll_mk1 (shut_bool Tryd.underlying4 _), (trodAll_cons_mk (Below.trod laidOut (by kernel_rfl) (of_decide_eq_true (by kernel_rfl)) h0 bel lt0) trodAll_mk0), rfl, bel.frame _, fun h => by cases h⟩
theorem laid_met (os : Os) : laidMet Tryd.prog Rows.tupleKindsRow.laid (({ World.holding Tryd.prog os ⟨#[], #[], []⟩ with heap := (((World.holding Tryd.prog os ⟨#[], #[], []⟩).heap.modify 0 (laidOne (cellsA Rows.laid_internal_strconv_uint64pow10))).modify 2 (laidOne (cellsA Rows.laid_math_bits_deBruijn32tab))).modify 3 (laidOne (cellsA Rows.laid_math_bits_deBruijn64tab)) } : World).forCall (fun _ _ => 0) ⟨#[], #[.agg #[.int .i64 0, .int .u64 0, .int .u64 0]], []⟩).memory :=
  laidMet_of_run' 8 (by kernel_rfl) (by kernel_rfl)
theorem reads (os : Os) {H : Type} (enc : TypeId × Value → H) : ∃ places, DataW.whole enc Tryd.prog (({ World.holding Tryd.prog os ⟨#[], #[], []⟩ with heap := (((World.holding Tryd.prog os ⟨#[], #[], []⟩).heap.modify 0 (laidOne (cellsA Rows.laid_internal_strconv_uint64pow10))).modify 2 (laidOne (cellsA Rows.laid_math_bits_deBruijn32tab))).modify 3 (laidOne (cellsA Rows.laid_math_bits_deBruijn64tab)) } : World).forCall (fun _ _ => 0) ⟨#[], #[.agg #[.int .i64 0, .int .u64 0, .int .u64 0]], []⟩).memory Tryd.f5.params.toList Rows.tupleKindsSpec.vars false (#[.agg #[.int .i64 0, .int .u64 0, .int .u64 0]] : Array Value).toList 8 = some ([.agg [.lit (.int .i64 0), .lit (.int .u64 0), .lit (.int .u64 0)]], [], places) :=
  ⟨[], by kernel_rfl⟩
set_option maxRecDepth 100000 in
theorem lifted (os : Os) (started : os.Started) (H : Type) (enc : TypeId × Value → H) (F : Stop.Interp) :
    ReturnsInHanded {} Tryd.checked os 5 .any ((OpenSpec.ofChange Rows.tupleKindsSpec).preRow enc Tryd.prog Tryd.f5 Rows.tupleKindsRow.domain false Rows.tupleKindsRow.laid) (((OpenSpec.ofChange Rows.tupleKindsSpec).at F).post enc Tryd.prog Tryd.f5 false true false false) := by
  obtain ⟨places, hx⟩ := reads os enc
  refine returnsInHanded_of_row (C := Tryd.checked) (s := (OpenSpec.ofChange Rows.tupleKindsSpec)) own started (by kernel_rfl) Tryd.func5
    (witness_row_at (enc := enc) (C := Tryd.checked) false ({ World.holding Tryd.prog os ⟨#[], #[], []⟩ with heap := (((World.holding Tryd.prog os ⟨#[], #[], []⟩).heap.modify 0 (laidOne (cellsA Rows.laid_internal_strconv_uint64pow10))).modify 2 (laidOne (cellsA Rows.laid_math_bits_deBruijn32tab))).modify 3 (laidOne (cellsA Rows.laid_math_bits_deBruijn64tab)) } : World) #[.agg #[.int .i64 0, .int .u64 0, .int .u64 0]] rfl (by kernel_rfl) (by kernel_rfl) (by kernel_rfl)
      (OpenSpec.preRow_of_cond 8 hx (by kernel_rfl) (fun k hk => by cases hk) (by kernel_rfl) (laid_met os))) ?_
  intro W base args ds gs before hval hW _ _ hsz hL hsh _
  exact contract H enc W base args ds gs before hval hW hsz hL hsh
theorem said : Rows.TupleKindsSaid :=
  OpenClaim.holds_of_cond 5 Tryd.f5 rfl rfl rfl rfl rfl rfl rfl ⟨rfl, rfl, rfl, rfl, rfl⟩ rfl rfl rfl rfl rfl (by kernel_rfl) Tryd.func5 (by kernel_rfl)
    (of_decide_eq_true (by kernel_rfl)) (by unfold Func.isWrapper; first | (rw [if_pos (by decide +kernel)]; kernel_rfl) | (rw [if_neg (by decide +kernel)]; exact ⟨rfl, rfl⟩))
    (fun os started H enc _ F => by rw [OpenClaim.pre_eq_preRow]; exact lifted os started H enc F)
theorem plain (f : FuncId) (fn : Func) (hf : Tryd.pinned.checked.prog.funcNamed "stockade/stockadelaw14.TupleKinds" = some f) (hfn : Tryd.pinned.checked.prog.funcs[f]? = some fn) :
    false = Tryd.pinned.checked.prog.looks [] ∧ ∀ (j : Nat) t, fn.params[j]? = some t → Tryd.pinned.checked.prog.wantsStandIn t = false := by
  obtain rfl : f = 5 := Option.some.inj ((show Tryd.prog.funcNamed "stockade/stockadelaw14.TupleKinds" = some 5 by kernel_rfl).symm.trans hf) |>.symm
  obtain rfl : fn = Tryd.f5 := (Option.some.inj (Tryd.func5.symm.trans hfn)).symm
  refine ⟨by kernel_rfl, fun j t ht => ?_⟩
  rw [Tryd.params5] at ht
  have hm : t ∈ [24] := by simpa using Array.mem_of_getElem? ht
  have hall : ([24].all fun u => !Tryd.prog.wantsStandIn u) = true := by kernel_rfl
  exact (show Tryd.prog.wantsStandIn t = false by simpa using List.all_eq_true.1 hall t hm)
end Go.Proofs.YtjdapofjlbifjaaDoor.tupleKinds
namespace Go.Proofs.YtjdapofjlbifjaaDoor
theorem tupleKinds_holds : Rows.TupleKindsCardSaid :=
  Claim7.holds_tied_plain_at .later [] _ _ _ _ tupleKinds.said (fun _ h => by cases h) (by kernel_rfl) (fun _ h => by cases h) tupleKinds_row_tie rfl ⟨rfl, rfl⟩ (by kernel_rfl) rfl tupleKinds.plain (by kernel_rfl)
end Go.Proofs.YtjdapofjlbifjaaDoor
