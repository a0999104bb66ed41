/- Texts joined: FgB -/
import Derived.Test.YtebdpiedgjdjeaaFga11
namespace Go.Proofs.Ytebdpiedgjdjeaa
open Go.RowKit
set_option linter.unusedVariables false
set_option linter.unusedSimpArgs false
theorem wpList_buildF {ops : Array Oper} {rest : List Oper} {o : Oper} {ac : Act} {Q : Exit → Act → World → Prop} (w : World) (hgd : o.guard = none) (t : TypeId) (parts : Array (Nat × Operand)) (ho : o.op = Op.build t parts)
    (vs : Array (Nat × Value)) (hv : parts.map (fun p => (p.1, ac.eval p.2)) = vs) (r : Value) (hrun : (Instr.build t vs).run Try.prog w = .ok r w) (h : wpList Try.prog ops Q rest (ac.put o.dst r) w) : wpList Try.prog ops Q (o :: rest) ac w := by
  refine wpList_plain hgd fun K hK => ?_
  unfold Oper.wp
  subst hv
  simp [execOp, ho, hrun, Result.andThen]
  exact hK _ _ h
set_option maxRecDepth 100000 in
set_option maxHeartbeats 4000000 in
theorem isMade_at (g : Nat) (m : Bool) (w : World) (h : w.cell? ⟨g, 0, none⟩ = some (.bool m)) : Calls Try.prog 29 #[.pointer (some ⟨g, 0, none⟩)] w fun e w' => e = .returned (.bool m) ∧ w' = w := by
  go_enter Try.func29, Try.ntmps29
  go_wp2
  go_ret
  exact ⟨rfl, rfl⟩
set_option maxRecDepth 100000 in
set_option maxHeartbeats 4000000 in
theorem fwhole_any (g : Gm) (w : World) : Calls Try.prog 47 #[.agg g.v] w fun e w' => e = .returned (.bool (g.last && (g.size == g.reach))) ∧ Below w.heap.size w w' := by
  obtain ⟨W1, hW1⟩ : ∃ W, w.alloc (.cells g.v 75) = W := ⟨_, rfl⟩
  have b1 := bel_nw hW1
  have P1 := blk_nw hW1
  obtain ⟨lst, hl⟩ : ∃ l, g.last = l := ⟨_, rfl⟩
  have d18 := P1.cell 18 (.int .i64 g.size) rfl
  have d19 := P1.cell 19 (.int .i64 g.reach) rfl
  have d20 := P1.cell 20 (.bool g.last) rfl
  rw [hl] at d20 ⊢
  clear P1 hl
  go_enter Try.func47, Try.ntmps47
  cases lst
  all_goals
    go_wp2
    go_ret
    exact ⟨rfl, b1⟩
set_option maxRecDepth 100000 in
set_option maxHeartbeats 4000000 in
theorem rightEnd_any (fam f h l : Int) (w : World) : Calls Try.prog 43 #[.int .i64 fam, .agg #[.int .i64 f, .int .u64 h, .int .u64 l]] w fun e w' => e = .returned (.bool (Ad.right ⟨f, h, l⟩ && (f == fam))) ∧ Below w.heap.size w w' := by
  obtain ⟨W1, hW1⟩ : ∃ W, w.alloc (.cells #[.int .i64 f, .int .u64 h, .int .u64 l] 37) = W := ⟨_, rfl⟩
  have b1 := bel_nw hW1
  have P1 := blk_nw hW1
  obtain ⟨r, hr⟩ : ∃ r, Ad.right ⟨f, h, l⟩ = r := ⟨_, rfl⟩
  have KR : Hid (∀ W, Calls Try.prog 71 #[.agg #[.int .i64 f, .int .u64 h, .int .u64 l]] W fun e w' => e = .returned (.bool r) ∧ Below W.heap.size W w') := fun W => by
    rw [← hr]
    exact Calls.mono (right_any f h l W) (by rintro e w' ⟨rfl, rfl⟩; exact ⟨rfl, (Below.refl _ _).alloc (Nat.le_refl _) _⟩)
  rw [hr]
  clear hr
  go_enter Try.func43, Try.ntmps43
  go_wp2_with (refine wpList_load_row rfl _ _ rfl w.heap.size (by rfl) _ _ _ _ P1 Try.underlying37 rfl (by kernel_rfl) ?_)
  refine Calls.mono (KR.out _) ?_
  rintro e W2 ⟨rfl, bb⟩
  have d0 := (P1.kept bb).cell 0 (.int .i64 f) rfl
  have b2 := bel_tr b1 bb
  clear KR bb P1 b1 hW1
  cases r
  all_goals
    go_wp2
    go_ret
    exact ⟨rfl, b2⟩
set_option maxRecDepth 100000 in
set_option maxHeartbeats 4000000 in
theorem fBytes_at (g : Nat) (by_ : Int) (w : World) (h : w.cell? ⟨g, 0, none⟩ = some (.bool true)) (h' : w.cell? ⟨g, 5, none⟩ = some (.int .i64 by_)) : Calls Try.prog 21 #[.pointer (some ⟨g, 0, none⟩)] w fun e w' => e = .returned (.int .i64 by_) ∧ w' = w := by
  have K := isMade_at g true w h
  go_enter Try.func21, Try.ntmps21
  go_wp2_with fail
  refine Calls.mono K ?_
  rintro e w' ⟨rfl, rfl⟩
  go_wp2
  go_ret
  exact ⟨rfl, rfl⟩
set_option maxRecDepth 100000 in
set_option maxHeartbeats 4000000 in
theorem fNow_at (g : Nat) (nw : Int) (w : World) (h : w.cell? ⟨g, 0, none⟩ = some (.bool true)) (h' : w.cell? ⟨g, 4, none⟩ = some (.int .i64 nw)) : Calls Try.prog 23 #[.pointer (some ⟨g, 0, none⟩)] w fun e w' => e = .returned (.int .i64 nw) ∧ w' = w := by
  have K := isMade_at g true w h
  go_enter Try.func23, Try.ntmps23
  go_wp2_with fail
  refine Calls.mono K ?_
  rintro e w' ⟨rfl, rfl⟩
  go_wp2
  go_ret
  exact ⟨rfl, rfl⟩
end Go.Proofs.Ytebdpiedgjdjeaa
