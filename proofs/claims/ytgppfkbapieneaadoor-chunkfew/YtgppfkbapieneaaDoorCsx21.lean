/- Texts joined: CkG FrN -/
import Derived.Test.YtgppfkbapieneaaDoorCsx19
import Derived.Test.YtgppfkbapieneaaDoorCsx20
import Derived.Deep.WholeRow
namespace Go.Proofs.YtgppfkbapieneaaDoor
open Go.RowKit
set_option linter.unusedVariables false
set_option linter.unusedSimpArgs false
theorem below_grow {B : Nat} {w W : World} (h : Below B w W) (hB : B ≤ W.heap.size) (os : Array Obj) : Below B w (Sort.grow W os) :=
  h.trans ⟨rfl, rfl, rfl, by simp [Sort.grow], fun i hi => by
    simp only [Sort.grow]
    exact Array.getElem?_append_left (by omega)⟩
theorem order_b (p q : Pt) (w : World) : Calls Tryd.prog 45 #[.agg p.v, .agg q.v] w fun e w' => e = .returned (.int .i64 (ordP p q)) ∧ Below w.heap.size w w' :=
  (order_any p q w).mono fun e w' h => ⟨h.1, by obtain ⟨_, n, os, rfl⟩ := h; exact below_grow (below_drewN (Below.refl _ _) n) (Nat.le_refl _) os⟩
/-- Does a piece hold a point? -/
def holdB (p q x : Pt) : Bool := decide (ordP p x ≤ 0) && decide (ordP x q ≤ 0)
set_option maxRecDepth 100000 in
set_option maxHeartbeats 4000000 in
theorem holds_pc (p q x : Pt) (w : World) : Calls Tryd.prog 65 #[.agg (pcv p q), .agg x.v] w fun e w' => e = .returned (.bool (holdB p q x)) ∧ Below w.heap.size w w' := by
  have K1 := hidW (fun W => order_b p x W)
  have K2 := hidW (fun W => order_b x q W)
  unfold holdB
  generalize ordP p x = n1 at *
  generalize ordP x q = n2 at *
  obtain ⟨W1, hW1⟩ : ∃ W1, w.alloc (.cells (pcv p q) 65) = W1 := ⟨_, rfl⟩
  obtain ⟨W2, hW2⟩ : ∃ W2, W1.alloc (.cells x.v 42) = W2 := ⟨_, rfl⟩
  have b1 := bel_nw hW1
  have b2 := bel_al b1 hW2
  have B1 := (blk_nw hW1).al hW2
  have B2 := blk_nw hW2
  have c0 := B1.cell 0 (.int .u64 p.a) rfl
  have c1 := B1.cell 1 (.int .u64 p.b) rfl
  have c2 := B1.cell 2 (.int .u64 p.c) rfl
  have d0 := B2.cell 0 (.int .u64 x.a) rfl
  have d1 := B2.cell 1 (.int .u64 x.b) rfl
  have d2 := B2.cell 2 (.int .u64 x.c) rfl
  clear b1
  go_enter Tryd.func65, Tryd.ntmps65
  go_wp2_with fail
  refine (K1.out _).mono ?_
  rintro e W3 ⟨rfl, bb⟩
  have B13 := B1.kept bb
  have B23 := B2.kept bb
  have b3 := bel_tr b2 bb
  clear c0 c1 c2 d0 d1 d2 B1 B2 bb b2 hW1 hW2 K1
  by_cases h : n1 ≤ 0
  · have c3 := B13.cell 3 (.int .u64 q.a) rfl
    have c4 := B13.cell 4 (.int .u64 q.b) rfl
    have c5 := B13.cell 5 (.int .u64 q.c) rfl
    have d0 := B23.cell 0 (.int .u64 x.a) rfl
    have d1 := B23.cell 1 (.int .u64 x.b) rfl
    have d2 := B23.cell 2 (.int .u64 x.c) rfl
    go_wp2_with fail
    refine (K2.out _).mono ?_
    rintro e W4 ⟨rfl, bb⟩
    have b4 := bel_tr b3 bb
    clear c3 c4 c5 d0 d1 d2 B13 B23 bb b3 K2
    by_cases h' : n2 ≤ 0
    all_goals (go_wp2; go_ret; exact ⟨by simp [h, h'], b4⟩)
  · go_wp2
    go_ret
    exact ⟨by have : decide (n1 ≤ 0) = false := by simp; omega
              rw [this]; rfl, b3⟩
theorem wpList_store_new {ops : Array Oper} {rest : List Oper} {o : Oper} {ac : Act} {Q : Exit → Act → World → Prop} (w w' : World) (hgd : o.guard = none) (t : TypeId) (p x : Operand) (ho : o.op = Op.store t p x)
    (v1 v2 : Value) (hp : ac.eval p = v1) (hx : ac.eval x = v2) (hrun : (Instr.storeAt t v1 v2).run Tryd.prog w = .ok () w') (h : wpList Tryd.prog ops Q rest (ac.put o.dst undef) w') : wpList Tryd.prog ops Q (o :: rest) ac w := by
  refine wpList_plain hgd fun K hK => ?_
  unfold Oper.wp
  subst hp
  subst hx
  simp [execOp, ho, hrun, Result.andThen]
  exact hK _ _ h
abbrev z17 : Array Value := #[.int .i64 0, .int .i64 0, .int .i64 0, .int .u64 0, .int .u64 0, .int .i64 0, .int .i64 0, .int .u64 0, .int .u64 0, .int .i64 0, .int .i64 0, .int .i64 0, .int .i64 0, .int .i64 0, .int .i64 0, .int .i64 0, .int .i64 0]
theorem store_rl (w : World) (r : Rl) : (Instr.storeAt 55 (.pointer (some ⟨w.heap.size, 0, none⟩)) (.agg r.v)).run Tryd.prog (w.alloc (.cells z17 55)) = .ok () (w.alloc (.cells r.v 55)) :=
  run_storeAt_new (P := Tryd.prog) w 55 z17 r.v (by kernel_rfl) rfl (by kernel_rfl)
end Go.Proofs.YtgppfkbapieneaaDoor
