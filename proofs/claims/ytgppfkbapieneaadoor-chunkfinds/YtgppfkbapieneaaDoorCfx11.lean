/- Texts joined: CkC -/
import Derived.Test.YtgppfkbapieneaaDoorCfx10
namespace Go.Proofs.YtgppfkbapieneaaDoor
open Go.RowKit
set_option linter.unusedVariables false
set_option linter.unusedSimpArgs false
/-- The program's greatest point lies where it was laid. -/
def Top (w : World) : Prop := CellsAt w 0 0 ptTop.v
theorem Top.below {w w' : World} (h : Top w) (hb : Below w.heap.size w w') : Top w' := CellsAt.below h hb
theorem Top.c0 {w : World} (h : Top w) : w.cell? ⟨0, 0, none⟩ = some (.int .u64 18446744073709551615) := h.2 0 _ rfl
theorem Top.c1 {w : World} (h : Top w) : w.cell? ⟨0, 1, none⟩ = some (.int .u64 18446744073709551615) := h.2 1 _ rfl
theorem Top.c2 {w : World} (h : Top w) : w.cell? ⟨0, 2, none⟩ = some (.int .u64 18446744073709551615) := h.2 2 _ rfl
set_option maxRecDepth 100000 in
set_option maxHeartbeats 4000000 in
theorem whole_pc (w : World) (hT : Top w) : Calls Tryd.prog 78 #[] w fun e w' => e = .returned (.agg (pcv pt0 ptTop)) ∧ Below w.heap.size w w' := by
  have hT' := Top.below hT (bel_nw rfl : Below w.heap.size w (w.alloc (.cells z6 65)))
  have c0 := hT'.c0
  have c1 := hT'.c1
  have c2 := hT'.c2
  have d0 := hT.c0
  have d1 := hT.c1
  have d2 := hT.c2
  have hpos := hT.1
  have hne : ¬ 0 = w.heap.size := by omega
  clear hT hT'
  go_enter Tryd.func78, Tryd.ntmps78
  go_wp2
  exact ret_cell (k := 0) Tryd.f78 (by kernel_rfl) (blk_new w (pcv pt0 ptTop) 65) Tryd.underlying65 (by kernel_rfl) (by rfl) rfl ⟨rfl, bel_nw rfl⟩
set_option maxRecDepth 100000 in
set_option maxHeartbeats 4000000 in
theorem behind_pt (p : Pt) (w : World) (hp : p.ok) (ha : p.a < 18446744073709551615) : Calls Tryd.prog 62 #[.agg p.v] w fun e w' => e = .returned (.agg p.next.v) ∧ Below w.heap.size w w' := by
  obtain ⟨a, b, c⟩ := p
  obtain ⟨⟨a0, a1⟩, ⟨b0, b1⟩, ⟨c0, c1⟩⟩ := hp
  simp only at *
  unfold Pt.next
  simp only
  by_cases hc : c < 18446744073709551615
  · rw [if_pos hc]
    have hw : IntKind.u64.wrap (c + 1) = c + 1 := wraps_u64 _ (by omega) (by omega)
    have hne : ¬ c + 1 = 0 := by omega
    go_enter Tryd.func62, Tryd.ntmps62
    go_wp2
    exact ret_cell (k := 2) (g := w.heap.size + 1) Tryd.f62 (by kernel_rfl) (blk1 w _ (Pt.v ⟨a, b, c + 1⟩) 42) Tryd.underlying42 (by kernel_rfl) (by rfl) rfl ⟨rfl, bel_al (bel_nw rfl) rfl⟩
  · rw [if_neg hc]
    have ec : c = 18446744073709551615 := by omega
    subst ec
    clear hc
    have hw0 : IntKind.u64.wrap (18446744073709551615 + 1) = 0 := by kernel_rfl
    by_cases hb : b < 18446744073709551615
    · rw [if_pos hb]
      have hw : IntKind.u64.wrap (b + 1) = b + 1 := wraps_u64 _ (by omega) (by omega)
      have hne : ¬ b + 1 = 0 := by omega
      go_enter Tryd.func62, Tryd.ntmps62
      go_wp2
      exact ret_cell (k := 2) (g := w.heap.size + 1) Tryd.f62 (by kernel_rfl) (blk1 w _ (Pt.v ⟨a, b + 1, 0⟩) 42) Tryd.underlying42 (by kernel_rfl) (by rfl) rfl ⟨rfl, bel_al (bel_nw rfl) rfl⟩
    · rw [if_neg hb]
      have eb : b = 18446744073709551615 := by omega
      subst eb
      clear hb
      have hw : IntKind.u64.wrap (a + 1) = a + 1 := wraps_u64 _ (by omega) (by omega)
      go_enter Tryd.func62, Tryd.ntmps62
      go_wp2
      exact ret_cell (k := 2) (g := w.heap.size + 1) Tryd.f62 (by kernel_rfl) (blk1 w _ (Pt.v ⟨a + 1, 0, 0⟩) 42) Tryd.underlying42 (by kernel_rfl) (by rfl) rfl ⟨rfl, bel_al (bel_nw rfl) rfl⟩
theorem wpList_st {ops : Array Oper} {rest : List Oper} {o : Oper} {ac : Act} {w : World} {Q : Exit → Act → World → Prop} (hgd : o.guard = none) (t : TypeId) (p x : Operand) (ho : o.op = Op.store t p x) (g : Nat) (cs old : Array Value)
    (hp : ac.eval p = .pointer (some ⟨g, 0, none⟩)) (hx : ac.eval x = .agg cs) (hb : Blk w g t old) (hi : (Tryd.prog.info? t).map (·.size) = some cs.size) (ho' : old.size = cs.size) (h1 : cs.all (·.oneCell') = true) (h : wpList Tryd.prog ops Q rest (ac.put o.dst undef) (w.setRow g cs)) : wpList Tryd.prog ops Q (o :: rest) ac w :=
  wpList_plain hgd fun K hK => wp_store_row t p x ho g cs hp hx t old hb hi ho' h1 (hK _ _ h)
set_option maxRecDepth 100000 in
set_option maxHeartbeats 4000000 in
theorem numberPiece_any (n e : Int) (p q : Pt) (w : World) (hT : Top w) (hn : n ≠ e → 0 ≤ n ∧ n ≤ 65535) (hp : (if n = e then pt0 else ptNum n) = p) (hq : (if n = e then ptTop else ptNum n) = q) :
    Calls Tryd.prog 59 #[.int .i64 n, .int .i64 e] w fun e w' => e = .returned (.agg (pcv p q)) ∧ Below w.heap.size w w' := by
  have hb0 : Below w.heap.size w (w.alloc (.cells z6 65)) := bel_nw rfl
  have B0 := blk_new w z6 65
  obtain ⟨W, hW⟩ : ∃ W, w.alloc (.cells z6 65) = W := ⟨_, rfl⟩
  rw [hW] at hb0 B0
  by_cases h : n = e
  · subst h
    rw [if_pos rfl] at hp hq
    subst hp hq
    have K := whole_pc W (hT.below hb0)
    clear hn hT
    go_enter Tryd.func59, Tryd.ntmps59
    go_wp2_with fail
    refine K.mono ?_
    rintro e' W1 ⟨rfl, bb⟩
    have B1 := B0.kept bb
    have b1 := bel_tr hb0 bb
    clear K bb B0 hW hb0
    go_wp2_with (refine wpList_st rfl 65 _ _ rfl w.heap.size (pcv pt0 ptTop) z6 (by rfl) (by rfl) B1 (by kernel_rfl) rfl (by kernel_rfl) ?_)
    exact ret_cell (k := 4) Tryd.f59 (by kernel_rfl) (B1.set _) Tryd.underlying65 (by kernel_rfl) (by rfl) rfl ⟨rfl, below_setRow b1 (Nat.le_refl _) _⟩
  · rw [if_neg h] at hp hq
    subst hp hq
    have K := fun W => number_pt n W (by have := hn h; omega)
    clear hn hT
    go_enter Tryd.func59, Tryd.ntmps59
    go_wp2_with fail
    refine (K _).mono ?_
    rintro e' W1 ⟨rfl, bb⟩
    have B1 := B0.kept bb
    have b1 := bel_tr hb0 bb
    clear bb B0 hW hb0
    go_wp2_with fail
    refine (K _).mono ?_
    rintro e' W2 ⟨rfl, bb⟩
    have B2 := B1.kept bb
    have b2 := bel_tr b1 bb
    clear bb B1 b1
    go_wp2_with (refine wpList_st rfl 65 _ _ rfl w.heap.size (pcv (ptNum n) (ptNum n)) z6 (by rfl) (by rfl) B2 (by kernel_rfl) rfl (by kernel_rfl) ?_)
    exact ret_cell (k := 4) Tryd.f59 (by kernel_rfl) (B2.set _) Tryd.underlying65 (by kernel_rfl) (by rfl) rfl ⟨rfl, below_setRow b2 (Nat.le_refl _) _⟩
end Go.Proofs.YtgppfkbapieneaaDoor
