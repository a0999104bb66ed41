/- Texts joined: FgF -/
import Derived.Test.YtebdpiedgjdjeaaFga12
namespace Go.Proofs.Ytebdpiedgjdjeaa
open Go.RowKit
set_option linter.unusedVariables false
set_option linter.unusedSimpArgs false
/-- Does a piece share a byte with what lies from of to en? -/
def shareB (of en : Int) (q : Pc) : Bool := decide (of < q.off + q.data.length) && decide (q.off < en)
/-- A datagram's numbers. -/
structure GmN (g : Gm) : Prop where
  off : ∀ p ∈ g.ps, 0 ≤ p.off ∧ p.off ≤ 65528 ∧ p.data.length ≤ 65535
  size : 0 ≤ g.size ∧ g.size ≤ 1048576
  reach : 0 ≤ g.reach ∧ g.reach ≤ 65535
theorem ownsRow_below {w w' : World} {B : Nat} {e : TypeId} {k n : Nat} {v : Value} {xs : List Value} (h : w.ownsRow B e k v n xs) (hb : Below w.heap.size w w') : w'.ownsRow B e k v n xs := by
  obtain ⟨h1, h2⟩ := h
  refine ⟨h1, ?_⟩
  rcases h2 with h2 | ⟨g, cap, cur, hv, hg, hh, r⟩
  · exact Or.inl h2
  · exact Or.inr ⟨g, cap, cur, hv, hg, (hb.block g (Array.getElem?_eq_some_iff.1 hh).1).trans hh, r⟩
theorem GmR.below {w w' : World} {g : Gm} (h : GmR w g) (hb : Below w.heap.size w w') : GmR w' g :=
  ⟨ownsRow_below h.row hb, fun p hp => ⟨(h.each p hp).1.below hb, (h.each p hp).2⟩, h.exts.below hb, h.few⟩
set_option maxRecDepth 100000 in
set_option maxHeartbeats 4000000 in
theorem share_any (q : Pc) (gp ge : Nat) (of en : Int) (w : World) (h7 : w.cell? ⟨gp, 11, none⟩ = some (.int .i64 of)) (he : w.cell? ⟨ge, 0, none⟩ = some (.int .i64 en)) (q0 : 0 ≤ q.off) (q1 : q.off ≤ 65528) (ql : q.data.length ≤ 65535) :
    Calls Try.prog 72 #[.agg q.v, .pointer (some ⟨gp, 0, none⟩), .pointer (some ⟨ge, 0, none⟩)] w fun e w' => e = .returned (.bool (shareB of en q)) ∧ Below w.heap.size w w' := by
  obtain ⟨W1, hW1⟩ : ∃ W, w.alloc (.cells q.v 117) = W := ⟨_, rfl⟩
  have b1 := bel_nw hW1
  have P1 := blk_nw hW1
  have d0 := P1.cell 0 (.int .i64 q.off) rfl
  have d1 := P1.cell 1 (.slice q.da q.data.length q.dc) rfl
  have e7 := kept b1 h7
  have ee := kept b1 he
  have wq : IntKind.i64.wrap (q.off + (q.data.length : Int)) = q.off + (q.data.length : Int) := wraps_i64 _ (by omega) (by omega)
  unfold shareB
  obtain ⟨S, hS⟩ : ∃ s, q.off + (q.data.length : Int) = s := ⟨_, rfl⟩
  have wS : IntKind.i64.wrap (q.off + (q.data.length : Int)) = S := by rw [wq, hS]
  rw [hS]
  clear P1 h7 he wq hS
  go_enter Try.func72, Try.ntmps72
  by_cases c1 : of < S
  · rw [decide_eq_true c1]
    go_wp2
    all_goals go_ret
    all_goals exact ⟨by simp_all, b1⟩
  · rw [decide_eq_false c1]
    go_wp2
    all_goals go_ret
    all_goals exact ⟨by simp_all, b1⟩
end Go.Proofs.Ytebdpiedgjdjeaa
