/- A slice of bytes made with room, and filled from any bytes: what stands in it, and behind it. -/
import Derived.Test.YtmlddgmkbbaccaaApp
import Derived.Laws.MakeOwn
namespace Go.Proofs.Ytmlddgmkbbaccaa
open Go.RowKit
set_option linter.unusedVariables false

theorem made_zero (N : Nat) : (madeCells #[Value.int .u8 0] N).toList = List.replicate N (Value.int .u8 0) := by
  apply List.ext_getElem
  · simp [madeCells]
  · intro i h1 h2
    simp [madeCells, Nat.mod_one]

set_option maxRecDepth 100000 in
/-- make([]byte, 0, N): N bytes 0 in a new block. -/
theorem wpList_make_zero {ops : Array Oper} {rest : List Oper} {o : Oper} {ac : Act} {Q : Exit → Act → World → Prop} (w : World) (hgd : o.guard = none) (l c : Operand) (hop : o.op = Op.makeSlice 74 l c)
    (kl kc : IntKind) (C : Int) (N : Nat) (hl : ac.eval l = .int kl 0) (hc : ac.eval c = .int kc C) (hC : C = (N : Int)) (hN : N ≤ 281474976710656)
    (h : ∀ w', w'.heap[w.heap.size]? = some (.cells (List.replicate N (Value.int .u8 0)).toArray 5 (0, 0)) → w.grownBy w' none → wpList Try.prog ops Q rest (ac.put o.dst (.slice (some ⟨w.heap.size, 0, none⟩) 0 N)) w') :
    wpList Try.prog ops Q (o :: rest) ac w := by
  obtain ⟨i0, hi, hz0, hz1, hz2⟩ := info_parts info_u8
  subst hC
  refine wpList_plain hgd fun K hK => ?_
  have hr := run_make (P := Try.prog) w 74 5 i0 (.int .u8 0) Try.underlying74 hi hz0 kl kc 0 (N : Int) (Int.le_refl _) (by omega) (by rw [hz2]; omega) (by omega)
  rw [Int.toNat_natCast, hz1, Nat.mul_one] at hr
  unfold Oper.wp
  simp [execOp, hop, hl, hc, hr, Result.andThen]
  refine hK _ _ (h _ ?_ ⟨rfl, rfl, rfl, by simp, fun k hk _ => Below.heap_alloc _ _ _ hk⟩)
  show (w.heap.push _)[w.heap.size]? = _
  rw [Array.getElem?_push, if_pos rfl]
  congr 2
  rw [← made_zero]
  rfl

/-- append(s, x...) where s is empty and has room. -/
theorem wpList_fill {ops : Array Oper} {rest : List Oper} {o : Oper} {ac : Act} {Q : Exit → Act → World → Prop} (w : World) (hgd : o.guard = none) (s x : Operand)
    (ho : o.op = .call { callee := .builtin .append, args := #[s, x], argTypes := #[74, 74] })
    (g N : Nat) (hs : ac.eval s = .slice (some ⟨g, 0, none⟩) 0 N) (hg : w.heap[g]? = some (.cells (List.replicate N (Value.int .u8 0)).toArray 5 (0, 0)))
    (a : Option Addr) (c : Nat) (l : List Int) (hx : ac.eval x = .slice a l.length c) (hrow : Row w a l) (hnil : a = none → c = 0) (hroom : l.length ≤ N) (hm : N ≤ maxLen)
    (h : ∀ w', w'.heap[g]? = some (.cells ((l ++ List.replicate (N - l.length) 0).map (Value.int .u8)).toArray 5 (0, 0)) → w.grownBy w' (some g) → wpList Try.prog ops Q rest (ac.put o.dst (.slice (some ⟨g, 0, none⟩) l.length N)) w') :
    wpList Try.prog ops Q (o :: rest) ac w := by
  obtain ⟨i0, hi, hz0, hz1, hz2⟩ := info_parts info_u8
  cases a with
  | none =>
    have hl : l = [] := by
      cases l with
      | nil => rfl
      | cons y l => obtain ⟨b, off, hh, _⟩ := hrow.cells (by simp); cases hh
    subst hl
    have hown : w.ownsRow 0 5 1 (.slice (some ⟨g, 0, none⟩) 0 N) 0 [] := ⟨rfl, .inr ⟨g, N, _, rfl, Nat.zero_le _, hg, Nat.zero_le _, hm, by simp, by simp⟩⟩
    refine wpList_append_own_none hgd s x 74 ho 0 5 i0 1 Try.underlying74 hi _ 0 [] hs hown ?_ ?_
    · rw [hx, hnil rfl]; rfl
    · exact h w (by simpa using hg) ⟨rfl, rfl, rfl, Nat.le_refl _, fun _ _ _ => rfl⟩
  | some ad =>
    have hr := run_append_room (P := Try.prog) w 74 o.type 5 i0 Try.underlying74 hi g 0 N _ hg ad l.length c (l.map (Value.int .u8)) (by rw [hz1]; simp) (by
      intro j u hj
      have hjl : j < l.length := by
        have := (List.getElem?_eq_some_iff.1 hj).1
        simpa using this
      obtain ⟨b, off, hh, hcc⟩ := hrow.cells (by omega)
      cases hh
      have e1 : Addr.add ⟨b, off, none⟩ j = ⟨b, off + j, none⟩ := Go.WideShapes.add_plain ..
      rw [e1, hcc j hjl]
      rw [← hj]
      simp [hjl]) oneCell_u8 (by omega) (by rw [hz1]; simp; omega)
    refine wpList_plain hgd fun K hK => ?_
    unfold Oper.wp execOp
    simp only [ho, resolve, invoke, builtin, Sem.run_bind, Sem.run_pure, Result.andThen_ok, List.map_toArray, List.map_cons, List.map_nil, hs, hx, hr]
    rw [Nat.zero_add]
    refine hK _ _ (h _ ?_ ⟨rfl, rfl, rfl, by simp [World.setRow], fun k _ hk => setRow_other w g k _ (fun e => hk (by simp [e]))⟩)
    rw [setRow_heap w g _ _ _ _ hg]
    simp

/-- What such a block owns, read to its end. -/
theorem owns_room {w : World} {B g : Nat} {l : List Int} (hb : B ≤ g) (hm : l.length ≤ maxLen) (hg : w.heap[g]? = some (.cells (l.map (Value.int .u8)).toArray 5 (0, 0))) :
    Owns w B (.slice (some ⟨g, 0, none⟩) l.length l.length) l :=
  ⟨by simp, .inr ⟨g, l.length, _, rfl, hb, hg, Nat.le_refl _, hm, by simp, by rw [Nat.mul_one]; exact List.take_of_length_le (by simp)⟩⟩

/-- One byte of a slice of the call's own: where it lies, and what writing it does. -/
theorem Owns.write {w : World} {B n c : Nat} {a : Option Addr} {l : List Int} (h : Owns w B (.slice a n c) l) (hl : l.length = n) (k : Nat) (hk : k < n) :
    ∃ g, a = some ⟨g, 0, none⟩ ∧ B ≤ g ∧ g < w.heap.size ∧ w.cell? ⟨g, k, none⟩ = some (.int .u8 (l.getD k 0)) ∧ w.frozen? ⟨g, k, none⟩ = false ∧ ∀ y, Owns (w.setCell ⟨g, k, none⟩ (.int .u8 y)) B (.slice a n c) (l.set k y) := by
  subst hl
  obtain ⟨a', c', h1, _, h2, h3, h4⟩ := h.form
  cases h1
  cases a with
  | none =>
    obtain ⟨_, hh⟩ := h
    rcases hh with ⟨_, h6⟩ | ⟨g, cap, cur, h6, _⟩
    · omega
    · cases h6
  | some x =>
    obtain ⟨g, off, spot⟩ := x
    have := h3 _ rfl
    simp at this
    obtain ⟨h5, rfl, rfl⟩ := this
    have hc := World.ownsRow.cellAt (e := 5) (size := 1) h k (by omega)
    refine ⟨g, rfl, h5, ?_, ?_, h.frozen k, fun y => h.stored k y⟩
    · exact (World.ownsRow.lt h g rfl).2
    · rw [hc]; simp [hk]
theorem Owns.other {w : World} {B : Nat} {v : Value} {l : List Int} (h : Owns w B v l) {ad : Addr} (ha : ad.block < B) (u : Value) : Owns (w.setCell ad u) B v l := ownsRow_setCell_below h ha u
theorem size_setCell (w : World) (a : Addr) (u : Value) : (w.setCell a u).heap.size = w.heap.size := by simp
end Go.Proofs.Ytmlddgmkbbaccaa
