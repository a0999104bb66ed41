/- Texts joined: CkP FrS -/
import Derived.Test.YtgppfkbapieneaaDoorCfx6
namespace Go.Proofs.YtgppfkbapieneaaDoor
open Go.RowKit
set_option linter.unusedVariables false
set_option linter.unusedSimpArgs false
theorem insS_nodup_unique : ∀ {l m : List Int}, l.Pairwise (· < ·) → m.Pairwise (· < ·) → (∀ z, z ∈ l ↔ z ∈ m) → l = m
  | [], [], _, _, _ => rfl
  | [], y :: m, _, _, h => by have := (h y).2 (by simp); simp at this
  | x :: l, [], _, _, h => by have := (h x).1 (by simp); simp at this
  | x :: l, y :: m, hl, hm, h => by
    rw [List.pairwise_cons] at hl hm
    have hxy : x = y := by
      rcases List.mem_cons.1 ((h x).1 (by simp)) with e | e
      · exact e
      · rcases List.mem_cons.1 ((h y).2 (by simp)) with e' | e'
        · exact e'.symm
        · have h1 := hl.1 _ e'
          have h2 := hm.1 _ e
          omega
    subst hxy
    rw [insS_nodup_unique hl.2 hm.2 (fun z => ⟨fun hz => by
      rcases List.mem_cons.1 ((h z).1 (by simp [hz])) with e | e
      · have := hl.1 _ hz
        omega
      · exact e, fun hz => by
      rcases List.mem_cons.1 ((h z).2 (by simp [hz])) with e | e
      · have := hm.1 _ hz
        omega
      · exact e⟩)]
theorem foldS_iff : ∀ (P : List Spn) (s : List Int) (z : Int), z ∈ P.foldl startsF s ↔ z ∈ s ∨ ∃ p ∈ P, p.all = false ∧ (z = p.lo ∨ z = p.hi + 1)
  | [], s, z => by simp
  | p :: P, s, z => by
    rw [List.foldl_cons, foldS_iff P, startsF]
    cases hp : p.all with
    | true =>
      simp only [if_true, List.mem_cons, exists_eq_or_imp, hp]
      simp
    | false =>
      simp only [Bool.false_eq_true, if_false, insS_mem, List.mem_cons, exists_eq_or_imp, hp]
      simp only [true_and]
      constructor
      · rintro ((h | h | h) | h)
        · exact .inr (.inl (.inr h))
        · exact .inr (.inl (.inl h))
        · exact .inl h
        · exact .inr (.inr h)
      · rintro (h | (h | h) | h)
        · exact .inl (.inr (.inr h))
        · exact .inl (.inr (.inl h))
        · exact .inl (.inl h)
        · exact .inr h
theorem starts_iff (P : List Spn) (z : Int) : z ∈ startsL P ↔ z = 0 ∨ ∃ p ∈ P, p.all = false ∧ (z = p.lo ∨ z = p.hi + 1) := by
  unfold startsL
  rw [foldS_iff]
  simp

/-! ### points -/
def pt0 : Pt := ⟨0, 0, 0⟩
def ptTop : Pt := ⟨18446744073709551615, 18446744073709551615, 18446744073709551615⟩
theorem pt0_ok : pt0.ok := by unfold Pt.ok pt0; simp only; omega
theorem ptTop_ok : ptTop.ok := by unfold Pt.ok ptTop; simp only; omega
theorem Pt.low {p : Pt} (h : p.ok) : pt0.n ≤ p.n := by
  have := Pt.n_low h
  simpa [pt0, Pt.n] using this
theorem Pt.high {p : Pt} (h : p.ok) : p.n ≤ ptTop.n := by
  obtain ⟨h1, h2, h3⟩ := h
  simp only [ptTop, Pt.n]
  omega
/-- How two points stand. -/
def ordP (p q : Pt) : Int := if p.less q then -1 else if q.less p then 1 else 0
theorem ord_neg {p q : Pt} (hp : p.ok) (hq : q.ok) : ordP p q < 0 ↔ p.n < q.n := by
  unfold ordP
  have h1 := Pt.less_iff hp hq
  have h2 := Pt.less_iff hq hp
  split
  · rename_i h; simp [h1.1 h]
  · rename_i h
    split
    · rename_i h'; have := h2.1 h'; constructor <;> intro x <;> omega
    · constructor
      · intro x; omega
      · intro x; exact absurd (h1.2 x) h
theorem ord_pos {p q : Pt} (hp : p.ok) (hq : q.ok) : 0 < ordP p q ↔ q.n < p.n := by
  unfold ordP
  have h1 := Pt.less_iff hp hq
  have h2 := Pt.less_iff hq hp
  split
  · rename_i h; have := h1.1 h; constructor <;> intro x <;> omega
  · rename_i h
    split
    · rename_i h'; have := h2.1 h'; simp [this]
    · rename_i h'
      constructor
      · intro x; omega
      · intro x; exact absurd (h2.2 x) h'
theorem ord_zero {p q : Pt} (hp : p.ok) (hq : q.ok) : ordP p q = 0 ↔ p = q := by
  have h1 := ord_neg hp hq
  have h2 := ord_pos hp hq
  constructor
  · intro x
    exact Pt.n_inj hp hq (by omega)
  · rintro rfl
    omega
theorem pts_inj : ∀ {l m : List Pt}, (∀ p ∈ l, p.ok) → (∀ p ∈ m, p.ok) → l.map Pt.n = m.map Pt.n → l = m
  | [], [], _, _, _ => rfl
  | [], y :: m, _, _, h => by simp at h
  | x :: l, [], _, _, h => by simp at h
  | x :: l, y :: m, hl, hm, h => by
    simp only [List.map_cons, List.cons.injEq] at h
    rw [Pt.n_inj (hl x (by simp)) (hm y (by simp)) h.1, pts_inj (fun p hp => hl p (by simp [hp])) (fun p hp => hm p (by simp [hp])) h.2]
/-- What a rule takes of a dimension, as the program has it: its first and its last point. -/
def Rl.fst_ (r : Rl) (d : Nat) : Pt := if r.any_ d then pt0 else r.from_ d
def Rl.lst_ (r : Rl) (d : Nat) : Pt := if r.any_ d then ptTop else r.upto d
/-- These cells lie from k on in the block b. -/
def CellsAt (W : World) (b k : Nat) (sub : Array Value) : Prop := b < W.heap.size ∧ ∀ j v, sub[j]? = some v → W.cell? ⟨b, k + j, none⟩ = some v
theorem CellsAt.below {w w' : World} {b k : Nat} {sub : Array Value} (h : CellsAt w b k sub) (hb : Below w.heap.size w w') : CellsAt w' b k sub :=
  ⟨Nat.lt_of_lt_of_le h.1 hb.size, fun j v hv => kept hb (h.2 j v hv)⟩
theorem Blk.at_ {W : World} {g : Nat} {t : TypeId} {cs : Array Value} (h : Blk W g t cs) : CellsAt W g 0 cs := ⟨h.lt, fun j v hv => by rw [Nat.zero_add]; exact h.cell j v hv⟩
theorem load_at {W : World} {g k : Nat} {ty : TypeId} {sub : Array Value} (h : CellsAt W g k sub) {fs : _} (hu : Tryd.prog.underlying ty = some (.struct fs)) (hi : (Tryd.prog.info? ty).map (·.size) = some sub.size) :
    (loadVar ty ⟨g, k, none⟩).run Tryd.prog W = .ok (.agg sub) W := by
  have hl : (loadCells ⟨g, k, none⟩ sub.toList.length).run Tryd.prog W = .ok sub.toList.toArray W :=
    run_loadCells_list (P := Tryd.prog) W ⟨g, k, none⟩ sub.toList (fun j v hv => by
      have hadd : (⟨g, k, none⟩ : Addr).add j = ⟨g, k + j, none⟩ := Go.WideShapes.add_plain ..
      rw [hadd]
      exact h.2 j v (by simpa using hv))
  cases hq : Tryd.prog.info? ty with
  | none => simp [hq] at hi
  | some i =>
    have hs' : i.size = sub.size := by simpa [hq] using hi
    have hagg : (isAgg ty).run Tryd.prog W = .ok true W := by
      unfold isAgg
      rw [Sem.run_bind, run_underlying hu W]
      rfl
    simp only [Array.length_toList, Array.toArray_toList] at hl
    simp [loadVar, Sem.run_bind, hagg, sizeOf, typeInfo, hq, hs', hl]
theorem wpList_load_at {ops : Array Oper} {rest : List Oper} {o : Oper} {ac : Act} {w : World} {Q : Exit → Act → World → Prop} (hgd : o.guard = none) (ty : TypeId) (p : Operand) (ho : o.op = Op.load ty p) (g k : Nat) (hp : ac.eval p = .pointer (some ⟨g, k, none⟩)) (sub : Array Value)
    (hb : CellsAt w g k sub) {fs : _} (hu : Tryd.prog.underlying ty = some (.struct fs)) (hi : (Tryd.prog.info? ty).map (·.size) = some sub.size) (h : wpList Tryd.prog ops Q rest (ac.put o.dst (.agg sub)) w) : wpList Tryd.prog ops Q (o :: rest) ac w := by
  refine wpList_plain hgd fun K hK => ?_
  have hl := load_at hb hu hi
  unfold Oper.wp
  simp [execOp, ho, hp, Instr.loadAt, Instr.sureAddr, hl, Result.andThen]
  exact hK _ _ h
theorem list_of {α : Type} {P : Nat → α → Prop} : ∀ m, (∀ i, i < m → ∃ q, P i q) → ∃ l : List α, l.length = m ∧ ∀ (i : Nat) (q : α), l[i]? = some q → P i q
  | 0, _ => ⟨[], rfl, fun i q h => by simp at h⟩
  | m + 1, h => by
    obtain ⟨l, h1, h2⟩ := list_of m (fun i hi => h i (by omega))
    obtain ⟨q, hq⟩ := h m (by omega)
    refine ⟨l ++ [q], by simp [h1], fun i q' hi => ?_⟩
    rcases Nat.lt_or_ge i m with x | x
    · rw [List.getElem?_append_left (by omega)] at hi
      exact h2 i q' hi
    · have hl := (List.getElem?_eq_some_iff.1 hi).1
      simp [h1] at hl
      have : i = m := by omega
      subst this
      rw [List.getElem?_append_right (by omega)] at hi
      simp [h1] at hi
      rw [← hi]
      exact hq
/-- A slice of things of n cells each, as it is read. -/
structure RowN {α : Type} (n : Nat) (v : α → Array Value) (ok : World → α → Prop) (w : World) (a : Option Addr) (l : List α) : Prop where
  each : ∀ q ∈ l, ok w q
  cells : ∀ (i : Nat) (q : α), l[i]? = some q → ∃ b off, a = some ⟨b, off, none⟩ ∧ CellsAt w b (off + i * n) (v q)
theorem RowN.below {α : Type} {n : Nat} {v : α → Array Value} {ok : World → α → Prop} (hok : ∀ {w w' : World} {q : α}, ok w q → Below w.heap.size w w' → ok w' q) {w w' : World} {a : Option Addr} {l : List α} (h : RowN n v ok w a l) (hb : Below w.heap.size w w') : RowN n v ok w' a l :=
  ⟨fun q hq => hok (h.each q hq) hb, fun i q hq => by
    obtain ⟨b, off, h1, h2⟩ := h.cells i q hq
    exact ⟨b, off, h1, h2.below hb⟩⟩
theorem info_rl (r : Rl) : (Tryd.prog.info? 55).map (·.size) = some r.v.size := by kernel_rfl
end Go.Proofs.YtgppfkbapieneaaDoor
