/- append of what came in; make of bools; what is told. -/
import Derived.Test.YtfcpjenlckkloaaWhT
import Derived.Laws.MakeOwn
namespace Go.Proofs.Ytfcpjenlckkloaa
open Go.RowKit
set_option linter.unusedVariables false
set_option linter.unusedSimpArgs false

theorem run_app_in (w : World) (ty : TypeId) (O : Sl) (a : Option Addr) (c : Nat) (l : List Int) (hO : O.own w) (hS : RowI w a l) (hn : a = none → c = 0) (hl : O.ids.length + l.length ≤ 17592186044416) :
    ∃ (O' : Sl) (w' : World), (Builtin.append_ #[39, 39] ty #[O.v, .slice a l.length c]).run Try.prog w = .ok O'.v w' ∧ O'.ids = O.ids ++ l ∧ O'.own w' ∧ But (fun k => O.at_ k) w w' ∧ ∀ k, O'.at_ k → O.at_ k ∨ w.heap.size ≤ k := by
  obtain ⟨i0, hi, hz0, hz1, hz2⟩ := infoParts info_i64
  cases a with
  | none =>
    have hl0 : l = [] := by
      cases l with
      | nil => rfl
      | cons x l => obtain ⟨b, off, h, _⟩ := hS.cells (by simp); cases h
    subst hl0
    rw [hn rfl]
    refine ⟨O, w, ?_, by simp, hO, But.refl _ _, fun k hk => .inl hk⟩
    exact run_append_owned_none (P := Try.prog) (w := w) 0 39 ty 3 i0 1 Try.underlying39 hi O.v O.ids.length (O.ids.map (Value.int .i64)) hO
  | some x =>
    obtain ⟨v', w', r1, r2, r3, _, r5⟩ := run_append_own_at (P := Try.prog) w 0 39 ty 3 i0 (.int .i64 0) 1 8 Try.underlying39 hi hz0 hz1 hz2 rfl (by decide) O.v O.ids.length (O.ids.map (Value.int .i64)) hO x l.length c (l.map (Value.int .i64)) (by simp) (fun j u hj => by
      have hjl : j < l.length := by
        have := (List.getElem?_eq_some_iff.1 hj).1
        simpa using this
      obtain ⟨b, off, hh, hc⟩ := hS.cells (by omega)
      cases hh
      have e1 : Addr.add ⟨b, off, none⟩ j = ⟨b, off + j, none⟩ := Go.WideShapes.add_plain ..
      rw [e1, hc j hjl]
      rw [← hj]
      simp [hjl]) (fun u hu => by
        obtain ⟨y, _, rfl⟩ := List.mem_map.1 hu
        rfl) (by unfold maxLen; omega) (by omega) (by omega)
    have r2' : w'.ownsRow 0 3 1 v' (O.ids ++ l).length ((O.ids ++ l).map (Value.int .i64)) := by simpa using r2
    obtain ⟨a, c, rfl, ho⟩ := own_sl r2'
    refine ⟨⟨a, c, O.ids ++ l⟩, w', r1, rfl, ho, (But.refl _ _).grown r3 (fun n hn => .inl (ownBlock_at.1 hn)), fun k hk => ?_⟩
    have hk' := ownBlock_at.2 hk
    rcases r5 with e | e
    · rw [e] at hk'; exact .inl (ownBlock_at.1 hk')
    · rw [e] at hk'
      cases hk'
      exact .inr (Nat.le_refl _)
/-- append of one number. -/
theorem run_app_one (w : World) (ty : TypeId) (O : Sl) (x : Int) (hO : O.own w) (hl : O.ids.length + 1 ≤ 17592186044416) :
    ∃ (O' : Sl) (w' : World), (Builtin.append_ #[39, 39] ty #[O.v, .slice (some ⟨w.heap.size, 0, none⟩) 1 1]).run Try.prog (w.alloc (.cells #[.int .i64 x] 3)) = .ok O'.v w' ∧ O'.ids = O.ids ++ [x] ∧ O'.own w' ∧ But (fun k => O.at_ k) w w' ∧ ∀ k, O'.at_ k → O.at_ k ∨ w.heap.size ≤ k := by
  have b : But (fun k => O.at_ k) w (w.alloc (.cells #[.int .i64 x] 3)) := (But.refl _ w).alloc _
  have ho := hO.but ((But.refl (fun _ => False) w).alloc (.cells #[.int .i64 x] 3)) (fun _ _ y => y)
  have hr : RowI (w.alloc (.cells #[.int .i64 x] 3)) (some ⟨w.heap.size, 0, none⟩) [x] := row_lit _ w.heap.size _ [x] (blk_new w _ _) (fun i hi => by
    simp at hi
    subst hi
    rfl) (by simp)
  obtain ⟨O', w', r1, r2, r3, r4, r5⟩ := run_app_in _ ty O _ 1 [x] ho hr (fun h => by cases h) (by simpa using hl)
  refine ⟨O', w', r1, r2, r3, b.trans r4 (fun _ _ y => y), fun k hk => ?_⟩
  rcases r5 k hk with y | y
  · exact .inl y
  · refine .inr ?_
    simp at y
    omega
theorem info_bool : (Try.prog.info? 4).map (fun i => (i.zero, i.size, i.bytes)) = some (some (.bool false), 1, 1) := by kernel_rfl
/-- The cells of bools. -/
def bcs (B : List Bool) : Array Value := (B.map Value.bool).toArray
theorem made_bools (n : Nat) : madeCells (Value.bool false).cells n = bcs (List.replicate n false) := by
  unfold bcs
  rw [List.map_replicate]
  apply Array.ext
  · simp [madeCells]
  · intro i h1 h2
    simp [madeCells, Value.cells, Nat.mod_one]
theorem wpList_make_bools {ops : Array Oper} {rest : List Oper} {o : Oper} {ac : Act} {Q : Exit → Act → World → Prop} (w : World) (hgd : o.guard = none) (l c : Operand) (hop : o.op = Op.makeSlice 41 l c)
    (kl kc : IntKind) (N : Nat) (hl : ac.eval l = .int kl (N : Int)) (hc : ac.eval c = .int kc (N : Int)) (hN : N ≤ 1000)
    (h : wpList Try.prog ops Q rest (ac.put o.dst (.slice (some ⟨w.heap.size, 0, none⟩) N N)) (w.alloc (.cells (bcs (List.replicate N false)) 4))) :
    wpList Try.prog ops Q (o :: rest) ac w := by
  obtain ⟨i0, hi, hz0, hz1, hz2⟩ := infoParts info_bool
  refine wpList_plain hgd fun K hK => ?_
  have hr := run_make (P := Try.prog) w 41 4 i0 (.bool false) Try.underlying41 hi hz0 kl kc (N : Int) (N : Int) (by omega) (Int.le_refl _) (by rw [hz2]; omega) (by omega)
  rw [Int.toNat_natCast, hz1, Nat.mul_one, made_bools] at hr
  unfold Oper.wp
  simp [execOp, hop, hl, hc, hr, Result.andThen]
  exact hK _ _ h
theorem bcs_get {B : List Bool} {i : Nat} {b : Bool} (h : B[i]? = some b) : (bcs B)[i]? = some (.bool b) := by simp [bcs, h]
theorem bcs_set (B : List Bool) (i : Nat) (b : Bool) : (bcs B).setIfInBounds i (.bool b) = bcs (B.set i b) := by simp [bcs, List.map_set]
/-- The entries of which times tell. -/
def EntOf (TL : List Int) (i : Nat) (p : M.Ent) : Prop := 0 ≤ p.1 ∧ p.1 < (i : Int) ∧ TL[p.1.toNat]? = some p.2 ∧ rtB p.2 = true
theorem entOf_set {TL : List Int} {i : Nat} {E : List M.Ent} (hE : ∀ p, p ∈ E ↔ EntOf TL i p) {t : Int} (ht : TL[i]? = some t) (hr : rtB t = true) : ∀ p, p ∈ M.setE E i t ↔ EntOf TL (i + 1) p := fun p => by
  rw [M.mem_setE, hE p]
  unfold EntOf
  constructor
  · rintro (rfl | ⟨⟨h1, h2, h3⟩, _⟩)
    · refine ⟨?_, ?_, ?_, hr⟩
      · show (0 : Int) ≤ ↑i; omega
      · show (↑i : Int) < ↑(i + 1); omega
      · show TL[(i : Int).toNat]? = some t; rw [Int.toNat_natCast]; exact ht
    · exact ⟨h1, by omega, h3⟩
  · rintro ⟨h1, h2, h3, h4⟩
    by_cases e : p.1 = i
    · left
      rw [e, Int.toNat_natCast, ht] at h3
      cases h3
      exact Prod.ext e rfl
    · exact .inr ⟨⟨h1, by omega, h3, h4⟩, e⟩
theorem entOf_keep {TL : List Int} {i : Nat} {E : List M.Ent} (hE : ∀ p, p ∈ E ↔ EntOf TL i p) {t : Int} (ht : TL[i]? = some t) (hr : rtB t = false) : ∀ p, p ∈ E ↔ EntOf TL (i + 1) p := fun p => by
  rw [hE p]
  unfold EntOf
  constructor
  · rintro ⟨h1, h2, h3⟩
    exact ⟨h1, by omega, h3⟩
  · rintro ⟨h1, h2, h3, h4⟩
    refine ⟨h1, ?_, h3, h4⟩
    rcases (show p.1 < i ∨ p.1 = i by omega) with x | x
    · exact x
    · rw [x, Int.toNat_natCast, ht] at h3
      cases h3
      rw [hr] at h4; cases h4
/-- Which are told behind these numbers. -/
def Told (B B' : List Bool) (ids : List Int) : Prop := B'.length = B.length ∧ ∀ i : Nat, B'[i]? = some false ↔ B[i]? = some false ∧ ∀ x ∈ ids, x.toNat ≠ i
theorem Told.start (B : List Bool) : Told B B [] := ⟨rfl, fun i => by simp⟩
theorem Told.step {B B' : List Bool} {ids : List Int} (h : Told B B' ids) {x : Int} (hx : x.toNat < B.length) : Told B (B'.set x.toNat true) (ids ++ [x]) := by
  refine ⟨by simpa using h.1, fun i => ?_⟩
  rw [List.getElem?_set]
  by_cases e : x.toNat = i
  · rw [if_pos e]
    simp [e]
  · rw [if_neg e, h.2 i]
    simp only [List.mem_append, List.mem_singleton]
    constructor
    · rintro ⟨h1, h2⟩
      exact ⟨h1, fun y hy => hy.elim (h2 y) (fun e' => e' ▸ e)⟩
    · rintro ⟨h1, h2⟩
      exact ⟨h1, fun y hy => h2 y (.inl hy)⟩
end Go.Proofs.Ytfcpjenlckkloaa
