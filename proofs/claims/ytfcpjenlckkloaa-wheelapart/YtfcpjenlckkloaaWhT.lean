/- Two wheels beside one another, and a slice; what was told in steps. -/
import Derived.Test.YtfcpjenlckkloaaWhS
import Derived.Test.YtfcpjenlckkloaaArg7
namespace Go.Proofs.Ytfcpjenlckkloaa.M
theorem due_more (E : List Ent) {t u : Int} (h : t ≤ u) : dueE E u = dueE E t ++ dueE (restE E t) u ∧ restE E u = restE (restE E t) u := by
  induction E with
  | nil => exact ⟨rfl, rfl⟩
  | cons x E ih =>
    unfold dueE restE at ih ⊢
    by_cases hx : x.2 ≤ t
    · have hu : x.2 ≤ u := by omega
      simp only [List.takeWhile_cons, List.dropWhile_cons, hx, hu, decide_true, if_true, List.cons_append]
      exact ⟨by rw [ih.1], ih.2⟩
    · simp only [List.takeWhile_cons (p := fun p : Ent => decide (p.2 ≤ t)), List.dropWhile_cons (p := fun p : Ent => decide (p.2 ≤ t)), hx, decide_false]
      exact ⟨by simp, by simp⟩
theorem due_none (E : List Ent) (t : Int) : dueE (restE E t) t = [] ∧ restE (restE E t) t = restE E t := by
  have h := due_more E (Int.le_refl t)
  have h1 := congrArg List.length h.1
  rw [List.length_append] at h1
  exact ⟨List.eq_nil_of_length_eq_zero (by omega), h.2.symm⟩
theorem due_len (E : List Ent) (t : Int) : (dueE E t).length + (restE E t).length = E.length := by
  have := congrArg List.length (due_rest E t)
  simpa using this
end Go.Proofs.Ytfcpjenlckkloaa.M
namespace Go.Proofs.Ytfcpjenlckkloaa
open Go.RowKit
set_option linter.unusedVariables false
set_option linter.unusedSimpArgs false

theorem Wn.other {w0 w w' : World} {g : Nat} {F G : Nat → Prop} {now : Int} {E : List M.Ent} (h : Wn w0 w g F now E) (hb : But G w w') (hd : ∀ k, F k → ¬ G k) (bel : Below w0.heap.size w0 w') : Wn w0 w' g F now E :=
  ⟨h.whl.but hb hd, h.new, bel⟩
theorem nx_apart {F F' G : Nat → Prop} {w w' : World} (h : ∀ k, F' k → nx F w w' k) (hd : ∀ k, F k → ¬ G k) (hl : ∀ k, G k → k < w.heap.size) : ∀ k, F' k → ¬ G k := fun k hk hg => by
  rcases h k hk with x | x
  · exact hd k x hg
  · have := hl k hg
    omega
/-- Two wheels, with nothing in common. -/
structure Two (w0 w : World) (ga gb : Nat) (Fa Fb : Nat → Prop) (na nb : Int) (Ea Eb : List M.Ent) : Prop where
  a : Wn w0 w ga Fa na Ea
  b : Wn w0 w gb Fb nb Eb
  dj : ∀ k, Fa k → ¬ Fb k
theorem Two.below {w0 w w' : World} {ga gb : Nat} {Fa Fb : Nat → Prop} {na nb : Int} {Ea Eb : List M.Ent} (h : Two w0 w ga gb Fa Fb na nb Ea Eb) (hb : Below w.heap.size w w') : Two w0 w' ga gb Fa Fb na nb Ea Eb := ⟨h.a.below hb, h.b.below hb, h.dj⟩
theorem Two.onA {w0 w w' : World} {ga gb : Nat} {Fa Fb F' : Nat → Prop} {na nb na' : Int} {Ea Eb Ea' : List M.Ent} (h : Two w0 w ga gb Fa Fb na nb Ea Eb) (ha : Wn w0 w' ga F' na' Ea') (hb : But Fa w w') (hn : ∀ k, F' k → nx Fa w w' k) : Two w0 w' ga gb F' Fb na' nb Ea' Eb :=
  ⟨ha, h.b.other hb (fun k x y => h.dj k y x) ha.bel, nx_apart hn h.dj h.b.whl.lt⟩
theorem Two.swap {w0 w : World} {ga gb : Nat} {Fa Fb : Nat → Prop} {na nb : Int} {Ea Eb : List M.Ent} (h : Two w0 w ga gb Fa Fb na nb Ea Eb) : Two w0 w gb ga Fb Fa nb na Eb Ea := ⟨h.b, h.a, fun k x y => h.dj k y x⟩
theorem Two.onB {w0 w w' : World} {ga gb : Nat} {Fa Fb F' : Nat → Prop} {na nb nb' : Int} {Ea Eb Eb' : List M.Ent} (h : Two w0 w ga gb Fa Fb na nb Ea Eb) (hb' : Wn w0 w' gb F' nb' Eb') (hb : But Fb w w') (hn : ∀ k, F' k → nx Fb w w' k) : Two w0 w' ga gb Fa F' na nb' Ea Eb' := (h.swap.onA hb' hb hn).swap
/-- A second wheel made. -/
theorem Two.make {w0 w w' : World} {ga gb : Nat} {Fa Fb : Nat → Prop} {na nb : Int} {Ea Eb : List M.Ent} (h : Wn w0 w ga Fa na Ea) (k : Wn w w' gb Fb nb Eb) : Two w0 w' ga gb Fa Fb na nb Ea Eb :=
  ⟨h.below k.bel, ⟨k.whl, fun j hj => Nat.le_trans h.bel.size (k.new j hj), h.bel.trans (k.bel.mono h.bel.size)⟩, fun j x y => by
    have := h.whl.lt j x
    have := k.new j y
    omega⟩
/-- A slice of one's own beside two wheels. -/
structure Own2 (w0 w : World) (Fa Fb : Nat → Prop) (O : Sl) : Prop where
  own : O.own w
  new : ∀ k, O.at_ k → w0.heap.size ≤ k
  a : ∀ k, O.at_ k → ¬ Fa k
  b : ∀ k, O.at_ k → ¬ Fb k
theorem i64_and3 (n : Int) : bits .and .i64 n 3 = n % 4 := by
  have h : (BitVec.ofInt 64 3).toNat = 2 ^ 2 - 1 := by decide
  have key : (BitVec.ofInt 64 n &&& BitVec.ofInt 64 3).toNat = (n % ((2 ^ 64 : Nat) : Int)).toNat % 2 ^ 2 := by
    rw [BitVec.toNat_and, BitVec.toNat_ofInt, h, Nat.and_two_pow_sub_one_eq_mod]
  show IntKind.i64.wrap ((BitVec.ofInt 64 n &&& BitVec.ofInt 64 3).toNat : Nat) = n % 4
  rw [key, IntKind.wrap_i64]
  omega
end Go.Proofs.Ytfcpjenlckkloaa
