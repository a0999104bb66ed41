/- slices.Grow of nothing and slices.Concat of any parts. -/
import Derived.Test.YtmlddgmkbbaccaaZer
import Derived.Test.YtmlddgmkbbaccaaParts
namespace Go.Proofs.Ytmlddgmkbbaccaa
open Go.RowKit
set_option linter.unusedVariables false
set_option linter.unusedSimpArgs false

theorem Owns.trunc {w : World} {B c n : Nat} {a : Option Addr} {l : List Int} (h : Owns w B (.slice a n c) l) (k : Nat) (hk : k ≤ l.length) : Owns w B (.slice a k c) (l.take k) := by
  obtain ⟨h1, h2⟩ := h
  have hl : (l.take k).length = k := by rw [List.length_take]; omega
  refine ⟨by simp, ?_⟩
  rw [hl]
  rcases h2 with ⟨h3, h4⟩ | ⟨g, cap, cur, h3, h4, h5, h6, h7, h8, h9⟩
  · simp only [Value.slice.injEq] at h3
    obtain ⟨rfl, _, rfl⟩ := h3
    obtain rfl : k = 0 := by omega
    exact .inl ⟨rfl, rfl⟩
  · simp only [Value.slice.injEq] at h3
    obtain ⟨rfl, _, rfl⟩ := h3
    refine .inr ⟨g, c, cur, rfl, h4, h5, by omega, h7, h8, ?_⟩
    have : List.take (k * 1) cur.toList = List.take k (List.take (l.length * 1) cur.toList) := by rw [List.take_take, Nat.mul_one, Nat.mul_one, Nat.min_eq_left hk]
    rw [this, h9, List.map_take]

theorem wpList_zeros {ops : Array Oper} {rest : List Oper} {o : Oper} {ac : Act} {Q : Exit → Act → World → Prop} (w : World) (hgd : o.guard = none) (s x : Operand)
    (ho : o.op = .call { callee := .builtin .append, args := #[s, x], argTypes := #[74, 3] })
    (B : Nat) (v : Value) (l : List Int) (m : Nat) (hs : ac.eval s = v) (hown : Owns w B v l) (hx : ac.eval x = .int .i64 m)
    (r : List Int) (hr : l ++ List.replicate m 0 = r) (hm : l.length + m ≤ 1048576) (hbase : B ≤ w.heap.size)
    (h : ∀ a' c' w', Owns w' B (.slice a' r.length c') r → r.length ≤ c' → Below B w w' → wpList Try.prog ops Q rest (ac.put o.dst (.slice a' r.length c')) w') : wpList Try.prog ops Q (o :: rest) ac w := by
  subst hr
  obtain ⟨v', w', h1, h2, h3⟩ := run_append_zeros w o.type B v l m hown hm hbase
  refine wpList_plain hgd fun _ hK => ?_
  obtain ⟨a', c', rfl, h4, h5, h6, h7⟩ := h2.form
  unfold Oper.wp execOp
  simp only [ho, resolve, invoke, builtin, Sem.run_bind, Sem.run_pure, Result.andThen_ok, List.map_toArray, List.map_cons, List.map_nil, hs, hx, h1]
  exact hK _ _ (h a' c' w' h2 h4 ((Below.refl _ _).grown h3 hbase fun k hk => (World.ownsRow.lt hown k hk).1))

theorem flat_le (ls : List (List Int)) (k : Nat) : (ls.take k).flatten.length ≤ ls.flatten.length := by
  have h : ls.flatten = (ls.take k).flatten ++ (ls.drop k).flatten := by rw [← List.flatten_append, List.take_append_drop]
  rw [h, List.length_append]
  omega

end Go.Proofs.Ytmlddgmkbbaccaa
