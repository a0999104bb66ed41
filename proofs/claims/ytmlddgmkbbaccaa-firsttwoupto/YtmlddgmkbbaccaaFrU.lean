/- Lists of rules put behind one another. -/
import Derived.Test.YtmlddgmkbbaccaaFrT
import Derived.Laws.AppendOwnNone
namespace Go.Proofs.Ytmlddgmkbbaccaa
open Go.RowKit
set_option linter.unusedVariables false
set_option linter.unusedSimpArgs false

theorem rlv_one (y : Rl) : ∀ u ∈ y.v.toList, u.oneCell' = true := by
  intro u hu
  simp only [List.mem_cons, List.not_mem_nil, or_false] at hu
  rcases hu with rfl | rfl | rfl | rfl | rfl | rfl | rfl | rfl | rfl | rfl | rfl | rfl | rfl | rfl | rfl | rfl | rfl <;> rfl
/-- append(v, x...) of rules. -/
theorem run_appRs (w : World) (ty : TypeId) (B : Nat) (a : Option Addr) (c : Nat) (xs : List Rl) (hown : OwnR w B a c xs) (b : Option Addr) (cc : Nat) (l : List Rl) (hrow : RowR w b l) (hnil : b = none → cc = 0)
    (hsum : (xs.length + l.length) * 136 ≤ 140737488355328) (hbase : B ≤ w.heap.size) :
    ∃ a' c' w', (Builtin.append_ #[37, 37] ty #[.slice a xs.length c, .slice b l.length cc]).run Try.prog w = .ok (.slice a' (xs ++ l).length c') w' ∧ OwnR w' B a' c' (xs ++ l) ∧ Below B w w' := by
  obtain ⟨i0, hi, hz0, hz1, hz2⟩ := info_parts info_rule
  cases b with
  | none =>
    have hl : l = [] := by
      cases l with
      | nil => rfl
      | cons y l => obtain ⟨b, off, hh, _⟩ := hrow.cells 0 y rfl; cases hh
    subst hl
    have := run_append_owned_none (P := Try.prog) (w := w) B 37 ty 30 i0 17 Try.underlying37 hi (.slice a xs.length c) xs.length (pc17 xs) hown
    rw [hnil rfl]
    refine ⟨a, c, w, ?_, by simpa using hown, Below.refl _ _⟩
    simpa using this
  | some ad =>
    obtain ⟨v', w', h1, h2, h3, _⟩ := run_append_own (P := Try.prog) w B 37 ty 30 i0 (.agg z17) 17 136 Try.underlying37 hi hz0 hz1 hz2 rfl (by decide) (.slice a xs.length c) xs.length (pc17 xs) hown ad l.length cc (pc17 l) (fl_len _ 17 rlv_len l) (by
      intro j u hj
      have hjl : j < l.length * 17 := by
        have := (List.getElem?_eq_some_iff.1 hj).1
        rwa [fl_len _ 17 rlv_len l] at this
      have hq : j / 17 < l.length := (Nat.div_lt_iff_lt_mul (by decide)).2 hjl
      obtain ⟨q, hq'⟩ : ∃ q, l[j / 17]? = some q := ⟨_, List.getElem?_eq_getElem hq⟩
      obtain ⟨b, off, hh, hc⟩ := hrow.cells (j / 17) q hq'
      cases hh
      have e : j / 17 * 17 + j % 17 = j := by omega
      have h1 := fl_get (fun q : Rl => q.v.toList) 17 rlv_len l (j / 17) (j % 17) q hq' (Nat.mod_lt _ (by decide))
      rw [e] at h1
      have h2 : q.v.toList[j % 17]? = some u := by rw [← h1]; exact hj
      have h3 := hc.2 (j % 17) u (by simpa using h2)
      rw [show (⟨b, off, none⟩ : Addr).add j = ⟨b, off + j, none⟩ from Go.WideShapes.add_plain ..]
      rw [show off + j = off + j / 17 * 17 + j % 17 by omega]
      exact h3) (by
      intro u hu
      obtain ⟨q, _, hq⟩ := List.mem_flatMap.1 hu
      exact rlv_one q u hq) (by unfold maxLen; omega) hsum hbase
    have h4 : w'.ownsRow B 30 17 v' (xs ++ l).length (pc17 (xs ++ l)) := by
      have e : pc17 (xs ++ l) = pc17 xs ++ pc17 l := by simp [pc17]
      rw [List.length_append, e]
      exact h2
    obtain ⟨a', c', rfl⟩ : ∃ a' c', v' = .slice a' (xs ++ l).length c' := by
      rcases h4.2 with ⟨h5, h6⟩ | ⟨g, cap, cur, h5, _⟩
      · exact ⟨none, 0, by rw [h5, h6]⟩
      · exact ⟨_, cap, h5⟩
    refine ⟨a', c', w', h1, h4, (Below.refl _ _).grown h3 hbase fun k hk => ?_⟩
    cases a with
    | none => cases hk
    | some ad' =>
      have e : ad'.block = k := by
        cases ad'
        simpa [Value.ownBlock] using hk
      rw [← e]
      exact OwnR.lt hown ad' rfl
theorem step_appR {ops : Array Oper} {o : Oper} {ac : Act} {K : Act → World → Prop} {Q : Exit → Act → World → Prop} {Z : Prop} {w : World} (hgd : o.guard = none) (s x : Operand)
    (ho : o.op = .call { callee := .builtin .append, args := #[s, x], argTypes := #[37, 37] }) (v1 v2 : Value) (hs : ac.eval s = v1) (hx : ac.eval x = v2) (r : Value) (w' : World)
    (hrun : (Builtin.append_ #[37, 37] o.type #[v1, v2]).run Try.prog w = .ok r w') (h : K (ac.put o.dst r) w') : if Region.wanted o (yielded ops ac.tmps) = true then Oper.wp Try.prog o ac w K Q else Z := by
  have hw : Region.wanted o (yielded ops ac.tmps) = true := by simp [Region.wanted, hgd]
  rw [if_pos hw]
  unfold Oper.wp execOp
  simp only [ho, resolve, invoke, builtin, Sem.run_bind, Sem.run_pure, Result.andThen_ok, List.map_toArray, List.map_cons, List.map_nil, hs, hx, hrun]
  exact h
theorem row_one (w W : World) (p : Rl) (t : TypeId) (h : w.alloc (.cells p.v t) = W) (hp : p.ok) : RowR W (some ⟨w.heap.size, 0, none⟩) [p] := by
  have B := blk_nw h
  refine ⟨fun r hr => ?_, fun i r hr => ?_⟩
  · simp only [List.mem_cons, List.not_mem_nil, or_false] at hr
    rw [hr]
    exact hp
  · match i, hr with
    | 0, hr =>
      cases hr
      exact ⟨w.heap.size, 0, rfl, by simpa using B.at_⟩
/-- Of two lists, one behind the other. -/
theorem find_two (l m : List Rl) (k : Ky) : findL (l ++ m) k = match findL l k with
    | some i => some i
    | none => (findL m k).map (· + l.length) := by
  unfold findL
  rw [List.findIdx?_append]
  cases List.findIdx? (fun x => x.takes k) l <;> simp
theorem find_one (r : Rl) (k : Ky) : findL [r] k = if r.takes k then some 0 else none := by
  unfold findL
  simp [List.findIdx?_cons]
end Go.Proofs.Ytmlddgmkbbaccaa
