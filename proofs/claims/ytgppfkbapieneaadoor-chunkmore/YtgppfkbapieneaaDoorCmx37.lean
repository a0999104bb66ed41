/- Texts joined: CmB -/
import Derived.Test.YtgppfkbapieneaaDoorCmx36
namespace Go.Proofs.YtgppfkbapieneaaDoor
open Go.RowKit
set_option linter.unusedVariables false
set_option linter.unusedSimpArgs false
/-- append(v, x...) of numbers. -/
theorem run_appIs (w : World) (ty : TypeId) (B : Nat) (a : Option Addr) (c : Nat) (xs : List Nat) (hown : OwnI w B a c xs) (b : Option Addr) (cc : Nat) (l : List Nat) (hrow : RowI w b (ints l)) (hnil : b = none → cc = 0 ∧ l = [])
    (hsum : xs.length + l.length ≤ 1000000) (hbase : B ≤ w.heap.size) :
    ∃ a' c' w', (Builtin.append_ #[24, 24] ty #[.slice a xs.length c, .slice b l.length cc]).run Tryd.prog w = .ok (.slice a' (xs ++ l).length c') w' ∧ OwnI w' B a' c' (xs ++ l) ∧ Below B w w' := by
  obtain ⟨i0, hi, hz0, hz1, hz2⟩ := info_parts info_int
  cases b with
  | none =>
    obtain ⟨h1, h2⟩ := hnil rfl
    subst h2
    have := run_append_owned_none (P := Tryd.prog) (w := w) B 24 ty 3 i0 1 Tryd.underlying24 hi (.slice a xs.length c) xs.length (xs.map fun i : Nat => Value.int .i64 i) hown
    rw [h1]
    refine ⟨a, c, w, ?_, by simpa using hown, Below.refl _ _⟩
    simpa using this
  | some ad =>
    obtain ⟨v', w', h1, h2, h3, _⟩ := run_append_own (P := Tryd.prog) w B 24 ty 3 i0 (.int .i64 0) 1 8 Tryd.underlying24 hi hz0 hz1 hz2 rfl (by decide) (.slice a xs.length c) xs.length (xs.map fun i : Nat => Value.int .i64 i) hown ad l.length cc (l.map fun i : Nat => Value.int .i64 i) (by simp) (by
      intro j u hj
      have hjl : j < l.length := by
        have := (List.getElem?_eq_some_iff.1 hj).1
        simpa using this
      obtain ⟨bk, off, hh, hc⟩ := hrow.cells (by simp; omega)
      cases hh
      have h4 := hc j (by simpa using hjl)
      rw [show (⟨bk, off, none⟩ : Addr).add j = ⟨bk, off + j, none⟩ from Go.WideShapes.add_plain .., h4]
      rw [List.getElem?_map, List.getElem?_eq_getElem hjl] at hj
      simp at hj
      simp [← hj, List.getElem?_eq_getElem hjl]) (by
      intro u hu
      obtain ⟨q, _, hq⟩ := List.mem_map.1 hu
      rw [← hq]; rfl) (by unfold maxLen; omega) (by omega) hbase
    have h4 : w'.ownsRow B 3 1 v' (xs ++ l).length ((xs ++ l).map fun i : Nat => Value.int .i64 i) := by
      rw [List.length_append, List.map_append]
      exact h2
    obtain ⟨a', c', rfl⟩ : ∃ a' c', v' = .slice a' (xs ++ l).length c' := by
      rcases h4.2 with ⟨h5, h6⟩ | ⟨g, cap, cur, h5, _⟩
      · exact ⟨none, 0, by rw [h5, h6]⟩
      · exact ⟨_, cap, h5⟩
    refine ⟨a', c', w', h1, h4, (Below.refl _ _).grown h3 hbase fun k hk => ?_⟩
    cases a with
    | none => cases hk
    | some ad' =>
      have e : ad'.block = k := by
        cases ad'
        simpa [Value.ownBlock] using hk
      rw [← e]
      exact (OwnI.lt hown ad' rfl).1
theorem wp_runA {o : Oper} {ac : Act} {K : Act → World → Prop} {Q : Exit → Act → World → Prop} {w : World} (t : TypeId) (s x : Operand)
    (ho : o.op = .call { callee := .builtin .append, args := #[s, x], argTypes := #[t, t] }) (v1 v2 : Value) (hs : ac.eval s = v1) (hx : ac.eval x = v2) (r : Value) (w' : World)
    (hrun : (Builtin.append_ #[t, t] o.type #[v1, v2]).run Tryd.prog w = .ok r w') (h : K (ac.put o.dst r) w') : Oper.wp Tryd.prog o ac w K Q := by
  unfold Oper.wp execOp
  simp only [ho, resolve, invoke, builtin, Sem.run_bind, Sem.run_pure, Result.andThen_ok, List.map_toArray, List.map_cons, List.map_nil, hs, hx, hrun]
  exact h
theorem wpList_runA {ops : Array Oper} {rest : List Oper} {o : Oper} {ac : Act} {Q : Exit → Act → World → Prop} {w : World} (hgd : o.guard = none) (t : TypeId) (s x : Operand)
    (ho : o.op = .call { callee := .builtin .append, args := #[s, x], argTypes := #[t, t] }) (v1 v2 : Value) (hs : ac.eval s = v1) (hx : ac.eval x = v2) (r : Value) (w' : World)
    (hrun : (Builtin.append_ #[t, t] o.type #[v1, v2]).run Tryd.prog w = .ok r w') (h : wpList Tryd.prog ops Q rest (ac.put o.dst r) w') : wpList Tryd.prog ops Q (o :: rest) ac w :=
  wpList_plain hgd fun K hK => wp_runA t s x ho v1 v2 hs hx r w' hrun (hK _ _ h)
theorem step_runA {ops : Array Oper} {o : Oper} {ac : Act} {K : Act → World → Prop} {Q : Exit → Act → World → Prop} {Z : Prop} {w : World} (hgd : o.guard = none) (t : TypeId) (s x : Operand)
    (ho : o.op = .call { callee := .builtin .append, args := #[s, x], argTypes := #[t, t] }) (v1 v2 : Value) (hs : ac.eval s = v1) (hx : ac.eval x = v2) (r : Value) (w' : World)
    (hrun : (Builtin.append_ #[t, t] o.type #[v1, v2]).run Tryd.prog w = .ok r w') (h : K (ac.put o.dst r) w') : if Region.wanted o (yielded ops ac.tmps) = true then Oper.wp Tryd.prog o ac w K Q else Z := by
  have hw : Region.wanted o (yielded ops ac.tmps) = true := by simp [Region.wanted, hgd]
  rw [if_pos hw]
  exact wp_runA t s x ho v1 v2 hs hx r w' hrun h
theorem rowi_one (w W : World) (n : Nat) (t : TypeId) (h : w.alloc (.cells #[.int .i64 (n : Int)] t) = W) : RowI W (some ⟨w.heap.size, 0, none⟩) (ints [n]) :=
  ⟨by simp, fun _ => ⟨_, _, rfl, fun i hi => by
    have : i = 0 := by simp at hi; omega
    subst this
    exact (blk_nw h).cell 0 _ rfl⟩⟩
/-- A cut that lay there already when memory from another place on was written. -/
theorem CutIn.low {w0 w w' : World} {B g1 c1 : Nat} {ka : Option Addr} {kc : Nat} {sa : Option Addr} {sc : Nat} {vs : List Value} {L : List Pt} {K : List Nat} {S : List (List Nat)} (h0 : CutIn w0 B g1 c1 ka kc sa sc vs L K S) (h : CutIn w B g1 c1 ka kc sa sc vs L K S) (hb : Below w0.heap.size w w') : CutIn w' B g1 c1 ka kc sa sc vs L K S := by
  have own : ∀ {t : TypeId} {k n : Nat} {v : Value} {xs : List Value}, w0.ownsRow B t k v n xs → w.ownsRow B t k v n xs → w'.ownsRow B t k v n xs := fun {t k n v xs} o0 o => by
    obtain ⟨h1, h2⟩ := o
    refine ⟨h1, ?_⟩
    rcases h2 with h2 | ⟨g, cap, cur, h3, h4, h5, h6⟩
    · exact .inl h2
    · obtain ⟨cur0, hb0⟩ := ownsRow_blk o0 (g := g) (by rw [h3]; rfl)
      exact .inr ⟨g, cap, cur, h3, h4, (hb.block g hb0.lt).trans h5, h6⟩
  refine ⟨own h0.sts h.sts, own h0.cls h.cls, own h0.set.row h.set.row, fun i s hs => ?_⟩
  obtain ⟨ai, ci, h1, h2⟩ := h.set.each i s hs
  obtain ⟨ai', ci', h1', h2'⟩ := h0.set.each i s hs
  rw [h1] at h1'
  cases h1'
  exact ⟨ai, ci, h1, own h2' h2⟩
theorem OwnI.nil_of {w : World} {B c : Nat} {l : List Nat} (h : OwnI w B none c l) : c = 0 ∧ l = [] := by
  obtain ⟨h1, h2⟩ := h
  rcases h2 with ⟨h3, h4⟩ | ⟨g, cap, cur, h3, _⟩
  · simp only [Value.slice.injEq] at h3
    exact ⟨h3.2.2, List.eq_nil_of_length_eq_zero h4⟩
  · cases h3
theorem SetsO.at_ {w : World} {B : Nat} {a : Option Addr} {c : Nat} {S : List (List Nat)} {vs : List Value} (h : SetsO w B a c S vs) {i : Nat} {s : List Nat} (hi : S[i]? = some s) : ∃ b off ai ci, a = some ⟨b, off, none⟩ ∧ w.cell? ⟨b, off + i, none⟩ = some (Value.slice ai s.length ci) ∧ OwnI w B ai ci s := by
  obtain ⟨ai, ci, h1, h2⟩ := h.each i s hi
  obtain ⟨r1, r2⟩ := h.row
  have hlt : i < S.length := (List.getElem?_eq_some_iff.1 hi).1
  rcases r2 with ⟨_, r3⟩ | ⟨g, cap, cur, r3, r4, r5, r6, r7, r8, r9⟩
  · omega
  · simp only [Value.slice.injEq] at r3
    obtain ⟨rfl, _, rfl⟩ := r3
    have hb : Blk w g 24 cur := r5
    refine ⟨g, 0, ai, ci, rfl, hb.cell _ _ ?_, h2⟩
    rw [Nat.zero_add]
    have h11 : (cur.toList.take (S.length * 1))[i]? = vs[i]? := by rw [r9]
    rw [List.getElem?_take_of_lt (by omega), Array.getElem?_toList] at h11
    rw [h11, h1]
/-- Two sets, one of each cut, as they lie. -/
structure Four (w : World) (g5 b off Q sc i : Nat) (ai : Option Addr) (n ci g7 b' off' sd : Nat) (ai' : Option Addr) (ci' : Nat) : Prop where
  one : w.cell? ⟨g5, 2, none⟩ = some (.slice (some ⟨b, off, none⟩) Q sc)
  two : w.cell? ⟨b, off + i, none⟩ = some (.slice ai n ci)
  three : w.cell? ⟨g7, 2, none⟩ = some (.slice (some ⟨b', off', none⟩) Q sd)
  four : w.cell? ⟨b', off' + i, none⟩ = some (.slice ai' (n + 1) ci')
theorem Four.below {w w' : World} {g5 b off Q sc i : Nat} {ai : Option Addr} {n ci g7 b' off' sd : Nat} {ai' : Option Addr} {ci' : Nat} (h : Four w g5 b off Q sc i ai n ci g7 b' off' sd ai' ci') (hb : Below w.heap.size w w') : Four w' g5 b off Q sc i ai n ci g7 b' off' sd ai' ci' :=
  ⟨kept hb h.one, kept hb h.two, kept hb h.three, kept hb h.four⟩
theorem Four.cells {w : World} {g5 b off Q sc i : Nat} {ai : Option Addr} {n ci g7 b' off' sd : Nat} {ai' : Option Addr} {ci' : Nat} (h : Four w g5 b off Q sc i ai n ci g7 b' off' sd ai' ci') : w.cell? ⟨g5, 2, none⟩ = some (.slice (some ⟨b, off, none⟩) Q sc) ∧ w.cell? ⟨b, off + i, none⟩ = some (.slice ai n ci) ∧ w.cell? ⟨g7, 2, none⟩ = some (.slice (some ⟨b', off', none⟩) Q sd) ∧ w.cell? ⟨b', off' + i, none⟩ = some (.slice ai' (n + 1) ci') := ⟨h.one, h.two, h.three, h.four⟩
/-- A rule that takes all, behind all others. -/
theorem more_all (d : Nat) (hd : d ≤ 4) : ((wideL 0 65535).piece d).all = true := by
  match d, hd with
  | 0, _ => rfl
  | 1, _ => rfl
  | 2, _ => rfl
  | 3, _ => rfl
  | 4, _ => rfl
theorem cut_more {l : List Rl} {d : Nat} (hd : d ≤ 4) {L L' : List Pt} {K K' : List Nat} {S S' : List (List Nat)} (h : CutP l d L K S) (h' : CutP (l ++ [wideL 0 65535]) d L' K' S') : L' = L ∧ K' = K ∧ S' = S.map (· ++ [l.length]) := by
  have e : spns (l ++ [wideL 0 65535]) d = spns l d ++ [(wideL 0 65535).piece d] := by simp [spns]
  have hp := more_all d hd
  refine ⟨pts_inj h'.ok h.ok ?_, ?_, ?_⟩
  · rw [h'.stn, h.stn, e, starts_more _ _ hp]
  · rw [h'.cls, h.cls, e, class_more _ _ hp]
  · rw [h'.set, h.set, e, sets_more _ _ hp]
    simp [spns]
theorem err_more {l : List Rl} {dim : Int} (h : errC l dim = 0) (hn : l.length < 64) : errC (l ++ [wideL 0 65535]) dim = 0 := by
  obtain ⟨d, rfl, hd, hl, hr⟩ := err_ok h
  unfold errC
  rw [if_pos (by omega), if_neg (by simp; omega), if_pos]
  rw [List.all_eq_true]
  intro r hr'
  rcases List.mem_append.1 hr' with h1 | h1
  · exact hr r h1
  · simp only [List.mem_singleton] at h1
    subst h1
    kernel_rfl
end Go.Proofs.YtgppfkbapieneaaDoor
