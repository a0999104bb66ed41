/- Texts joined: CmA FrU CmB -/
import Derived.Test.YtgppfkbapieneaaDoorCox34
import Derived.Laws.AppendOwnNone
namespace Go.Proofs.YtgppfkbapieneaaDoor
open Go.RowKit
set_option linter.unusedVariables false
set_option linter.unusedSimpArgs false
/-- The error of a cut. -/
def errC (l : List Rl) (dim : Int) : Int := if 0 ≤ dim ∧ dim < 7 then (if 64 < l.length then 17 else if l.all (·.right) then 0 else 1) else 1
theorem err_ok {l : List Rl} {dim : Int} (h : errC l dim = 0) : ∃ d : Nat, dim = (d : Int) ∧ d < 7 ∧ l.length ≤ 64 ∧ ∀ r ∈ l, r.right = true := by
  unfold errC at h
  split at h
  · split at h
    · cases h
    · split at h
      · rename_i h1 h2 h3
        exact ⟨dim.toNat, by omega, by omega, by omega, fun r hr => List.all_eq_true.1 h3 r hr⟩
      · cases h
  · cases h
theorem cut_err (a : Option Addr) (c : Nat) (l : List Rl) (dim : Int) (w : World) (hT : Top w) (hrow : RowR w a l) (h : errC l dim ≠ 0) :
    Calls Tryd.prog 10 #[.slice a l.length c, .int .i64 dim] w fun e w' => e = .returned (.tuple #[.agg zc, .int .i64 (errC l dim)]) ∧ Below w.heap.size w w' := by
  unfold errC at h ⊢
  by_cases hd : 0 ≤ dim ∧ dim < 7
  · rw [if_pos hd] at h ⊢
    by_cases hn : 64 < l.length
    · rw [if_pos hn]
      exact cut_many a l.length c dim w hd hn
    · rw [if_neg hn] at h ⊢
      by_cases ha : l.all (·.right) = true
      · rw [if_pos ha] at h
        exact absurd rfl h
      · rw [if_neg ha]
        obtain ⟨d, rfl⟩ : ∃ d : Nat, dim = (d : Int) := ⟨dim.toNat, by omega⟩
        refine cut_wrong a c l d w hT (by omega) hrow (by omega) ?_
        simp only [List.all_eq_true, Classical.not_forall] at ha
        obtain ⟨r, hr, hf⟩ := ha
        exact ⟨r, hr, by simpa using hf⟩
  · rw [if_neg hd]
    exact cut_dim a l.length c dim w hd
/-- A cut in memory of one's own. -/
structure CutIn (w : World) (B : Nat) (g1 c1 : Nat) (ka : Option Addr) (kc : Nat) (sa : Option Addr) (sc : Nat) (vs : List Value) (L : List Pt) (K : List Nat) (S : List (List Nat)) : Prop where
  sts : OwnP w B (some ⟨g1, 0, none⟩) c1 L
  cls : OwnI w B ka kc K
  set : SetsO w B sa sc S vs
theorem CutIn.below {w w' : World} {B g1 c1 : Nat} {ka : Option Addr} {kc : Nat} {sa : Option Addr} {sc : Nat} {vs : List Value} {L : List Pt} {K : List Nat} {S : List (List Nat)} (h : CutIn w B g1 c1 ka kc sa sc vs L K S) (hb : Below w.heap.size w w') : CutIn w' B g1 c1 ka kc sa sc vs L K S :=
  ⟨h.sts.below hb, h.cls.below hb, h.set.below hb⟩
/-- What is known of the plain cut. -/
structure CutP (l : List Rl) (d : Nat) (L : List Pt) (K : List Nat) (S : List (List Nat)) : Prop where
  stn : L.map Pt.n = startsL (spns l d)
  ok : ∀ p ∈ L, p.ok
  cls : K = classL (rowL (spns l d))
  set : S = setsL (rowL (spns l d))
  len : K.length = L.length
  few : L.length ≤ 2 * l.length + 1
  num : S.length ≤ L.length
  each : ∀ s ∈ S, s.length ≤ l.length
  right : RightC L (ints K) (S.map ints)
theorem CutP.uniq {l : List Rl} {d : Nat} {L L' : List Pt} {K K' : List Nat} {S S' : List (List Nat)} (h : CutP l d L K S) (h' : CutP l d L' K' S') : L = L' ∧ K = K' ∧ S = S' :=
  ⟨pts_inj h.ok h'.ok (by rw [h.stn, h'.stn]), by rw [h.cls, h'.cls], by rw [h.set, h'.set]⟩
theorem cutP_mk {l : List Rl} {d : Nat} {L : List Pt} (hl : ∀ r ∈ l, r.ok ∧ r.right = true) (hd : d < 7) (hs : L.Pairwise fun p q => p.n < q.n) (hn : L.map Pt.n = startsL (spns l d)) (hok : ∀ p ∈ L, p.ok) (hf : L.length ≤ 2 * l.length + 1) : CutP l d L (classL (rowL (spns l d))) (setsL (rowL (spns l d))) := by
  have hlen : L.length = (startsL (spns l d)).length := by rw [← hn, List.length_map]
  have hrl : (rowL (spns l d)).length = L.length := by rw [rowL, List.length_map, hlen]
  refine ⟨hn, hok, rfl, rfl, by rw [class_len, hrl], hf, ?_, fun s hs' => ?_, cut_right hl hd hs hn hok⟩
  · have := sets_len (rowL (spns l d))
    rw [hrl] at this
    exact this
  · have h1 := sets_mem hs'
    unfold rowL at h1
    obtain ⟨z, _, rfl⟩ := List.mem_map.1 h1
    have := List.length_filter_le (fun i => ((spns l d)[i]?.map (·.holds z)).getD false) (List.range (spns l d).length)
    unfold setOf
    simpa using this
theorem cut_ok (a : Option Addr) (c : Nat) (l : List Rl) (dim : Int) (w : World) (hT : Top w) (hrow : RowR w a l) (h : errC l dim = 0) :
    Calls Tryd.prog 10 #[.slice a l.length c, .int .i64 dim] w fun e w' => ∃ g1 c1 ka kc sa sc vs L K S, e = .returned (.tuple #[.agg #[.slice (some ⟨g1, 0, none⟩) L.length c1, .slice ka L.length kc, .slice sa S.length sc], .int .i64 0]) ∧ CutIn w' w.heap.size g1 c1 ka kc sa sc vs L K S ∧ CutP l dim.toNat L K S ∧ Below w.heap.size w w' := by
  obtain ⟨d, rfl, hd, hl, hr⟩ := err_ok h
  refine (cut_yes a c l d w hT hl hrow hd hr).mono ?_
  rintro e w' ⟨g1, c1, L, ka, kc, sa, sc, vs, rfl, h1, h2, h3, hs, hm, hll, hb⟩
  have hlr : ∀ r ∈ l, r.ok ∧ r.right = true := fun r hr' => ⟨hrow.each r hr', hr r hr'⟩
  obtain ⟨hn, hok⟩ := cut_starts hlr hd hs hm
  have er := cut_rows hlr hd hn hok
  rw [er] at h2 h3
  rw [er]
  rw [Int.toNat_natCast]
  exact ⟨g1, c1, ka, kc, sa, sc, vs, L, _, _, rfl, ⟨h1, h2, h3⟩, cutP_mk hlr hd hs hn hok hll, hb⟩
theorem CutIn.rp {w : World} {B g1 c1 : Nat} {ka : Option Addr} {kc : Nat} {sa : Option Addr} {sc : Nat} {vs : List Value} {L : List Pt} {K : List Nat} {S : List (List Nat)} (h : CutIn w B g1 c1 ka kc sa sc vs L K S) {l : List Rl} {d : Nat} (hp : CutP l d L K S) : RowP w (some ⟨g1, 0, none⟩) L := h.sts.row hp.ok
theorem CutIn.ri {w : World} {B g1 c1 : Nat} {ka : Option Addr} {kc : Nat} {sa : Option Addr} {sc : Nat} {vs : List Value} {L : List Pt} {K : List Nat} {S : List (List Nat)} (h : CutIn w B g1 c1 ka kc sa sc vs L K S) {l : List Rl} {d : Nat} (hp : CutP l d L K S) (hl : l.length ≤ 64) : RowI w ka (ints K) := h.cls.row (by have := hp.len; have := hp.few; omega)
theorem CutIn.rs {w : World} {B g1 c1 : Nat} {ka : Option Addr} {kc : Nat} {sa : Option Addr} {sc : Nat} {vs : List Value} {L : List Pt} {K : List Nat} {S : List (List Nat)} (h : CutIn w B g1 c1 ka kc sa sc vs L K S) {l : List Rl} {d : Nat} (hp : CutP l d L K S) (hl : l.length ≤ 64) : RowS w sa (S.map ints) := h.set.rows (by have := hp.num; have := hp.few; omega) (fun s hs => by have := hp.each s hs; omega)
theorem rlv_one (y : Rl) : ∀ u ∈ y.v.toList, u.oneCell' = true := by
  intro u hu
  simp only [List.mem_cons, List.not_mem_nil, or_false] at hu
  rcases hu with rfl | rfl | rfl | rfl | rfl | rfl | rfl | rfl | rfl | rfl | rfl | rfl | rfl | rfl | rfl | rfl | rfl <;> rfl
/-- append(v, x...) of rules. -/
theorem run_appRs (w : World) (ty : TypeId) (B : Nat) (a : Option Addr) (c : Nat) (xs : List Rl) (hown : OwnR w B a c xs) (b : Option Addr) (cc : Nat) (l : List Rl) (hrow : RowR w b l) (hnil : b = none → cc = 0)
    (hsum : (xs.length + l.length) * 136 ≤ 140737488355328) (hbase : B ≤ w.heap.size) :
    ∃ a' c' w', (Builtin.append_ #[22, 22] ty #[.slice a xs.length c, .slice b l.length cc]).run Tryd.prog w = .ok (.slice a' (xs ++ l).length c') w' ∧ OwnR w' B a' c' (xs ++ l) ∧ Below B w w' := by
  obtain ⟨i0, hi, hz0, hz1, hz2⟩ := info_parts info_rule
  cases b with
  | none =>
    have hl : l = [] := by
      cases l with
      | nil => rfl
      | cons y l => obtain ⟨b, off, hh, _⟩ := hrow.cells 0 y rfl; cases hh
    subst hl
    have := run_append_owned_none (P := Tryd.prog) (w := w) B 22 ty 55 i0 17 Tryd.underlying22 hi (.slice a xs.length c) xs.length (pc17 xs) hown
    rw [hnil rfl]
    refine ⟨a, c, w, ?_, by simpa using hown, Below.refl _ _⟩
    simpa using this
  | some ad =>
    obtain ⟨v', w', h1, h2, h3, _⟩ := run_append_own (P := Tryd.prog) w B 22 ty 55 i0 (.agg z17) 17 136 Tryd.underlying22 hi hz0 hz1 hz2 rfl (by decide) (.slice a xs.length c) xs.length (pc17 xs) hown ad l.length cc (pc17 l) (fl_len _ 17 rlv_len l) (by
      intro j u hj
      have hjl : j < l.length * 17 := by
        have := (List.getElem?_eq_some_iff.1 hj).1
        rwa [fl_len _ 17 rlv_len l] at this
      have hq : j / 17 < l.length := (Nat.div_lt_iff_lt_mul (by decide)).2 hjl
      obtain ⟨q, hq'⟩ : ∃ q, l[j / 17]? = some q := ⟨_, List.getElem?_eq_getElem hq⟩
      obtain ⟨b, off, hh, hc⟩ := hrow.cells (j / 17) q hq'
      cases hh
      have e : j / 17 * 17 + j % 17 = j := by omega
      have h1 := fl_get (fun q : Rl => q.v.toList) 17 rlv_len l (j / 17) (j % 17) q hq' (Nat.mod_lt _ (by decide))
      rw [e] at h1
      have h2 : q.v.toList[j % 17]? = some u := by rw [← h1]; exact hj
      have h3 := hc.2 (j % 17) u (by simpa using h2)
      rw [show (⟨b, off, none⟩ : Addr).add j = ⟨b, off + j, none⟩ from Go.WideShapes.add_plain ..]
      rw [show off + j = off + j / 17 * 17 + j % 17 by omega]
      exact h3) (by
      intro u hu
      obtain ⟨q, _, hq⟩ := List.mem_flatMap.1 hu
      exact rlv_one q u hq) (by unfold maxLen; omega) hsum hbase
    have h4 : w'.ownsRow B 55 17 v' (xs ++ l).length (pc17 (xs ++ l)) := by
      have e : pc17 (xs ++ l) = pc17 xs ++ pc17 l := by simp [pc17]
      rw [List.length_append, e]
      exact h2
    obtain ⟨a', c', rfl⟩ : ∃ a' c', v' = .slice a' (xs ++ l).length c' := by
      rcases h4.2 with ⟨h5, h6⟩ | ⟨g, cap, cur, h5, _⟩
      · exact ⟨none, 0, by rw [h5, h6]⟩
      · exact ⟨_, cap, h5⟩
    refine ⟨a', c', w', h1, h4, (Below.refl _ _).grown h3 hbase fun k hk => ?_⟩
    cases a with
    | none => cases hk
    | some ad' =>
      have e : ad'.block = k := by
        cases ad'
        simpa [Value.ownBlock] using hk
      rw [← e]
      exact OwnR.lt hown ad' rfl
theorem wp_runA {o : Oper} {ac : Act} {K : Act → World → Prop} {Q : Exit → Act → World → Prop} {w : World} (t : TypeId) (s x : Operand)
    (ho : o.op = .call { callee := .builtin .append, args := #[s, x], argTypes := #[t, t] }) (v1 v2 : Value) (hs : ac.eval s = v1) (hx : ac.eval x = v2) (r : Value) (w' : World)
    (hrun : (Builtin.append_ #[t, t] o.type #[v1, v2]).run Tryd.prog w = .ok r w') (h : K (ac.put o.dst r) w') : Oper.wp Tryd.prog o ac w K Q := by
  unfold Oper.wp execOp
  simp only [ho, resolve, invoke, builtin, Sem.run_bind, Sem.run_pure, Result.andThen_ok, List.map_toArray, List.map_cons, List.map_nil, hs, hx, hrun]
  exact h
theorem wpList_runA {ops : Array Oper} {rest : List Oper} {o : Oper} {ac : Act} {Q : Exit → Act → World → Prop} {w : World} (hgd : o.guard = none) (t : TypeId) (s x : Operand)
    (ho : o.op = .call { callee := .builtin .append, args := #[s, x], argTypes := #[t, t] }) (v1 v2 : Value) (hs : ac.eval s = v1) (hx : ac.eval x = v2) (r : Value) (w' : World)
    (hrun : (Builtin.append_ #[t, t] o.type #[v1, v2]).run Tryd.prog w = .ok r w') (h : wpList Tryd.prog ops Q rest (ac.put o.dst r) w') : wpList Tryd.prog ops Q (o :: rest) ac w :=
  wpList_plain hgd fun K hK => wp_runA t s x ho v1 v2 hs hx r w' hrun (hK _ _ h)
theorem step_runA {ops : Array Oper} {o : Oper} {ac : Act} {K : Act → World → Prop} {Q : Exit → Act → World → Prop} {Z : Prop} {w : World} (hgd : o.guard = none) (t : TypeId) (s x : Operand)
    (ho : o.op = .call { callee := .builtin .append, args := #[s, x], argTypes := #[t, t] }) (v1 v2 : Value) (hs : ac.eval s = v1) (hx : ac.eval x = v2) (r : Value) (w' : World)
    (hrun : (Builtin.append_ #[t, t] o.type #[v1, v2]).run Tryd.prog w = .ok r w') (h : K (ac.put o.dst r) w') : if Region.wanted o (yielded ops ac.tmps) = true then Oper.wp Tryd.prog o ac w K Q else Z := by
  have hw : Region.wanted o (yielded ops ac.tmps) = true := by simp [Region.wanted, hgd]
  rw [if_pos hw]
  exact wp_runA t s x ho v1 v2 hs hx r w' hrun h
/-- A cut that lay there already when memory from another place on was written. -/
theorem CutIn.low {w0 w w' : World} {B g1 c1 : Nat} {ka : Option Addr} {kc : Nat} {sa : Option Addr} {sc : Nat} {vs : List Value} {L : List Pt} {K : List Nat} {S : List (List Nat)} (h0 : CutIn w0 B g1 c1 ka kc sa sc vs L K S) (h : CutIn w B g1 c1 ka kc sa sc vs L K S) (hb : Below w0.heap.size w w') : CutIn w' B g1 c1 ka kc sa sc vs L K S := by
  have own : ∀ {t : TypeId} {k n : Nat} {v : Value} {xs : List Value}, w0.ownsRow B t k v n xs → w.ownsRow B t k v n xs → w'.ownsRow B t k v n xs := fun {t k n v xs} o0 o => by
    obtain ⟨h1, h2⟩ := o
    refine ⟨h1, ?_⟩
    rcases h2 with h2 | ⟨g, cap, cur, h3, h4, h5, h6⟩
    · exact .inl h2
    · obtain ⟨cur0, hb0⟩ := ownsRow_blk o0 (g := g) (by rw [h3]; rfl)
      exact .inr ⟨g, cap, cur, h3, h4, (hb.block g hb0.lt).trans h5, h6⟩
  refine ⟨own h0.sts h.sts, own h0.cls h.cls, own h0.set.row h.set.row, fun i s hs => ?_⟩
  obtain ⟨ai, ci, h1, h2⟩ := h.set.each i s hs
  obtain ⟨ai', ci', h1', h2'⟩ := h0.set.each i s hs
  rw [h1] at h1'
  cases h1'
  exact ⟨ai, ci, h1, own h2' h2⟩
theorem SetsO.at_ {w : World} {B : Nat} {a : Option Addr} {c : Nat} {S : List (List Nat)} {vs : List Value} (h : SetsO w B a c S vs) {i : Nat} {s : List Nat} (hi : S[i]? = some s) : ∃ b off ai ci, a = some ⟨b, off, none⟩ ∧ w.cell? ⟨b, off + i, none⟩ = some (Value.slice ai s.length ci) ∧ OwnI w B ai ci s := by
  obtain ⟨ai, ci, h1, h2⟩ := h.each i s hi
  obtain ⟨r1, r2⟩ := h.row
  have hlt : i < S.length := (List.getElem?_eq_some_iff.1 hi).1
  rcases r2 with ⟨_, r3⟩ | ⟨g, cap, cur, r3, r4, r5, r6, r7, r8, r9⟩
  · omega
  · simp only [Value.slice.injEq] at r3
    obtain ⟨rfl, _, rfl⟩ := r3
    have hb : Blk w g 24 cur := r5
    refine ⟨g, 0, ai, ci, rfl, hb.cell _ _ ?_, h2⟩
    rw [Nat.zero_add]
    have h11 : (cur.toList.take (S.length * 1))[i]? = vs[i]? := by rw [r9]
    rw [List.getElem?_take_of_lt (by omega), Array.getElem?_toList] at h11
    rw [h11, h1]
/-- Two sets, one of each cut, as they lie. -/
structure Four (w : World) (g5 b off Q sc i : Nat) (ai : Option Addr) (n ci g7 b' off' sd : Nat) (ai' : Option Addr) (ci' : Nat) : Prop where
  one : w.cell? ⟨g5, 2, none⟩ = some (.slice (some ⟨b, off, none⟩) Q sc)
  two : w.cell? ⟨b, off + i, none⟩ = some (.slice ai n ci)
  three : w.cell? ⟨g7, 2, none⟩ = some (.slice (some ⟨b', off', none⟩) Q sd)
  four : w.cell? ⟨b', off' + i, none⟩ = some (.slice ai' (n + 1) ci')
theorem Four.below {w w' : World} {g5 b off Q sc i : Nat} {ai : Option Addr} {n ci g7 b' off' sd : Nat} {ai' : Option Addr} {ci' : Nat} (h : Four w g5 b off Q sc i ai n ci g7 b' off' sd ai' ci') (hb : Below w.heap.size w w') : Four w' g5 b off Q sc i ai n ci g7 b' off' sd ai' ci' :=
  ⟨kept hb h.one, kept hb h.two, kept hb h.three, kept hb h.four⟩
theorem Four.cells {w : World} {g5 b off Q sc i : Nat} {ai : Option Addr} {n ci g7 b' off' sd : Nat} {ai' : Option Addr} {ci' : Nat} (h : Four w g5 b off Q sc i ai n ci g7 b' off' sd ai' ci') : w.cell? ⟨g5, 2, none⟩ = some (.slice (some ⟨b, off, none⟩) Q sc) ∧ w.cell? ⟨b, off + i, none⟩ = some (.slice ai n ci) ∧ w.cell? ⟨g7, 2, none⟩ = some (.slice (some ⟨b', off', none⟩) Q sd) ∧ w.cell? ⟨b', off' + i, none⟩ = some (.slice ai' (n + 1) ci') := ⟨h.one, h.two, h.three, h.four⟩
end Go.Proofs.YtgppfkbapieneaaDoor
