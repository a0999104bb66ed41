/- append of entries; Drop of the document's wheel. -/
import Derived.Test.YtfcpjenlckkloaaWrA
import Derived.Deep.RegionLaw
namespace Go.Proofs.Ytfcpjenlckkloaa
open Go.RowKit
set_option linter.unusedVariables false
set_option linter.unusedSimpArgs false

theorem info_ent : (Try.prog.info? 70).map (fun i => (i.zero, i.size, i.bytes)) = some (some (.agg #[.int .i64 0, .int .i64 0]), 2, 16) := by kernel_rfl
/-- A slice of entries of one's own. -/
def ownE (w : World) (a : Option Addr) (c : Nat) (E : List M.Ent) : Prop := w.ownsRow 0 70 2 (.slice a E.length c) E.length (ec E)
theorem ownE_nil (w : World) : ownE w none 0 [] := ⟨rfl, .inl ⟨rfl, rfl⟩⟩
theorem ownE.cases {w : World} {a : Option Addr} {c : Nat} {E : List M.Ent} (h : ownE w a c E) : (a = none ∧ c = 0 ∧ E = []) ∨ ∃ g cur, a = some ⟨g, 0, none⟩ ∧ w.heap[g]? = some (.cells cur 70 (0, 0)) ∧ E.length ≤ c ∧ c ≤ maxLen ∧ cur.toList.take (E.length * 2) = ec E := by
  obtain ⟨h1, h2⟩ := h
  rcases h2 with ⟨h3, h4⟩ | ⟨g, cap, cur, h3, h4, h5, h6, h7, h8, h9⟩
  · simp only [Value.slice.injEq] at h3
    exact .inl ⟨h3.1, h3.2.2, List.eq_nil_of_length_eq_zero h4⟩
  · simp only [Value.slice.injEq] at h3
    exact .inr ⟨g, cur, h3.1, h5, by rw [h3.2.2]; exact h6, by rw [h3.2.2]; exact h7, h9⟩
theorem ownE.row {w : World} {a : Option Addr} {c : Nat} {E : List M.Ent} (h : ownE w a c E) : RowE w a E := fun hl => by
  rcases h.cases with ⟨_, _, rfl⟩ | ⟨g, cur, h1, h2, _, _, h3⟩
  · simp at hl
  · refine ⟨g, 0, h1, fun i p hp => ?_⟩
    have hi : i < E.length := (List.getElem?_eq_some_iff.1 hp).1
    obtain ⟨e1, e2⟩ := ec_get hp
    rw [← h3, List.getElem?_take_of_lt (by omega), Array.getElem?_toList] at e1 e2
    have hb : Blk w g 70 cur := h2
    exact ⟨hb.cell (0 + i * 2) _ (by rw [Nat.zero_add]; exact e1), hb.cell (0 + i * 2 + 1) _ (by rw [Nat.zero_add]; exact e2)⟩
theorem ownE.lt {w : World} {a : Option Addr} {c : Nat} {E : List M.Ent} (h : ownE w a c E) {k : Nat} (hk : AtB a k) : k < w.heap.size := by
  obtain ⟨x, h1, rfl⟩ := hk
  rcases h.cases with ⟨h2, _⟩ | ⟨g, cur, h2, h3, _⟩
  · rw [h2] at h1; cases h1
  · rw [h2] at h1; cases h1
    exact (Array.getElem?_eq_some_iff.1 h3).1
theorem ownE.but {F : Nat → Prop} {w w' : World} {a : Option Addr} {c : Nat} {E : List M.Ent} (h : ownE w a c E) (hb : But F w w') (hn : ∀ k, AtB a k → ¬ F k) : ownE w' a c E := by
  have hlt := fun k hk => h.lt (k := k) hk
  obtain ⟨h1, h2⟩ := h
  refine ⟨h1, ?_⟩
  rcases h2 with h2 | ⟨g, cap, cur, h3, h4, h5, h6⟩
  · exact .inl h2
  · refine .inr ⟨g, cap, cur, h3, h4, ?_, h6⟩
    simp only [Value.slice.injEq] at h3
    have hat : AtB a g := ⟨_, h3.1, rfl⟩
    exact (hb.block g (hlt g hat) (hn g hat)).trans h5
theorem atB_own {a : Option Addr} {n c k : Nat} : (Value.slice a n c).ownBlock = some k ↔ AtB a k := by
  cases a with
  | none => simp [Value.ownBlock, AtB]
  | some x => simp [Value.ownBlock, AtB]
theorem run_appE (w : World) (ty : TypeId) (a : Option Addr) (c : Nat) (E : List M.Ent) (a' : Option Addr) (c' : Nat) (E' : List M.Ent) (hO : ownE w a c E) (hS : RowE w a' E') (hn : a' = none → c' = 0) (hl : E.length + E'.length ≤ 1048576) :
    ∃ (a2 : Option Addr) (c2 : Nat) (w' : World), (Builtin.append_ #[27, 27] ty #[.slice a E.length c, .slice a' E'.length c']).run Try.prog w = .ok (.slice a2 (E.length + E'.length) c2) w' ∧ ownE w' a2 c2 (E ++ E') ∧ But (fun k => AtB a k) w w' ∧ ∀ k, AtB a2 k → AtB a k ∨ w.heap.size ≤ k := by
  obtain ⟨i0, hi, hz0, hz1, hz2⟩ := infoParts info_ent
  cases a' with
  | none =>
    have hl0 : E' = [] := by
      cases E' with
      | nil => rfl
      | cons x l => obtain ⟨b, off, h, _⟩ := hS (by simp); cases h
    subst hl0
    rw [hn rfl]
    refine ⟨a, c, w, ?_, by simpa using hO, But.refl _ _, fun k hk => .inl hk⟩
    exact run_append_owned_none (P := Try.prog) (w := w) 0 27 ty 70 i0 2 Try.underlying27 hi _ E.length (ec E) hO
  | some x =>
    obtain ⟨v', w', r1, r2, r3, _, r5⟩ := run_append_own_at (P := Try.prog) w 0 27 ty 70 i0 (.agg #[.int .i64 0, .int .i64 0]) 2 16 Try.underlying27 hi hz0 hz1 hz2 rfl (by decide) _ E.length (ec E) hO x E'.length c' (ec E') (ec_len E') (fun j u hj => by
      have hjl : j < E'.length * 2 := by
        have := (List.getElem?_eq_some_iff.1 hj).1
        rw [ec_len] at this
        exact this
      obtain ⟨b, off, hh, hc⟩ := hS (by omega)
      cases hh
      obtain ⟨p, hp⟩ : ∃ p, E'[j / 2]? = some p := ⟨_, List.getElem?_eq_getElem (by omega)⟩
      obtain ⟨e1, e2⟩ := ec_get hp
      obtain ⟨d1, d2⟩ := hc _ p hp
      have e0 : Addr.add ⟨b, off, none⟩ j = ⟨b, off + j, none⟩ := Go.WideShapes.add_plain ..
      rw [e0]
      rcases (show j = j / 2 * 2 ∨ j = j / 2 * 2 + 1 by omega) with hh | hh
      · rw [← hh] at e1 d1
        rw [d1, ← hj, e1]
      · rw [Nat.add_assoc, ← hh] at d2
        rw [← hh] at e2
        rw [d2, ← hj, e2]) (fun u hu => ec_one hu) (by unfold maxLen; omega) (by omega) (by omega)
    have r2' : w'.ownsRow 0 70 2 v' (E ++ E').length (ec (E ++ E')) := by rw [List.length_append, ec_app]; exact r2
    obtain ⟨a2, c2, rfl⟩ : ∃ a2 c2, v' = .slice a2 (E.length + E'.length) c2 := by
      rcases r2.2 with ⟨h1, h2⟩ | ⟨g, cap, cur, h1, _⟩
      · exact ⟨none, 0, by rw [h1, h2]⟩
      · exact ⟨_, _, h1⟩
    refine ⟨a2, c2, w', r1, ?_, (But.refl _ _).grown r3 (fun n hn => .inl (atB_own.1 hn)), fun k hk => ?_⟩
    · unfold ownE
      rw [List.length_append] at r2' ⊢
      exact r2'
    · have hk' := (atB_own (n := E.length + E'.length) (c := c2)).2 hk
      rcases r5 with e | e
      · rw [e] at hk'; exact .inl (atB_own.1 hk')
      · rw [e] at hk'
        cases hk'
        exact .inr (Nat.le_refl _)
theorem step_run {ops : Array Oper} {o : Oper} {ac : Act} {K : Act → World → Prop} {Q : Exit → Act → World → Prop} {Z : Prop} (w : World) (hgd : o.guard = none) (s x : Operand)
    (ho : o.op = .call { callee := .builtin .append, args := #[s, x], argTypes := #[27, 27] }) (v u v' : Value) (w' : World) (hs : ac.eval s = v) (hx : ac.eval x = u)
    (hr : (Builtin.append_ #[27, 27] o.type #[v, u]).run Try.prog w = .ok v' w') (h : K (ac.put o.dst v') w') :
    if Region.wanted o (yielded ops ac.tmps) = true then Oper.wp Try.prog o ac w K Q else Z := by
  have hw : Region.wanted o (yielded ops ac.tmps) = true := by simp [Region.wanted, hgd]
  rw [if_pos hw]
  unfold Oper.wp execOp
  simp only [ho, resolve, invoke, builtin, Sem.run_bind, Sem.run_pure, Result.andThen_ok, List.map_toArray, List.map_cons, List.map_nil, hs, hx, hr]
  exact h
theorem wpList_run {ops : Array Oper} {rest : List Oper} {o : Oper} {a : Act} {Q : Exit → Act → World → Prop} (w : World) (hgd : o.guard = none) (s x : Operand)
    (ho : o.op = .call { callee := .builtin .append, args := #[s, x], argTypes := #[27, 27] }) (v u v' : Value) (w' : World) (hs : a.eval s = v) (hx : a.eval x = u)
    (hr : (Builtin.append_ #[27, 27] o.type #[v, u]).run Try.prog w = .ok v' w') (h : wpList Try.prog ops Q rest (a.put o.dst v') w') : wpList Try.prog ops Q (o :: rest) a w := by
  refine wpList_plain hgd fun K hK => ?_
  unfold Oper.wp execOp
  simp only [ho, resolve, invoke, builtin, Sem.run_bind, Sem.run_pure, Result.andThen_ok, List.map_toArray, List.map_cons, List.map_nil, hs, hx, hr]
  exact hK _ _ h
/-- A new slice stored. -/
theorem Rm.stored {w W : World} {gr : Nat} {a a2 : Option Addr} {c c2 : Nat} {clock : Int} {E E2 : List M.Ent} (h : Rm w gr a c clock E) (hb : But (fun _ => False) w W) (ho : ownE W a2 c2 E2) (hn : ∀ k, AtB a2 k → w.heap.size ≤ k) :
    Rm (W.setCell ⟨gr, 1, none⟩ (.slice a2 E2.length c2)) gr a2 c2 clock E2 ∧ But (fun k => k = gr) w (W.setCell ⟨gr, 1, none⟩ (.slice a2 E2.length c2)) := by
  have b2 : But (fun k => k = gr) W (W.setCell ⟨gr, 1, none⟩ (.slice a2 E2.length c2)) := (But.refl (fun k => k = gr) W).setCell gr 1 (.inl rfl) _
  have hlt := h.blk.lt
  have hb1 := h.blk.but hb (fun x => x)
  have nag : ¬ AtB a2 gr := fun x => by have := hn _ x; omega
  have ho2 : ownE (W.setCell ⟨gr, 1, none⟩ (.slice a2 E2.length c2)) a2 c2 E2 := ho.but b2 (fun k hk e => nag (e ▸ hk))
  refine ⟨⟨?_, ho2.row, ?_, ?_, ?_, nag, fun k hk => ho2.lt hk, fun x hx => ?_⟩, (hb.mono (fun _ _ x => x.elim)).trans b2 (fun _ _ x => x)⟩
  · exact hb1.put 1 _
  · rcases ho.cases with ⟨_, _, rfl⟩ | ⟨g, cur, _, _, h3, _⟩
    · simp
    · exact h3
  · rcases ho.cases with ⟨_, rfl, _⟩ | ⟨g, cur, _, _, _, h3, _⟩
    · simp
    · exact h3
  · rcases ho.cases with ⟨_, rfl, _⟩ | ⟨g, cur, h1, _⟩
    · exact fun _ => rfl
    · intro e
      rw [e] at h1; cases h1
  · rcases ho.cases with ⟨h1, _⟩ | ⟨g, cur, h1, _⟩
    · rw [h1] at hx; cases hx
    · rw [h1] at hx; cases hx; rfl
set_option maxRecDepth 100000 in
set_option maxHeartbeats 4000000 in
theorem rdrop_y (w : World) (gr b off c : Nat) (clock : Int) (E : List M.Ent) (h : Rm w gr (some ⟨b, off, none⟩) c clock E) (hE : M.Ok E) (hl : E.length ≤ 1024) (id : Int) (hf : fnd E id < E.length) :
    Calls Try.prog 24 #[.pointer (some ⟨gr, 0, none⟩), .int .i64 id] w fun e w' => e = .returned (.bool true) ∧ ∃ a2 c2, Rm w' gr a2 c2 clock (M.dropE E id) ∧ But (fun k => k = gr) w w' ∧ ∀ k, AtB a2 k → w.heap.size ≤ k := by
  have K := hidW (find_any w gr _ c clock E h hl id)
  unfold fndR at K
  rw [if_pos hf] at K
  have hdr := fnd_drop hE hf
  obtain ⟨n, hn⟩ : ∃ n, fnd E id = n := ⟨_, rfl⟩
  rw [hn] at K hf hdr
  have c1 := h.blk.cell 1 _ rfl
  have f1 := h.blk.frozen 1
  have hlt := h.blk.lt
  obtain ⟨a', ha'⟩ : ∃ a', (if c = n + 1 then (some ⟨b, off, none⟩ : Option Addr) else some ⟨b, off + (n + 1) * 2, none⟩) = a' := ⟨_, rfl⟩
  have d0 : But (fun _ => False) w w.drew := (But.refl _ w).drew
  have hrd := h.row.but d0 (fun _ _ x => x)
  have r0 : RowE w.drew (some ⟨b, off, none⟩) (E.take n) := hrd.take n
  have r1 : RowE w.drew a' (E.drop (n + 1)) := fun hp => by
    have hcap := h.cap
    simp at hp
    rw [if_neg (by omega)] at ha'
    rw [← ha']
    exact hrd.drop (n + 1) (by simp; omega)
  obtain ⟨a1, k1, W1, s1, s2, s3, s4⟩ := run_appE w.drew 27 none 0 [] (some ⟨b, off, none⟩) c (E.take n) (ownE_nil _) r0 (fun x => by cases x) (by simp; omega)
  have s3' : But (fun _ => False) w.drew W1 := s3.mono (fun _ _ ⟨x, hx, _⟩ => by cases hx)
  have s4' : ∀ k, AtB a1 k → w.drew.heap.size ≤ k := fun k hk => (s4 k hk).resolve_left (fun ⟨x, hx, _⟩ => by cases hx)
  have nil' : a' = none → c - (n + 1) = 0 := fun x => by
    subst x
    split at ha' <;> simp at ha'
  obtain ⟨a2, k2, W2, t1, t2, t3, t4⟩ := run_appE W1 27 a1 k1 ([] ++ E.take n) a' (c - (n + 1)) (E.drop (n + 1)) s2 (r1.but s3' (fun _ _ x => x)) nil' (by simp; omega)
  have bW : But (fun _ => False) w W2 := by
    refine (d0.trans s3' (fun _ _ x => x)).trans t3 (fun k hk x => ?_)
    have := s4' k x
    have : w.drew.heap.size = w.heap.size := rfl
    omega
  have e2 : [] ++ E.take n ++ E.drop (n + 1) = M.dropE E id := by rw [List.nil_append]; exact hdr
  rw [e2] at t2
  have hl1 : ([] : List M.Ent).length + (E.take n).length = n := by simp; omega
  have hl2 : ([] ++ E.take n).length = n := by simp; omega
  have hl3 : (E.drop (n + 1)).length = E.length - (n + 1) := by simp
  have hl0 : (E.take n).length = n := by simp; omega
  have hl4 : (M.dropE E id).length = n + (E.length - (n + 1)) := by rw [← e2, List.length_append, hl2, hl3]
  rw [hl1, hl0] at s1
  rw [hl2, hl3] at t1
  obtain ⟨st1, st2⟩ := h.stored bW t2 (fun k hk => by
    rcases t4 k hk with x | x
    · have := s4' k x
      have : w.drew.heap.size = w.heap.size := rfl
      omega
    · have := s3'.size
      have : w.drew.heap.size = w.heap.size := rfl
      omega)
  rw [hl4] at st1 st2
  have fin : Hid (∃ a2 c2, Rm (W2.setCell ⟨gr, 1, none⟩ (.slice a2 (n + (E.length - (n + 1))) c2)) gr a2 c2 clock (M.dropE E id)) := ⟨a2, k2, st1⟩
  have f3 : Hid (Rm (W2.setCell ⟨gr, 1, none⟩ (.slice a2 (n + (E.length - (n + 1))) k2)) gr a2 k2 clock (M.dropE E id) ∧ But (fun k => k = gr) w (W2.setCell ⟨gr, 1, none⟩ (.slice a2 (n + (E.length - (n + 1))) k2)) ∧ ∀ k, AtB a2 k → w.heap.size ≤ k) := ⟨st1, st2, fun k hk => by
    rcases t4 k hk with x | x
    · have := s4' k x
      have : w.drew.heap.size = w.heap.size := rfl
      omega
    · have := s3'.size
      have : w.drew.heap.size = w.heap.size := rfl
      omega⟩
  have g1 : W1.cell? ⟨gr, 1, none⟩ = some (.slice (some ⟨b, off, none⟩) E.length c) := (d0.trans s3' (fun _ _ x => x)).cell (fun x => x) c1
  have g2 : W2.cell? ⟨gr, 1, none⟩ = some (.slice (some ⟨b, off, none⟩) E.length c) := bW.cell (fun x => x) c1
  have g3 : W2.frozen? ⟨gr, 1, none⟩ = false := (h.blk.but bW (fun x => x)).frozen 1
  have hcap := h.cap
  have hbig := h.big
  have i0 : (0 : Int) ≤ ↑n := by omega
  have i1 : (↑n : Int) ≤ ↑c := by omega
  have i2 : (↑n : Int) + 1 ≤ ↑E.length := by omega
  have i3 : ¬ (↑n : Int) < 0 := by omega
  have i4 : (0 : Int) ≤ ↑n + 1 := by omega
  have wn : IntKind.i64.wrap ((↑n : Int) + 1) = ↑n + 1 := by rw [IntKind.wrap_i64]; omega
  clear st1 st2 t2 t3 t4 s2 s3 s4 s3' s4' r0 r1 hrd d0 h fin bW e2 hl1 hl2 hl3 hl4 hl0 hdr hn nil' hE
  go_enter Try.func24, Try.ntmps24
  go_wp2_with fail
  refine Calls.mono K.out ?_
  rintro e W' ⟨rfl, hW'⟩
  rw [hW']
  clear hW' W' K
  go_wp2
  go_region_law (first | refine step_run _ rfl _ _ rfl (.slice none 0 0) (.slice (some ⟨b, off, none⟩) n c) _ _ rfl rfl s1 ?_ | refine step_run _ rfl _ _ rfl (.slice a1 n k1) (.slice a' (E.length - (n + 1)) (c - (n + 1))) _ _ rfl rfl t1 ?_)
  all_goals go_wp2
  all_goals go_ret
  all_goals exact ⟨rfl, _, _, f3.out⟩
set_option maxHeartbeats 2000000 in
theorem rdrop_n (w : World) (gr : Nat) (a : Option Addr) (c : Nat) (clock : Int) (E : List M.Ent) (h : Rm w gr a c clock E) (hl : E.length ≤ 1024) (id : Int) (hf : fnd E id = E.length) :
    Calls Try.prog 24 #[.pointer (some ⟨gr, 0, none⟩), .int .i64 id] w fun e w' => e = .returned (.bool false) ∧ w' = w := by
  have K := find_any w gr a c clock E h hl id
  unfold fndR at K
  rw [if_neg (by omega)] at K
  clear h hf
  go_enter Try.func24, Try.ntmps24
  go_wp2_with fail
  refine Calls.mono K ?_
  rintro e w' ⟨rfl, rfl⟩
  go_wp2
  go_ret
  exact ⟨rfl, rfl⟩
/-- Drop of the document's wheel. -/
theorem rdrop_m (w : World) (gr : Nat) (a : Option Addr) (c : Nat) (clock : Int) (E : List M.Ent) (h : Rm w gr a c clock E) (hE : M.Ok E) (hl : E.length ≤ 1024) (id : Int) :
    Calls Try.prog 24 #[.pointer (some ⟨gr, 0, none⟩), .int .i64 id] w fun e w' => e = .returned (.bool (M.tm E id).isSome) ∧ ∃ a2 c2, Rm w' gr a2 c2 clock (M.dropE E id) ∧ But (fun k => k = gr) w w' ∧ ∀ k, AtB a2 k → AtB a k ∨ w.heap.size ≤ k := by
  have hle := fnd_le E id
  by_cases hf : fnd E id < E.length
  · obtain ⟨p, _, _, h3⟩ := fnd_some hf
    obtain ⟨b, off, rfl, _⟩ := h.row (by omega)
    refine (rdrop_y w gr b off c clock E h hE hl id hf).mono ?_
    rintro e w' ⟨rfl, a2, c2, k1, k2, k3⟩
    exact ⟨by rw [h3]; rfl, a2, c2, k1, k2, fun k hk => .inr (k3 k hk)⟩
  · have hn := fnd_none (E := E) (id := id) (by omega)
    refine (rdrop_n w gr a c clock E h hl id (by omega)).mono ?_
    rintro e w' ⟨rfl, rfl⟩
    exact ⟨by rw [hn]; rfl, a, c, by rw [M.dropE_none hn]; exact h, But.refl _ _, fun k hk => .inl hk⟩
theorem Rf.step {w w' : World} {gr : Nat} {G : Nat → Prop} {a2 : Option Addr} {c2 : Nat} {clock : Int} {E : List M.Ent} (hG : G gr) (hlt : ∀ k, G k → k < w.heap.size) (h : Rm w' gr a2 c2 clock E) (hs : w.heap.size ≤ w'.heap.size) (ha : ∀ k, AtB a2 k → G k ∨ w.heap.size ≤ k) : Rf w' gr (nx G w w') clock E :=
  ⟨⟨a2, c2, h, .inl hG, fun k hk => by
    rcases ha k hk with x | x
    · exact .inl x
    · exact .inr ⟨x, h.lt k hk⟩⟩, fun k hk => by
    rcases hk with x | x
    · exact Nat.lt_of_lt_of_le (hlt k x) hs
    · exact x.2⟩
theorem rdrop_any (w : World) (gr : Nat) (G : Nat → Prop) (clock : Int) (E : List M.Ent) (h : Rf w gr G clock E) (hE : M.Ok E) (hl : E.length ≤ 1024) (id : Int) :
    Calls Try.prog 24 #[.pointer (some ⟨gr, 0, none⟩), .int .i64 id] w fun e w' => e = .returned (.bool (M.tm E id).isSome) ∧ Rf w' gr (nx G w w') clock (M.dropE E id) ∧ But G w w' := by
  obtain ⟨a, c, hm, hg, ha⟩ := h.ex
  refine (rdrop_m w gr a c clock E hm hE hl id).mono ?_
  rintro e w' ⟨rfl, a2, c2, k1, k2, k3⟩
  exact ⟨rfl, Rf.step hg h.lt k1 k2.size (fun k hk => (k3 k hk).imp (ha k) (fun x => x)), k2.mono (fun n _ e => by rw [e]; exact hg)⟩
end Go.Proofs.Ytfcpjenlckkloaa
