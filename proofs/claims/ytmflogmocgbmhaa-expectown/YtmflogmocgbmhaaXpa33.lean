/- Texts joined: XpV -/
import Derived.Test.YtmflogmocgbmhaaXpa32
import Derived.Laws.AppendOwnNone
namespace Go.Proofs.Ytmflogmocgbmhaa
open Go.RowKit
set_option linter.unusedVariables false
set_option linter.unusedSimpArgs false
/-- The cells of the document's table. -/
abbrev docW (s : Xt) (a : Option Addr) (c : Nat) : Array Value := #[.int .i64 s.most, .int .i64 s.quota, .int .i64 s.now, .slice a s.L.length c]
/-- A list that lies in a row and is only read. -/
structure RowE (w : World) (a : Option Addr) (c : Nat) (L : List Wt) : Prop where
  row : RowW w a L
  lt : ∀ y : Addr, a = some y → y.block < w.heap.size
  le : L.length ≤ c
  nil : a = none → c = 0
theorem RowE.but {F : Nat → Prop} {w w' : World} {a : Option Addr} {c : Nat} {L : List Wt} (h : RowE w a c L) (b : But F w w') (hn : ∀ y : Addr, a = some y → ¬ F y.block) : RowE w' a c L :=
  ⟨⟨fun _ _ => trivial, fun i q hi => by
    obtain ⟨p, o, e, hc⟩ := h.row.cells i q hi
    exact ⟨p, o, e, Nat.lt_of_lt_of_le hc.1 b.size, fun j v hj => b.cell (hn _ e) (hc.2 j v hj)⟩⟩, fun y hy => Nat.lt_of_lt_of_le (h.lt y hy) b.size, h.le, h.nil⟩
theorem RowE.kept {w w' : World} {a : Option Addr} {c : Nat} {L : List Wt} (h : RowE w a c L) (b : Below w.heap.size w w') : RowE w' a c L := h.but (But.of_below b (fun _ => False)) (fun _ _ x => x)
theorem RowE.other {w : World} {a : Option Addr} {c : Nat} {L : List Wt} {g : Nat} (h : RowE w a c L) (hn : ∀ y : Addr, a = some y → y.block ≠ g) (cs : Array Value) : RowE (w.setRow g cs) a c L := h.but ((But.refl (fun k => k = g) w).setRow g (.inl rfl) cs) hn
theorem RowE.put_other {w : World} {a : Option Addr} {c : Nat} {L : List Wt} {g : Nat} {t : TypeId} {cs : Array Value} (h : RowE w a c L) (_ : Blk w g t cs) (hn : ∀ y : Addr, a = some y → y.block ≠ g) (i : Nat) (v : Value) : RowE (w.setCell ⟨g, i, none⟩ v) a c L := h.but ((But.refl (fun k => k = g) w).setCell g i (.inl rfl) v) hn
theorem RowE.al {w w' : World} {a : Option Addr} {c : Nat} {L : List Wt} {o : Obj} (h : RowE w a c L) (e : w.alloc o = w') : RowE w' a c L := h.kept (bel_nw e)
theorem RowE.drew {w : World} {a : Option Addr} {c : Nat} {L : List Wt} (h : RowE w a c L) : RowE w.drew a c L := h.kept (Below.refl _ _).drew
theorem RowE.at_ {w : World} {p o c : Nat} {L : List Wt} (h : RowE w (some ⟨p, o, none⟩) c L) {k : Nat} {x : Wt} (hx : L[k]? = some x) : CellsAt w p (o + k * 22) x.v := by
  obtain ⟨p2, o2, e, hc⟩ := h.row.cells k x hx
  cases e
  exact hc
theorem RowE.take {w : World} {p o c : Nat} {L : List Wt} (h : RowE w (some ⟨p, o, none⟩) c L) (k : Nat) : RowE w (some ⟨p, o, none⟩) c (L.take k) :=
  ⟨⟨fun _ _ => trivial, fun i q hi => by
    rw [List.getElem?_take] at hi
    split at hi
    · exact h.row.cells i q hi
    · cases hi⟩, h.lt, (by rw [List.length_take]; have := h.le; omega), fun e => by cases e⟩
theorem RowE.drop {w : World} {p o c : Nat} {L : List Wt} (h : RowE w (some ⟨p, o, none⟩) c L) (k : Nat) (hk : k ≤ L.length) : RowE w (some ⟨p, o + k * 22, none⟩) (c - k) (L.drop k) :=
  ⟨⟨fun _ _ => trivial, fun i q hi => by
    rw [List.getElem?_drop] at hi
    obtain ⟨p2, o2, e, hc⟩ := h.row.cells (k + i) q hi
    cases e
    refine ⟨p, o + k * 22, rfl, ?_⟩
    have e2 : o + k * 22 + i * 22 = o + (k + i) * 22 := by omega
    rw [e2]
    exact hc⟩, fun y hy => by cases hy; exact h.lt ⟨p, o, none⟩ rfl, by rw [List.length_drop]; have := h.le; omega, fun e => by cases e⟩
theorem map_geW {a : Option Addr} {B g : Nat} (h : ∀ y, a = some y → B ≤ y.block) (hg : g < B) : ¬ a.map (·.block) = some g := fun e => by
  cases ha : a with
  | none => rw [ha] at e; cases e
  | some y => rw [ha] at e; injection e with e; have := h y ha; have e2 : y.block = g := e; omega
/-- append(v, x...) of many. -/
theorem run_appWs (w : World) (ty : TypeId) (B : Nat) (a : Option Addr) (c : Nat) (xs : List Wt) (hown : OwnW w B a c xs) (b : Option Addr) (cc : Nat) (l : List Wt) (hrow : RowE w b cc l)
    (hsum : xs.length + l.length ≤ 3000000) (hbase : B ≤ w.heap.size) :
    ∃ a' c' w', (Builtin.append_ #[39, 39] ty #[.slice a xs.length c, .slice b l.length cc]).run Try.prog w = .ok (.slice a' (xs ++ l).length c') w' ∧ OwnW w' B a' c' (xs ++ l) ∧ w.grownBy w' (a.map (·.block)) := by
  obtain ⟨i0, hi, hz0, hz1, hz2⟩ := info_parts info_want
  cases b with
  | none =>
    have hl : l = [] := by
      cases l with
      | nil => rfl
      | cons y l => obtain ⟨b, off, hh, _⟩ := hrow.row.cells 0 y rfl; cases hh
    subst hl
    have := run_append_owned_none (P := Try.prog) (w := w) B 39 ty 28 i0 22 Try.underlying39 hi (.slice a xs.length c) xs.length (pcW xs) hown
    rw [hrow.nil rfl]
    refine ⟨a, c, w, ?_, by simpa using hown, World.grownBy.refl _ _⟩
    simpa using this
  | some ad =>
    obtain ⟨v', w', h1, h2, h3, _⟩ := run_append_own (P := Try.prog) w B 39 ty 28 i0 (.agg zwtV) 22 176 Try.underlying39 hi hz0 hz1 hz2 rfl (by decide) (.slice a xs.length c) xs.length (pcW xs) hown ad l.length cc (pcW l) (wt_len _ 22 wtv_len l) (by
      intro j u hj
      have hjl : j < l.length * 22 := by
        have := (List.getElem?_eq_some_iff.1 hj).1
        rwa [wt_len _ 22 wtv_len l] at this
      have hq : j / 22 < l.length := (Nat.div_lt_iff_lt_mul (by decide)).2 hjl
      obtain ⟨q, hq'⟩ : ∃ q, l[j / 22]? = some q := ⟨_, List.getElem?_eq_getElem hq⟩
      obtain ⟨b, off, hh, hc⟩ := hrow.row.cells (j / 22) q hq'
      cases hh
      have e : j / 22 * 22 + j % 22 = j := by omega
      have h1 := wt_get (fun q : Wt => q.v.toList) 22 wtv_len l (j / 22) (j % 22) q hq' (Nat.mod_lt _ (by decide))
      rw [e] at h1
      have h2 : q.v.toList[j % 22]? = some u := by rw [← h1]; exact hj
      have h3 := hc.2 (j % 22) u (by simpa using h2)
      rw [show (⟨b, off, none⟩ : Addr).add j = ⟨b, off + j, none⟩ from Go.WideShapes.add_plain ..]
      rw [show off + j = off + j / 22 * 22 + j % 22 by omega]
      exact h3) (by
      intro u hu
      obtain ⟨q, _, hq⟩ := List.mem_flatMap.1 hu
      exact wtv_one q u hq) (by unfold maxLen; omega) (by omega) hbase
    have h4 : w'.ownsRow B 28 22 v' (xs ++ l).length (pcW (xs ++ l)) := by
      have e : pcW (xs ++ l) = pcW xs ++ pcW l := by simp [pcW]
      rw [List.length_append, e]
      exact h2
    obtain ⟨a', c', rfl⟩ : ∃ a' c', v' = .slice a' (xs ++ l).length c' := by
      rcases h4.2 with ⟨h5, h6⟩ | ⟨g, cap, cur, h5, _⟩
      · exact ⟨none, 0, by rw [h5, h6]⟩
      · exact ⟨_, cap, h5⟩
    rw [slice_blkW] at h3
    exact ⟨a', c', w', h1, h4, h3⟩
theorem OwnW.toE {w : World} {B : Nat} {a : Option Addr} {c : Nat} {l : List Wt} (h : OwnW w B a c l) : RowE w a c l := ⟨h.row fun _ _ => trivial, h.lt_size, h.le, fun e => by
  rcases h.2 with ⟨h3, h4⟩ | ⟨g, cap, cur, h3, _⟩
  · simp only [Value.slice.injEq] at h3
    exact h3.2.2
  · simp only [Value.slice.injEq] at h3
    rw [h3.1] at e
    cases e⟩
theorem own_noneW (w : World) (B : Nat) : OwnW w B none 0 ([] : List Wt) := ⟨rfl, .inl ⟨rfl, rfl⟩⟩
theorem wpList_rnWs {ops : Array Oper} {rest : List Oper} {o : Oper} {ac : Act} {Q : Exit → Act → World → Prop} (w : World) (hgd : o.guard = none) (s x : Operand)
    (ho : o.op = .call { callee := .builtin .append, args := #[s, x], argTypes := #[39, 39] })
    (B : Nat) (a : Option Addr) (c : Nat) (xs : List Wt) (v1 v2 : Value) (hv : v1 = .slice a xs.length c) (hs : ac.eval s = v1) (hown : OwnW w B a c xs) (b : Option Addr) (cc : Nat) (l : List Wt) (hv2 : v2 = .slice b l.length cc) (hx : ac.eval x = v2) (hrow : RowE w b cc l)
    (hsum : xs.length + l.length ≤ 3000000) (hbase : B ≤ w.heap.size)
    (h : ∀ a' c' w', OwnW w' B a' c' (xs ++ l) → w.grownBy w' (a.map (·.block)) → wpList Try.prog ops Q rest (ac.put o.dst (.slice a' (xs ++ l).length c')) w') : wpList Try.prog ops Q (o :: rest) ac w := by
  subst hv
  subst hv2
  obtain ⟨a', c', w', h1, h2, h3⟩ := run_appWs w o.type B a c xs hown b cc l hrow hsum hbase
  refine wpList_plain hgd fun K hK => ?_
  unfold Oper.wp execOp
  simp only [ho, resolve, invoke, builtin, Sem.run_bind, Sem.run_pure, Result.andThen_ok, List.map_toArray, List.map_cons, List.map_nil, hs, hx, h1]
  exact hK _ _ (h a' c' w' h2 h3)
/-- The document's table in memory. -/
structure DocO (w : World) (rb : Nat) (s : Xt) (a : Option Addr) (c : Nat) : Prop where
  tab : Blk w rb 41 (docW s a c)
  row : RowE w a c s.L
  ne : ∀ y : Addr, a = some y → y.block ≠ rb
theorem ix_at {q : Wy} {L : List Wt} {k : Nat} {x : Wt} (hx : L[k]? = some x) (he : Wy.eqB x.w q = true) (hb : ∀ j f, j < k → L[j]? = some f → Wy.eqB f.w q = false) : ixW q L = some k := by
  obtain ⟨hk, rfl⟩ := List.getElem?_eq_some_iff.1 hx
  exact List.findIdx?_eq_some_iff_getElem.2 ⟨hk, he, fun j hj => by
    have := hb j L[j] hj (List.getElem?_eq_getElem (by omega))
    simpa using this⟩
theorem ix_no {q : Wy} {L : List Wt} (hb : ∀ j f, j < L.length → L[j]? = some f → Wy.eqB f.w q = false) : ixW q L = none :=
  List.findIdx?_eq_none_iff.2 fun f hf => by
    obtain ⟨j, hj, rfl⟩ := List.getElem_of_mem hf
    exact hb j _ hj (List.getElem?_eq_getElem hj)
theorem wait_at {q : Wy} {L : List Wt} {k : Nat} {x : Wt} (hx : L[k]? = some x) (he : Wt.waits x q = true) (hb : ∀ j f, j < k → L[j]? = some f → Wt.waits f q = false) : waitW q L = some k := by
  obtain ⟨hk, rfl⟩ := List.getElem?_eq_some_iff.1 hx
  exact List.findIdx?_eq_some_iff_getElem.2 ⟨hk, he, fun j hj => by
    have := hb j L[j] hj (List.getElem?_eq_getElem (by omega))
    simpa using this⟩
theorem wait_no {q : Wy} {L : List Wt} (hb : ∀ j f, j < L.length → L[j]? = some f → Wt.waits f q = false) : waitW q L = none :=
  List.findIdx?_eq_none_iff.2 fun f hf => by
    obtain ⟨j, hj, rfl⟩ := List.getElem_of_mem hf
    exact hb j _ hj (List.getElem?_eq_getElem hj)
theorem add_bad {s : Xt} {f : Wt} (h : f.right = false) : s.add f = (s, 1) := by unfold Xt.add; rw [h]; rfl
theorem add_late {s : Xt} {f : Wt} (h : decide (f.ends ≤ s.now) = true) : s.add f = (s, 1) := by unfold Xt.add; rw [h]; simp
theorem add_put {s : Xt} {f : Wt} (h : f.right = true) (h2 : decide (f.ends ≤ s.now) = false) : s.add f = s.put f := by unfold Xt.add; rw [h, h2]; rfl
theorem xput_same {s : Xt} {f x : Wt} {k : Nat} (h : ixW f.w s.L = some k) (hx : s.L[k]? = some x) (hm : x.m.eqB f.m = true) : s.put f = (⟨s.most, s.quota, s.now, s.L.set k f⟩, 0) := by
  unfold Xt.put
  rw [h]
  show (if (s.L.getD k wt0).m.eqB f.m = true then _ else _) = _
  rw [getD_at hx, if_pos hm]
theorem xput_else {s : Xt} {f x : Wt} {k : Nat} (h : ixW f.w s.L = some k) (hx : s.L[k]? = some x) (hm : x.m.eqB f.m = false) : s.put f = (s, 17) := by
  unfold Xt.put
  rw [h]
  show (if (s.L.getD k wt0).m.eqB f.m = true then _ else _) = _
  rw [getD_at hx, hm]; rfl
theorem xput_quota {s : Xt} {f : Wt} (h : ixW f.w s.L = none) (h2 : s.quota ≤ (cntW f.m s.L : Int)) : s.put f = (s, 17) := by unfold Xt.put; rw [h]; exact if_pos h2
theorem xput_full {s : Xt} {f : Wt} (h : ixW f.w s.L = none) (h2 : ¬ s.quota ≤ (cntW f.m s.L : Int)) (h3 : s.most ≤ (s.L.length : Int)) : s.put f = (s, 12) := by unfold Xt.put; rw [h]; exact (if_neg h2).trans (if_pos h3)
theorem xput_new {s : Xt} {f : Wt} (h : ixW f.w s.L = none) (h2 : ¬ s.quota ≤ (cntW f.m s.L : Int)) (h3 : ¬ s.most ≤ (s.L.length : Int)) : s.put f = (⟨s.most, s.quota, s.now, s.L ++ [f]⟩, 0) := by unfold Xt.put; rw [h]; exact (if_neg h2).trans (if_neg h3)
theorem take_erase {s : Xt} (ho : XtOk s) {x : Wy} {k : Nat} {q : Wt} (h : waitW x s.L = some k) (hq : s.L[k]? = some q) : s.take x = (⟨s.most, s.quota, s.now, s.L.take k ++ s.L.drop (k + 1)⟩, q, true) := by
  rw [take_eq h hq, filter_one ho.apart hq, List.eraseIdx_eq_take_drop_succ]
theorem take_zero {s : Xt} {x : Wy} (h : waitW x s.L = none) : s.take x = (s, wt0, false) := by unfold Xt.take; rw [h]
end Go.Proofs.Ytmflogmocgbmhaa
