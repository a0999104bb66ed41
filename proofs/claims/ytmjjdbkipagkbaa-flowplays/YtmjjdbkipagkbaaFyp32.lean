/- Texts joined: FyA -/
import Derived.Test.YtmjjdbkipagkbaaFyp8
import Derived.Test.YtmjjdbkipagkbaaFyp31
import Derived.Laws.AppendOwnNone
namespace Go.Proofs.Ytmjjdbkipagkbaa
open Go.RowKit
set_option linter.unusedVariables false
set_option linter.unusedSimpArgs false
/-- The cells of the document's table. -/
abbrev docV (s : Ft) (a : Option Addr) (c : Nat) : Array Value := #[.int .i64 s.most, .int .i64 s.now, .slice a s.L.length c]
/-- A list that lies in a row and is only read. -/
structure RowG (w : World) (a : Option Addr) (c : Nat) (L : List Fl) : Prop where
  row : RowL w a L
  lt : ∀ y : Addr, a = some y → y.block < w.heap.size
  le : L.length ≤ c
  nil : a = none → c = 0
theorem RowG.but {F : Nat → Prop} {w w' : World} {a : Option Addr} {c : Nat} {L : List Fl} (h : RowG w a c L) (b : But F w w') (hn : ∀ y : Addr, a = some y → ¬ F y.block) : RowG w' a c L :=
  ⟨⟨fun _ _ => trivial, fun i q hi => by
    obtain ⟨p, o, e, hc⟩ := h.row.cells i q hi
    exact ⟨p, o, e, Nat.lt_of_lt_of_le hc.1 b.size, fun j v hj => b.cell (hn _ e) (hc.2 j v hj)⟩⟩, fun y hy => Nat.lt_of_lt_of_le (h.lt y hy) b.size, h.le, h.nil⟩
theorem RowG.kept {w w' : World} {a : Option Addr} {c : Nat} {L : List Fl} (h : RowG w a c L) (b : Below w.heap.size w w') : RowG w' a c L := h.but (But.of_below b (fun _ => False)) (fun _ _ x => x)
theorem RowG.other {w : World} {a : Option Addr} {c : Nat} {L : List Fl} {g : Nat} (h : RowG w a c L) (hn : ∀ y : Addr, a = some y → y.block ≠ g) (cs : Array Value) : RowG (w.setRow g cs) a c L := h.but ((But.refl (fun k => k = g) w).setRow g (.inl rfl) cs) hn
theorem RowG.put_other {w : World} {a : Option Addr} {c : Nat} {L : List Fl} {g : Nat} {t : TypeId} {cs : Array Value} (h : RowG w a c L) (_ : Blk w g t cs) (hn : ∀ y : Addr, a = some y → y.block ≠ g) (i : Nat) (v : Value) : RowG (w.setCell ⟨g, i, none⟩ v) a c L := h.but ((But.refl (fun k => k = g) w).setCell g i (.inl rfl) v) hn
theorem RowG.al {w w' : World} {a : Option Addr} {c : Nat} {L : List Fl} {o : Obj} (h : RowG w a c L) (e : w.alloc o = w') : RowG w' a c L := h.kept (bel_nw e)
theorem RowG.drew {w : World} {a : Option Addr} {c : Nat} {L : List Fl} (h : RowG w a c L) : RowG w.drew a c L := h.kept (Below.refl _ _).drew
theorem RowG.at_ {w : World} {p o c : Nat} {L : List Fl} (h : RowG w (some ⟨p, o, none⟩) c L) {k : Nat} {x : Fl} (hx : L[k]? = some x) : CellsAt w p (o + k * 22) x.v := by
  obtain ⟨p2, o2, e, hc⟩ := h.row.cells k x hx
  cases e
  exact hc
theorem RowG.take {w : World} {p o c : Nat} {L : List Fl} (h : RowG w (some ⟨p, o, none⟩) c L) (k : Nat) : RowG w (some ⟨p, o, none⟩) c (L.take k) :=
  ⟨⟨fun _ _ => trivial, fun i q hi => by
    rw [List.getElem?_take] at hi
    split at hi
    · exact h.row.cells i q hi
    · cases hi⟩, h.lt, (by rw [List.length_take]; have := h.le; omega), fun e => by cases e⟩
theorem RowG.drop {w : World} {p o c : Nat} {L : List Fl} (h : RowG w (some ⟨p, o, none⟩) c L) (k : Nat) (hk : k ≤ L.length) : RowG w (some ⟨p, o + k * 22, none⟩) (c - k) (L.drop k) :=
  ⟨⟨fun _ _ => trivial, fun i q hi => by
    rw [List.getElem?_drop] at hi
    obtain ⟨p2, o2, e, hc⟩ := h.row.cells (k + i) q hi
    cases e
    refine ⟨p, o + k * 22, rfl, ?_⟩
    have e2 : o + k * 22 + i * 22 = o + (k + i) * 22 := by omega
    rw [e2]
    exact hc⟩, fun y hy => by cases hy; exact h.lt ⟨p, o, none⟩ rfl, by rw [List.length_drop]; have := h.le; omega, fun e => by cases e⟩
theorem map_geL {a : Option Addr} {B g : Nat} (h : ∀ y, a = some y → B ≤ y.block) (hg : g < B) : ¬ a.map (·.block) = some g := fun e => by
  cases ha : a with
  | none => rw [ha] at e; cases e
  | some y => rw [ha] at e; injection e with e; have := h y ha; have e2 : y.block = g := e; omega
/-- append(v, x...) of many. -/
theorem run_appLs (w : World) (ty : TypeId) (B : Nat) (a : Option Addr) (c : Nat) (xs : List Fl) (hown : OwnL w B a c xs) (b : Option Addr) (cc : Nat) (l : List Fl) (hrow : RowG w b cc l)
    (hsum : xs.length + l.length ≤ 3000000) (hbase : B ≤ w.heap.size) :
    ∃ a' c' w', (Builtin.append_ #[53, 53] ty #[.slice a xs.length c, .slice b l.length cc]).run Try.prog w = .ok (.slice a' (xs ++ l).length c') w' ∧ OwnL w' B a' c' (xs ++ l) ∧ w.grownBy w' (a.map (·.block)) := by
  obtain ⟨i0, hi, hz0, hz1, hz2⟩ := info_parts info_flow
  cases b with
  | none =>
    have hl : l = [] := by
      cases l with
      | nil => rfl
      | cons y l => obtain ⟨b, off, hh, _⟩ := hrow.row.cells 0 y rfl; cases hh
    subst hl
    have := run_append_owned_none (P := Try.prog) (w := w) B 53 ty 33 i0 22 Try.underlying53 hi (.slice a xs.length c) xs.length (pc22 xs) hown
    rw [hrow.nil rfl]
    refine ⟨a, c, w, ?_, by simpa using hown, World.grownBy.refl _ _⟩
    simpa using this
  | some ad =>
    obtain ⟨v', w', h1, h2, h3, _⟩ := run_append_own (P := Try.prog) w B 53 ty 33 i0 (.agg zflV) 22 136 Try.underlying53 hi hz0 hz1 hz2 rfl (by decide) (.slice a xs.length c) xs.length (pc22 xs) hown ad l.length cc (pc22 l) (fl_len _ 22 flv_len l) (by
      intro j u hj
      have hjl : j < l.length * 22 := by
        have := (List.getElem?_eq_some_iff.1 hj).1
        rwa [fl_len _ 22 flv_len l] at this
      have hq : j / 22 < l.length := (Nat.div_lt_iff_lt_mul (by decide)).2 hjl
      obtain ⟨q, hq'⟩ : ∃ q, l[j / 22]? = some q := ⟨_, List.getElem?_eq_getElem hq⟩
      obtain ⟨b, off, hh, hc⟩ := hrow.row.cells (j / 22) q hq'
      cases hh
      have e : j / 22 * 22 + j % 22 = j := by omega
      have h1 := fl_get (fun q : Fl => q.v.toList) 22 flv_len l (j / 22) (j % 22) q hq' (Nat.mod_lt _ (by decide))
      rw [e] at h1
      have h2 : q.v.toList[j % 22]? = some u := by rw [← h1]; exact hj
      have h3 := hc.2 (j % 22) u (by simpa using h2)
      rw [show (⟨b, off, none⟩ : Addr).add j = ⟨b, off + j, none⟩ from Go.WideShapes.add_plain ..]
      rw [show off + j = off + j / 22 * 22 + j % 22 by omega]
      exact h3) (by
      intro u hu
      obtain ⟨q, _, hq⟩ := List.mem_flatMap.1 hu
      exact flv_one q u hq) (by unfold maxLen; omega) (by omega) hbase
    have h4 : w'.ownsRow B 33 22 v' (xs ++ l).length (pc22 (xs ++ l)) := by
      have e : pc22 (xs ++ l) = pc22 xs ++ pc22 l := by simp [pc22]
      rw [List.length_append, e]
      exact h2
    obtain ⟨a', c', rfl⟩ : ∃ a' c', v' = .slice a' (xs ++ l).length c' := by
      rcases h4.2 with ⟨h5, h6⟩ | ⟨g, cap, cur, h5, _⟩
      · exact ⟨none, 0, by rw [h5, h6]⟩
      · exact ⟨_, cap, h5⟩
    rw [slice_blkL] at h3
    exact ⟨a', c', w', h1, h4, h3⟩
theorem OwnL.toE {w : World} {B : Nat} {a : Option Addr} {c : Nat} {l : List Fl} (h : OwnL w B a c l) : RowG w a c l := ⟨h.row fun _ _ => trivial, h.lt_size, h.le, fun e => by
  rcases h.2 with ⟨h3, h4⟩ | ⟨g, cap, cur, h3, _⟩
  · simp only [Value.slice.injEq] at h3
    exact h3.2.2
  · simp only [Value.slice.injEq] at h3
    rw [h3.1] at e
    cases e⟩
theorem own_noneL (w : World) (B : Nat) : OwnL w B none 0 ([] : List Fl) := ⟨rfl, .inl ⟨rfl, rfl⟩⟩
theorem wpList_rnLs {ops : Array Oper} {rest : List Oper} {o : Oper} {ac : Act} {Q : Exit → Act → World → Prop} (w : World) (hgd : o.guard = none) (s x : Operand)
    (ho : o.op = .call { callee := .builtin .append, args := #[s, x], argTypes := #[53, 53] })
    (B : Nat) (a : Option Addr) (c : Nat) (xs : List Fl) (v1 v2 : Value) (hv : v1 = .slice a xs.length c) (hs : ac.eval s = v1) (hown : OwnL w B a c xs) (b : Option Addr) (cc : Nat) (l : List Fl) (hv2 : v2 = .slice b l.length cc) (hx : ac.eval x = v2) (hrow : RowG w b cc l)
    (hsum : xs.length + l.length ≤ 3000000) (hbase : B ≤ w.heap.size)
    (h : ∀ a' c' w', OwnL w' B a' c' (xs ++ l) → w.grownBy w' (a.map (·.block)) → wpList Try.prog ops Q rest (ac.put o.dst (.slice a' (xs ++ l).length c')) w') : wpList Try.prog ops Q (o :: rest) ac w := by
  subst hv
  subst hv2
  obtain ⟨a', c', w', h1, h2, h3⟩ := run_appLs w o.type B a c xs hown b cc l hrow hsum hbase
  refine wpList_plain hgd fun K hK => ?_
  unfold Oper.wp execOp
  simp only [ho, resolve, invoke, builtin, Sem.run_bind, Sem.run_pure, Result.andThen_ok, List.map_toArray, List.map_cons, List.map_nil, hs, hx, h1]
  exact hK _ _ (h a' c' w' h2 h3)
theorem yieldsIf_slice {ops : Array Oper} {S : World → Prop} {o : Oper} {ac : Act} (hgd : o.guard = none) (t : TypeId) (x : Operand) (lo hi mx : Option Operand) (ho : o.op = Op.slice t x lo hi mx)
    (v : Value) (l h m : Option Value) (hx : ac.eval x = v) (hl : lo.map ac.eval = l) (hh : hi.map ac.eval = h) (hm : mx.map ac.eval = m) (r : Value) (hrun : ∀ w, (Instr.sliceAt t v l h m).run Try.prog w = .ok r w) : YieldsIf Try.prog ops S o r ac := by
  refine .inl ⟨by simp [Region.wanted, hgd], fun w _ => ?_⟩
  subst hx hl hh hm
  unfold execOp
  simp only [ho]
  simp [hrun, Result.andThen]
/-- Where x[k:] of a slice with places lies. -/
def subP (p o c k : Nat) : Option Addr := if c = k then some ⟨p, o, none⟩ else some ⟨p, o + k * 22, none⟩
theorem run_from (p o n c k : Nat) (lo : Int) (hlo : lo = (k : Int)) (hk : k ≤ n) (w : World) : (Instr.sliceAt 53 (.slice (some ⟨p, o, none⟩) n c) (some (.int .i64 lo)) none none).run Try.prog w = .ok (.slice (subP p o c k) (n - k) (c - k)) w := by
  have hu : Try.prog.underlying 53 = some (.slice (Try.prog.elem 53)) := by kernel_rfl
  have hs : (sizeOf (Try.prog.elem 53)).run Try.prog w = .ok 22 w := by kernel_rfl
  subst hlo
  rw [run_sliceAt_slice _ _ _ _ _ _ hu, run_slice_l _ _ _ _ _ hu .i64 (k : Int) (by omega) (by omega), hs]
  show Result.ok _ _ = _
  unfold sliced subP
  simp only [Int.toNat_natCast]
  by_cases h : c = k
  · rw [if_pos h, if_pos h]
  · rw [if_neg h, if_neg h]
    show Result.ok (Value.slice (some ((⟨p, o, none⟩ : Addr).add (k * 22))) (n - k) (c - k)) w = _
    rw [Go.WideShapes.add_plain]
theorem run_upto (p o n c k : Nat) (hk : k ≤ c) (w : World) : (Instr.sliceAt 53 (.slice (some ⟨p, o, none⟩) n c) none (some (.int .i64 (k : Int))) none).run Try.prog w = .ok (.slice (some ⟨p, o, none⟩) k c) w := by
  have hu : Try.prog.underlying 53 = some (.slice (Try.prog.elem 53)) := by kernel_rfl
  have hs : (sizeOf (Try.prog.elem 53)).run Try.prog w = .ok 22 w := by kernel_rfl
  rw [run_sliceAt_slice _ _ _ _ _ _ hu, run_slice_h _ _ _ _ _ hu .i64 (k : Int) (by omega) (by omega), hs]
  show Result.ok _ _ = _
  unfold sliced
  simp only [Int.toNat_natCast, Nat.sub_zero, Nat.zero_mul]
  by_cases h : c = 0
  · rw [if_pos h]
  · rw [if_neg h]
    rfl
theorem RowG.from_ {w : World} {p o c : Nat} {L : List Fl} (h : RowG w (some ⟨p, o, none⟩) c L) (k : Nat) (hk : k ≤ L.length) : RowG w (subP p o c k) (c - k) (L.drop k) := by
  unfold subP
  split
  · have hl := h.le
    have e : L.drop k = [] := List.drop_eq_nil_of_le (by omega)
    rw [e]
    exact ⟨⟨fun _ _ => trivial, fun i q hi => by simp at hi⟩, h.lt, Nat.zero_le _, fun e => by cases e⟩
  · exact h.drop k hk
theorem setMany_sizeL : ∀ (vs : List Value) (cur : Array Value) (j : Nat), (setMany cur j vs).size = cur.size
  | [], cur, j => rfl
  | v :: vs, cur, j => by rw [setMany, setMany_sizeL vs]; simp
theorem setMany_atL : ∀ (vs : List Value) (cur : Array Value) (j i : Nat), (setMany cur j vs)[i]? = if j ≤ i ∧ i < j + vs.length ∧ i < cur.size then vs[i - j]? else cur[i]?
  | [], cur, j, i => by
    rw [setMany, if_neg (by simp; omega)]
  | v :: vs, cur, j, i => by
    rw [setMany, setMany_atL vs, Array.size_setIfInBounds, Array.getElem?_setIfInBounds]
    by_cases h1 : j + 1 ≤ i ∧ i < j + 1 + vs.length ∧ i < cur.size
    · rw [if_pos h1, if_pos (by simp; omega), show i - j = (i - (j + 1)) + 1 by omega, List.getElem?_cons_succ]
    · rw [if_neg h1]
      by_cases h2 : j = i
      · subst h2
        rw [if_pos rfl]
        by_cases h3 : j < cur.size
        · rw [if_pos h3, if_pos (by simp; omega)]
          simp
        · rw [if_neg h3, if_neg (by omega)]
          exact (Array.getElem?_eq_none (by omega)).symm
      · rw [if_neg h2, if_neg (by simp only [List.length_cons]; omega)]
theorem OwnL.put {w : World} {B g c : Nat} {l : List Fl} (h : OwnL w B (some ⟨g, 0, none⟩) c l) (k : Nat) (p : Fl) (hk : k < l.length) : ∃ cur, Blk w g 33 cur ∧ k * 22 + 22 ≤ cur.size ∧ B ≤ g ∧ OwnL (w.setRow g (setMany cur (k * 22) p.v.toList)) B (some ⟨g, 0, none⟩) c (l.set k p) := by
  obtain ⟨cur, hb, hs, hBg, hlc, hcm, hel⟩ := h.blk
  refine ⟨cur, hb, by omega, hBg, OwnL.mk' (hb.set _) (by rw [setMany_sizeL]; exact hs) hBg (by simpa using hlc) hcm (fun i q j hi hj => ?_)⟩
  rw [setMany_atL]
  by_cases e : i = k
  · subst e
    rw [List.getElem?_set_self hk] at hi
    cases hi
    rw [if_pos (by simp; omega), show i * 22 + j - i * 22 = j by omega]
    simp
  · rw [List.getElem?_set_ne (fun x => e x.symm)] at hi
    rw [if_neg (by simp; omega)]
    exact hel i q j hi hj
theorem OwnL.kept {w w' : World} {B : Nat} {a : Option Addr} {c : Nat} {l : List Fl} (h : OwnL w B a c l) (b : Below w.heap.size w w') : OwnL w' B a c l := h.below b
theorem OwnL.al {w w' : World} {B : Nat} {a : Option Addr} {c : Nat} {l : List Fl} {o : Obj} (h : OwnL w B a c l) (e : w.alloc o = w') : OwnL w' B a c l := h.below (bel_nw e)
theorem OwnL.drew {w : World} {B : Nat} {a : Option Addr} {c : Nat} {l : List Fl} (h : OwnL w B a c l) : OwnL w.drew B a c l := h.below (Below.refl _ _).drew
theorem OwnL.but {F : Nat → Prop} {w w' : World} {B : Nat} {a : Option Addr} {c : Nat} {l : List Fl} (h : OwnL w B a c l) (b : But F w w') (hn : ∀ y : Addr, a = some y → ¬ F y.block) : OwnL w' B a c l := h.at_ fun y hy => b.block y.block (h.lt_size y hy) (hn y hy)
theorem OwnL.other {w : World} {B g : Nat} {a : Option Addr} {c : Nat} {l : List Fl} (h : OwnL w B a c l) (hn : ∀ y : Addr, a = some y → y.block ≠ g) (cs : Array Value) : OwnL (w.setRow g cs) B a c l := h.but ((But.refl (fun k => k = g) w).setRow g (.inl rfl) cs) hn
theorem OwnL.put_other {w : World} {B g : Nat} {a : Option Addr} {c : Nat} {l : List Fl} {t : TypeId} {cs : Array Value} (h : OwnL w B a c l) (_ : Blk w g t cs) (hn : ∀ y : Addr, a = some y → y.block ≠ g) (i : Nat) (v : Value) : OwnL (w.setCell ⟨g, i, none⟩ v) B a c l := h.but ((But.refl (fun k => k = g) w).setCell g i (.inl rfl) v) hn
theorem run_storeVar_one {W : World} {g k : Nat} {t ty : TypeId} {cur : Array Value} (v : Value) (hv : v.cells = #[v]) (h1 : v.oneCell' = true) (h : Blk W g t cur) (hi : (Try.prog.info? ty).map (·.size) = some 1) (hl : k + 1 ≤ cur.size) :
    (storeVar ty ⟨g, k, none⟩ v).run Try.prog W = .ok () (W.setRow g (setMany cur k [v])) := by
  have := run_storeCells_off g k t [v] 0 cur W h (by simpa using hl) (by simpa using h1)
  cases hq : Try.prog.info? ty with
  | none => simp [hq] at hi
  | some i =>
    have hs : i.size = 1 := by simpa [hq] using hi
    simp [storeVar, sizeOf, typeInfo, hq, hv, hs, this]
theorem step_store_one {ops : Array Oper} {o : Oper} {ac : Act} {K : Act → World → Prop} {Q : Exit → Act → World → Prop} {Z : Prop} {w : World} (hgd : o.guard = none) (ty : TypeId) (p x : Operand) (ho : o.op = Op.store ty p x) (g k : Nat) (t : TypeId) (v : Value) (cur new : Array Value)
    (hp : ac.eval p = .pointer (some ⟨g, k, none⟩)) (hx : ac.eval x = v) (hv : v.cells = #[v]) (h1 : v.oneCell' = true) (hb : Blk w g t cur) (hi : (Try.prog.info? ty).map (·.size) = some 1) (hl : k + 1 ≤ cur.size) (hn : setMany cur k [v] = new) (h : K (ac.put o.dst undef) (w.setRow g new)) :
    if Region.wanted o (yielded ops ac.tmps) = true then Oper.wp Try.prog o ac w K Q else Z := by
  have hw : Region.wanted o (yielded ops ac.tmps) = true := by simp [Region.wanted, hgd]
  rw [if_pos hw]
  subst hn
  unfold Oper.wp execOp
  simp only [ho, hp, hx, Instr.storeAt, Instr.sureAddr, Sem.run_bind, Sem.run_pure, Result.andThen_ok, run_storeVar_one v hv h1 hb hi hl]
  exact h
theorem alloc_lt_x (w : World) (o : Obj) : w.heap.size < (w.alloc o).heap.size := by show w.heap.size < (w.heap.push o).size; rw [Array.size_push]; exact Nat.lt_succ_self _
theorem alloc_le_x (w : World) (o : Obj) : w.heap.size ≤ (w.alloc o).heap.size := Nat.le_of_lt (alloc_lt_x w o)
theorem OwnL.some_of {w : World} {B : Nat} {a : Option Addr} {c : Nat} {l : List Fl} (h : OwnL w B a c l) (hl : 0 < l.length) : ∃ lb, a = some ⟨lb, 0, none⟩ := by
  rcases h.2 with ⟨_, h6⟩ | ⟨g, cap', cur, h6, _⟩
  · omega
  · simp only [Value.slice.injEq] at h6
    exact ⟨g, h6.1⟩
theorem row_oneL {w : World} {g : Nat} {t : TypeId} {x : Fl} (h : Blk w g t x.v) : RowG w (some ⟨g, 0, none⟩) 1 [x] := ⟨⟨fun _ _ => trivial, fun i q hi => by
  obtain ⟨h1, rfl⟩ := List.getElem?_eq_some_iff.1 hi
  have h2 : i = 0 := by simpa using h1
  subst h2
  exact ⟨g, 0, rfl, h.lt, fun j v hj => by rw [Nat.zero_mul, Nat.add_zero, Nat.zero_add]; exact h.cell j v hj⟩⟩, fun y hy => by cases hy; exact h.lt, Nat.le_refl _, fun e => by cases e⟩
/-- The place of the flow whose way is one; -1. -/
def plc (q : Wy) (L : List Fl) : Int := match L.findIdx? (fun f => f.w.eqB q) with | some i => (i : Int) | none => -1
theorem plc_at {q : Wy} {L : List Fl} {k : Nat} {x : Fl} (hx : L[k]? = some x) (he : Wy.eqB x.w q = true) (hb : ∀ j f, j < k → L[j]? = some f → Wy.eqB f.w q = false) : plc q L = (k : Int) := by
  unfold plc
  obtain ⟨hk, rfl⟩ := List.getElem?_eq_some_iff.1 hx
  rw [(List.findIdx?_eq_some_iff_getElem (p := fun f : Fl => f.w.eqB q) (xs := L) (i := k)).2 ⟨hk, he, fun j hj => by
    have := hb j L[j] hj (List.getElem?_eq_getElem (by omega))
    simpa using this⟩]
theorem plc_none {q : Wy} {L : List Fl} (hb : ∀ j f, j < L.length → L[j]? = some f → Wy.eqB f.w q = false) : plc q L = -1 := by
  unfold plc
  rw [(List.findIdx?_eq_none_iff (p := fun f : Fl => f.w.eqB q) (xs := L)).2 fun f hf => by
    obtain ⟨j, hj, rfl⟩ := List.getElem_of_mem hf
    exact hb j _ hj (List.getElem?_eq_getElem hj)]
theorem plc_atF {q : Wy} {L : List Fl} : (∃ (k : Nat) (x : Fl), plc q L = (k : Int) ∧ L[k]? = some x ∧ atF q L = some x) ∨ (plc q L = -1 ∧ atF q L = none) := by
  unfold plc
  cases h : L.findIdx? (fun f => f.w.eqB q) with
  | none => exact .inr ⟨rfl, by unfold atF; rw [List.find?_eq_none]; intro f hf; have := List.findIdx?_eq_none_iff.1 h f hf; simpa using this⟩
  | some k =>
    obtain ⟨hk, he, hb⟩ := List.findIdx?_eq_some_iff_getElem.1 h
    refine .inl ⟨k, L[k], rfl, List.getElem?_eq_getElem hk, ?_⟩
    unfold atF
    rw [List.find?_eq_some_iff_getElem]
    exact ⟨he, k, hk, rfl, fun j hj => by simpa using hb j hj⟩
theorem wpList_rnLsR {ops : Array Oper} {rest : List Oper} {o : Oper} {ac : Act} {Q : Exit → Act → World → Prop} (w : World) (hgd : o.guard = none) (s x : Operand)
    (ho : o.op = .call { callee := .builtin .append, args := #[s, x], argTypes := #[53, 53] })
    (B : Nat) (a : Option Addr) (c : Nat) (xs : List Fl) (n : Nat) (hn : xs.length = n) (hs : ac.eval s = .slice a n c) (hown : OwnL w B a c xs) (b : Option Addr) (cc : Nat) (l : List Fl) (m : Nat) (hm : l.length = m) (hx : ac.eval x = .slice b m cc) (hrow : RowG w b cc l)
    (hsum : n + m ≤ 3000000) (hbase : B ≤ w.heap.size) (r : Nat) (hr : n + m = r)
    (h : ∀ a' c' w', OwnL w' B a' c' (xs ++ l) → w.grownBy w' (a.map (·.block)) → wpList Try.prog ops Q rest (ac.put o.dst (.slice a' r c')) w') : wpList Try.prog ops Q (o :: rest) ac w := by
  subst hr hn hm
  refine wpList_rnLs w hgd s x ho B a c xs _ _ rfl hs hown b cc l rfl hx hrow hsum hbase fun a' c' w' h1 h2 => ?_
  rw [List.length_append]
  exact h a' c' w' h1 h2
theorem wpList_slice {ops : Array Oper} {rest : List Oper} {o : Oper} {ac : Act} {Q : Exit → Act → World → Prop} (w : World) (hgd : o.guard = none) (t : TypeId) (x : Operand) (lo hi mx : Option Operand) (ho : o.op = Op.slice t x lo hi mx)
    (v : Value) (l h m : Option Value) (hx : ac.eval x = v) (hl : lo.map ac.eval = l) (hh : hi.map ac.eval = h) (hm : mx.map ac.eval = m) (r : Value) (hrun : ∀ w, (Instr.sliceAt t v l h m).run Try.prog w = .ok r w) (hk : wpList Try.prog ops Q rest (ac.put o.dst r) w) : wpList Try.prog ops Q (o :: rest) ac w := by
  subst hx hl hh hm
  refine wpList_plain hgd fun K hK => ?_
  unfold Oper.wp execOp
  simp only [ho]
  simp only [Sem.run_bind, Sem.run_pure, Result.andThen_ok, hrun]
  exact hK _ _ hk
theorem add_zero (x : Addr) (k : Nat) : (x.add k).block = x.block := by unfold Addr.add; split <;> rfl
theorem run_uptoG {w : World} {a : Option Addr} {c : Nat} {L : List Fl} (n k : Nat) (hk : k ≤ c) : ∃ b, (∀ W, (Instr.sliceAt 53 (.slice a n c) none (some (.int .i64 (k : Int))) none).run Try.prog W = .ok (.slice b k c) W) ∧ ∀ W, RowG W a c L → RowG W b c (L.take k) := by
  refine ⟨if c = 0 then a else a.map (·.add (0 * 22)), fun W => ?_, fun W h => ?_⟩
  · have hu : Try.prog.underlying 53 = some (.slice (Try.prog.elem 53)) := by kernel_rfl
    have hs : (sizeOf (Try.prog.elem 53)).run Try.prog W = .ok 22 W := by kernel_rfl
    rw [run_sliceAt_slice _ _ _ _ _ _ hu, run_slice_h _ _ _ _ _ hu .i64 (k : Int) (by omega) (by omega), hs]
    show Result.ok _ _ = _
    unfold sliced
    simp only [Int.toNat_natCast, Nat.sub_zero]
  · by_cases hc : c = 0
    · rw [if_pos hc]
      have hl := h.le
      have e : L.take k = L := List.take_of_length_le (by omega)
      rw [e]
      exact h
    · rw [if_neg hc]
      refine ⟨⟨fun _ _ => trivial, fun i q hi => ?_⟩, fun y hy => ?_, by rw [List.length_take]; have := h.le; omega, fun e => ?_⟩
      · rw [List.getElem?_take] at hi
        split at hi
        · obtain ⟨p, o, e, hcc⟩ := h.row.cells i q hi
          refine ⟨p, o, ?_, hcc⟩
          rw [e]
          show some ((⟨p, o, none⟩ : Addr).add (0 * 22)) = _
          rw [Go.WideShapes.add_plain]
          rfl
        · cases hi
      · cases ha : a with
        | none => rw [ha] at hy; cases hy
        | some z =>
          rw [ha] at hy
          injection hy with hy
          rw [← hy, add_zero]
          exact h.lt z ha
      · cases ha : a with
        | none => exact h.nil ha
        | some z => rw [ha] at e; cases e
theorem run_fromG {w : World} {a : Option Addr} {c : Nat} {L : List Fl} (n k : Nat) (hk : k ≤ n) (hL : L.length = n) : ∃ b, (∀ W, (Instr.sliceAt 53 (.slice a n c) (some (.int .i64 (k : Int))) none none).run Try.prog W = .ok (.slice b (n - k) (c - k)) W) ∧ ∀ W, RowG W a c L → RowG W b (c - k) (L.drop k) := by
  refine ⟨if c = k then a else a.map (·.add (k * 22)), fun W => ?_, fun W h => ?_⟩
  · have hu : Try.prog.underlying 53 = some (.slice (Try.prog.elem 53)) := by kernel_rfl
    have hs : (sizeOf (Try.prog.elem 53)).run Try.prog W = .ok 22 W := by kernel_rfl
    rw [run_sliceAt_slice _ _ _ _ _ _ hu, run_slice_l _ _ _ _ _ hu .i64 (k : Int) (by omega) (by omega), hs]
    show Result.ok _ _ = _
    unfold sliced
    simp only [Int.toNat_natCast]
  · have hl := h.le
    by_cases hc : c = k
    · rw [if_pos hc]
      have e : L.drop k = [] := List.drop_eq_nil_of_le (by omega)
      rw [e]
      exact ⟨⟨fun _ _ => trivial, fun i q hi => by simp at hi⟩, h.lt, Nat.zero_le _, fun e => by have := h.nil e; omega⟩
    · rw [if_neg hc]
      refine ⟨⟨fun _ _ => trivial, fun i q hi => ?_⟩, fun y hy => ?_, by rw [List.length_drop]; omega, fun e => ?_⟩
      · rw [List.getElem?_drop] at hi
        obtain ⟨p, o, e, hcc⟩ := h.row.cells (k + i) q hi
        refine ⟨p, o + k * 22, ?_, ?_⟩
        · rw [e]
          show some ((⟨p, o, none⟩ : Addr).add (k * 22)) = _
          rw [Go.WideShapes.add_plain]
        · have e2 : o + k * 22 + i * 22 = o + (k + i) * 22 := by omega
          rw [e2]
          exact hcc
      · cases ha : a with
        | none => rw [ha] at hy; cases hy
        | some z =>
          rw [ha] at hy
          injection hy with hy
          rw [← hy, add_zero]
          exact h.lt z ha
      · cases ha : a with
        | none => have := h.nil ha; omega
        | some z => rw [ha] at e; cases e
/-- The document's table in memory. -/
structure DocF (w : World) (rb : Nat) (s : Ft) (a : Option Addr) (c : Nat) : Prop where
  tab : Blk w rb 55 (docV s a c)
  row : RowG w a c s.L
  ne : ∀ y : Addr, a = some y → y.block ≠ rb
/-- The document's table behind a call: its list is the one that was, or new. -/
def DocNF (sz : Nat) (a : Option Addr) (w : World) (rb : Nat) (s : Ft) : Prop := ∃ a' c', DocF w rb s a' c' ∧ ∀ y : Addr, a' = some y → a = some y ∨ sz ≤ y.block
theorem del_at {L : List Fl} (hs : SortF L) {k : Nat} {x : Fl} (hx : L[k]? = some x) : delF x.w L = L.take k ++ L.drop (k + 1) := by
  rw [← List.eraseIdx_eq_take_drop_succ]
  obtain ⟨hk, rfl⟩ := List.getElem?_eq_some_iff.1 hx
  unfold delF
  have hs := List.pairwise_iff_getElem.1 hs
  clear hx
  have e1 : L = L.take k ++ L[k] :: L.drop (k + 1) := by rw [List.getElem_cons_drop, List.take_append_drop]
  have e2 : L.eraseIdx k = L.take k ++ L.drop (k + 1) := List.eraseIdx_eq_take_drop_succ ..
  rw [e2]
  generalize hw : L[k].w = q
  have e3 := congrArg (List.filter fun g : Fl => !g.w.eqB q) e1
  rw [e3, List.filter_append, List.filter_cons, if_neg (by rw [hw]; simp [(Wy.eqB_iff q q).2 rfl])]
  congr 1
  · refine List.filter_eq_self.2 fun p hp => ?_
    obtain ⟨j, hj, rfl⟩ := List.getElem_of_mem hp
    rw [List.length_take] at hj
    have := hs j k (by omega) hk (by omega)
    have h2 := order_lt_ne this
    rw [List.getElem_take]
    rw [hw] at h2
    simp [eqB_false.2 h2]
  · refine List.filter_eq_self.2 fun p hp => ?_
    obtain ⟨j, hj, rfl⟩ := List.getElem_of_mem hp
    rw [List.length_drop] at hj
    have := hs k (k + 1 + j) hk (by omega) (by omega)
    have h2 := order_lt_ne this
    rw [List.getElem_drop]
    rw [hw] at h2
    simp [eqB_false.2 (fun e => h2 e.symm)]
theorem ins_at {f : Fl} : ∀ {L : List Fl} {i : Nat}, i ≤ L.length → (∀ j g, j < i → L[j]? = some g → g.w.order f.w < 0) → (∀ g, L[i]? = some g → ¬ g.w.order f.w < 0) → insF f L = L.take i ++ f :: L.drop i
  | [], i, hi, _, _ => by
    have : i = 0 := by simpa using hi
    subst this
    rfl
  | g :: r, 0, _, _, h2 => by
    unfold insF
    rw [if_neg (h2 g rfl)]
    rfl
  | g :: r, i + 1, hi, h1, h2 => by
    unfold insF
    rw [if_pos (h1 0 g (by omega) rfl), ins_at (i := i) (by simpa using hi) (fun j q hj hq => h1 (j + 1) q (by omega) (by simpa using hq)) (fun q hq => h2 q (by simpa using hq))]
    rfl
theorem put_bad {s : Ft} {f : Fl} (h : f.right = false) : s.put f = (s, 1) := by unfold Ft.put; rw [h]; rfl
theorem put_late {s : Ft} {f : Fl} (h : decide (f.ends ≤ s.now) = true) : s.put f = (s, 1) := by
  unfold Ft.put
  have : decide (s.now < f.ends) = false := by have := of_decide_eq_true h; simpa using this
  rw [this]
  simp
theorem put_go {s : Ft} {f : Fl} (h : f.right = true) (h2 : decide (f.ends ≤ s.now) = false) : (!(f.right && decide (s.now < f.ends))) = false := by
  have : decide (s.now < f.ends) = true := by have := of_decide_eq_false h2; simp; omega
  rw [h, this]; rfl
theorem put_found {s : Ft} (ho : FtOk s) {f x : Fl} {k : Nat} (h : f.right = true) (h2 : decide (f.ends ≤ s.now) = false) (ha : atF f.w s.L = some x) (hx : s.L[k]? = some x) : s.put f = (⟨s.most, s.now, s.L.set k f⟩, 0) := by
  unfold Ft.put
  rw [put_go h h2, ha]
  simp only [Bool.false_eq_true, if_false, Option.isSome_some, if_true]
  rw [set_eq_set ho.sorted ⟨x, hx, (atF_some ha).2⟩]
theorem put_there {s : Ft} {f x : Fl} (h : f.right = true) (h2 : decide (f.ends ≤ s.now) = false) (ha : atF f.w s.L = none) (hb : atF f.w.rev s.L = some x) : s.put f = (s, 15) := by
  unfold Ft.put
  rw [put_go h h2, ha, hb]; rfl
theorem put_full {s : Ft} {f : Fl} (h : f.right = true) (h2 : decide (f.ends ≤ s.now) = false) (ha : atF f.w s.L = none) (hb : atF f.w.rev s.L = none) (h3 : s.most ≤ (s.L.length : Int)) : s.put f = (s, 12) := by
  unfold Ft.put
  rw [put_go h h2, ha, hb]
  simp only [Bool.false_eq_true, if_false, Option.isSome_none]
  exact if_pos h3
theorem put_ins {s : Ft} {f : Fl} {i : Nat} (h : f.right = true) (h2 : decide (f.ends ≤ s.now) = false) (ha : atF f.w s.L = none) (hb : atF f.w.rev s.L = none) (h3 : ¬ s.most ≤ (s.L.length : Int)) (hi : i ≤ s.L.length) (h4 : ∀ j g, j < i → s.L[j]? = some g → g.w.order f.w < 0) (h5 : ∀ g, s.L[i]? = some g → ¬ g.w.order f.w < 0) : s.put f = (⟨s.most, s.now, s.L.take i ++ [f] ++ s.L.drop i⟩, 0) := by
  unfold Ft.put
  rw [put_go h h2, ha, hb]
  simp only [Bool.false_eq_true, if_false, Option.isSome_none]
  rw [if_neg h3, ins_at hi h4 h5, List.append_assoc]
  rfl
theorem drop_one {s : Ft} (ho : FtOk s) {q : Wy} {x : Fl} {k : Nat} (ha : atF q s.L = some x) (hx : s.L[k]? = some x) : s.drop q = (⟨s.most, s.now, s.L.take k ++ s.L.drop (k + 1)⟩, true) := by
  unfold Ft.drop
  rw [ha]
  simp only [Option.isSome_some, if_true]
  rw [← (atF_some ha).2, del_at ho.sorted hx]
theorem drop_two {s : Ft} (ho : FtOk s) {q : Wy} {x : Fl} {k : Nat} (h0 : atF q s.L = none) (ha : atF q.rev s.L = some x) (hx : s.L[k]? = some x) : s.drop q = (⟨s.most, s.now, s.L.take k ++ s.L.drop (k + 1)⟩, true) := by
  unfold Ft.drop
  rw [h0, ha]
  simp only [Option.isSome_none, Bool.false_eq_true, if_false, Option.isSome_some, if_true]
  rw [← (atF_some ha).2, del_at ho.sorted hx]
theorem drop_none {s : Ft} {q : Wy} (h0 : atF q s.L = none) (h1 : atF q.rev s.L = none) : s.drop q = (s, false) := by
  unfold Ft.drop
  rw [h0, h1]; rfl
end Go.Proofs.Ytmjjdbkipagkbaa
