/- Texts joined: RfA CkN -/
import Derived.Test.YtmfgjicfdjjihaaGreatDoorLxa12
import Derived.Deep.AppendLies
namespace Go.Proofs.YtmfgjicfdjjihaaGreatDoor
open Go.RowKit
set_option linter.unusedVariables false
set_option linter.unusedSimpArgs false
theorem info_set : (Tryz.prog.info? 99).map (fun i => (i.zero, i.size, i.bytes)) = some (some (.int .u64 0), 1, 8) := by kernel_rfl
theorem info_sets : (Tryz.prog.info? 93).map (fun i => (i.zero, i.size, i.bytes)) = some (some (.slice none 0 0), 1, 24) := by kernel_rfl
abbrev zc3 : Array Value := #[.slice none 0 0, .slice none 0 0, .slice none 0 0]
abbrev zx3 : Array Value := #[.int .i64 0, .slice none 0 0, .slice none 0 0]
theorem info_chunk : (Tryz.prog.info? 63).map (fun i => (i.zero, i.size, i.bytes)) = some (some (.agg zc3), 3, 72) := by kernel_rfl
theorem info_cross : (Tryz.prog.info? 60).map (fun i => (i.zero, i.size, i.bytes)) = some (some (.agg zx3), 3, 56) := by kernel_rfl
/-- A slice of numbers without a sign, as it is read. -/
structure RowU (w : World) (a : Option Addr) (l : List Nat) : Prop where
 small : l.length ≤ 17592186044416
 cells : 0 < l.length → ∃ b off, a = some ⟨b, off, none⟩ ∧ ∀ i, i < l.length → w.cell? ⟨b, off + i, none⟩ = some (.int .u64 ((l.getD i 0 : Nat) : Int))
theorem RowU.below {w w' : World} {a : Option Addr} {l : List Nat} (h : RowU w a l) (hb : Below w.heap.size w w') : RowU w' a l :=
 ⟨h.small, fun hl => by
  obtain ⟨b, off, ha, hc⟩ := h.cells hl
  exact ⟨b, off, ha, fun i hi => (hb.cell (World.block_lt_of_cell? w _ (hc i hi))).trans (hc i hi)⟩⟩
/-- A slice of numbers without a sign of one's own. -/
def OwnU (w : World) (B : Nat) (a : Option Addr) (c : Nat) (l : List Nat) : Prop := w.ownsRow B 99 1 (.slice a l.length c) l.length (l.map fun i : Nat => Value.int .u64 (i : Int))
theorem OwnU.nil (w : World) (B : Nat) : OwnU w B none 0 [] := World.ownsRow_nil _ _ _ _
theorem OwnU.below {w w' : World} {B : Nat} {a : Option Addr} {c : Nat} {l : List Nat} (h : OwnU w B a c l) (hb : Below w.heap.size w w') : OwnU w' B a c l := ownsRow_low h hb
theorem OwnU.row {w : World} {B : Nat} {a : Option Addr} {c : Nat} {l : List Nat} (h : OwnU w B a c l) (hs : l.length ≤ 17592186044416) : RowU w a l := by
 refine ⟨hs, fun hp => ?_⟩
 have h0 := h
 obtain ⟨h1, h2⟩ := h
 rcases h2 with ⟨h3, h4⟩ | ⟨g, cap, cur, h3, h4, h5, h6, h7, h8, h9⟩
 ·omega
 ·simp only [Value.slice.injEq] at h3
  obtain ⟨rfl, _, rfl⟩ := h3
  refine ⟨g, 0, rfl, fun i hi => ?_⟩
  have hc := World.ownsRow.cellAt (e := 99) (size := 1) h0 i (by omega)
  rw [Nat.zero_add, hc]
  simp [hi]
/-- append(v, x) of one element, whose cells lie in a block: told by one run. -/
theorem run_app1 (w : World) (ts ty e : TypeId) (z : Value) (k bytes : Nat) (hu : Tryz.prog.underlying ts = some (.slice e)) (hinfo : (Tryz.prog.info? e).map (fun i => (i.zero, i.size, i.bytes)) = some (some z, k, bytes)) (hzs : z.cells.size = k) (hk : 0 < k)
  (B : Nat) (a : Option Addr) (c n : Nat) (xs : List Value) (hown : w.ownsRow B e k (.slice a n c) n xs) (g0 cc : Nat) (t0 : TypeId) (y : Array Value) (hy : Blk w g0 t0 y) (hys : y.size = k) (hone : ∀ u ∈ y.toList, u.oneCell' = true) (hn : (n + 1) * bytes ≤ 140737488355328) (h63 : n + 1 ≤ 1000000) (hB : B ≤ w.heap.size) :
  ∃ g c' w', (Builtin.append_ #[ts, ts] ty #[.slice a n c, .slice (some ⟨g0, 0, none⟩) 1 cc]).run Tryz.prog w = .ok (.slice (some ⟨g, 0, none⟩) (n + 1) c') w' ∧ w'.ownsRow B e k (.slice (some ⟨g, 0, none⟩) (n + 1) c') (n + 1) (xs ++ y.toList) ∧ w.grownBy w' (a.map (·.block)) ∧ (a.map (·.block) = some g ∨ g = w.heap.size) ∧ Below B w w' := by
 obtain ⟨i0, hi, hz0, hz1, hz2⟩ := info_parts hinfo
 obtain ⟨g, cap, w', h1, h2, h3, h4, h5⟩ := run_append_lies (P := Tryz.prog) w ts ty B e i0 z k bytes hu hi hz0 hz1 hz2 hzs hk (.slice a n c) n xs hown ⟨g0, 0, none⟩ 1 cc y.toList (by simp [hys]) (World.news_of_block hy) hone (by decide) (by unfold maxLen; omega) hn hB _ rfl
 rw [slice_blk] at h3 h4
 refine ⟨g, cap, w', h1, h2, h3, h4, (Below.refl _ _).grown h3 hB fun j hj => ?_⟩
 obtain ⟨q1, q2⟩ := hown
 rcases q2 with ⟨q2, _⟩ | ⟨g', cap', cur, q3, q4, q5, q6⟩
 ·cases q2; cases hj
 ·cases q3; cases hj; exact q4
theorem wp_rn {o : Oper} {ac : Act} {K : Act → World → Prop} {Q : Exit → Act → World → Prop} {w : World} (t : TypeId) (s x : Operand)
  (ho : o.op = .call { callee := .builtin .append, args := #[s, x], argTypes := #[t, t] }) (v1 v2 : Value) (hs : ac.eval s = v1) (hx : ac.eval x = v2) (r : Value) (w' : World)
  (hrun : (Builtin.append_ #[t, t] o.type #[v1, v2]).run Tryz.prog w = .ok r w') (h : K (ac.put o.dst r) w') : Oper.wp Tryz.prog o ac w K Q := by
 unfold Oper.wp execOp
 simp only [ho, resolve, invoke, builtin, Sem.run_bind, Sem.run_pure, Result.andThen_ok, List.map_toArray, List.map_cons, List.map_nil, hs, hx, hrun]
 exact h
theorem wpList_rn {ops : Array Oper} {rest : List Oper} {o : Oper} {ac : Act} {Q : Exit → Act → World → Prop} {w : World} (hgd : o.guard = none) (t : TypeId) (s x : Operand)
  (ho : o.op = .call { callee := .builtin .append, args := #[s, x], argTypes := #[t, t] }) (v1 v2 : Value) (hs : ac.eval s = v1) (hx : ac.eval x = v2) (r : Value) (w' : World)
  (hrun : (Builtin.append_ #[t, t] o.type #[v1, v2]).run Tryz.prog w = .ok r w') (h : wpList Tryz.prog ops Q rest (ac.put o.dst r) w') : wpList Tryz.prog ops Q (o :: rest) ac w :=
 wpList_plain hgd fun K hK => wp_rn t s x ho v1 v2 hs hx r w' hrun (hK _ _ h)
theorem step_rn {ops : Array Oper} {o : Oper} {ac : Act} {K : Act → World → Prop} {Q : Exit → Act → World → Prop} {Z : Prop} {w : World} (hgd : o.guard = none) (t : TypeId) (s x : Operand)
  (ho : o.op = .call { callee := .builtin .append, args := #[s, x], argTypes := #[t, t] }) (v1 v2 : Value) (hs : ac.eval s = v1) (hx : ac.eval x = v2) (r : Value) (w' : World)
  (hrun : (Builtin.append_ #[t, t] o.type #[v1, v2]).run Tryz.prog w = .ok r w') (h : K (ac.put o.dst r) w') : if Region.wanted o (yielded ops ac.tmps) = true then Oper.wp Tryz.prog o ac w K Q else Z := by
 have hw : Region.wanted o (yielded ops ac.tmps) = true := by simp [Region.wanted, hgd]
 rw [if_pos hw]
 exact wp_rn t s x ho v1 v2 hs hx r w' hrun h
/-- append(v, x) of one place, by one run. -/
theorem run_appI1 (w : World) (ty : TypeId) (B : Nat) (a : Option Addr) (c : Nat) (xs : List Nat) (hown : OwnI w B a c xs) (g0 cc y : Nat) (t0 : TypeId) (hy : Blk w g0 t0 #[.int .i64 (y : Int)]) (h63 : xs.length + 1 ≤ 1000000) (hB : B ≤ w.heap.size) :
  ∃ g c' w', (Builtin.append_ #[24, 24] ty #[.slice a xs.length c, .slice (some ⟨g0, 0, none⟩) 1 cc]).run Tryz.prog w = .ok (.slice (some ⟨g, 0, none⟩) (xs.length + 1) c') w' ∧ OwnI w' B (some ⟨g, 0, none⟩) c' (xs ++ [y]) ∧ w.grownBy w' (a.map (·.block)) ∧ (a.map (·.block) = some g ∨ g = w.heap.size) ∧ Below B w w' := by
 obtain ⟨g, c', w', h1, h2, h3, h4, h5⟩ := run_app1 w 24 ty 3 (.int .i64 0) 1 8 Tryz.underlying24 info_int rfl (by decide) B a c xs.length _ hown g0 cc t0 _ hy rfl (by intro u hu; simp at hu; rw [hu]; rfl) (by omega) h63 hB
 refine ⟨g, c', w', h1, ?_, h3, h4, h5⟩
 unfold OwnI
 rw [List.length_append, List.map_append]
 exact h2
/-- append(v, x) of one number without a sign, by one run. -/
theorem run_appU1 (w : World) (ty : TypeId) (B : Nat) (a : Option Addr) (c : Nat) (xs : List Nat) (hown : OwnU w B a c xs) (g0 cc y : Nat) (t0 : TypeId) (hy : Blk w g0 t0 #[.int .u64 (y : Int)]) (h63 : xs.length + 1 ≤ 1000000) (hB : B ≤ w.heap.size) :
  ∃ g c' w', (Builtin.append_ #[93, 93] ty #[.slice a xs.length c, .slice (some ⟨g0, 0, none⟩) 1 cc]).run Tryz.prog w = .ok (.slice (some ⟨g, 0, none⟩) (xs.length + 1) c') w' ∧ OwnU w' B (some ⟨g, 0, none⟩) c' (xs ++ [y]) ∧ w.grownBy w' (a.map (·.block)) ∧ (a.map (·.block) = some g ∨ g = w.heap.size) ∧ Below B w w' := by
 obtain ⟨g, c', w', h1, h2, h3, h4, h5⟩ := run_app1 w 93 ty 99 (.int .u64 0) 1 8 Tryz.underlying93 info_set rfl (by decide) B a c xs.length _ hown g0 cc t0 _ hy rfl (by intro u hu; simp at hu; rw [hu]; rfl) (by omega) h63 hB
 refine ⟨g, c', w', h1, ?_, h3, h4, h5⟩
 unfold OwnU
 rw [List.length_append, List.map_append]
 exact h2
/-- w' is w but for blocks of some kinds, and new ones. -/
structure Tc (T : TypeId → Bool) (w w' : World) : Prop where
 size : w.heap.size ≤ w'.heap.size
 block : ∀ (g : Nat) (cs : Array Value) (t : TypeId) (fz : Nat × Nat), w.heap[g]? = some (.cells cs t fz) → T t = false → w'.heap[g]? = w.heap[g]?
theorem Tc.refl (T : TypeId → Bool) (w : World) : Tc T w w := ⟨Nat.le_refl _, fun _ _ _ _ _ _ => rfl⟩
theorem Tc.trans {T : TypeId → Bool} {a b c : World} (h : Tc T a b) (k : Tc T b c) : Tc T a c :=
 ⟨Nat.le_trans h.size k.size, fun g cs t fz hg ht => by
  have h1 := h.block g cs t fz hg ht
  rw [k.block g cs t fz (by rw [h1]; exact hg) ht, h1]⟩
theorem Tc.of_below (T : TypeId → Bool) {w w' : World} (h : Below w.heap.size w w') : Tc T w w' := ⟨h.size, fun g cs t fz hg _ => h.block g (Array.getElem?_eq_some_iff.1 hg).1⟩
theorem Tc.of_grown {T : TypeId → Bool} {w w' : World} {x : Option Nat} (h : w.grownBy w' x) (hx : ∀ g, x = some g → ∃ cs t, Blk w g t cs ∧ T t = true) : Tc T w w' :=
 ⟨h.size, fun g cs t fz hg ht => h.block g (Array.getElem?_eq_some_iff.1 hg).1 (fun e => by
  obtain ⟨cs', t', h1, h2⟩ := hx g e.symm
  have h1 : w.heap[g]? = some (.cells cs' t' (0, 0)) := h1
  rw [hg] at h1
  simp only [Option.some.injEq, Obj.cells.injEq] at h1
  rw [h1.2.1, h2] at ht
  cases ht)⟩
theorem Tc.of_own {T : TypeId → Bool} {w w' : World} {a : Option Addr} {B n c k : Nat} {t : TypeId} {xs : List Value} (h : w.grownBy w' (a.map (·.block))) (ho : w.ownsRow B t k (.slice a n c) n xs) (ht : T t = true) : Tc T w w' :=
 Tc.of_grown h fun g e => by
  rw [← slice_blk a n c] at e
  obtain ⟨cs, hb⟩ := ownsRow_blk ho e
  exact ⟨cs, t, hb, ht⟩
theorem Tc.set {T : TypeId → Bool} {w : World} {g : Nat} {t : TypeId} {cs : Array Value} (h : Blk w g t cs) (ht : T t = true) (cs' : Array Value) : Tc T w (w.setRow g cs') :=
 ⟨by simp [World.setRow], fun k cs1 t1 fz hk h1 => by
  have hne : k ≠ g := fun e => by
   subst e
   have h2 : w.heap[k]? = some (.cells cs t (0, 0)) := h
   rw [hk] at h2
   simp only [Option.some.injEq, Obj.cells.injEq] at h2
   rw [h2.2.1, ht] at h1
   cases h1
  exact setRow_heap_ne w g k cs' hne⟩
theorem Tc.mono {T T' : TypeId → Bool} {w w' : World} (h : Tc T w w') (hT : ∀ t, T t = true → T' t = true) : Tc T' w w' :=
 ⟨h.size, fun g cs t fz hg ht => h.block g cs t fz hg (by
  cases e : T t with
  | false => rfl
  | true => rw [hT t e] at ht; cases ht)⟩
theorem ownsRow_tc {T : TypeId → Bool} {w w' : World} {B : Nat} {t : TypeId} {k n : Nat} {v : Value} {xs : List Value} (h : w.ownsRow B t k v n xs) (hb : Tc T w w') (ht : T t = false) : w'.ownsRow B t k v n xs := by
 obtain ⟨h1, h2⟩ := h
 refine ⟨h1, ?_⟩
 rcases h2 with h2 | ⟨g, cap, cur, h3, h4, h5, h6⟩
 ·exact .inl h2
 ·exact .inr ⟨g, cap, cur, h3, h4, (hb.block g _ _ _ h5 ht).trans h5, h6⟩
theorem Blk.tc {T : TypeId → Bool} {w w' : World} {g : Nat} {t : TypeId} {cs : Array Value} (h : Blk w g t cs) (hb : Tc T w w') (ht : T t = false) : Blk w' g t cs := (hb.block g _ _ _ h ht).trans h
theorem SetsO.tc {T : TypeId → Bool} {w w' : World} {B : Nat} {a : Option Addr} {c : Nat} {S : List (List Nat)} {vs : List Value} (h : SetsO w B a c S vs) (hb : Tc T w w') (h1 : T 24 = false) (h2 : T 3 = false) : SetsO w' B a c S vs :=
 ⟨ownsRow_tc h.row hb h1, fun i s hi => by
  obtain ⟨ai, ci, e1, e2⟩ := h.each i s hi
  exact ⟨ai, ci, e1, ownsRow_tc e2 hb h2⟩⟩
abbrev zc : Array Value := #[.slice none 0 0, .slice none 0 0, .slice none 0 0]
/-- What lies in memory while Cut gathers its sets. -/
structure CutI (B : Nat) (w : World) (g4 g6 : Nat) (cur : Array Value) (g1 c1 : Nat) (L : List Pt) (ka : Option Addr) (kc : Nat) (K : List Nat) (sa : Option Addr) (sc : Nat) (S : List (List Nat)) (vs : List Value) : Prop where
 res : Blk w g4 63 zc
 pcs : Blk w g6 121 cur
 sts : OwnP w B (some ⟨g1, 0, none⟩) c1 L
 cls : OwnI w B ka kc K
 set : SetsO w B sa sc S vs
 apt : ∀ (i : Nat) (s : List Nat) (ai : Option Addr) (ci : Nat), S[i]? = some s → vs[i]? = some (Value.slice ai s.length ci) → ∀ y, ai = some y → ka.map (·.block) ≠ some y.block
theorem CutI.below {B : Nat} {w w' : World} {g4 g6 : Nat} {cur : Array Value} {g1 c1 : Nat} {L : List Pt} {ka : Option Addr} {kc : Nat} {K : List Nat} {sa : Option Addr} {sc : Nat} {S : List (List Nat)} {vs : List Value}
  (h : CutI B w g4 g6 cur g1 c1 L ka kc K sa sc S vs) (hb : Below w.heap.size w w') : CutI B w' g4 g6 cur g1 c1 L ka kc K sa sc S vs :=
 ⟨h.res.kept hb, h.pcs.kept hb, h.sts.below hb, h.cls.below hb, h.set.below hb, h.apt⟩
theorem OwnP.far {w w' : World} {B : Nat} {a : Option Addr} {c : Nat} {l : List Pt} {x : Option Nat} (h : OwnP w B a c l) (hg : w.grownBy w' x) (hx : ∀ y, a = some y → x ≠ some y.block) : OwnP w' B a c l :=
 ownsRow_far h hg (fun g e => by
  rw [slice_blk] at e
  cases a with
  | none => cases e
  | some y =>
   cases e
   exact hx y rfl)
theorem OwnP.typed {w : World} {B g c : Nat} {l : List Pt} (h : OwnP w B (some ⟨g, 0, none⟩) c l) : ∃ cur, Blk w g 86 cur := by
 obtain ⟨cur, hb, _⟩ := h.blk
 exact ⟨cur, hb⟩
theorem OwnI.typed {w : World} {B : Nat} {a : Option Addr} {c : Nat} {l : List Nat} (h : OwnI w B a c l) {y : Addr} (hy : a = some y) : ∃ cur, Blk w y.block 3 cur :=
 ownsRow_blk h (by rw [slice_blk, hy]; rfl)
theorem OwnI.off {w : World} {B : Nat} {a : Option Addr} {c : Nat} {l : List Nat} (h : OwnI w B a c l) {g : Nat} {t : TypeId} {cs : Array Value} (hb : Blk w g t cs) (ht : 3 ≠ t) : a.map (·.block) ≠ some g := by
 have := ownsRow_off h hb ht
 rwa [slice_blk] at this
theorem SetsO.off {w : World} {B : Nat} {a : Option Addr} {c : Nat} {S : List (List Nat)} {vs : List Value} (h : SetsO w B a c S vs) {g : Nat} {t : TypeId} {cs : Array Value} (hb : Blk w g t cs) (ht : 24 ≠ t) : a.map (·.block) ≠ some g := by
 have := ownsRow_off h.row hb ht
 rwa [slice_blk] at this
theorem SetsO.typed {w : World} {B : Nat} {a : Option Addr} {c : Nat} {S : List (List Nat)} {vs : List Value} (h : SetsO w B a c S vs) {g : Nat} (hy : a.map (·.block) = some g) : ∃ cur, Blk w g 24 cur :=
 ownsRow_blk h.row (by rw [slice_blk, hy])
/-- A block of another kind, or apart, is written. -/
theorem CutI.grown {B : Nat} {w w' : World} {g4 g6 : Nat} {cur : Array Value} {g1 c1 : Nat} {L : List Pt} {ka : Option Addr} {kc : Nat} {K : List Nat} {sa : Option Addr} {sc : Nat} {S : List (List Nat)} {vs : List Value} {x : Option Nat}
  (h : CutI B w g4 g6 cur g1 c1 L ka kc K sa sc S vs) (hg : w.grownBy w' x) (x4 : x ≠ some g4) (x6 : x ≠ some g6) (x1 : x ≠ some g1) (xk : ∀ g, ka.map (·.block) = some g → x ≠ some g) (xs : ∀ g, sa.map (·.block) = some g → x ≠ some g)
  (xi : ∀ (i : Nat) (s : List Nat) (ai : Option Addr) (ci : Nat), S[i]? = some s → vs[i]? = some (Value.slice ai s.length ci) → ∀ y, ai = some y → x ≠ some y.block) : CutI B w' g4 g6 cur g1 c1 L ka kc K sa sc S vs :=
 ⟨h.res.far hg x4, h.pcs.far hg x6, h.sts.far hg (fun y hy => by cases hy; exact x1), h.cls.far hg (fun y hy => xk _ (by rw [hy]; rfl)), h.set.far hg (by
  cases hsa : sa.map (·.block) with
  | none => exact .inl rfl
  | some g => exact .inr (xs g hsa)) xi, h.apt⟩
theorem CutI.inner {B : Nat} {w : World} {g4 g6 : Nat} {cur : Array Value} {g1 c1 : Nat} {L : List Pt} {ka : Option Addr} {kc : Nat} {K : List Nat} {sa : Option Addr} {sc : Nat} {S : List (List Nat)} {vs : List Value}
  (h : CutI B w g4 g6 cur g1 c1 L ka kc K sa sc S vs) {i : Nat} {s : List Nat} {ai : Option Addr} {ci : Nat} (hi : S[i]? = some s) (hv : vs[i]? = some (Value.slice ai s.length ci)) {y : Addr} (hy : ai = some y) : ∃ cur, Blk w y.block 3 cur := by
 obtain ⟨ai', ci', h1, h2⟩ := h.set.each i s hi
 rw [hv] at h1
 cases h1
 exact h2.typed hy
theorem grown_setRow (w : World) (g : Nat) (cs : Array Value) : w.grownBy (w.setRow g cs) (some g) :=
 ⟨rfl, rfl, rfl, by simp [World.setRow], fun k hk hne => setRow_heap_ne w g k cs (fun e => hne (by rw [e]))⟩
/-- The block of the answer is written. -/
theorem CutI.wrote {B : Nat} {w : World} {g4 g6 : Nat} {cur : Array Value} {g1 c1 : Nat} {L : List Pt} {ka : Option Addr} {kc : Nat} {K : List Nat} {sa : Option Addr} {sc : Nat} {S : List (List Nat)} {vs : List Value}
  (h : CutI B w g4 g6 cur g1 c1 L ka kc K sa sc S vs) {g9 : Nat} {v9 : Array Value} (hb : Blk w g9 63 v9) (h4 : g9 ≠ g4) (cs : Array Value) : CutI B (w.setRow g9 cs) g4 g6 cur g1 c1 L ka kc K sa sc S vs := by
 refine h.grown (grown_setRow w g9 cs) (by simpa using h4) ?_ ?_ ?_ ?_ ?_
 ·intro e
  cases e
  exact absurd (hb.ty h.pcs) (by decide)
 ·intro e
  cases e
  obtain ⟨c', hc⟩ := h.sts.typed
  exact absurd (hb.ty hc) (by decide)
 ·intro g hg e
  cases e
  exact h.cls.off hb (by decide) hg
 ·intro g hg e
  cases e
  exact h.set.off hb (by decide) hg
 ·intro i s ai ci hi hv y hy e
  cases e
  obtain ⟨c', hc⟩ := h.inner hi hv hy
  exact absurd (hb.ty hc) (by decide)
/-- The answer is stored. -/
theorem CutI.ended {B : Nat} {w : World} {g4 g6 : Nat} {cur : Array Value} {g1 c1 : Nat} {L : List Pt} {ka : Option Addr} {kc : Nat} {K : List Nat} {sa : Option Addr} {sc : Nat} {S : List (List Nat)} {vs : List Value}
  (h : CutI B w g4 g6 cur g1 c1 L ka kc K sa sc S vs) (cs : Array Value) : OwnP (w.setRow g4 cs) B (some ⟨g1, 0, none⟩) c1 L ∧ OwnI (w.setRow g4 cs) B ka kc K ∧ SetsO (w.setRow g4 cs) B sa sc S vs := by
 have hg := grown_setRow w g4 cs
 refine ⟨h.sts.far hg (fun y hy e => ?_), h.cls.far hg (fun y hy e => ?_), h.set.far hg ?_ (fun i s ai ci hi hv y hy e => ?_)⟩
 ·cases hy
  cases e
  obtain ⟨c', hc⟩ := h.sts.typed
  exact absurd (h.res.ty hc) (by decide)
 ·obtain ⟨c', hc⟩ := h.cls.typed hy
  cases e
  exact absurd (h.res.ty hc) (by decide)
 ·cases hsa : sa.map (·.block) with
  | none => exact .inl rfl
  | some g =>
   refine .inr fun e => ?_
   cases e
   exact h.set.off h.res (by decide) hsa
 ·obtain ⟨c', hc⟩ := h.inner hi hv hy
  cases e
  exact absurd (h.res.ty hc) (by decide)
/-- A set more. -/
theorem CutI.moreS {B : Nat} {w w' : World} {g4 g6 : Nat} {cur : Array Value} {g1 c1 : Nat} {L : List Pt} {ka : Option Addr} {kc : Nat} {K : List Nat} {sa : Option Addr} {sc : Nat} {S : List (List Nat)} {vs : List Value}
  (h : CutI B w g4 g6 cur g1 c1 L ka kc K sa sc S vs) (hg : w.grownBy w' (sa.map (·.block))) {g c' : Nat} {s : List Nat} {ya : Option Addr} {yc : Nat} (hrow : w'.ownsRow B 24 1 (.slice (some ⟨g, 0, none⟩) (S.length + 1) c') (S.length + 1) (vs ++ [.slice ya s.length yc])) (hy : OwnI w B ya yc s) (hap : ∀ y, ya = some y → ka.map (·.block) ≠ some y.block) :
  CutI B w' g4 g6 cur g1 c1 L ka kc K (some ⟨g, 0, none⟩) c' (S ++ [s]) (vs ++ [.slice ya s.length yc]) := by
 have hi : ∀ (i : Nat) (t : List Nat) (ai : Option Addr) (ci : Nat), S[i]? = some t → vs[i]? = some (Value.slice ai t.length ci) → ∀ y, ai = some y → sa.map (·.block) ≠ some y.block := fun i t ai ci hi hv y hy e => by
  obtain ⟨c1, hc1⟩ := h.set.typed e
  obtain ⟨c2, hc2⟩ := h.inner hi hv hy
  exact absurd (hc1.ty hc2) (by decide)
 have hvl : vs.length = S.length := by have := h.set.row.1; omega
 refine ⟨h.res.far hg ?_, h.pcs.far hg ?_, h.sts.far hg (fun y hy => ?_), h.cls.far hg (fun y hy e => ?_), ⟨by simpa using hrow, fun i t ht => ?_⟩, fun i t ai ci ht hv y hy' => ?_⟩
 ·exact h.set.off h.res (by decide)
 ·exact h.set.off h.pcs (by decide)
 ·cases hy
  obtain ⟨c', hc⟩ := h.sts.typed
  exact h.set.off hc (by decide)
 ·obtain ⟨c2, hc2⟩ := h.cls.typed hy
  exact h.set.off hc2 (by decide) e
 ·by_cases e : i < S.length
  ·rw [List.getElem?_append_left e] at ht
   obtain ⟨ai, ci, h1, h2⟩ := h.set.each i t ht
   exact ⟨ai, ci, by rw [List.getElem?_append_left (by omega)]; exact h1, h2.far hg (fun y hy => hi i t ai ci ht h1 y hy)⟩
  ·have e' : i = S.length := by
    have := (List.getElem?_eq_some_iff.1 ht).1
    simp at this
    omega
   subst e'
   rw [List.getElem?_append_right (Nat.le_refl _)] at ht
   simp at ht
   subst ht
   refine ⟨ya, yc, by rw [List.getElem?_append_right (by omega), hvl]; simp, hy.far hg (fun y hy' e2 => ?_)⟩
   obtain ⟨c1, hc1⟩ := h.set.typed e2
   obtain ⟨c2, hc2⟩ := hy.typed hy'
   exact absurd (hc1.ty hc2) (by decide)
 ·by_cases e : i < S.length
  ·rw [List.getElem?_append_left e] at ht
   rw [List.getElem?_append_left (by omega)] at hv
   exact h.apt i t ai ci ht hv y hy'
  ·have e' : i = S.length := by
    have := (List.getElem?_eq_some_iff.1 ht).1
    simp at this
    omega
   subst e'
   rw [List.getElem?_append_right (Nat.le_refl _)] at ht
   simp at ht
   subst ht
   rw [List.getElem?_append_right (by omega), hvl] at hv
   simp at hv
   exact hap y (by rw [hv.1]; exact hy')
/-- A class more. -/
theorem CutI.moreK {B : Nat} {w w' : World} {g4 g6 : Nat} {cur : Array Value} {g1 c1 : Nat} {L : List Pt} {ka : Option Addr} {kc : Nat} {K : List Nat} {sa : Option Addr} {sc : Nat} {S : List (List Nat)} {vs : List Value}
  (h : CutI B w g4 g6 cur g1 c1 L ka kc K sa sc S vs) (hg : w.grownBy w' (ka.map (·.block))) {g c' : Nat} {K' : List Nat} (hrow : OwnI w' B (some ⟨g, 0, none⟩) c' K') (hat : ka.map (·.block) = some g ∨ g = w.heap.size) :
  CutI B w' g4 g6 cur g1 c1 L (some ⟨g, 0, none⟩) c' K' sa sc S vs := by
 refine ⟨h.res.far hg (h.cls.off h.res (by decide)), h.pcs.far hg (h.cls.off h.pcs (by decide)), h.sts.far hg (fun y hy => ?_), hrow, h.set.far hg ?_ (fun i s ai ci hs hv y hy => h.apt i s ai ci hs hv y hy), fun i s ai ci hs hv y hy e => ?_⟩
 ·cases hy
  obtain ⟨c', hc⟩ := h.sts.typed
  exact h.cls.off hc (by decide)
 ·cases hsa : sa.map (·.block) with
  | none => exact .inl rfl
  | some g' =>
   refine .inr fun e => ?_
   obtain ⟨c1, hc1⟩ := h.set.typed hsa
   exact h.cls.off hc1 (by decide) e
 ·simp only [Option.map_some, Option.some.injEq] at e
  rcases hat with hat | hat
  ·exact h.apt i s ai ci hs hv y hy (by rw [hat, e])
  ·obtain ⟨c2, hc2⟩ := h.inner hs hv hy
   have := hc2.lt
   omega

/-! ### plainly -/
theorem putS_len (S : List (List Nat)) (s : List Nat) : (putS S s).length ≤ S.length + 1 := by
 unfold putS
 split <;> simp
theorem foldP_len : ∀ (L S : List (List Nat)), (L.foldl putS S).length ≤ S.length + L.length
 | [], S => by simp
 | s :: L, S => by
  have h1 := foldP_len L (putS S s)
  have h2 := putS_len S s
  simp only [List.foldl_cons, List.length_cons]
  omega
theorem sets_len (L : List (List Nat)) : (L.foldl putS []).length ≤ L.length := by
 have := foldP_len L []
 simpa using this
theorem classF_snoc : ∀ (L S : List (List Nat)) (s : List Nat), classF S (L ++ [s]) = classF S L ++ [putN (L.foldl putS S) s]
 | [], S, s => rfl
 | t :: L, S, s => by
  show putN S t :: classF (putS S t) (L ++ [s]) = putN S t :: classF (putS S t) L ++ [putN (L.foldl putS (putS S t)) s]
  rw [classF_snoc L]
  rfl
theorem ints_inj {a b : List Nat} (h : ints a = ints b) : a = b := by
 induction a generalizing b with
 | nil => cases b with
  | nil => rfl
  | cons y b => simp [ints] at h
 | cons x a ih => cases b with
  | nil => simp [ints] at h
  | cons y b =>
   simp only [ints, List.map_cons, List.cons.injEq] at h
   rw [ih h.2, show x = y by omega]
theorem find_ints (S : List (List Nat)) (s : List Nat) : (S.map ints).findIdx? (fun t => decide (t = ints s)) = S.findIdx? (· == s) := by
 rw [List.findIdx?_map]
 congr 1
 funext t
 simp only [Function.comp]
 rw [Bool.eq_iff_iff]
 simp only [decide_eq_true_eq, beq_iff_eq]
 exact ⟨ints_inj, fun h => by rw [h]⟩
theorem ix_some {S : List (List Nat)} {s : List Nat} {i : Nat} (h : S.findIdx? (· == s) = some i) : ixS (S.map ints) (ints s) = i ∧ putN S s = i ∧ putS S s = S ∧ i < S.length := by
 have hi := (List.findIdx?_eq_some_iff_getElem.1 h)
 obtain ⟨h1, h2, _⟩ := hi
 refine ⟨by unfold ixS; rw [find_ints, h], by unfold putN; rw [h]; rfl, ?_, h1⟩
 unfold putS
 rw [if_pos]
 rw [List.any_eq_true]
 exact ⟨S[i], List.getElem_mem h1, h2⟩
theorem ix_none {S : List (List Nat)} {s : List Nat} (h : S.findIdx? (· == s) = none) : ixS (S.map ints) (ints s) = -1 ∧ putN S s = S.length ∧ putS S s = S ++ [s] := by
 refine ⟨by unfold ixS; rw [find_ints, h], by unfold putN; rw [h]; rfl, ?_⟩
 unfold putS
 rw [if_neg]
 rw [List.findIdx?_eq_none_iff] at h
 rw [List.any_eq_true]
 rintro ⟨x, hx, he⟩
 have := h x hx
 rw [he] at this
 cases this
end Go.Proofs.YtmfgjicfdjjihaaGreatDoor
