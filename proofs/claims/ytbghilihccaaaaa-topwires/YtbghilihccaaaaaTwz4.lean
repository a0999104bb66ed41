/- Texts joined: BlkX Frm Back Anys -/
import Derived.Test.YtbghilihccaaaaaTwz2
import Derived.Test.YtbghilihccaaaaaTwz3
import Derived.Deep.WholeRow
import Derived.BigRegion
import Derived.Deep.RegionHeld3
namespace Go.Proofs.Ytbghilihccaaaaa
open Go.RowKit
set_option linter.unusedVariables false
set_option linter.unusedSimpArgs false
/-- The block g holds these cells. -/
def Blk (W : World) (g : Nat) (t : TypeId) (cs : Array Value) : Prop := W.heap[g]? = some (.cells cs t (0, 0))
theorem blk_new (w : World) (cs : Array Value) (t : TypeId) : Blk (w.alloc (.cells cs t)) w.heap.size t cs := heap_alloc_last w _
theorem Blk.lt {W : World} {g : Nat} {t : TypeId} {cs : Array Value} (h : Blk W g t cs) : g < W.heap.size := (Array.getElem?_eq_some_iff.1 h).1
theorem Blk.below {W W' : World} {g B : Nat} {t : TypeId} {cs : Array Value} (h : Blk W g t cs) (hb : Below B W W') (hg : g < B) : Blk W' g t cs := (hb.block g hg).trans h
theorem Blk.kept {W W' : World} {g : Nat} {t : TypeId} {cs : Array Value} (h : Blk W g t cs) (hb : Below W.heap.size W W') : Blk W' g t cs := h.below hb h.lt
theorem Blk.alloc {W : World} {g : Nat} {t : TypeId} {cs : Array Value} (h : Blk W g t cs) (X : Obj) : Blk (W.alloc X) g t cs := h.kept ((Below.refl _ _).alloc (Nat.le_refl _) _)
theorem Blk.drew {W : World} {g : Nat} {t : TypeId} {cs : Array Value} (h : Blk W g t cs) : Blk W.drew g t cs := h.kept ((Below.refl _ _).drew)
theorem Blk.cell {W : World} {g : Nat} {t : TypeId} {cs : Array Value} (h : Blk W g t cs) (i : Nat) (v : Value) (hv : cs[i]? = some v) : W.cell? ⟨g, i, none⟩ = some v :=
  (cell_of_row W g i cs t (0, 0) h).trans hv
theorem Blk.set {W : World} {g : Nat} {t : TypeId} {cs : Array Value} (h : Blk W g t cs) (cs' : Array Value) : Blk (W.setRow g cs') g t cs' := setRow_heap W g cs cs' t (0, 0) h
theorem setRow_heap_ne (W : World) (g k : Nat) (cs : Array Value) (h : k ≠ g) : (W.setRow g cs).heap[k]? = W.heap[k]? := by
  show (W.heap.modify g _)[k]? = _
  rw [Array.getElem?_modify, if_neg (fun e => h e.symm)]
theorem below_setRow {B : Nat} {w W : World} (hb : Below B w W) {g : Nat} (hg : B ≤ g) (cs : Array Value) : Below B w (W.setRow g cs) :=
  ⟨hb.os, hb.tape, hb.output, by rw [setRow_size]; exact hb.size, fun k hk => (setRow_heap_ne W g k cs (by omega)).trans (hb.block k hk)⟩
theorem Blk.other {W : World} {g g' : Nat} {t : TypeId} {cs : Array Value} (h : Blk W g t cs) (hn : g ≠ g') (cs' : Array Value) : Blk (W.setRow g' cs') g t cs := (setRow_heap_ne W g' g cs' hn).trans h
theorem Blk.put {W : World} {g : Nat} {t : TypeId} {cs : Array Value} (h : Blk W g t cs) (i : Nat) (v : Value) : Blk (W.setCell ⟨g, i, none⟩ v) g t (cs.setIfInBounds i v) := by
  rw [setCell_eq_setRow W g i cs t (0, 0) v h]
  exact h.set _
theorem Blk.put_other {W : World} {g g' : Nat} {t t' : TypeId} {cs cs' : Array Value} (h : Blk W g t cs) (h' : Blk W g' t' cs') (hn : g ≠ g') (i : Nat) (v : Value) : Blk (W.setCell ⟨g', i, none⟩ v) g t cs := by
  rw [setCell_eq_setRow W g' i cs' t' (0, 0) v h']
  exact h.other hn _
theorem Blk.frozen {W : World} {g : Nat} {t : TypeId} {cs : Array Value} (h : Blk W g t cs) (i : Nat) : W.frozen? ⟨g, i, none⟩ = false := by
  have h' : W.heap[g]? = some (.cells cs t (0, 0)) := h
  simp [World.frozen?, h']
/-- A whole struct out of its block. -/
theorem load_blk {W : World} {g : Nat} {t : TypeId} {cs : Array Value} (h : Blk W g t cs) {fs : _} (hu : Try.prog.underlying t = some (.struct fs)) (hi : (Try.prog.info? t).map (·.size) = some cs.size) :
    (loadVar t ⟨g, 0, none⟩).run Try.prog W = .ok (.agg cs) W := run_loadVar_row W g t t cs (0, 0) (.struct fs) h hu rfl hi
/-- The answer of a function whose one result lies in a block. -/
theorem ret_cell {R : Ending → World → Prop} {a : Act} {w : World} {g k : Nat} {t : TypeId} {cs : Array Value} (fn : Func) (hf : fn.results = #[.cell k t]) (h : Blk w g t cs) {fs : _} (hu : Try.prog.underlying t = some (.struct fs)) (hi : (Try.prog.info? t).map (·.size) = some cs.size)
    (h2 : a.tmps[k]?.getD undef = .pointer (some ⟨g, 0, none⟩)) (hdf : a.defers = []) (hR : R (.returned (.agg cs)) w) : bodyPost Try.prog fn R .ret a w := by
  refine bodyPost_ret (v := .agg cs) ?_ hdf hR
  have hl := load_blk h hu hi
  simp [results, hf, h2, asAddr, hl, Array.mapM_eq_mapM_toList]
theorem ret_cell_tmp {R : Ending → World → Prop} {a : Act} {w : World} {g k j : Nat} {t : TypeId} {cs : Array Value} {v : Value} (fn : Func) (hf : fn.results = #[.cell k t, .tmp j]) (h : Blk w g t cs) {fs : _} (hu : Try.prog.underlying t = some (.struct fs)) (hi : (Try.prog.info? t).map (·.size) = some cs.size)
    (h2 : a.tmps[k]?.getD undef = .pointer (some ⟨g, 0, none⟩)) (h3 : a.tmps[j]?.getD undef = v) (hdf : a.defers = []) (hR : R (.returned (.tuple #[.agg cs, v])) w) : bodyPost Try.prog fn R .ret a w := by
  refine bodyPost_ret (v := .tuple #[.agg cs, v]) ?_ hdf hR
  have hl := load_blk h hu hi
  simp [results, hf, h2, h3, asAddr, hl, Array.mapM_eq_mapM_toList]
/-- A whole struct out of its block, in a region that draws its order. -/
theorem yieldsIf_blk {ops : Array Oper} {S : World → Prop} {o : Oper} {ac : Act} (hgd : o.guard = none) (t : TypeId) (p : Operand) (ho : o.op = Op.load t p) (g : Nat) (hp : ac.eval p = .pointer (some ⟨g, 0, none⟩)) (cs : Array Value)
    (hS : ∀ w, S w → Blk w g t cs) {fs : _} (hu : Try.prog.underlying t = some (.struct fs)) (hi : (Try.prog.info? t).map (·.size) = some cs.size) : YieldsIf Try.prog ops S o (.agg cs) ac := by
  refine .inl ⟨by simp [Region.wanted, hgd], fun w hw => ?_⟩
  have hl := load_blk (hS w hw) hu hi
  simp [execOp, ho, hp, Instr.loadAt, Instr.sureAddr, hl, Result.andThen]
/-- One cell of a struct, in a region that draws its order. -/
theorem yieldsIf_build {ops : Array Oper} {S : World → Prop} {o : Oper} {ac : Act} (hgd : o.guard = none) (t : TypeId) (parts : Array (Nat × Operand)) (ho : o.op = Op.build t parts)
    (vs : Array (Nat × Value)) (hv : parts.map (fun p => (p.1, ac.eval p.2)) = vs) (r : Value) (hrun : ∀ w, (Instr.build t vs).run Try.prog w = .ok r w) : YieldsIf Try.prog ops S o r ac := by
  refine .inl ⟨by simp [Region.wanted, hgd], fun w _ => ?_⟩
  subst hv
  simp [execOp, ho, hrun, Result.andThen]
theorem step_store_blk {ops : Array Oper} {o : Oper} {ac : Act} {K : Act → World → Prop} {Q : Exit → Act → World → Prop} {Z : Prop} {w : World} (hgd : o.guard = none) (t : TypeId) (p x : Operand) (ho : o.op = Op.store t p x) (g : Nat) (cs old : Array Value)
    (hp : ac.eval p = .pointer (some ⟨g, 0, none⟩)) (hx : ac.eval x = .agg cs) (hb : Blk w g t old) (hi : (Try.prog.info? t).map (·.size) = some cs.size) (ho' : old.size = cs.size) (h1 : cs.all (·.oneCell') = true) (h : K (ac.put o.dst undef) (w.setRow g cs)) :
    if Region.wanted o (yielded ops ac.tmps) = true then Oper.wp Try.prog o ac w K Q else Z := by
  have hw : Region.wanted o (yielded ops ac.tmps) = true := by simp [Region.wanted, hgd]
  rw [if_pos hw]
  exact wp_store_row t p x ho g cs hp hx t old hb hi ho' h1 h
theorem fresh_nil {w w' : World} (h : Below w.heap.size w w') : Fresh w w' none 0 [] :=
  ⟨Owns.nil _ _, Nat.le_refl _, fun _ => rfl, ⟨by simp, M.Bytes.nil, fun h => by simp at h⟩, h⟩
theorem load_sub {W : World} {g : Nat} {t ty : TypeId} {cs : Array Value} (h : Blk W g t cs) (k : Nat) (sub : Array Value) (hs : (cs.toList.drop k).take sub.size = sub.toList) {fs : _} (hu : Try.prog.underlying ty = some (.struct fs)) (hi : (Try.prog.info? ty).map (·.size) = some sub.size) :
    (loadVar ty ⟨g, k, none⟩).run Try.prog W = .ok (.agg sub) W := by
  have hl : (loadCells ⟨g, k, none⟩ sub.toList.length).run Try.prog W = .ok sub.toList.toArray W :=
    run_loadCells_list (P := Try.prog) W ⟨g, k, none⟩ sub.toList (fun j v hv => by
      have hadd : (⟨g, k, none⟩ : Addr).add j = ⟨g, k + j, none⟩ := Go.WideShapes.add_plain ..
      rw [hadd]
      refine h.cell (k + j) v ?_
      rw [← hs] at hv
      rw [List.getElem?_take] at hv
      split at hv
      · rw [List.getElem?_drop] at hv
        simpa using hv
      · cases hv)
  cases hq : Try.prog.info? ty with
  | none => simp [hq] at hi
  | some i =>
    have hs' : i.size = sub.size := by simpa [hq] using hi
    have hagg : (isAgg ty).run Try.prog W = .ok true W := by
      unfold isAgg
      rw [Sem.run_bind, run_underlying hu W]
      rfl
    simp only [Array.length_toList, Array.toArray_toList] at hl
    simp [loadVar, Sem.run_bind, hagg, sizeOf, typeInfo, hq, hs', hl]
theorem yieldsIf_sub {ops : Array Oper} {S : World → Prop} {o : Oper} {ac : Act} (hgd : o.guard = none) (ty : TypeId) (p : Operand) (ho : o.op = Op.load ty p) (g k : Nat) (t : TypeId) (hp : ac.eval p = .pointer (some ⟨g, k, none⟩)) (cs sub : Array Value)
    (hS : ∀ w, S w → Blk w g t cs) (hs : (cs.toList.drop k).take sub.size = sub.toList) {fs : _} (hu : Try.prog.underlying ty = some (.struct fs)) (hi : (Try.prog.info? ty).map (·.size) = some sub.size) : YieldsIf Try.prog ops S o (.agg sub) ac := by
  refine .inl ⟨by simp [Region.wanted, hgd], fun w hw => ?_⟩
  have hl := load_sub (hS w hw) k sub hs hu hi
  simp [execOp, ho, hp, Instr.loadAt, Instr.sureAddr, hl, Result.andThen]
theorem wpList_load_sub {ops : Array Oper} {rest : List Oper} {o : Oper} {ac : Act} {w : World} {Q : Exit → Act → World → Prop} (hgd : o.guard = none) (ty : TypeId) (p : Operand) (ho : o.op = Op.load ty p) (g k : Nat) (t : TypeId) (hp : ac.eval p = .pointer (some ⟨g, k, none⟩)) (cs sub : Array Value)
    (hb : Blk w g t cs) (hs : (cs.toList.drop k).take sub.size = sub.toList) {fs : _} (hu : Try.prog.underlying ty = some (.struct fs)) (hi : (Try.prog.info? ty).map (·.size) = some sub.size) (h : wpList Try.prog ops Q rest (ac.put o.dst (.agg sub)) w) : wpList Try.prog ops Q (o :: rest) ac w := by
  refine wpList_plain hgd fun K hK => ?_
  have hl := load_sub hb k sub hs hu hi
  unfold Oper.wp
  simp [execOp, ho, hp, Instr.loadAt, Instr.sureAddr, hl, Result.andThen]
  exact hK _ _ h
theorem wpList_load_blk_w {ops : Array Oper} {rest : List Oper} {o : Oper} {ac : Act} {w : World} {Q : Exit → Act → World → Prop} (hw : Region.wanted o (yielded ops ac.tmps) = true) (ty : TypeId) (x : Operand) (ho : o.op = .load ty x)
    (g : Nat) (hx : ac.eval x = .pointer (some ⟨g, 0, none⟩)) (cs : Array Value) (hg : Blk w g ty cs) {fs : _} (hu : Try.prog.underlying ty = some (.struct fs)) (hi : (Try.prog.info? ty).map (·.size) = some cs.size)
    (h : wpList Try.prog ops Q rest (ac.put o.dst (.agg cs)) w) : wpList Try.prog ops Q (o :: rest) ac w :=
  wpList_step fun K hK => by rw [if_pos hw]; exact wp_load_row ty x ho g hx ty cs (0, 0) (.struct fs) hg hu rfl hi (hK _ _ h)
theorem Owns.cap_le {w : World} {B c n : Nat} {a : Option Addr} {l : List Int} (h : Owns w B (.slice a n c) l) : c ≤ 9223372036854775807 := by
  obtain ⟨_, h⟩ := h
  rcases h with ⟨h3, _⟩ | ⟨g, cap, cur, h3, h4, h5, h6, h7, _⟩
  · simp only [Value.slice.injEq] at h3
    omega
  · simp only [Value.slice.injEq] at h3
    obtain ⟨_, _, rfl⟩ := h3
    unfold maxLen at h7
    omega
theorem blk_nw {W W' : World} {cs : Array Value} {t : TypeId} (e : W.alloc (.cells cs t) = W') : Blk W' W.heap.size t cs := e ▸ blk_new _ _ _
theorem Blk.al {W W' : World} {g : Nat} {t : TypeId} {cs : Array Value} {o : Obj} (h : Blk W g t cs) (e : W.alloc o = W') : Blk W' g t cs := e ▸ h.alloc _
theorem tk {P : Program} {md : Region.Mode} {ops : Array Oper} {Q : Exit → Act → World → Prop} {S : World → Prop} {i : Nat} {oi : Oper} {v : Value} {fuel : Nat} {listed : Array Bool} {a : Act} {w : World} (hS : S w)
    (hv : ∀ w, S w → (execOp a.eval oi).run P w = .ok (.value v) w) (h : wpAnyH P md ops Q S fuel (listed.setIfInBounds i true) (a.put oi.dst v) w) (hi : ops[i]? = some oi := by rfl)
    (hs : Region.noSelect ops = true := by kernel_rfl) (hf : Region.free md ops listed i = true := by kernel_rfl) (hr : (Region.ready md ops listed).contains i = true := by kernel_rfl)
    (hQ : ∀ c a w, Q (.panic c) (a.put oi.dst v) w → Q (.panic c) a w := by exact fun _ _ _ h => h) (hw : Region.wanted oi (yielded ops a.tmps) = true := by rfl) : wpAnyH P md ops Q S (fuel + 1) listed a w :=
  wpAnyH_take hi hs hf hr hQ (Or.inl ⟨hw, hv⟩) hS h
theorem bel_nw {w W : World} {o : Obj} (e : w.alloc o = W) : Below w.heap.size w W := e ▸ (Below.refl _ _).alloc (Nat.le_refl _) _
theorem bel_al {w W W' : World} {o : Obj} (h : Below w.heap.size w W) (e : W.alloc o = W') : Below w.heap.size w W' := e ▸ h.alloc h.size _
theorem bel_tr {w W W' : World} (h : Below w.heap.size w W) (k : Below W.heap.size W W') : Below w.heap.size w W' := h.trans (k.mono h.size)
/-- Bytes taken in, the highest first. -/
def fromGo : List Int → Int → Int → Int × Int
  | [], h, l => (h, l)
  | x :: xs, h, l => fromGo xs (h * 256 % 18446744073709551616 + l / 72057594037927936) (l * 256 % 18446744073709551616 + x)
def fromB (b : List Int) : Ad × Int :=
  if b.length = 4 then (⟨4, (fromGo b 0 0).1, (fromGo b 0 0).2⟩, 0) else if b.length = 16 then (⟨6, (fromGo b 0 0).1, (fromGo b 0 0).2⟩, 0) else (⟨0, 0, 0⟩, 1)
theorem wraps_u64 (n : Int) (h₀ : 0 ≤ n) (h₁ : n < 2 ^ 64) : IntKind.u64.wrap n = n := by rw [IntKind.wrap_u64]; omega
theorem or_low (x y : Int) (hy0 : 0 ≤ y) (hy1 : y < 256) : bits .or .u64 (IntKind.u64.wrap (x * 256)) y = x * 256 % 18446744073709551616 + y := by
  rw [IntKind.wrap_u64]
  exact bits_join .u64 64 (by decide) wraps_u64 8 _ y (by omega) (by omega) (by omega) hy0 (by omega) (by omega)
set_option maxHeartbeats 1000000 in
theorem from_any (a : Option Addr) (c : Nat) (b : List Int) (w : World) (hb : Row w a b) :
    Calls Try.prog 62 #[.slice a b.length c] w fun e w' =>
      e = .returned (.tuple #[(fromB b).1.v, .int .i64 (fromB b).2]) ∧ Below w.heap.size w w' := by
  have hsm := hb.small
  obtain ⟨F, T, hF⟩ : ∃ F T, (F, T) = fromGo b 0 0 := ⟨_, _, rfl⟩
  have go : ∀ (f : Int), (f = 4 ∧ b.length = 4) ∨ (f = 6 ∧ b.length = 16) → fromB b = (⟨f, F, T⟩, 0) := by
    rintro f (⟨rfl, h⟩ | ⟨rfl, h⟩)
    · rw [fromB, if_pos h, ← hF]
    · rw [fromB, if_neg (by omega), if_pos h, ← hF]
  have HF : Hid (fromGo b 0 0 = (F, T)) := hF.symm
  clear hF
  by_cases h4 : b.length = 4
  · rw [go 4 (.inl ⟨rfl, h4⟩)]
    have L4 : Hid (b.length = 4) := h4
    have h4a : ((b.length : Int) == 4) = true := by simp [L4.out]
    clear h4 go
    go_enter Try.func62, Try.ntmps62
    go_wp2
    go_loopw [18] (fun i w' => ∃ (k : Nat) (h l : Int), k ≤ b.length ∧ i = .int .i64 k ∧ (0 ≤ h ∧ h ≤ 18446744073709551615) ∧ (0 ≤ l ∧ l ≤ 18446744073709551615) ∧ Hid (fromGo (b.drop k) h l = (F, T)) ∧
        w' = (w.alloc (.cells #[.int .i64 0, .int .u64 0, .int .u64 0] 37)).alloc (.cells #[.int .i64 4, .int .u64 h, .int .u64 l] 37)) (fun i _ => b.length - (intOf i).toNat)
    case atStart => exact ⟨0, 0, 0, Nat.zero_le _, rfl, by omega, by omega, HF, rfl⟩
    case round =>
      obtain ⟨k, h, l, hk, rfl, hh, hl, hr, rfl⟩ := hrel
      by_cases hlt : k < b.length
      · obtain ⟨bk, off, rfl, hc⟩ := hb.cells (by omega)
        have eg : b.getD k 0 = b[k] := by simp [hlt]
        have hcell := hc k hlt
        have hbl : bk < w.heap.size := World.block_lt_of_cell? w _ hcell
        have hne1 : bk ≠ w.heap.size := by omega
        have hne2 : bk ≠ w.heap.size + 1 := by omega
        have hx := hb.bytes.get k
        have hr1 := hr.out
        rw [List.drop_eq_getElem_cons hlt] at hr1
        rw [eg] at hcell hx
        clear eg hc
        generalize b[k] = x at hcell hx hr1
        have e1 := or_low h (l / 72057594037927936) (by omega) (by omega)
        have e2 := or_low l x (by omega) (by omega)
        have ilt : (k : Int) < (b.length : Int) := by omega
        have HQ : Hid (fromGo (b.drop (k + 1)) (h * 256 % 18446744073709551616 + l / 72057594037927936) (l * 256 % 18446744073709551616 + x) = (F, T)) := hr1
        clear hr hr1
        go_wp2
        exact ⟨⟨k + 1, _, _, by omega, int_eq (by omega), by omega, by omega, HQ, rfl⟩, by simp [intOf]; omega⟩
      · have ilt : ¬ (k : Int) < (b.length : Int) := by omega
        have e : (h, l) = (F, T) := by
          rw [← hr.out, List.drop_eq_nil_of_le (by omega)]; rfl
        injection e with e1 e2
        subst e1
        subst e2
        go_wp2
        exact bodyPost_ret (v := .tuple #[.agg #[.int .i64 4, .int .u64 h, .int .u64 l], .int .i64 0]) (by simp [results, Try.results62, go_sem]) rfl ⟨rfl, ((Below.refl _ _).alloc (Nat.le_refl _) _).alloc (by simp) _⟩
  · by_cases h16 : b.length = 16
    · rw [go 6 (.inr ⟨rfl, h16⟩)]
      have L4 : Hid (b.length = 16) := h16
      have h4a : ((b.length : Int) == 4) = false := by simp [L4.out]
      have h16a : ((b.length : Int) == 16) = true := by simp [L4.out]
      clear h4 h16 go
      go_enter Try.func62, Try.ntmps62
      go_wp2
      go_loopw [18] (fun i w' => ∃ (k : Nat) (h l : Int), k ≤ b.length ∧ i = .int .i64 k ∧ (0 ≤ h ∧ h ≤ 18446744073709551615) ∧ (0 ≤ l ∧ l ≤ 18446744073709551615) ∧ Hid (fromGo (b.drop k) h l = (F, T)) ∧
          w' = (w.alloc (.cells #[.int .i64 0, .int .u64 0, .int .u64 0] 37)).alloc (.cells #[.int .i64 6, .int .u64 h, .int .u64 l] 37)) (fun i _ => b.length - (intOf i).toNat)
      case atStart => exact ⟨0, 0, 0, Nat.zero_le _, rfl, by omega, by omega, HF, rfl⟩
      case round =>
        obtain ⟨k, h, l, hk, rfl, hh, hl, hr, rfl⟩ := hrel
        by_cases hlt : k < b.length
        · obtain ⟨bk, off, rfl, hc⟩ := hb.cells (by omega)
          have eg : b.getD k 0 = b[k] := by simp [hlt]
          have hcell := hc k hlt
          have hbl : bk < w.heap.size := World.block_lt_of_cell? w _ hcell
          have hne1 : bk ≠ w.heap.size := by omega
          have hne2 : bk ≠ w.heap.size + 1 := by omega
          have hx := hb.bytes.get k
          have hr1 := hr.out
          rw [List.drop_eq_getElem_cons hlt] at hr1
          rw [eg] at hcell hx
          clear eg hc
          generalize b[k] = x at hcell hx hr1
          have e1 := or_low h (l / 72057594037927936) (by omega) (by omega)
          have e2 := or_low l x (by omega) (by omega)
          have ilt : (k : Int) < (b.length : Int) := by omega
          have HQ : Hid (fromGo (b.drop (k + 1)) (h * 256 % 18446744073709551616 + l / 72057594037927936) (l * 256 % 18446744073709551616 + x) = (F, T)) := hr1
          clear hr hr1
          go_wp2
          exact ⟨⟨k + 1, _, _, by omega, int_eq (by omega), by omega, by omega, HQ, rfl⟩, by simp [intOf]; omega⟩
        · have ilt : ¬ (k : Int) < (b.length : Int) := by omega
          have e : (h, l) = (F, T) := by
            rw [← hr.out, List.drop_eq_nil_of_le (by omega)]; rfl
          injection e with e1 e2
          subst e1
          subst e2
          go_wp2
          exact bodyPost_ret (v := .tuple #[.agg #[.int .i64 6, .int .u64 h, .int .u64 l], .int .i64 0]) (by simp [results, Try.results62, go_sem]) rfl ⟨rfl, ((Below.refl _ _).alloc (Nat.le_refl _) _).alloc (by simp) _⟩
    · have e : fromB b = (⟨0, 0, 0⟩, 1) := by rw [fromB, if_neg h4, if_neg h16]
      rw [e]
      have h4a : ((b.length : Int) == 4) = false := by simp; omega
      have h16a : ((b.length : Int) == 16) = false := by simp; omega
      clear e go HF h4 h16
      go_enter Try.func62, Try.ntmps62
      go_wp2
      exact bodyPost_ret (v := .tuple #[.agg #[.int .i64 0, .int .u64 0, .int .u64 0], .int .i64 1]) (by simp [results, Try.results62, go_sem]) rfl ⟨rfl, ((Below.refl _ _).alloc (Nat.le_refl _) _).alloc (by simp) _⟩
end Go.Proofs.Ytbghilihccaaaaa
namespace Go.Proofs.Ytbghilihccaaaaa
set_option linter.unusedVariables false
/-- Taking in bytes behind others. -/
theorem fromGo_app (xs ys : List Int) (h l : Int) : fromGo (xs ++ ys) h l = fromGo ys (fromGo xs h l).1 (fromGo xs h l).2 := by
  induction xs generalizing h l with
  | nil => rfl
  | cons x xs ih => exact ih _ _
/-- Both words as one number. -/
def num2 (h l : Int) : Int := h * 18446744073709551616 + l
/-- The n lowest bytes of two words, taken in from 0 on: the words themselves, if they have no higher bytes. -/
theorem from_bytesGo : ∀ (n : Nat) (h l : Int), n ≤ 16 → 0 ≤ h → h < 18446744073709551616 → 0 ≤ l → l < 18446744073709551616 → num2 h l < 256 ^ n → fromGo (bytesGo n h l) 0 0 = (h, l)
  | 0, h, l, _, a, b, c, d, hn => by
    have : num2 h l < 1 := hn
    unfold num2 at this
    have e1 : h = 0 := by omega
    have e2 : l = 0 := by omega
    subst e1 e2
    rfl
  | n + 1, h, l, hn16, a, b, c, d, hn => by
    have e1 : 0 ≤ l / 256 + h * 72057594037927936 % 18446744073709551616 ∧ l / 256 + h * 72057594037927936 % 18446744073709551616 < 18446744073709551616 := by omega
    have hs : num2 (h / 256) (l / 256 + h * 72057594037927936 % 18446744073709551616) < 256 ^ n := by
      rw [Int.pow_succ] at hn
      unfold num2 at hn ⊢
      generalize (256 : Int) ^ n = p at *
      omega
    have ih := from_bytesGo n (h / 256) (l / 256 + h * 72057594037927936 % 18446744073709551616) (by omega) (by omega) (by omega) e1.1 e1.2 hs
    show fromGo (bytesGo n _ _ ++ [l % 256]) 0 0 = _
    rw [fromGo_app, ih]
    show ((h / 256) * 256 % 18446744073709551616 + (l / 256 + h * 72057594037927936 % 18446744073709551616) / 72057594037927936, (l / 256 + h * 72057594037927936 % 18446744073709551616) * 256 % 18446744073709551616 + l % 256) = (h, l)
    congr 1 <;> omega
theorem bytesGo_bytes : ∀ (n : Nat) (h l : Int), M.Bytes (bytesGo n h l)
  | 0, _, _ => M.Bytes.nil
  | n + 1, h, l => (bytesGo_bytes n _ _).app (fun z hz => by simp at hz; omega)
/-- From of Bytes is the address. -/
theorem from_bytes {a : Ad} (ho : a.ok) (hr : a.right = true) : fromB a.bytes = (a, 0) := by
  obtain ⟨⟨_, _⟩, ⟨h0, h1⟩, ⟨l0, l1⟩⟩ := ho
  unfold Ad.bytes
  rw [if_pos hr]
  unfold Ad.right at hr
  by_cases hf : a.fam = 4
  · rw [if_pos hf] at hr ⊢
    simp only [Bool.and_eq_true, beq_iff_eq] at hr
    unfold fromB
    rw [if_pos (bytesGo_length 4 _ _), from_bytesGo 4 a.hi a.lo (by omega) (by omega) (by omega) (by omega) (by omega) (by unfold num2; omega)]
    cases a
    simp_all
  · rw [if_neg hf] at hr ⊢
    have h6 : a.fam = 6 := by simpa using hr
    unfold fromB
    rw [if_neg (by rw [bytesGo_length]; omega), if_pos (bytesGo_length 16 _ _), from_bytesGo 16 a.hi a.lo (by omega) (by omega) (by omega) (by omega) (by omega) (by unfold num2; omega)]
    cases a
    simp_all
end Go.Proofs.Ytbghilihccaaaaa
namespace Go.Proofs.Ytbghilihccaaaaa
open Go.RowKit
set_option linter.unusedVariables false
theorem Fresh.none (w : World) : Fresh w w none 0 [] := ⟨Owns.nil _ _, Nat.le_refl _, fun _ => rfl, ⟨by simp, M.Bytes.nil, fun h => by simp at h⟩, Below.refl _ _⟩
end Go.Proofs.Ytbghilihccaaaaa
