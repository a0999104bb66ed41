/- Texts joined: FrO FrT BlkZ -/
import Derived.Test.YtgppfkbapieneaaDoorCox16
import Derived.Deep.QuietTactic
import Derived.BigQuiet
import Derived.Deep.AppendLies
namespace Go.Proofs.YtgppfkbapieneaaDoor
open Go.RowKit
set_option linter.unusedVariables false
set_option linter.unusedSimpArgs false
theorem drewN_add (w : World) (m k : Nat) : (w.drewN m).drewN k = w.drewN (m + k) := by
  simp [World.drewN, Nat.add_assoc]
set_option maxHeartbeats 1000000 in
theorem sameI_any (a a' : Option Addr) (c c' : Nat) (l l' : List Int) (w : World) (h : RowI w a l) (h' : RowI w a' l') :
    Calls Tryd.prog 22 #[.slice a l.length c, .slice a' l'.length c'] w fun e w' => e = .returned (.bool (decide (l = l'))) ∧ ∃ n, w' = w.drewN n := by
  have hs := h.small
  by_cases hl : l.length = l'.length
  · obtain ⟨T, hT⟩ : ∃ T, decide (l = l') = T := ⟨_, rfl⟩
    rw [hT]
    have HT : Hid (decide (l = l') = T) := hT
    have HL : Hid (l.length = l'.length) := hl
    rw [← hl]
    obtain ⟨N, hN⟩ : ∃ N, l.length = N := ⟨_, rfl⟩
    have HN : Hid (l.length = N) := hN
    rw [hN] at hs ⊢
    clear hT hl hN
    go_enter Tryd.func22, Tryd.ntmps22
    go_wp2
    go_loopw [5] (fun i w' => ∃ (k m : Nat), k ≤ N ∧ i = .int .i64 k ∧ w' = w.drewN m ∧ Hid (l.take k = l'.take k)) (fun i _ => N - (intOf i).toNat)
    case atStart => exact ⟨0, 0, Nat.zero_le _, rfl, rfl, by show l.take 0 = l'.take 0; simp⟩
    case round =>
      obtain ⟨k, m, hk, rfl, rfl, ho⟩ := hrel
      by_cases hlt : k < N
      · obtain ⟨b, off, rfl, hcl⟩ := (h.drewN m).cells (by have := HN.out; omega)
        obtain ⟨b', off', rfl, hcl'⟩ := (h'.drewN m).cells (by have := HN.out; have := HL.out; omega)
        have c0 := hcl k (by have := HN.out; omega)
        have c1 := hcl' k (by have := HN.out; have := HL.out; omega)
        have hlk : (k : Int) < (N : Int) := by omega
        have hst : Hid ((l.take (k + 1) = l'.take (k + 1)) ↔ l.getD k 0 = l'.getD k 0) := by
          show _ ↔ _
          have e1 : l.take (k + 1) = l.take k ++ [l.getD k 0] := by rw [List.take_succ_eq_append_getElem (by have := HN.out; omega)]; simp [show k < l.length by have := HN.out; omega]
          have e2 : l'.take (k + 1) = l'.take k ++ [l'.getD k 0] := by rw [List.take_succ_eq_append_getElem (by have := HN.out; have := HL.out; omega)]; simp [show k < l'.length by have := HN.out; have := HL.out; omega]
          rw [e1, e2, ho.out]
          simp
        obtain ⟨W, hW⟩ : ∃ W, w.drewN m = W := ⟨_, rfl⟩
        rw [hW] at c0 c1 ⊢
        have HW : Hid (w.drewN m = W) := hW
        clear hcl hcl' h h' hW
        generalize l.getD k 0 = x at *
        generalize l'.getD k 0 = y at *
        by_cases hxy : x = y
        · have hxy' : (x != y) = false := by simpa using hxy
          go_wp2
          go_quiet (fail)
          go_wp2
          exact ⟨⟨k + 1, m + nq, by omega, int_eq (by omega), by rw [← HW.out]; exact drewN_add w m nq, hst.out.2 hxy⟩, by simp [intOf]; omega⟩
        · have hxy' : (x != y) = true := by simpa using hxy
          have ET : Hid (false = T) := by
            show false = T
            rw [← HT.out]
            symm
            simp only [decide_eq_false_iff_not]
            intro e
            exact hxy (hst.out.1 (by rw [e]))
          go_wp2
          go_quiet (fail)
          go_wp2
          go_ret
          exact ⟨by rw [← ET.out]; rfl, m + nq, by rw [← HW.out]; exact drewN_add w m nq⟩
      · have hlt' : ¬ (k : Int) < (N : Int) := by omega
        have ET : Hid (true = T) := by
          show true = T
          rw [← HT.out]
          symm
          simp only [decide_eq_true_eq]
          have := ho.out
          rwa [List.take_of_length_le (by have := HN.out; omega), List.take_of_length_le (by have := HN.out; have := HL.out; omega)] at this
        go_wp2
        go_ret
        exact ⟨by rw [← ET.out]; rfl, m, rfl⟩
  · have e : decide (l = l') = false := by simp; intro e; exact hl (by rw [e])
    rw [e]
    have hl' : ((l.length : Int) != (l'.length : Int)) = true := by simp; omega
    clear e
    go_enter Tryd.func22, Tryd.ntmps22
    go_wp2
    go_ret
    exact ⟨rfl, 0, rfl⟩
theorem fl_len {α : Type} (f : α → List Value) (n : Nat) (hf : ∀ a, (f a).length = n) : ∀ L : List α, (L.flatMap f).length = L.length * n
  | [] => by simp
  | a :: r => by simp only [List.flatMap_cons, List.length_append, hf, fl_len f n hf r, List.length_cons, Nat.add_mul]; omega
theorem fl_get {α : Type} (f : α → List Value) (n : Nat) (hf : ∀ a, (f a).length = n) : ∀ (L : List α) (i j : Nat) (q : α), L[i]? = some q → j < n → (L.flatMap f)[i * n + j]? = (f q)[j]?
  | [], i, j, q, h, _ => by simp at h
  | a :: r, 0, j, q, h, hj => by
    obtain rfl : a = q := by simpa using h
    rw [List.flatMap_cons, Nat.zero_mul, Nat.zero_add, List.getElem?_append_left (by rw [hf]; exact hj)]
  | a :: r, i + 1, j, q, h, hj => by
    rw [List.flatMap_cons, List.getElem?_append_right (by rw [hf, Nat.add_mul]; omega), hf]
    have : (i + 1) * n + j - n = i * n + j := by rw [Nat.add_mul]; omega
    rw [this]
    exact fl_get f n hf r i j q (by simpa using h) hj
theorem info_rule : (Tryd.prog.info? 55).map (fun i => (i.zero, i.size, i.bytes)) = some (some (.agg z17), 17, 136) := by kernel_rfl
abbrev pc17 (L : List Rl) : List Value := L.flatMap fun q => q.v.toList
theorem rlv_len (q : Rl) : q.v.toList.length = 17 := rfl
/-- A slice of rules of one's own. -/
def OwnR (w : World) (B : Nat) (a : Option Addr) (c : Nat) (L : List Rl) : Prop := w.ownsRow B 55 17 (.slice a L.length c) L.length (pc17 L)
theorem OwnR.nil (w : World) (B : Nat) : OwnR w B none 0 [] := World.ownsRow_nil _ _ _ _
theorem OwnR.below {w w' : World} {B : Nat} {a : Option Addr} {c : Nat} {l : List Rl} (h : OwnR w B a c l) (hb : Below w.heap.size w w') : OwnR w' B a c l := by
  obtain ⟨h1, h2⟩ := h
  refine ⟨h1, ?_⟩
  rcases h2 with h2 | ⟨g, cap, cur, h3, h4, h5, h6⟩
  · exact .inl h2
  · refine .inr ⟨g, cap, cur, h3, h4, (hb.block g ?_).trans h5, h6⟩
    exact (Array.getElem?_eq_some_iff.1 h5).1
theorem OwnR.row {w : World} {B : Nat} {a : Option Addr} {c : Nat} {l : List Rl} (h : OwnR w B a c l) (hl : ∀ r ∈ l, r.ok) : RowR w a l := by
  refine ⟨hl, fun i q hi => ?_⟩
  have hlt : i < l.length := (List.getElem?_eq_some_iff.1 hi).1
  obtain ⟨h1, h2⟩ := h
  rcases h2 with ⟨h3, h4⟩ | ⟨g, cap, cur, h3, h4, h5, h6, h7, h8, h9⟩
  · omega
  · simp only [Value.slice.injEq] at h3
    obtain ⟨rfl, _, rfl⟩ := h3
    have B : Blk w g 55 cur := h5
    refine ⟨g, 0, rfl, B.lt, fun j v hj => B.cell _ v ?_⟩
    have hj' : j < 17 := (Array.getElem?_eq_some_iff.1 hj).1
    have h10 := fl_get (fun q : Rl => q.v.toList) 17 rlv_len l i j q hi hj'
    have h11 : (cur.toList.take (l.length * 17))[i * 17 + j]? = q.v.toList[j]? := by rw [h9]; exact h10
    rw [List.getElem?_take_of_lt (by omega)] at h11
    rw [Array.getElem?_toList] at h11
    rw [Nat.zero_add, h11]
    simpa using hj
theorem OwnR.lt {w : World} {B : Nat} {a : Option Addr} {c : Nat} {l : List Rl} (h : OwnR w B a c l) : ∀ y, a = some y → B ≤ y.block := by
  intro y hy
  obtain ⟨h1, h2⟩ := h
  rcases h2 with ⟨h2, _⟩ | ⟨g, cap, cur, h3, h4, h5, h6⟩
  · simp only [Value.slice.injEq] at h2
    rw [h2.1] at hy
    cases hy
  · simp only [Value.slice.injEq] at h3
    rw [h3.1] at hy
    cases hy
    exact h4
/-- Cells put one behind the other. -/
def setMany (cur : Array Value) (j : Nat) : List Value → Array Value
  | [] => cur
  | v :: vs => setMany (cur.setIfInBounds j v) (j + 1) vs
theorem setRow_self {W : World} {g : Nat} {t : TypeId} {cs : Array Value} (h : Blk W g t cs) : W.setRow g cs = W := by
  have hlt : g < W.heap.size := h.lt
  have hv : W.heap[g] = .cells cs t (0, 0) := (Array.getElem?_eq_some_iff.1 h).2
  unfold World.setRow
  cases W with
  | mk heap tape drawn os output =>
    congr 1
    apply Array.ext
    · simp
    · intro k h1 h2
      simp only [Array.getElem_modify]
      split
      · rename_i hk; subst hk; simp at hv; simp [hv]
      · rfl
theorem run_storeCells_off (g k : Nat) (t : TypeId) : ∀ (vs : List Value) (i : Nat) (cur : Array Value) (w : World), Blk w g t cur → k + i + vs.length ≤ cur.size → (∀ v ∈ vs, v.oneCell' = true) →
    (storeCells ⟨g, k, none⟩ vs i).run Tryd.prog w = .ok () (w.setRow g (setMany cur (k + i) vs))
  | [], i, cur, w, hg, hl, _ => by
    simp only [storeCells, setMany]
    rw [setRow_self hg]
    rfl
  | v :: rest, i, cur, w, hg, hl, h1 => by
    have hi : k + i < cur.size := by simp at hl; omega
    have hadd : (⟨g, k, none⟩ : Addr).add i = ⟨g, k + i, none⟩ := Go.WideShapes.add_plain ..
    have hcell : w.cell? ⟨g, k + i, none⟩ = some cur[k + i] := hg.cell (k + i) _ (by simp [hi])
    have hfro : w.frozen? ⟨g, k + i, none⟩ = false := hg.frozen _
    have hst : (store ((⟨g, k, none⟩ : Addr).add i) v).run Tryd.prog w = .ok () (w.setRow g (cur.setIfInBounds (k + i) v)) := by
      rw [hadd, run_store Tryd.prog w _ v _ (h1 v (by simp)), hcell]
      simp [hfro, setCell_eq_setRow w g (k + i) cur t (0, 0) v hg]
    have ih := run_storeCells_off g k t rest (i + 1) (cur.setIfInBounds (k + i) v) (w.setRow g (cur.setIfInBounds (k + i) v)) (hg.set _) (by simp at hl ⊢; omega) (fun x hx => h1 x (by simp [hx]))
    simp only [storeCells, Sem.run_bind, hst, Result.andThen_ok, ih, setRow_setRow, setMany]
    rfl
theorem run_storeVar_off {W : World} {g k : Nat} {t ty : TypeId} {cur cells : Array Value} (h : Blk W g t cur) (hi : (Tryd.prog.info? ty).map (·.size) = some cells.size) (hl : k + cells.size ≤ cur.size) (h1 : cells.all (·.oneCell') = true) :
    (storeVar ty ⟨g, k, none⟩ (.agg cells)).run Tryd.prog W = .ok () (W.setRow g (setMany cur k cells.toList)) := by
  have := run_storeCells_off g k t cells.toList 0 cur W h (by simp; omega) (fun v hv => (Array.all_eq_true_iff_forall_mem.1 h1) v (by simpa using hv))
  cases hq : Tryd.prog.info? ty with
  | none => simp [hq] at hi
  | some i =>
    have hs : cells.size = i.size := by simp [hq] at hi; omega
    simp [storeVar, sizeOf, typeInfo, hq, Value.cells, hs, this]
theorem wpList_store_off {ops : Array Oper} {rest : List Oper} {o : Oper} {ac : Act} {Q : Exit → Act → World → Prop} {w : World} (hgd : o.guard = none) (ty : TypeId) (p x : Operand) (ho : o.op = Op.store ty p x) (g k : Nat) (t : TypeId) (cs cur new : Array Value)
    (hp : ac.eval p = .pointer (some ⟨g, k, none⟩)) (hx : ac.eval x = .agg cs) (hb : Blk w g t cur) (hi : (Tryd.prog.info? ty).map (·.size) = some cs.size) (hl : k + cs.size ≤ cur.size) (h1 : cs.all (·.oneCell') = true) (hn : setMany cur k cs.toList = new) (h : wpList Tryd.prog ops Q rest (ac.put o.dst undef) (w.setRow g new)) : wpList Tryd.prog ops Q (o :: rest) ac w := by
  refine wpList_plain hgd fun K hK => ?_
  subst hn
  unfold Oper.wp execOp
  simp only [ho, hp, hx, Instr.storeAt, Instr.sureAddr, Sem.run_bind, Sem.run_pure, Result.andThen_ok, run_storeVar_off hb hi hl h1]
  exact hK _ _ h
end Go.Proofs.YtgppfkbapieneaaDoor
