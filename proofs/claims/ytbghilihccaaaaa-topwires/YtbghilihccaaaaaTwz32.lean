/- Texts joined: FiL FiJ -/
import Derived.Test.YtbghilihccaaaaaTwz30
import Derived.Test.YtbghilihccaaaaaTwz31
import Derived.Deep.AppendLies
namespace Go.Proofs.Ytbghilihccaaaaa
open Go.RowKit
set_option linter.unusedVariables false
set_option linter.unusedSimpArgs false
/-- Where data of N bytes are cut: the place, the length, and whether more comes. -/
def cutL (N : Nat) : List Int → Nat → List (Nat × Nat × Bool)
  | [], k => [(k, N - k, false)]
  | c :: r, k => if N ≤ k + 8 * ((c % 4).toNat + 1) then [(k, N - k, false)] else (k, 8 * ((c % 4).toNat + 1), true) :: cutL N r (k + 8 * ((c % 4).toNat + 1))
structure CutOk (N : Nat) (k : Nat) (M : List (Nat × Nat × Bool)) : Prop where
  each : ∀ x ∈ M, k ≤ x.1 ∧ x.1 % 8 = 0 ∧ 1 ≤ x.2.1 ∧ x.1 + x.2.1 ≤ N ∧ (x.2.2 = true → x.2.1 % 8 = 0) ∧ (x.2.2 = false → x.1 + x.2.1 = N)
  pair : M.Pairwise fun x y => x.1 + x.2.1 ≤ y.1 ∧ x.2.2 = true
  sum : (M.map fun x => x.2.1).sum + k = N
  last : ∃ x ∈ M, x.2.2 = false
theorem cut_ok (N : Nat) : ∀ (cuts : List Int) (k : Nat), k < N → k % 8 = 0 → CutOk N k (cutL N cuts k)
  | [], k, h, h8 => by
    unfold cutL
    refine ⟨fun x hx => ?_, List.pairwise_singleton _ _, by simp; omega, ⟨_, List.mem_singleton.2 rfl, rfl⟩⟩
    obtain rfl := List.mem_singleton.1 hx
    simp; omega
  | c :: r, k, h, h8 => by
    unfold cutL
    split
    · refine ⟨fun x hx => ?_, List.pairwise_singleton _ _, by simp; omega, ⟨_, List.mem_singleton.2 rfl, rfl⟩⟩
      obtain rfl := List.mem_singleton.1 hx
      simp; omega
    · rename_i hn
      have ih := cut_ok N r (k + 8 * ((c % 4).toNat + 1)) (by omega) (by omega)
      refine ⟨fun x hx => ?_, List.pairwise_cons.2 ⟨fun y hy => ⟨(ih.each y hy).1, rfl⟩, ih.pair⟩, ?_, ?_⟩
      · rcases List.mem_cons.1 hx with rfl | hx
        · simp; omega
        · have := ih.each x hx
          refine ⟨by omega, this.2⟩
      · have := ih.sum
        simp only [List.map_cons, List.sum_cons]
        omega
      · obtain ⟨x, h1, h2⟩ := ih.last
        exact ⟨x, List.mem_cons_of_mem _ h1, h2⟩
theorem fl_len {α : Type} (f : α → List Value) (n : Nat) (hf : ∀ a, (f a).length = n) : ∀ L : List α, (L.flatMap f).length = L.length * n
  | [] => by simp
  | a :: r => by simp only [List.flatMap_cons, List.length_append, hf, fl_len f n hf r, List.length_cons, Nat.add_mul]; omega
theorem fl_get {α : Type} (f : α → List Value) (n : Nat) (hf : ∀ a, (f a).length = n) : ∀ (L : List α) (i j : Nat) (q : α), L[i]? = some q → j < n → (L.flatMap f)[i * n + j]? = (f q)[j]?
  | [], i, j, q, h, _ => by simp at h
  | a :: r, 0, j, q, h, hj => by
    obtain rfl : a = q := by simpa using h
    rw [List.flatMap_cons, Nat.zero_mul, Nat.zero_add, List.getElem?_append_left (by rw [hf]; exact hj)]
  | a :: r, i + 1, j, q, h, hj => by
    rw [List.flatMap_cons, List.getElem?_append_right (by rw [hf, Nat.add_mul]; omega), hf]
    have : (i + 1) * n + j - n = i * n + j := by rw [Nat.add_mul]; omega
    rw [this]
    exact fl_get f n hf r i j q (by simpa using h) hj
theorem fl_ext {α : Type} (f : α → List Value) (n : Nat) (hn : 0 < n) (hf : ∀ a, (f a).length = n) (L : List α) (xs : List Value) (hl : xs.length = L.length * n) (h : ∀ i j q, L[i]? = some q → j < n → xs[i * n + j]? = (f q)[j]?) : xs = L.flatMap f := by
  apply List.ext_getElem?
  intro k
  by_cases hk : k < L.length * n
  · have h1 : k / n < L.length := (Nat.div_lt_iff_lt_mul hn).2 hk
    have h2 : k % n < n := Nat.mod_lt _ hn
    have h3 : k / n * n + k % n = k := by rw [Nat.mul_comm]; exact Nat.div_add_mod k n
    have h4 : L[k / n]? = some L[k / n] := List.getElem?_eq_getElem h1
    have h5 := h (k / n) (k % n) _ h4 h2
    have h6 := fl_get f n hf L (k / n) (k % n) _ h4 h2
    rw [h3] at h5 h6
    rw [h5, h6]
  · rw [List.getElem?_eq_none (by omega), List.getElem?_eq_none (by rw [fl_len f n hf]; omega)]
theorem setMany_at : ∀ (vs : List Value) (cs : Array Value) (j k : Nat), j + vs.length ≤ cs.size → (setMany cs j vs)[k]? = if j ≤ k ∧ k < j + vs.length then vs[k - j]? else cs[k]?
  | [], cs, j, k, _ => by
    rw [if_neg (by simp only [List.length_nil]; omega)]
    rfl
  | v :: vs, cs, j, k, h => by
    have h' : j + (vs.length + 1) ≤ cs.size := by simpa using h
    unfold setMany
    rw [setMany_at vs (cs.setIfInBounds j v) (j + 1) k (by simp; omega)]
    by_cases h1 : k = j
    · subst h1
      rw [if_neg (by omega), if_pos (by simp), Array.getElem?_setIfInBounds_self]
      simp
      omega
    · by_cases h2 : j + 1 ≤ k ∧ k < j + 1 + vs.length
      · rw [if_pos h2, if_pos (by simp; omega)]
        have : k - j = (k - (j + 1)) + 1 := by omega
        rw [this, List.getElem?_cons_succ]
      · rw [if_neg h2, if_neg (by simp; omega), Array.getElem?_setIfInBounds_ne (by omega)]
theorem setMany_sz : ∀ (vs : List Value) (cs : Array Value) (j : Nat), (setMany cs j vs).size = cs.size
  | [], _, _ => rfl
  | v :: vs, cs, j => by unfold setMany; rw [setMany_sz]; simp
abbrev pc15 (L : List PkIn) : List Value := L.flatMap fun q => q.v.toList
theorem pkv_len (q : PkIn) : q.v.toList.length = 15 := rfl
/-- A slice of packets of one's own. -/
def ownP (w : World) (a : Option Addr) (c : Nat) (L : List PkIn) : Prop := w.ownsRow 0 42 15 (.slice a L.length c) L.length (pc15 L)
theorem ownP_nil (w : World) : ownP w none 0 [] := ⟨rfl, .inl ⟨rfl, rfl⟩⟩
theorem ownP.cases {w : World} {a : Option Addr} {c : Nat} {L : List PkIn} (h : ownP w a c L) : (a = none ∧ c = 0 ∧ L = []) ∨ ∃ g cur, a = some ⟨g, 0, none⟩ ∧ Blk w g 42 cur ∧ L.length ≤ c ∧ c ≤ maxLen ∧ cur.size = c * 15 ∧ cur.toList.take (L.length * 15) = pc15 L := by
  obtain ⟨h1, h2⟩ := h
  rcases h2 with ⟨h3, h4⟩ | ⟨g, cap, cur, h3, h4, h5, h6, h7, h8, h9⟩
  · simp only [Value.slice.injEq] at h3
    exact .inl ⟨h3.1, h3.2.2, List.eq_nil_of_length_eq_zero h4⟩
  · simp only [Value.slice.injEq] at h3
    exact .inr ⟨g, cur, h3.1, h5, by rw [h3.2.2]; exact h6, by rw [h3.2.2]; exact h7, by rw [h3.2.2]; exact h8, h9⟩
theorem ownP.at_ {w : World} {a : Option Addr} {c : Nat} {L : List PkIn} (h : ownP w a c L) {i : Nat} {q : PkIn} (hi : L[i]? = some q) : ∃ g, a = some ⟨g, 0, none⟩ ∧ CellsAt w g (i * 15) q.v := by
  have hlt : i < L.length := (List.getElem?_eq_some_iff.1 hi).1
  rcases h.cases with ⟨_, _, rfl⟩ | ⟨g, cur, h1, h2, h3, _, h4, h5⟩
  · simp at hi
  · refine ⟨g, h1, h2.lt, fun j v hj => h2.cell (i * 15 + j) v ?_⟩
    have hj' : j < 15 := (Array.getElem?_eq_some_iff.1 hj).1
    have h6 := fl_get (fun q : PkIn => q.v.toList) 15 pkv_len L i j q hi hj'
    have h7 : (cur.toList.take (L.length * 15))[i * 15 + j]? = q.v.toList[j]? := by rw [h5]; exact h6
    rw [List.getElem?_take_of_lt (by omega)] at h7
    rw [Array.getElem?_toList] at h7
    have h8 : q.v.toList[j]? = some v := by rw [Array.getElem?_toList]; exact hj
    rw [h7]; exact h8
theorem ownP.lt {w : World} {a : Option Addr} {c : Nat} {L : List PkIn} (h : ownP w a c L) {x : Addr} (hx : a = some x) : x.block < w.heap.size := by
  rcases h.cases with ⟨h2, _⟩ | ⟨g, cur, h2, h3, _⟩
  · rw [h2] at hx; cases hx
  · rw [h2] at hx; cases hx
    exact h3.lt
theorem ownP.but {F : Nat → Prop} {w w' : World} {a : Option Addr} {c : Nat} {L : List PkIn} (h : ownP w a c L) (hb : But F w w') (hn : Off F a) : ownP w' a c L :=
  ownsRow_block h (fun x hx => hb.block x.block (h.lt hx) (hn x hx))
theorem ownP.below {w w' : World} {a : Option Addr} {c : Nat} {L : List PkIn} (h : ownP w a c L) (hb : Below w.heap.size w w') : ownP w' a c L := h.but (But.of_below hb (fun _ => False)) (fun _ _ h => h)
theorem info_ip15 : (Try.prog.info? 42).map (fun i => (i.zero, i.size, i.bytes)) = some (some (.agg #[.int .i64 0, .int .i64 0, .int .u64 0, .int .u64 0, .int .i64 0, .int .u64 0, .int .u64 0, .int .i64 0, .int .i64 0, .bool false, .int .u32 0, .int .i64 0, .bool false, .slice none 0 0, .slice none 0 0]), 15, 144) := by kernel_rfl
theorem ownBlk_iff {a : Option Addr} {n c k : Nat} : (Value.slice a n c).ownBlock = some k ↔ ∃ x, a = some x ∧ x.block = k := by
  cases a with
  | none => simp [Value.ownBlock]
  | some x => simp [Value.ownBlock]
/-- append of one packet. -/
theorem run_appP (w : World) (ty : TypeId) (a : Option Addr) (c : Nat) (L : List PkIn) (g : Nat) (q : PkIn) (hO : ownP w a c L) (hS : CellsAt w g 0 q.v) (hl : L.length ≤ 1048576) :
    ∃ (a2 : Option Addr) (c2 : Nat) (w' : World), (Builtin.append_ #[54, 54] ty #[.slice a L.length c, .slice (some ⟨g, 0, none⟩) 1 1]).run Try.prog w = .ok (.slice a2 (L.length + 1) c2) w' ∧ ownP w' a2 c2 (L ++ [q]) ∧ But (fun k => ∃ x, a = some x ∧ x.block = k) w w' ∧ ∀ x, a2 = some x → (∃ y, a = some y ∧ y.block = x.block) ∨ w.heap.size ≤ x.block := by
  obtain ⟨i0, hi, hz0, hz1, hz2⟩ := info_parts info_ip15
  obtain ⟨v', w', r1, r2, r3, _, r5⟩ := run_append_own_at (P := Try.prog) w 0 54 ty 42 i0 _ 15 144 Try.underlying54 hi hz0 hz1 hz2 rfl (by decide) _ L.length (pc15 L) hO ⟨g, 0, none⟩ 1 1 q.v.toList rfl (fun j u hj => by
      have e0 : Addr.add ⟨g, 0, none⟩ j = ⟨g, 0 + j, none⟩ := Go.WideShapes.add_plain ..
      rw [e0]
      exact hS.2 j u (by simpa using hj)) (fun u hu => (Array.all_eq_true_iff_forall_mem.1 (show q.v.all (·.oneCell') = true by kernel_rfl)) u (by simpa using hu)) (by unfold maxLen; omega) (by omega) (by omega)
  obtain ⟨a2, c2, rfl⟩ : ∃ a2 c2, v' = .slice a2 (L.length + 1) c2 := by
    rcases r2.2 with ⟨h1, h2⟩ | ⟨g, cap, cur, h1, _⟩
    · exact absurd h2 (by omega)
    · exact ⟨_, _, h1⟩
  refine ⟨a2, c2, w', r1, ?_, (But.refl _ _).grown r3 (fun n hn => .inl (ownBlk_iff.1 hn)), fun x hx => ?_⟩
  · unfold ownP
    have e1 : (L ++ [q]).length = L.length + 1 := by simp
    have e2 : pc15 (L ++ [q]) = pc15 L ++ q.v.toList := by simp [pc15]
    rw [e1, e2]
    exact r2
  · have hk' := (ownBlk_iff (n := L.length + 1) (c := c2)).2 ⟨x, hx, rfl⟩
    rcases r5 with e | e
    · rw [e] at hk'; exact .inl (ownBlk_iff.1 hk')
    · rw [e] at hk'
      injection hk' with hk'
      exact .inr (Nat.le_of_eq hk')
theorem wpList_runP {ops : Array Oper} {rest : List Oper} {o : Oper} {a : Act} {Q : Exit → Act → World → Prop} (w : World) (hgd : o.guard = none) (s x : Operand)
    (ho : o.op = .call { callee := .builtin .append, args := #[s, x], argTypes := #[54, 54] }) (v u v' : Value) (w' : World) (hs : a.eval s = v) (hx : a.eval x = u)
    (hr : (Builtin.append_ #[54, 54] o.type #[v, u]).run Try.prog w = .ok v' w') (h : wpList Try.prog ops Q rest (a.put o.dst v') w') : wpList Try.prog ops Q (o :: rest) a w := by
  refine wpList_plain hgd fun K hK => ?_
  unfold Oper.wp execOp
  simp only [ho, resolve, invoke, builtin, Sem.run_bind, Sem.run_pure, Result.andThen_ok, List.map_toArray, List.map_cons, List.map_nil, hs, hx, hr]
  exact hK _ _ h
theorem step_load_at {ops : Array Oper} {o : Oper} {ac : Act} {K : Act → World → Prop} {Q : Exit → Act → World → Prop} {Z : Prop} {w : World} (hgd : o.guard = none) (ty : TypeId) (p : Operand) (ho : o.op = Op.load ty p) (g k : Nat) (hp : ac.eval p = .pointer (some ⟨g, k, none⟩)) (sub : Array Value)
    (hb : CellsAt w g k sub) {fs : _} (hu : Try.prog.underlying ty = some (.struct fs)) (hi : (Try.prog.info? ty).map (·.size) = some sub.size) (h : K (ac.put o.dst (.agg sub)) w) :
    if Region.wanted o (yielded ops ac.tmps) = true then Oper.wp Try.prog o ac w K Q else Z := by
  have hw : Region.wanted o (yielded ops ac.tmps) = true := by simp [Region.wanted, hgd]
  rw [if_pos hw]
  have hl := load_at hb hu hi
  unfold Oper.wp
  simp [execOp, ho, hp, Instr.loadAt, Instr.sureAddr, hl, Result.andThen]
  exact h
/-- A packet stored at the place i. -/
theorem ownP.put {w : World} {a : Option Addr} {c : Nat} {L : List PkIn} (h : ownP w a c L) {i : Nat} (hi : i < L.length) (q : PkIn) : ∃ g cur, a = some ⟨g, 0, none⟩ ∧ Blk w g 42 cur ∧ i * 15 + 15 ≤ cur.size ∧ ownP (w.setRow g (setMany cur (i * 15) q.v.toList)) a c (L.set i q) := by
  have h' := h
  obtain ⟨h1, h2⟩ := h'
  rcases h2 with ⟨h3, h4⟩ | ⟨g, cap, cur, h3, h4, h5, h6, h7, h8, h9⟩
  · omega
  · simp only [Value.slice.injEq] at h3
    obtain ⟨h3, _, h3'⟩ := h3
    have hle : i * 15 + 15 ≤ cur.size := by rw [h8]; have : (i + 1) * 15 ≤ cap * 15 := Nat.mul_le_mul_right 15 (by omega); omega
    refine ⟨g, cur, h3, h5, hle, ?_⟩
    unfold ownP
    rw [List.length_set]
    refine ⟨?_, .inr ⟨g, cap, setMany cur (i * 15) q.v.toList, by rw [h3, h3'], h4, Blk.set (show Blk w g 42 cur from h5) _, h6, h7, by rw [setMany_sz]; exact h8, ?_⟩⟩
    · rw [fl_len _ 15 pkv_len, List.length_set]
    · refine fl_ext (fun q : PkIn => q.v.toList) 15 (by omega) pkv_len _ _ ?_ (fun k j p hk hj => ?_)
      · simp only [List.length_take, Array.length_toList, setMany_sz, List.length_set]
        have : L.length * 15 ≤ cap * 15 := Nat.mul_le_mul_right 15 h6
        omega
      · have hkl : k < L.length := by have := (List.getElem?_eq_some_iff.1 hk).1; simpa using this
        have hkk : (k + 1) * 15 ≤ L.length * 15 := Nat.mul_le_mul_right 15 (by omega)
        rw [List.getElem?_take_of_lt (by omega), Array.getElem?_toList, setMany_at _ _ _ _ (by rw [pkv_len]; exact hle), pkv_len]
        by_cases hik : i = k
        · subst hik
          rw [List.getElem?_set_self (by omega)] at hk
          cases hk
          rw [if_pos (by omega)]
          congr 1
          omega
        · rw [List.getElem?_set_ne hik] at hk
          have hne : ¬ (i * 15 ≤ k * 15 + j ∧ k * 15 + j < i * 15 + 15) := by
            rintro ⟨p1, p2⟩
            rcases Nat.lt_or_ge i k with x | x
            · have : (i + 1) * 15 ≤ k * 15 := Nat.mul_le_mul_right 15 (by omega)
              omega
            · have : (k + 1) * 15 ≤ i * 15 := Nat.mul_le_mul_right 15 (by omega)
              omega
          rw [if_neg hne]
          have h6' := fl_get (fun q : PkIn => q.v.toList) 15 pkv_len L k j p hk hj
          have h7' : (cur.toList.take (L.length * 15))[k * 15 + j]? = p.v.toList[j]? := by rw [h9]; exact h6'
          rw [List.getElem?_take_of_lt (by omega), Array.getElem?_toList] at h7'
          exact h7'
end Go.Proofs.Ytbghilihccaaaaa
