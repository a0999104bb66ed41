/- Slices of bytes that the call itself made: what they own, how they grow by append, and how they read. -/
import Derived.Test.YtmlddgmkbbaccaaMem
import Derived.WalkKit
import Derived.Laws.AppendOwn
import Derived.Laws.AppendOwnNone
import Derived.Laws.OwnMore
import Derived.OwnWalk
import Derived.KernelRfl
namespace Go.Proofs.Ytmlddgmkbbaccaa
open Go.RowKit
set_option linter.unusedVariables false

theorem info_u8 : (Try.prog.info? 5).map (fun i => (i.zero, i.size, i.bytes)) = some (some (.int .u8 0), 1, 1) := by kernel_rfl

/-- The slice value v owns the bytes l, in a block of the call's own (from B on), or is nil and l empty. -/
def Owns (w : World) (B : Nat) (v : Value) (l : List Int) : Prop := w.ownsRow B 5 1 v l.length (l.map (Value.int .u8))

theorem Owns.form {w : World} {B : Nat} {v : Value} {l : List Int} (h : Owns w B v l) :
    ∃ a c, v = .slice a l.length c ∧ l.length ≤ c ∧ (a = none → c = 0) ∧ (∀ x, a = some x → B ≤ x.block ∧ x.off = 0 ∧ x.spot = none) ∧ v.ownBlock = a.map (·.block) := by
  obtain ⟨h1, h2⟩ := h
  rcases h2 with ⟨rfl, h3⟩ | ⟨g, cap, cur, rfl, h3, h4, h5, h6, h7, h8⟩
  · exact ⟨none, 0, by rw [h3], by omega, fun _ => rfl, fun _ h => (by cases h), rfl⟩
  · exact ⟨_, cap, rfl, h5, fun h => (by cases h), fun x hx => (by cases hx; exact ⟨h3, rfl, rfl⟩), rfl⟩

theorem Owns.row {w : World} {B : Nat} {a : Option Addr} {c : Nat} {l : List Int} (h : Owns w B (.slice a l.length c) l) (hs : l.length ≤ 140737488355328) (hb : M.Bytes l) : Row w a l := by
  refine ⟨hs, hb, fun hp => ?_⟩
  have h0 := h
  obtain ⟨h1, h2⟩ := h
  rcases h2 with ⟨h3, h4⟩ | ⟨g, cap, cur, h3, h4, h5, h6, h7, h8, h9⟩
  · omega
  · simp only [Value.slice.injEq] at h3
    obtain ⟨rfl, _, rfl⟩ := h3
    refine ⟨g, 0, rfl, fun i hi => ?_⟩
    have hc := World.ownsRow.cellAt (e := 5) (size := 1) h0 i (by omega)
    rw [Nat.zero_add, hc]
    simp [hi]

theorem Owns.nil (w : World) (B : Nat) : Owns w B (.slice none 0 0) [] := World.ownsRow_nil _ _ _ _
theorem Owns.alloc {w : World} {B : Nat} {v : Value} {l : List Int} (h : Owns w B v l) (o : Obj) : Owns (w.alloc o) B v l := World.ownsRow.alloc h o
theorem Owns.drewN {w : World} {B : Nat} {v : Value} {l : List Int} (h : Owns w B v l) (n : Nat) : Owns (w.drewN n) B v l := h

/-- Behind memory that only grew. -/
theorem Owns.below {w w' : World} {B : Nat} {v : Value} {l : List Int} (h : Owns w B v l) (hb : Below w.heap.size w w') : Owns w' B v l := by
  obtain ⟨h1, h2⟩ := h
  refine ⟨h1, ?_⟩
  rcases h2 with h2 | ⟨g, cap, cur, h3, h4, h5, h6⟩
  · exact .inl h2
  · refine .inr ⟨g, cap, cur, h3, h4, (hb.block g ?_).trans h5, h6⟩
    have := (Array.getElem?_eq_some_iff.1 h5).1
    exact this

theorem oneCell_u8 {l : List Int} : ∀ u ∈ l.map (Value.int .u8), u.oneCell' = true := by
  intro u hu
  obtain ⟨x, _, rfl⟩ := List.mem_map.1 hu
  rfl

/-- append(v, x...) on a slice of bytes of the call's own. -/
theorem wpList_app {ops : Array Oper} {rest : List Oper} {o : Oper} {ac : Act} {Q : Exit → Act → World → Prop} (w : World) (hgd : o.guard = none) (s x : Operand)
    (ho : o.op = .call { callee := .builtin .append, args := #[s, x], argTypes := #[74, 74] })
    (B : Nat) (v : Value) (xs : List Int) (hs : ac.eval s = v) (hown : Owns w B v xs)
    (a : Option Addr) (c : Nat) (l : List Int) (hx : ac.eval x = .slice a l.length c) (hrow : Row w a l) (hnil : a = none → c = 0)
    (hsum : xs.length + l.length ≤ 140737488355328) (hbase : B ≤ w.heap.size)
    (h : ∀ v' w', Owns w' B v' (xs ++ l) → w.grownBy w' v.ownBlock → wpList Try.prog ops Q rest (ac.put o.dst v') w') : wpList Try.prog ops Q (o :: rest) ac w := by
  obtain ⟨i0, hi, hz0, hz1, hz2⟩ := info_parts info_u8
  cases a with
  | none =>
    have hl : l = [] := by
      cases l with
      | nil => rfl
      | cons y l => obtain ⟨b, off, hh, _⟩ := hrow.cells (by simp); cases hh
    subst hl
    refine wpList_append_own_none hgd s x 74 ho B 5 i0 1 Try.underlying74 hi v xs.length (xs.map (Value.int .u8)) hs hown ?_ ?_
    · rw [hx, hnil rfl]; rfl
    · refine h v w (by simpa using hown) ⟨rfl, rfl, rfl, Nat.le_refl _, fun _ _ _ => rfl⟩
  | some ad =>
    refine wpList_append_own w hgd s x 74 ho B 5 i0 (.int .u8 0) 1 1 Try.underlying74 hi hz0 hz1 hz2 rfl (by decide) v xs.length (xs.map (Value.int .u8)) hs hown ad l.length c (l.map (Value.int .u8)) hx (by simp) ?_ oneCell_u8 (by unfold maxLen; omega) (by omega) hbase ?_
    · intro j u hj
      have hjl : j < l.length := by
        have := (List.getElem?_eq_some_iff.1 hj).1
        simpa using this
      obtain ⟨b, off, hh, hc⟩ := hrow.cells (by omega)
      cases hh
      have e1 : Addr.add ⟨b, off, none⟩ j = ⟨b, off + j, none⟩ := Go.WideShapes.add_plain ..
      rw [e1, hc j hjl]
      rw [← hj]
      simp [hjl]
    · intro v' w' h1 h2 _
      refine h v' w' ?_ h2
      show w'.ownsRow B 5 1 v' (xs ++ l).length ((xs ++ l).map (Value.int .u8))
      rw [List.length_append, List.map_append]
      exact h1

/-- The same, what is left told in one: the value's form, how it reads, and that nothing below B has turned. -/
theorem wpList_app2 {ops : Array Oper} {rest : List Oper} {o : Oper} {ac : Act} {Q : Exit → Act → World → Prop} (w : World) (hgd : o.guard = none) (s x : Operand)
    (ho : o.op = .call { callee := .builtin .append, args := #[s, x], argTypes := #[74, 74] })
    (B : Nat) (v : Value) (xs : List Int) (hs : ac.eval s = v) (hown : Owns w B v xs) (hxs : M.Bytes xs)
    (a : Option Addr) (c : Nat) (l : List Int) (hx : ac.eval x = .slice a l.length c) (hrow : Row w a l) (hnil : a = none → c = 0)
    (r : List Int) (hr : xs ++ l = r) (hsum : r.length ≤ 140737488355328) (hbase : B ≤ w.heap.size)
    (h : ∀ a' c' w', Owns w' B (.slice a' r.length c') r → r.length ≤ c' → (a' = none → c' = 0) → Row w' a' r → Below B w w' → w.grownBy w' v.ownBlock →
      wpList Try.prog ops Q rest (ac.put o.dst (.slice a' r.length c')) w') : wpList Try.prog ops Q (o :: rest) ac w := by
  subst hr
  refine wpList_app w hgd s x ho B v xs hs hown a c l hx hrow hnil (by simpa using hsum) hbase fun v' w' h1 h2 => ?_
  obtain ⟨a', c', rfl, h3, h4, h5, h6⟩ := h1.form
  refine h a' c' w' h1 h3 h4 (h1.row hsum (hxs.app hrow.bytes)) ((Below.refl _ _).grown h2 hbase fun k hk => ?_) h2
  exact (World.ownsRow.lt hown k hk).1

/-- (x % n + n) % n is a place among n. -/
theorem turn_place (x : Int) (n : Nat) (h0 : 0 < n) (hn : n ≤ 140737488355328) : ∃ i : Nat, i < n ∧ (wrap64 (x.tmod n + n)).tmod n = (i : Int) := by
  have h1 : -(n : Int) < x.tmod n := Int.lt_tmod_of_pos x (by omega)
  have h2 : x.tmod n < n := Int.tmod_lt_of_pos x (by omega)
  rw [wrap64_in _ (by omega) (by omega)]
  have h3 : 0 ≤ (x.tmod n + n).tmod n := Int.tmod_nonneg _ (by omega)
  have h4 : (x.tmod n + n).tmod n < n := Int.tmod_lt_of_pos _ (by omega)
  exact ⟨((x.tmod n + n).tmod n).toNat, by omega, by omega⟩

/-- The same over words: twice a place among n / 2. -/
theorem turn_word (x : Int) (n : Nat) (h0 : 0 < n) (he : n % 2 = 0) (hn : n ≤ 140737488355328) :
    ∃ i : Nat, wrap64 ((wrap64 (x.tmod ((n : Int) / 2) + (n : Int) / 2)).tmod ((n : Int) / 2) * 2) = (i : Int) ∧ i % 2 = 0 ∧ i + 1 < n := by
  obtain ⟨i, hi, e⟩ := turn_place x (n / 2) (by omega) (by omega)
  rw [show ((n / 2 : Nat) : Int) = (n : Int) / 2 by omega] at e
  rw [e, wrap64_in _ (by omega) (by omega)]
  exact ⟨i * 2, by omega, by omega, by omega⟩

theorem u8_xor_bd (x y : Int) : 0 ≤ bits .xor .u8 x y ∧ bits .xor .u8 x y ≤ 255 := by
  unfold bits
  rw [IntKind.wrap_u8]
  omega

/-- b[:len(b)&^1]. -/
theorem even_part {w : World} {a : Option Addr} {l : List Int} (h : Row w a l) (hm : l.length < 9223372036854775808) :
    ∃ l', bits .andNot .i64 (l.length : Int) 1 = (l'.length : Int) ∧ l'.length ≤ l.length ∧ l'.length % 2 = 0 ∧ Row w a l' := by
  have hl : (l.take (l.length - l.length % 2)).length = l.length - l.length % 2 := by rw [List.length_take]; omega
  exact ⟨l.take (l.length - l.length % 2), by rw [i64_andNot1 _ hm, hl], by omega, by omega, h.take _⟩

/-- b[k:]. -/
theorem Row.drop {w : World} {a : Option Addr} {l : List Int} (h : Row w a l) (c k : Nat) (hc : l.length ≤ c) : Row w (if c = k then a else a.map (fun x => x.add k)) (l.drop k) := by
  have hs := h.small
  refine ⟨by simp; omega, h.bytes.drop k, fun hp => ?_⟩
  have hk : k < l.length := by simp at hp; omega
  obtain ⟨b, off, rfl, hcc⟩ := h.cells (by omega)
  rw [if_neg (by omega)]
  refine ⟨b, off + k, by simp [Go.WideShapes.add_plain], fun i hi => ?_⟩
  have hi' : k + i < l.length := by simp at hi; omega
  rw [Nat.add_assoc, hcc (k + i) hi']
  simp
/-- The two bytes of a number below 65536, in a new block. -/
theorem word_row (w : World) (t : TypeId) (n : Nat) (S : Int) (hn : n = w.heap.size) (h0 : 0 ≤ S) (h1 : S ≤ 65535) :
    Row (w.alloc (.cells #[.int .u8 (IntKind.u8.wrap (S / 256)), .int .u8 (IntKind.u8.wrap S)] t)) (some ⟨n, 0, none⟩) [S / 256, S % 256] := by
  have e1 : IntKind.u8.wrap (S / 256) = S / 256 := by rw [IntKind.wrap_u8]; omega
  have e2 : IntKind.u8.wrap S = S % 256 := by rw [IntKind.wrap_u8]
  rw [e1, e2]
  refine row_at w t [S / 256, S % 256] n hn (by simp) ?_
  intro z hz
  simp at hz
  omega
theorem Row.cell {w : World} {g : Nat} {l : List Int} (h : Row w (some ⟨g, 0, none⟩) l) (i : Nat) (hi : i < l.length) : w.cell? ⟨g, i, none⟩ = some (.int .u8 (l.getD i 0)) := by
  obtain ⟨b, off, hh, hcc⟩ := h.cells (by omega)
  cases hh
  have := hcc i hi
  rwa [Nat.zero_add] at this
theorem Owns.at {w : World} {B c : Nat} {a : Option Addr} {l : List Int} (h : Owns w B (.slice a l.length c) l) (hr : Row w a l) (hp : 0 < l.length) : ∃ g, a = some ⟨g, 0, none⟩ ∧ B ≤ g := by
  obtain ⟨b, off, rfl, _⟩ := hr.cells hp
  obtain ⟨a', c', h1, _, _, h3, _⟩ := h.form
  cases h1
  have := h3 _ rfl
  simp at this
  exact ⟨b, by rw [this.2], this.1⟩

/-- A byte is written over in a slice of the call's own. -/
theorem Owns.stored {w : World} {B g c : Nat} {l : List Int} (h : Owns w B (.slice (some ⟨g, 0, none⟩) l.length c) l) (i : Nat) (y : Int) :
    Owns (w.setCell ⟨g, i, none⟩ (.int .u8 y)) B (.slice (some ⟨g, 0, none⟩) l.length c) (l.set i y) := by
  have := World.ownsRow.stored (e := 5) (size := 1) h i (.int .u8 y)
  replace this := this.1
  show World.ownsRow _ B 5 1 _ (l.set i y).length ((l.set i y).map (Value.int .u8))
  rw [List.length_set, List.map_set]
  exact this
theorem Owns.frozen {w : World} {B g c : Nat} {l : List Int} (h : Owns w B (.slice (some ⟨g, 0, none⟩) l.length c) l) (i : Nat) : w.frozen? ⟨g, i, none⟩ = false :=
  World.ownsRow.frozenAt (e := 5) (size := 1) h i
/-- Two bytes of a slice of the call's own change places. -/
theorem Owns.swap {w : World} {B g c : Nat} {l : List Int} (h : Owns w B (.slice (some ⟨g, 0, none⟩) l.length c) l) (i k : Nat) :
    Owns ((w.setCell ⟨g, i, none⟩ (.int .u8 (l.getD k 0))).setCell ⟨g, k, none⟩ (.int .u8 (l.getD i 0))) B (.slice (some ⟨g, 0, none⟩) (M.swap l i k).length c) (M.swap l i k) := by
  have h1 := h.stored i (l.getD k 0)
  rw [show l.length = (l.set i (l.getD k 0)).length by simp] at h1
  have h2 := h1.stored k (l.getD i 0)
  rw [List.length_set] at h2
  rw [M.swap_length]
  exact h2
/-- What the law needs behind an exchange: all that it needed ahead of it. -/
theorem swap_step {w0 w : World} {B g c : Nat} {l : List Int} (h : Owns w B (.slice (some ⟨g, 0, none⟩) l.length c) l) (hs : l.length ≤ 140737488355328) (hb : M.Bytes l) (hg : B ≤ g) (hbw : Below B w0 w) (i k : Nat) :
    Owns (((w.setCell ⟨g, i, none⟩ (.int .u8 (l.getD k 0))).setCell ⟨g, k, none⟩ (.int .u8 (l.getD i 0))).drew) B (.slice (some ⟨g, 0, none⟩) (M.swap l i k).length c) (M.swap l i k) ∧
    Row (((w.setCell ⟨g, i, none⟩ (.int .u8 (l.getD k 0))).setCell ⟨g, k, none⟩ (.int .u8 (l.getD i 0))).drew) (some ⟨g, 0, none⟩) (M.swap l i k) ∧
    Below B w0 (((w.setCell ⟨g, i, none⟩ (.int .u8 (l.getD k 0))).setCell ⟨g, k, none⟩ (.int .u8 (l.getD i 0))).drew) := by
  have h1 := h.swap i k
  exact ⟨h1, Owns.row (w := (((w.setCell ⟨g, i, none⟩ (.int .u8 (l.getD k 0))).setCell ⟨g, k, none⟩ (.int .u8 (l.getD i 0))).drew)) h1 (by rw [M.swap_length]; exact hs) (M.swap_bytes hb i k), ((hbw.setCell hg _).setCell hg _).drew⟩
/-- What the law needs behind an exchange: all that it needed ahead of it (ahead of the draw). -/
theorem swap_stepp {w0 w : World} {B g c : Nat} {l : List Int} (h : Owns w B (.slice (some ⟨g, 0, none⟩) l.length c) l) (hs : l.length ≤ 140737488355328) (hb : M.Bytes l) (hg : B ≤ g) (hbw : Below B w0 w) (i k : Nat) :
    Owns ((w.setCell ⟨g, i, none⟩ (.int .u8 (l.getD k 0))).setCell ⟨g, k, none⟩ (.int .u8 (l.getD i 0))) B (.slice (some ⟨g, 0, none⟩) (M.swap l i k).length c) (M.swap l i k) ∧
    Row ((w.setCell ⟨g, i, none⟩ (.int .u8 (l.getD k 0))).setCell ⟨g, k, none⟩ (.int .u8 (l.getD i 0))) (some ⟨g, 0, none⟩) (M.swap l i k) ∧
    Below B w0 ((w.setCell ⟨g, i, none⟩ (.int .u8 (l.getD k 0))).setCell ⟨g, k, none⟩ (.int .u8 (l.getD i 0))) := by
  have h1 := h.swap i k
  exact ⟨h1, Owns.row (w := ((w.setCell ⟨g, i, none⟩ (.int .u8 (l.getD k 0))).setCell ⟨g, k, none⟩ (.int .u8 (l.getD i 0)))) h1 (by rw [M.swap_length]; exact hs) (M.swap_bytes hb i k), (hbw.setCell hg _).setCell hg _⟩
end Go.Proofs.Ytmlddgmkbbaccaa
