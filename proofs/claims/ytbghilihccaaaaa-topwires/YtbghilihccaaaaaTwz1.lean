/- Texts joined: App Reads Parts Adr Pre -/
import Derived.Test.YtbghilihccaaaaaTwz0
import Derived.WalkKit
import Derived.Laws.AppendOwn
import Derived.Laws.AppendOwnNone
import Derived.Laws.OwnMore
import Derived.OwnWalk
import Derived.KernelRfl
import Derived.Deep.QuietTactic
import Derived.BigQuiet
import Derived.Laws.BytesArg
import Derived.Laws.MakeOwn
import Derived.Test.YtbghilihccaaaaaRows
import Derived.Laws.BitsAllLaws
import Derived.Laws.BitsLemmas
import Derived.Laws.Bits128
import Derived.Laws.Shifts
import Derived.Laws.ShiftsVarLaws
import Derived.Laws.StructEq
import Derived.Deep.RegionWith
import Derived.Deep.DeepCutAuto
namespace Go.Proofs.Ytbghilihccaaaaa
open Go.RowKit
set_option linter.unusedVariables false
theorem info_u8 : (Try.prog.info? 5).map (fun i => (i.zero, i.size, i.bytes)) = some (some (.int .u8 0), 1, 1) := by kernel_rfl
/-- The slice value v owns the bytes l, in a block of the call's own (from B on), or is nil and l empty. -/
def Owns (w : World) (B : Nat) (v : Value) (l : List Int) : Prop := w.ownsRow B 5 1 v l.length (l.map (Value.int .u8))
theorem Owns.form {w : World} {B : Nat} {v : Value} {l : List Int} (h : Owns w B v l) :
    ∃ a c, v = .slice a l.length c ∧ l.length ≤ c ∧ (a = none → c = 0) ∧ (∀ x, a = some x → B ≤ x.block ∧ x.off = 0 ∧ x.spot = none) ∧ v.ownBlock = a.map (·.block) := by
  obtain ⟨h1, h2⟩ := h
  rcases h2 with ⟨rfl, h3⟩ | ⟨g, cap, cur, rfl, h3, h4, h5, h6, h7, h8⟩
  · exact ⟨none, 0, by rw [h3], by omega, fun _ => rfl, fun _ h => (by cases h), rfl⟩
  · exact ⟨_, cap, rfl, h5, fun h => (by cases h), fun x hx => (by cases hx; exact ⟨h3, rfl, rfl⟩), rfl⟩
theorem Owns.row {w : World} {B : Nat} {a : Option Addr} {c : Nat} {l : List Int} (h : Owns w B (.slice a l.length c) l) (hs : l.length ≤ 140737488355328) (hb : M.Bytes l) : Row w a l := by
  refine ⟨hs, hb, fun hp => ?_⟩
  have h0 := h
  obtain ⟨h1, h2⟩ := h
  rcases h2 with ⟨h3, h4⟩ | ⟨g, cap, cur, h3, h4, h5, h6, h7, h8, h9⟩
  · omega
  · simp only [Value.slice.injEq] at h3
    obtain ⟨rfl, _, rfl⟩ := h3
    refine ⟨g, 0, rfl, fun i hi => ?_⟩
    have hc := World.ownsRow.cellAt (e := 5) (size := 1) h0 i (by omega)
    rw [Nat.zero_add, hc]
    simp [hi]
theorem Owns.nil (w : World) (B : Nat) : Owns w B (.slice none 0 0) [] := World.ownsRow_nil _ _ _ _
theorem Owns.alloc {w : World} {B : Nat} {v : Value} {l : List Int} (h : Owns w B v l) (o : Obj) : Owns (w.alloc o) B v l := World.ownsRow.alloc h o
theorem Owns.drewN {w : World} {B : Nat} {v : Value} {l : List Int} (h : Owns w B v l) (n : Nat) : Owns (w.drewN n) B v l := h
/-- Behind memory that only grew. -/
theorem Owns.below {w w' : World} {B : Nat} {v : Value} {l : List Int} (h : Owns w B v l) (hb : Below w.heap.size w w') : Owns w' B v l := by
  obtain ⟨h1, h2⟩ := h
  refine ⟨h1, ?_⟩
  rcases h2 with h2 | ⟨g, cap, cur, h3, h4, h5, h6⟩
  · exact .inl h2
  · refine .inr ⟨g, cap, cur, h3, h4, (hb.block g ?_).trans h5, h6⟩
    have := (Array.getElem?_eq_some_iff.1 h5).1
    exact this
theorem oneCell_u8 {l : List Int} : ∀ u ∈ l.map (Value.int .u8), u.oneCell' = true := by
  intro u hu
  obtain ⟨x, _, rfl⟩ := List.mem_map.1 hu
  rfl
/-- append(v, x...) on a slice of bytes of the call's own. -/
theorem wpList_app {ops : Array Oper} {rest : List Oper} {o : Oper} {ac : Act} {Q : Exit → Act → World → Prop} (w : World) (hgd : o.guard = none) (s x : Operand)
    (ho : o.op = .call { callee := .builtin .append, args := #[s, x], argTypes := #[40, 40] })
    (B : Nat) (v : Value) (xs : List Int) (hs : ac.eval s = v) (hown : Owns w B v xs)
    (a : Option Addr) (c : Nat) (l : List Int) (hx : ac.eval x = .slice a l.length c) (hrow : Row w a l) (hnil : a = none → c = 0)
    (hsum : xs.length + l.length ≤ 140737488355328) (hbase : B ≤ w.heap.size)
    (h : ∀ v' w', Owns w' B v' (xs ++ l) → w.grownBy w' v.ownBlock → wpList Try.prog ops Q rest (ac.put o.dst v') w') : wpList Try.prog ops Q (o :: rest) ac w := by
  obtain ⟨i0, hi, hz0, hz1, hz2⟩ := info_parts info_u8
  cases a with
  | none =>
    have hl : l = [] := by
      cases l with
      | nil => rfl
      | cons y l => obtain ⟨b, off, hh, _⟩ := hrow.cells (by simp); cases hh
    subst hl
    refine wpList_append_own_none hgd s x 40 ho B 5 i0 1 Try.underlying40 hi v xs.length (xs.map (Value.int .u8)) hs hown ?_ ?_
    · rw [hx, hnil rfl]; rfl
    · refine h v w (by simpa using hown) ⟨rfl, rfl, rfl, Nat.le_refl _, fun _ _ _ => rfl⟩
  | some ad =>
    refine wpList_append_own w hgd s x 40 ho B 5 i0 (.int .u8 0) 1 1 Try.underlying40 hi hz0 hz1 hz2 rfl (by decide) v xs.length (xs.map (Value.int .u8)) hs hown ad l.length c (l.map (Value.int .u8)) hx (by simp) ?_ oneCell_u8 (by unfold maxLen; omega) (by omega) hbase ?_
    · intro j u hj
      have hjl : j < l.length := by
        have := (List.getElem?_eq_some_iff.1 hj).1
        simpa using this
      obtain ⟨b, off, hh, hc⟩ := hrow.cells (by omega)
      cases hh
      have e1 : Addr.add ⟨b, off, none⟩ j = ⟨b, off + j, none⟩ := Go.WideShapes.add_plain ..
      rw [e1, hc j hjl]
      rw [← hj]
      simp [hjl]
    · intro v' w' h1 h2 _
      refine h v' w' ?_ h2
      show w'.ownsRow B 5 1 v' (xs ++ l).length ((xs ++ l).map (Value.int .u8))
      rw [List.length_append, List.map_append]
      exact h1
/-- The same, what is left told in one: the value's form, how it reads, and that nothing below B has turned. -/
theorem wpList_app2 {ops : Array Oper} {rest : List Oper} {o : Oper} {ac : Act} {Q : Exit → Act → World → Prop} (w : World) (hgd : o.guard = none) (s x : Operand)
    (ho : o.op = .call { callee := .builtin .append, args := #[s, x], argTypes := #[40, 40] })
    (B : Nat) (v : Value) (xs : List Int) (hs : ac.eval s = v) (hown : Owns w B v xs) (hxs : M.Bytes xs)
    (a : Option Addr) (c : Nat) (l : List Int) (hx : ac.eval x = .slice a l.length c) (hrow : Row w a l) (hnil : a = none → c = 0)
    (r : List Int) (hr : xs ++ l = r) (hsum : r.length ≤ 140737488355328) (hbase : B ≤ w.heap.size)
    (h : ∀ a' c' w', Owns w' B (.slice a' r.length c') r → r.length ≤ c' → (a' = none → c' = 0) → Row w' a' r → Below B w w' → w.grownBy w' v.ownBlock →
      wpList Try.prog ops Q rest (ac.put o.dst (.slice a' r.length c')) w') : wpList Try.prog ops Q (o :: rest) ac w := by
  subst hr
  refine wpList_app w hgd s x ho B v xs hs hown a c l hx hrow hnil (by simpa using hsum) hbase fun v' w' h1 h2 => ?_
  obtain ⟨a', c', rfl, h3, h4, h5, h6⟩ := h1.form
  refine h a' c' w' h1 h3 h4 (h1.row hsum (hxs.app hrow.bytes)) ((Below.refl _ _).grown h2 hbase fun k hk => ?_) h2
  exact (World.ownsRow.lt hown k hk).1
/-- b[k:]. -/
theorem Row.drop {w : World} {a : Option Addr} {l : List Int} (h : Row w a l) (c k : Nat) (hc : l.length ≤ c) : Row w (if c = k then a else a.map (fun x => x.add k)) (l.drop k) := by
  have hs := h.small
  refine ⟨by simp; omega, h.bytes.drop k, fun hp => ?_⟩
  have hk : k < l.length := by simp at hp; omega
  obtain ⟨b, off, rfl, hcc⟩ := h.cells (by omega)
  rw [if_neg (by omega)]
  refine ⟨b, off + k, by simp [Go.WideShapes.add_plain], fun i hi => ?_⟩
  have hi' : k + i < l.length := by simp at hi; omega
  rw [Nat.add_assoc, hcc (k + i) hi']
  simp
theorem Row.cell {w : World} {g : Nat} {l : List Int} (h : Row w (some ⟨g, 0, none⟩) l) (i : Nat) (hi : i < l.length) : w.cell? ⟨g, i, none⟩ = some (.int .u8 (l.getD i 0)) := by
  obtain ⟨b, off, hh, hcc⟩ := h.cells (by omega)
  cases hh
  have := hcc i hi
  rwa [Nat.zero_add] at this
theorem Owns.at {w : World} {B c : Nat} {a : Option Addr} {l : List Int} (h : Owns w B (.slice a l.length c) l) (hr : Row w a l) (hp : 0 < l.length) : ∃ g, a = some ⟨g, 0, none⟩ ∧ B ≤ g := by
  obtain ⟨b, off, rfl, _⟩ := hr.cells hp
  obtain ⟨a', c', h1, _, _, h3, _⟩ := h.form
  cases h1
  have := h3 _ rfl
  simp at this
  exact ⟨b, by rw [this.2], this.1⟩
/-- A byte is written over in a slice of the call's own. -/
theorem Owns.stored {w : World} {B g c : Nat} {l : List Int} (h : Owns w B (.slice (some ⟨g, 0, none⟩) l.length c) l) (i : Nat) (y : Int) :
    Owns (w.setCell ⟨g, i, none⟩ (.int .u8 y)) B (.slice (some ⟨g, 0, none⟩) l.length c) (l.set i y) := by
  have := World.ownsRow.stored (e := 5) (size := 1) h i (.int .u8 y)
  replace this := this.1
  show World.ownsRow _ B 5 1 _ (l.set i y).length ((l.set i y).map (Value.int .u8))
  rw [List.length_set, List.map_set]
  exact this
theorem Owns.frozen {w : World} {B g c : Nat} {l : List Int} (h : Owns w B (.slice (some ⟨g, 0, none⟩) l.length c) l) (i : Nat) : w.frozen? ⟨g, i, none⟩ = false :=
  World.ownsRow.frozenAt (e := 5) (size := 1) h i
/-- Two bytes of a slice of the call's own change places. -/
theorem Owns.swap {w : World} {B g c : Nat} {l : List Int} (h : Owns w B (.slice (some ⟨g, 0, none⟩) l.length c) l) (i k : Nat) :
    Owns ((w.setCell ⟨g, i, none⟩ (.int .u8 (l.getD k 0))).setCell ⟨g, k, none⟩ (.int .u8 (l.getD i 0))) B (.slice (some ⟨g, 0, none⟩) (M.swap l i k).length c) (M.swap l i k) := by
  have h1 := h.stored i (l.getD k 0)
  rw [show l.length = (l.set i (l.getD k 0)).length by simp] at h1
  have h2 := h1.stored k (l.getD i 0)
  rw [List.length_set] at h2
  rw [M.swap_length]
  exact h2
theorem tup_int {k : IntKind} {a b : Int} {c : Bool} (h : a = b) : Ending.returned (.tuple #[.int k a, .bool c]) = .returned (.tuple #[.int k b, .bool c]) := by rw [h]
/-- Whether n bytes from at on lie among len. -/
def liesB (len : Nat) (at_ n : Int) : Bool := decide (0 ≤ at_ ∧ 0 ≤ n ∧ n ≤ (len : Int) - at_)
set_option maxHeartbeats 400000 in
theorem lies_any (a : Option Addr) (len cap : Nat) (x n : Int) (w : World) (hl : len ≤ 140737488355328) (hx : -9223372036854775808 ≤ x ∧ x ≤ 9223372036854775807) :
    Calls Try.prog 78 #[.slice a len cap, .int .i64 x, .int .i64 n] w fun e w' => e = .returned (.bool (liesB len x n)) ∧ w' = w := by
  by_cases h1 : 0 ≤ x
  · by_cases h2 : 0 ≤ n
    · by_cases h3 : n ≤ (len : Int) - x
      · have e : liesB len x n = true := by unfold liesB; simp; omega
        rw [e]; clear e
        go_enter Try.func78, Try.ntmps78
        go_wp2
        go_ret
        simp
      · have e : liesB len x n = false := by unfold liesB; simp; omega
        rw [e]; clear e
        go_enter Try.func78, Try.ntmps78
        go_wp2
        go_ret
        simp
    · have e : liesB len x n = false := by unfold liesB; simp; omega
      rw [e]; clear e
      go_enter Try.func78, Try.ntmps78
      go_wp2
      go_ret
      simp
  · have e : liesB len x n = false := by unfold liesB; simp; omega
    rw [e]; clear e
    go_enter Try.func78, Try.ntmps78
    go_wp2
    go_ret
    simp
/-- The number in two bytes. -/
def u16 (l : List Int) (x : Int) : Int := 256 * l.getD x.toNat 0 + l.getD (x.toNat + 1) 0
/-- The number in four bytes. -/
def u32 (l : List Int) (x : Int) : Int := 16777216 * l.getD x.toNat 0 + 65536 * l.getD (x.toNat + 1) 0 + 256 * l.getD (x.toNat + 2) 0 + l.getD (x.toNat + 3) 0
set_option maxHeartbeats 400000 in
theorem u16_yes (a : Option Addr) (cap : Nat) (l : List Int) (x : Int) (w : World) (h : Row w a l) (hx0 : 0 ≤ x) (hx1 : x + 2 ≤ l.length) :
    Calls Try.prog 59 #[.slice a l.length cap, .int .i64 x] w fun e w' => e = .returned (.tuple #[.int .i64 (u16 l x), .bool true]) ∧ ∃ n, w' = w.drewN n := by
  have hs := h.small
  have hn : liesB l.length x 2 = true := by unfold liesB; simp; omega
  obtain ⟨b, off, rfl, hc⟩ := h.cells (by omega)
  obtain ⟨k, rfl⟩ := Int.eq_ofNat_of_zero_le hx0
  have c0 := hc k (by omega)
  have c1 := hc (k + 1) (by omega)
  have b0 := h.bytes.get k
  have b1 := h.bytes.get (k + 1)
  have hu : u16 l k = 256 * l.getD k 0 + l.getD (k + 1) 0 := rfl
  rw [hu]
  clear hc hu
  generalize l.getD k 0 = y0 at *
  generalize l.getD (k + 1) 0 = y1 at *
  have k1 : (k : Int) + 1 < (l.length : Int) := by omega
  go_enter Try.func59, Try.ntmps59
  go_wp2_with (go_at_call 78; refine (lies_any _ _ _ _ _ _ hs (by omega)).mono ?_; rintro e w' ⟨rfl, rfl⟩)
  go_quiet (fail)
  go_wp2
  go_ret2
  exact ⟨tup_int (i64_or8 _ _ b0.1 b0.2 b1.1 b1.2), nq, rfl⟩
set_option maxHeartbeats 400000 in
theorem u32_yes (a : Option Addr) (cap : Nat) (l : List Int) (x : Int) (w : World) (h : Row w a l) (hx0 : 0 ≤ x) (hx1 : x + 4 ≤ l.length) :
    Calls Try.prog 92 #[.slice a l.length cap, .int .i64 x] w fun e w' => e = .returned (.tuple #[.int .u32 (u32 l x), .bool true]) ∧ ∃ n, w' = w.drewN n := by
  have hs := h.small
  have hn : liesB l.length x 4 = true := by unfold liesB; simp; omega
  obtain ⟨b, off, rfl, hc⟩ := h.cells (by omega)
  obtain ⟨k, rfl⟩ := Int.eq_ofNat_of_zero_le hx0
  have c0 := hc k (by omega)
  have c1 := hc (k + 1) (by omega)
  have c2 := hc (k + 2) (by omega)
  have c3 := hc (k + 3) (by omega)
  have b0 := h.bytes.get k
  have b1 := h.bytes.get (k + 1)
  have b2 := h.bytes.get (k + 2)
  have b3 := h.bytes.get (k + 3)
  have hu : u32 l k = 16777216 * l.getD k 0 + 65536 * l.getD (k + 1) 0 + 256 * l.getD (k + 2) 0 + l.getD (k + 3) 0 := rfl
  rw [hu]
  clear hc hu
  generalize l.getD k 0 = y0 at *
  generalize l.getD (k + 1) 0 = y1 at *
  generalize l.getD (k + 2) 0 = y2 at *
  generalize l.getD (k + 3) 0 = y3 at *
  have k1 : (k : Int) + 1 < (l.length : Int) := by omega
  have k2 : (k : Int) + 2 < (l.length : Int) := by omega
  have k3 : (k : Int) + 3 < (l.length : Int) := by omega
  go_enter Try.func92, Try.ntmps92
  go_wp2_with (go_at_call 78; refine (lies_any _ _ _ _ _ _ hs (by omega)).mono ?_; rintro e w' ⟨rfl, rfl⟩)
  go_quiet (fail)
  go_wp2
  go_ret2
  refine ⟨tup_int ?_, nq, rfl⟩
  exact u32_or4 _ _ _ _ b0.1 b0.2 b1.1 b1.2 b2.1 b2.2 b3.1 b3.2
/-- A value that the call made: a slice of the bytes l in memory of its own. -/
structure Fresh (w w' : World) (a : Option Addr) (c : Nat) (l : List Int) : Prop where
  owns : Owns w' w.heap.size (.slice a l.length c) l
  room : l.length ≤ c
  nil : a = none → c = 0
  row : Row w' a l
  below : Below w.heap.size w w'
theorem conv_row {w : World} {a : Option Addr} {l : List Int} (h : Row w a l) (c : Nat) : (convert 40 9 (.slice a l.length c)).run Try.prog w = .ok (.string (strOfNums l)) w := by
  cases a with
  | none =>
    have hl : l = [] := by
      cases l with
      | nil => rfl
      | cons y l => obtain ⟨b, off, hh, _⟩ := h.cells (by simp); cases hh
    subst hl
    exact run_convert_bytes_nil w _ 5 Try.underlying40 Try.underlying5 _ _ _ Try.underlying9
  | some x =>
    by_cases hp : 0 < l.length
    · obtain ⟨b, off, hh, hc⟩ := h.cells hp
      cases hh
      exact run_convert_bytes_arg w _ 5 Try.underlying40 Try.underlying5 b off _ _ l rfl hc _ Try.underlying9
    · have hl : l = [] := by cases l with | nil => rfl | cons _ _ => simp at hp
      subst hl
      rw [run_convert_bytes_string w _ _ 5 _ _ _ Try.underlying40 Try.underlying5 Try.underlying9]
      show Sem.run _ (Conv.bytesToString (.slice (some x) 0 c)) w = _
      rw [run_bytesToString w x 0 c [] (by
        have := run_loadCells_list (P := Try.prog) w x [] (fun j v hj => by simp at hj)
        simpa using this)]
      rfl
set_option maxHeartbeats 400000 in
theorem longer_any (a : Option Addr) (c : Nat) (l : List Int) (n : Int) (w : World) (h : Row w a l) (hnil : a = none → c = 0) (hl : l.length ≤ 140737488351232) (h0 : 0 ≤ n) (h1 : n ≤ 4096) :
    Calls Try.prog 75 #[.slice a l.length c, .int .i64 n] w fun e w' => ∃ a' c', e = .returned (.slice a' l.length c') ∧ Fresh w w' a' c' l := by
  obtain ⟨i0, hi, hz0, hz1, hz2⟩ := info_parts info_u8
  go_enter Try.func75, Try.ntmps75
  go_wp2_with (first
    | (at_make; refine wpList_make_own _ rfl _ _ 40 rfl w.heap.size 5 i0 (.int .u8 0) 1 Try.underlying40 hi hz0 hz1 _ _ _ (l.length + n.toNat) rfl rfl (by omega) (by rw [hz2]; omega) (by unfold maxLen; omega) (Nat.le_refl _) ?_))
  intro w1 ho1 hg1
  have hb1 : Below w.heap.size w w1 := (Below.refl _ _).grown hg1 (Nat.le_refl _) (fun k hk => by cases hk)
  have hr1 := h.below hb1
  have hz := hb1.size
  clear hi hz0 hz1 hz2
  go_wp2_with (at_builtin; refine wpList_app2 _ rfl _ _ rfl w.heap.size _ [] rfl ho1 M.Bytes.nil a c l rfl hr1 hnil l rfl ?c1 hz ?_)
  case c1 => omega
  intro a2 c2 w2 ho2 hc2 hn2 hr2 hb2 _
  go_wp2
  go_ret
  exact ⟨a2, c2, rfl, ho2, hc2, hn2, hr2, hb1.trans hb2⟩
/-- The n bytes from x on. -/
def part (l : List Int) (x n : Int) : List Int := (l.drop x.toNat).take n.toNat
set_option maxHeartbeats 400000 in
theorem part_yes (a : Option Addr) (c : Nat) (l : List Int) (x n : Int) (w : World) (h : Row w a l) (hnil : a = none → c = 0) (hl : l.length ≤ 140737488351232) (hc : l.length ≤ c) (hcm : c ≤ 9223372036854775807) (hx : 0 ≤ x) (hn0 : 0 ≤ n) (hn : n ≤ (l.length : Int) - x) :
    Calls Try.prog 61 #[.slice a l.length c, .int .i64 x, .int .i64 n] w fun e w' => ∃ a' c', e = .returned (.tuple #[.slice a' (part l x n).length c', .bool true]) ∧ Fresh w w' a' c' (part l x n) := by
  have hl' : l.length ≤ 140737488355328 := by omega
  have hy : liesB l.length x n = true := by unfold liesB; simp; omega
  obtain ⟨k, rfl⟩ := Int.eq_ofNat_of_zero_le hx
  obtain ⟨j, rfl⟩ := Int.eq_ofNat_of_zero_le hn0
  obtain ⟨a2, ha2⟩ : ∃ a2, (if c = k then a else Option.map (fun x => x.add k) a) = a2 := ⟨_, rfl⟩
  have h2 : Row w a2 (part l k j) := by rw [← ha2]; exact (h.drop c k hc).take j
  have hn2 : a2 = none → c - k = 0 := by
    intro hh
    rw [← ha2] at hh
    split at hh
    · omega
    · cases a with
      | none => have := hnil rfl; omega
      | some _ => cases hh
  have hlen : (part l k j).length = j := by unfold part; simp; omega
  generalize part l k j = r at *
  have hj : j = r.length := hlen.symm
  subst hj
  clear hlen
  go_enter Try.func61, Try.ntmps61
  go_wp2_with (first
    | (go_at_call 78; refine (lies_any _ _ _ _ _ _ hl' (by omega)).mono ?_; rintro e w' ⟨rfl, rfl⟩)
    | (go_at_call 75; refine (longer_any _ _ r _ _ h2 hn2 (by omega) (by omega) (by omega)).mono ?_; rintro e w' ⟨a', c', rfl, hf⟩))
  go_ret2
  exact ⟨a', c', rfl, hf⟩
end Go.Proofs.Ytbghilihccaaaaa
namespace Go.Proofs.Ytbghilihccaaaaa
open Go.RowKit
set_option linter.unusedVariables false
set_option linter.unusedSimpArgs false
/-- An address, as three numbers. -/
structure Ad where
  fam : Int
  hi : Int
  lo : Int
/-- Its numbers lie in their kinds. -/
def Ad.ok (a : Ad) : Prop := (-9223372036854775808 ≤ a.fam ∧ a.fam ≤ 9223372036854775807) ∧ (0 ≤ a.hi ∧ a.hi ≤ 18446744073709551615) ∧ (0 ≤ a.lo ∧ a.lo ≤ 18446744073709551615)
abbrev Ad.v (a : Ad) : Value := .agg #[.int .i64 a.fam, .int .u64 a.hi, .int .u64 a.lo]
def Ad.right (a : Ad) : Bool := if a.fam = 4 then (a.hi == 0) && (a.lo / 4294967296 == 0) else a.fam == 6
def Ad.width (a : Ad) : Int := if a.fam = 4 then 32 else 128
theorem width_any (f h l : Int) (w : World) :
    Calls Try.prog 76 #[.agg #[.int .i64 f, .int .u64 h, .int .u64 l]] w fun e w' => e = .returned (.int .i64 (Ad.width ⟨f, h, l⟩)) ∧ w' = w.alloc (.cells #[.int .i64 f, .int .u64 h, .int .u64 l] 37) := by
  go_enter Try.func76, Try.ntmps76
  by_cases hf : f = 4
  · go_wp2
    go_ret
    exact ⟨ret_int (by simp [Ad.width, hf]), by simp [*]⟩
  · go_wp2
    go_ret
    exact ⟨ret_int (by simp [Ad.width, hf]), by simp [*]⟩
theorem right_any (f h l : Int) (w : World) :
    Calls Try.prog 71 #[.agg #[.int .i64 f, .int .u64 h, .int .u64 l]] w fun e w' => e = .returned (.bool (Ad.right ⟨f, h, l⟩)) ∧ w' = w.alloc (.cells #[.int .i64 f, .int .u64 h, .int .u64 l] 37) := by
  go_enter Try.func71, Try.ntmps71
  by_cases hf : f = 4
  · by_cases hh : h = 0
    · go_wp2
      go_ret
      exact ⟨by simp [Ad.right, hf, hh], by simp [*]⟩
    · go_wp2
      go_ret
      exact ⟨by simp [Ad.right, hf, hh], by simp [*]⟩
  · go_wp2
    go_ret
    exact ⟨by simp [Ad.right, hf], by simp [*]⟩
/-- The k lowest bits as 0. -/
def cutLow (x : Int) (k : Nat) : Int := x / 2 ^ k * 2 ^ k
/-- The address with its bits from the place bits on 0. -/
def Ad.masked (a : Ad) (bits : Int) : Ad :=
  ⟨a.fam, cutLow a.hi (64 - min (bits + 128 - a.width) 64).toNat, cutLow a.lo (64 - max (bits + 128 - a.width - 64) 0).toNat⟩
def Ad.fits (a : Ad) (bits : Int) : Bool := a.right && (decide (0 ≤ bits) && decide (bits ≤ a.width))
def Ad.mask (a : Ad) (bits : Int) : Ad × Int := if a.fits bits then (a.masked bits, 0) else (⟨0, 0, 0⟩, 1)
theorem kept {W w1 : World} {b o : Nat} {v : Value} (hb : Below W.heap.size W w1) (h : W.cell? ⟨b, o, none⟩ = some v) : w1.cell? ⟨b, o, none⟩ = some v :=
  (hb.cell (World.block_lt_of_cell? W _ h)).trans h
theorem kept_alloc {W w1 : World} {b o : Nat} {v : Value} (hb : Below W.heap.size W w1) (X : Obj) (h : W.cell? ⟨b, o, none⟩ = some v) : (w1.alloc X).cell? ⟨b, o, none⟩ = some v :=
  kept (hb.alloc hb.size X) h
/-- Are they one address? -/
def Ad.same (a b : Ad) : Bool := a.fam == b.fam && (a.hi == b.hi && a.lo == b.lo)
def Ad.has (p : Ad) (n : Int) (a : Ad) : Bool := (a.mask n).2 == 0 && (a.mask n).1.same p
end Go.Proofs.Ytbghilihccaaaaa
