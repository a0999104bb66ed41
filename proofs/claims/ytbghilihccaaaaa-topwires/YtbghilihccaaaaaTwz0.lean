/- Texts joined: Math Bits Fold Sum Mem Args -/
import Derived.WalkKit
import Derived.Laws.BitsAllLaws
import Derived.Laws.BitsLemmas
import Derived.Laws.Bits128
import Derived.Test.YtbghilihccaaaaaRows
import Derived.Below
import Derived.Deep.Draws
import Derived.Laws.World
import Derived.ProofKit
import Derived.OpenShut
import Derived.SizedLaws
import Derived.Deep.Matrix
namespace Go.Proofs.Ytbghilihccaaaaa.M
/-- What folding leaves of a number that is not below 0. -/
def nf (t : Int) : Int := if t ≤ 0 then 0 else (t - 1) % 65535 + 1
theorem nf_small {t : Int} (h0 : 0 ≤ t) (h : t ≤ 65535) : nf t = t := by unfold nf; split <;> omega
theorem nf_fold {t : Int} (h : 65535 < t) : nf (t / 65536 + t % 65536) = nf t := by unfold nf; split <;> split <;> omega
theorem nf_bd (t : Int) : 0 ≤ nf t ∧ nf t ≤ 65535 := by unfold nf; split <;> omega
theorem nf_add {a b : Int} (ha : 0 ≤ a) (hb : 0 ≤ b) : nf (nf a + b) = nf (a + b) := by unfold nf; split <;> split <;> split <;> omega
theorem nf_zero {t : Int} (h : nf t = 65535) : t % 65535 = 0 ∧ 0 < t := by unfold nf at h; split at h <;> omega
theorem nf_full {t : Int} (h : t % 65535 = 0) (h0 : 0 < t) : nf t = 65535 := by unfold nf; split <;> omega
def Bytes (l : List Int) : Prop := ∀ x, x ∈ l → 0 ≤ x ∧ x ≤ 255
theorem Bytes.of {l : List Int} (h : l.all (fun x => decide (0 ≤ x) && decide (x ≤ 255)) = true) : Bytes l := fun x hx => by simpa using List.all_eq_true.1 h x hx
theorem Bytes.nil : Bytes [] := by intro x h; cases h
theorem Bytes.get {l : List Int} (h : Bytes l) (i : Nat) : 0 ≤ l.getD i 0 ∧ l.getD i 0 ≤ 255 := by
  rw [List.getD_eq_getElem?_getD]
  cases e : l[i]? with
  | none => simp
  | some x => simpa using h x (List.mem_of_getElem? e)
theorem Bytes.app {a b : List Int} (ha : Bytes a) (hb : Bytes b) : Bytes (a ++ b) := by
  intro x h; rcases List.mem_append.1 h with h | h
  · exact ha x h
  · exact hb x h
theorem Bytes.left {a b : List Int} (h : Bytes (a ++ b)) : Bytes a := fun x hx => h x (List.mem_append_left _ hx)
theorem Bytes.right {a b : List Int} (h : Bytes (a ++ b)) : Bytes b := fun x hx => h x (List.mem_append_right _ hx)
theorem Bytes.take {a : List Int} (h : Bytes a) (n : Nat) : Bytes (a.take n) := fun x hx => h x (List.mem_of_mem_take hx)
theorem Bytes.drop {a : List Int} (h : Bytes a) (n : Nat) : Bytes (a.drop n) := fun x hx => h x (List.mem_of_mem_drop hx)
theorem Bytes.set {a : List Int} (h : Bytes a) (i : Nat) {z : Int} (hz : 0 ≤ z ∧ z ≤ 255) : Bytes (a.set i z) := fun x hx => by
  rcases List.mem_or_eq_of_mem_set hx with hx | rfl
  · exact h x hx
  · exact hz
/-- Which half of a word the next byte is, n bytes on. -/
def par (p : Bool) (n : Nat) : Bool := if n % 2 = 0 then p else !p
theorem par_zero (p : Bool) : par p 0 = p := rfl
theorem par_succ (p : Bool) (n : Nat) : par p (n + 1) = !(par p n) := by
  unfold par; by_cases h : n % 2 = 0
  · rw [if_neg (by omega), if_pos h]
  · rw [if_pos (by omega), if_neg h]; simp
theorem par_add (p : Bool) (a b : Nat) : par (par p a) b = par p (a + b) := by
  induction b with
  | zero => rfl
  | succ b ih => rw [par_succ, ih, ← Nat.add_assoc, par_succ]
theorem par_even (p : Bool) {n : Nat} (h : n % 2 = 0) : par p n = p := by unfold par; rw [if_pos h]
/-- The sum of all bytes, each as its half of a word, not folded. -/
def raw : Bool → List Int → Int
  | _, [] => 0
  | true, x :: l => 256 * x + raw false l
  | false, x :: l => x + raw true l
theorem raw_nil (p : Bool) : raw p [] = 0 := by cases p <;> rfl
theorem raw_cons (p : Bool) (x : Int) (l : List Int) : raw p (x :: l) = (if p then 256 * x else x) + raw (!p) l := by cases p <;> rfl
theorem raw_append (p : Bool) (a b : List Int) : raw p (a ++ b) = raw p a + raw (par p a.length) b := by
  induction a generalizing p with
  | nil => rw [raw_nil]; simp [par_zero]
  | cons x a ih =>
    rw [List.cons_append, raw_cons, raw_cons, ih, List.length_cons, Int.add_assoc]
    congr 3
    have := par_add p 1 a.length
    rw [show par p 1 = !p from by cases p <;> rfl] at this
    rw [this, Nat.add_comm]
theorem raw_one (p : Bool) (x : Int) : raw p [x] = if p then 256 * x else x := by rw [raw_cons, raw_nil]; omega
theorem raw_bd (p : Bool) (l : List Int) (h : Bytes l) : 0 ≤ raw p l ∧ raw p l ≤ 65280 * l.length := by
  induction l generalizing p with
  | nil => rw [raw_nil]; simp
  | cons x l ih =>
    have hx := h x (by simp)
    have hi := ih (!p) (fun y hy => h y (by simp [hy]))
    rw [raw_cons, List.length_cons]
    cases p <;> simp at * <;> omega
theorem take_snoc (l : List Int) (k : Nat) (h : k < l.length) : l.take (k + 1) = l.take k ++ [l.getD k 0] := by
  rw [List.take_succ_eq_append_getElem h, List.getD_eq_getElem?_getD, List.getElem?_eq_getElem h]; rfl
theorem raw_take (p : Bool) (l : List Int) (k : Nat) (h : k < l.length) :
    raw p (l.take (k + 1)) = raw p (l.take k) + if par p k then 256 * l.getD k 0 else l.getD k 0 := by
  rw [take_snoc l k h, raw_append, raw_one, List.length_take, Nat.min_eq_left (Nat.le_of_lt h)]
theorem takes_snoc (l : List (List Int)) (k : Nat) (h : k < l.length) : (l.take (k + 1)).flatten = (l.take k).flatten ++ l.getD k [] := by
  rw [List.take_succ_eq_append_getElem h, List.getD_eq_getElem?_getD, List.getElem?_eq_getElem h, List.flatten_append]; simp
def AllBytes (ls : List (List Int)) : Prop := ∀ i, i < ls.length → Bytes (ls.getD i [])
theorem AllBytes.flat {ls : List (List Int)} (h : AllBytes ls) : Bytes ls.flatten := by
  intro x hx
  obtain ⟨l, hl, hx⟩ := List.mem_flatten.1 hx
  obtain ⟨i, hi, rfl⟩ := List.mem_iff_getElem.1 hl
  have := h i hi
  rw [List.getD_eq_getElem?_getD, List.getElem?_eq_getElem hi] at this
  exact this x hx
theorem AllBytes.takes {ls : List (List Int)} (h : AllBytes ls) (k : Nat) : Bytes (ls.take k).flatten := by
  intro x hx
  obtain ⟨l, hl, hx⟩ := List.mem_flatten.1 hx
  exact h.flat x (List.mem_flatten.2 ⟨l, List.mem_of_mem_take hl, hx⟩)
/-- The sum of parts, one behind the other. -/
def sumOf (ls : List (List Int)) : Int := nf (raw true ls.flatten)
theorem sumOf_one (l : List Int) : sumOf [l] = nf (raw true l) := by unfold sumOf; simp
/-- Bytes of even length with their check sum behind them have the sum 65535, and are found if one byte is turned. -/
theorem checked (l : List Int) (he : l.length % 2 = 0) (hb : Bytes l) :
    raw true (l ++ [(65535 - sumOf [l]) / 256, (65535 - sumOf [l]) % 256]) % 65535 = 0 ∧ 0 < raw true (l ++ [(65535 - sumOf [l]) / 256, (65535 - sumOf [l]) % 256]) := by
  have h1 := raw_bd true l hb
  have h2 : sumOf [l] = nf (raw true l) := sumOf_one l
  rw [raw_append, par_even true he, h2]
  generalize raw true l = R at *
  have h3 := nf_bd R
  have h4 : nf R % 65535 = R % 65535 := by unfold nf; split <;> omega
  have h6 : nf R ≤ R := by have := h1.1; unfold nf; split <;> omega
  generalize nf R = F at *
  have h5 : raw true [(65535 - F) / 256, (65535 - F) % 256] = 65535 - F := by
    rw [raw_cons, raw_one]; simp; omega
  rw [h5]
  omega
theorem par_one (p : Bool) (n : Nat) : par (!p) n = par p (n + 1) := by
  rw [par_succ]; unfold par; split <;> simp
theorem raw_set (p : Bool) (l : List Int) (i : Nat) (z : Int) (hi : i < l.length) :
    raw p (l.set i z) = raw p l + if par p i then 256 * (z - l.getD i 0) else z - l.getD i 0 := by
  induction l generalizing p i with
  | nil => simp at hi
  | cons x l ih =>
    cases i with
    | zero => rw [List.set_cons_zero, raw_cons, raw_cons, par_zero]; cases p <;> simp <;> omega
    | succ i =>
      rw [List.set_cons_succ, raw_cons, raw_cons, ih (!p) i (by simpa using hi), par_one, List.getD_cons_succ]
      omega
theorem turned (r : List Int) (i : Nat) (z : Int) (h : raw true r % 65535 = 0) (hi : i < r.length) (hz : 0 ≤ z ∧ z ≤ 255) (hr : 0 ≤ r.getD i 0 ∧ r.getD i 0 ≤ 255) (hne : z ≠ r.getD i 0) :
    sumOf [r.set i z] ≠ 65535 := by
  intro hs
  rw [sumOf_one] at hs
  have h1 := (nf_zero hs).1
  rw [raw_set true r i z hi] at h1
  split at h1 <;> omega
/-- Two bytes of the same half of their words change places. -/
def swap (l : List Int) (i k : Nat) : List Int := (l.set i (l.getD k 0)).set k (l.getD i 0)
theorem swap_length (l : List Int) (i k : Nat) : (swap l i k).length = l.length := by unfold swap; simp
end Go.Proofs.Ytbghilihccaaaaa.M
namespace Go.Proofs.Ytbghilihccaaaaa
theorem i64_and65535 (n : Int) : bits .and .i64 n 65535 = n % 65536 := by
  have h : (BitVec.ofInt 64 65535).toNat = 2 ^ 16 - 1 := by decide
  have key : (BitVec.ofInt 64 n &&& BitVec.ofInt 64 65535).toNat = (n % ((2 ^ 64 : Nat) : Int)).toNat % 2 ^ 16 := by
    rw [BitVec.toNat_and, BitVec.toNat_ofInt, h, Nat.and_two_pow_sub_one_eq_mod]
  show IntKind.i64.wrap ((BitVec.ofInt 64 n &&& BitVec.ofInt 64 65535).toNat : Nat) = n % 65536
  rw [key, IntKind.wrap_i64]
  omega
theorem wrap64_in (n : Int) (h0 : -9223372036854775808 ≤ n) (h1 : n ≤ 9223372036854775807) : RowKit.wrap64 n = n := by
  rw [← IntWalk.i64_left, IntKind.wrap_i64]; omega
theorem wraps_i64 (n : Int) (h₀ : 0 ≤ n) (h₁ : n < 2 ^ 63) : IntKind.i64.wrap n = n := by rw [IntKind.wrap_i64]; omega
theorem wraps_u32 (n : Int) (h₀ : 0 ≤ n) (h₁ : n < 2 ^ 32) : IntKind.u32.wrap n = n := by rw [IntKind.wrap_u32]; omega
theorem i64_or8 (x y : Int) (hx0 : 0 ≤ x) (hx1 : x ≤ 255) (hy0 : 0 ≤ y) (hy1 : y ≤ 255) : bits .or .i64 (x * 256) y = 256 * x + y := by
  rw [bits_join .i64 63 (by decide) wraps_i64 8 (x * 256) y (by omega) (by omega) (by omega) hy0 (by omega) (by omega)]; omega
theorem u32_or (i : Nat) (x y : Int) (hx0 : 0 ≤ x) (hx : x % 2 ^ i = 0) (hx1 : x < 2 ^ 32) (hy0 : 0 ≤ y) (hy : y < 2 ^ i) (hy1 : y < 2 ^ 32) : bits .or .u32 x y = x + y :=
  bits_join .u32 32 (by decide) wraps_u32 i x y hx0 hx hx1 hy0 hy hy1
theorem u32_or4 (a b c d : Int) (a0 : 0 ≤ a) (a1 : a ≤ 255) (b0 : 0 ≤ b) (b1 : b ≤ 255) (c0 : 0 ≤ c) (c1 : c ≤ 255) (d0 : 0 ≤ d) (d1 : d ≤ 255) :
    bits .or .u32 (bits .or .u32 (bits .or .u32 (a * 16777216) (b * 65536)) (c * 256)) d = 16777216 * a + 65536 * b + 256 * c + d := by
  rw [u32_or 24 (a * 16777216) (b * 65536) (by omega) (by omega) (by omega) (by omega) (by omega) (by omega)]
  rw [u32_or 16 (a * 16777216 + b * 65536) (c * 256) (by omega) (by omega) (by omega) (by omega) (by omega) (by omega)]
  rw [u32_or 8 (a * 16777216 + b * 65536 + c * 256) d (by omega) (by omega) (by omega) (by omega) (by omega) (by omega)]
  omega
end Go.Proofs.Ytbghilihccaaaaa
namespace Go.Proofs.Ytbghilihccaaaaa
open Go.RowKit
set_option linter.unusedVariables false
theorem ret_int {k : IntKind} {a b : Int} (h : a = b) : Ending.returned (.int k a) = .returned (.int k b) := by rw [h]
set_option maxHeartbeats 400000 in
theorem fold_any (t : Int) (w : World) (h0 : 0 ≤ t) (h1 : t ≤ 9223372036854775807) :
    Calls Try.prog 79 #[.int .i64 t] w fun e w' => e = .returned (.int .i64 (M.nf t)) ∧ w' = w := by
  go_enter Try.func79, Try.ntmps79
  go_wp2
  go_loop [0] (fun x => ∃ y : Int, 0 ≤ y ∧ y ≤ 9223372036854775807 ∧ M.nf y = M.nf t ∧ x = .int .i64 y) (fun x => (intOf x).toNat)
  case atStart => exact ⟨t, h0, h1, rfl, rfl⟩
  case round =>
    obtain ⟨y, hy0, hy1, hn, rfl⟩ := hrel
    have HN : Hid (M.nf y = M.nf t) := hn
    clear hn
    by_cases hlt : 65535 < y
    · go_wp2
      rw [i64_and65535, wrap64_in _ (by omega) (by omega)]
      exact ⟨⟨_, by omega, by omega, (M.nf_fold hlt).trans HN.out, rfl⟩, by simp [intOf]; omega⟩
    · go_wp2
      go_ret
      exact ⟨ret_int (by rw [← HN.out, M.nf_small hy0 (by omega)]), rfl⟩
/-- A slice value of 'l.length' bytes from a on reads as the numbers l. -/
structure Row (w : World) (a : Option Addr) (l : List Int) : Prop where
  small : l.length ≤ 140737488355328
  bytes : M.Bytes l
  cells : 0 < l.length → ∃ b off, a = some ⟨b, off, none⟩ ∧ ∀ i, i < l.length → w.cell? ⟨b, off + i, none⟩ = some (.int .u8 (l.getD i 0))
/-- A slice value of 'ls.length' parts from a on reads as ls. -/
structure Rowss (w : World) (a : Option Addr) (ls : List (List Int)) : Prop where
  small : ls.length ≤ 140737488355328
  cells : 0 < ls.length → ∃ b off, a = some ⟨b, off, none⟩ ∧ ∀ i, i < ls.length → ∃ a' c', w.cell? ⟨b, off + i, none⟩ = some (.slice a' (ls.getD i []).length c') ∧ Row w a' (ls.getD i [])
theorem int_eq {k : IntKind} {a b : Int} (h : a = b) : Value.int k a = .int k b := by rw [h]
theorem Rowss.all {w : World} {a : Option Addr} {ls : List (List Int)} (h : Rowss w a ls) : M.AllBytes ls := by
  intro i hi
  obtain ⟨b, off, _, hc⟩ := h.cells (by omega)
  obtain ⟨_, _, _, hr⟩ := hc i hi
  exact hr.bytes
def shOf (p : Bool) : Int := if p then 8 else 0
set_option maxHeartbeats 400000 in
theorem sum_any (a : Option Addr) (cap : Nat) (ls : List (List Int)) (w : World) (h : Rowss w a ls) :
    Calls Try.prog 63 #[.slice a ls.length cap] w fun e w' => e = .returned (.int .i64 (M.sumOf ls)) ∧ w' = w := by
  have hs := h.small
  go_enter Try.func63, Try.ntmps63
  go_wp2
  go_loop [3, 4, 11] (fun t s i => ∃ k : Nat, k ≤ ls.length ∧ i = .int .i64 k ∧ t = .int .i64 (M.nf (M.raw true (ls.take k).flatten)) ∧ s = .int .i64 (shOf (M.par true (ls.take k).flatten.length))) (fun _ _ i => ls.length - (intOf i).toNat)
  case atStart => exact ⟨0, Nat.zero_le _, rfl, rfl, rfl⟩
  case round =>
    obtain ⟨k, hk, rfl, rfl, rfl⟩ := hrel
    by_cases hlt : k < ls.length
    · obtain ⟨b, off, rfl, hc⟩ := h.cells (by omega)
      obtain ⟨a', c', hcell, hrow⟩ := hc k hlt
      have hb := M.nf_bd (M.raw true (ls.take k).flatten)
      generalize hl : ls.getD k [] = l at *
      generalize hT : M.nf (M.raw true (ls.take k).flatten) = T at *
      generalize hp : M.par true (ls.take k).flatten.length = p at *
      have H1 : Hid (ls.getD k [] = l ∧ M.nf (M.raw true (ls.take k).flatten) = T ∧ M.par true (ls.take k).flatten.length = p) := ⟨hl, hT, hp⟩
      clear hl hT hp
      have hr := hrow.small
      go_wp2
      go_loop [3, 4, 17] (fun t s i => ∃ j : Nat, j ≤ l.length ∧ i = .int .i64 j ∧ t = .int .i64 (T + M.raw p (l.take j)) ∧ s = .int .i64 (shOf (M.par p j))) (fun _ _ i => l.length - (intOf i).toNat)
      case atStart => exact ⟨0, Nat.zero_le _, rfl, by simp [M.raw_nil], rfl⟩
      case round =>
        obtain ⟨j, hj, rfl, rfl, rfl⟩ := hrel
        have hrb := M.raw_bd p (l.take j) (hrow.bytes.take j)
        have hlen : (l.take j).length ≤ j := List.length_take_le _ _
        by_cases hlt2 : j < l.length
        · obtain ⟨b2, off2, rfl, hc2⟩ := hrow.cells (by omega)
          have hcell2 := hc2 j hlt2
          have hx := hrow.bytes.get j
          have HS : Hid (M.raw p (l.take (j + 1)) = M.raw p (l.take j) + if M.par p j then 256 * l.getD j 0 else l.getD j 0) := M.raw_take p l j hlt2
          have HP : Hid (M.par p (j + 1) = !(M.par p j)) := M.par_succ p j
          clear hc hc2 hcell
          generalize l.getD j 0 = x at *
          generalize M.raw p (l.take j) = R at *
          generalize M.par p j = q at *
          cases q
          · have e0 : shOf false = 0 := rfl
            go_wp2
            exact ⟨⟨j + 1, by omega, by go_num, int_eq (by rw [HS.out]; simp; omega), int_eq (by rw [HP.out]; rfl)⟩, by simp [intOf]; omega⟩
          · have e0 : shOf true = 8 := rfl
            go_wp2
            exact ⟨⟨j + 1, by omega, by go_num, int_eq (by rw [HS.out]; simp; omega), int_eq (by rw [HP.out]; rfl)⟩, by simp [intOf]; omega⟩
        · clear hc hcell
          go_wp2_with (go_at_call 79; refine (fold_any _ _ (by omega) (by omega)).mono ?_; rintro e w' ⟨rfl, rfl⟩)
          have hjl : j = l.length := by omega
          subst hjl
          obtain ⟨hl, hT, hp⟩ := H1.out
          refine ⟨⟨k + 1, by omega, by go_num, int_eq ?_, int_eq ?_⟩, by simp [intOf]; omega⟩
          · have hz := M.raw_bd true (ls.take k).flatten (h.all.takes k)
            rw [List.take_length, M.takes_snoc ls k hlt, hl, M.raw_append, hp, ← hT, M.nf_add hz.1]
            exact (M.raw_bd p l hrow.bytes).1
          · rw [M.takes_snoc ls k hlt, hl, List.length_append, ← M.par_add, hp]
    · go_wp2
      go_ret
      exact ⟨ret_int (by rw [List.take_of_length_le (by omega)]; rfl), rfl⟩
theorem below_drewN {B : Nat} {a w : World} (h : Below B a w) (n : Nat) : Below B a (w.drewN n) := h.trans ⟨rfl, rfl, rfl, Nat.le_refl _, fun _ _ => rfl⟩
theorem Row.below {w w' : World} {a : Option Addr} {l : List Int} (h : Row w a l) (hb : Below w.heap.size w w') : Row w' a l :=
  ⟨h.small, h.bytes, fun hl => by
    obtain ⟨b, off, ha, hc⟩ := h.cells hl
    exact ⟨b, off, ha, fun i hi => (hb.cell (World.block_lt_of_cell? w _ (hc i hi))).trans (hc i hi)⟩⟩
theorem Rowss.below {w w' : World} {a : Option Addr} {ls : List (List Int)} (h : Rowss w a ls) (hb : Below w.heap.size w w') : Rowss w' a ls :=
  ⟨h.small, fun hl => by
    obtain ⟨b, off, ha, hc⟩ := h.cells hl
    refine ⟨b, off, ha, fun i hi => ?_⟩
    obtain ⟨a', c', h1, h2⟩ := hc i hi
    exact ⟨a', c', (hb.cell (World.block_lt_of_cell? w _ h1)).trans h1, h2.below hb⟩⟩
theorem Row.alloc {w : World} {a : Option Addr} {l : List Int} (h : Row w a l) (o : Obj) : Row (w.alloc o) a l := h.below ((Below.refl _ _).alloc (Nat.le_refl _) o)
theorem Row.drewN {w : World} {a : Option Addr} {l : List Int} (h : Row w a l) (n : Nat) : Row (w.drewN n) a l := h.below (below_drewN (Below.refl _ _) n)
theorem Row.take {w : World} {a : Option Addr} {l : List Int} (h : Row w a l) (k : Nat) : Row w a (l.take k) := by
  have hle : (l.take k).length ≤ l.length := List.length_take_le' _ _
  have := h.small
  refine ⟨by omega, h.bytes.take k, fun hp => ?_⟩
  obtain ⟨b, off, ha, hc⟩ := h.cells (by omega)
  refine ⟨b, off, ha, fun i hi => ?_⟩
  rw [hc i (by omega)]
  have : i < k := by simp at hi; omega
  simp [this]
/-- A new block of bytes. -/
theorem row_new (w : World) (t : TypeId) (l : List Int) (hs : l.length ≤ 140737488355328) (hb : M.Bytes l) :
    Row (w.alloc (.cells (l.map (Value.int .u8)).toArray t)) (some ⟨w.heap.size, 0, none⟩) l :=
  ⟨hs, hb, fun _ => ⟨_, _, rfl, fun i hi => by
    have e : l.getD i 0 = l[i] := by simp [hi]
    rw [e, Nat.zero_add, World.cell?_alloc_new]
    simp [hi]⟩⟩
/-- A new block of slices. -/
theorem rowss_new (w : World) (t : TypeId) (vs : List Value) (ls : List (List Int)) (hs : ls.length ≤ 140737488355328) (hl : vs.length = ls.length)
    (hr : ∀ i, i < ls.length → ∃ a' c', vs.getD i (.bool false) = .slice a' (ls.getD i []).length c' ∧ Row w a' (ls.getD i [])) :
    Rowss (w.alloc (.cells vs.toArray t)) (some ⟨w.heap.size, 0, none⟩) ls :=
  ⟨hs, fun _ => ⟨_, _, rfl, fun i hi => by
    obtain ⟨a', c', h1, h2⟩ := hr i hi
    refine ⟨a', c', ?_, h2.alloc _⟩
    have hi' : i < vs.length := by omega
    rw [← h1, Nat.zero_add, World.cell?_alloc_new]
    simp [hi']⟩⟩
theorem row_at (w : World) (t : TypeId) (l : List Int) (n : Nat) (hn : n = w.heap.size) (hs : l.length ≤ 140737488355328) (hb : M.Bytes l) :
    Row (w.alloc (.cells (l.map (Value.int .u8)).toArray t)) (some ⟨n, 0, none⟩) l := by subst hn; exact row_new w t l hs hb
theorem rowss_at (w : World) (t : TypeId) (vs : List Value) (ls : List (List Int)) (n : Nat) (hn : n = w.heap.size) (hs : ls.length ≤ 140737488355328) (hl : vs.length = ls.length)
    (hr : ∀ i, i < ls.length → ∃ a' c', vs.getD i (.bool false) = .slice a' (ls.getD i []).length c' ∧ Row w a' (ls.getD i [])) :
    Rowss (w.alloc (.cells vs.toArray t)) (some ⟨n, 0, none⟩) ls := by subst hn; exact rowss_new w t vs ls hs hl hr
/-- One part in a new block. -/
theorem rowss_one (w : World) (t : TypeId) (n : Nat) (hn : n = w.heap.size) (a : Option Addr) (c : Nat) (l : List Int) (h : Row w a l) :
    Rowss (w.alloc (.cells #[.slice a l.length c] t)) (some ⟨n, 0, none⟩) [l] :=
  rowss_at w t [.slice a l.length c] [l] n hn (by simp) rfl (fun i hi => by
    have : i = 0 := by simp at hi; omega
    subst this; exact ⟨a, c, rfl, h⟩)
theorem rowss_one' (w : World) (t : TypeId) (n : Nat) (hn : n = w.heap.size) (a : Option Addr) (c : Nat) (l : List Int) (m : Nat) (hm : m = l.length) (h : Row w a l) :
    Rowss (w.alloc (.cells #[.slice a m c] t)) (some ⟨n, 0, none⟩) [l] := by subst hm; exact rowss_one w t n hn a c l h
theorem below_drew (w : World) : Below w.heap.size w w.drew := (Below.refl _ _).drew
/-- Three parts in a new block. -/
theorem rowss_three (w : World) (t : TypeId) (n : Nat) (hn : n = w.heap.size) (a a' a'' : Option Addr) (c c' c'' : Nat) (l l' l'' : List Int) (h : Row w a l) (h' : Row w a' l') (h'' : Row w a'' l'') :
    Rowss (w.alloc (.cells #[.slice a l.length c, .slice a' l'.length c', .slice a'' l''.length c''] t)) (some ⟨n, 0, none⟩) [l, l', l''] :=
  rowss_at w t [.slice a l.length c, .slice a' l'.length c', .slice a'' l''.length c''] [l, l', l''] n hn (by simp) rfl (fun i hi => by
    match i, hi with
    | 0, _ => exact ⟨a, c, rfl, h⟩
    | 1, _ => exact ⟨a', c', rfl, h'⟩
    | 2, _ => exact ⟨a'', c'', rfl, h''⟩)
end Go.Proofs.Ytbghilihccaaaaa
namespace Go.Proofs.Ytbghilihccaaaaa
open Go.ChangeShapes Go.WideShapes Go.ChangeAt Go.RowKit
set_option linter.unusedVariables false
theorem bytes_of_wf {zs : List Int} (h : ∀ n ∈ zs, (Lit.int .u8 n).wf = true) : M.Bytes zs := fun x hx => by
  have := h x hx
  simpa [Lit.wf, IntKind.min, IntKind.max, IntKind.signed, IntKind.bits] using this
theorem row_of_ints {w : World} {x : Addr} {len : Nat} {zs : List Int} (hr : zs.length ≤ 140737488351232)
    (hc : ∀ i, i < zs.length → w.cell? (x.add i) = some (.int .u8 (zs.getD i 0))) (hw : ∀ n ∈ zs, (Lit.int .u8 n).wf = true) : Row w (some x) (zs.take len) := by
  have hle : (zs.take len).length ≤ zs.length := List.length_take_le' _ _
  refine ⟨by omega, (bytes_of_wf hw).take len, fun hp => ?_⟩
  obtain ⟨b, off, rfl, hc'⟩ := ints_at hc (by omega)
  refine ⟨b, off, rfl, fun i hi => ?_⟩
  rw [hc' i (by omega)]
  have : i < len := by simp at hi; omega
  simp [this]
theorem row_nil (w : World) (a : Option Addr) : Row w a [] := ⟨by simp, M.Bytes.nil, fun h => by simp at h⟩
/-- A slice of bytes that came in. -/
theorem open_bytes {H : Type} {enc : TypeId × Value → H} {P : Program} {W : World} {base : Nat} {t e : TypeId} {v : Value} {d : DataW H} {p : List MemPlace} (ht : P.underlying t = some (.slice e)) (he : P.underlying e = some (.int .u8)) (hc : P.cellsOf e = 1) (hbe : P.bytesOf e = 1)
    (hv : Value.okWide P W .any base t v) (h : DataW.Trod enc P W 0 (fun _ => true) true t v d p)
    (hsz : ∀ n ∈ d.weights P t, n ≤ reachBytes) :
    ∃ (a : Option Addr) (cap : Nat) (l : List Int), v = .slice a l.length cap ∧ l.length ≤ cap ∧ cap ≤ 140737488351232 ∧ (a = none → cap = 0) ∧ Row W a l := by
  obtain ⟨a0, len0, cap0, rfl⟩ := okWide_slice ht hv
  obtain ⟨fuel, hf⟩ := h
  rcases open_ints ht he hc hf with ⟨hcs, _⟩ | ⟨x, l, c, zs, hcs, _, hl, hm, hz, hx, hcell, hwz⟩
  · simp [Value.cells] at hcs
    obtain ⟨rfl, rfl, rfl⟩ := hcs
    exact ⟨none, 0, [], rfl, Nat.le_refl _, by omega, fun _ => rfl, row_nil _ _⟩
  · simp [Value.cells] at hcs
    obtain ⟨rfl, rfl, rfl⟩ := hcs
    simp only [if_true] at hz
    simp only [Prod.mk.injEq] at hx
    obtain ⟨rfl, _⟩ := hx
    have hn := hsz ((lits .u8 (zs.take len0)).length + (lits (H := H) .u8 (zs.drop len0)).length) (by simp only [DataW.weights, ht, hbe, Nat.mul_one]; exact List.mem_cons_self ..)
    simp only [lits, List.length_map, List.length_take, List.length_drop, reachBytes] at hn
    have e1 : len0 = (zs.take len0).length := by simp; omega
    refine ⟨some x, cap0, zs.take len0, by rw [← e1], by omega, by omega, fun h => (by cases h), row_of_ints (by omega) hcell hwz⟩
end Go.Proofs.Ytbghilihccaaaaa
