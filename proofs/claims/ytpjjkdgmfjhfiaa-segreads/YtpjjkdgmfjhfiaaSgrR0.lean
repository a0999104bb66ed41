/- Texts joined: Math Bits Fold Sum Mem Args Adr Pre Reads Frm -/
import Derived.WalkKit
import Derived.Laws.BitsAllLaws
import Derived.Laws.BitsLemmas
import Derived.Laws.Bits128
import Derived.Test.YtpjjkdgmfjhfiaaRows
import Derived.Below
import Derived.Deep.Draws
import Derived.Laws.World
import Derived.ProofKit
import Derived.OpenShut
import Derived.SizedLaws
import Derived.Deep.Matrix
import Derived.Laws.Shifts
import Derived.Laws.ShiftsVarLaws
import Derived.Laws.StructEq
import Derived.Deep.QuietTactic
import Derived.BigQuiet
import Derived.Deep.RegionWith
import Derived.Deep.DeepCutAuto
namespace Go.Proofs.Ytpjjkdgmfjhfiaa
abbrev sRa (x0 : Int) (x1 : Int) (x2 : Int) (x3 : Int) (x4 : Int) (x5 : Int) (x6 : Int) (x7 : Int) (x8 : Int) (x9 : Bool) (x10 : Int) (x11 : Int) (x12 : Bool) (x13 : Option Addr) (y13 z13 : Nat) (x14 : Option Addr) (y14 z14 : Nat) : Array Value := #[Value.int .i64 x0, Value.int .i64 x1, Value.int .u64 x2, Value.int .u64 x3, Value.int .i64 x4, Value.int .u64 x5, Value.int .u64 x6, Value.int .i64 x7, Value.int .i64 x8, Value.bool x9, Value.int .u32 x10, Value.int .i64 x11, Value.bool x12, Value.slice x13 y13 z13, Value.slice x14 y14 z14]
abbrev sRb (x0 : Int) (x1 : Int) (x2 : Int) (x3 : Int) (x4 : Int) (x5 : Int) (x6 : Int) (x7 : Int) (x8 : Int) (x9 : Int) : Array Value := #[Value.int .i64 x0, Value.int .i64 x1, Value.int .i64 x2, Value.int .u64 x3, Value.int .u64 x4, Value.int .i64 x5, Value.int .u64 x6, Value.int .u64 x7, Value.int .i64 x8, Value.int .i64 x9]
abbrev sRc (x0 : Int) (x1 : Int) (x2 : Int) (x3 : Int) (x4 : Int) (x5 : Int) (x6 : Int) (x7 : Int) (x8 : Int) (x9 : Int) (x10 : Int) (x11 : Int) (x12 : Int) (x13 : Int) (x14 : Int) (x15 : Int) (x16 : Bool) (x17 : Int) (x18 : Int) (x19 : Int) (x20 : Int) (x21 : Int) (x22 : Int) (x23 : Int) (x24 : Int) (x25 : Int) (x26 : Int) (x27 : Option Addr) (y27 z27 : Nat) : Array Value := #[Value.int .i64 x0, Value.int .i64 x1, Value.int .i64 x2, Value.int .u64 x3, Value.int .u64 x4, Value.int .i64 x5, Value.int .u64 x6, Value.int .u64 x7, Value.int .i64 x8, Value.int .i64 x9, Value.int .i64 x10, Value.int .u32 x11, Value.int .u32 x12, Value.int .i64 x13, Value.int .i64 x14, Value.int .i64 x15, Value.bool x16, Value.int .i64 x17, Value.int .i64 x18, Value.int .i64 x19, Value.int .u64 x20, Value.int .u64 x21, Value.int .i64 x22, Value.int .u64 x23, Value.int .u64 x24, Value.int .i64 x25, Value.int .i64 x26, Value.slice x27 y27 z27]
abbrev sRd (x0 : Int) (x1 : Int) (x2 : Option Addr) (y2 z2 : Nat) (x3 : Option Addr) (y3 z3 : Nat) (x4 : Bool) (x5 : Bool) (x6 : Bool) (x7 : Int) (x8 : Int) (x9 : Int) (x10 : Int) (x11 : Int) (x12 : Int) (x13 : Int) (x14 : Int) (x15 : Int) (x16 : Bool) (x17 : Int) (x18 : Int) (x19 : Bool) (x20 : Option Addr) (y20 z20 : Nat) (x21 : Option Addr) (y21 z21 : Nat) : Array Value := #[Value.int .i64 x0, Value.int .i64 x1, Value.slice x2 y2 z2, Value.slice x3 y3 z3, Value.bool x4, Value.bool x5, Value.bool x6, Value.int .i64 x7, Value.int .i64 x8, Value.int .u64 x9, Value.int .u64 x10, Value.int .i64 x11, Value.int .u64 x12, Value.int .u64 x13, Value.int .i64 x14, Value.int .i64 x15, Value.bool x16, Value.int .u32 x17, Value.int .i64 x18, Value.bool x19, Value.slice x20 y20 z20, Value.slice x21 y21 z21]
end Go.Proofs.Ytpjjkdgmfjhfiaa
namespace Go.Proofs.Ytpjjkdgmfjhfiaa.M
/-- What folding leaves of a number that is not below 0. -/
def nf (t : Int) : Int := if t ≤ 0 then 0 else (t - 1) % 65535 + 1
theorem nf_small {t : Int} (h0 : 0 ≤ t) (h : t ≤ 65535) : nf t = t := by unfold nf; split <;> omega
theorem nf_fold {t : Int} (h : 65535 < t) : nf (t / 65536 + t % 65536) = nf t := by unfold nf; split <;> split <;> omega
theorem nf_bd (t : Int) : 0 ≤ nf t ∧ nf t ≤ 65535 := by unfold nf; split <;> omega
theorem nf_add {a b : Int} (ha : 0 ≤ a) (hb : 0 ≤ b) : nf (nf a + b) = nf (a + b) := by unfold nf; split <;> split <;> split <;> omega
theorem nf_zero {t : Int} (h : nf t = 65535) : t % 65535 = 0 ∧ 0 < t := by unfold nf at h; split at h <;> omega
def Bytes (l : List Int) : Prop := ∀ x, x ∈ l → 0 ≤ x ∧ x ≤ 255
theorem Bytes.of {l : List Int} (h : l.all (fun x => decide (0 ≤ x) && decide (x ≤ 255)) = true) : Bytes l := fun x hx => by simpa using List.all_eq_true.1 h x hx
theorem Bytes.nil : Bytes [] := by intro x h; cases h
theorem Bytes.get {l : List Int} (h : Bytes l) (i : Nat) : 0 ≤ l.getD i 0 ∧ l.getD i 0 ≤ 255 := by
  rw [List.getD_eq_getElem?_getD]
  cases e : l[i]? with
  | none => simp
  | some x => simpa using h x (List.mem_of_getElem? e)
theorem Bytes.app {a b : List Int} (ha : Bytes a) (hb : Bytes b) : Bytes (a ++ b) := by
  intro x h; rcases List.mem_append.1 h with h | h
  · exact ha x h
  · exact hb x h
theorem Bytes.left {a b : List Int} (h : Bytes (a ++ b)) : Bytes a := fun x hx => h x (List.mem_append_left _ hx)
theorem Bytes.right {a b : List Int} (h : Bytes (a ++ b)) : Bytes b := fun x hx => h x (List.mem_append_right _ hx)
theorem Bytes.take {a : List Int} (h : Bytes a) (n : Nat) : Bytes (a.take n) := fun x hx => h x (List.mem_of_mem_take hx)
theorem Bytes.drop {a : List Int} (h : Bytes a) (n : Nat) : Bytes (a.drop n) := fun x hx => h x (List.mem_of_mem_drop hx)
theorem Bytes.set {a : List Int} (h : Bytes a) (i : Nat) {z : Int} (hz : 0 ≤ z ∧ z ≤ 255) : Bytes (a.set i z) := fun x hx => by
  rcases List.mem_or_eq_of_mem_set hx with hx | rfl
  · exact h x hx
  · exact hz
/-- Which half of a word the next byte is, n bytes on. -/
def par (p : Bool) (n : Nat) : Bool := if n % 2 = 0 then p else !p
theorem par_zero (p : Bool) : par p 0 = p := rfl
theorem par_succ (p : Bool) (n : Nat) : par p (n + 1) = !(par p n) := by
  unfold par; by_cases h : n % 2 = 0
  · rw [if_neg (by omega), if_pos h]
  · rw [if_pos (by omega), if_neg h]; simp
theorem par_add (p : Bool) (a b : Nat) : par (par p a) b = par p (a + b) := by
  induction b with
  | zero => rfl
  | succ b ih => rw [par_succ, ih, ← Nat.add_assoc, par_succ]
theorem par_even (p : Bool) {n : Nat} (h : n % 2 = 0) : par p n = p := by unfold par; rw [if_pos h]
/-- The sum of all bytes, each as its half of a word, not folded. -/
def raw : Bool → List Int → Int
  | _, [] => 0
  | true, x :: l => 256 * x + raw false l
  | false, x :: l => x + raw true l
theorem raw_nil (p : Bool) : raw p [] = 0 := by cases p <;> rfl
theorem raw_cons (p : Bool) (x : Int) (l : List Int) : raw p (x :: l) = (if p then 256 * x else x) + raw (!p) l := by cases p <;> rfl
theorem raw_append (p : Bool) (a b : List Int) : raw p (a ++ b) = raw p a + raw (par p a.length) b := by
  induction a generalizing p with
  | nil => rw [raw_nil]; simp [par_zero]
  | cons x a ih =>
    rw [List.cons_append, raw_cons, raw_cons, ih, List.length_cons, Int.add_assoc]
    congr 3
    have := par_add p 1 a.length
    rw [show par p 1 = !p from by cases p <;> rfl] at this
    rw [this, Nat.add_comm]
theorem raw_one (p : Bool) (x : Int) : raw p [x] = if p then 256 * x else x := by rw [raw_cons, raw_nil]; omega
theorem raw_bd (p : Bool) (l : List Int) (h : Bytes l) : 0 ≤ raw p l ∧ raw p l ≤ 65280 * l.length := by
  induction l generalizing p with
  | nil => rw [raw_nil]; simp
  | cons x l ih =>
    have hx := h x (by simp)
    have hi := ih (!p) (fun y hy => h y (by simp [hy]))
    rw [raw_cons, List.length_cons]
    cases p <;> simp at * <;> omega
theorem take_snoc (l : List Int) (k : Nat) (h : k < l.length) : l.take (k + 1) = l.take k ++ [l.getD k 0] := by
  rw [List.take_succ_eq_append_getElem h, List.getD_eq_getElem?_getD, List.getElem?_eq_getElem h]; rfl
theorem raw_take (p : Bool) (l : List Int) (k : Nat) (h : k < l.length) :
    raw p (l.take (k + 1)) = raw p (l.take k) + if par p k then 256 * l.getD k 0 else l.getD k 0 := by
  rw [take_snoc l k h, raw_append, raw_one, List.length_take, Nat.min_eq_left (Nat.le_of_lt h)]
theorem takes_snoc (l : List (List Int)) (k : Nat) (h : k < l.length) : (l.take (k + 1)).flatten = (l.take k).flatten ++ l.getD k [] := by
  rw [List.take_succ_eq_append_getElem h, List.getD_eq_getElem?_getD, List.getElem?_eq_getElem h, List.flatten_append]; simp
def AllBytes (ls : List (List Int)) : Prop := ∀ i, i < ls.length → Bytes (ls.getD i [])
theorem AllBytes.flat {ls : List (List Int)} (h : AllBytes ls) : Bytes ls.flatten := by
  intro x hx
  obtain ⟨l, hl, hx⟩ := List.mem_flatten.1 hx
  obtain ⟨i, hi, rfl⟩ := List.mem_iff_getElem.1 hl
  have := h i hi
  rw [List.getD_eq_getElem?_getD, List.getElem?_eq_getElem hi] at this
  exact this x hx
theorem AllBytes.takes {ls : List (List Int)} (h : AllBytes ls) (k : Nat) : Bytes (ls.take k).flatten := by
  intro x hx
  obtain ⟨l, hl, hx⟩ := List.mem_flatten.1 hx
  exact h.flat x (List.mem_flatten.2 ⟨l, List.mem_of_mem_take hl, hx⟩)
/-- The sum of parts, one behind the other. -/
def sumOf (ls : List (List Int)) : Int := nf (raw true ls.flatten)
theorem sumOf_one (l : List Int) : sumOf [l] = nf (raw true l) := by unfold sumOf; simp
/-- Bytes of even length with their check sum behind them have the sum 65535, and are found if one byte is turned. -/
theorem checked (l : List Int) (he : l.length % 2 = 0) (hb : Bytes l) :
    raw true (l ++ [(65535 - sumOf [l]) / 256, (65535 - sumOf [l]) % 256]) % 65535 = 0 ∧ 0 < raw true (l ++ [(65535 - sumOf [l]) / 256, (65535 - sumOf [l]) % 256]) := by
  have h1 := raw_bd true l hb
  have h2 : sumOf [l] = nf (raw true l) := sumOf_one l
  rw [raw_append, par_even true he, h2]
  generalize raw true l = R at *
  have h3 := nf_bd R
  have h4 : nf R % 65535 = R % 65535 := by unfold nf; split <;> omega
  have h6 : nf R ≤ R := by have := h1.1; unfold nf; split <;> omega
  generalize nf R = F at *
  have h5 : raw true [(65535 - F) / 256, (65535 - F) % 256] = 65535 - F := by
    rw [raw_cons, raw_one]; simp; omega
  rw [h5]
  omega
theorem par_one (p : Bool) (n : Nat) : par (!p) n = par p (n + 1) := by
  rw [par_succ]; unfold par; split <;> simp
theorem raw_set (p : Bool) (l : List Int) (i : Nat) (z : Int) (hi : i < l.length) :
    raw p (l.set i z) = raw p l + if par p i then 256 * (z - l.getD i 0) else z - l.getD i 0 := by
  induction l generalizing p i with
  | nil => simp at hi
  | cons x l ih =>
    cases i with
    | zero => rw [List.set_cons_zero, raw_cons, raw_cons, par_zero]; cases p <;> simp <;> omega
    | succ i =>
      rw [List.set_cons_succ, raw_cons, raw_cons, ih (!p) i (by simpa using hi), par_one, List.getD_cons_succ]
      omega
theorem turned (r : List Int) (i : Nat) (z : Int) (h : raw true r % 65535 = 0) (hi : i < r.length) (hz : 0 ≤ z ∧ z ≤ 255) (hr : 0 ≤ r.getD i 0 ∧ r.getD i 0 ≤ 255) (hne : z ≠ r.getD i 0) :
    sumOf [r.set i z] ≠ 65535 := by
  intro hs
  rw [sumOf_one] at hs
  have h1 := (nf_zero hs).1
  rw [raw_set true r i z hi] at h1
  split at h1 <;> omega
end Go.Proofs.Ytpjjkdgmfjhfiaa.M
namespace Go.Proofs.Ytpjjkdgmfjhfiaa
theorem i64_and65535 (n : Int) : bits .and .i64 n 65535 = n % 65536 := by
  have h : (BitVec.ofInt 64 65535).toNat = 2 ^ 16 - 1 := by decide
  have key : (BitVec.ofInt 64 n &&& BitVec.ofInt 64 65535).toNat = (n % ((2 ^ 64 : Nat) : Int)).toNat % 2 ^ 16 := by
    rw [BitVec.toNat_and, BitVec.toNat_ofInt, h, Nat.and_two_pow_sub_one_eq_mod]
  show IntKind.i64.wrap ((BitVec.ofInt 64 n &&& BitVec.ofInt 64 65535).toNat : Nat) = n % 65536
  rw [key, IntKind.wrap_i64]
  omega
theorem wrap64_in (n : Int) (h0 : -9223372036854775808 ≤ n) (h1 : n ≤ 9223372036854775807) : RowKit.wrap64 n = n := by
  rw [← IntWalk.i64_left, IntKind.wrap_i64]; omega
theorem wraps_i64 (n : Int) (h₀ : 0 ≤ n) (h₁ : n < 2 ^ 63) : IntKind.i64.wrap n = n := by rw [IntKind.wrap_i64]; omega
theorem wraps_u32 (n : Int) (h₀ : 0 ≤ n) (h₁ : n < 2 ^ 32) : IntKind.u32.wrap n = n := by rw [IntKind.wrap_u32]; omega
theorem i64_or8 (x y : Int) (hx0 : 0 ≤ x) (hx1 : x ≤ 255) (hy0 : 0 ≤ y) (hy1 : y ≤ 255) : bits .or .i64 (x * 256) y = 256 * x + y := by
  rw [bits_join .i64 63 (by decide) wraps_i64 8 (x * 256) y (by omega) (by omega) (by omega) hy0 (by omega) (by omega)]; omega
theorem u32_or (i : Nat) (x y : Int) (hx0 : 0 ≤ x) (hx : x % 2 ^ i = 0) (hx1 : x < 2 ^ 32) (hy0 : 0 ≤ y) (hy : y < 2 ^ i) (hy1 : y < 2 ^ 32) : bits .or .u32 x y = x + y :=
  bits_join .u32 32 (by decide) wraps_u32 i x y hx0 hx hx1 hy0 hy hy1
theorem u32_or4 (a b c d : Int) (a0 : 0 ≤ a) (a1 : a ≤ 255) (b0 : 0 ≤ b) (b1 : b ≤ 255) (c0 : 0 ≤ c) (c1 : c ≤ 255) (d0 : 0 ≤ d) (d1 : d ≤ 255) :
    bits .or .u32 (bits .or .u32 (bits .or .u32 (a * 16777216) (b * 65536)) (c * 256)) d = 16777216 * a + 65536 * b + 256 * c + d := by
  rw [u32_or 24 (a * 16777216) (b * 65536) (by omega) (by omega) (by omega) (by omega) (by omega) (by omega)]
  rw [u32_or 16 (a * 16777216 + b * 65536) (c * 256) (by omega) (by omega) (by omega) (by omega) (by omega) (by omega)]
  rw [u32_or 8 (a * 16777216 + b * 65536 + c * 256) d (by omega) (by omega) (by omega) (by omega) (by omega) (by omega)]
  omega
end Go.Proofs.Ytpjjkdgmfjhfiaa
namespace Go.Proofs.Ytpjjkdgmfjhfiaa
open Go.RowKit
set_option linter.unusedVariables false
theorem ret_int {k : IntKind} {a b : Int} (h : a = b) : Ending.returned (.int k a) = .returned (.int k b) := by rw [h]
set_option maxHeartbeats 400000 in
theorem fold_any (t : Int) (w : World) (h0 : 0 ≤ t) (h1 : t ≤ 9223372036854775807) :
    Calls Try.prog 79 #[.int .i64 t] w fun e w' => e = .returned (.int .i64 (M.nf t)) ∧ w' = w := by
  go_enter Try.func79, Try.ntmps79
  go_wp2
  go_loop [0] (fun x => ∃ y : Int, 0 ≤ y ∧ y ≤ 9223372036854775807 ∧ M.nf y = M.nf t ∧ x = .int .i64 y) (fun x => (intOf x).toNat)
  case atStart => exact ⟨t, h0, h1, rfl, rfl⟩
  case round =>
    obtain ⟨y, hy0, hy1, hn, rfl⟩ := hrel
    have HN : Hid (M.nf y = M.nf t) := hn
    clear hn
    by_cases hlt : 65535 < y
    · go_wp2
      rw [i64_and65535, wrap64_in _ (by omega) (by omega)]
      exact ⟨⟨_, by omega, by omega, (M.nf_fold hlt).trans HN.out, rfl⟩, by simp [intOf]; omega⟩
    · go_wp2
      go_ret
      exact ⟨ret_int (by rw [← HN.out, M.nf_small hy0 (by omega)]), rfl⟩
/-- A slice value of 'l.length' bytes from a on reads as the numbers l. -/
structure Row (w : World) (a : Option Addr) (l : List Int) : Prop where
  small : l.length ≤ 140737488355328
  bytes : M.Bytes l
  cells : 0 < l.length → ∃ b off, a = some ⟨b, off, none⟩ ∧ ∀ i, i < l.length → w.cell? ⟨b, off + i, none⟩ = some (.int .u8 (l.getD i 0))
/-- A slice value of 'ls.length' parts from a on reads as ls. -/
structure Rowss (w : World) (a : Option Addr) (ls : List (List Int)) : Prop where
  small : ls.length ≤ 140737488355328
  cells : 0 < ls.length → ∃ b off, a = some ⟨b, off, none⟩ ∧ ∀ i, i < ls.length → ∃ a' c', w.cell? ⟨b, off + i, none⟩ = some (.slice a' (ls.getD i []).length c') ∧ Row w a' (ls.getD i [])
theorem int_eq {k : IntKind} {a b : Int} (h : a = b) : Value.int k a = .int k b := by rw [h]
theorem Rowss.all {w : World} {a : Option Addr} {ls : List (List Int)} (h : Rowss w a ls) : M.AllBytes ls := by
  intro i hi
  obtain ⟨b, off, _, hc⟩ := h.cells (by omega)
  obtain ⟨_, _, _, hr⟩ := hc i hi
  exact hr.bytes
def shOf (p : Bool) : Int := if p then 8 else 0
set_option maxHeartbeats 400000 in
theorem sum_any (a : Option Addr) (cap : Nat) (ls : List (List Int)) (w : World) (h : Rowss w a ls) :
    Calls Try.prog 65 #[.slice a ls.length cap] w fun e w' => e = .returned (.int .i64 (M.sumOf ls)) ∧ w' = w := by
  have hs := h.small
  go_enter Try.func65, Try.ntmps65
  go_wp2
  go_loop [3, 4, 11] (fun t s i => ∃ k : Nat, k ≤ ls.length ∧ i = .int .i64 k ∧ t = .int .i64 (M.nf (M.raw true (ls.take k).flatten)) ∧ s = .int .i64 (shOf (M.par true (ls.take k).flatten.length))) (fun _ _ i => ls.length - (intOf i).toNat)
  case atStart => exact ⟨0, Nat.zero_le _, rfl, rfl, rfl⟩
  case round =>
    obtain ⟨k, hk, rfl, rfl, rfl⟩ := hrel
    by_cases hlt : k < ls.length
    · obtain ⟨b, off, rfl, hc⟩ := h.cells (by omega)
      obtain ⟨a', c', hcell, hrow⟩ := hc k hlt
      have hb := M.nf_bd (M.raw true (ls.take k).flatten)
      generalize hl : ls.getD k [] = l at *
      generalize hT : M.nf (M.raw true (ls.take k).flatten) = T at *
      generalize hp : M.par true (ls.take k).flatten.length = p at *
      have H1 : Hid (ls.getD k [] = l ∧ M.nf (M.raw true (ls.take k).flatten) = T ∧ M.par true (ls.take k).flatten.length = p) := ⟨hl, hT, hp⟩
      clear hl hT hp
      have hr := hrow.small
      go_wp2
      go_loop [3, 4, 17] (fun t s i => ∃ j : Nat, j ≤ l.length ∧ i = .int .i64 j ∧ t = .int .i64 (T + M.raw p (l.take j)) ∧ s = .int .i64 (shOf (M.par p j))) (fun _ _ i => l.length - (intOf i).toNat)
      case atStart => exact ⟨0, Nat.zero_le _, rfl, by simp [M.raw_nil], rfl⟩
      case round =>
        obtain ⟨j, hj, rfl, rfl, rfl⟩ := hrel
        have hrb := M.raw_bd p (l.take j) (hrow.bytes.take j)
        have hlen : (l.take j).length ≤ j := List.length_take_le _ _
        by_cases hlt2 : j < l.length
        · obtain ⟨b2, off2, rfl, hc2⟩ := hrow.cells (by omega)
          have hcell2 := hc2 j hlt2
          have hx := hrow.bytes.get j
          have HS : Hid (M.raw p (l.take (j + 1)) = M.raw p (l.take j) + if M.par p j then 256 * l.getD j 0 else l.getD j 0) := M.raw_take p l j hlt2
          have HP : Hid (M.par p (j + 1) = !(M.par p j)) := M.par_succ p j
          clear hc hc2 hcell
          generalize l.getD j 0 = x at *
          generalize M.raw p (l.take j) = R at *
          generalize M.par p j = q at *
          cases q
          · have e0 : shOf false = 0 := rfl
            go_wp2
            exact ⟨⟨j + 1, by omega, by go_num, int_eq (by rw [HS.out]; simp; omega), int_eq (by rw [HP.out]; rfl)⟩, by simp [intOf]; omega⟩
          · have e0 : shOf true = 8 := rfl
            go_wp2
            exact ⟨⟨j + 1, by omega, by go_num, int_eq (by rw [HS.out]; simp; omega), int_eq (by rw [HP.out]; rfl)⟩, by simp [intOf]; omega⟩
        · clear hc hcell
          go_wp2_with (go_at_call 79; refine (fold_any _ _ (by omega) (by omega)).mono ?_; rintro e w' ⟨rfl, rfl⟩)
          have hjl : j = l.length := by omega
          subst hjl
          obtain ⟨hl, hT, hp⟩ := H1.out
          refine ⟨⟨k + 1, by omega, by go_num, int_eq ?_, int_eq ?_⟩, by simp [intOf]; omega⟩
          · have hz := M.raw_bd true (ls.take k).flatten (h.all.takes k)
            rw [List.take_length, M.takes_snoc ls k hlt, hl, M.raw_append, hp, ← hT, M.nf_add hz.1]
            exact (M.raw_bd p l hrow.bytes).1
          · rw [M.takes_snoc ls k hlt, hl, List.length_append, ← M.par_add, hp]
    · go_wp2
      go_ret
      exact ⟨ret_int (by rw [List.take_of_length_le (by omega)]; rfl), rfl⟩
theorem below_drewN {B : Nat} {a w : World} (h : Below B a w) (n : Nat) : Below B a (w.drewN n) := h.trans ⟨rfl, rfl, rfl, Nat.le_refl _, fun _ _ => rfl⟩
theorem Row.below {w w' : World} {a : Option Addr} {l : List Int} (h : Row w a l) (hb : Below w.heap.size w w') : Row w' a l :=
  ⟨h.small, h.bytes, fun hl => by
    obtain ⟨b, off, ha, hc⟩ := h.cells hl
    exact ⟨b, off, ha, fun i hi => (hb.cell (World.block_lt_of_cell? w _ (hc i hi))).trans (hc i hi)⟩⟩
theorem Rowss.below {w w' : World} {a : Option Addr} {ls : List (List Int)} (h : Rowss w a ls) (hb : Below w.heap.size w w') : Rowss w' a ls :=
  ⟨h.small, fun hl => by
    obtain ⟨b, off, ha, hc⟩ := h.cells hl
    refine ⟨b, off, ha, fun i hi => ?_⟩
    obtain ⟨a', c', h1, h2⟩ := hc i hi
    exact ⟨a', c', (hb.cell (World.block_lt_of_cell? w _ h1)).trans h1, h2.below hb⟩⟩
theorem Row.alloc {w : World} {a : Option Addr} {l : List Int} (h : Row w a l) (o : Obj) : Row (w.alloc o) a l := h.below ((Below.refl _ _).alloc (Nat.le_refl _) o)
theorem Row.drewN {w : World} {a : Option Addr} {l : List Int} (h : Row w a l) (n : Nat) : Row (w.drewN n) a l := h.below (below_drewN (Below.refl _ _) n)
theorem Row.take {w : World} {a : Option Addr} {l : List Int} (h : Row w a l) (k : Nat) : Row w a (l.take k) := by
  have hle : (l.take k).length ≤ l.length := List.length_take_le' _ _
  have := h.small
  refine ⟨by omega, h.bytes.take k, fun hp => ?_⟩
  obtain ⟨b, off, ha, hc⟩ := h.cells (by omega)
  refine ⟨b, off, ha, fun i hi => ?_⟩
  rw [hc i (by omega)]
  have : i < k := by simp at hi; omega
  simp [this]
/-- A new block of bytes. -/
theorem row_new (w : World) (t : TypeId) (l : List Int) (hs : l.length ≤ 140737488355328) (hb : M.Bytes l) :
    Row (w.alloc (.cells (l.map (Value.int .u8)).toArray t)) (some ⟨w.heap.size, 0, none⟩) l :=
  ⟨hs, hb, fun _ => ⟨_, _, rfl, fun i hi => by
    have e : l.getD i 0 = l[i] := by simp [hi]
    rw [e, Nat.zero_add, World.cell?_alloc_new]
    simp [hi]⟩⟩
/-- A new block of slices. -/
theorem rowss_new (w : World) (t : TypeId) (vs : List Value) (ls : List (List Int)) (hs : ls.length ≤ 140737488355328) (hl : vs.length = ls.length)
    (hr : ∀ i, i < ls.length → ∃ a' c', vs.getD i (.bool false) = .slice a' (ls.getD i []).length c' ∧ Row w a' (ls.getD i [])) :
    Rowss (w.alloc (.cells vs.toArray t)) (some ⟨w.heap.size, 0, none⟩) ls :=
  ⟨hs, fun _ => ⟨_, _, rfl, fun i hi => by
    obtain ⟨a', c', h1, h2⟩ := hr i hi
    refine ⟨a', c', ?_, h2.alloc _⟩
    have hi' : i < vs.length := by omega
    rw [← h1, Nat.zero_add, World.cell?_alloc_new]
    simp [hi']⟩⟩
theorem row_at (w : World) (t : TypeId) (l : List Int) (n : Nat) (hn : n = w.heap.size) (hs : l.length ≤ 140737488355328) (hb : M.Bytes l) :
    Row (w.alloc (.cells (l.map (Value.int .u8)).toArray t)) (some ⟨n, 0, none⟩) l := by subst hn; exact row_new w t l hs hb
theorem rowss_at (w : World) (t : TypeId) (vs : List Value) (ls : List (List Int)) (n : Nat) (hn : n = w.heap.size) (hs : ls.length ≤ 140737488355328) (hl : vs.length = ls.length)
    (hr : ∀ i, i < ls.length → ∃ a' c', vs.getD i (.bool false) = .slice a' (ls.getD i []).length c' ∧ Row w a' (ls.getD i [])) :
    Rowss (w.alloc (.cells vs.toArray t)) (some ⟨n, 0, none⟩) ls := by subst hn; exact rowss_new w t vs ls hs hl hr
theorem below_drew (w : World) : Below w.heap.size w w.drew := (Below.refl _ _).drew
/-- Two parts in a new block. -/
theorem rowss_two (w : World) (t : TypeId) (n : Nat) (hn : n = w.heap.size) (a a' : Option Addr) (c c' : Nat) (l l' : List Int) (h : Row w a l) (h' : Row w a' l') :
    Rowss (w.alloc (.cells #[.slice a l.length c, .slice a' l'.length c'] t)) (some ⟨n, 0, none⟩) [l, l'] :=
  rowss_at w t [.slice a l.length c, .slice a' l'.length c'] [l, l'] n hn (by simp) rfl (fun i hi => by
    match i, hi with
    | 0, _ => exact ⟨a, c, rfl, h⟩
    | 1, _ => exact ⟨a', c', rfl, h'⟩)
end Go.Proofs.Ytpjjkdgmfjhfiaa
namespace Go.Proofs.Ytpjjkdgmfjhfiaa
open Go.ChangeShapes Go.WideShapes Go.ChangeAt Go.RowKit
set_option linter.unusedVariables false
theorem bytes_of_wf {zs : List Int} (h : ∀ n ∈ zs, (Lit.int .u8 n).wf = true) : M.Bytes zs := fun x hx => by
  have := h x hx
  simpa [Lit.wf, IntKind.min, IntKind.max, IntKind.signed, IntKind.bits] using this
theorem row_of_ints {w : World} {x : Addr} {len : Nat} {zs : List Int} (hr : zs.length ≤ 140737488351232)
    (hc : ∀ i, i < zs.length → w.cell? (x.add i) = some (.int .u8 (zs.getD i 0))) (hw : ∀ n ∈ zs, (Lit.int .u8 n).wf = true) : Row w (some x) (zs.take len) := by
  have hle : (zs.take len).length ≤ zs.length := List.length_take_le' _ _
  refine ⟨by omega, (bytes_of_wf hw).take len, fun hp => ?_⟩
  obtain ⟨b, off, rfl, hc'⟩ := ints_at hc (by omega)
  refine ⟨b, off, rfl, fun i hi => ?_⟩
  rw [hc' i (by omega)]
  have : i < len := by simp at hi; omega
  simp [this]
theorem row_nil (w : World) (a : Option Addr) : Row w a [] := ⟨by simp, M.Bytes.nil, fun h => by simp at h⟩
end Go.Proofs.Ytpjjkdgmfjhfiaa
namespace Go.Proofs.Ytpjjkdgmfjhfiaa
open Go.RowKit
set_option linter.unusedVariables false
set_option linter.unusedSimpArgs false
/-- An address, as three numbers. -/
structure Ad where
  fam : Int
  hi : Int
  lo : Int
/-- Its numbers lie in their kinds. -/
def Ad.ok (a : Ad) : Prop := (-9223372036854775808 ≤ a.fam ∧ a.fam ≤ 9223372036854775807) ∧ (0 ≤ a.hi ∧ a.hi ≤ 18446744073709551615) ∧ (0 ≤ a.lo ∧ a.lo ≤ 18446744073709551615)
abbrev Ad.v (a : Ad) : Value := .agg #[.int .i64 a.fam, .int .u64 a.hi, .int .u64 a.lo]
def Ad.right (a : Ad) : Bool := if a.fam = 4 then (a.hi == 0) && (a.lo / 4294967296 == 0) else a.fam == 6
def Ad.width (a : Ad) : Int := if a.fam = 4 then 32 else 128
theorem width_any (f h l : Int) (w : World) :
    Calls Try.prog 50 #[.agg #[.int .i64 f, .int .u64 h, .int .u64 l]] w fun e w' => e = .returned (.int .i64 (Ad.width ⟨f, h, l⟩)) ∧ w' = w.alloc (.cells #[.int .i64 f, .int .u64 h, .int .u64 l] 24) := by
  go_enter Try.func50, Try.ntmps50
  by_cases hf : f = 4
  · go_wp2
    go_ret
    exact ⟨ret_int (by simp [Ad.width, hf]), by simp [*]⟩
  · go_wp2
    go_ret
    exact ⟨ret_int (by simp [Ad.width, hf]), by simp [*]⟩
theorem right_any (f h l : Int) (w : World) :
    Calls Try.prog 48 #[.agg #[.int .i64 f, .int .u64 h, .int .u64 l]] w fun e w' => e = .returned (.bool (Ad.right ⟨f, h, l⟩)) ∧ w' = w.alloc (.cells #[.int .i64 f, .int .u64 h, .int .u64 l] 24) := by
  go_enter Try.func48, Try.ntmps48
  by_cases hf : f = 4
  · by_cases hh : h = 0
    · go_wp2
      go_ret
      exact ⟨by simp [Ad.right, hf, hh], by simp [*]⟩
    · go_wp2
      go_ret
      exact ⟨by simp [Ad.right, hf, hh], by simp [*]⟩
  · go_wp2
    go_ret
    exact ⟨by simp [Ad.right, hf], by simp [*]⟩
/-- The k lowest bits as 0. -/
def cutLow (x : Int) (k : Nat) : Int := x / 2 ^ k * 2 ^ k
/-- The address with its bits from the place bits on 0. -/
def Ad.masked (a : Ad) (bits : Int) : Ad :=
  ⟨a.fam, cutLow a.hi (64 - min (bits + 128 - a.width) 64).toNat, cutLow a.lo (64 - max (bits + 128 - a.width - 64) 0).toNat⟩
def Ad.fits (a : Ad) (bits : Int) : Bool := a.right && (decide (0 ≤ bits) && decide (bits ≤ a.width))
def Ad.mask (a : Ad) (bits : Int) : Ad × Int := if a.fits bits then (a.masked bits, 0) else (⟨0, 0, 0⟩, 1)
theorem kept {W w1 : World} {b o : Nat} {v : Value} (hb : Below W.heap.size W w1) (h : W.cell? ⟨b, o, none⟩ = some v) : w1.cell? ⟨b, o, none⟩ = some v :=
  (hb.cell (World.block_lt_of_cell? W _ h)).trans h
theorem kept_alloc {W w1 : World} {b o : Nat} {v : Value} (hb : Below W.heap.size W w1) (X : Obj) (h : W.cell? ⟨b, o, none⟩ = some v) : (w1.alloc X).cell? ⟨b, o, none⟩ = some v :=
  kept (hb.alloc hb.size X) h
/-- Are they one address? -/
def Ad.same (a b : Ad) : Bool := a.fam == b.fam && (a.hi == b.hi && a.lo == b.lo)
def Ad.has (p : Ad) (n : Int) (a : Ad) : Bool := (a.mask n).2 == 0 && (a.mask n).1.same p
end Go.Proofs.Ytpjjkdgmfjhfiaa
namespace Go.Proofs.Ytpjjkdgmfjhfiaa
open Go.RowKit
set_option linter.unusedVariables false
theorem tup_int {k : IntKind} {a b : Int} {c : Bool} (h : a = b) : Ending.returned (.tuple #[.int k a, .bool c]) = .returned (.tuple #[.int k b, .bool c]) := by rw [h]
/-- Whether n bytes from at on lie among len. -/
def liesB (len : Nat) (at_ n : Int) : Bool := decide (0 ≤ at_ ∧ 0 ≤ n ∧ n ≤ (len : Int) - at_)
set_option maxHeartbeats 400000 in
theorem lies_any (a : Option Addr) (len cap : Nat) (x n : Int) (w : World) (hl : len ≤ 140737488355328) (hx : -9223372036854775808 ≤ x ∧ x ≤ 9223372036854775807) :
    Calls Try.prog 81 #[.slice a len cap, .int .i64 x, .int .i64 n] w fun e w' => e = .returned (.bool (liesB len x n)) ∧ w' = w := by
  by_cases h1 : 0 ≤ x
  · by_cases h2 : 0 ≤ n
    · by_cases h3 : n ≤ (len : Int) - x
      · have e : liesB len x n = true := by unfold liesB; simp; omega
        rw [e]; clear e
        go_enter Try.func81, Try.ntmps81
        go_wp2
        go_ret
        simp
      · have e : liesB len x n = false := by unfold liesB; simp; omega
        rw [e]; clear e
        go_enter Try.func81, Try.ntmps81
        go_wp2
        go_ret
        simp
    · have e : liesB len x n = false := by unfold liesB; simp; omega
      rw [e]; clear e
      go_enter Try.func81, Try.ntmps81
      go_wp2
      go_ret
      simp
  · have e : liesB len x n = false := by unfold liesB; simp; omega
    rw [e]; clear e
    go_enter Try.func81, Try.ntmps81
    go_wp2
    go_ret
    simp
/-- The number in two bytes. -/
def u16 (l : List Int) (x : Int) : Int := 256 * l.getD x.toNat 0 + l.getD (x.toNat + 1) 0
/-- The number in four bytes. -/
def u32 (l : List Int) (x : Int) : Int := 16777216 * l.getD x.toNat 0 + 65536 * l.getD (x.toNat + 1) 0 + 256 * l.getD (x.toNat + 2) 0 + l.getD (x.toNat + 3) 0
set_option maxHeartbeats 400000 in
theorem u16_no (a : Option Addr) (cap : Nat) (l : List Int) (x : Int) (w : World) (h : Row w a l) (hx : -9223372036854775808 ≤ x ∧ x ≤ 9223372036854775807) (hn : liesB l.length x 2 = false) :
    Calls Try.prog 83 #[.slice a l.length cap, .int .i64 x] w fun e w' => e = .returned (.tuple #[.int .i64 0, .bool false]) ∧ w' = w := by
  have hs := h.small
  go_enter Try.func83, Try.ntmps83
  go_wp2_with (go_at_call 81; refine (lies_any _ _ _ _ _ _ hs hx).mono ?_; rintro e w' ⟨rfl, rfl⟩)
  go_ret2
  exact ⟨rfl, rfl⟩
set_option maxHeartbeats 400000 in
theorem u16_yes (a : Option Addr) (cap : Nat) (l : List Int) (x : Int) (w : World) (h : Row w a l) (hx0 : 0 ≤ x) (hx1 : x + 2 ≤ l.length) :
    Calls Try.prog 83 #[.slice a l.length cap, .int .i64 x] w fun e w' => e = .returned (.tuple #[.int .i64 (u16 l x), .bool true]) ∧ ∃ n, w' = w.drewN n := by
  have hs := h.small
  have hn : liesB l.length x 2 = true := by unfold liesB; simp; omega
  obtain ⟨b, off, rfl, hc⟩ := h.cells (by omega)
  obtain ⟨k, rfl⟩ := Int.eq_ofNat_of_zero_le hx0
  have c0 := hc k (by omega)
  have c1 := hc (k + 1) (by omega)
  have b0 := h.bytes.get k
  have b1 := h.bytes.get (k + 1)
  have hu : u16 l k = 256 * l.getD k 0 + l.getD (k + 1) 0 := rfl
  rw [hu]
  clear hc hu
  generalize l.getD k 0 = y0 at *
  generalize l.getD (k + 1) 0 = y1 at *
  have k1 : (k : Int) + 1 < (l.length : Int) := by omega
  go_enter Try.func83, Try.ntmps83
  go_wp2_with (go_at_call 81; refine (lies_any _ _ _ _ _ _ hs (by omega)).mono ?_; rintro e w' ⟨rfl, rfl⟩)
  go_quiet (fail)
  go_wp2
  go_ret2
  exact ⟨tup_int (i64_or8 _ _ b0.1 b0.2 b1.1 b1.2), nq, rfl⟩
set_option maxHeartbeats 400000 in
theorem u32_no (a : Option Addr) (cap : Nat) (l : List Int) (x : Int) (w : World) (h : Row w a l) (hx : -9223372036854775808 ≤ x ∧ x ≤ 9223372036854775807) (hn : liesB l.length x 4 = false) :
    Calls Try.prog 69 #[.slice a l.length cap, .int .i64 x] w fun e w' => e = .returned (.tuple #[.int .u32 0, .bool false]) ∧ w' = w := by
  have hs := h.small
  go_enter Try.func69, Try.ntmps69
  go_wp2_with (go_at_call 81; refine (lies_any _ _ _ _ _ _ hs hx).mono ?_; rintro e w' ⟨rfl, rfl⟩)
  go_ret2
  exact ⟨rfl, rfl⟩
set_option maxHeartbeats 400000 in
theorem u32_yes (a : Option Addr) (cap : Nat) (l : List Int) (x : Int) (w : World) (h : Row w a l) (hx0 : 0 ≤ x) (hx1 : x + 4 ≤ l.length) :
    Calls Try.prog 69 #[.slice a l.length cap, .int .i64 x] w fun e w' => e = .returned (.tuple #[.int .u32 (u32 l x), .bool true]) ∧ ∃ n, w' = w.drewN n := by
  have hs := h.small
  have hn : liesB l.length x 4 = true := by unfold liesB; simp; omega
  obtain ⟨b, off, rfl, hc⟩ := h.cells (by omega)
  obtain ⟨k, rfl⟩ := Int.eq_ofNat_of_zero_le hx0
  have c0 := hc k (by omega)
  have c1 := hc (k + 1) (by omega)
  have c2 := hc (k + 2) (by omega)
  have c3 := hc (k + 3) (by omega)
  have b0 := h.bytes.get k
  have b1 := h.bytes.get (k + 1)
  have b2 := h.bytes.get (k + 2)
  have b3 := h.bytes.get (k + 3)
  have hu : u32 l k = 16777216 * l.getD k 0 + 65536 * l.getD (k + 1) 0 + 256 * l.getD (k + 2) 0 + l.getD (k + 3) 0 := rfl
  rw [hu]
  clear hc hu
  generalize l.getD k 0 = y0 at *
  generalize l.getD (k + 1) 0 = y1 at *
  generalize l.getD (k + 2) 0 = y2 at *
  generalize l.getD (k + 3) 0 = y3 at *
  have k1 : (k : Int) + 1 < (l.length : Int) := by omega
  have k2 : (k : Int) + 2 < (l.length : Int) := by omega
  have k3 : (k : Int) + 3 < (l.length : Int) := by omega
  go_enter Try.func69, Try.ntmps69
  go_wp2_with (go_at_call 81; refine (lies_any _ _ _ _ _ _ hs (by omega)).mono ?_; rintro e w' ⟨rfl, rfl⟩)
  go_quiet (fail)
  go_wp2
  go_ret2
  refine ⟨tup_int ?_, nq, rfl⟩
  exact u32_or4 _ _ _ _ b0.1 b0.2 b1.1 b1.2 b2.1 b2.2 b3.1 b3.2
end Go.Proofs.Ytpjjkdgmfjhfiaa
namespace Go.Proofs.Ytpjjkdgmfjhfiaa
open Go.RowKit
set_option linter.unusedVariables false
set_option linter.unusedSimpArgs false
/-- Bytes taken in, the highest first. -/
def fromGo : List Int → Int → Int → Int × Int
  | [], h, l => (h, l)
  | x :: xs, h, l => fromGo xs (h * 256 % 18446744073709551616 + l / 72057594037927936) (l * 256 % 18446744073709551616 + x)
def fromB (b : List Int) : Ad × Int :=
  if b.length = 4 then (⟨4, (fromGo b 0 0).1, (fromGo b 0 0).2⟩, 0) else if b.length = 16 then (⟨6, (fromGo b 0 0).1, (fromGo b 0 0).2⟩, 0) else (⟨0, 0, 0⟩, 1)
theorem wraps_u64 (n : Int) (h₀ : 0 ≤ n) (h₁ : n < 2 ^ 64) : IntKind.u64.wrap n = n := by rw [IntKind.wrap_u64]; omega
theorem or_low (x y : Int) (hy0 : 0 ≤ y) (hy1 : y < 256) : bits .or .u64 (IntKind.u64.wrap (x * 256)) y = x * 256 % 18446744073709551616 + y := by
  rw [IntKind.wrap_u64]
  exact bits_join .u64 64 (by decide) wraps_u64 8 _ y (by omega) (by omega) (by omega) hy0 (by omega) (by omega)
set_option maxHeartbeats 1000000 in
theorem from_any (a : Option Addr) (c : Nat) (b : List Int) (w : World) (hb : Row w a b) :
    Calls Try.prog 93 #[.slice a b.length c] w fun e w' =>
      e = .returned (.tuple #[(fromB b).1.v, .int .i64 (fromB b).2]) ∧ Below w.heap.size w w' := by
  have hsm := hb.small
  obtain ⟨F, T, hF⟩ : ∃ F T, (F, T) = fromGo b 0 0 := ⟨_, _, rfl⟩
  have go : ∀ (f : Int), (f = 4 ∧ b.length = 4) ∨ (f = 6 ∧ b.length = 16) → fromB b = (⟨f, F, T⟩, 0) := by
    rintro f (⟨rfl, h⟩ | ⟨rfl, h⟩)
    · rw [fromB, if_pos h, ← hF]
    · rw [fromB, if_neg (by omega), if_pos h, ← hF]
  have HF : Hid (fromGo b 0 0 = (F, T)) := hF.symm
  clear hF
  by_cases h4 : b.length = 4
  · rw [go 4 (.inl ⟨rfl, h4⟩)]
    have L4 : Hid (b.length = 4) := h4
    have h4a : ((b.length : Int) == 4) = true := by simp [L4.out]
    clear h4 go
    go_enter Try.func93, Try.ntmps93
    go_wp2
    go_loopw [18] (fun i w' => ∃ (k : Nat) (h l : Int), k ≤ b.length ∧ i = .int .i64 k ∧ (0 ≤ h ∧ h ≤ 18446744073709551615) ∧ (0 ≤ l ∧ l ≤ 18446744073709551615) ∧ Hid (fromGo (b.drop k) h l = (F, T)) ∧
        w' = (w.alloc (.cells #[.int .i64 0, .int .u64 0, .int .u64 0] 24)).alloc (.cells #[.int .i64 4, .int .u64 h, .int .u64 l] 24)) (fun i _ => b.length - (intOf i).toNat)
    case atStart => exact ⟨0, 0, 0, Nat.zero_le _, rfl, by omega, by omega, HF, rfl⟩
    case round =>
      obtain ⟨k, h, l, hk, rfl, hh, hl, hr, rfl⟩ := hrel
      by_cases hlt : k < b.length
      · obtain ⟨bk, off, rfl, hc⟩ := hb.cells (by omega)
        have eg : b.getD k 0 = b[k] := by simp [hlt]
        have hcell := hc k hlt
        have hbl : bk < w.heap.size := World.block_lt_of_cell? w _ hcell
        have hne1 : bk ≠ w.heap.size := by omega
        have hne2 : bk ≠ w.heap.size + 1 := by omega
        have hx := hb.bytes.get k
        have hr1 := hr.out
        rw [List.drop_eq_getElem_cons hlt] at hr1
        rw [eg] at hcell hx
        clear eg hc
        generalize b[k] = x at hcell hx hr1
        have e1 := or_low h (l / 72057594037927936) (by omega) (by omega)
        have e2 := or_low l x (by omega) (by omega)
        have ilt : (k : Int) < (b.length : Int) := by omega
        have HQ : Hid (fromGo (b.drop (k + 1)) (h * 256 % 18446744073709551616 + l / 72057594037927936) (l * 256 % 18446744073709551616 + x) = (F, T)) := hr1
        clear hr hr1
        go_wp2
        exact ⟨⟨k + 1, _, _, by omega, int_eq (by omega), by omega, by omega, HQ, rfl⟩, by simp [intOf]; omega⟩
      · have ilt : ¬ (k : Int) < (b.length : Int) := by omega
        have e : (h, l) = (F, T) := by
          rw [← hr.out, List.drop_eq_nil_of_le (by omega)]; rfl
        injection e with e1 e2
        subst e1
        subst e2
        go_wp2
        exact bodyPost_ret (v := .tuple #[.agg #[.int .i64 4, .int .u64 h, .int .u64 l], .int .i64 0]) (by simp [results, Try.results93, go_sem]) rfl ⟨rfl, ((Below.refl _ _).alloc (Nat.le_refl _) _).alloc (by simp) _⟩
  · by_cases h16 : b.length = 16
    · rw [go 6 (.inr ⟨rfl, h16⟩)]
      have L4 : Hid (b.length = 16) := h16
      have h4a : ((b.length : Int) == 4) = false := by simp [L4.out]
      have h16a : ((b.length : Int) == 16) = true := by simp [L4.out]
      clear h4 h16 go
      go_enter Try.func93, Try.ntmps93
      go_wp2
      go_loopw [18] (fun i w' => ∃ (k : Nat) (h l : Int), k ≤ b.length ∧ i = .int .i64 k ∧ (0 ≤ h ∧ h ≤ 18446744073709551615) ∧ (0 ≤ l ∧ l ≤ 18446744073709551615) ∧ Hid (fromGo (b.drop k) h l = (F, T)) ∧
          w' = (w.alloc (.cells #[.int .i64 0, .int .u64 0, .int .u64 0] 24)).alloc (.cells #[.int .i64 6, .int .u64 h, .int .u64 l] 24)) (fun i _ => b.length - (intOf i).toNat)
      case atStart => exact ⟨0, 0, 0, Nat.zero_le _, rfl, by omega, by omega, HF, rfl⟩
      case round =>
        obtain ⟨k, h, l, hk, rfl, hh, hl, hr, rfl⟩ := hrel
        by_cases hlt : k < b.length
        · obtain ⟨bk, off, rfl, hc⟩ := hb.cells (by omega)
          have eg : b.getD k 0 = b[k] := by simp [hlt]
          have hcell := hc k hlt
          have hbl : bk < w.heap.size := World.block_lt_of_cell? w _ hcell
          have hne1 : bk ≠ w.heap.size := by omega
          have hne2 : bk ≠ w.heap.size + 1 := by omega
          have hx := hb.bytes.get k
          have hr1 := hr.out
          rw [List.drop_eq_getElem_cons hlt] at hr1
          rw [eg] at hcell hx
          clear eg hc
          generalize b[k] = x at hcell hx hr1
          have e1 := or_low h (l / 72057594037927936) (by omega) (by omega)
          have e2 := or_low l x (by omega) (by omega)
          have ilt : (k : Int) < (b.length : Int) := by omega
          have HQ : Hid (fromGo (b.drop (k + 1)) (h * 256 % 18446744073709551616 + l / 72057594037927936) (l * 256 % 18446744073709551616 + x) = (F, T)) := hr1
          clear hr hr1
          go_wp2
          exact ⟨⟨k + 1, _, _, by omega, int_eq (by omega), by omega, by omega, HQ, rfl⟩, by simp [intOf]; omega⟩
        · have ilt : ¬ (k : Int) < (b.length : Int) := by omega
          have e : (h, l) = (F, T) := by
            rw [← hr.out, List.drop_eq_nil_of_le (by omega)]; rfl
          injection e with e1 e2
          subst e1
          subst e2
          go_wp2
          exact bodyPost_ret (v := .tuple #[.agg #[.int .i64 6, .int .u64 h, .int .u64 l], .int .i64 0]) (by simp [results, Try.results93, go_sem]) rfl ⟨rfl, ((Below.refl _ _).alloc (Nat.le_refl _) _).alloc (by simp) _⟩
    · have e : fromB b = (⟨0, 0, 0⟩, 1) := by rw [fromB, if_neg h4, if_neg h16]
      rw [e]
      have h4a : ((b.length : Int) == 4) = false := by simp; omega
      have h16a : ((b.length : Int) == 16) = false := by simp; omega
      clear e go HF h4 h16
      go_enter Try.func93, Try.ntmps93
      go_wp2
      exact bodyPost_ret (v := .tuple #[.agg #[.int .i64 0, .int .u64 0, .int .u64 0], .int .i64 1]) (by simp [results, Try.results93, go_sem]) rfl ⟨rfl, ((Below.refl _ _).alloc (Nat.le_refl _) _).alloc (by simp) _⟩
end Go.Proofs.Ytpjjkdgmfjhfiaa
