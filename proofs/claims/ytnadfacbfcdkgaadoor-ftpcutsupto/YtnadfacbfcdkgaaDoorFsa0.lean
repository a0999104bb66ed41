/- Texts joined: Math Bits Sum Mem Adr Arg2 -/
import Derived.WalkKit
import Derived.Laws.BitsAllLaws
import Derived.Laws.BitsLemmas
import Derived.Laws.Bits128
import Derived.Test.YtnadfacbfcdkgaaDoorRows
import Derived.Below
import Derived.Deep.Draws
import Derived.Laws.World
import Derived.Laws.Shifts
import Derived.Laws.ShiftsVarLaws
import Derived.Laws.StructEq
import Derived.Deep.QuietTactic
import Derived.BigQuiet
import Derived.Deep.RegionWith
import Derived.Deep.DeepCutAuto
import Derived.ProofKit
import Derived.OpenShut
import Derived.Lib.SmallJoins
import Derived.Lib.LaidTab
import Derived.Stop.LaidErr
import Derived.Deep.DeepHandedRow
import Derived.Deep.Strs
import Derived.ChangeSame
import Derived.Shelf.LaysM
namespace Go.Proofs.YtnadfacbfcdkgaaDoor.M
/-- What folding leaves of a number that is not below 0. -/
def nf (t : Int) : Int := if t ≤ 0 then 0 else (t - 1) % 65535 + 1
theorem nf_bd (t : Int) : 0 ≤ nf t ∧ nf t ≤ 65535 := by unfold nf; split <;> omega
theorem nf_zero {t : Int} (h : nf t = 65535) : t % 65535 = 0 ∧ 0 < t := by unfold nf at h; split at h <;> omega
def Bytes (l : List Int) : Prop := ∀ x, x ∈ l → 0 ≤ x ∧ x ≤ 255
theorem Bytes.of {l : List Int} (h : l.all (fun x => decide (0 ≤ x) && decide (x ≤ 255)) = true) : Bytes l := fun x hx => by simpa using List.all_eq_true.1 h x hx
theorem Bytes.nil : Bytes [] := by intro x h; cases h
theorem Bytes.get {l : List Int} (h : Bytes l) (i : Nat) : 0 ≤ l.getD i 0 ∧ l.getD i 0 ≤ 255 := by
  rw [List.getD_eq_getElem?_getD]
  cases e : l[i]? with
  | none => simp
  | some x => simpa using h x (List.mem_of_getElem? e)
theorem Bytes.app {a b : List Int} (ha : Bytes a) (hb : Bytes b) : Bytes (a ++ b) := by
  intro x h; rcases List.mem_append.1 h with h | h
  · exact ha x h
  · exact hb x h
theorem Bytes.left {a b : List Int} (h : Bytes (a ++ b)) : Bytes a := fun x hx => h x (List.mem_append_left _ hx)
theorem Bytes.right {a b : List Int} (h : Bytes (a ++ b)) : Bytes b := fun x hx => h x (List.mem_append_right _ hx)
theorem Bytes.take {a : List Int} (h : Bytes a) (n : Nat) : Bytes (a.take n) := fun x hx => h x (List.mem_of_mem_take hx)
theorem Bytes.drop {a : List Int} (h : Bytes a) (n : Nat) : Bytes (a.drop n) := fun x hx => h x (List.mem_of_mem_drop hx)
theorem Bytes.set {a : List Int} (h : Bytes a) (i : Nat) {z : Int} (hz : 0 ≤ z ∧ z ≤ 255) : Bytes (a.set i z) := fun x hx => by
  rcases List.mem_or_eq_of_mem_set hx with hx | rfl
  · exact h x hx
  · exact hz
/-- Which half of a word the next byte is, n bytes on. -/
def par (p : Bool) (n : Nat) : Bool := if n % 2 = 0 then p else !p
theorem par_zero (p : Bool) : par p 0 = p := rfl
theorem par_succ (p : Bool) (n : Nat) : par p (n + 1) = !(par p n) := by
  unfold par; by_cases h : n % 2 = 0
  · rw [if_neg (by omega), if_pos h]
  · rw [if_pos (by omega), if_neg h]; simp
theorem par_add (p : Bool) (a b : Nat) : par (par p a) b = par p (a + b) := by
  induction b with
  | zero => rfl
  | succ b ih => rw [par_succ, ih, ← Nat.add_assoc, par_succ]
theorem par_even (p : Bool) {n : Nat} (h : n % 2 = 0) : par p n = p := by unfold par; rw [if_pos h]
/-- The sum of all bytes, each as its half of a word, not folded. -/
def raw : Bool → List Int → Int
  | _, [] => 0
  | true, x :: l => 256 * x + raw false l
  | false, x :: l => x + raw true l
theorem raw_nil (p : Bool) : raw p [] = 0 := by cases p <;> rfl
theorem raw_cons (p : Bool) (x : Int) (l : List Int) : raw p (x :: l) = (if p then 256 * x else x) + raw (!p) l := by cases p <;> rfl
theorem raw_append (p : Bool) (a b : List Int) : raw p (a ++ b) = raw p a + raw (par p a.length) b := by
  induction a generalizing p with
  | nil => rw [raw_nil]; simp [par_zero]
  | cons x a ih =>
    rw [List.cons_append, raw_cons, raw_cons, ih, List.length_cons, Int.add_assoc]
    congr 3
    have := par_add p 1 a.length
    rw [show par p 1 = !p from by cases p <;> rfl] at this
    rw [this, Nat.add_comm]
theorem raw_one (p : Bool) (x : Int) : raw p [x] = if p then 256 * x else x := by rw [raw_cons, raw_nil]; omega
theorem raw_bd (p : Bool) (l : List Int) (h : Bytes l) : 0 ≤ raw p l ∧ raw p l ≤ 65280 * l.length := by
  induction l generalizing p with
  | nil => rw [raw_nil]; simp
  | cons x l ih =>
    have hx := h x (by simp)
    have hi := ih (!p) (fun y hy => h y (by simp [hy]))
    rw [raw_cons, List.length_cons]
    cases p <;> simp at * <;> omega
def AllBytes (ls : List (List Int)) : Prop := ∀ i, i < ls.length → Bytes (ls.getD i [])
theorem AllBytes.flat {ls : List (List Int)} (h : AllBytes ls) : Bytes ls.flatten := by
  intro x hx
  obtain ⟨l, hl, hx⟩ := List.mem_flatten.1 hx
  obtain ⟨i, hi, rfl⟩ := List.mem_iff_getElem.1 hl
  have := h i hi
  rw [List.getD_eq_getElem?_getD, List.getElem?_eq_getElem hi] at this
  exact this x hx
/-- The sum of parts, one behind the other. -/
def sumOf (ls : List (List Int)) : Int := nf (raw true ls.flatten)
theorem sumOf_one (l : List Int) : sumOf [l] = nf (raw true l) := by unfold sumOf; simp
/-- Bytes of even length with their check sum behind them have the sum 65535, and are found if one byte is turned. -/
theorem checked (l : List Int) (he : l.length % 2 = 0) (hb : Bytes l) :
    raw true (l ++ [(65535 - sumOf [l]) / 256, (65535 - sumOf [l]) % 256]) % 65535 = 0 ∧ 0 < raw true (l ++ [(65535 - sumOf [l]) / 256, (65535 - sumOf [l]) % 256]) := by
  have h1 := raw_bd true l hb
  have h2 : sumOf [l] = nf (raw true l) := sumOf_one l
  rw [raw_append, par_even true he, h2]
  generalize raw true l = R at *
  have h3 := nf_bd R
  have h4 : nf R % 65535 = R % 65535 := by unfold nf; split <;> omega
  have h6 : nf R ≤ R := by have := h1.1; unfold nf; split <;> omega
  generalize nf R = F at *
  have h5 : raw true [(65535 - F) / 256, (65535 - F) % 256] = 65535 - F := by
    rw [raw_cons, raw_one]; simp; omega
  rw [h5]
  omega
theorem par_one (p : Bool) (n : Nat) : par (!p) n = par p (n + 1) := by
  rw [par_succ]; unfold par; split <;> simp
theorem raw_set (p : Bool) (l : List Int) (i : Nat) (z : Int) (hi : i < l.length) :
    raw p (l.set i z) = raw p l + if par p i then 256 * (z - l.getD i 0) else z - l.getD i 0 := by
  induction l generalizing p i with
  | nil => simp at hi
  | cons x l ih =>
    cases i with
    | zero => rw [List.set_cons_zero, raw_cons, raw_cons, par_zero]; cases p <;> simp <;> omega
    | succ i =>
      rw [List.set_cons_succ, raw_cons, raw_cons, ih (!p) i (by simpa using hi), par_one, List.getD_cons_succ]
      omega
theorem turned (r : List Int) (i : Nat) (z : Int) (h : raw true r % 65535 = 0) (hi : i < r.length) (hz : 0 ≤ z ∧ z ≤ 255) (hr : 0 ≤ r.getD i 0 ∧ r.getD i 0 ≤ 255) (hne : z ≠ r.getD i 0) :
    sumOf [r.set i z] ≠ 65535 := by
  intro hs
  rw [sumOf_one] at hs
  have h1 := (nf_zero hs).1
  rw [raw_set true r i z hi] at h1
  split at h1 <;> omega
end Go.Proofs.YtnadfacbfcdkgaaDoor.M
namespace Go.Proofs.YtnadfacbfcdkgaaDoor
theorem wraps_i64 (n : Int) (h₀ : 0 ≤ n) (h₁ : n < 2 ^ 63) : IntKind.i64.wrap n = n := by rw [IntKind.wrap_i64]; omega
end Go.Proofs.YtnadfacbfcdkgaaDoor
namespace Go.Proofs.YtnadfacbfcdkgaaDoor
open Go.RowKit
set_option linter.unusedVariables false
/-- A slice value of 'l.length' bytes from a on reads as the numbers l. -/
structure Row (w : World) (a : Option Addr) (l : List Int) : Prop where
  small : l.length ≤ 140737488355328
  bytes : M.Bytes l
  cells : 0 < l.length → ∃ b off, a = some ⟨b, off, none⟩ ∧ ∀ i, i < l.length → w.cell? ⟨b, off + i, none⟩ = some (.int .u8 (l.getD i 0))
/-- A slice value of 'ls.length' parts from a on reads as ls. -/
structure Rowss (w : World) (a : Option Addr) (ls : List (List Int)) : Prop where
  small : ls.length ≤ 140737488355328
  cells : 0 < ls.length → ∃ b off, a = some ⟨b, off, none⟩ ∧ ∀ i, i < ls.length → ∃ a' c', w.cell? ⟨b, off + i, none⟩ = some (.slice a' (ls.getD i []).length c') ∧ Row w a' (ls.getD i [])
theorem int_eq {k : IntKind} {a b : Int} (h : a = b) : Value.int k a = .int k b := by rw [h]
theorem Rowss.all {w : World} {a : Option Addr} {ls : List (List Int)} (h : Rowss w a ls) : M.AllBytes ls := by
  intro i hi
  obtain ⟨b, off, _, hc⟩ := h.cells (by omega)
  obtain ⟨_, _, _, hr⟩ := hc i hi
  exact hr.bytes
theorem below_drewN {B : Nat} {a w : World} (h : Below B a w) (n : Nat) : Below B a (w.drewN n) := h.trans ⟨rfl, rfl, rfl, Nat.le_refl _, fun _ _ => rfl⟩
theorem Row.below {w w' : World} {a : Option Addr} {l : List Int} (h : Row w a l) (hb : Below w.heap.size w w') : Row w' a l :=
  ⟨h.small, h.bytes, fun hl => by
    obtain ⟨b, off, ha, hc⟩ := h.cells hl
    exact ⟨b, off, ha, fun i hi => (hb.cell (World.block_lt_of_cell? w _ (hc i hi))).trans (hc i hi)⟩⟩
theorem Rowss.below {w w' : World} {a : Option Addr} {ls : List (List Int)} (h : Rowss w a ls) (hb : Below w.heap.size w w') : Rowss w' a ls :=
  ⟨h.small, fun hl => by
    obtain ⟨b, off, ha, hc⟩ := h.cells hl
    refine ⟨b, off, ha, fun i hi => ?_⟩
    obtain ⟨a', c', h1, h2⟩ := hc i hi
    exact ⟨a', c', (hb.cell (World.block_lt_of_cell? w _ h1)).trans h1, h2.below hb⟩⟩
theorem Row.alloc {w : World} {a : Option Addr} {l : List Int} (h : Row w a l) (o : Obj) : Row (w.alloc o) a l := h.below ((Below.refl _ _).alloc (Nat.le_refl _) o)
theorem Row.drewN {w : World} {a : Option Addr} {l : List Int} (h : Row w a l) (n : Nat) : Row (w.drewN n) a l := h.below (below_drewN (Below.refl _ _) n)
theorem Row.take {w : World} {a : Option Addr} {l : List Int} (h : Row w a l) (k : Nat) : Row w a (l.take k) := by
  have hle : (l.take k).length ≤ l.length := List.length_take_le' _ _
  have := h.small
  refine ⟨by omega, h.bytes.take k, fun hp => ?_⟩
  obtain ⟨b, off, ha, hc⟩ := h.cells (by omega)
  refine ⟨b, off, ha, fun i hi => ?_⟩
  rw [hc i (by omega)]
  have : i < k := by simp at hi; omega
  simp [this]
/-- A new block of bytes. -/
theorem row_new (w : World) (t : TypeId) (l : List Int) (hs : l.length ≤ 140737488355328) (hb : M.Bytes l) :
    Row (w.alloc (.cells (l.map (Value.int .u8)).toArray t)) (some ⟨w.heap.size, 0, none⟩) l :=
  ⟨hs, hb, fun _ => ⟨_, _, rfl, fun i hi => by
    have e : l.getD i 0 = l[i] := by simp [hi]
    rw [e, Nat.zero_add, World.cell?_alloc_new]
    simp [hi]⟩⟩
theorem row_at (w : World) (t : TypeId) (l : List Int) (n : Nat) (hn : n = w.heap.size) (hs : l.length ≤ 140737488355328) (hb : M.Bytes l) :
    Row (w.alloc (.cells (l.map (Value.int .u8)).toArray t)) (some ⟨n, 0, none⟩) l := by subst hn; exact row_new w t l hs hb
end Go.Proofs.YtnadfacbfcdkgaaDoor
namespace Go.Proofs.YtnadfacbfcdkgaaDoor
open Go.RowKit
set_option linter.unusedVariables false
set_option linter.unusedSimpArgs false
/-- An address, as three numbers. -/
structure Ad where
  fam : Int
  hi : Int
  lo : Int
/-- Its numbers lie in their kinds. -/
def Ad.ok (a : Ad) : Prop := (-9223372036854775808 ≤ a.fam ∧ a.fam ≤ 9223372036854775807) ∧ (0 ≤ a.hi ∧ a.hi ≤ 18446744073709551615) ∧ (0 ≤ a.lo ∧ a.lo ≤ 18446744073709551615)
abbrev Ad.v (a : Ad) : Value := .agg #[.int .i64 a.fam, .int .u64 a.hi, .int .u64 a.lo]
def Ad.right (a : Ad) : Bool := if a.fam = 4 then (a.hi == 0) && (a.lo / 4294967296 == 0) else a.fam == 6
def Ad.width (a : Ad) : Int := if a.fam = 4 then 32 else 128
/-- The k lowest bits as 0. -/
def cutLow (x : Int) (k : Nat) : Int := x / 2 ^ k * 2 ^ k
/-- The address with its bits from the place bits on 0. -/
def Ad.masked (a : Ad) (bits : Int) : Ad :=
  ⟨a.fam, cutLow a.hi (64 - min (bits + 128 - a.width) 64).toNat, cutLow a.lo (64 - max (bits + 128 - a.width - 64) 0).toNat⟩
def Ad.fits (a : Ad) (bits : Int) : Bool := a.right && (decide (0 ≤ bits) && decide (bits ≤ a.width))
def Ad.mask (a : Ad) (bits : Int) : Ad × Int := if a.fits bits then (a.masked bits, 0) else (⟨0, 0, 0⟩, 1)
end Go.Proofs.YtnadfacbfcdkgaaDoor
namespace Go.Proofs.YtnadfacbfcdkgaaDoor
open Go.ChangeShapes Go.WideShapes Go.ChangeAt Go.RowKit Go.Joins
set_option linter.unusedVariables false
set_option linter.constructorNameAsVariable false
set_option maxRecDepth 100000
theorem maxLen_cell {W : World} (h : W.ShapedOpen Tryd.prog) : ∃ m, W.cell? ⟨0, 0, none⟩ = some (.int .i64 m) :=
  Go.Proofs.cell_of_shapedOpen_int (zero := #[.int .i64 0]) (t := 3) h (of_decide_eq_true (by kernel_rfl)) (by kernel_rfl) rfl (by kernel_rfl) (by kernel_rfl) Tryd.underlying3
/-- What a flat datum lays, cell by cell. -/
def cell1 : DataW Unit → Value
  | .lit (.int k n) => .int k n
  | _ => .bool false
def cellsA : DataW Unit → List Value
  | .agg ds => ds.map cell1
  | _ => []
def cellsB : DataW Unit → List Value
  | .agg ds => ds.flatMap cellsA
  | _ => []
def laidOne (vs : List Value) : Obj → Obj
  | .cells _ t frozen => .cells vs.toArray t frozen
  | o => o
end Go.Proofs.YtnadfacbfcdkgaaDoor
