/- Texts joined: Math Fold Sum Mem App Reads Adr Pre Byt Room BlkX BlkY TcA TcQ Ord Back RBit RByt FrA FrS TcN -/
import Derived.Test.YtfiembbmgdmagaaRows
import Derived.WalkKit
import Derived.Laws.BitsAllLaws
import Derived.Laws.BitsLemmas
import Derived.Laws.Bits128
import Derived.Below
import Derived.Deep.Draws
import Derived.Laws.World
import Derived.Laws.AppendOwn
import Derived.Laws.AppendOwnNone
import Derived.Laws.OwnMore
import Derived.OwnWalk
import Derived.KernelRfl
import Derived.Deep.QuietTactic
import Derived.BigQuiet
import Derived.Laws.Shifts
import Derived.Laws.ShiftsVarLaws
import Derived.Laws.StructEq
import Derived.Deep.RegionWith
import Derived.Deep.DeepCutAuto
import Derived.Laws.BytesArg
import Derived.Laws.MakeOwn
import Derived.Deep.WholeRow
import Derived.BigRegion
import Derived.Deep.RegionHeld3
import Derived.RegionTactic
import Derived.ProofKit
import Derived.OpenShut
import Derived.Deep.DeepHandedRow
import Derived.Deep.Slices
import Derived.Deep.Strs
import Derived.ChangeSlices
import Derived.ChangeSame
namespace Go.Proofs.Ytfiembbmgdmagaa.M
/-- What folding leaves of a number that is not below 0. -/
def nf (t : Int) : Int := if t ≤ 0 then 0 else (t - 1) % 65535 + 1
theorem nf_bd (t : Int) : 0 ≤ nf t ∧ nf t ≤ 65535 := by unfold nf; split <;> omega
theorem nf_zero {t : Int} (h : nf t = 65535) : t % 65535 = 0 ∧ 0 < t := by unfold nf at h; split at h <;> omega
def Bytes (l : List Int) : Prop := ∀ x, x ∈ l → 0 ≤ x ∧ x ≤ 255
theorem Bytes.of {l : List Int} (h : l.all (fun x => decide (0 ≤ x) && decide (x ≤ 255)) = true) : Bytes l := fun x hx => by simpa using List.all_eq_true.1 h x hx
theorem Bytes.nil : Bytes [] := by intro x h; cases h
theorem Bytes.left {a b : List Int} (h : Bytes (a ++ b)) : Bytes a := fun x hx => h x (List.mem_append_left _ hx)
theorem Bytes.right {a b : List Int} (h : Bytes (a ++ b)) : Bytes b := fun x hx => h x (List.mem_append_right _ hx)
theorem Bytes.take {a : List Int} (h : Bytes a) (n : Nat) : Bytes (a.take n) := fun x hx => h x (List.mem_of_mem_take hx)
theorem Bytes.drop {a : List Int} (h : Bytes a) (n : Nat) : Bytes (a.drop n) := fun x hx => h x (List.mem_of_mem_drop hx)
theorem Bytes.set {a : List Int} (h : Bytes a) (i : Nat) {z : Int} (hz : 0 ≤ z ∧ z ≤ 255) : Bytes (a.set i z) := fun x hx => by
  rcases List.mem_or_eq_of_mem_set hx with hx | rfl
  · exact h x hx
  · exact hz
/-- Which half of a word the next byte is, n bytes on. -/
def par (p : Bool) (n : Nat) : Bool := if n % 2 = 0 then p else !p
theorem par_zero (p : Bool) : par p 0 = p := rfl
theorem par_succ (p : Bool) (n : Nat) : par p (n + 1) = !(par p n) := by
  unfold par; by_cases h : n % 2 = 0
  · rw [if_neg (by omega), if_pos h]
  · rw [if_pos (by omega), if_neg h]; simp
theorem par_add (p : Bool) (a b : Nat) : par (par p a) b = par p (a + b) := by
  induction b with
  | zero => rfl
  | succ b ih => rw [par_succ, ih, ← Nat.add_assoc, par_succ]
theorem par_even (p : Bool) {n : Nat} (h : n % 2 = 0) : par p n = p := by unfold par; rw [if_pos h]
/-- The sum of all bytes, each as its half of a word, not folded. -/
def raw : Bool → List Int → Int
  | _, [] => 0
  | true, x :: l => 256 * x + raw false l
  | false, x :: l => x + raw true l
theorem raw_nil (p : Bool) : raw p [] = 0 := by cases p <;> rfl
theorem raw_cons (p : Bool) (x : Int) (l : List Int) : raw p (x :: l) = (if p then 256 * x else x) + raw (!p) l := by cases p <;> rfl
theorem raw_append (p : Bool) (a b : List Int) : raw p (a ++ b) = raw p a + raw (par p a.length) b := by
  induction a generalizing p with
  | nil => rw [raw_nil]; simp [par_zero]
  | cons x a ih =>
    rw [List.cons_append, raw_cons, raw_cons, ih, List.length_cons, Int.add_assoc]
    congr 3
    have := par_add p 1 a.length
    rw [show par p 1 = !p from by cases p <;> rfl] at this
    rw [this, Nat.add_comm]
theorem raw_one (p : Bool) (x : Int) : raw p [x] = if p then 256 * x else x := by rw [raw_cons, raw_nil]; omega
theorem raw_bd (p : Bool) (l : List Int) (h : Bytes l) : 0 ≤ raw p l ∧ raw p l ≤ 65280 * l.length := by
  induction l generalizing p with
  | nil => rw [raw_nil]; simp
  | cons x l ih =>
    have hx := h x (by simp)
    have hi := ih (!p) (fun y hy => h y (by simp [hy]))
    rw [raw_cons, List.length_cons]
    cases p <;> simp at * <;> omega
def AllBytes (ls : List (List Int)) : Prop := ∀ i, i < ls.length → Bytes (ls.getD i [])
/-- The sum of parts, one behind the other. -/
def sumOf (ls : List (List Int)) : Int := nf (raw true ls.flatten)
theorem sumOf_one (l : List Int) : sumOf [l] = nf (raw true l) := by unfold sumOf; simp
/-- Bytes of even length with their check sum behind them have the sum 65535, and are found if one byte is turned. -/
theorem checked (l : List Int) (he : l.length % 2 = 0) (hb : Bytes l) :
    raw true (l ++ [(65535 - sumOf [l]) / 256, (65535 - sumOf [l]) % 256]) % 65535 = 0 ∧ 0 < raw true (l ++ [(65535 - sumOf [l]) / 256, (65535 - sumOf [l]) % 256]) := by
  have h1 := raw_bd true l hb
  have h2 : sumOf [l] = nf (raw true l) := sumOf_one l
  rw [raw_append, par_even true he, h2]
  generalize raw true l = R at *
  have h3 := nf_bd R
  have h4 : nf R % 65535 = R % 65535 := by unfold nf; split <;> omega
  have h6 : nf R ≤ R := by have := h1.1; unfold nf; split <;> omega
  generalize nf R = F at *
  have h5 : raw true [(65535 - F) / 256, (65535 - F) % 256] = 65535 - F := by
    rw [raw_cons, raw_one]; simp; omega
  rw [h5]
  omega
theorem par_one (p : Bool) (n : Nat) : par (!p) n = par p (n + 1) := by
  rw [par_succ]; unfold par; split <;> simp
theorem raw_set (p : Bool) (l : List Int) (i : Nat) (z : Int) (hi : i < l.length) :
    raw p (l.set i z) = raw p l + if par p i then 256 * (z - l.getD i 0) else z - l.getD i 0 := by
  induction l generalizing p i with
  | nil => simp at hi
  | cons x l ih =>
    cases i with
    | zero => rw [List.set_cons_zero, raw_cons, raw_cons, par_zero]; cases p <;> simp <;> omega
    | succ i =>
      rw [List.set_cons_succ, raw_cons, raw_cons, ih (!p) i (by simpa using hi), par_one, List.getD_cons_succ]
      omega
theorem turned (r : List Int) (i : Nat) (z : Int) (h : raw true r % 65535 = 0) (hi : i < r.length) (hz : 0 ≤ z ∧ z ≤ 255) (hr : 0 ≤ r.getD i 0 ∧ r.getD i 0 ≤ 255) (hne : z ≠ r.getD i 0) :
    sumOf [r.set i z] ≠ 65535 := by
  intro hs
  rw [sumOf_one] at hs
  have h1 := (nf_zero hs).1
  rw [raw_set true r i z hi] at h1
  split at h1 <;> omega
/-- Two bytes of the same half of their words change places. -/
def swap (l : List Int) (i k : Nat) : List Int := (l.set i (l.getD k 0)).set k (l.getD i 0)
theorem swap_length (l : List Int) (i k : Nat) : (swap l i k).length = l.length := by unfold swap; simp
end Go.Proofs.Ytfiembbmgdmagaa.M
namespace Go.Proofs.Ytfiembbmgdmagaa
open Go.RowKit
set_option linter.unusedVariables false
theorem ret_int {k : IntKind} {a b : Int} (h : a = b) : Ending.returned (.int k a) = .returned (.int k b) := by rw [h]
/-- A slice value of 'l.length' bytes from a on reads as the numbers l. -/
structure Row (w : World) (a : Option Addr) (l : List Int) : Prop where
  small : l.length ≤ 140737488355328
  bytes : M.Bytes l
  cells : 0 < l.length → ∃ b off, a = some ⟨b, off, none⟩ ∧ ∀ i, i < l.length → w.cell? ⟨b, off + i, none⟩ = some (.int .u8 (l.getD i 0))
/-- A slice value of 'ls.length' parts from a on reads as ls. -/
structure Rowss (w : World) (a : Option Addr) (ls : List (List Int)) : Prop where
  small : ls.length ≤ 140737488355328
  cells : 0 < ls.length → ∃ b off, a = some ⟨b, off, none⟩ ∧ ∀ i, i < ls.length → ∃ a' c', w.cell? ⟨b, off + i, none⟩ = some (.slice a' (ls.getD i []).length c') ∧ Row w a' (ls.getD i [])
theorem Rowss.all {w : World} {a : Option Addr} {ls : List (List Int)} (h : Rowss w a ls) : M.AllBytes ls := by
  intro i hi
  obtain ⟨b, off, _, hc⟩ := h.cells (by omega)
  obtain ⟨_, _, _, hr⟩ := hc i hi
  exact hr.bytes
theorem below_drewN {B : Nat} {a w : World} (h : Below B a w) (n : Nat) : Below B a (w.drewN n) := h.trans ⟨rfl, rfl, rfl, Nat.le_refl _, fun _ _ => rfl⟩
theorem Row.below {w w' : World} {a : Option Addr} {l : List Int} (h : Row w a l) (hb : Below w.heap.size w w') : Row w' a l :=
  ⟨h.small, h.bytes, fun hl => by
    obtain ⟨b, off, ha, hc⟩ := h.cells hl
    exact ⟨b, off, ha, fun i hi => (hb.cell (World.block_lt_of_cell? w _ (hc i hi))).trans (hc i hi)⟩⟩
theorem Rowss.below {w w' : World} {a : Option Addr} {ls : List (List Int)} (h : Rowss w a ls) (hb : Below w.heap.size w w') : Rowss w' a ls :=
  ⟨h.small, fun hl => by
    obtain ⟨b, off, ha, hc⟩ := h.cells hl
    refine ⟨b, off, ha, fun i hi => ?_⟩
    obtain ⟨a', c', h1, h2⟩ := hc i hi
    exact ⟨a', c', (hb.cell (World.block_lt_of_cell? w _ h1)).trans h1, h2.below hb⟩⟩
theorem Row.alloc {w : World} {a : Option Addr} {l : List Int} (h : Row w a l) (o : Obj) : Row (w.alloc o) a l := h.below ((Below.refl _ _).alloc (Nat.le_refl _) o)
theorem Row.drewN {w : World} {a : Option Addr} {l : List Int} (h : Row w a l) (n : Nat) : Row (w.drewN n) a l := h.below (below_drewN (Below.refl _ _) n)
theorem Row.take {w : World} {a : Option Addr} {l : List Int} (h : Row w a l) (k : Nat) : Row w a (l.take k) := by
  have hle : (l.take k).length ≤ l.length := List.length_take_le' _ _
  have := h.small
  refine ⟨by omega, h.bytes.take k, fun hp => ?_⟩
  obtain ⟨b, off, ha, hc⟩ := h.cells (by omega)
  refine ⟨b, off, ha, fun i hi => ?_⟩
  rw [hc i (by omega)]
  have : i < k := by simp at hi; omega
  simp [this]
/-- The slice value v owns the bytes l, in a block of the call's own (from B on), or is nil and l empty. -/
def Owns (w : World) (B : Nat) (v : Value) (l : List Int) : Prop := w.ownsRow B 5 1 v l.length (l.map (Value.int .u8))
theorem Owns.form {w : World} {B : Nat} {v : Value} {l : List Int} (h : Owns w B v l) :
    ∃ a c, v = .slice a l.length c ∧ l.length ≤ c ∧ (a = none → c = 0) ∧ (∀ x, a = some x → B ≤ x.block ∧ x.off = 0 ∧ x.spot = none) ∧ v.ownBlock = a.map (·.block) := by
  obtain ⟨h1, h2⟩ := h
  rcases h2 with ⟨rfl, h3⟩ | ⟨g, cap, cur, rfl, h3, h4, h5, h6, h7, h8⟩
  · exact ⟨none, 0, by rw [h3], by omega, fun _ => rfl, fun _ h => (by cases h), rfl⟩
  · exact ⟨_, cap, rfl, h5, fun h => (by cases h), fun x hx => (by cases hx; exact ⟨h3, rfl, rfl⟩), rfl⟩
theorem Owns.row {w : World} {B : Nat} {a : Option Addr} {c : Nat} {l : List Int} (h : Owns w B (.slice a l.length c) l) (hs : l.length ≤ 140737488355328) (hb : M.Bytes l) : Row w a l := by
  refine ⟨hs, hb, fun hp => ?_⟩
  have h0 := h
  obtain ⟨h1, h2⟩ := h
  rcases h2 with ⟨h3, h4⟩ | ⟨g, cap, cur, h3, h4, h5, h6, h7, h8, h9⟩
  · omega
  · simp only [Value.slice.injEq] at h3
    obtain ⟨rfl, _, rfl⟩ := h3
    refine ⟨g, 0, rfl, fun i hi => ?_⟩
    have hc := World.ownsRow.cellAt (e := 5) (size := 1) h0 i (by omega)
    rw [Nat.zero_add, hc]
    simp [hi]
theorem Owns.nil (w : World) (B : Nat) : Owns w B (.slice none 0 0) [] := World.ownsRow_nil _ _ _ _
theorem Owns.alloc {w : World} {B : Nat} {v : Value} {l : List Int} (h : Owns w B v l) (o : Obj) : Owns (w.alloc o) B v l := World.ownsRow.alloc h o
theorem Owns.drewN {w : World} {B : Nat} {v : Value} {l : List Int} (h : Owns w B v l) (n : Nat) : Owns (w.drewN n) B v l := h
/-- Behind memory that only grew. -/
theorem Owns.below {w w' : World} {B : Nat} {v : Value} {l : List Int} (h : Owns w B v l) (hb : Below w.heap.size w w') : Owns w' B v l := by
  obtain ⟨h1, h2⟩ := h
  refine ⟨h1, ?_⟩
  rcases h2 with h2 | ⟨g, cap, cur, h3, h4, h5, h6⟩
  · exact .inl h2
  · refine .inr ⟨g, cap, cur, h3, h4, (hb.block g ?_).trans h5, h6⟩
    have := (Array.getElem?_eq_some_iff.1 h5).1
    exact this
/-- b[k:]. -/
theorem Row.drop {w : World} {a : Option Addr} {l : List Int} (h : Row w a l) (c k : Nat) (hc : l.length ≤ c) : Row w (if c = k then a else a.map (fun x => x.add k)) (l.drop k) := by
  have hs := h.small
  refine ⟨by simp; omega, h.bytes.drop k, fun hp => ?_⟩
  have hk : k < l.length := by simp at hp; omega
  obtain ⟨b, off, rfl, hcc⟩ := h.cells (by omega)
  rw [if_neg (by omega)]
  refine ⟨b, off + k, by simp [Go.WideShapes.add_plain], fun i hi => ?_⟩
  have hi' : k + i < l.length := by simp at hi; omega
  rw [Nat.add_assoc, hcc (k + i) hi']
  simp
theorem Row.cell {w : World} {g : Nat} {l : List Int} (h : Row w (some ⟨g, 0, none⟩) l) (i : Nat) (hi : i < l.length) : w.cell? ⟨g, i, none⟩ = some (.int .u8 (l.getD i 0)) := by
  obtain ⟨b, off, hh, hcc⟩ := h.cells (by omega)
  cases hh
  have := hcc i hi
  rwa [Nat.zero_add] at this
theorem Owns.at {w : World} {B c : Nat} {a : Option Addr} {l : List Int} (h : Owns w B (.slice a l.length c) l) (hr : Row w a l) (hp : 0 < l.length) : ∃ g, a = some ⟨g, 0, none⟩ ∧ B ≤ g := by
  obtain ⟨b, off, rfl, _⟩ := hr.cells hp
  obtain ⟨a', c', h1, _, _, h3, _⟩ := h.form
  cases h1
  have := h3 _ rfl
  simp at this
  exact ⟨b, by rw [this.2], this.1⟩
/-- A byte is written over in a slice of the call's own. -/
theorem Owns.stored {w : World} {B g c : Nat} {l : List Int} (h : Owns w B (.slice (some ⟨g, 0, none⟩) l.length c) l) (i : Nat) (y : Int) :
    Owns (w.setCell ⟨g, i, none⟩ (.int .u8 y)) B (.slice (some ⟨g, 0, none⟩) l.length c) (l.set i y) := by
  have := World.ownsRow.stored (e := 5) (size := 1) h i (.int .u8 y)
  replace this := this.1
  show World.ownsRow _ B 5 1 _ (l.set i y).length ((l.set i y).map (Value.int .u8))
  rw [List.length_set, List.map_set]
  exact this
theorem Owns.frozen {w : World} {B g c : Nat} {l : List Int} (h : Owns w B (.slice (some ⟨g, 0, none⟩) l.length c) l) (i : Nat) : w.frozen? ⟨g, i, none⟩ = false :=
  World.ownsRow.frozenAt (e := 5) (size := 1) h i
/-- Two bytes of a slice of the call's own change places. -/
theorem Owns.swap {w : World} {B g c : Nat} {l : List Int} (h : Owns w B (.slice (some ⟨g, 0, none⟩) l.length c) l) (i k : Nat) :
    Owns ((w.setCell ⟨g, i, none⟩ (.int .u8 (l.getD k 0))).setCell ⟨g, k, none⟩ (.int .u8 (l.getD i 0))) B (.slice (some ⟨g, 0, none⟩) (M.swap l i k).length c) (M.swap l i k) := by
  have h1 := h.stored i (l.getD k 0)
  rw [show l.length = (l.set i (l.getD k 0)).length by simp] at h1
  have h2 := h1.stored k (l.getD i 0)
  rw [List.length_set] at h2
  rw [M.swap_length]
  exact h2
/-- The number in four bytes. -/
def u32 (l : List Int) (x : Int) : Int := 16777216 * l.getD x.toNat 0 + 65536 * l.getD (x.toNat + 1) 0 + 256 * l.getD (x.toNat + 2) 0 + l.getD (x.toNat + 3) 0
end Go.Proofs.Ytfiembbmgdmagaa
namespace Go.Proofs.Ytfiembbmgdmagaa
open Go.RowKit
set_option linter.unusedVariables false
set_option linter.unusedSimpArgs false
/-- An address, as three numbers. -/
structure Ad where
  fam : Int
  hi : Int
  lo : Int
/-- Its numbers lie in their kinds. -/
def Ad.ok (a : Ad) : Prop := (-9223372036854775808 ≤ a.fam ∧ a.fam ≤ 9223372036854775807) ∧ (0 ≤ a.hi ∧ a.hi ≤ 18446744073709551615) ∧ (0 ≤ a.lo ∧ a.lo ≤ 18446744073709551615)
abbrev Ad.v (a : Ad) : Value := .agg #[.int .i64 a.fam, .int .u64 a.hi, .int .u64 a.lo]
def Ad.right (a : Ad) : Bool := if a.fam = 4 then (a.hi == 0) && (a.lo / 4294967296 == 0) else a.fam == 6
def Ad.width (a : Ad) : Int := if a.fam = 4 then 32 else 128
theorem right_any (f h l : Int) (w : World) :
    Calls Try.prog 78 #[.agg #[.int .i64 f, .int .u64 h, .int .u64 l]] w fun e w' => e = .returned (.bool (Ad.right ⟨f, h, l⟩)) ∧ w' = w.alloc (.cells #[.int .i64 f, .int .u64 h, .int .u64 l] 24) := by
  go_enter Try.func78, Try.ntmps78
  by_cases hf : f = 4
  · by_cases hh : h = 0
    · go_wp2
      go_ret
      exact ⟨by simp [Ad.right, hf, hh], by simp [*]⟩
    · go_wp2
      go_ret
      exact ⟨by simp [Ad.right, hf, hh], by simp [*]⟩
  · go_wp2
    go_ret
    exact ⟨by simp [Ad.right, hf], by simp [*]⟩
/-- The k lowest bits as 0. -/
def cutLow (x : Int) (k : Nat) : Int := x / 2 ^ k * 2 ^ k
/-- The address with its bits from the place bits on 0. -/
def Ad.masked (a : Ad) (bits : Int) : Ad :=
  ⟨a.fam, cutLow a.hi (64 - min (bits + 128 - a.width) 64).toNat, cutLow a.lo (64 - max (bits + 128 - a.width - 64) 0).toNat⟩
def Ad.fits (a : Ad) (bits : Int) : Bool := a.right && (decide (0 ≤ bits) && decide (bits ≤ a.width))
def Ad.mask (a : Ad) (bits : Int) : Ad × Int := if a.fits bits then (a.masked bits, 0) else (⟨0, 0, 0⟩, 1)
theorem kept {W w1 : World} {b o : Nat} {v : Value} (hb : Below W.heap.size W w1) (h : W.cell? ⟨b, o, none⟩ = some v) : w1.cell? ⟨b, o, none⟩ = some v :=
  (hb.cell (World.block_lt_of_cell? W _ h)).trans h
/-- Are they one address? -/
def Ad.same (a b : Ad) : Bool := a.fam == b.fam && (a.hi == b.hi && a.lo == b.lo)
def Ad.has (p : Ad) (n : Int) (a : Ad) : Bool := (a.mask n).2 == 0 && (a.mask n).1.same p
def Ad.rightPrefix (p : Ad) (n : Int) : Bool := p.has n p
/-- The n lowest bytes of two words, the highest first. -/
def bytesGo : Nat → Int → Int → List Int
  | 0, _, _ => []
  | n + 1, h, l => bytesGo n (h / 256) (l / 256 + h * 72057594037927936 % 18446744073709551616) ++ [l % 256]
def Ad.bytes (a : Ad) : List Int := if a.right then bytesGo (if a.fam = 4 then 4 else 16) a.hi a.lo else []
theorem put_other {w : World} {a b : Addr} {v : Value} (h : a ≠ b) : (w.setCell a v).cell? b = w.cell? b := by
  apply World.cell?_setCell_other
  exact h
end Go.Proofs.Ytfiembbmgdmagaa
namespace Go.Proofs.Ytfiembbmgdmagaa
open Go.RowKit
set_option linter.unusedVariables false
theorem Owns.other {w : World} {B : Nat} {v : Value} {l : List Int} (h : Owns w B v l) {ad : Addr} (ha : ad.block < B) (u : Value) : Owns (w.setCell ad u) B v l := ownsRow_setCell_below h ha u
end Go.Proofs.Ytfiembbmgdmagaa
namespace Go.Proofs.Ytfiembbmgdmagaa
open Go.RowKit
set_option linter.unusedVariables false
set_option linter.unusedSimpArgs false
/-- The block g holds these cells. -/
def Blk (W : World) (g : Nat) (t : TypeId) (cs : Array Value) : Prop := W.heap[g]? = some (.cells cs t (0, 0))
theorem blk_new (w : World) (cs : Array Value) (t : TypeId) : Blk (w.alloc (.cells cs t)) w.heap.size t cs := heap_alloc_last w _
theorem Blk.lt {W : World} {g : Nat} {t : TypeId} {cs : Array Value} (h : Blk W g t cs) : g < W.heap.size := (Array.getElem?_eq_some_iff.1 h).1
theorem Blk.below {W W' : World} {g B : Nat} {t : TypeId} {cs : Array Value} (h : Blk W g t cs) (hb : Below B W W') (hg : g < B) : Blk W' g t cs := (hb.block g hg).trans h
theorem Blk.kept {W W' : World} {g : Nat} {t : TypeId} {cs : Array Value} (h : Blk W g t cs) (hb : Below W.heap.size W W') : Blk W' g t cs := h.below hb h.lt
theorem Blk.alloc {W : World} {g : Nat} {t : TypeId} {cs : Array Value} (h : Blk W g t cs) (X : Obj) : Blk (W.alloc X) g t cs := h.kept ((Below.refl _ _).alloc (Nat.le_refl _) _)
theorem Blk.drew {W : World} {g : Nat} {t : TypeId} {cs : Array Value} (h : Blk W g t cs) : Blk W.drew g t cs := h.kept ((Below.refl _ _).drew)
theorem Blk.cell {W : World} {g : Nat} {t : TypeId} {cs : Array Value} (h : Blk W g t cs) (i : Nat) (v : Value) (hv : cs[i]? = some v) : W.cell? ⟨g, i, none⟩ = some v :=
  (cell_of_row W g i cs t (0, 0) h).trans hv
theorem Blk.set {W : World} {g : Nat} {t : TypeId} {cs : Array Value} (h : Blk W g t cs) (cs' : Array Value) : Blk (W.setRow g cs') g t cs' := setRow_heap W g cs cs' t (0, 0) h
theorem setRow_heap_ne (W : World) (g k : Nat) (cs : Array Value) (h : k ≠ g) : (W.setRow g cs).heap[k]? = W.heap[k]? := by
  show (W.heap.modify g _)[k]? = _
  rw [Array.getElem?_modify, if_neg (fun e => h e.symm)]
theorem below_setRow {B : Nat} {w W : World} (hb : Below B w W) {g : Nat} (hg : B ≤ g) (cs : Array Value) : Below B w (W.setRow g cs) :=
  ⟨hb.os, hb.tape, hb.output, by rw [setRow_size]; exact hb.size, fun k hk => (setRow_heap_ne W g k cs (by omega)).trans (hb.block k hk)⟩
theorem Blk.other {W : World} {g g' : Nat} {t : TypeId} {cs : Array Value} (h : Blk W g t cs) (hn : g ≠ g') (cs' : Array Value) : Blk (W.setRow g' cs') g t cs := (setRow_heap_ne W g' g cs' hn).trans h
theorem Blk.put {W : World} {g : Nat} {t : TypeId} {cs : Array Value} (h : Blk W g t cs) (i : Nat) (v : Value) : Blk (W.setCell ⟨g, i, none⟩ v) g t (cs.setIfInBounds i v) := by
  rw [setCell_eq_setRow W g i cs t (0, 0) v h]
  exact h.set _
theorem Blk.put_other {W : World} {g g' : Nat} {t t' : TypeId} {cs cs' : Array Value} (h : Blk W g t cs) (h' : Blk W g' t' cs') (hn : g ≠ g') (i : Nat) (v : Value) : Blk (W.setCell ⟨g', i, none⟩ v) g t cs := by
  rw [setCell_eq_setRow W g' i cs' t' (0, 0) v h']
  exact h.other hn _
theorem Blk.frozen {W : World} {g : Nat} {t : TypeId} {cs : Array Value} (h : Blk W g t cs) (i : Nat) : W.frozen? ⟨g, i, none⟩ = false := by
  have h' : W.heap[g]? = some (.cells cs t (0, 0)) := h
  simp [World.frozen?, h']
/-- A whole struct out of its block. -/
theorem load_blk {W : World} {g : Nat} {t : TypeId} {cs : Array Value} (h : Blk W g t cs) {fs : _} (hu : Try.prog.underlying t = some (.struct fs)) (hi : (Try.prog.info? t).map (·.size) = some cs.size) :
    (loadVar t ⟨g, 0, none⟩).run Try.prog W = .ok (.agg cs) W := run_loadVar_row W g t t cs (0, 0) (.struct fs) h hu rfl hi
/-- The answer of a function whose one result lies in a block. -/
theorem ret_cell {R : Ending → World → Prop} {a : Act} {w : World} {g k : Nat} {t : TypeId} {cs : Array Value} (fn : Func) (hf : fn.results = #[.cell k t]) (h : Blk w g t cs) {fs : _} (hu : Try.prog.underlying t = some (.struct fs)) (hi : (Try.prog.info? t).map (·.size) = some cs.size)
    (h2 : a.tmps[k]?.getD undef = .pointer (some ⟨g, 0, none⟩)) (hdf : a.defers = []) (hR : R (.returned (.agg cs)) w) : bodyPost Try.prog fn R .ret a w := by
  refine bodyPost_ret (v := .agg cs) ?_ hdf hR
  have hl := load_blk h hu hi
  simp [results, hf, h2, asAddr, hl, Array.mapM_eq_mapM_toList]
theorem ret_cell_tmp {R : Ending → World → Prop} {a : Act} {w : World} {g k j : Nat} {t : TypeId} {cs : Array Value} {v : Value} (fn : Func) (hf : fn.results = #[.cell k t, .tmp j]) (h : Blk w g t cs) {fs : _} (hu : Try.prog.underlying t = some (.struct fs)) (hi : (Try.prog.info? t).map (·.size) = some cs.size)
    (h2 : a.tmps[k]?.getD undef = .pointer (some ⟨g, 0, none⟩)) (h3 : a.tmps[j]?.getD undef = v) (hdf : a.defers = []) (hR : R (.returned (.tuple #[.agg cs, v])) w) : bodyPost Try.prog fn R .ret a w := by
  refine bodyPost_ret (v := .tuple #[.agg cs, v]) ?_ hdf hR
  have hl := load_blk h hu hi
  simp [results, hf, h2, h3, asAddr, hl, Array.mapM_eq_mapM_toList]
theorem step_store_blk {ops : Array Oper} {o : Oper} {ac : Act} {K : Act → World → Prop} {Q : Exit → Act → World → Prop} {Z : Prop} {w : World} (hgd : o.guard = none) (t : TypeId) (p x : Operand) (ho : o.op = Op.store t p x) (g : Nat) (cs old : Array Value)
    (hp : ac.eval p = .pointer (some ⟨g, 0, none⟩)) (hx : ac.eval x = .agg cs) (hb : Blk w g t old) (hi : (Try.prog.info? t).map (·.size) = some cs.size) (ho' : old.size = cs.size) (h1 : cs.all (·.oneCell') = true) (h : K (ac.put o.dst undef) (w.setRow g cs)) :
    if Region.wanted o (yielded ops ac.tmps) = true then Oper.wp Try.prog o ac w K Q else Z := by
  have hw : Region.wanted o (yielded ops ac.tmps) = true := by simp [Region.wanted, hgd]
  rw [if_pos hw]
  exact wp_store_row t p x ho g cs hp hx t old hb hi ho' h1 h
theorem load_sub {W : World} {g : Nat} {t ty : TypeId} {cs : Array Value} (h : Blk W g t cs) (k : Nat) (sub : Array Value) (hs : (cs.toList.drop k).take sub.size = sub.toList) {fs : _} (hu : Try.prog.underlying ty = some (.struct fs)) (hi : (Try.prog.info? ty).map (·.size) = some sub.size) :
    (loadVar ty ⟨g, k, none⟩).run Try.prog W = .ok (.agg sub) W := by
  have hl : (loadCells ⟨g, k, none⟩ sub.toList.length).run Try.prog W = .ok sub.toList.toArray W :=
    run_loadCells_list (P := Try.prog) W ⟨g, k, none⟩ sub.toList (fun j v hv => by
      have hadd : (⟨g, k, none⟩ : Addr).add j = ⟨g, k + j, none⟩ := Go.WideShapes.add_plain ..
      rw [hadd]
      refine h.cell (k + j) v ?_
      rw [← hs] at hv
      rw [List.getElem?_take] at hv
      split at hv
      · rw [List.getElem?_drop] at hv
        simpa using hv
      · cases hv)
  cases hq : Try.prog.info? ty with
  | none => simp [hq] at hi
  | some i =>
    have hs' : i.size = sub.size := by simpa [hq] using hi
    have hagg : (isAgg ty).run Try.prog W = .ok true W := by
      unfold isAgg
      rw [Sem.run_bind, run_underlying hu W]
      rfl
    simp only [Array.length_toList, Array.toArray_toList] at hl
    simp [loadVar, Sem.run_bind, hagg, sizeOf, typeInfo, hq, hs', hl]
theorem wpList_load_sub_w {ops : Array Oper} {rest : List Oper} {o : Oper} {ac : Act} {w : World} {Q : Exit → Act → World → Prop} (hw : Region.wanted o (yielded ops ac.tmps) = true) (ty : TypeId) (p : Operand) (ho : o.op = Op.load ty p) (g k : Nat) (t : TypeId) (hp : ac.eval p = .pointer (some ⟨g, k, none⟩)) (cs sub : Array Value)
    (hb : Blk w g t cs) (hs : (cs.toList.drop k).take sub.size = sub.toList) {fs : _} (hu : Try.prog.underlying ty = some (.struct fs)) (hi : (Try.prog.info? ty).map (·.size) = some sub.size) (h : wpList Try.prog ops Q rest (ac.put o.dst (.agg sub)) w) : wpList Try.prog ops Q (o :: rest) ac w := by
  refine wpList_step fun K hK => ?_
  rw [if_pos hw]
  have hl := load_sub hb k sub hs hu hi
  unfold Oper.wp
  simp [execOp, ho, hp, Instr.loadAt, Instr.sureAddr, hl, Result.andThen]
  exact hK _ _ h
theorem wpList_load_blk_w {ops : Array Oper} {rest : List Oper} {o : Oper} {ac : Act} {w : World} {Q : Exit → Act → World → Prop} (hw : Region.wanted o (yielded ops ac.tmps) = true) (ty : TypeId) (x : Operand) (ho : o.op = .load ty x)
    (g : Nat) (hx : ac.eval x = .pointer (some ⟨g, 0, none⟩)) (cs : Array Value) (hg : Blk w g ty cs) {fs : _} (hu : Try.prog.underlying ty = some (.struct fs)) (hi : (Try.prog.info? ty).map (·.size) = some cs.size)
    (h : wpList Try.prog ops Q rest (ac.put o.dst (.agg cs)) w) : wpList Try.prog ops Q (o :: rest) ac w :=
  wpList_step fun K hK => by rw [if_pos hw]; exact wp_load_row ty x ho g hx ty cs (0, 0) (.struct fs) hg hu rfl hi (hK _ _ h)
theorem yieldsIf_sub_w {ops : Array Oper} {S : World → Prop} {o : Oper} {ac : Act} (hw : Region.wanted o (yielded ops ac.tmps) = true) (ty : TypeId) (p : Operand) (ho : o.op = Op.load ty p) (g k : Nat) (t : TypeId) (hp : ac.eval p = .pointer (some ⟨g, k, none⟩)) (cs sub : Array Value)
    (hS : ∀ w, S w → Blk w g t cs) (hs : (cs.toList.drop k).take sub.size = sub.toList) {fs : _} (hu : Try.prog.underlying ty = some (.struct fs)) (hi : (Try.prog.info? ty).map (·.size) = some sub.size) : YieldsIf Try.prog ops S o (.agg sub) ac := by
  refine .inl ⟨hw, fun w hw' => ?_⟩
  have hl := load_sub (hS w hw') k sub hs hu hi
  simp [execOp, ho, hp, Instr.loadAt, Instr.sureAddr, hl, Result.andThen]
theorem blk_nw {W W' : World} {cs : Array Value} {t : TypeId} (e : W.alloc (.cells cs t) = W') : Blk W' W.heap.size t cs := e ▸ blk_new _ _ _
theorem Blk.al {W W' : World} {g : Nat} {t : TypeId} {cs : Array Value} {o : Obj} (h : Blk W g t cs) (e : W.alloc o = W') : Blk W' g t cs := e ▸ h.alloc _
theorem bel_nw {w W : World} {o : Obj} (e : w.alloc o = W) : Below w.heap.size w W := e ▸ (Below.refl _ _).alloc (Nat.le_refl _) _
theorem bel_al {w W W' : World} {o : Obj} (h : Below w.heap.size w W) (e : W.alloc o = W') : Below w.heap.size w W' := e ▸ h.alloc h.size _
theorem bel_tr {w W W' : World} (h : Below w.heap.size w W) (k : Below W.heap.size W W') : Below w.heap.size w W' := h.trans (k.mono h.size)
end Go.Proofs.Ytfiembbmgdmagaa
namespace Go.Proofs.Ytfiembbmgdmagaa
open Go.RowKit
set_option linter.unusedVariables false
theorem yieldsIf_blk_w {ops : Array Oper} {S : World → Prop} {o : Oper} {ac : Act} (hw : Region.wanted o (yielded ops ac.tmps) = true) (t : TypeId) (p : Operand) (ho : o.op = Op.load t p) (g : Nat) (hp : ac.eval p = .pointer (some ⟨g, 0, none⟩)) (cs : Array Value)
    (hS : ∀ w, S w → Blk w g t cs) {fs : _} (hu : Try.prog.underlying t = some (.struct fs)) (hi : (Try.prog.info? t).map (·.size) = some cs.size) : YieldsIf Try.prog ops S o (.agg cs) ac := by
  refine .inl ⟨hw, fun w hw' => ?_⟩
  have hl := load_blk (hS w hw') hu hi
  simp [execOp, ho, hp, Instr.loadAt, Instr.sureAddr, hl, Result.andThen]
end Go.Proofs.Ytfiembbmgdmagaa
namespace Go.Proofs.Ytfiembbmgdmagaa
open Go.RowKit
set_option linter.unusedVariables false
set_option linter.unusedSimpArgs false
/-- A stream: its state, of each side what comes next, how far it may go, whether it is known, and has ended. -/
structure Cn where
  st : Int
  n0 : Int
  n1 : Int
  e0 : Int
  e1 : Int
  k0 : Bool
  k1 : Bool
  d0 : Bool
  d1 : Bool
abbrev Cn.v (c : Cn) : Array Value := #[.int .i64 c.st, .int .u32 c.n0, .int .u32 c.n1, .int .u32 c.e0, .int .u32 c.e1, .bool c.k0, .bool c.k1, .bool c.d0, .bool c.d1]
/-- A segment. -/
structure Gt where
  fl : Int
  win : Int
  sz : Int
  sq : Int
  ak : Int
abbrev Gt.v (g : Gt) : Array Value := #[.int .i64 g.fl, .int .i64 g.win, .int .i64 g.sz, .int .u32 g.sq, .int .u32 g.ak]
def cn0 : Cn := ⟨0, 0, 0, 0, 0, false, false, false, false⟩
def flB (f k : Int) : Bool := bits .and .i64 f k != 0
def frB (a b : Int) : Bool := decide ((a - b) % 4294967296 < 2147483648)
def inB15 (n : Int) : Bool := decide (0 ≤ n) && decide (n ≤ 65535)
def bN (b : Bool) : Int := if b then 1 else 0
def Gt.e (g : Gt) : Int := (g.sq + g.sz + bN (flB g.fl 2) + bN (flB g.fl 1)) % 4294967296
def Gt.lim (g : Gt) : Int := (g.ak + g.win) % 4294967296
def wiB (n x l : Int) : Bool := frB n ((x - 65535) % 4294967296) && frB l n
def stOf (a b : Bool) : Int := if a && b then 5 else if a || b then 4 else 3
def Cn.right (c : Cn) : Bool :=
  if c.st == 1 then c.k0 && (!c.k1 && (!c.d0 && !c.d1))
  else if c.st == 2 then c.k0 && (c.k1 && (!c.d0 && !c.d1))
  else if c.st == 3 || (c.st == 4 || c.st == 5) then c.k0 && (c.k1 && c.st == stOf c.d0 c.d1)
  else if c.st == 6 then c.k0 else false
/-- Of the two sides: false the one that began. -/
def Cn.nx (c : Cn) (s : Bool) : Int := if s then c.n1 else c.n0
def Cn.ed (c : Cn) (s : Bool) : Int := if s then c.e1 else c.e0
def Cn.kn (c : Cn) (s : Bool) : Bool := if s then c.k1 else c.k0
def sdI (s : Bool) : Int := if s then 1 else 0
def Cn.win (c : Cn) (s : Bool) (g : Gt) : Bool := c.kn s && wiB g.e (c.nx s) (c.ed s)
def Cn.rst (c : Cn) (s : Bool) (g : Gt) : Option Cn :=
  if c.win s g || (s && (c.st == 1 && (flB g.fl 16 && g.ak == c.n0))) then some { c with st := 6 } else none
def Cn.ans (c : Cn) (g : Gt) : Cn := { c with st := 2, k1 := true, n1 := g.e, e0 := g.lim, e1 := (g.e + c.e1) % 4294967296 }
def Cn.syn (c : Cn) (s : Bool) (g : Gt) : Option Cn :=
  if flB g.fl 1 || g.sz != 0 then none
  else if s = false then (if c.st == 1 && (!flB g.fl 16 && g.e == c.n0) then some c else none)
  else if !flB g.fl 16 || g.ak != c.n0 then none
  else if c.st == 1 then some (c.ans g)
  else if c.st == 2 && g.e == c.n1 then some c else none
/-- Behind bytes: E the end, L how far the other side may go; P, O: do they count? F: is it the last of this side? -/
def Cn.byR (c : Cn) (s : Bool) (E L : Int) (P O F : Bool) : Cn :=
  ⟨stOf (if !s && F then true else c.d0) (if s && F then true else c.d1), if !s && P then E else c.n0, if s && P then E else c.n1, if s && O then L else c.e0, if !s && O then L else c.e1, c.k0, c.k1, if !s && F then true else c.d0, if s && F then true else c.d1⟩
def Cn.byt (c : Cn) (s : Bool) (g : Gt) : Option Cn :=
  if c.win s g && wiB g.ak (c.nx (!s)) (c.nx (!s)) then some (c.byR s g.e g.lim (frB g.e (c.nx s)) (frB g.lim (c.ed (!s))) (flB g.fl 1)) else none
def Cn.take (c : Cn) (s : Bool) (g : Gt) : Option Cn :=
  if flB g.fl 4 then c.rst s g
  else if c.st == 6 then none
  else if flB g.fl 2 then c.syn s g
  else if !flB g.fl 16 || (c.st == 1 || (s && c.st == 2)) then none
  else c.byt s g
def Cn.stp (c : Cn) (s : Bool) (g : Gt) : Cn × Int := if c.right && (inB15 g.win && inB15 g.sz) then (match c.take s g with | some d => (d, 0) | none => (cn0, 23)) else (cn0, 1)
def Cn.step (c : Cn) (i : Int) (g : Gt) : Cn × Int := if i == 0 then c.stp false g else if i == 1 then c.stp true g else (cn0, 1)
def Cn.life (c : Cn) : Int := if c.right then (if c.st == 3 then 3600 else if c.st == 4 then 60 else if c.st == 6 then 1 else 30) else 0
def beg (f sq win sz : Int) : Cn × Int :=
  if inB15 win && inB15 sz then (if bits .and .i64 f 23 == 2 && sz == 0 then (⟨1, (sq + 1) % 4294967296, 0, (sq + 1) % 4294967296, win % 4294967296, true, false, false, false⟩, 0) else (cn0, 23)) else (cn0, 1)
theorem stOf_cases (a b : Bool) : stOf a b = 3 ∨ stOf a b = 4 ∨ stOf a b = 5 := by cases a <;> cases b <;> simp [stOf]
theorem right_known {c : Cn} (h : c.right = true) : c.k0 = true := by
  unfold Cn.right at h
  repeat' split at h
  all_goals simp_all
theorem right_open {c : Cn} (h : c.right = true) (h1 : (c.st == 1) = false) (h6 : (c.st == 6) = false) : c.k0 = true ∧ c.k1 = true := by
  unfold Cn.right at h
  repeat' split at h
  all_goals simp_all
theorem right_syn {c : Cn} (h : c.right = true) (h1 : (c.st == 1) = true) : c.k0 = true ∧ c.k1 = false ∧ c.d0 = false ∧ c.d1 = false := by
  unfold Cn.right at h
  rw [h1] at h
  simpa using h
theorem take_right {c d : Cn} {s : Bool} {g : Gt} (h : c.right = true) (ht : c.take s g = some d) : d.right = true ∧ ((c.st == 6) = true → flB g.fl 4 = true ∧ d.st = 6) := by
  unfold Cn.take at ht
  cases h4 : flB g.fl 4 with
  | true =>
    rw [h4] at ht
    simp only [if_true] at ht
    unfold Cn.rst at ht
    split at ht
    · simp only [Option.some.injEq] at ht
      subst ht
      exact ⟨by simp [Cn.right, right_known h], fun _ => ⟨rfl, rfl⟩⟩
    · cases ht
  | false =>
    rw [h4] at ht
    cases h6 : (c.st == 6) with
    | true => simp [h6] at ht
    | false =>
      refine ⟨?_, fun e => by cases e⟩
      simp only [h6, Bool.false_eq_true, if_false] at ht
      cases h2 : flB g.fl 2 with
      | true =>
        simp only [h2, if_true] at ht
        unfold Cn.syn at ht
        split at ht
        · cases ht
        · split at ht
          · split at ht
            · simp only [Option.some.injEq] at ht; subst ht; exact h
            · cases ht
          · split at ht
            · cases ht
            · split at ht
              · rename_i h1
                simp only [Option.some.injEq] at ht
                subst ht
                obtain ⟨q0, q1, q2, q3⟩ := right_syn h h1
                simp [Cn.right, Cn.ans, q0, q2, q3]
              · split at ht
                · simp only [Option.some.injEq] at ht; subst ht; exact h
                · cases ht
      | false =>
        simp only [h2, Bool.false_eq_true, if_false] at ht
        split at ht
        · cases ht
        · rename_i hn
          have h1 : (c.st == 1) = false := by
            cases q : (c.st == 1) with
            | false => rfl
            | true => simp [q] at hn
          unfold Cn.byt at ht
          split at ht
          · simp only [Option.some.injEq] at ht
            subst ht
            obtain ⟨q0, q1⟩ := right_open h h1 h6
            unfold Cn.right Cn.byR
            simp only [q0, q1, Bool.true_and, beq_self_eq_true]
            rcases stOf_cases (if (!s && flB g.fl 1) = true then true else c.d0) (if (s && flB g.fl 1) = true then true else c.d1) with e | e | e <;> rw [e] <;> simp
          · cases ht
theorem stp_ok {c d : Cn} {s : Bool} {g : Gt} (h : c.stp s g = (d, 0)) : c.take s g = some d := by
  unfold Cn.stp at h
  split at h
  · cases ht : c.take s g with
    | none => rw [ht] at h; simp at h
    | some x => rw [ht] at h; simp at h; rw [h]
  · simp at h
theorem step_right {c d : Cn} {i : Int} {g : Gt} (h : c.right = true) (hs : c.step i g = (d, 0)) : d.right = true ∧ ((c.st == 6) = true → flB g.fl 4 = true ∧ d.st = 6) := by
  unfold Cn.step at hs
  split at hs
  · exact take_right h (stp_ok hs)
  · split at hs
    · exact take_right h (stp_ok hs)
    · simp at hs
/-- Numbers within 32 bits. -/
structure Cn.in32 (c : Cn) : Prop where
  n0 : 0 ≤ c.n0 ∧ c.n0 < 4294967296
  n1 : 0 ≤ c.n1 ∧ c.n1 < 4294967296
  e0 : 0 ≤ c.e0 ∧ c.e0 < 4294967296
  e1 : 0 ≤ c.e1 ∧ c.e1 < 4294967296
structure Gt.in32 (g : Gt) : Prop where
  sq : 0 ≤ g.sq ∧ g.sq < 4294967296
  ak : 0 ≤ g.ak ∧ g.ak < 4294967296
def cmp3 (x y : Int) : Int := if x < y then -1 else if y < x then 1 else 0
def Ad.order (a b : Ad) : Int := if cmp3 a.fam b.fam = 0 then (if cmp3 a.hi b.hi = 0 then cmp3 a.lo b.lo else cmp3 a.hi b.hi) else cmp3 a.fam b.fam
theorem cmpI_any (x y : Int) (w : World) : Calls Try.prog 76 #[.int .i64 x, .int .i64 y] w fun e w' => e = .returned (.int .i64 (cmp3 x y)) ∧ w' = w := by
  have nan : ∀ x w, Calls Try.prog 94 #[.int .i64 x] w fun e w' => e = .returned (.bool false) ∧ w' = w := fun x w => by
    go_enter Try.func94, Try.ntmps94
    go_wp2
    go_ret
    exact ⟨by simp, rfl⟩
  go_enter Try.func76, Try.ntmps76
  rcases Int.lt_trichotomy x y with h | h | h
  · go_wp2_with (go_at_call 94; refine (nan _ _).mono ?_; rintro e w' ⟨rfl, rfl⟩)
    go_ret
    exact ⟨ret_int (by simp [cmp3, h]), rfl⟩
  · subst h
    go_wp2_with (go_at_call 94; refine (nan _ _).mono ?_; rintro e w' ⟨rfl, rfl⟩)
    go_ret
    exact ⟨ret_int (by simp [cmp3]), rfl⟩
  · have h' : ¬ x < y := by omega
    go_wp2_with (go_at_call 94; refine (nan _ _).mono ?_; rintro e w' ⟨rfl, rfl⟩)
    go_ret
    exact ⟨ret_int (by simp [cmp3, h, h']), rfl⟩
theorem cmpU_any (x y : Int) (w : World) : Calls Try.prog 96 #[.int .u64 x, .int .u64 y] w fun e w' => e = .returned (.int .i64 (cmp3 x y)) ∧ w' = w := by
  have nan : ∀ x w, Calls Try.prog 106 #[.int .u64 x] w fun e w' => e = .returned (.bool false) ∧ w' = w := fun x w => by
    go_enter Try.func106, Try.ntmps106
    go_wp2
    go_ret
    exact ⟨by simp, rfl⟩
  go_enter Try.func96, Try.ntmps96
  rcases Int.lt_trichotomy x y with h | h | h
  · go_wp2_with (go_at_call 106; refine (nan _ _).mono ?_; rintro e w' ⟨rfl, rfl⟩)
    go_ret
    exact ⟨ret_int (by simp [cmp3, h]), rfl⟩
  · subst h
    go_wp2_with (go_at_call 106; refine (nan _ _).mono ?_; rintro e w' ⟨rfl, rfl⟩)
    go_ret
    exact ⟨ret_int (by simp [cmp3]), rfl⟩
  · have h' : ¬ x < y := by omega
    go_wp2_with (go_at_call 106; refine (nan _ _).mono ?_; rintro e w' ⟨rfl, rfl⟩)
    go_ret
    exact ⟨ret_int (by simp [cmp3, h, h']), rfl⟩
theorem rorder_any (f h l f' h' l' : Int) (w : World) :
    Calls Try.prog 57 #[.agg #[.int .i64 f, .int .u64 h, .int .u64 l], .agg #[.int .i64 f', .int .u64 h', .int .u64 l']] w fun e w' => e = .returned (.int .i64 (Ad.order ⟨f, h, l⟩ ⟨f', h', l'⟩)) ∧ Below w.heap.size w w' := by
  have bb : Below w.heap.size w ((w.alloc (.cells #[.int .i64 f, .int .u64 h, .int .u64 l] 24)).alloc (.cells #[.int .i64 f', .int .u64 h', .int .u64 l'] 24)) := ((Below.refl _ _).alloc (Nat.le_refl _) _).alloc (by simp) _
  obtain ⟨T, hT⟩ : ∃ T, Ad.order ⟨f, h, l⟩ ⟨f', h', l'⟩ = T := ⟨_, rfl⟩
  rw [hT]
  have HT : Hid (Ad.order ⟨f, h, l⟩ ⟨f', h', l'⟩ = T) := hT
  clear hT
  go_enter Try.func57, Try.ntmps57
  rcases Int.lt_trichotomy f f' with h1 | h1 | h1
  · go_wp2
    go_ret
    exact ⟨ret_int (by rw [← HT.out]; simp [Ad.order, cmp3, h1]), bb⟩
  · subst h1
    rcases Int.lt_trichotomy h h' with h2 | h2 | h2
    · go_wp2
      go_ret
      exact ⟨ret_int (by rw [← HT.out]; simp [Ad.order, cmp3, h2]), bb⟩
    · subst h2
      rcases Int.lt_trichotomy l l' with h3 | h3 | h3
      · go_wp2
        go_ret
        exact ⟨ret_int (by rw [← HT.out]; simp [Ad.order, cmp3, h3]), bb⟩
      · subst h3
        go_wp2
        go_ret
        exact ⟨ret_int (by rw [← HT.out]; simp [Ad.order, cmp3]), bb⟩
      · have h3' : ¬ l < l' := by omega
        go_wp2
        go_ret
        exact ⟨ret_int (by rw [← HT.out]; simp [Ad.order, cmp3, h3, h3']), bb⟩
    · have h2' : ¬ h < h' := by omega
      go_wp2
      go_ret
      exact ⟨ret_int (by rw [← HT.out]; unfold Ad.order cmp3; simp only; (repeat' split) <;> omega), bb⟩
  · have h1' : ¬ f < f' := by omega
    go_wp2
    go_ret
    exact ⟨ret_int (by rw [← HT.out]; unfold Ad.order cmp3; simp only; (repeat' split) <;> omega), bb⟩
theorem or_any (g x y z : Int) (b : Nat) (w : World) (h0 : w.cell? ⟨b, 0, none⟩ = some (.int .i64 x)) (h1 : w.cell? ⟨b, 1, none⟩ = some (.int .i64 y)) (h2 : w.cell? ⟨b, 2, none⟩ = some (.int .i64 z)) (c : Nat) :
    Calls Try.prog 95 #[.slice (some ⟨b, 0, none⟩) 3 c] w fun e w' => e = .returned (.int .i64 (if x = 0 then (if y = 0 then z else y) else x)) ∧ w' = w := by
  obtain ⟨T, hT⟩ : ∃ T, (if x = 0 then (if y = 0 then z else y) else x) = T := ⟨_, rfl⟩
  rw [hT]
  have HT : Hid ((if x = 0 then (if y = 0 then z else y) else x) = T) := hT
  clear hT
  go_enter Try.func95, Try.ntmps95
  go_wp2
  go_loop [8] (fun i => ∃ k : Nat, k ≤ 3 ∧ i = .int .i64 k ∧ (1 ≤ k → x = 0) ∧ (2 ≤ k → y = 0) ∧ (3 ≤ k → z = 0)) (fun i => 3 - (intOf i).toNat)
  case atStart => exact ⟨0, by omega, rfl, by omega, by omega, by omega⟩
  case round =>
    obtain ⟨k, hk, rfl, k1, k2, k3⟩ := hrel
    have hk' : k = 0 ∨ k = 1 ∨ k = 2 ∨ k = 3 := by omega
    rcases hk' with rfl | rfl | rfl | rfl
    · clear k1 k2 k3
      by_cases hx : x = 0
      · go_wp2
        exact ⟨⟨1, by omega, rfl, fun _ => hx, by omega, by omega⟩, by simp [intOf]⟩
      · go_wp2
        go_ret
        exact ⟨ret_int (by rw [← HT.out, if_neg hx]), rfl⟩
    · have hx := k1 (by omega)
      clear k1 k2 k3
      by_cases hy : y = 0
      · go_wp2
        exact ⟨⟨2, by omega, rfl, fun _ => hx, fun _ => hy, by omega⟩, by simp [intOf]⟩
      · go_wp2
        go_ret
        exact ⟨ret_int (by rw [← HT.out, if_pos hx, if_neg hy]), rfl⟩
    · have hx := k1 (by omega)
      have hy := k2 (by omega)
      clear k1 k2 k3
      by_cases hz : z = 0
      · go_wp2
        exact ⟨⟨3, by omega, rfl, fun _ => hx, fun _ => hy, fun _ => hz⟩, by simp [intOf]⟩
      · go_wp2
        go_ret
        exact ⟨ret_int (by rw [← HT.out, if_pos hx, if_pos hy]), rfl⟩
    · have hx := k1 (by omega)
      have hy := k2 (by omega)
      have hz := k3 (by omega)
      clear k1 k2 k3
      go_wp2
      go_ret
      exact ⟨ret_int (by rw [← HT.out, if_pos hx, if_pos hy, hz]), rfl⟩
end Go.Proofs.Ytfiembbmgdmagaa
namespace Go.Proofs.Ytfiembbmgdmagaa
set_option linter.unusedVariables false
/-- Both words as one number. -/
def num2 (h l : Int) : Int := h * 18446744073709551616 + l
end Go.Proofs.Ytfiembbmgdmagaa
namespace Go.Proofs.Ytfiembbmgdmagaa
open Go.RowKit
set_option linter.unusedVariables false
set_option linter.unusedSimpArgs false
/-- The address as one number, and its bits from the highest on. -/
def Ad.val (a : Ad) : Int := num2 a.hi a.lo
/-- The box of an address stands. -/
structure Boxed (w w' : World) (f h l : Int) : Prop where
  a0 : w'.cell? ⟨w.heap.size, 0, none⟩ = some (.int .i64 f)
  a1 : w'.cell? ⟨w.heap.size, 1, none⟩ = some (.int .u64 h)
  a2 : w'.cell? ⟨w.heap.size, 2, none⟩ = some (.int .u64 l)
  bel : Below w.heap.size w w'
  size : w.heap.size < w'.heap.size
theorem Boxed.below {w w' w'' : World} {f h l : Int} (x : Boxed w w' f h l) (hb : Below (w.heap.size + 1) w' w'') : Boxed w w'' f h l :=
  ⟨(hb.cell (p := ⟨w.heap.size, 0, none⟩) (by simp)).trans x.a0, (hb.cell (p := ⟨w.heap.size, 1, none⟩) (by simp)).trans x.a1, (hb.cell (p := ⟨w.heap.size, 2, none⟩) (by simp)).trans x.a2,
   x.bel.trans (hb.mono (by omega)), by have := x.size; have := hb.size; omega⟩
/-- A rule, as its numbers. -/
structure Rl where
  fr : Int
  tz : Int
  s : Ad
  sn : Int
  d : Ad
  dn : Int
  pr : Int
  sl : Int
  sh : Int
  dl : Int
  dh : Int
  ac : Int
  he : Int
abbrev Rl.v (r : Rl) : Array Value := #[.int .i64 r.fr, .int .i64 r.tz, .int .i64 r.s.fam, .int .u64 r.s.hi, .int .u64 r.s.lo, .int .i64 r.sn, .int .i64 r.d.fam, .int .u64 r.d.hi, .int .u64 r.d.lo, .int .i64 r.dn, .int .i64 r.pr, .int .i64 r.sl, .int .i64 r.sh, .int .i64 r.dl, .int .i64 r.dh, .int .i64 r.ac, .int .i64 r.he]
structure Rl.ok (r : Rl) : Prop where
  s : r.s.ok
  d : r.d.ok
/-- A key, as its numbers. -/
structure Ky where
  fr : Int
  tz : Int
  s : Ad
  d : Ad
  pr : Int
  sp : Int
  dp : Int
abbrev Ky.v (k : Ky) : Array Value := #[.int .i64 k.fr, .int .i64 k.tz, .int .i64 k.s.fam, .int .u64 k.s.hi, .int .u64 k.s.lo, .int .i64 k.d.fam, .int .u64 k.d.hi, .int .u64 k.d.lo, .int .i64 k.pr, .int .i64 k.sp, .int .i64 k.dp]
structure Ky.ok (k : Ky) : Prop where
  s : k.s.ok
  d : k.d.ok
def inB (n lo hi : Int) : Bool := decide (lo ≤ n) && decide (n ≤ hi)
def zeroP (a : Ad) (n : Int) : Bool := a.fam == 0 && (a.hi == 0 && (a.lo == 0 && n == 0))
def netB (a : Ad) (n : Int) : Bool := zeroP a n || a.rightPrefix n
def hasB (a : Ad) (n : Int) (x : Ad) : Bool := zeroP a n || a.has n x
def portB (lo hi : Int) : Bool := decide (0 ≤ lo) && (decide (lo ≤ hi) && decide (hi ≤ 65535))
def Ky.right (k : Ky) : Bool := inB k.fr 0 15 && (inB k.tz 0 15 && (k.s.right && (k.d.right && ((k.s.fam == k.d.fam) && (inB k.pr 0 255 && (inB k.sp 0 65535 && inB k.dp 0 65535))))))
def Rl.right (r : Rl) : Bool := inB r.fr (-1) 15 && (inB r.tz (-1) 15 && (netB r.s r.sn && (netB r.d r.dn && (inB r.pr 0 255 && (portB r.sl r.sh && (portB r.dl r.dh && ((r.ac == 0 || r.ac == 1) && inB r.he 0 3)))))))
/-- Are the parts of a key those that the rule asks for? -/
def Rl.asks (r : Rl) (k : Ky) : Bool := (decide (r.fr < 0) || r.fr == k.fr) && ((decide (r.tz < 0) || r.tz == k.tz) && (hasB r.s r.sn k.s && (hasB r.d r.dn k.d && ((r.pr == 0 || r.pr == k.pr) && (inB k.sp r.sl r.sh && inB k.dp r.dl r.dh)))))
/-- These cells lie from k on in the block b. -/
def CellsAt (W : World) (b k : Nat) (sub : Array Value) : Prop := b < W.heap.size ∧ ∀ j v, sub[j]? = some v → W.cell? ⟨b, k + j, none⟩ = some v
theorem CellsAt.below {w w' : World} {b k : Nat} {sub : Array Value} (h : CellsAt w b k sub) (hb : Below w.heap.size w w') : CellsAt w' b k sub :=
  ⟨Nat.lt_of_lt_of_le h.1 hb.size, fun j v hv => kept hb (h.2 j v hv)⟩
theorem Blk.at_ {W : World} {g : Nat} {t : TypeId} {cs : Array Value} (h : Blk W g t cs) : CellsAt W g 0 cs := ⟨h.lt, fun j v hv => by rw [Nat.zero_add]; exact h.cell j v hv⟩
theorem load_at {W : World} {g k : Nat} {ty : TypeId} {sub : Array Value} (h : CellsAt W g k sub) {fs : _} (hu : Try.prog.underlying ty = some (.struct fs)) (hi : (Try.prog.info? ty).map (·.size) = some sub.size) :
    (loadVar ty ⟨g, k, none⟩).run Try.prog W = .ok (.agg sub) W := by
  have hl : (loadCells ⟨g, k, none⟩ sub.toList.length).run Try.prog W = .ok sub.toList.toArray W :=
    run_loadCells_list (P := Try.prog) W ⟨g, k, none⟩ sub.toList (fun j v hv => by
      have hadd : (⟨g, k, none⟩ : Addr).add j = ⟨g, k + j, none⟩ := Go.WideShapes.add_plain ..
      rw [hadd]
      exact h.2 j v (by simpa using hv))
  cases hq : Try.prog.info? ty with
  | none => simp [hq] at hi
  | some i =>
    have hs' : i.size = sub.size := by simpa [hq] using hi
    have hagg : (isAgg ty).run Try.prog W = .ok true W := by
      unfold isAgg
      rw [Sem.run_bind, run_underlying hu W]
      rfl
    simp only [Array.length_toList, Array.toArray_toList] at hl
    simp [loadVar, Sem.run_bind, hagg, sizeOf, typeInfo, hq, hs', hl]
theorem wpList_load_at_w {ops : Array Oper} {rest : List Oper} {o : Oper} {ac : Act} {w : World} {Q : Exit → Act → World → Prop} (hw : Region.wanted o (yielded ops ac.tmps) = true) (ty : TypeId) (p : Operand) (ho : o.op = Op.load ty p) (g k : Nat) (hp : ac.eval p = .pointer (some ⟨g, k, none⟩)) (sub : Array Value)
    (hb : CellsAt w g k sub) {fs : _} (hu : Try.prog.underlying ty = some (.struct fs)) (hi : (Try.prog.info? ty).map (·.size) = some sub.size) (h : wpList Try.prog ops Q rest (ac.put o.dst (.agg sub)) w) : wpList Try.prog ops Q (o :: rest) ac w := by
  refine wpList_step fun K hK => ?_
  rw [if_pos hw]
  have hl := load_at hb hu hi
  unfold Oper.wp
  simp [execOp, ho, hp, Instr.loadAt, Instr.sureAddr, hl, Result.andThen]
  exact hK _ _ h
theorem yieldsIf_at {ops : Array Oper} {S : World → Prop} {o : Oper} {ac : Act} (hw : Region.wanted o (yielded ops ac.tmps) = true) (ty : TypeId) (p : Operand) (ho : o.op = Op.load ty p) (g k : Nat) (hp : ac.eval p = .pointer (some ⟨g, k, none⟩)) (sub : Array Value)
    (hS : ∀ w, S w → CellsAt w g k sub) {fs : _} (hu : Try.prog.underlying ty = some (.struct fs)) (hi : (Try.prog.info? ty).map (·.size) = some sub.size) : YieldsIf Try.prog ops S o (.agg sub) ac := by
  refine .inl ⟨hw, fun w hw' => ?_⟩
  have hl := load_at (hS w hw') hu hi
  simp [execOp, ho, hp, Instr.loadAt, Instr.sureAddr, hl, Result.andThen]
theorem list_of {α : Type} {P : Nat → α → Prop} : ∀ m, (∀ i, i < m → ∃ q, P i q) → ∃ l : List α, l.length = m ∧ ∀ (i : Nat) (q : α), l[i]? = some q → P i q
  | 0, _ => ⟨[], rfl, fun i q h => by simp at h⟩
  | m + 1, h => by
    obtain ⟨l, h1, h2⟩ := list_of m (fun i hi => h i (by omega))
    obtain ⟨q, hq⟩ := h m (by omega)
    refine ⟨l ++ [q], by simp [h1], fun i q' hi => ?_⟩
    rcases Nat.lt_or_ge i m with x | x
    · rw [List.getElem?_append_left (by omega)] at hi
      exact h2 i q' hi
    · have hl := (List.getElem?_eq_some_iff.1 hi).1
      simp [h1] at hl
      have : i = m := by omega
      subst this
      rw [List.getElem?_append_right (by omega)] at hi
      simp [h1] at hi
      rw [← hi]
      exact hq
/-- A slice of things of n cells each, as it is read. -/
structure RowN {α : Type} (n : Nat) (v : α → Array Value) (ok : World → α → Prop) (w : World) (a : Option Addr) (l : List α) : Prop where
  each : ∀ q ∈ l, ok w q
  cells : ∀ (i : Nat) (q : α), l[i]? = some q → ∃ b off, a = some ⟨b, off, none⟩ ∧ CellsAt w b (off + i * n) (v q)
theorem RowN.below {α : Type} {n : Nat} {v : α → Array Value} {ok : World → α → Prop} (hok : ∀ {w w' : World} {q : α}, ok w q → Below w.heap.size w w' → ok w' q) {w w' : World} {a : Option Addr} {l : List α} (h : RowN n v ok w a l) (hb : Below w.heap.size w w') : RowN n v ok w' a l :=
  ⟨fun q hq => hok (h.each q hq) hb, fun i q hq => by
    obtain ⟨b, off, h1, h2⟩ := h.cells i q hq
    exact ⟨b, off, h1, h2.below hb⟩⟩
end Go.Proofs.Ytfiembbmgdmagaa
namespace Go.Proofs.Ytfiembbmgdmagaa
open Go.RowKit Go.ChangeShapes Go.WideShapes Go.ChangeAt
set_option linter.unusedVariables false
set_option linter.unusedSimpArgs false
set_option linter.constructorNameAsVariable false
set_option maxRecDepth 100000
theorem one_tc {x y : Value} (h : [x] = [y]) : x = y := (List.cons.inj h).1
theorem nine_tc {cs : List Value} (h : cs.length = 9) : ∃ a b c d e f g i j, cs = [a, b, c, d, e, f, g, i, j] := by
  match cs, h with
  | [a, b, c, d, e, f, g, i, j], _ => exact ⟨a, b, c, d, e, f, g, i, j, rfl⟩
theorem u32_tc {x : Int} (w : (Lit.int .u32 x).wf = true) : 0 ≤ x ∧ x < 4294967296 := by
  simp [Lit.wf, IntKind.min, IntKind.max, IntKind.signed, IntKind.bits] at w; omega
theorem i64_tc {x : Int} (w : (Lit.int .i64 x).wf = true) : -9223372036854775808 ≤ x ∧ x ≤ 9223372036854775807 := by
  simp [Lit.wf, IntKind.min, IntKind.max, IntKind.signed, IntKind.bits] at w; omega
theorem pairU_tc {H : Type} {enc : TypeId × Value → H} {W : World} {n : Nat} {x y : Value} {d : DataW H × List MemPlace}
    (h : DataW.trod enc Try.prog W 0 (fun _ => true) true n 28 [x, y] = some d) : ∃ a b, x = .int .u32 a ∧ y = .int .u32 b ∧ (0 ≤ a ∧ a < 4294967296) ∧ (0 ≤ b ∧ b < 4294967296) := by
  have cI : Try.prog.cellsOf 27 = 1 := by kernel_rfl
  obtain ⟨xs, m, _, hx, _, hlen, hf⟩ := DataW.trod_array Try.underlying28 h
  obtain ⟨y0, y1, rfl⟩ : ∃ y0 y1, xs = [y0, y1] := by
    match xs, hlen with
    | [y0, y1], _ => exact ⟨y0, y1, rfl⟩
  have h0 : DataW.trod enc Try.prog W 0 (fun _ => true) true m 27 (([x, y].drop (0 * Try.prog.cellsOf 27)).take (Try.prog.cellsOf 27)) = some y0 := hf 0 (by decide)
  have h1 : DataW.trod enc Try.prog W 0 (fun _ => true) true m 27 (([x, y].drop (1 * Try.prog.cellsOf 27)).take (Try.prog.cellsOf 27)) = some y1 := hf 1 (by decide)
  rw [cI] at h0 h1
  obtain ⟨a, e0, _, w0⟩ := DataW.trod_int Try.underlying27 (show DataW.trod enc Try.prog W 0 (fun _ => true) true m 27 [x] = some y0 from h0)
  obtain ⟨b, e1, _, w1⟩ := DataW.trod_int Try.underlying27 (show DataW.trod enc Try.prog W 0 (fun _ => true) true m 27 [y] = some y1 from h1)
  exact ⟨a, b, one_tc e0, one_tc e1, u32_tc w0, u32_tc w1⟩
theorem pairB_tc {H : Type} {enc : TypeId × Value → H} {W : World} {n : Nat} {x y : Value} {d : DataW H × List MemPlace}
    (h : DataW.trod enc Try.prog W 0 (fun _ => true) true n 29 [x, y] = some d) : ∃ a b, x = .bool a ∧ y = .bool b := by
  have cI : Try.prog.cellsOf 4 = 1 := by kernel_rfl
  obtain ⟨xs, m, _, hx, _, hlen, hf⟩ := DataW.trod_array Try.underlying29 h
  obtain ⟨y0, y1, rfl⟩ : ∃ y0 y1, xs = [y0, y1] := by
    match xs, hlen with
    | [y0, y1], _ => exact ⟨y0, y1, rfl⟩
  have h0 : DataW.trod enc Try.prog W 0 (fun _ => true) true m 4 (([x, y].drop (0 * Try.prog.cellsOf 4)).take (Try.prog.cellsOf 4)) = some y0 := hf 0 (by decide)
  have h1 : DataW.trod enc Try.prog W 0 (fun _ => true) true m 4 (([x, y].drop (1 * Try.prog.cellsOf 4)).take (Try.prog.cellsOf 4)) = some y1 := hf 1 (by decide)
  rw [cI] at h0 h1
  obtain ⟨a, e0, _⟩ := DataW.trod_bool Try.underlying4 (show DataW.trod enc Try.prog W 0 (fun _ => true) true m 4 [x] = some y0 from h0)
  obtain ⟨b, e1, _⟩ := DataW.trod_bool Try.underlying4 (show DataW.trod enc Try.prog W 0 (fun _ => true) true m 4 [y] = some y1 from h1)
  exact ⟨a, b, one_tc e0, one_tc e1⟩
set_option maxRecDepth 100000 in
theorem conn_cells {H : Type} {enc : TypeId × Value → H} {W : World} {fuel : Nat} {cs : List Value} {y : DataW H × List MemPlace} (hf0 : DataW.trod enc Try.prog W 0 (fun _ => true) true fuel 31 cs = some y) :
    ∃ q : Cn, cs = q.v.toList ∧ q.in32 := by
  have cc : Try.prog.cellsOf 31 = 9 := by kernel_rfl
  have cI : Try.prog.cellsOf 3 = 1 := by kernel_rfl
  have cU : Try.prog.cellsOf 28 = 2 := by kernel_rfl
  have cB : Try.prog.cellsOf 29 = 2 := by kernel_rfl
  obtain ⟨xs, n, _, hx, hl, hlen, hf⟩ := DataW.trod_struct Try.underlying31 hf0
  obtain ⟨v0, v1, v2, v3, v4, v5, v6, v7, v8, rfl⟩ := nine_tc (hl.trans cc)
  obtain ⟨y0, y1, y2, y3, y4, rfl⟩ : ∃ y0 y1 y2 y3 y4, xs = [y0, y1, y2, y3, y4] := by
    match xs, hlen with
    | [y0, y1, y2, y3, y4], _ => exact ⟨y0, y1, y2, y3, y4, rfl⟩
  have h0 : DataW.trod enc Try.prog W 0 (fun _ => true) true n 3 ((([v0, v1, v2, v3, v4, v5, v6, v7, v8] : List Value).drop 0).take (Try.prog.cellsOf 3)) = some y0 := hf 0 _ rfl
  have h1 : DataW.trod enc Try.prog W 0 (fun _ => true) true n 28 ((([v0, v1, v2, v3, v4, v5, v6, v7, v8] : List Value).drop 1).take (Try.prog.cellsOf 28)) = some y1 := hf 1 _ rfl
  have h2 : DataW.trod enc Try.prog W 0 (fun _ => true) true n 28 ((([v0, v1, v2, v3, v4, v5, v6, v7, v8] : List Value).drop 3).take (Try.prog.cellsOf 28)) = some y2 := hf 2 _ rfl
  have h3 : DataW.trod enc Try.prog W 0 (fun _ => true) true n 29 ((([v0, v1, v2, v3, v4, v5, v6, v7, v8] : List Value).drop 5).take (Try.prog.cellsOf 29)) = some y3 := hf 3 _ rfl
  have h4 : DataW.trod enc Try.prog W 0 (fun _ => true) true n 29 ((([v0, v1, v2, v3, v4, v5, v6, v7, v8] : List Value).drop 7).take (Try.prog.cellsOf 29)) = some y4 := hf 4 _ rfl
  simp only [cI, cU, cB, List.drop_zero, List.drop_succ_cons, List.take_succ_cons, List.take_zero] at h0 h1 h2 h3 h4
  obtain ⟨st, e0, _, _⟩ := DataW.trod_int Try.underlying3 h0
  obtain rfl := one_tc e0
  obtain ⟨a, b, rfl, rfl, r1, r2⟩ := pairU_tc h1
  obtain ⟨c, d, rfl, rfl, r3, r4⟩ := pairU_tc h2
  obtain ⟨p, q, rfl, rfl⟩ := pairB_tc h3
  obtain ⟨s, t, rfl, rfl⟩ := pairB_tc h4
  exact ⟨⟨st, a, b, c, d, p, q, s, t⟩, rfl, r1, r2, r3, r4⟩
/-- A segment of a side. -/
structure Tlk where
  i : Int
  g : Gt
abbrev Tlk.v (q : Tlk) : Array Value := #[.int .i64 q.i, .int .i64 q.g.fl, .int .i64 q.g.win, .int .i64 q.g.sz, .int .u32 q.g.sq, .int .u32 q.g.ak]
structure Tlk.ok (w : World) (q : Tlk) : Prop where
  i : -9223372036854775808 ≤ q.i ∧ q.i ≤ 9223372036854775807
  g : q.g.in32
theorem Tlk.ok.below {w w' : World} {q : Tlk} (h : q.ok w) (_ : Below w.heap.size w w') : q.ok w' := ⟨h.i, h.g⟩
end Go.Proofs.Ytfiembbmgdmagaa
