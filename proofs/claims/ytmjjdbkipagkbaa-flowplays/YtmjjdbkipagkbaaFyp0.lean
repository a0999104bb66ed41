/- Texts joined: Math Fold Sum Mem App Reads Adr Pre Byt Room -/
import Derived.Test.YtmjjdbkipagkbaaRows
import Derived.WalkKit
import Derived.Laws.BitsAllLaws
import Derived.Laws.BitsLemmas
import Derived.Laws.Bits128
import Derived.Below
import Derived.Deep.Draws
import Derived.Laws.World
import Derived.Laws.AppendOwn
import Derived.Laws.AppendOwnNone
import Derived.Laws.OwnMore
import Derived.OwnWalk
import Derived.KernelRfl
import Derived.Deep.QuietTactic
import Derived.BigQuiet
import Derived.Laws.Shifts
import Derived.Laws.ShiftsVarLaws
import Derived.Laws.StructEq
import Derived.Deep.RegionWith
import Derived.Deep.DeepCutAuto
import Derived.Laws.BytesArg
import Derived.Laws.MakeOwn
namespace Go.Proofs.Ytmjjdbkipagkbaa.M
/-- What folding leaves of a number that is not below 0. -/
def nf (t : Int) : Int := if t ≤ 0 then 0 else (t - 1) % 65535 + 1
theorem nf_bd (t : Int) : 0 ≤ nf t ∧ nf t ≤ 65535 := by unfold nf; split <;> omega
theorem nf_zero {t : Int} (h : nf t = 65535) : t % 65535 = 0 ∧ 0 < t := by unfold nf at h; split at h <;> omega
def Bytes (l : List Int) : Prop := ∀ x, x ∈ l → 0 ≤ x ∧ x ≤ 255
theorem Bytes.of {l : List Int} (h : l.all (fun x => decide (0 ≤ x) && decide (x ≤ 255)) = true) : Bytes l := fun x hx => by simpa using List.all_eq_true.1 h x hx
theorem Bytes.nil : Bytes [] := by intro x h; cases h
theorem Bytes.left {a b : List Int} (h : Bytes (a ++ b)) : Bytes a := fun x hx => h x (List.mem_append_left _ hx)
theorem Bytes.right {a b : List Int} (h : Bytes (a ++ b)) : Bytes b := fun x hx => h x (List.mem_append_right _ hx)
theorem Bytes.take {a : List Int} (h : Bytes a) (n : Nat) : Bytes (a.take n) := fun x hx => h x (List.mem_of_mem_take hx)
theorem Bytes.drop {a : List Int} (h : Bytes a) (n : Nat) : Bytes (a.drop n) := fun x hx => h x (List.mem_of_mem_drop hx)
theorem Bytes.set {a : List Int} (h : Bytes a) (i : Nat) {z : Int} (hz : 0 ≤ z ∧ z ≤ 255) : Bytes (a.set i z) := fun x hx => by
  rcases List.mem_or_eq_of_mem_set hx with hx | rfl
  · exact h x hx
  · exact hz
/-- Which half of a word the next byte is, n bytes on. -/
def par (p : Bool) (n : Nat) : Bool := if n % 2 = 0 then p else !p
theorem par_zero (p : Bool) : par p 0 = p := rfl
theorem par_succ (p : Bool) (n : Nat) : par p (n + 1) = !(par p n) := by
  unfold par; by_cases h : n % 2 = 0
  · rw [if_neg (by omega), if_pos h]
  · rw [if_pos (by omega), if_neg h]; simp
theorem par_add (p : Bool) (a b : Nat) : par (par p a) b = par p (a + b) := by
  induction b with
  | zero => rfl
  | succ b ih => rw [par_succ, ih, ← Nat.add_assoc, par_succ]
theorem par_even (p : Bool) {n : Nat} (h : n % 2 = 0) : par p n = p := by unfold par; rw [if_pos h]
/-- The sum of all bytes, each as its half of a word, not folded. -/
def raw : Bool → List Int → Int
  | _, [] => 0
  | true, x :: l => 256 * x + raw false l
  | false, x :: l => x + raw true l
theorem raw_nil (p : Bool) : raw p [] = 0 := by cases p <;> rfl
theorem raw_cons (p : Bool) (x : Int) (l : List Int) : raw p (x :: l) = (if p then 256 * x else x) + raw (!p) l := by cases p <;> rfl
theorem raw_append (p : Bool) (a b : List Int) : raw p (a ++ b) = raw p a + raw (par p a.length) b := by
  induction a generalizing p with
  | nil => rw [raw_nil]; simp [par_zero]
  | cons x a ih =>
    rw [List.cons_append, raw_cons, raw_cons, ih, List.length_cons, Int.add_assoc]
    congr 3
    have := par_add p 1 a.length
    rw [show par p 1 = !p from by cases p <;> rfl] at this
    rw [this, Nat.add_comm]
theorem raw_one (p : Bool) (x : Int) : raw p [x] = if p then 256 * x else x := by rw [raw_cons, raw_nil]; omega
theorem raw_bd (p : Bool) (l : List Int) (h : Bytes l) : 0 ≤ raw p l ∧ raw p l ≤ 65280 * l.length := by
  induction l generalizing p with
  | nil => rw [raw_nil]; simp
  | cons x l ih =>
    have hx := h x (by simp)
    have hi := ih (!p) (fun y hy => h y (by simp [hy]))
    rw [raw_cons, List.length_cons]
    cases p <;> simp at * <;> omega
def AllBytes (ls : List (List Int)) : Prop := ∀ i, i < ls.length → Bytes (ls.getD i [])
/-- The sum of parts, one behind the other. -/
def sumOf (ls : List (List Int)) : Int := nf (raw true ls.flatten)
theorem sumOf_one (l : List Int) : sumOf [l] = nf (raw true l) := by unfold sumOf; simp
/-- Bytes of even length with their check sum behind them have the sum 65535, and are found if one byte is turned. -/
theorem checked (l : List Int) (he : l.length % 2 = 0) (hb : Bytes l) :
    raw true (l ++ [(65535 - sumOf [l]) / 256, (65535 - sumOf [l]) % 256]) % 65535 = 0 ∧ 0 < raw true (l ++ [(65535 - sumOf [l]) / 256, (65535 - sumOf [l]) % 256]) := by
  have h1 := raw_bd true l hb
  have h2 : sumOf [l] = nf (raw true l) := sumOf_one l
  rw [raw_append, par_even true he, h2]
  generalize raw true l = R at *
  have h3 := nf_bd R
  have h4 : nf R % 65535 = R % 65535 := by unfold nf; split <;> omega
  have h6 : nf R ≤ R := by have := h1.1; unfold nf; split <;> omega
  generalize nf R = F at *
  have h5 : raw true [(65535 - F) / 256, (65535 - F) % 256] = 65535 - F := by
    rw [raw_cons, raw_one]; simp; omega
  rw [h5]
  omega
theorem par_one (p : Bool) (n : Nat) : par (!p) n = par p (n + 1) := by
  rw [par_succ]; unfold par; split <;> simp
theorem raw_set (p : Bool) (l : List Int) (i : Nat) (z : Int) (hi : i < l.length) :
    raw p (l.set i z) = raw p l + if par p i then 256 * (z - l.getD i 0) else z - l.getD i 0 := by
  induction l generalizing p i with
  | nil => simp at hi
  | cons x l ih =>
    cases i with
    | zero => rw [List.set_cons_zero, raw_cons, raw_cons, par_zero]; cases p <;> simp <;> omega
    | succ i =>
      rw [List.set_cons_succ, raw_cons, raw_cons, ih (!p) i (by simpa using hi), par_one, List.getD_cons_succ]
      omega
theorem turned (r : List Int) (i : Nat) (z : Int) (h : raw true r % 65535 = 0) (hi : i < r.length) (hz : 0 ≤ z ∧ z ≤ 255) (hr : 0 ≤ r.getD i 0 ∧ r.getD i 0 ≤ 255) (hne : z ≠ r.getD i 0) :
    sumOf [r.set i z] ≠ 65535 := by
  intro hs
  rw [sumOf_one] at hs
  have h1 := (nf_zero hs).1
  rw [raw_set true r i z hi] at h1
  split at h1 <;> omega
/-- Two bytes of the same half of their words change places. -/
def swap (l : List Int) (i k : Nat) : List Int := (l.set i (l.getD k 0)).set k (l.getD i 0)
theorem swap_length (l : List Int) (i k : Nat) : (swap l i k).length = l.length := by unfold swap; simp
end Go.Proofs.Ytmjjdbkipagkbaa.M
namespace Go.Proofs.Ytmjjdbkipagkbaa
open Go.RowKit
set_option linter.unusedVariables false
theorem ret_int {k : IntKind} {a b : Int} (h : a = b) : Ending.returned (.int k a) = .returned (.int k b) := by rw [h]
/-- A slice value of 'l.length' bytes from a on reads as the numbers l. -/
structure Row (w : World) (a : Option Addr) (l : List Int) : Prop where
  small : l.length ≤ 140737488355328
  bytes : M.Bytes l
  cells : 0 < l.length → ∃ b off, a = some ⟨b, off, none⟩ ∧ ∀ i, i < l.length → w.cell? ⟨b, off + i, none⟩ = some (.int .u8 (l.getD i 0))
/-- A slice value of 'ls.length' parts from a on reads as ls. -/
structure Rowss (w : World) (a : Option Addr) (ls : List (List Int)) : Prop where
  small : ls.length ≤ 140737488355328
  cells : 0 < ls.length → ∃ b off, a = some ⟨b, off, none⟩ ∧ ∀ i, i < ls.length → ∃ a' c', w.cell? ⟨b, off + i, none⟩ = some (.slice a' (ls.getD i []).length c') ∧ Row w a' (ls.getD i [])
theorem Rowss.all {w : World} {a : Option Addr} {ls : List (List Int)} (h : Rowss w a ls) : M.AllBytes ls := by
  intro i hi
  obtain ⟨b, off, _, hc⟩ := h.cells (by omega)
  obtain ⟨_, _, _, hr⟩ := hc i hi
  exact hr.bytes
theorem below_drewN {B : Nat} {a w : World} (h : Below B a w) (n : Nat) : Below B a (w.drewN n) := h.trans ⟨rfl, rfl, rfl, Nat.le_refl _, fun _ _ => rfl⟩
theorem Row.below {w w' : World} {a : Option Addr} {l : List Int} (h : Row w a l) (hb : Below w.heap.size w w') : Row w' a l :=
  ⟨h.small, h.bytes, fun hl => by
    obtain ⟨b, off, ha, hc⟩ := h.cells hl
    exact ⟨b, off, ha, fun i hi => (hb.cell (World.block_lt_of_cell? w _ (hc i hi))).trans (hc i hi)⟩⟩
theorem Rowss.below {w w' : World} {a : Option Addr} {ls : List (List Int)} (h : Rowss w a ls) (hb : Below w.heap.size w w') : Rowss w' a ls :=
  ⟨h.small, fun hl => by
    obtain ⟨b, off, ha, hc⟩ := h.cells hl
    refine ⟨b, off, ha, fun i hi => ?_⟩
    obtain ⟨a', c', h1, h2⟩ := hc i hi
    exact ⟨a', c', (hb.cell (World.block_lt_of_cell? w _ h1)).trans h1, h2.below hb⟩⟩
theorem Row.alloc {w : World} {a : Option Addr} {l : List Int} (h : Row w a l) (o : Obj) : Row (w.alloc o) a l := h.below ((Below.refl _ _).alloc (Nat.le_refl _) o)
theorem Row.drewN {w : World} {a : Option Addr} {l : List Int} (h : Row w a l) (n : Nat) : Row (w.drewN n) a l := h.below (below_drewN (Below.refl _ _) n)
theorem Row.take {w : World} {a : Option Addr} {l : List Int} (h : Row w a l) (k : Nat) : Row w a (l.take k) := by
  have hle : (l.take k).length ≤ l.length := List.length_take_le' _ _
  have := h.small
  refine ⟨by omega, h.bytes.take k, fun hp => ?_⟩
  obtain ⟨b, off, ha, hc⟩ := h.cells (by omega)
  refine ⟨b, off, ha, fun i hi => ?_⟩
  rw [hc i (by omega)]
  have : i < k := by simp at hi; omega
  simp [this]
/-- The slice value v owns the bytes l, in a block of the call's own (from B on), or is nil and l empty. -/
def Owns (w : World) (B : Nat) (v : Value) (l : List Int) : Prop := w.ownsRow B 5 1 v l.length (l.map (Value.int .u8))
theorem Owns.form {w : World} {B : Nat} {v : Value} {l : List Int} (h : Owns w B v l) :
    ∃ a c, v = .slice a l.length c ∧ l.length ≤ c ∧ (a = none → c = 0) ∧ (∀ x, a = some x → B ≤ x.block ∧ x.off = 0 ∧ x.spot = none) ∧ v.ownBlock = a.map (·.block) := by
  obtain ⟨h1, h2⟩ := h
  rcases h2 with ⟨rfl, h3⟩ | ⟨g, cap, cur, rfl, h3, h4, h5, h6, h7, h8⟩
  · exact ⟨none, 0, by rw [h3], by omega, fun _ => rfl, fun _ h => (by cases h), rfl⟩
  · exact ⟨_, cap, rfl, h5, fun h => (by cases h), fun x hx => (by cases hx; exact ⟨h3, rfl, rfl⟩), rfl⟩
theorem Owns.row {w : World} {B : Nat} {a : Option Addr} {c : Nat} {l : List Int} (h : Owns w B (.slice a l.length c) l) (hs : l.length ≤ 140737488355328) (hb : M.Bytes l) : Row w a l := by
  refine ⟨hs, hb, fun hp => ?_⟩
  have h0 := h
  obtain ⟨h1, h2⟩ := h
  rcases h2 with ⟨h3, h4⟩ | ⟨g, cap, cur, h3, h4, h5, h6, h7, h8, h9⟩
  · omega
  · simp only [Value.slice.injEq] at h3
    obtain ⟨rfl, _, rfl⟩ := h3
    refine ⟨g, 0, rfl, fun i hi => ?_⟩
    have hc := World.ownsRow.cellAt (e := 5) (size := 1) h0 i (by omega)
    rw [Nat.zero_add, hc]
    simp [hi]
theorem Owns.nil (w : World) (B : Nat) : Owns w B (.slice none 0 0) [] := World.ownsRow_nil _ _ _ _
theorem Owns.alloc {w : World} {B : Nat} {v : Value} {l : List Int} (h : Owns w B v l) (o : Obj) : Owns (w.alloc o) B v l := World.ownsRow.alloc h o
theorem Owns.drewN {w : World} {B : Nat} {v : Value} {l : List Int} (h : Owns w B v l) (n : Nat) : Owns (w.drewN n) B v l := h
/-- Behind memory that only grew. -/
theorem Owns.below {w w' : World} {B : Nat} {v : Value} {l : List Int} (h : Owns w B v l) (hb : Below w.heap.size w w') : Owns w' B v l := by
  obtain ⟨h1, h2⟩ := h
  refine ⟨h1, ?_⟩
  rcases h2 with h2 | ⟨g, cap, cur, h3, h4, h5, h6⟩
  · exact .inl h2
  · refine .inr ⟨g, cap, cur, h3, h4, (hb.block g ?_).trans h5, h6⟩
    have := (Array.getElem?_eq_some_iff.1 h5).1
    exact this
/-- b[k:]. -/
theorem Row.drop {w : World} {a : Option Addr} {l : List Int} (h : Row w a l) (c k : Nat) (hc : l.length ≤ c) : Row w (if c = k then a else a.map (fun x => x.add k)) (l.drop k) := by
  have hs := h.small
  refine ⟨by simp; omega, h.bytes.drop k, fun hp => ?_⟩
  have hk : k < l.length := by simp at hp; omega
  obtain ⟨b, off, rfl, hcc⟩ := h.cells (by omega)
  rw [if_neg (by omega)]
  refine ⟨b, off + k, by simp [Go.WideShapes.add_plain], fun i hi => ?_⟩
  have hi' : k + i < l.length := by simp at hi; omega
  rw [Nat.add_assoc, hcc (k + i) hi']
  simp
theorem Row.cell {w : World} {g : Nat} {l : List Int} (h : Row w (some ⟨g, 0, none⟩) l) (i : Nat) (hi : i < l.length) : w.cell? ⟨g, i, none⟩ = some (.int .u8 (l.getD i 0)) := by
  obtain ⟨b, off, hh, hcc⟩ := h.cells (by omega)
  cases hh
  have := hcc i hi
  rwa [Nat.zero_add] at this
theorem Owns.at {w : World} {B c : Nat} {a : Option Addr} {l : List Int} (h : Owns w B (.slice a l.length c) l) (hr : Row w a l) (hp : 0 < l.length) : ∃ g, a = some ⟨g, 0, none⟩ ∧ B ≤ g := by
  obtain ⟨b, off, rfl, _⟩ := hr.cells hp
  obtain ⟨a', c', h1, _, _, h3, _⟩ := h.form
  cases h1
  have := h3 _ rfl
  simp at this
  exact ⟨b, by rw [this.2], this.1⟩
/-- A byte is written over in a slice of the call's own. -/
theorem Owns.stored {w : World} {B g c : Nat} {l : List Int} (h : Owns w B (.slice (some ⟨g, 0, none⟩) l.length c) l) (i : Nat) (y : Int) :
    Owns (w.setCell ⟨g, i, none⟩ (.int .u8 y)) B (.slice (some ⟨g, 0, none⟩) l.length c) (l.set i y) := by
  have := World.ownsRow.stored (e := 5) (size := 1) h i (.int .u8 y)
  replace this := this.1
  show World.ownsRow _ B 5 1 _ (l.set i y).length ((l.set i y).map (Value.int .u8))
  rw [List.length_set, List.map_set]
  exact this
theorem Owns.frozen {w : World} {B g c : Nat} {l : List Int} (h : Owns w B (.slice (some ⟨g, 0, none⟩) l.length c) l) (i : Nat) : w.frozen? ⟨g, i, none⟩ = false :=
  World.ownsRow.frozenAt (e := 5) (size := 1) h i
/-- Two bytes of a slice of the call's own change places. -/
theorem Owns.swap {w : World} {B g c : Nat} {l : List Int} (h : Owns w B (.slice (some ⟨g, 0, none⟩) l.length c) l) (i k : Nat) :
    Owns ((w.setCell ⟨g, i, none⟩ (.int .u8 (l.getD k 0))).setCell ⟨g, k, none⟩ (.int .u8 (l.getD i 0))) B (.slice (some ⟨g, 0, none⟩) (M.swap l i k).length c) (M.swap l i k) := by
  have h1 := h.stored i (l.getD k 0)
  rw [show l.length = (l.set i (l.getD k 0)).length by simp] at h1
  have h2 := h1.stored k (l.getD i 0)
  rw [List.length_set] at h2
  rw [M.swap_length]
  exact h2
/-- The number in two bytes. -/
def u16 (l : List Int) (x : Int) : Int := 256 * l.getD x.toNat 0 + l.getD (x.toNat + 1) 0
/-- The number in four bytes. -/
def u32 (l : List Int) (x : Int) : Int := 16777216 * l.getD x.toNat 0 + 65536 * l.getD (x.toNat + 1) 0 + 256 * l.getD (x.toNat + 2) 0 + l.getD (x.toNat + 3) 0
end Go.Proofs.Ytmjjdbkipagkbaa
namespace Go.Proofs.Ytmjjdbkipagkbaa
open Go.RowKit
set_option linter.unusedVariables false
set_option linter.unusedSimpArgs false
/-- An address, as three numbers. -/
structure Ad where
  fam : Int
  hi : Int
  lo : Int
/-- Its numbers lie in their kinds. -/
def Ad.ok (a : Ad) : Prop := (-9223372036854775808 ≤ a.fam ∧ a.fam ≤ 9223372036854775807) ∧ (0 ≤ a.hi ∧ a.hi ≤ 18446744073709551615) ∧ (0 ≤ a.lo ∧ a.lo ≤ 18446744073709551615)
abbrev Ad.v (a : Ad) : Value := .agg #[.int .i64 a.fam, .int .u64 a.hi, .int .u64 a.lo]
def Ad.right (a : Ad) : Bool := if a.fam = 4 then (a.hi == 0) && (a.lo / 4294967296 == 0) else a.fam == 6
def Ad.width (a : Ad) : Int := if a.fam = 4 then 32 else 128
theorem right_any (f h l : Int) (w : World) :
    Calls Try.prog 78 #[.agg #[.int .i64 f, .int .u64 h, .int .u64 l]] w fun e w' => e = .returned (.bool (Ad.right ⟨f, h, l⟩)) ∧ w' = w.alloc (.cells #[.int .i64 f, .int .u64 h, .int .u64 l] 24) := by
  go_enter Try.func78, Try.ntmps78
  by_cases hf : f = 4
  · by_cases hh : h = 0
    · go_wp2
      go_ret
      exact ⟨by simp [Ad.right, hf, hh], by simp [*]⟩
    · go_wp2
      go_ret
      exact ⟨by simp [Ad.right, hf, hh], by simp [*]⟩
  · go_wp2
    go_ret
    exact ⟨by simp [Ad.right, hf], by simp [*]⟩
/-- The k lowest bits as 0. -/
def cutLow (x : Int) (k : Nat) : Int := x / 2 ^ k * 2 ^ k
/-- The address with its bits from the place bits on 0. -/
def Ad.masked (a : Ad) (bits : Int) : Ad :=
  ⟨a.fam, cutLow a.hi (64 - min (bits + 128 - a.width) 64).toNat, cutLow a.lo (64 - max (bits + 128 - a.width - 64) 0).toNat⟩
def Ad.fits (a : Ad) (bits : Int) : Bool := a.right && (decide (0 ≤ bits) && decide (bits ≤ a.width))
def Ad.mask (a : Ad) (bits : Int) : Ad × Int := if a.fits bits then (a.masked bits, 0) else (⟨0, 0, 0⟩, 1)
theorem kept {W w1 : World} {b o : Nat} {v : Value} (hb : Below W.heap.size W w1) (h : W.cell? ⟨b, o, none⟩ = some v) : w1.cell? ⟨b, o, none⟩ = some v :=
  (hb.cell (World.block_lt_of_cell? W _ h)).trans h
/-- Are they one address? -/
def Ad.same (a b : Ad) : Bool := a.fam == b.fam && (a.hi == b.hi && a.lo == b.lo)
def Ad.has (p : Ad) (n : Int) (a : Ad) : Bool := (a.mask n).2 == 0 && (a.mask n).1.same p
def Ad.rightPrefix (p : Ad) (n : Int) : Bool := p.has n p
/-- The n lowest bytes of two words, the highest first. -/
def bytesGo : Nat → Int → Int → List Int
  | 0, _, _ => []
  | n + 1, h, l => bytesGo n (h / 256) (l / 256 + h * 72057594037927936 % 18446744073709551616) ++ [l % 256]
def Ad.bytes (a : Ad) : List Int := if a.right then bytesGo (if a.fam = 4 then 4 else 16) a.hi a.lo else []
theorem put_other {w : World} {a b : Addr} {v : Value} (h : a ≠ b) : (w.setCell a v).cell? b = w.cell? b := by
  apply World.cell?_setCell_other
  exact h
end Go.Proofs.Ytmjjdbkipagkbaa
namespace Go.Proofs.Ytmjjdbkipagkbaa
open Go.RowKit
set_option linter.unusedVariables false
theorem Owns.other {w : World} {B : Nat} {v : Value} {l : List Int} (h : Owns w B v l) {ad : Addr} (ha : ad.block < B) (u : Value) : Owns (w.setCell ad u) B v l := ownsRow_setCell_below h ha u
end Go.Proofs.Ytmjjdbkipagkbaa
