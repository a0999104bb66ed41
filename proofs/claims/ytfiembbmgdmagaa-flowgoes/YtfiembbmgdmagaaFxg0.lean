/- Texts joined: Math Sum Mem App Reads Adr Pre Byt Room BlkX BlkY TcA TcQ Ord FrA TcN TuP TuN FwA FwB Arg2 FwJ TcB -/
import Derived.Test.YtfiembbmgdmagaaRows
import Derived.WalkKit
import Derived.Laws.BitsAllLaws
import Derived.Laws.BitsLemmas
import Derived.Laws.Bits128
import Derived.Below
import Derived.Deep.Draws
import Derived.Laws.World
import Derived.Laws.AppendOwn
import Derived.Laws.AppendOwnNone
import Derived.Laws.OwnMore
import Derived.OwnWalk
import Derived.KernelRfl
import Derived.Deep.QuietTactic
import Derived.BigQuiet
import Derived.Laws.Shifts
import Derived.Laws.ShiftsVarLaws
import Derived.Laws.StructEq
import Derived.Deep.RegionWith
import Derived.Deep.DeepCutAuto
import Derived.Laws.BytesArg
import Derived.Laws.MakeOwn
import Derived.Deep.WholeRow
import Derived.BigRegion
import Derived.Deep.RegionHeld3
import Derived.RegionTactic
import Derived.ProofKit
import Derived.OpenShut
import Derived.Deep.DeepHandedRow
import Derived.Deep.Slices
import Derived.Deep.Strs
import Derived.ChangeSlices
import Derived.ChangeSame
import Derived.Lib.SmallJoins
import Derived.Lib.LaidTab
import Derived.Stop.LaidErr
import Derived.Shelf.LaysM
namespace Go.Proofs.Ytfiembbmgdmagaa.M
/-- What folding leaves of a number that is not below 0. -/
def nf (t : Int) : Int := if t ≤ 0 then 0 else (t - 1) % 65535 + 1
theorem nf_bd (t : Int) : 0 ≤ nf t ∧ nf t ≤ 65535 := by unfold nf; split <;> omega
def Bytes (l : List Int) : Prop := ∀ x, x ∈ l → 0 ≤ x ∧ x ≤ 255
theorem Bytes.of {l : List Int} (h : l.all (fun x => decide (0 ≤ x) && decide (x ≤ 255)) = true) : Bytes l := fun x hx => by simpa using List.all_eq_true.1 h x hx
theorem Bytes.nil : Bytes [] := by intro x h; cases h
theorem Bytes.right {a b : List Int} (h : Bytes (a ++ b)) : Bytes b := fun x hx => h x (List.mem_append_right _ hx)
theorem Bytes.take {a : List Int} (h : Bytes a) (n : Nat) : Bytes (a.take n) := fun x hx => h x (List.mem_of_mem_take hx)
theorem Bytes.drop {a : List Int} (h : Bytes a) (n : Nat) : Bytes (a.drop n) := fun x hx => h x (List.mem_of_mem_drop hx)
theorem Bytes.set {a : List Int} (h : Bytes a) (i : Nat) {z : Int} (hz : 0 ≤ z ∧ z ≤ 255) : Bytes (a.set i z) := fun x hx => by
 rcases List.mem_or_eq_of_mem_set hx with hx | rfl
 ·exact h x hx
 ·exact hz
/-- Which half of a word the next byte is, n bytes on. -/
def par (p : Bool) (n : Nat) : Bool := if n % 2 = 0 then p else !p
theorem par_zero (p : Bool) : par p 0 = p := rfl
theorem par_succ (p : Bool) (n : Nat) : par p (n + 1) = !(par p n) := by
 unfold par; by_cases h : n % 2 = 0
 ·rw [if_neg (by omega), if_pos h]
 ·rw [if_pos (by omega), if_neg h]; simp
theorem par_add (p : Bool) (a b : Nat) : par (par p a) b = par p (a + b) := by
 induction b with
 | zero => rfl
 | succ b ih => rw [par_succ, ih, ← Nat.add_assoc, par_succ]
theorem par_even (p : Bool) {n : Nat} (h : n % 2 = 0) : par p n = p := by unfold par; rw [if_pos h]
/-- The sum of all bytes, each as its half of a word, not folded. -/
def raw : Bool → List Int → Int
 | _, [] => 0
 | true, x :: l => 256 * x + raw false l
 | false, x :: l => x + raw true l
theorem raw_nil (p : Bool) : raw p [] = 0 := by cases p <;> rfl
theorem raw_cons (p : Bool) (x : Int) (l : List Int) : raw p (x :: l) = (if p then 256 * x else x) + raw (!p) l := by cases p <;> rfl
theorem raw_append (p : Bool) (a b : List Int) : raw p (a ++ b) = raw p a + raw (par p a.length) b := by
 induction a generalizing p with
 | nil => rw [raw_nil]; simp [par_zero]
 | cons x a ih =>
  rw [List.cons_append, raw_cons, raw_cons, ih, List.length_cons, Int.add_assoc]
  congr 3
  have := par_add p 1 a.length
  rw [show par p 1 = !p from by cases p <;> rfl] at this
  rw [this, Nat.add_comm]
theorem raw_one (p : Bool) (x : Int) : raw p [x] = if p then 256 * x else x := by rw [raw_cons, raw_nil]; omega
theorem raw_bd (p : Bool) (l : List Int) (h : Bytes l) : 0 ≤ raw p l ∧ raw p l ≤ 65280 * l.length := by
 induction l generalizing p with
 | nil => rw [raw_nil]; simp
 | cons x l ih =>
  have hx := h x (by simp)
  have hi := ih (!p) (fun y hy => h y (by simp [hy]))
  rw [raw_cons, List.length_cons]
  cases p <;> simp at * <;> omega
def AllBytes (ls : List (List Int)) : Prop := ∀ i, i < ls.length → Bytes (ls.getD i [])
/-- The sum of parts, one behind the other. -/
def sumOf (ls : List (List Int)) : Int := nf (raw true ls.flatten)
theorem sumOf_one (l : List Int) : sumOf [l] = nf (raw true l) := by unfold sumOf; simp
/-- Bytes of even length with their check sum behind them have the sum 65535, and are found if one byte is turned. -/
theorem checked (l : List Int) (he : l.length % 2 = 0) (hb : Bytes l) :
  raw true (l ++ [(65535 - sumOf [l]) / 256, (65535 - sumOf [l]) % 256]) % 65535 = 0 ∧ 0 < raw true (l ++ [(65535 - sumOf [l]) / 256, (65535 - sumOf [l]) % 256]) := by
 have h1 := raw_bd true l hb
 have h2 : sumOf [l] = nf (raw true l) := sumOf_one l
 rw [raw_append, par_even true he, h2]
 generalize raw true l = R at *
 have h3 := nf_bd R
 have h4 : nf R % 65535 = R % 65535 := by unfold nf; split <;> omega
 have h6 : nf R ≤ R := by have := h1.1; unfold nf; split <;> omega
 generalize nf R = F at *
 have h5 : raw true [(65535 - F) / 256, (65535 - F) % 256] = 65535 - F := by
  rw [raw_cons, raw_one]; simp; omega
 rw [h5]
 omega
end Go.Proofs.Ytfiembbmgdmagaa.M
namespace Go.Proofs.Ytfiembbmgdmagaa
open Go.RowKit
set_option linter.unusedVariables false
/-- A slice value of 'l.length' bytes from a on reads as the numbers l. -/
structure Row (w : World) (a : Option Addr) (l : List Int) : Prop where
 small : l.length ≤ 140737488355328
 bytes : M.Bytes l
 cells : 0 < l.length → ∃ b off, a = some ⟨b, off, none⟩ ∧ ∀ i, i < l.length → w.cell? ⟨b, off + i, none⟩ = some (.int .u8 (l.getD i 0))
/-- A slice value of 'ls.length' parts from a on reads as ls. -/
structure Rowss (w : World) (a : Option Addr) (ls : List (List Int)) : Prop where
 small : ls.length ≤ 140737488355328
 cells : 0 < ls.length → ∃ b off, a = some ⟨b, off, none⟩ ∧ ∀ i, i < ls.length → ∃ a' c', w.cell? ⟨b, off + i, none⟩ = some (.slice a' (ls.getD i []).length c') ∧ Row w a' (ls.getD i [])
theorem Rowss.all {w : World} {a : Option Addr} {ls : List (List Int)} (h : Rowss w a ls) : M.AllBytes ls := by
 intro i hi
 obtain ⟨b, off, _, hc⟩ := h.cells (by omega)
 obtain ⟨_, _, _, hr⟩ := hc i hi
 exact hr.bytes
theorem Row.below {w w' : World} {a : Option Addr} {l : List Int} (h : Row w a l) (hb : Below w.heap.size w w') : Row w' a l :=
 ⟨h.small, h.bytes, fun hl => by
  obtain ⟨b, off, ha, hc⟩ := h.cells hl
  exact ⟨b, off, ha, fun i hi => (hb.cell (World.block_lt_of_cell? w _ (hc i hi))).trans (hc i hi)⟩⟩
theorem Rowss.below {w w' : World} {a : Option Addr} {ls : List (List Int)} (h : Rowss w a ls) (hb : Below w.heap.size w w') : Rowss w' a ls :=
 ⟨h.small, fun hl => by
  obtain ⟨b, off, ha, hc⟩ := h.cells hl
  refine ⟨b, off, ha, fun i hi => ?_⟩
  obtain ⟨a', c', h1, h2⟩ := hc i hi
  exact ⟨a', c', (hb.cell (World.block_lt_of_cell? w _ h1)).trans h1, h2.below hb⟩⟩
theorem Row.alloc {w : World} {a : Option Addr} {l : List Int} (h : Row w a l) (o : Obj) : Row (w.alloc o) a l := h.below ((Below.refl _ _).alloc (Nat.le_refl _) o)
theorem Row.take {w : World} {a : Option Addr} {l : List Int} (h : Row w a l) (k : Nat) : Row w a (l.take k) := by
 have hle : (l.take k).length ≤ l.length := List.length_take_le' _ _
 have := h.small
 refine ⟨by omega, h.bytes.take k, fun hp => ?_⟩
 obtain ⟨b, off, ha, hc⟩ := h.cells (by omega)
 refine ⟨b, off, ha, fun i hi => ?_⟩
 rw [hc i (by omega)]
 have : i < k := by simp at hi; omega
 simp [this]
/-- The slice value v owns the bytes l, in a block of the call's own (from B on), or is nil and l empty. -/
def Owns (w : World) (B : Nat) (v : Value) (l : List Int) : Prop := w.ownsRow B 5 1 v l.length (l.map (Value.int .u8))
theorem Owns.form {w : World} {B : Nat} {v : Value} {l : List Int} (h : Owns w B v l) :
  ∃ a c, v = .slice a l.length c ∧ l.length ≤ c ∧ (a = none → c = 0) ∧ (∀ x, a = some x → B ≤ x.block ∧ x.off = 0 ∧ x.spot = none) ∧ v.ownBlock = a.map (·.block) := by
 obtain ⟨h1, h2⟩ := h
 rcases h2 with ⟨rfl, h3⟩ | ⟨g, cap, cur, rfl, h3, h4, h5, h6, h7, h8⟩
 ·exact ⟨none, 0, by rw [h3], by omega, fun _ => rfl, fun _ h => (by cases h), rfl⟩
 ·exact ⟨_, cap, rfl, h5, fun h => (by cases h), fun x hx => (by cases hx; exact ⟨h3, rfl, rfl⟩), rfl⟩
theorem Owns.nil (w : World) (B : Nat) : Owns w B (.slice none 0 0) [] := World.ownsRow_nil _ _ _ _
theorem Owns.alloc {w : World} {B : Nat} {v : Value} {l : List Int} (h : Owns w B v l) (o : Obj) : Owns (w.alloc o) B v l := World.ownsRow.alloc h o
/-- Behind memory that only grew. -/
theorem Owns.below {w w' : World} {B : Nat} {v : Value} {l : List Int} (h : Owns w B v l) (hb : Below w.heap.size w w') : Owns w' B v l := by
 obtain ⟨h1, h2⟩ := h
 refine ⟨h1, ?_⟩
 rcases h2 with h2 | ⟨g, cap, cur, h3, h4, h5, h6⟩
 ·exact .inl h2
 ·refine .inr ⟨g, cap, cur, h3, h4, (hb.block g ?_).trans h5, h6⟩
  have := (Array.getElem?_eq_some_iff.1 h5).1
  exact this
/-- b[k:]. -/
theorem Row.drop {w : World} {a : Option Addr} {l : List Int} (h : Row w a l) (c k : Nat) (hc : l.length ≤ c) : Row w (if c = k then a else a.map (fun x => x.add k)) (l.drop k) := by
 have hs := h.small
 refine ⟨by simp; omega, h.bytes.drop k, fun hp => ?_⟩
 have hk : k < l.length := by simp at hp; omega
 obtain ⟨b, off, rfl, hcc⟩ := h.cells (by omega)
 rw [if_neg (by omega)]
 refine ⟨b, off + k, by simp [Go.WideShapes.add_plain], fun i hi => ?_⟩
 have hi' : k + i < l.length := by simp at hi; omega
 rw [Nat.add_assoc, hcc (k + i) hi']
 simp
theorem Row.cell {w : World} {g : Nat} {l : List Int} (h : Row w (some ⟨g, 0, none⟩) l) (i : Nat) (hi : i < l.length) : w.cell? ⟨g, i, none⟩ = some (.int .u8 (l.getD i 0)) := by
 obtain ⟨b, off, hh, hcc⟩ := h.cells (by omega)
 cases hh
 have := hcc i hi
 rwa [Nat.zero_add] at this
theorem Owns.at {w : World} {B c : Nat} {a : Option Addr} {l : List Int} (h : Owns w B (.slice a l.length c) l) (hr : Row w a l) (hp : 0 < l.length) : ∃ g, a = some ⟨g, 0, none⟩ ∧ B ≤ g := by
 obtain ⟨b, off, rfl, _⟩ := hr.cells hp
 obtain ⟨a', c', h1, _, _, h3, _⟩ := h.form
 cases h1
 have := h3 _ rfl
 simp at this
 exact ⟨b, by rw [this.2], this.1⟩
theorem Owns.frozen {w : World} {B g c : Nat} {l : List Int} (h : Owns w B (.slice (some ⟨g, 0, none⟩) l.length c) l) (i : Nat) : w.frozen? ⟨g, i, none⟩ = false :=
 World.ownsRow.frozenAt (e := 5) (size := 1) h i
/-- The number in four bytes. -/
def u32 (l : List Int) (x : Int) : Int := 16777216 * l.getD x.toNat 0 + 65536 * l.getD (x.toNat + 1) 0 + 256 * l.getD (x.toNat + 2) 0 + l.getD (x.toNat + 3) 0
end Go.Proofs.Ytfiembbmgdmagaa
namespace Go.Proofs.Ytfiembbmgdmagaa
open Go.RowKit
set_option linter.unusedVariables false
set_option linter.unusedSimpArgs false
/-- An address, as three numbers. -/
structure Ad where
 fam : Int
 hi : Int
 lo : Int
/-- Its numbers lie in their kinds. -/
def Ad.ok (a : Ad) : Prop := (-9223372036854775808 ≤ a.fam ∧ a.fam ≤ 9223372036854775807) ∧ (0 ≤ a.hi ∧ a.hi ≤ 18446744073709551615) ∧ (0 ≤ a.lo ∧ a.lo ≤ 18446744073709551615)
abbrev Ad.v (a : Ad) : Value := .agg #[.int .i64 a.fam, .int .u64 a.hi, .int .u64 a.lo]
def Ad.right (a : Ad) : Bool := if a.fam = 4 then (a.hi == 0) && (a.lo / 4294967296 == 0) else a.fam == 6
def Ad.width (a : Ad) : Int := if a.fam = 4 then 32 else 128
theorem right_any (f h l : Int) (w : World) :
  Calls Try.prog 78 #[.agg #[.int .i64 f, .int .u64 h, .int .u64 l]] w fun e w' => e = .returned (.bool (Ad.right ⟨f, h, l⟩)) ∧ w' = w.alloc (.cells #[.int .i64 f, .int .u64 h, .int .u64 l] 24) := by
 go_enter Try.func78, Try.ntmps78
 by_cases hf : f = 4
 ·by_cases hh : h = 0
  ·go_wp2
   go_ret
   exact ⟨by simp [Ad.right, hf, hh], by simp [*]⟩
  ·go_wp2
   go_ret
   exact ⟨by simp [Ad.right, hf, hh], by simp [*]⟩
 ·go_wp2
  go_ret
  exact ⟨by simp [Ad.right, hf], by simp [*]⟩
/-- The k lowest bits as 0. -/
def cutLow (x : Int) (k : Nat) : Int := x / 2 ^ k * 2 ^ k
/-- The address with its bits from the place bits on 0. -/
def Ad.masked (a : Ad) (bits : Int) : Ad :=
 ⟨a.fam, cutLow a.hi (64 - min (bits + 128 - a.width) 64).toNat, cutLow a.lo (64 - max (bits + 128 - a.width - 64) 0).toNat⟩
def Ad.fits (a : Ad) (bits : Int) : Bool := a.right && (decide (0 ≤ bits) && decide (bits ≤ a.width))
def Ad.mask (a : Ad) (bits : Int) : Ad × Int := if a.fits bits then (a.masked bits, 0) else (⟨0, 0, 0⟩, 1)
theorem kept {W w1 : World} {b o : Nat} {v : Value} (hb : Below W.heap.size W w1) (h : W.cell? ⟨b, o, none⟩ = some v) : w1.cell? ⟨b, o, none⟩ = some v :=
 (hb.cell (World.block_lt_of_cell? W _ h)).trans h
/-- Are they one address? -/
def Ad.same (a b : Ad) : Bool := a.fam == b.fam && (a.hi == b.hi && a.lo == b.lo)
def Ad.has (p : Ad) (n : Int) (a : Ad) : Bool := (a.mask n).2 == 0 && (a.mask n).1.same p
def Ad.rightPrefix (p : Ad) (n : Int) : Bool := p.has n p
/-- The n lowest bytes of two words, the highest first. -/
def bytesGo : Nat → Int → Int → List Int
 | 0, _, _ => []
 | n + 1, h, l => bytesGo n (h / 256) (l / 256 + h * 72057594037927936 % 18446744073709551616) ++ [l % 256]
def Ad.bytes (a : Ad) : List Int := if a.right then bytesGo (if a.fam = 4 then 4 else 16) a.hi a.lo else []
theorem put_other {w : World} {a b : Addr} {v : Value} (h : a ≠ b) : (w.setCell a v).cell? b = w.cell? b := by
 apply World.cell?_setCell_other
 exact h
end Go.Proofs.Ytfiembbmgdmagaa
namespace Go.Proofs.Ytfiembbmgdmagaa
open Go.RowKit
set_option linter.unusedVariables false
theorem Owns.other {w : World} {B : Nat} {v : Value} {l : List Int} (h : Owns w B v l) {ad : Addr} (ha : ad.block < B) (u : Value) : Owns (w.setCell ad u) B v l := ownsRow_setCell_below h ha u
end Go.Proofs.Ytfiembbmgdmagaa
namespace Go.Proofs.Ytfiembbmgdmagaa
open Go.RowKit
set_option linter.unusedVariables false
set_option linter.unusedSimpArgs false
/-- The block g holds these cells. -/
def Blk (W : World) (g : Nat) (t : TypeId) (cs : Array Value) : Prop := W.heap[g]? = some (.cells cs t (0, 0))
theorem blk_new (w : World) (cs : Array Value) (t : TypeId) : Blk (w.alloc (.cells cs t)) w.heap.size t cs := heap_alloc_last w _
theorem Blk.lt {W : World} {g : Nat} {t : TypeId} {cs : Array Value} (h : Blk W g t cs) : g < W.heap.size := (Array.getElem?_eq_some_iff.1 h).1
theorem Blk.below {W W' : World} {g B : Nat} {t : TypeId} {cs : Array Value} (h : Blk W g t cs) (hb : Below B W W') (hg : g < B) : Blk W' g t cs := (hb.block g hg).trans h
theorem Blk.kept {W W' : World} {g : Nat} {t : TypeId} {cs : Array Value} (h : Blk W g t cs) (hb : Below W.heap.size W W') : Blk W' g t cs := h.below hb h.lt
theorem Blk.alloc {W : World} {g : Nat} {t : TypeId} {cs : Array Value} (h : Blk W g t cs) (X : Obj) : Blk (W.alloc X) g t cs := h.kept ((Below.refl _ _).alloc (Nat.le_refl _) _)
theorem Blk.drew {W : World} {g : Nat} {t : TypeId} {cs : Array Value} (h : Blk W g t cs) : Blk W.drew g t cs := h.kept ((Below.refl _ _).drew)
theorem Blk.cell {W : World} {g : Nat} {t : TypeId} {cs : Array Value} (h : Blk W g t cs) (i : Nat) (v : Value) (hv : cs[i]? = some v) : W.cell? ⟨g, i, none⟩ = some v :=
 (cell_of_row W g i cs t (0, 0) h).trans hv
theorem Blk.set {W : World} {g : Nat} {t : TypeId} {cs : Array Value} (h : Blk W g t cs) (cs' : Array Value) : Blk (W.setRow g cs') g t cs' := setRow_heap W g cs cs' t (0, 0) h
theorem setRow_heap_ne (W : World) (g k : Nat) (cs : Array Value) (h : k ≠ g) : (W.setRow g cs).heap[k]? = W.heap[k]? := by
 show (W.heap.modify g _)[k]? = _
 rw [Array.getElem?_modify, if_neg (fun e => h e.symm)]
theorem below_setRow {B : Nat} {w W : World} (hb : Below B w W) {g : Nat} (hg : B ≤ g) (cs : Array Value) : Below B w (W.setRow g cs) :=
 ⟨hb.os, hb.tape, hb.output, by rw [setRow_size]; exact hb.size, fun k hk => (setRow_heap_ne W g k cs (by omega)).trans (hb.block k hk)⟩
theorem Blk.other {W : World} {g g' : Nat} {t : TypeId} {cs : Array Value} (h : Blk W g t cs) (hn : g ≠ g') (cs' : Array Value) : Blk (W.setRow g' cs') g t cs := (setRow_heap_ne W g' g cs' hn).trans h
theorem Blk.put {W : World} {g : Nat} {t : TypeId} {cs : Array Value} (h : Blk W g t cs) (i : Nat) (v : Value) : Blk (W.setCell ⟨g, i, none⟩ v) g t (cs.setIfInBounds i v) := by
 rw [setCell_eq_setRow W g i cs t (0, 0) v h]
 exact h.set _
theorem Blk.put_other {W : World} {g g' : Nat} {t t' : TypeId} {cs cs' : Array Value} (h : Blk W g t cs) (h' : Blk W g' t' cs') (hn : g ≠ g') (i : Nat) (v : Value) : Blk (W.setCell ⟨g', i, none⟩ v) g t cs := by
 rw [setCell_eq_setRow W g' i cs' t' (0, 0) v h']
 exact h.other hn _
theorem Blk.frozen {W : World} {g : Nat} {t : TypeId} {cs : Array Value} (h : Blk W g t cs) (i : Nat) : W.frozen? ⟨g, i, none⟩ = false := by
 have h' : W.heap[g]? = some (.cells cs t (0, 0)) := h
 simp [World.frozen?, h']
/-- A whole struct out of its block. -/
theorem load_blk {W : World} {g : Nat} {t : TypeId} {cs : Array Value} (h : Blk W g t cs) {fs : _} (hu : Try.prog.underlying t = some (.struct fs)) (hi : (Try.prog.info? t).map (·.size) = some cs.size) :
  (loadVar t ⟨g, 0, none⟩).run Try.prog W = .ok (.agg cs) W := run_loadVar_row W g t t cs (0, 0) (.struct fs) h hu rfl hi
/-- The answer of a function whose one result lies in a block. -/
theorem ret_cell {R : Ending → World → Prop} {a : Act} {w : World} {g k : Nat} {t : TypeId} {cs : Array Value} (fn : Func) (hf : fn.results = #[.cell k t]) (h : Blk w g t cs) {fs : _} (hu : Try.prog.underlying t = some (.struct fs)) (hi : (Try.prog.info? t).map (·.size) = some cs.size)
  (h2 : a.tmps[k]?.getD undef = .pointer (some ⟨g, 0, none⟩)) (hdf : a.defers = []) (hR : R (.returned (.agg cs)) w) : bodyPost Try.prog fn R .ret a w := by
 refine bodyPost_ret (v := .agg cs) ?_ hdf hR
 have hl := load_blk h hu hi
 simp [results, hf, h2, asAddr, hl, Array.mapM_eq_mapM_toList]
theorem ret_cell_tmp {R : Ending → World → Prop} {a : Act} {w : World} {g k j : Nat} {t : TypeId} {cs : Array Value} {v : Value} (fn : Func) (hf : fn.results = #[.cell k t, .tmp j]) (h : Blk w g t cs) {fs : _} (hu : Try.prog.underlying t = some (.struct fs)) (hi : (Try.prog.info? t).map (·.size) = some cs.size)
  (h2 : a.tmps[k]?.getD undef = .pointer (some ⟨g, 0, none⟩)) (h3 : a.tmps[j]?.getD undef = v) (hdf : a.defers = []) (hR : R (.returned (.tuple #[.agg cs, v])) w) : bodyPost Try.prog fn R .ret a w := by
 refine bodyPost_ret (v := .tuple #[.agg cs, v]) ?_ hdf hR
 have hl := load_blk h hu hi
 simp [results, hf, h2, h3, asAddr, hl, Array.mapM_eq_mapM_toList]
theorem step_store_blk {ops : Array Oper} {o : Oper} {ac : Act} {K : Act → World → Prop} {Q : Exit → Act → World → Prop} {Z : Prop} {w : World} (hgd : o.guard = none) (t : TypeId) (p x : Operand) (ho : o.op = Op.store t p x) (g : Nat) (cs old : Array Value)
  (hp : ac.eval p = .pointer (some ⟨g, 0, none⟩)) (hx : ac.eval x = .agg cs) (hb : Blk w g t old) (hi : (Try.prog.info? t).map (·.size) = some cs.size) (ho' : old.size = cs.size) (h1 : cs.all (·.oneCell') = true) (h : K (ac.put o.dst undef) (w.setRow g cs)) :
  if Region.wanted o (yielded ops ac.tmps) = true then Oper.wp Try.prog o ac w K Q else Z := by
 have hw : Region.wanted o (yielded ops ac.tmps) = true := by simp [Region.wanted, hgd]
 rw [if_pos hw]
 exact wp_store_row t p x ho g cs hp hx t old hb hi ho' h1 h
theorem load_sub {W : World} {g : Nat} {t ty : TypeId} {cs : Array Value} (h : Blk W g t cs) (k : Nat) (sub : Array Value) (hs : (cs.toList.drop k).take sub.size = sub.toList) {fs : _} (hu : Try.prog.underlying ty = some (.struct fs)) (hi : (Try.prog.info? ty).map (·.size) = some sub.size) :
  (loadVar ty ⟨g, k, none⟩).run Try.prog W = .ok (.agg sub) W := by
 have hl : (loadCells ⟨g, k, none⟩ sub.toList.length).run Try.prog W = .ok sub.toList.toArray W :=
  run_loadCells_list (P := Try.prog) W ⟨g, k, none⟩ sub.toList (fun j v hv => by
   have hadd : (⟨g, k, none⟩ : Addr).add j = ⟨g, k + j, none⟩ := Go.WideShapes.add_plain ..
   rw [hadd]
   refine h.cell (k + j) v ?_
   rw [← hs] at hv
   rw [List.getElem?_take] at hv
   split at hv
   ·rw [List.getElem?_drop] at hv
    simpa using hv
   ·cases hv)
 cases hq : Try.prog.info? ty with
 | none => simp [hq] at hi
 | some i =>
  have hs' : i.size = sub.size := by simpa [hq] using hi
  have hagg : (isAgg ty).run Try.prog W = .ok true W := by
   unfold isAgg
   rw [Sem.run_bind, run_underlying hu W]
   rfl
  simp only [Array.length_toList, Array.toArray_toList] at hl
  simp [loadVar, Sem.run_bind, hagg, sizeOf, typeInfo, hq, hs', hl]
theorem wpList_load_sub_w {ops : Array Oper} {rest : List Oper} {o : Oper} {ac : Act} {w : World} {Q : Exit → Act → World → Prop} (hw : Region.wanted o (yielded ops ac.tmps) = true) (ty : TypeId) (p : Operand) (ho : o.op = Op.load ty p) (g k : Nat) (t : TypeId) (hp : ac.eval p = .pointer (some ⟨g, k, none⟩)) (cs sub : Array Value)
  (hb : Blk w g t cs) (hs : (cs.toList.drop k).take sub.size = sub.toList) {fs : _} (hu : Try.prog.underlying ty = some (.struct fs)) (hi : (Try.prog.info? ty).map (·.size) = some sub.size) (h : wpList Try.prog ops Q rest (ac.put o.dst (.agg sub)) w) : wpList Try.prog ops Q (o :: rest) ac w := by
 refine wpList_step fun K hK => ?_
 rw [if_pos hw]
 have hl := load_sub hb k sub hs hu hi
 unfold Oper.wp
 simp [execOp, ho, hp, Instr.loadAt, Instr.sureAddr, hl, Result.andThen]
 exact hK _ _ h
theorem wpList_load_blk_w {ops : Array Oper} {rest : List Oper} {o : Oper} {ac : Act} {w : World} {Q : Exit → Act → World → Prop} (hw : Region.wanted o (yielded ops ac.tmps) = true) (ty : TypeId) (x : Operand) (ho : o.op = .load ty x)
  (g : Nat) (hx : ac.eval x = .pointer (some ⟨g, 0, none⟩)) (cs : Array Value) (hg : Blk w g ty cs) {fs : _} (hu : Try.prog.underlying ty = some (.struct fs)) (hi : (Try.prog.info? ty).map (·.size) = some cs.size)
  (h : wpList Try.prog ops Q rest (ac.put o.dst (.agg cs)) w) : wpList Try.prog ops Q (o :: rest) ac w :=
 wpList_step fun K hK => by rw [if_pos hw]; exact wp_load_row ty x ho g hx ty cs (0, 0) (.struct fs) hg hu rfl hi (hK _ _ h)
theorem yieldsIf_sub_w {ops : Array Oper} {S : World → Prop} {o : Oper} {ac : Act} (hw : Region.wanted o (yielded ops ac.tmps) = true) (ty : TypeId) (p : Operand) (ho : o.op = Op.load ty p) (g k : Nat) (t : TypeId) (hp : ac.eval p = .pointer (some ⟨g, k, none⟩)) (cs sub : Array Value)
  (hS : ∀ w, S w → Blk w g t cs) (hs : (cs.toList.drop k).take sub.size = sub.toList) {fs : _} (hu : Try.prog.underlying ty = some (.struct fs)) (hi : (Try.prog.info? ty).map (·.size) = some sub.size) : YieldsIf Try.prog ops S o (.agg sub) ac := by
 refine .inl ⟨hw, fun w hw' => ?_⟩
 have hl := load_sub (hS w hw') k sub hs hu hi
 simp [execOp, ho, hp, Instr.loadAt, Instr.sureAddr, hl, Result.andThen]
theorem blk_nw {W W' : World} {cs : Array Value} {t : TypeId} (e : W.alloc (.cells cs t) = W') : Blk W' W.heap.size t cs := e ▸ blk_new _ _ _
theorem Blk.al {W W' : World} {g : Nat} {t : TypeId} {cs : Array Value} {o : Obj} (h : Blk W g t cs) (e : W.alloc o = W') : Blk W' g t cs := e ▸ h.alloc _
theorem bel_nw {w W : World} {o : Obj} (e : w.alloc o = W) : Below w.heap.size w W := e ▸ (Below.refl _ _).alloc (Nat.le_refl _) _
theorem bel_al {w W W' : World} {o : Obj} (h : Below w.heap.size w W) (e : W.alloc o = W') : Below w.heap.size w W' := e ▸ h.alloc h.size _
theorem bel_tr {w W W' : World} (h : Below w.heap.size w W) (k : Below W.heap.size W W') : Below w.heap.size w W' := h.trans (k.mono h.size)
end Go.Proofs.Ytfiembbmgdmagaa
namespace Go.Proofs.Ytfiembbmgdmagaa
open Go.RowKit
theorem qpu : (∀ (a : Act) (d : Tmp) (v : Value), a.put (some d) v = { a with tmps := a.tmps.setIfInBounds d v }) ∧ (∀ (a : Act) (v : Value), a.put none v = a) ∧ (∀ (l : List Value) (i : Nat) (v : Value), l.toArray.setIfInBounds i v = (l.set i v).toArray) ∧ (∀ (a b : Value) (l : List Value), (a :: l).set 0 b = b :: l) ∧ (∀ (a b : Value) (l : List Value) (i : Nat), (a :: l).set (i + 1) b = a :: l.set i b) :=
 ⟨fun _ _ _ => rfl, fun _ _ => rfl, fun _ _ _ => List.setIfInBounds_toArray .., fun _ _ _ => rfl, fun _ _ _ _ => rfl⟩
theorem qtk {P : Program} {md : Region.Mode} {ops : Array Oper} {Q : Exit → Act → World → Prop} {S : World → Prop} {i : Nat} {oi : Oper} {v : Value} {fuel : Nat} {listed : Array Bool} {a : Act} {w : World} (hS : S w)
  (hv : ∀ w, S w → (execOp a.eval oi).run P w = .ok (.value v) w) (h : wpAnyH P md ops Q S fuel (listed.setIfInBounds i true) (a.put oi.dst v) w) (hi : ops[i]? = some oi := by rfl)
  (hs : Region.noSelect ops = true := by kernel_rfl) (hf : Region.free md ops listed i = true := by kernel_rfl) (hr : (Region.ready md ops listed).contains i = true := by kernel_rfl)
  (hQ : ∀ c a w, Q (.panic c) (a.put oi.dst v) w → Q (.panic c) a w := by exact fun _ _ _ h => h) (hw : Region.wanted oi (yielded ops a.tmps) = true := by rfl) : wpAnyH P md ops Q S (fuel + 1) listed a w :=
 wpAnyH_take hi hs hf hr hQ (Or.inl ⟨hw, hv⟩) hS h
theorem qty {P : Program} {md : Region.Mode} {ops : Array Oper} {Q : Exit → Act → World → Prop} {S : World → Prop} {i : Nat} {oi : Oper} {v : Value} {fuel : Nat} {listed : Array Bool} {a : Act} {w : World} (hy : YieldsIf P ops S oi v a) (hS : S w)
  (h : wpAnyH P md ops Q S fuel (listed.setIfInBounds i true) (a.put oi.dst v) w) (hi : ops[i]? = some oi := by rfl)
  (hs : Region.noSelect ops = true := by kernel_rfl) (hf : Region.free md ops listed i = true := by kernel_rfl) (hr : (Region.ready md ops listed).contains i = true := by kernel_rfl)
  (hQ : ∀ c a w, Q (.panic c) (a.put oi.dst v) w → Q (.panic c) a w := by exact fun _ _ _ h => h) : wpAnyH P md ops Q S (fuel + 1) listed a w :=
 wpAnyH_take hi hs hf hr hQ hy hS h
theorem qtn {P : Program} {md : Region.Mode} {ops : Array Oper} {Q : Exit → Act → World → Prop} {S : World → Prop} {i : Nat} {oi : Oper} {fuel : Nat} {listed : Array Bool} {a : Act} {w : World} (hS : S w)
  (h : wpAnyH P md ops Q S fuel (listed.setIfInBounds i true) (a.put oi.dst undef) w) (hi : ops[i]? = some oi := by rfl)
  (hs : Region.noSelect ops = true := by kernel_rfl) (hf : Region.free md ops listed i = true := by kernel_rfl) (hr : (Region.ready md ops listed).contains i = true := by kernel_rfl)
  (hQ : ∀ c a w, Q (.panic c) (a.put oi.dst undef) w → Q (.panic c) a w := by exact fun _ _ _ h => h) (hw : Region.wanted oi (yielded ops a.tmps) = false := by rfl) : wpAnyH P md ops Q S (fuel + 1) listed a w :=
 wpAnyH_take hi hs hf hr hQ (Or.inr ⟨hw, rfl⟩) hS h
end Go.Proofs.Ytfiembbmgdmagaa
namespace Go.Proofs.Ytfiembbmgdmagaa
open Go.RowKit
set_option linter.unusedVariables false
theorem yieldsIf_blk_w {ops : Array Oper} {S : World → Prop} {o : Oper} {ac : Act} (hw : Region.wanted o (yielded ops ac.tmps) = true) (t : TypeId) (p : Operand) (ho : o.op = Op.load t p) (g : Nat) (hp : ac.eval p = .pointer (some ⟨g, 0, none⟩)) (cs : Array Value)
  (hS : ∀ w, S w → Blk w g t cs) {fs : _} (hu : Try.prog.underlying t = some (.struct fs)) (hi : (Try.prog.info? t).map (·.size) = some cs.size) : YieldsIf Try.prog ops S o (.agg cs) ac := by
 refine .inl ⟨hw, fun w hw' => ?_⟩
 have hl := load_blk (hS w hw') hu hi
 simp [execOp, ho, hp, Instr.loadAt, Instr.sureAddr, hl, Result.andThen]
end Go.Proofs.Ytfiembbmgdmagaa
namespace Go.Proofs.Ytfiembbmgdmagaa
open Go.RowKit
set_option linter.unusedVariables false
set_option linter.unusedSimpArgs false
/-- A stream: its state, of each side what comes next, how far it may go, whether it is known, and has ended. -/
structure Cn where
 st : Int
 n0 : Int
 n1 : Int
 e0 : Int
 e1 : Int
 k0 : Bool
 k1 : Bool
 d0 : Bool
 d1 : Bool
abbrev Cn.v (c : Cn) : Array Value := #[.int .i64 c.st, .int .u32 c.n0, .int .u32 c.n1, .int .u32 c.e0, .int .u32 c.e1, .bool c.k0, .bool c.k1, .bool c.d0, .bool c.d1]
/-- A segment. -/
structure Gt where
 fl : Int
 win : Int
 sz : Int
 sq : Int
 ak : Int
abbrev Gt.v (g : Gt) : Array Value := #[.int .i64 g.fl, .int .i64 g.win, .int .i64 g.sz, .int .u32 g.sq, .int .u32 g.ak]
def cn0 : Cn := ⟨0, 0, 0, 0, 0, false, false, false, false⟩
def flB (f k : Int) : Bool := bits .and .i64 f k != 0
def frB (a b : Int) : Bool := decide ((a - b) % 4294967296 < 2147483648)
def inB15 (n : Int) : Bool := decide (0 ≤ n) && decide (n ≤ 65535)
def bN (b : Bool) : Int := if b then 1 else 0
def Gt.e (g : Gt) : Int := (g.sq + g.sz + bN (flB g.fl 2) + bN (flB g.fl 1)) % 4294967296
def Gt.lim (g : Gt) : Int := (g.ak + g.win) % 4294967296
def wiB (n x l : Int) : Bool := frB n ((x - 65535) % 4294967296) && frB l n
def stOf (a b : Bool) : Int := if a && b then 5 else if a || b then 4 else 3
def Cn.right (c : Cn) : Bool :=
 if c.st == 1 then c.k0 && (!c.k1 && (!c.d0 && !c.d1))
 else if c.st == 2 then c.k0 && (c.k1 && (!c.d0 && !c.d1))
 else if c.st == 3 || (c.st == 4 || c.st == 5) then c.k0 && (c.k1 && c.st == stOf c.d0 c.d1)
 else if c.st == 6 then c.k0 else false
/-- Of the two sides: false the one that began. -/
def Cn.nx (c : Cn) (s : Bool) : Int := if s then c.n1 else c.n0
def Cn.ed (c : Cn) (s : Bool) : Int := if s then c.e1 else c.e0
def Cn.kn (c : Cn) (s : Bool) : Bool := if s then c.k1 else c.k0
def sdI (s : Bool) : Int := if s then 1 else 0
def Cn.win (c : Cn) (s : Bool) (g : Gt) : Bool := c.kn s && wiB g.e (c.nx s) (c.ed s)
def Cn.rst (c : Cn) (s : Bool) (g : Gt) : Option Cn :=
 if c.win s g || (s && (c.st == 1 && (flB g.fl 16 && g.ak == c.n0))) then some { c with st := 6 } else none
def Cn.ans (c : Cn) (g : Gt) : Cn := { c with st := 2, k1 := true, n1 := g.e, e0 := g.lim, e1 := (g.e + c.e1) % 4294967296 }
def Cn.syn (c : Cn) (s : Bool) (g : Gt) : Option Cn :=
 if flB g.fl 1 || g.sz != 0 then none
 else if s = false then (if c.st == 1 && (!flB g.fl 16 && g.e == c.n0) then some c else none)
 else if !flB g.fl 16 || g.ak != c.n0 then none
 else if c.st == 1 then some (c.ans g)
 else if c.st == 2 && g.e == c.n1 then some c else none
/-- Behind bytes: E the end, L how far the other side may go; P, O: do they count? F: is it the last of this side? -/
def Cn.byR (c : Cn) (s : Bool) (E L : Int) (P O F : Bool) : Cn :=
 ⟨stOf (if !s && F then true else c.d0) (if s && F then true else c.d1), if !s && P then E else c.n0, if s && P then E else c.n1, if s && O then L else c.e0, if !s && O then L else c.e1, c.k0, c.k1, if !s && F then true else c.d0, if s && F then true else c.d1⟩
def Cn.byt (c : Cn) (s : Bool) (g : Gt) : Option Cn :=
 if c.win s g && wiB g.ak (c.nx (!s)) (c.nx (!s)) then some (c.byR s g.e g.lim (frB g.e (c.nx s)) (frB g.lim (c.ed (!s))) (flB g.fl 1)) else none
def Cn.take (c : Cn) (s : Bool) (g : Gt) : Option Cn :=
 if flB g.fl 4 then c.rst s g
 else if c.st == 6 then none
 else if flB g.fl 2 then c.syn s g
 else if !flB g.fl 16 || (c.st == 1 || (s && c.st == 2)) then none
 else c.byt s g
def Cn.stp (c : Cn) (s : Bool) (g : Gt) : Cn × Int := if c.right && (inB15 g.win && inB15 g.sz) then (match c.take s g with | some d => (d, 0) | none => (cn0, 23)) else (cn0, 1)
def Cn.step (c : Cn) (i : Int) (g : Gt) : Cn × Int := if i == 0 then c.stp false g else if i == 1 then c.stp true g else (cn0, 1)
def Cn.life (c : Cn) : Int := if c.right then (if c.st == 3 then 3600 else if c.st == 4 then 60 else if c.st == 6 then 1 else 30) else 0
def beg (f sq win sz : Int) : Cn × Int :=
 if inB15 win && inB15 sz then (if bits .and .i64 f 23 == 2 && sz == 0 then (⟨1, (sq + 1) % 4294967296, 0, (sq + 1) % 4294967296, win % 4294967296, true, false, false, false⟩, 0) else (cn0, 23)) else (cn0, 1)
theorem stOf_cases (a b : Bool) : stOf a b = 3 ∨ stOf a b = 4 ∨ stOf a b = 5 := by cases a <;> cases b <;> simp [stOf]
theorem right_known {c : Cn} (h : c.right = true) : c.k0 = true := by
 unfold Cn.right at h
 repeat' split at h
 all_goals simp_all
theorem right_open {c : Cn} (h : c.right = true) (h1 : (c.st == 1) = false) (h6 : (c.st == 6) = false) : c.k0 = true ∧ c.k1 = true := by
 unfold Cn.right at h
 repeat' split at h
 all_goals simp_all
theorem right_syn {c : Cn} (h : c.right = true) (h1 : (c.st == 1) = true) : c.k0 = true ∧ c.k1 = false ∧ c.d0 = false ∧ c.d1 = false := by
 unfold Cn.right at h
 rw [h1] at h
 simpa using h
theorem take_right {c d : Cn} {s : Bool} {g : Gt} (h : c.right = true) (ht : c.take s g = some d) : d.right = true ∧ ((c.st == 6) = true → flB g.fl 4 = true ∧ d.st = 6) := by
 unfold Cn.take at ht
 cases h4 : flB g.fl 4 with
 | true =>
  rw [h4] at ht
  simp only [if_true] at ht
  unfold Cn.rst at ht
  split at ht
  ·simp only [Option.some.injEq] at ht
   subst ht
   exact ⟨by simp [Cn.right, right_known h], fun _ => ⟨rfl, rfl⟩⟩
  ·cases ht
 | false =>
  rw [h4] at ht
  cases h6 : (c.st == 6) with
  | true => simp [h6] at ht
  | false =>
   refine ⟨?_, fun e => by cases e⟩
   simp only [h6, Bool.false_eq_true, if_false] at ht
   cases h2 : flB g.fl 2 with
   | true =>
    simp only [h2, if_true] at ht
    unfold Cn.syn at ht
    split at ht
    ·cases ht
    ·split at ht
     ·split at ht
      ·simp only [Option.some.injEq] at ht; subst ht; exact h
      ·cases ht
     ·split at ht
      ·cases ht
      ·split at ht
       ·rename_i h1
        simp only [Option.some.injEq] at ht
        subst ht
        obtain ⟨q0, q1, q2, q3⟩ := right_syn h h1
        simp [Cn.right, Cn.ans, q0, q2, q3]
       ·split at ht
        ·simp only [Option.some.injEq] at ht; subst ht; exact h
        ·cases ht
   | false =>
    simp only [h2, Bool.false_eq_true, if_false] at ht
    split at ht
    ·cases ht
    ·rename_i hn
     have h1 : (c.st == 1) = false := by
      cases q : (c.st == 1) with
      | false => rfl
      | true => simp [q] at hn
     unfold Cn.byt at ht
     split at ht
     ·simp only [Option.some.injEq] at ht
      subst ht
      obtain ⟨q0, q1⟩ := right_open h h1 h6
      unfold Cn.right Cn.byR
      simp only [q0, q1, Bool.true_and, beq_self_eq_true]
      rcases stOf_cases (if (!s && flB g.fl 1) = true then true else c.d0) (if (s && flB g.fl 1) = true then true else c.d1) with e | e | e <;> rw [e] <;> simp
     ·cases ht
theorem stp_ok {c d : Cn} {s : Bool} {g : Gt} (h : c.stp s g = (d, 0)) : c.take s g = some d := by
 unfold Cn.stp at h
 split at h
 ·cases ht : c.take s g with
  | none => rw [ht] at h; simp at h
  | some x => rw [ht] at h; simp at h; rw [h]
 ·simp at h
theorem step_right {c d : Cn} {i : Int} {g : Gt} (h : c.right = true) (hs : c.step i g = (d, 0)) : d.right = true ∧ ((c.st == 6) = true → flB g.fl 4 = true ∧ d.st = 6) := by
 unfold Cn.step at hs
 split at hs
 ·exact take_right h (stp_ok hs)
 ·split at hs
  ·exact take_right h (stp_ok hs)
  ·simp at hs
/-- Numbers within 32 bits. -/
structure Cn.in32 (c : Cn) : Prop where
 n0 : 0 ≤ c.n0 ∧ c.n0 < 4294967296
 n1 : 0 ≤ c.n1 ∧ c.n1 < 4294967296
 e0 : 0 ≤ c.e0 ∧ c.e0 < 4294967296
 e1 : 0 ≤ c.e1 ∧ c.e1 < 4294967296
structure Gt.in32 (g : Gt) : Prop where
 sq : 0 ≤ g.sq ∧ g.sq < 4294967296
 ak : 0 ≤ g.ak ∧ g.ak < 4294967296
def cmp3 (x y : Int) : Int := if x < y then -1 else if y < x then 1 else 0
def Ad.order (a b : Ad) : Int := if cmp3 a.fam b.fam = 0 then (if cmp3 a.hi b.hi = 0 then cmp3 a.lo b.lo else cmp3 a.hi b.hi) else cmp3 a.fam b.fam
theorem rright_any (f h l : Int) (w : World) (hl : 0 ≤ l) :
  Calls Try.prog 81 #[.agg #[.int .i64 f, .int .u64 h, .int .u64 l]] w fun e w' => e = .returned (.bool (Ad.right ⟨f, h, l⟩)) ∧ w' = w.alloc (.cells #[.int .i64 f, .int .u64 h, .int .u64 l] 24) := by
 go_enter Try.func81, Try.ntmps81
 by_cases h6 : f = 6
 ·subst h6
  go_wp2
  go_ret
  exact ⟨by simp [Ad.right], rfl⟩
 ·by_cases h4 : f = 4
  ·subst h4
   by_cases hh : h = 0
   ·subst hh
    go_wp2
    go_ret
    refine ⟨?_, rfl⟩
    have e : decide (l < 4294967296) = (l / 4294967296 == 0) := by
     rw [Bool.eq_iff_iff]; simp; omega
    simp [Ad.right, e]
   ·go_wp2
    go_ret
    exact ⟨by simp [Ad.right, hh], rfl⟩
  ·go_wp2
   go_ret
   exact ⟨by simp [Ad.right, h4, h6], rfl⟩
/-- A rule, as its numbers. -/
structure Rl where
 fr : Int
 tz : Int
 s : Ad
 sn : Int
 d : Ad
 dn : Int
 pr : Int
 sl : Int
 sh : Int
 dl : Int
 dh : Int
 ac : Int
 he : Int
abbrev Rl.v (r : Rl) : Array Value := #[.int .i64 r.fr, .int .i64 r.tz, .int .i64 r.s.fam, .int .u64 r.s.hi, .int .u64 r.s.lo, .int .i64 r.sn, .int .i64 r.d.fam, .int .u64 r.d.hi, .int .u64 r.d.lo, .int .i64 r.dn, .int .i64 r.pr, .int .i64 r.sl, .int .i64 r.sh, .int .i64 r.dl, .int .i64 r.dh, .int .i64 r.ac, .int .i64 r.he]
structure Rl.ok (r : Rl) : Prop where
 s : r.s.ok
 d : r.d.ok
/-- A key, as its numbers. -/
structure Ky where
 fr : Int
 tz : Int
 s : Ad
 d : Ad
 pr : Int
 sp : Int
 dp : Int
abbrev Ky.v (k : Ky) : Array Value := #[.int .i64 k.fr, .int .i64 k.tz, .int .i64 k.s.fam, .int .u64 k.s.hi, .int .u64 k.s.lo, .int .i64 k.d.fam, .int .u64 k.d.hi, .int .u64 k.d.lo, .int .i64 k.pr, .int .i64 k.sp, .int .i64 k.dp]
structure Ky.ok (k : Ky) : Prop where
 s : k.s.ok
 d : k.d.ok
def inB (n lo hi : Int) : Bool := decide (lo ≤ n) && decide (n ≤ hi)
def zeroP (a : Ad) (n : Int) : Bool := a.fam == 0 && (a.hi == 0 && (a.lo == 0 && n == 0))
def netB (a : Ad) (n : Int) : Bool := zeroP a n || a.rightPrefix n
def hasB (a : Ad) (n : Int) (x : Ad) : Bool := zeroP a n || a.has n x
def portB (lo hi : Int) : Bool := decide (0 ≤ lo) && (decide (lo ≤ hi) && decide (hi ≤ 65535))
def Ky.right (k : Ky) : Bool := inB k.fr 0 15 && (inB k.tz 0 15 && (k.s.right && (k.d.right && ((k.s.fam == k.d.fam) && (inB k.pr 0 255 && (inB k.sp 0 65535 && inB k.dp 0 65535))))))
def Rl.right (r : Rl) : Bool := inB r.fr (-1) 15 && (inB r.tz (-1) 15 && (netB r.s r.sn && (netB r.d r.dn && (inB r.pr 0 255 && (portB r.sl r.sh && (portB r.dl r.dh && ((r.ac == 0 || r.ac == 1) && inB r.he 0 3)))))))
/-- Are the parts of a key those that the rule asks for? -/
def Rl.asks (r : Rl) (k : Ky) : Bool := (decide (r.fr < 0) || r.fr == k.fr) && ((decide (r.tz < 0) || r.tz == k.tz) && (hasB r.s r.sn k.s && (hasB r.d r.dn k.d && ((r.pr == 0 || r.pr == k.pr) && (inB k.sp r.sl r.sh && inB k.dp r.dl r.dh)))))
end Go.Proofs.Ytfiembbmgdmagaa
namespace Go.Proofs.Ytfiembbmgdmagaa
open Go.RowKit Go.ChangeShapes Go.WideShapes Go.ChangeAt
set_option linter.unusedVariables false
set_option linter.unusedSimpArgs false
set_option linter.constructorNameAsVariable false
set_option maxRecDepth 100000
theorem one_tc {x y : Value} (h : [x] = [y]) : x = y := (List.cons.inj h).1
theorem two_tc {cs : List Value} (h : cs.length = 2) : ∃ a b, cs = [a, b] := by
 match cs, h with
 | [a, b], _ => exact ⟨a, b, rfl⟩
theorem nine_tc {cs : List Value} (h : cs.length = 9) : ∃ a b c d e f g i j, cs = [a, b, c, d, e, f, g, i, j] := by
 match cs, h with
 | [a, b, c, d, e, f, g, i, j], _ => exact ⟨a, b, c, d, e, f, g, i, j, rfl⟩
theorem u32_tc {x : Int} (w : (Lit.int .u32 x).wf = true) : 0 ≤ x ∧ x < 4294967296 := by
 simp [Lit.wf, IntKind.min, IntKind.max, IntKind.signed, IntKind.bits] at w; omega
theorem i64_tc {x : Int} (w : (Lit.int .i64 x).wf = true) : -9223372036854775808 ≤ x ∧ x ≤ 9223372036854775807 := by
 simp [Lit.wf, IntKind.min, IntKind.max, IntKind.signed, IntKind.bits] at w; omega
theorem pairU_tc {H : Type} {enc : TypeId × Value → H} {W : World} {n : Nat} {x y : Value} {d : DataW H × List MemPlace}
  (h : DataW.trod enc Try.prog W 0 (fun _ => true) true n 28 [x, y] = some d) : ∃ a b, x = .int .u32 a ∧ y = .int .u32 b ∧ (0 ≤ a ∧ a < 4294967296) ∧ (0 ≤ b ∧ b < 4294967296) := by
 have cI : Try.prog.cellsOf 27 = 1 := by kernel_rfl
 obtain ⟨xs, m, _, hx, _, hlen, hf⟩ := DataW.trod_array Try.underlying28 h
 obtain ⟨y0, y1, rfl⟩ : ∃ y0 y1, xs = [y0, y1] := by
  match xs, hlen with
  | [y0, y1], _ => exact ⟨y0, y1, rfl⟩
 have h0 : DataW.trod enc Try.prog W 0 (fun _ => true) true m 27 (([x, y].drop (0 * Try.prog.cellsOf 27)).take (Try.prog.cellsOf 27)) = some y0 := hf 0 (by decide)
 have h1 : DataW.trod enc Try.prog W 0 (fun _ => true) true m 27 (([x, y].drop (1 * Try.prog.cellsOf 27)).take (Try.prog.cellsOf 27)) = some y1 := hf 1 (by decide)
 rw [cI] at h0 h1
 obtain ⟨a, e0, _, w0⟩ := DataW.trod_int Try.underlying27 (show DataW.trod enc Try.prog W 0 (fun _ => true) true m 27 [x] = some y0 from h0)
 obtain ⟨b, e1, _, w1⟩ := DataW.trod_int Try.underlying27 (show DataW.trod enc Try.prog W 0 (fun _ => true) true m 27 [y] = some y1 from h1)
 exact ⟨a, b, one_tc e0, one_tc e1, u32_tc w0, u32_tc w1⟩
theorem pairB_tc {H : Type} {enc : TypeId × Value → H} {W : World} {n : Nat} {x y : Value} {d : DataW H × List MemPlace}
  (h : DataW.trod enc Try.prog W 0 (fun _ => true) true n 29 [x, y] = some d) : ∃ a b, x = .bool a ∧ y = .bool b := by
 have cI : Try.prog.cellsOf 4 = 1 := by kernel_rfl
 obtain ⟨xs, m, _, hx, _, hlen, hf⟩ := DataW.trod_array Try.underlying29 h
 obtain ⟨y0, y1, rfl⟩ : ∃ y0 y1, xs = [y0, y1] := by
  match xs, hlen with
  | [y0, y1], _ => exact ⟨y0, y1, rfl⟩
 have h0 : DataW.trod enc Try.prog W 0 (fun _ => true) true m 4 (([x, y].drop (0 * Try.prog.cellsOf 4)).take (Try.prog.cellsOf 4)) = some y0 := hf 0 (by decide)
 have h1 : DataW.trod enc Try.prog W 0 (fun _ => true) true m 4 (([x, y].drop (1 * Try.prog.cellsOf 4)).take (Try.prog.cellsOf 4)) = some y1 := hf 1 (by decide)
 rw [cI] at h0 h1
 obtain ⟨a, e0, _⟩ := DataW.trod_bool Try.underlying4 (show DataW.trod enc Try.prog W 0 (fun _ => true) true m 4 [x] = some y0 from h0)
 obtain ⟨b, e1, _⟩ := DataW.trod_bool Try.underlying4 (show DataW.trod enc Try.prog W 0 (fun _ => true) true m 4 [y] = some y1 from h1)
 exact ⟨a, b, one_tc e0, one_tc e1⟩
set_option maxRecDepth 100000 in
theorem conn_cells {H : Type} {enc : TypeId × Value → H} {W : World} {fuel : Nat} {cs : List Value} {y : DataW H × List MemPlace} (hf0 : DataW.trod enc Try.prog W 0 (fun _ => true) true fuel 31 cs = some y) :
  ∃ q : Cn, cs = q.v.toList ∧ q.in32 := by
 have cc : Try.prog.cellsOf 31 = 9 := by kernel_rfl
 have cI : Try.prog.cellsOf 3 = 1 := by kernel_rfl
 have cU : Try.prog.cellsOf 28 = 2 := by kernel_rfl
 have cB : Try.prog.cellsOf 29 = 2 := by kernel_rfl
 obtain ⟨xs, n, _, hx, hl, hlen, hf⟩ := DataW.trod_struct Try.underlying31 hf0
 obtain ⟨v0, v1, v2, v3, v4, v5, v6, v7, v8, rfl⟩ := nine_tc (hl.trans cc)
 obtain ⟨y0, y1, y2, y3, y4, rfl⟩ : ∃ y0 y1 y2 y3 y4, xs = [y0, y1, y2, y3, y4] := by
  match xs, hlen with
  | [y0, y1, y2, y3, y4], _ => exact ⟨y0, y1, y2, y3, y4, rfl⟩
 have h0 : DataW.trod enc Try.prog W 0 (fun _ => true) true n 3 ((([v0, v1, v2, v3, v4, v5, v6, v7, v8] : List Value).drop 0).take (Try.prog.cellsOf 3)) = some y0 := hf 0 _ rfl
 have h1 : DataW.trod enc Try.prog W 0 (fun _ => true) true n 28 ((([v0, v1, v2, v3, v4, v5, v6, v7, v8] : List Value).drop 1).take (Try.prog.cellsOf 28)) = some y1 := hf 1 _ rfl
 have h2 : DataW.trod enc Try.prog W 0 (fun _ => true) true n 28 ((([v0, v1, v2, v3, v4, v5, v6, v7, v8] : List Value).drop 3).take (Try.prog.cellsOf 28)) = some y2 := hf 2 _ rfl
 have h3 : DataW.trod enc Try.prog W 0 (fun _ => true) true n 29 ((([v0, v1, v2, v3, v4, v5, v6, v7, v8] : List Value).drop 5).take (Try.prog.cellsOf 29)) = some y3 := hf 3 _ rfl
 have h4 : DataW.trod enc Try.prog W 0 (fun _ => true) true n 29 ((([v0, v1, v2, v3, v4, v5, v6, v7, v8] : List Value).drop 7).take (Try.prog.cellsOf 29)) = some y4 := hf 4 _ rfl
 simp only [cI, cU, cB, List.drop_zero, List.drop_succ_cons, List.take_succ_cons, List.take_zero] at h0 h1 h2 h3 h4
 obtain ⟨st, e0, _, _⟩ := DataW.trod_int Try.underlying3 h0
 obtain rfl := one_tc e0
 obtain ⟨a, b, rfl, rfl, r1, r2⟩ := pairU_tc h1
 obtain ⟨c, d, rfl, rfl, r3, r4⟩ := pairU_tc h2
 obtain ⟨p, q, rfl, rfl⟩ := pairB_tc h3
 obtain ⟨s, t, rfl, rfl⟩ := pairB_tc h4
 exact ⟨⟨st, a, b, c, d, p, q, s, t⟩, rfl, r1, r2, r3, r4⟩
/-- A segment of a side. -/
structure Tlk where
 i : Int
 g : Gt
abbrev Tlk.v (q : Tlk) : Array Value := #[.int .i64 q.i, .int .i64 q.g.fl, .int .i64 q.g.win, .int .i64 q.g.sz, .int .u32 q.g.sq, .int .u32 q.g.ak]
structure Tlk.ok (w : World) (q : Tlk) : Prop where
 i : -9223372036854775808 ≤ q.i ∧ q.i ≤ 9223372036854775807
 g : q.g.in32
theorem okWide_arr_tc {W : World} {base : Nat} {v : Value} {P : Program} {t e : TypeId} {n : Nat} (ht : P.underlying t = some (.array n e)) (h : Value.okWide P W .any base t v) : ∃ cs, v = .agg cs ∧ cs.size = P.cellsOf t := by
 simp only [Value.okWide, ht] at h
 obtain ⟨cs, h1, h2, _⟩ := h
 exact ⟨cs, h1, h2⟩
end Go.Proofs.Ytfiembbmgdmagaa
namespace Go.Proofs.Ytfiembbmgdmagaa
open Go.RowKit
set_option linter.unusedVariables false
set_option linter.unusedSimpArgs false
theorem blk_two (w : World) (X : Obj) (cs : Array Value) (t : TypeId) : Blk ((w.alloc X).alloc (.cells cs t)) (w.heap.size + 1) t cs := by
 have := blk_new (w.alloc X) cs t
 rwa [World.size_alloc] at this
theorem bel_two (w : World) (X Y : Obj) : Below w.heap.size w ((w.alloc X).alloc Y) := ((Below.refl _ _).alloc (Nat.le_refl _) _).alloc (by simp) _
/-- A way: its family, its protocol, its ends and their ports. -/
structure Wy where
 fam : Int
 pr : Int
 s : Ad
 d : Ad
 sp : Int
 dp : Int
abbrev Wy.v (t : Wy) : Array Value := #[.int .i64 t.fam, .int .i64 t.pr, .int .i64 t.s.fam, .int .u64 t.s.hi, .int .u64 t.s.lo, .int .i64 t.d.fam, .int .u64 t.d.hi, .int .u64 t.d.lo, .int .i64 t.sp, .int .i64 t.dp]
structure Wy.ok (t : Wy) : Prop where
 s : t.s.ok
 d : t.d.ok
def Wy.rev (t : Wy) : Wy := ⟨t.fam, t.pr, t.d, t.s, t.dp, t.sp⟩
theorem Wy.ok_rev {t : Wy} (h : t.ok) : t.rev.ok := ⟨h.d, h.s⟩
def sideB (f : Int) (a : Ad) (p : Int) : Bool := a.fam == f && (a.right && (decide (0 ≤ p) && decide (p ≤ 65535)))
/-- The name of a protocol. -/
def nameB (f p : Int) : List UInt8 := if p = 6 then [116, 99, 112] else if p = 17 then [117, 100, 112] else if p = 1 ∧ f = 4 then [105, 99, 109, 112] else if p = 58 ∧ f = 6 then [105, 99, 109, 112, 54] else []
def Wy.right (t : Wy) : Bool := sideB t.fam t.s t.sp && (sideB t.fam t.d t.dp && (nameB t.fam t.pr != []))
theorem sideB_iff {f : Int} {a : Ad} {p : Int} : sideB f a p = true ↔ a.fam = f ∧ a.right = true ∧ 0 ≤ p ∧ p ≤ 65535 := by simp [sideB]
theorem Wy.right_iff {t : Wy} : t.right = true ↔ sideB t.fam t.s t.sp = true ∧ sideB t.fam t.d t.dp = true ∧ nameB t.fam t.pr ≠ [] := by simp [Wy.right]
/-- The order of two ways. -/
def Wy.order (a b : Wy) : Int :=
 if a.fam = b.fam then (if a.pr = b.pr then (if a.s.same b.s then (if a.d.same b.d then (if a.sp = b.sp then cmp3 a.dp b.dp else cmp3 a.sp b.sp) else a.d.order b.d) else a.s.order b.s) else cmp3 a.pr b.pr) else cmp3 a.fam b.fam
def Wy.eqB (a b : Wy) : Bool := a.fam == b.fam && (a.pr == b.pr && ((a.s.fam == b.s.fam && (a.s.hi == b.s.hi && a.s.lo == b.s.lo)) && ((a.d.fam == b.d.fam && (a.d.hi == b.d.hi && a.d.lo == b.d.lo)) && (a.sp == b.sp && a.dp == b.dp))))
theorem Wy.eqB_iff (a b : Wy) : a.eqB b = true ↔ a = b := by
 obtain ⟨f, pr, ⟨sf, sh, sl⟩, ⟨df, dh, dl⟩, sp, dp⟩ := a
 obtain ⟨f', pr', ⟨sf', sh', sl'⟩, ⟨df', dh', dl'⟩, sp', dp'⟩ := b
 simp [Wy.eqB]
/-- A flow. -/
structure Fl where
 w : Wy
 c : Cn
 ends : Int
 help : Int
 both : Bool
abbrev Fl.v (f : Fl) : Array Value := #[.int .i64 f.w.fam, .int .i64 f.w.pr, .int .i64 f.w.s.fam, .int .u64 f.w.s.hi, .int .u64 f.w.s.lo, .int .i64 f.w.d.fam, .int .u64 f.w.d.hi, .int .u64 f.w.d.lo, .int .i64 f.w.sp, .int .i64 f.w.dp, .int .i64 f.c.st, .int .u32 f.c.n0, .int .u32 f.c.n1, .int .u32 f.c.e0, .int .u32 f.c.e1, .bool f.c.k0, .bool f.c.k1, .bool f.c.d0, .bool f.c.d1, .int .i64 f.ends, .int .i64 f.help, .bool f.both]
/-- A segment. -/
structure Sm where
 w : Wy
 fl : Int
 sq : Int
 ak : Int
 win : Int
 ty : Int
 co : Int
 er : Bool
 inn : Wy
 da : Option Addr
 dn : Nat
 dc : Nat
abbrev Sm.v (s : Sm) : Array Value := #[.int .i64 s.w.fam, .int .i64 s.w.pr, .int .i64 s.w.s.fam, .int .u64 s.w.s.hi, .int .u64 s.w.s.lo, .int .i64 s.w.d.fam, .int .u64 s.w.d.hi, .int .u64 s.w.d.lo, .int .i64 s.w.sp, .int .i64 s.w.dp, .int .i64 s.fl, .int .u32 s.sq, .int .u32 s.ak, .int .i64 s.win, .int .i64 s.ty, .int .i64 s.co, .bool s.er, .int .i64 s.inn.fam, .int .i64 s.inn.pr, .int .i64 s.inn.s.fam, .int .u64 s.inn.s.hi, .int .u64 s.inn.s.lo, .int .i64 s.inn.d.fam, .int .u64 s.inn.d.hi, .int .u64 s.inn.d.lo, .int .i64 s.inn.sp, .int .i64 s.inn.dp, .slice s.da s.dn s.dc]
abbrev wy0 : Wy := ⟨0, 0, ⟨0, 0, 0⟩, ⟨0, 0, 0⟩, 0, 0⟩
def fl0 : Fl := ⟨wy0, cn0, 0, 0, false⟩
/-- What of a segment the stream asks for. -/
def Sm.g (s : Sm) : Gt := ⟨s.fl, s.win, s.dn, s.sq, s.ak⟩
def nowB (n : Int) : Bool := decide (0 ≤ n) && decide (n ≤ 4611686018427384304)
def hlpB (h : Int) : Bool := decide (0 ≤ h) && decide (h ≤ 3)
def endB (n : Int) : Bool := decide (0 ≤ n) && decide (n ≤ 4611686018427387904)
def Cn.zB (c : Cn) : Bool := c.st == 0 && ((c.n0 == 0 && c.n1 == 0) && ((c.e0 == 0 && c.e1 == 0) && ((c.k0 == false && c.k1 == false) && (c.d0 == false && c.d1 == false))))
def Fl.cnB (f : Fl) : Bool := if f.w.pr == 6 then f.c.right else f.c.zB
def Fl.right (f : Fl) : Bool := f.w.right && (endB f.ends && (hlpB f.help && f.cnB))
def Fl.life (f : Fl) : Int := if f.w.pr == 6 then f.c.life else if f.w.pr == 17 then (if f.both then 180 else 30) else 10
/-- The time of a flow behind a packet that came now. -/
def Fl.keep (f : Fl) (now : Int) : Fl := { f with ends := now + f.life }
/-- The type of an echo of a side. -/
def ecT (pr : Int) (side : Bool) : Int := if pr == 58 then (if side then 129 else 128) else (if side then 0 else 8)
def Sm.ec (s : Sm) (side : Bool) : Bool := s.ty == ecT s.w.pr side && s.co == 0
def Sm.beg (s : Sm) : Cn × Int := if s.w.pr == 6 then Go.Proofs.Ytfiembbmgdmagaa.beg s.fl s.sq s.win s.dn else if s.w.pr == 17 || s.ec false then (cn0, 0) else (cn0, 23)
def startF (s : Sm) (now help : Int) : Fl × Int :=
 if s.w.right && (nowB now && hlpB help) then (if s.beg.2 == 0 then (Fl.keep ⟨s.w, s.beg.1, 0, help, false⟩ now, 0) else (fl0, s.beg.2)) else (fl0, 1)
def Fl.way (f : Fl) (side : Bool) : Wy := if side then f.w.rev else f.w
def Sm.stp (s : Sm) (c : Cn) (side : Bool) : Cn × Int := if s.w.pr == 6 then c.step (if side then 1 else 0) s.g else if s.w.pr == 17 || s.ec side then (c, 0) else (cn0, 23)
def Fl.goS (f : Fl) (side : Bool) (s : Sm) (now : Int) : Fl × Int :=
 if f.right && nowB now then
  (if s.w.eqB (f.way side) then (if (s.stp f.c side).2 == 0 then (Fl.keep ⟨f.w, (s.stp f.c side).1, f.ends, f.help, f.both || side⟩ now, 0) else (fl0, (s.stp f.c side).2)) else (fl0, 23))
 else (fl0, 1)
def Fl.go (f : Fl) (side : Int) (s : Sm) (now : Int) : Fl × Int := if side == 0 then f.goS false s now else if side == 1 then f.goS true s now else (fl0, 1)
theorem right_pr {t : Wy} (h : t.right = true) : t.pr = 6 ∨ t.pr = 17 ∨ (t.pr = 1 ∧ t.fam = 4) ∨ (t.pr = 58 ∧ t.fam = 6) := by
 have := (Wy.right_iff.1 h).2.2
 unfold nameB at this
 by_cases h1 : t.pr = 6
 ·exact .inl h1
 by_cases h2 : t.pr = 17
 ·exact .inr (.inl h2)
 by_cases h3 : t.pr = 1 ∧ t.fam = 4
 ·exact .inr (.inr (.inl h3))
 by_cases h4 : t.pr = 58 ∧ t.fam = 6
 ·exact .inr (.inr (.inr h4))
 rw [if_neg h1, if_neg h2, if_neg h3, if_neg h4] at this
 exact absurd rfl this
theorem life_bd (f : Fl) (h : f.cnB = true) : 1 ≤ f.life ∧ f.life ≤ 3600 := by
 unfold Fl.cnB at h
 unfold Fl.life Cn.life
 cases h6 : (f.w.pr == 6)
 ·simp only [Bool.false_eq_true, if_false]
  (repeat' split) <;> omega
 ·rw [h6] at h
  simp only [if_true] at h
  rw [h]
  simp only [if_true]
  (repeat' split) <;> omega
theorem beg_right {fl sq win sz : Int} (h : (beg fl sq win sz).2 = 0) : (beg fl sq win sz).1.right = true := by
 unfold beg at h ⊢
 split
 ·split
  ·rfl
  ·rename_i h1 h2; rw [if_pos h1, if_neg h2] at h; simp at h
 ·rename_i h1; rw [if_neg h1] at h; simp at h
/-- All numbers of a way lie in their kinds. -/
structure Wy.kf (t : Wy) : Prop where
 ok : t.ok
 fam : -9223372036854775808 ≤ t.fam ∧ t.fam ≤ 9223372036854775807
 pr : -9223372036854775808 ≤ t.pr ∧ t.pr ≤ 9223372036854775807
 sp : -9223372036854775808 ≤ t.sp ∧ t.sp ≤ 9223372036854775807
 dp : -9223372036854775808 ≤ t.dp ∧ t.dp ≤ 9223372036854775807
structure Ft where
 most : Int
 now : Int
 L : List Fl
def atF (w : Wy) (L : List Fl) : Option Fl := L.find? fun f => f.w.eqB w
def insF (f : Fl) : List Fl → List Fl
 | [] => [f]
 | g :: r => if g.w.order f.w < 0 then g :: insF f r else f :: g :: r
def setF (f : Fl) (L : List Fl) : List Fl := L.map fun g => if g.w.eqB f.w then f else g
def delF (w : Wy) (L : List Fl) : List Fl := L.filter fun g => !g.w.eqB w
def Ft.put (s : Ft) (f : Fl) : Ft × Int :=
 if !(f.right && decide (s.now < f.ends)) then (s, 1)
 else if (atF f.w s.L).isSome then ({ s with L := setF f s.L }, 0)
 else if (atF f.w.rev s.L).isSome then (s, 15)
 else if s.most ≤ s.L.length then (s, 12)
 else ({ s with L := insF f s.L }, 0)
def Ft.drop (s : Ft) (w : Wy) : Ft × Bool :=
 if (atF w s.L).isSome then ({ s with L := delF w s.L }, true)
 else if (atF w.rev s.L).isSome then ({ s with L := delF w.rev s.L }, true)
 else (s, false)
end Go.Proofs.Ytfiembbmgdmagaa
namespace Go.Proofs.Ytfiembbmgdmagaa
open Go.ChangeShapes Go.WideShapes Go.ChangeAt Go.RowKit Go.Joins
set_option linter.unusedVariables false
set_option linter.constructorNameAsVariable false
set_option maxRecDepth 100000
theorem ad_ok {f h l : Int} (w0 : (Lit.int .i64 f).wf = true) (w1 : (Lit.int .u64 h).wf = true) (w2 : (Lit.int .u64 l).wf = true) : Ad.ok ⟨f, h, l⟩ := by
 refine ⟨?_, ?_, ?_⟩
 ·simpa [Lit.wf, IntKind.min, IntKind.max, IntKind.signed, IntKind.bits] using w0
 ·simpa [Lit.wf, IntKind.min, IntKind.max, IntKind.signed, IntKind.bits] using w1
 ·simpa [Lit.wf, IntKind.min, IntKind.max, IntKind.signed, IntKind.bits] using w2
theorem list3 {cs : List Value} (h : cs.length = 3) : ∃ a b c, cs = [a, b, c] := by
 match cs, h with
 | [a, b, c], _ => exact ⟨a, b, c, rfl⟩
theorem addr_cells {H : Type} {enc : TypeId × Value → H} {W : World} {n : Nat} {cs : List Value} {y : DataW H × List MemPlace}
  (h : DataW.trod enc Try.prog W 0 (fun _ => true) true n 24 cs = some y) : ∃ f h l, cs = [.int .i64 f, .int .u64 h, .int .u64 l] ∧ Ad.ok ⟨f, h, l⟩ := by
 obtain ⟨y0, y1, y2, k, _, hl, h0, h1, h2⟩ := Go.Deep.trod_struct3 Try.underlying24 h
 have c24 : Try.prog.cellsOf 24 = 3 := by kernel_rfl
 have c3 : Try.prog.cellsOf 3 = 1 := by kernel_rfl
 have c22 : Try.prog.cellsOf 22 = 1 := by kernel_rfl
 rw [c24] at hl
 obtain ⟨v0, v1, v2, rfl⟩ := list3 hl
 simp only [c3, c22] at h0 h1 h2
 obtain ⟨f, e0, _, w0⟩ := DataW.trod_int Try.underlying3 h0
 obtain ⟨h, e1, _, w1⟩ := DataW.trod_int Try.underlying22 h1
 obtain ⟨l, e2, _, w2⟩ := DataW.trod_int Try.underlying22 h2
 simp only [List.drop_zero, List.drop_succ_cons, List.take_succ_cons, List.take_zero, List.cons.injEq, and_true] at e0 e1 e2
 subst e0 e1 e2
 exact ⟨_, _, _, rfl, ad_ok w0 w1 w2⟩
end Go.Proofs.Ytfiembbmgdmagaa
namespace Go.Proofs.Ytfiembbmgdmagaa
open Go.RowKit Go.ChangeShapes Go.WideShapes Go.ChangeAt
set_option linter.unusedVariables false
set_option linter.unusedSimpArgs false
set_option linter.constructorNameAsVariable false
/-- All numbers of a flow lie in their kinds. -/
structure Fl.kf (f : Fl) : Prop where
 w : f.w.kf
 ends : -9223372036854775808 ≤ f.ends ∧ f.ends ≤ 9223372036854775807
structure Ac where
 kd : Int
 nw : Int
 f : Fl
abbrev Ac.v (q : Ac) : Array Value := #[.int .i64 q.kd, .int .i64 q.nw, .int .i64 q.f.w.fam, .int .i64 q.f.w.pr, .int .i64 q.f.w.s.fam, .int .u64 q.f.w.s.hi, .int .u64 q.f.w.s.lo, .int .i64 q.f.w.d.fam, .int .u64 q.f.w.d.hi, .int .u64 q.f.w.d.lo, .int .i64 q.f.w.sp, .int .i64 q.f.w.dp, .int .i64 q.f.c.st, .int .u32 q.f.c.n0, .int .u32 q.f.c.n1, .int .u32 q.f.c.e0, .int .u32 q.f.c.e1, .bool q.f.c.k0, .bool q.f.c.k1, .bool q.f.c.d0, .bool q.f.c.d1, .int .i64 q.f.ends, .int .i64 q.f.help, .bool q.f.both]
structure Ac.ok (q : Ac) : Prop where
 kd : -9223372036854775808 ≤ q.kd ∧ q.kd ≤ 9223372036854775807
 nw : -9223372036854775808 ≤ q.nw ∧ q.nw ≤ 9223372036854775807
 f : q.f.kf
theorem slice_fw {H : Type} {enc : TypeId × Value → H} {W : World} {fuel : Nat} {cs : List Value} {y : DataW H × List MemPlace} (hf : DataW.trod enc Try.prog W 0 (fun _ => true) true fuel 34 cs = some y) : ∃ a n c, cs = [.slice a n c] := by
 rcases Deep.open_slice Try.underlying34 hf with ⟨hcs, _⟩ | ⟨x, l, c, m, n, D, Pl, hcs, _⟩
 ·exact ⟨_, _, _, hcs⟩
 ·exact ⟨_, _, _, hcs⟩
theorem ls_wayK {cs : List Value} (h : cs.length = 10) : ∃ v0 v1 v2 v3 v4 v5 v6 v7 v8 v9, cs = [v0, v1, v2, v3, v4, v5, v6, v7, v8, v9] := by
 match cs, h with
 | [v0, v1, v2, v3, v4, v5, v6, v7, v8, v9], _ => exact ⟨v0, v1, v2, v3, v4, v5, v6, v7, v8, v9, rfl⟩
theorem ly_wayK {α : Type} {cs : List α} (h : cs.length = 6) : ∃ y0 y1 y2 y3 y4 y5, cs = [y0, y1, y2, y3, y4, y5] := by
 match cs, h with
 | [y0, y1, y2, y3, y4, y5], _ => exact ⟨y0, y1, y2, y3, y4, y5, rfl⟩
set_option maxRecDepth 100000 in
set_option maxHeartbeats 4000000 in
theorem wayK_cells {H : Type} {enc : TypeId × Value → H} {W : World} {fuel : Nat} {cs : List Value} {y : DataW H × List MemPlace} (hf0 : DataW.trod enc Try.prog W 0 (fun _ => true) true fuel 26 cs = some y) :
  ∃ q : Wy, cs = q.v.toList ∧ q.kf := by
 have cc : Try.prog.cellsOf 26 = 10 := by kernel_rfl
 have c_0 : Try.prog.cellsOf 3 = 1 := by kernel_rfl
 have c_1 : Try.prog.cellsOf 24 = 3 := by kernel_rfl
 obtain ⟨xs, n, _, hx, hl, hlen, hf⟩ := DataW.trod_struct Try.underlying26 hf0
 obtain ⟨v0, v1, v2, v3, v4, v5, v6, v7, v8, v9, rfl⟩ := ls_wayK (hl.trans cc)
 obtain ⟨y0, y1, y2, y3, y4, y5, rfl⟩ := ly_wayK hlen
 have h0 : DataW.trod enc Try.prog W 0 (fun _ => true) true n 3 ((([v0, v1, v2, v3, v4, v5, v6, v7, v8, v9] : List Value).drop 0).take (Try.prog.cellsOf 3)) = some y0 := hf 0 _ rfl
 have h1 : DataW.trod enc Try.prog W 0 (fun _ => true) true n 3 ((([v0, v1, v2, v3, v4, v5, v6, v7, v8, v9] : List Value).drop 1).take (Try.prog.cellsOf 3)) = some y1 := hf 1 _ rfl
 have h2 : DataW.trod enc Try.prog W 0 (fun _ => true) true n 24 ((([v0, v1, v2, v3, v4, v5, v6, v7, v8, v9] : List Value).drop 2).take (Try.prog.cellsOf 24)) = some y2 := hf 2 _ rfl
 have h3 : DataW.trod enc Try.prog W 0 (fun _ => true) true n 24 ((([v0, v1, v2, v3, v4, v5, v6, v7, v8, v9] : List Value).drop 5).take (Try.prog.cellsOf 24)) = some y3 := hf 3 _ rfl
 have h4 : DataW.trod enc Try.prog W 0 (fun _ => true) true n 3 ((([v0, v1, v2, v3, v4, v5, v6, v7, v8, v9] : List Value).drop 8).take (Try.prog.cellsOf 3)) = some y4 := hf 4 _ rfl
 have h5 : DataW.trod enc Try.prog W 0 (fun _ => true) true n 3 ((([v0, v1, v2, v3, v4, v5, v6, v7, v8, v9] : List Value).drop 9).take (Try.prog.cellsOf 3)) = some y5 := hf 5 _ rfl
 simp only [c_0, c_1, List.drop_zero, List.drop_succ_cons, List.take_succ_cons, List.take_zero] at h0 h1 h2 h3 h4 h5
 obtain ⟨a0, e0, _, w0⟩ := DataW.trod_int Try.underlying3 h0
 obtain rfl := one_tc e0
 obtain ⟨a1, e1, _, w1⟩ := DataW.trod_int Try.underlying3 h1
 obtain rfl := one_tc e1
 obtain ⟨f2, g2, l2, e2, k2⟩ := addr_cells h2
 simp only [List.cons.injEq, and_true] at e2
 obtain ⟨rfl, rfl, rfl⟩ := e2
 obtain ⟨f3, g3, l3, e3, k3⟩ := addr_cells h3
 simp only [List.cons.injEq, and_true] at e3
 obtain ⟨rfl, rfl, rfl⟩ := e3
 obtain ⟨a4, e4, _, w4⟩ := DataW.trod_int Try.underlying3 h4
 obtain rfl := one_tc e4
 obtain ⟨a5, e5, _, w5⟩ := DataW.trod_int Try.underlying3 h5
 obtain rfl := one_tc e5
 exact ⟨⟨a0, a1, ⟨f2, g2, l2⟩, ⟨f3, g3, l3⟩, a4, a5⟩, rfl, ⟨⟨k2, k3⟩, i64_tc w0, i64_tc w1, i64_tc w4, i64_tc w5⟩⟩
theorem ls_flow {cs : List Value} (h : cs.length = 22) : ∃ v0 v1 v2 v3 v4 v5 v6 v7 v8 v9 v10 v11 v12 v13 v14 v15 v16 v17 v18 v19 v20 v21, cs = [v0, v1, v2, v3, v4, v5, v6, v7, v8, v9, v10, v11, v12, v13, v14, v15, v16, v17, v18, v19, v20, v21] := by
 match cs, h with
 | [v0, v1, v2, v3, v4, v5, v6, v7, v8, v9, v10, v11, v12, v13, v14, v15, v16, v17, v18, v19, v20, v21], _ => exact ⟨v0, v1, v2, v3, v4, v5, v6, v7, v8, v9, v10, v11, v12, v13, v14, v15, v16, v17, v18, v19, v20, v21, rfl⟩
theorem ly_flow {α : Type} {cs : List α} (h : cs.length = 5) : ∃ y0 y1 y2 y3 y4, cs = [y0, y1, y2, y3, y4] := by
 match cs, h with
 | [y0, y1, y2, y3, y4], _ => exact ⟨y0, y1, y2, y3, y4, rfl⟩
set_option maxRecDepth 100000 in
set_option maxHeartbeats 4000000 in
theorem flow_cells {H : Type} {enc : TypeId × Value → H} {W : World} {fuel : Nat} {cs : List Value} {y : DataW H × List MemPlace} (hf0 : DataW.trod enc Try.prog W 0 (fun _ => true) true fuel 33 cs = some y) :
  ∃ q : Fl, cs = q.v.toList ∧ q.kf := by
 have cc : Try.prog.cellsOf 33 = 22 := by kernel_rfl
 have c_0 : Try.prog.cellsOf 26 = 10 := by kernel_rfl
 have c_1 : Try.prog.cellsOf 31 = 9 := by kernel_rfl
 have c_2 : Try.prog.cellsOf 3 = 1 := by kernel_rfl
 have c_3 : Try.prog.cellsOf 4 = 1 := by kernel_rfl
 obtain ⟨xs, n, _, hx, hl, hlen, hf⟩ := DataW.trod_struct Try.underlying33 hf0
 obtain ⟨v0, v1, v2, v3, v4, v5, v6, v7, v8, v9, v10, v11, v12, v13, v14, v15, v16, v17, v18, v19, v20, v21, rfl⟩ := ls_flow (hl.trans cc)
 obtain ⟨y0, y1, y2, y3, y4, rfl⟩ := ly_flow hlen
 have h0 : DataW.trod enc Try.prog W 0 (fun _ => true) true n 26 ((([v0, v1, v2, v3, v4, v5, v6, v7, v8, v9, v10, v11, v12, v13, v14, v15, v16, v17, v18, v19, v20, v21] : List Value).drop 0).take (Try.prog.cellsOf 26)) = some y0 := hf 0 _ rfl
 have h1 : DataW.trod enc Try.prog W 0 (fun _ => true) true n 31 ((([v0, v1, v2, v3, v4, v5, v6, v7, v8, v9, v10, v11, v12, v13, v14, v15, v16, v17, v18, v19, v20, v21] : List Value).drop 10).take (Try.prog.cellsOf 31)) = some y1 := hf 1 _ rfl
 have h2 : DataW.trod enc Try.prog W 0 (fun _ => true) true n 3 ((([v0, v1, v2, v3, v4, v5, v6, v7, v8, v9, v10, v11, v12, v13, v14, v15, v16, v17, v18, v19, v20, v21] : List Value).drop 19).take (Try.prog.cellsOf 3)) = some y2 := hf 2 _ rfl
 have h3 : DataW.trod enc Try.prog W 0 (fun _ => true) true n 3 ((([v0, v1, v2, v3, v4, v5, v6, v7, v8, v9, v10, v11, v12, v13, v14, v15, v16, v17, v18, v19, v20, v21] : List Value).drop 20).take (Try.prog.cellsOf 3)) = some y3 := hf 3 _ rfl
 have h4 : DataW.trod enc Try.prog W 0 (fun _ => true) true n 4 ((([v0, v1, v2, v3, v4, v5, v6, v7, v8, v9, v10, v11, v12, v13, v14, v15, v16, v17, v18, v19, v20, v21] : List Value).drop 21).take (Try.prog.cellsOf 4)) = some y4 := hf 4 _ rfl
 simp only [c_0, c_1, c_2, c_3, List.drop_zero, List.drop_succ_cons, List.take_succ_cons, List.take_zero] at h0 h1 h2 h3 h4
 obtain ⟨q0, e0, k0⟩ := wayK_cells h0
 simp only [List.cons.injEq, and_true] at e0
 obtain ⟨rfl, rfl, rfl, rfl, rfl, rfl, rfl, rfl, rfl, rfl⟩ := e0
 obtain ⟨q1, e1, k1⟩ := conn_cells h1
 simp only [List.cons.injEq, and_true] at e1
 obtain ⟨rfl, rfl, rfl, rfl, rfl, rfl, rfl, rfl, rfl⟩ := e1
 obtain ⟨a2, e2, _, w2⟩ := DataW.trod_int Try.underlying3 h2
 obtain rfl := one_tc e2
 obtain ⟨a3, e3, _, w3⟩ := DataW.trod_int Try.underlying3 h3
 obtain rfl := one_tc e3
 obtain ⟨a4, e4, _⟩ := DataW.trod_bool Try.underlying4 h4
 obtain rfl := one_tc e4
 exact ⟨⟨q0, q1, a2, a3, a4⟩, rfl, ⟨k0, i64_tc w2⟩⟩
set_option maxRecDepth 100000 in
theorem open_flow {H : Type} {enc : TypeId × Value → H} {W : World} {base : Nat} {v : Value} {d : DataW H} {p : List MemPlace}
  (hv : Value.okWide Try.prog W .any base 33 v) (h : DataW.Trod enc Try.prog W 0 (fun _ => true) true 33 v d p) :
  ∃ q : Fl, v = .agg q.v ∧ q.kf := by
 obtain ⟨cs, rfl, _⟩ := okWide_struct Try.underlying33 hv
 obtain ⟨fuel, hf⟩ := h
 obtain ⟨q, e, ok⟩ := flow_cells hf
 refine ⟨q, ?_, ok⟩
 simp only [Value.cells] at e
 congr 1
 exact Array.ext' e
theorem ls_sm {cs : List Value} (h : cs.length = 28) : ∃ v0 v1 v2 v3 v4 v5 v6 v7 v8 v9 v10 v11 v12 v13 v14 v15 v16 v17 v18 v19 v20 v21 v22 v23 v24 v25 v26 v27, cs = [v0, v1, v2, v3, v4, v5, v6, v7, v8, v9, v10, v11, v12, v13, v14, v15, v16, v17, v18, v19, v20, v21, v22, v23, v24, v25, v26, v27] := by
 match cs, h with
 | [v0, v1, v2, v3, v4, v5, v6, v7, v8, v9, v10, v11, v12, v13, v14, v15, v16, v17, v18, v19, v20, v21, v22, v23, v24, v25, v26, v27], _ => exact ⟨v0, v1, v2, v3, v4, v5, v6, v7, v8, v9, v10, v11, v12, v13, v14, v15, v16, v17, v18, v19, v20, v21, v22, v23, v24, v25, v26, v27, rfl⟩
theorem ly_sm {α : Type} {cs : List α} (h : cs.length = 10) : ∃ y0 y1 y2 y3 y4 y5 y6 y7 y8 y9, cs = [y0, y1, y2, y3, y4, y5, y6, y7, y8, y9] := by
 match cs, h with
 | [y0, y1, y2, y3, y4, y5, y6, y7, y8, y9], _ => exact ⟨y0, y1, y2, y3, y4, y5, y6, y7, y8, y9, rfl⟩
set_option maxRecDepth 100000 in
set_option maxHeartbeats 4000000 in
theorem sm_cells {H : Type} {enc : TypeId × Value → H} {W : World} {fuel : Nat} {cs : List Value} {y : DataW H × List MemPlace} (hf0 : DataW.trod enc Try.prog W 0 (fun _ => true) true fuel 36 cs = some y) :
  ∃ q : Sm, cs = q.v.toList ∧ q.w.kf := by
 have cc : Try.prog.cellsOf 36 = 28 := by kernel_rfl
 have c_0 : Try.prog.cellsOf 26 = 10 := by kernel_rfl
 have c_1 : Try.prog.cellsOf 3 = 1 := by kernel_rfl
 have c_2 : Try.prog.cellsOf 27 = 1 := by kernel_rfl
 have c_3 : Try.prog.cellsOf 4 = 1 := by kernel_rfl
 have c_4 : Try.prog.cellsOf 34 = 1 := by kernel_rfl
 obtain ⟨xs, n, _, hx, hl, hlen, hf⟩ := DataW.trod_struct Try.underlying36 hf0
 obtain ⟨v0, v1, v2, v3, v4, v5, v6, v7, v8, v9, v10, v11, v12, v13, v14, v15, v16, v17, v18, v19, v20, v21, v22, v23, v24, v25, v26, v27, rfl⟩ := ls_sm (hl.trans cc)
 obtain ⟨y0, y1, y2, y3, y4, y5, y6, y7, y8, y9, rfl⟩ := ly_sm hlen
 have h0 : DataW.trod enc Try.prog W 0 (fun _ => true) true n 26 ((([v0, v1, v2, v3, v4, v5, v6, v7, v8, v9, v10, v11, v12, v13, v14, v15, v16, v17, v18, v19, v20, v21, v22, v23, v24, v25, v26, v27] : List Value).drop 0).take (Try.prog.cellsOf 26)) = some y0 := hf 0 _ rfl
 have h1 : DataW.trod enc Try.prog W 0 (fun _ => true) true n 3 ((([v0, v1, v2, v3, v4, v5, v6, v7, v8, v9, v10, v11, v12, v13, v14, v15, v16, v17, v18, v19, v20, v21, v22, v23, v24, v25, v26, v27] : List Value).drop 10).take (Try.prog.cellsOf 3)) = some y1 := hf 1 _ rfl
 have h2 : DataW.trod enc Try.prog W 0 (fun _ => true) true n 27 ((([v0, v1, v2, v3, v4, v5, v6, v7, v8, v9, v10, v11, v12, v13, v14, v15, v16, v17, v18, v19, v20, v21, v22, v23, v24, v25, v26, v27] : List Value).drop 11).take (Try.prog.cellsOf 27)) = some y2 := hf 2 _ rfl
 have h3 : DataW.trod enc Try.prog W 0 (fun _ => true) true n 27 ((([v0, v1, v2, v3, v4, v5, v6, v7, v8, v9, v10, v11, v12, v13, v14, v15, v16, v17, v18, v19, v20, v21, v22, v23, v24, v25, v26, v27] : List Value).drop 12).take (Try.prog.cellsOf 27)) = some y3 := hf 3 _ rfl
 have h4 : DataW.trod enc Try.prog W 0 (fun _ => true) true n 3 ((([v0, v1, v2, v3, v4, v5, v6, v7, v8, v9, v10, v11, v12, v13, v14, v15, v16, v17, v18, v19, v20, v21, v22, v23, v24, v25, v26, v27] : List Value).drop 13).take (Try.prog.cellsOf 3)) = some y4 := hf 4 _ rfl
 have h5 : DataW.trod enc Try.prog W 0 (fun _ => true) true n 3 ((([v0, v1, v2, v3, v4, v5, v6, v7, v8, v9, v10, v11, v12, v13, v14, v15, v16, v17, v18, v19, v20, v21, v22, v23, v24, v25, v26, v27] : List Value).drop 14).take (Try.prog.cellsOf 3)) = some y5 := hf 5 _ rfl
 have h6 : DataW.trod enc Try.prog W 0 (fun _ => true) true n 3 ((([v0, v1, v2, v3, v4, v5, v6, v7, v8, v9, v10, v11, v12, v13, v14, v15, v16, v17, v18, v19, v20, v21, v22, v23, v24, v25, v26, v27] : List Value).drop 15).take (Try.prog.cellsOf 3)) = some y6 := hf 6 _ rfl
 have h7 : DataW.trod enc Try.prog W 0 (fun _ => true) true n 4 ((([v0, v1, v2, v3, v4, v5, v6, v7, v8, v9, v10, v11, v12, v13, v14, v15, v16, v17, v18, v19, v20, v21, v22, v23, v24, v25, v26, v27] : List Value).drop 16).take (Try.prog.cellsOf 4)) = some y7 := hf 7 _ rfl
 have h8 : DataW.trod enc Try.prog W 0 (fun _ => true) true n 26 ((([v0, v1, v2, v3, v4, v5, v6, v7, v8, v9, v10, v11, v12, v13, v14, v15, v16, v17, v18, v19, v20, v21, v22, v23, v24, v25, v26, v27] : List Value).drop 17).take (Try.prog.cellsOf 26)) = some y8 := hf 8 _ rfl
 have h9 : DataW.trod enc Try.prog W 0 (fun _ => true) true n 34 ((([v0, v1, v2, v3, v4, v5, v6, v7, v8, v9, v10, v11, v12, v13, v14, v15, v16, v17, v18, v19, v20, v21, v22, v23, v24, v25, v26, v27] : List Value).drop 27).take (Try.prog.cellsOf 34)) = some y9 := hf 9 _ rfl
 simp only [c_0, c_1, c_2, c_3, c_4, List.drop_zero, List.drop_succ_cons, List.take_succ_cons, List.take_zero] at h0 h1 h2 h3 h4 h5 h6 h7 h8 h9
 obtain ⟨q0, e0, k0⟩ := wayK_cells h0
 simp only [List.cons.injEq, and_true] at e0
 obtain ⟨rfl, rfl, rfl, rfl, rfl, rfl, rfl, rfl, rfl, rfl⟩ := e0
 obtain ⟨a1, e1, _, w1⟩ := DataW.trod_int Try.underlying3 h1
 obtain rfl := one_tc e1
 obtain ⟨a2, e2, _, w2⟩ := DataW.trod_int Try.underlying27 h2
 obtain rfl := one_tc e2
 obtain ⟨a3, e3, _, w3⟩ := DataW.trod_int Try.underlying27 h3
 obtain rfl := one_tc e3
 obtain ⟨a4, e4, _, w4⟩ := DataW.trod_int Try.underlying3 h4
 obtain rfl := one_tc e4
 obtain ⟨a5, e5, _, w5⟩ := DataW.trod_int Try.underlying3 h5
 obtain rfl := one_tc e5
 obtain ⟨a6, e6, _, w6⟩ := DataW.trod_int Try.underlying3 h6
 obtain rfl := one_tc e6
 obtain ⟨a7, e7, _⟩ := DataW.trod_bool Try.underlying4 h7
 obtain rfl := one_tc e7
 obtain ⟨q8, e8, k8⟩ := wayK_cells h8
 simp only [List.cons.injEq, and_true] at e8
 obtain ⟨rfl, rfl, rfl, rfl, rfl, rfl, rfl, rfl, rfl, rfl⟩ := e8
 obtain ⟨a9, n9, m9, e9⟩ := slice_fw h9
 obtain rfl := one_tc e9
 exact ⟨⟨q0, a1, a2, a3, a4, a5, a6, a7, q8, a9, n9, m9⟩, rfl, k0⟩
set_option maxRecDepth 100000 in
theorem open_sm {H : Type} {enc : TypeId × Value → H} {W : World} {base : Nat} {v : Value} {d : DataW H} {p : List MemPlace}
  (hv : Value.okWide Try.prog W .any base 36 v) (h : DataW.Trod enc Try.prog W 0 (fun _ => true) true 36 v d p) :
  ∃ q : Sm, v = .agg q.v ∧ q.w.kf := by
 obtain ⟨cs, rfl, _⟩ := okWide_struct Try.underlying36 hv
 obtain ⟨fuel, hf⟩ := h
 obtain ⟨q, e, ok⟩ := sm_cells hf
 refine ⟨q, ?_, ok⟩
 simp only [Value.cells] at e
 congr 1
 exact Array.ext' e
set_option maxRecDepth 100000 in
theorem open_i2 {H : Type} {enc : TypeId × Value → H} {W : World} {base : Nat} {v : Value} {d : DataW H} {p : List MemPlace}
  (hv : Value.okWide Try.prog W .any base 45 v) (h : DataW.Trod enc Try.prog W 0 (fun _ => true) true 45 v d p) :
  ∃ (a b : Int), v = .agg #[.int .i64 a, .int .i64 b] := by
 have cc : Try.prog.cellsOf 45 = 2 := by kernel_rfl
 have cI : Try.prog.cellsOf 3 = 1 := by kernel_rfl
 obtain ⟨cs, rfl, hs⟩ := okWide_arr_tc Try.underlying45 hv
 obtain ⟨L⟩ := cs
 obtain ⟨x, y, rfl⟩ := two_tc (show L.length = 2 by simpa using hs.trans cc)
 obtain ⟨fuel, hf0⟩ := h
 obtain ⟨xs, m, _, hx, _, hlen, hf⟩ := DataW.trod_array Try.underlying45 hf0
 obtain ⟨y0, y1, rfl⟩ : ∃ y0 y1, xs = [y0, y1] := by
  match xs, hlen with
  | [y0, y1], _ => exact ⟨y0, y1, rfl⟩
 have h0 : DataW.trod enc Try.prog W 0 (fun _ => true) true m 3 (([x, y].drop (0 * Try.prog.cellsOf 3)).take (Try.prog.cellsOf 3)) = some y0 := hf 0 (by decide)
 have h1 : DataW.trod enc Try.prog W 0 (fun _ => true) true m 3 (([x, y].drop (1 * Try.prog.cellsOf 3)).take (Try.prog.cellsOf 3)) = some y1 := hf 1 (by decide)
 rw [cI] at h0 h1
 obtain ⟨a, e0, _, w0⟩ := DataW.trod_int Try.underlying3 (show DataW.trod enc Try.prog W 0 (fun _ => true) true m 3 [x] = some y0 from h0)
 obtain ⟨b, e1, _, w1⟩ := DataW.trod_int Try.underlying3 (show DataW.trod enc Try.prog W 0 (fun _ => true) true m 3 [y] = some y1 from h1)
 obtain rfl := one_tc e0
 obtain rfl := one_tc e1
 exact ⟨a, b, rfl⟩
end Go.Proofs.Ytfiembbmgdmagaa
namespace Go.Proofs.Ytfiembbmgdmagaa
open Go.RowKit
set_option linter.unusedVariables false
set_option linter.unusedSimpArgs false
theorem retB_tc {a b : Bool} (h : a = b) : Ending.returned (.bool a) = Ending.returned (.bool b) := by rw [h]
theorem retN_tc {k : IntKind} {a b : Int} (h : a = b) : Ending.returned (.int k a) = Ending.returned (.int k b) := by rw [h]
theorem Blk.gt {W : World} {g : Nat} {t : TypeId} {r : Gt} (h : Blk W g t r.v) : W.cell? ⟨g, 0, none⟩ = some (.int .i64 r.fl) ∧ W.cell? ⟨g, 1, none⟩ = some (.int .i64 r.win) ∧ W.cell? ⟨g, 2, none⟩ = some (.int .i64 r.sz) ∧ W.cell? ⟨g, 3, none⟩ = some (.int .u32 r.sq) ∧ W.cell? ⟨g, 4, none⟩ = some (.int .u32 r.ak) :=
 ⟨h.cell 0 _ rfl, h.cell 1 _ rfl, h.cell 2 _ rfl, h.cell 3 _ rfl, h.cell 4 _ rfl⟩
theorem has_tc (g : Gt) (k : Int) (w : World) :
  Calls Try.prog 97 #[.agg g.v, .int .i64 k] w fun e w' => e = .returned (.bool (flB g.fl k)) ∧ Below w.heap.size w w' := by
 obtain ⟨W1, hW1⟩ : ∃ W1, w.alloc (.cells g.v 110) = W1 := ⟨_, rfl⟩
 have b1 := bel_nw hW1
 have A1 := blk_nw hW1
 have c0 := A1.cell 0 (.int .i64 g.fl) rfl
 go_enter Try.func97, Try.ntmps97
 go_wp2
 go_ret
 exact ⟨retB_tc (by simp [flB]), b1⟩
theorem from_tc (a b : Int) (w : World) :
  Calls Try.prog 111 #[.int .u32 a, .int .u32 b] w fun e w' => e = .returned (.bool (frB a b)) ∧ Below w.heap.size w w' := by
 go_enter Try.func111, Try.ntmps111
 go_wp2
 go_ret
 exact ⟨retB_tc (by simp [frB]), Below.refl _ _⟩
theorem rfrom_tc (a b : Int) (w : World) :
  Calls Try.prog 71 #[.int .u32 a, .int .u32 b] w fun e w' => e = .returned (.bool (frB a b)) ∧ Below w.heap.size w w' := by
 go_enter Try.func71, Try.ntmps71
 go_wp2
 go_ret
 exact ⟨retB_tc (by simp [frB]), Below.refl _ _⟩
theorem size_tc (n : Int) (w : World) :
  Calls Try.prog 79 #[.int .i64 n] w fun e w' => e = .returned (.bool (inB15 n)) ∧ Below w.heap.size w w' := by
 go_enter Try.func79, Try.ntmps79
 by_cases h : 0 ≤ n
 ·go_wp2
  all_goals (go_ret; exact ⟨retB_tc (by simp [inB15, h]), Below.refl _ _⟩)
 ·go_wp2
  all_goals (go_ret; exact ⟨retB_tc (by simp [inB15]; omega), Below.refl _ _⟩)
theorem rin_tc (n : Int) (w : World) :
  Calls Try.prog 65 #[.int .i64 n] w fun e w' => e = .returned (.bool (inB15 n)) ∧ Below w.heap.size w w' := by
 go_enter Try.func65, Try.ntmps65
 by_cases h : 0 ≤ n
 ·go_wp2
  all_goals (go_ret; exact ⟨retB_tc (by simp [inB15, h]), Below.refl _ _⟩)
 ·go_wp2
  all_goals (go_ret; exact ⟨retB_tc (by simp [inB15]; omega), Below.refl _ _⟩)
theorem state_tc (a b : Bool) (w : World) :
  Calls Try.prog 82 #[.agg #[.bool a, .bool b]] w fun e w' => e = .returned (.int .i64 (stOf a b)) ∧ Below w.heap.size w w' := by
 obtain ⟨W1, hW1⟩ : ∃ W1, w.alloc (.cells #[.bool a, .bool b] 29) = W1 := ⟨_, rfl⟩
 have b1 := bel_nw hW1
 have A1 := blk_nw hW1
 have c0 := A1.cell 0 (.bool a) rfl
 have c1 := A1.cell 1 (.bool b) rfl
 go_enter Try.func82, Try.ntmps82
 cases a <;> cases b <;> (go_wp2; go_ret; exact ⟨rfl, b1⟩)
theorem limit_tc (g : Gt) (w : World) :
  Calls Try.prog 112 #[.agg g.v] w fun e w' => e = .returned (.int .u32 g.lim) ∧ Below w.heap.size w w' := by
 obtain ⟨W1, hW1⟩ : ∃ W1, w.alloc (.cells g.v 110) = W1 := ⟨_, rfl⟩
 have b1 := bel_nw hW1
 have A1 := blk_nw hW1
 obtain ⟨c0, c1, c2, c3, c4⟩ := A1.gt
 go_enter Try.func112, Try.ntmps112
 go_wp2
 go_ret
 exact ⟨retN_tc (by simp [Gt.lim]), b1⟩
set_option maxRecDepth 100000 in
set_option maxHeartbeats 1000000 in
theorem end_tc (g : Gt) (w : World) :
  Calls Try.prog 108 #[.agg g.v] w fun e w' => e = .returned (.int .u32 g.e) ∧ Below w.heap.size w w' := by
 obtain ⟨W1, hW1⟩ : ∃ W1, w.alloc (.cells g.v 110) = W1 := ⟨_, rfl⟩
 have b1 := bel_nw hW1
 have A1 := blk_nw hW1
 obtain ⟨c0, c1, c2, c3, c4⟩ := A1.gt
 have K2 : Hid (∀ W, Calls Try.prog 97 #[.agg g.v, .int .i64 2] W fun e w' => e = .returned (.bool (flB g.fl 2)) ∧ Below W.heap.size W w') := fun W => has_tc g 2 W
 have K1 : Hid (∀ W, Calls Try.prog 97 #[.agg g.v, .int .i64 1] W fun e w' => e = .returned (.bool (flB g.fl 1)) ∧ Below W.heap.size W w') := fun W => has_tc g 1 W
 obtain ⟨E, hE⟩ : ∃ E, g.e = E := ⟨_, rfl⟩
 have HE : Hid ((g.sq + g.sz + bN (flB g.fl 2) + bN (flB g.fl 1)) % 4294967296 = E) := hE
 rw [hE]
 clear hE
 generalize flB g.fl 2 = R2 at *
 generalize flB g.fl 1 = R1 at *
 go_enter Try.func108, Try.ntmps108
 go_wp2_with (refine wpList_load_row rfl _ _ rfl w.heap.size (by rfl) _ _ _ _ A1 Try.underlying110 rfl (by kernel_rfl) ?_)
 refine Calls.mono (K2.out _) ?_
 rintro e W2 ⟨rfl, bb⟩
 have A2 := A1.kept bb
 have b2 := bel_tr b1 bb
 clear bb c0 c1 c2 c3 c4 K2
 cases R2 <;> (
  go_wp2_with (refine wpList_load_row rfl _ _ rfl w.heap.size (by rfl) _ _ _ _ A2 Try.underlying110 rfl (by kernel_rfl) ?_)
  refine Calls.mono (K1.out _) ?_
  rintro e W3 ⟨rfl, bb⟩
  have b3 := bel_tr b2 bb
  cases R1 <;> (
   go_wp2
   go_ret
   exact ⟨retN_tc (by rw [← HE.out]; simp [bN]), b3⟩))
set_option maxRecDepth 100000 in
set_option maxHeartbeats 1000000 in
theorem rend_tc (g : Gt) (w : World) :
  Calls Try.prog 72 #[.agg g.v] w fun e w' => e = .returned (.int .u32 g.e) ∧ Below w.heap.size w w' := by
 obtain ⟨W1, hW1⟩ : ∃ W1, w.alloc (.cells g.v 96) = W1 := ⟨_, rfl⟩
 have b1 := bel_nw hW1
 have A1 := blk_nw hW1
 obtain ⟨c0, c1, c2, c3, c4⟩ := A1.gt
 obtain ⟨E, hE⟩ : ∃ E, g.e = E := ⟨_, rfl⟩
 have HE : Hid ((g.sq + g.sz + bN (flB g.fl 2) + bN (flB g.fl 1)) % 4294967296 = E) := hE
 rw [hE]
 clear hE
 obtain ⟨R2, r2⟩ : ∃ R, (bits .and .i64 g.fl 2 != 0) = R := ⟨_, rfl⟩
 obtain ⟨R1, r1⟩ : ∃ R, (bits .and .i64 g.fl 1 != 0) = R := ⟨_, rfl⟩
 have E2 : flB g.fl 2 = R2 := r2
 have E1 : flB g.fl 1 = R1 := r1
 rw [E1, E2] at HE
 clear E1 E2
 go_enter Try.func72, Try.ntmps72
 cases R2 <;> cases R1 <;> (
   go_wp2
   go_ret
   exact ⟨retN_tc (by rw [← HE.out]; simp [bN]), b1⟩)
theorem within_tc (n x l : Int) (w : World) :
  Calls Try.prog 110 #[.int .u32 n, .int .u32 x, .int .u32 l] w fun e w' => e = .returned (.bool (wiB n x l)) ∧ Below w.heap.size w w' := by
 have K1 : Hid (∀ W, Calls Try.prog 111 #[.int .u32 n, .int .u32 ((x - 65535) % 4294967296)] W fun e w' => e = .returned (.bool (frB n ((x - 65535) % 4294967296))) ∧ Below W.heap.size W w') := fun W => from_tc _ _ W
 have K2 : Hid (∀ W, Calls Try.prog 111 #[.int .u32 l, .int .u32 n] W fun e w' => e = .returned (.bool (frB l n)) ∧ Below W.heap.size W w') := fun W => from_tc _ _ W
 show Calls _ _ _ w fun e w' => e = .returned (.bool (frB n ((x - 65535) % 4294967296) && frB l n)) ∧ Below w.heap.size w w'
 generalize frB n ((x - 65535) % 4294967296) = P at *
 generalize frB l n = Q at *
 go_enter Try.func110, Try.ntmps110
 go_wp2_with fail
 refine Calls.mono (K1.out _) ?_
 rintro e W2 ⟨rfl, bb⟩
 cases P
 ·go_wp2
  go_ret
  exact ⟨rfl, bb⟩
 ·go_wp2_with fail
  refine Calls.mono (K2.out _) ?_
  rintro e W3 ⟨rfl, bc⟩
  go_wp2
  go_ret
  exact ⟨retB_tc (by simp), bel_tr bb bc⟩
end Go.Proofs.Ytfiembbmgdmagaa
