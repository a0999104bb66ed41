/- Texts joined: Math Sum Mem App Reads Adr Pre Byt Room BlkX BlkY TcA TcQ Ord RByt FrA -/
import Derived.Test.YtfiembbmgdmagaaRows
import Derived.WalkKit
import Derived.Laws.BitsAllLaws
import Derived.Laws.BitsLemmas
import Derived.Laws.Bits128
import Derived.Below
import Derived.Deep.Draws
import Derived.Laws.World
import Derived.Laws.AppendOwn
import Derived.Laws.AppendOwnNone
import Derived.Laws.OwnMore
import Derived.OwnWalk
import Derived.KernelRfl
import Derived.Deep.QuietTactic
import Derived.BigQuiet
import Derived.Laws.Shifts
import Derived.Laws.ShiftsVarLaws
import Derived.Laws.StructEq
import Derived.Deep.RegionWith
import Derived.Deep.DeepCutAuto
import Derived.Laws.BytesArg
import Derived.Laws.MakeOwn
import Derived.Deep.WholeRow
import Derived.BigRegion
import Derived.Deep.RegionHeld3
import Derived.RegionTactic
namespace Go.Proofs.Ytfiembbmgdmagaa.M
/-- What folding leaves of a number that is not below 0. -/
def nf (t : Int) : Int := if t ≤ 0 then 0 else (t - 1) % 65535 + 1
theorem nf_bd (t : Int) : 0 ≤ nf t ∧ nf t ≤ 65535 := by unfold nf; split <;> omega
def Bytes (l : List Int) : Prop := ∀ x, x ∈ l → 0 ≤ x ∧ x ≤ 255
theorem Bytes.of {l : List Int} (h : l.all (fun x => decide (0 ≤ x) && decide (x ≤ 255)) = true) : Bytes l := fun x hx => by simpa using List.all_eq_true.1 h x hx
theorem Bytes.nil : Bytes [] := by intro x h; cases h
theorem Bytes.right {a b : List Int} (h : Bytes (a ++ b)) : Bytes b := fun x hx => h x (List.mem_append_right _ hx)
theorem Bytes.take {a : List Int} (h : Bytes a) (n : Nat) : Bytes (a.take n) := fun x hx => h x (List.mem_of_mem_take hx)
theorem Bytes.drop {a : List Int} (h : Bytes a) (n : Nat) : Bytes (a.drop n) := fun x hx => h x (List.mem_of_mem_drop hx)
theorem Bytes.set {a : List Int} (h : Bytes a) (i : Nat) {z : Int} (hz : 0 ≤ z ∧ z ≤ 255) : Bytes (a.set i z) := fun x hx => by
 rcases List.mem_or_eq_of_mem_set hx with hx | rfl
 ·exact h x hx
 ·exact hz
/-- Which half of a word the next byte is, n bytes on. -/
def par (p : Bool) (n : Nat) : Bool := if n % 2 = 0 then p else !p
theorem par_zero (p : Bool) : par p 0 = p := rfl
theorem par_succ (p : Bool) (n : Nat) : par p (n + 1) = !(par p n) := by
 unfold par; by_cases h : n % 2 = 0
 ·rw [if_neg (by omega), if_pos h]
 ·rw [if_pos (by omega), if_neg h]; simp
theorem par_add (p : Bool) (a b : Nat) : par (par p a) b = par p (a + b) := by
 induction b with
 | zero => rfl
 | succ b ih => rw [par_succ, ih, ← Nat.add_assoc, par_succ]
theorem par_even (p : Bool) {n : Nat} (h : n % 2 = 0) : par p n = p := by unfold par; rw [if_pos h]
/-- The sum of all bytes, each as its half of a word, not folded. -/
def raw : Bool → List Int → Int
 | _, [] => 0
 | true, x :: l => 256 * x + raw false l
 | false, x :: l => x + raw true l
theorem raw_nil (p : Bool) : raw p [] = 0 := by cases p <;> rfl
theorem raw_cons (p : Bool) (x : Int) (l : List Int) : raw p (x :: l) = (if p then 256 * x else x) + raw (!p) l := by cases p <;> rfl
theorem raw_append (p : Bool) (a b : List Int) : raw p (a ++ b) = raw p a + raw (par p a.length) b := by
 induction a generalizing p with
 | nil => rw [raw_nil]; simp [par_zero]
 | cons x a ih =>
  rw [List.cons_append, raw_cons, raw_cons, ih, List.length_cons, Int.add_assoc]
  congr 3
  have := par_add p 1 a.length
  rw [show par p 1 = !p from by cases p <;> rfl] at this
  rw [this, Nat.add_comm]
theorem raw_one (p : Bool) (x : Int) : raw p [x] = if p then 256 * x else x := by rw [raw_cons, raw_nil]; omega
theorem raw_bd (p : Bool) (l : List Int) (h : Bytes l) : 0 ≤ raw p l ∧ raw p l ≤ 65280 * l.length := by
 induction l generalizing p with
 | nil => rw [raw_nil]; simp
 | cons x l ih =>
  have hx := h x (by simp)
  have hi := ih (!p) (fun y hy => h y (by simp [hy]))
  rw [raw_cons, List.length_cons]
  cases p <;> simp at * <;> omega
def AllBytes (ls : List (List Int)) : Prop := ∀ i, i < ls.length → Bytes (ls.getD i [])
/-- The sum of parts, one behind the other. -/
def sumOf (ls : List (List Int)) : Int := nf (raw true ls.flatten)
theorem sumOf_one (l : List Int) : sumOf [l] = nf (raw true l) := by unfold sumOf; simp
/-- Bytes of even length with their check sum behind them have the sum 65535, and are found if one byte is turned. -/
theorem checked (l : List Int) (he : l.length % 2 = 0) (hb : Bytes l) :
  raw true (l ++ [(65535 - sumOf [l]) / 256, (65535 - sumOf [l]) % 256]) % 65535 = 0 ∧ 0 < raw true (l ++ [(65535 - sumOf [l]) / 256, (65535 - sumOf [l]) % 256]) := by
 have h1 := raw_bd true l hb
 have h2 : sumOf [l] = nf (raw true l) := sumOf_one l
 rw [raw_append, par_even true he, h2]
 generalize raw true l = R at *
 have h3 := nf_bd R
 have h4 : nf R % 65535 = R % 65535 := by unfold nf; split <;> omega
 have h6 : nf R ≤ R := by have := h1.1; unfold nf; split <;> omega
 generalize nf R = F at *
 have h5 : raw true [(65535 - F) / 256, (65535 - F) % 256] = 65535 - F := by
  rw [raw_cons, raw_one]; simp; omega
 rw [h5]
 omega
end Go.Proofs.Ytfiembbmgdmagaa.M
namespace Go.Proofs.Ytfiembbmgdmagaa
open Go.RowKit
set_option linter.unusedVariables false
/-- A slice value of 'l.length' bytes from a on reads as the numbers l. -/
structure Row (w : World) (a : Option Addr) (l : List Int) : Prop where
 small : l.length ≤ 140737488355328
 bytes : M.Bytes l
 cells : 0 < l.length → ∃ b off, a = some ⟨b, off, none⟩ ∧ ∀ i, i < l.length → w.cell? ⟨b, off + i, none⟩ = some (.int .u8 (l.getD i 0))
/-- A slice value of 'ls.length' parts from a on reads as ls. -/
structure Rowss (w : World) (a : Option Addr) (ls : List (List Int)) : Prop where
 small : ls.length ≤ 140737488355328
 cells : 0 < ls.length → ∃ b off, a = some ⟨b, off, none⟩ ∧ ∀ i, i < ls.length → ∃ a' c', w.cell? ⟨b, off + i, none⟩ = some (.slice a' (ls.getD i []).length c') ∧ Row w a' (ls.getD i [])
theorem Rowss.all {w : World} {a : Option Addr} {ls : List (List Int)} (h : Rowss w a ls) : M.AllBytes ls := by
 intro i hi
 obtain ⟨b, off, _, hc⟩ := h.cells (by omega)
 obtain ⟨_, _, _, hr⟩ := hc i hi
 exact hr.bytes
theorem Row.below {w w' : World} {a : Option Addr} {l : List Int} (h : Row w a l) (hb : Below w.heap.size w w') : Row w' a l :=
 ⟨h.small, h.bytes, fun hl => by
  obtain ⟨b, off, ha, hc⟩ := h.cells hl
  exact ⟨b, off, ha, fun i hi => (hb.cell (World.block_lt_of_cell? w _ (hc i hi))).trans (hc i hi)⟩⟩
theorem Rowss.below {w w' : World} {a : Option Addr} {ls : List (List Int)} (h : Rowss w a ls) (hb : Below w.heap.size w w') : Rowss w' a ls :=
 ⟨h.small, fun hl => by
  obtain ⟨b, off, ha, hc⟩ := h.cells hl
  refine ⟨b, off, ha, fun i hi => ?_⟩
  obtain ⟨a', c', h1, h2⟩ := hc i hi
  exact ⟨a', c', (hb.cell (World.block_lt_of_cell? w _ h1)).trans h1, h2.below hb⟩⟩
theorem Row.alloc {w : World} {a : Option Addr} {l : List Int} (h : Row w a l) (o : Obj) : Row (w.alloc o) a l := h.below ((Below.refl _ _).alloc (Nat.le_refl _) o)
theorem Row.take {w : World} {a : Option Addr} {l : List Int} (h : Row w a l) (k : Nat) : Row w a (l.take k) := by
 have hle : (l.take k).length ≤ l.length := List.length_take_le' _ _
 have := h.small
 refine ⟨by omega, h.bytes.take k, fun hp => ?_⟩
 obtain ⟨b, off, ha, hc⟩ := h.cells (by omega)
 refine ⟨b, off, ha, fun i hi => ?_⟩
 rw [hc i (by omega)]
 have : i < k := by simp at hi; omega
 simp [this]
/-- The slice value v owns the bytes l, in a block of the call's own (from B on), or is nil and l empty. -/
def Owns (w : World) (B : Nat) (v : Value) (l : List Int) : Prop := w.ownsRow B 5 1 v l.length (l.map (Value.int .u8))
theorem Owns.form {w : World} {B : Nat} {v : Value} {l : List Int} (h : Owns w B v l) :
  ∃ a c, v = .slice a l.length c ∧ l.length ≤ c ∧ (a = none → c = 0) ∧ (∀ x, a = some x → B ≤ x.block ∧ x.off = 0 ∧ x.spot = none) ∧ v.ownBlock = a.map (·.block) := by
 obtain ⟨h1, h2⟩ := h
 rcases h2 with ⟨rfl, h3⟩ | ⟨g, cap, cur, rfl, h3, h4, h5, h6, h7, h8⟩
 ·exact ⟨none, 0, by rw [h3], by omega, fun _ => rfl, fun _ h => (by cases h), rfl⟩
 ·exact ⟨_, cap, rfl, h5, fun h => (by cases h), fun x hx => (by cases hx; exact ⟨h3, rfl, rfl⟩), rfl⟩
theorem Owns.nil (w : World) (B : Nat) : Owns w B (.slice none 0 0) [] := World.ownsRow_nil _ _ _ _
theorem Owns.alloc {w : World} {B : Nat} {v : Value} {l : List Int} (h : Owns w B v l) (o : Obj) : Owns (w.alloc o) B v l := World.ownsRow.alloc h o
/-- Behind memory that only grew. -/
theorem Owns.below {w w' : World} {B : Nat} {v : Value} {l : List Int} (h : Owns w B v l) (hb : Below w.heap.size w w') : Owns w' B v l := by
 obtain ⟨h1, h2⟩ := h
 refine ⟨h1, ?_⟩
 rcases h2 with h2 | ⟨g, cap, cur, h3, h4, h5, h6⟩
 ·exact .inl h2
 ·refine .inr ⟨g, cap, cur, h3, h4, (hb.block g ?_).trans h5, h6⟩
  have := (Array.getElem?_eq_some_iff.1 h5).1
  exact this
/-- b[k:]. -/
theorem Row.drop {w : World} {a : Option Addr} {l : List Int} (h : Row w a l) (c k : Nat) (hc : l.length ≤ c) : Row w (if c = k then a else a.map (fun x => x.add k)) (l.drop k) := by
 have hs := h.small
 refine ⟨by simp; omega, h.bytes.drop k, fun hp => ?_⟩
 have hk : k < l.length := by simp at hp; omega
 obtain ⟨b, off, rfl, hcc⟩ := h.cells (by omega)
 rw [if_neg (by omega)]
 refine ⟨b, off + k, by simp [Go.WideShapes.add_plain], fun i hi => ?_⟩
 have hi' : k + i < l.length := by simp at hi; omega
 rw [Nat.add_assoc, hcc (k + i) hi']
 simp
theorem Row.cell {w : World} {g : Nat} {l : List Int} (h : Row w (some ⟨g, 0, none⟩) l) (i : Nat) (hi : i < l.length) : w.cell? ⟨g, i, none⟩ = some (.int .u8 (l.getD i 0)) := by
 obtain ⟨b, off, hh, hcc⟩ := h.cells (by omega)
 cases hh
 have := hcc i hi
 rwa [Nat.zero_add] at this
theorem Owns.at {w : World} {B c : Nat} {a : Option Addr} {l : List Int} (h : Owns w B (.slice a l.length c) l) (hr : Row w a l) (hp : 0 < l.length) : ∃ g, a = some ⟨g, 0, none⟩ ∧ B ≤ g := by
 obtain ⟨b, off, rfl, _⟩ := hr.cells hp
 obtain ⟨a', c', h1, _, _, h3, _⟩ := h.form
 cases h1
 have := h3 _ rfl
 simp at this
 exact ⟨b, by rw [this.2], this.1⟩
theorem Owns.frozen {w : World} {B g c : Nat} {l : List Int} (h : Owns w B (.slice (some ⟨g, 0, none⟩) l.length c) l) (i : Nat) : w.frozen? ⟨g, i, none⟩ = false :=
 World.ownsRow.frozenAt (e := 5) (size := 1) h i
/-- The number in four bytes. -/
def u32 (l : List Int) (x : Int) : Int := 16777216 * l.getD x.toNat 0 + 65536 * l.getD (x.toNat + 1) 0 + 256 * l.getD (x.toNat + 2) 0 + l.getD (x.toNat + 3) 0
end Go.Proofs.Ytfiembbmgdmagaa
namespace Go.Proofs.Ytfiembbmgdmagaa
open Go.RowKit
set_option linter.unusedVariables false
set_option linter.unusedSimpArgs false
/-- An address, as three numbers. -/
structure Ad where
 fam : Int
 hi : Int
 lo : Int
/-- Its numbers lie in their kinds. -/
def Ad.ok (a : Ad) : Prop := (-9223372036854775808 ≤ a.fam ∧ a.fam ≤ 9223372036854775807) ∧ (0 ≤ a.hi ∧ a.hi ≤ 18446744073709551615) ∧ (0 ≤ a.lo ∧ a.lo ≤ 18446744073709551615)
abbrev Ad.v (a : Ad) : Value := .agg #[.int .i64 a.fam, .int .u64 a.hi, .int .u64 a.lo]
def Ad.right (a : Ad) : Bool := if a.fam = 4 then (a.hi == 0) && (a.lo / 4294967296 == 0) else a.fam == 6
def Ad.width (a : Ad) : Int := if a.fam = 4 then 32 else 128
theorem right_any (f h l : Int) (w : World) :
  Calls Try.prog 78 #[.agg #[.int .i64 f, .int .u64 h, .int .u64 l]] w fun e w' => e = .returned (.bool (Ad.right ⟨f, h, l⟩)) ∧ w' = w.alloc (.cells #[.int .i64 f, .int .u64 h, .int .u64 l] 24) := by
 go_enter Try.func78, Try.ntmps78
 by_cases hf : f = 4
 ·by_cases hh : h = 0
  ·go_wp2
   go_ret
   exact ⟨by simp [Ad.right, hf, hh], by simp [*]⟩
  ·go_wp2
   go_ret
   exact ⟨by simp [Ad.right, hf, hh], by simp [*]⟩
 ·go_wp2
  go_ret
  exact ⟨by simp [Ad.right, hf], by simp [*]⟩
/-- The k lowest bits as 0. -/
def cutLow (x : Int) (k : Nat) : Int := x / 2 ^ k * 2 ^ k
/-- The address with its bits from the place bits on 0. -/
def Ad.masked (a : Ad) (bits : Int) : Ad :=
 ⟨a.fam, cutLow a.hi (64 - min (bits + 128 - a.width) 64).toNat, cutLow a.lo (64 - max (bits + 128 - a.width - 64) 0).toNat⟩
def Ad.fits (a : Ad) (bits : Int) : Bool := a.right && (decide (0 ≤ bits) && decide (bits ≤ a.width))
def Ad.mask (a : Ad) (bits : Int) : Ad × Int := if a.fits bits then (a.masked bits, 0) else (⟨0, 0, 0⟩, 1)
theorem kept {W w1 : World} {b o : Nat} {v : Value} (hb : Below W.heap.size W w1) (h : W.cell? ⟨b, o, none⟩ = some v) : w1.cell? ⟨b, o, none⟩ = some v :=
 (hb.cell (World.block_lt_of_cell? W _ h)).trans h
/-- Are they one address? -/
def Ad.same (a b : Ad) : Bool := a.fam == b.fam && (a.hi == b.hi && a.lo == b.lo)
def Ad.has (p : Ad) (n : Int) (a : Ad) : Bool := (a.mask n).2 == 0 && (a.mask n).1.same p
def Ad.rightPrefix (p : Ad) (n : Int) : Bool := p.has n p
/-- The n lowest bytes of two words, the highest first. -/
def bytesGo : Nat → Int → Int → List Int
 | 0, _, _ => []
 | n + 1, h, l => bytesGo n (h / 256) (l / 256 + h * 72057594037927936 % 18446744073709551616) ++ [l % 256]
def Ad.bytes (a : Ad) : List Int := if a.right then bytesGo (if a.fam = 4 then 4 else 16) a.hi a.lo else []
theorem put_other {w : World} {a b : Addr} {v : Value} (h : a ≠ b) : (w.setCell a v).cell? b = w.cell? b := by
 apply World.cell?_setCell_other
 exact h
end Go.Proofs.Ytfiembbmgdmagaa
namespace Go.Proofs.Ytfiembbmgdmagaa
open Go.RowKit
set_option linter.unusedVariables false
theorem Owns.other {w : World} {B : Nat} {v : Value} {l : List Int} (h : Owns w B v l) {ad : Addr} (ha : ad.block < B) (u : Value) : Owns (w.setCell ad u) B v l := ownsRow_setCell_below h ha u
end Go.Proofs.Ytfiembbmgdmagaa
namespace Go.Proofs.Ytfiembbmgdmagaa
open Go.RowKit
set_option linter.unusedVariables false
set_option linter.unusedSimpArgs false
/-- The block g holds these cells. -/
def Blk (W : World) (g : Nat) (t : TypeId) (cs : Array Value) : Prop := W.heap[g]? = some (.cells cs t (0, 0))
theorem blk_new (w : World) (cs : Array Value) (t : TypeId) : Blk (w.alloc (.cells cs t)) w.heap.size t cs := heap_alloc_last w _
theorem Blk.lt {W : World} {g : Nat} {t : TypeId} {cs : Array Value} (h : Blk W g t cs) : g < W.heap.size := (Array.getElem?_eq_some_iff.1 h).1
theorem Blk.below {W W' : World} {g B : Nat} {t : TypeId} {cs : Array Value} (h : Blk W g t cs) (hb : Below B W W') (hg : g < B) : Blk W' g t cs := (hb.block g hg).trans h
theorem Blk.kept {W W' : World} {g : Nat} {t : TypeId} {cs : Array Value} (h : Blk W g t cs) (hb : Below W.heap.size W W') : Blk W' g t cs := h.below hb h.lt
theorem Blk.alloc {W : World} {g : Nat} {t : TypeId} {cs : Array Value} (h : Blk W g t cs) (X : Obj) : Blk (W.alloc X) g t cs := h.kept ((Below.refl _ _).alloc (Nat.le_refl _) _)
theorem Blk.drew {W : World} {g : Nat} {t : TypeId} {cs : Array Value} (h : Blk W g t cs) : Blk W.drew g t cs := h.kept ((Below.refl _ _).drew)
theorem Blk.cell {W : World} {g : Nat} {t : TypeId} {cs : Array Value} (h : Blk W g t cs) (i : Nat) (v : Value) (hv : cs[i]? = some v) : W.cell? ⟨g, i, none⟩ = some v :=
 (cell_of_row W g i cs t (0, 0) h).trans hv
theorem Blk.set {W : World} {g : Nat} {t : TypeId} {cs : Array Value} (h : Blk W g t cs) (cs' : Array Value) : Blk (W.setRow g cs') g t cs' := setRow_heap W g cs cs' t (0, 0) h
theorem setRow_heap_ne (W : World) (g k : Nat) (cs : Array Value) (h : k ≠ g) : (W.setRow g cs).heap[k]? = W.heap[k]? := by
 show (W.heap.modify g _)[k]? = _
 rw [Array.getElem?_modify, if_neg (fun e => h e.symm)]
theorem below_setRow {B : Nat} {w W : World} (hb : Below B w W) {g : Nat} (hg : B ≤ g) (cs : Array Value) : Below B w (W.setRow g cs) :=
 ⟨hb.os, hb.tape, hb.output, by rw [setRow_size]; exact hb.size, fun k hk => (setRow_heap_ne W g k cs (by omega)).trans (hb.block k hk)⟩
theorem Blk.other {W : World} {g g' : Nat} {t : TypeId} {cs : Array Value} (h : Blk W g t cs) (hn : g ≠ g') (cs' : Array Value) : Blk (W.setRow g' cs') g t cs := (setRow_heap_ne W g' g cs' hn).trans h
theorem Blk.put {W : World} {g : Nat} {t : TypeId} {cs : Array Value} (h : Blk W g t cs) (i : Nat) (v : Value) : Blk (W.setCell ⟨g, i, none⟩ v) g t (cs.setIfInBounds i v) := by
 rw [setCell_eq_setRow W g i cs t (0, 0) v h]
 exact h.set _
theorem Blk.put_other {W : World} {g g' : Nat} {t t' : TypeId} {cs cs' : Array Value} (h : Blk W g t cs) (h' : Blk W g' t' cs') (hn : g ≠ g') (i : Nat) (v : Value) : Blk (W.setCell ⟨g', i, none⟩ v) g t cs := by
 rw [setCell_eq_setRow W g' i cs' t' (0, 0) v h']
 exact h.other hn _
theorem Blk.frozen {W : World} {g : Nat} {t : TypeId} {cs : Array Value} (h : Blk W g t cs) (i : Nat) : W.frozen? ⟨g, i, none⟩ = false := by
 have h' : W.heap[g]? = some (.cells cs t (0, 0)) := h
 simp [World.frozen?, h']
/-- A whole struct out of its block. -/
theorem load_blk {W : World} {g : Nat} {t : TypeId} {cs : Array Value} (h : Blk W g t cs) {fs : _} (hu : Try.prog.underlying t = some (.struct fs)) (hi : (Try.prog.info? t).map (·.size) = some cs.size) :
  (loadVar t ⟨g, 0, none⟩).run Try.prog W = .ok (.agg cs) W := run_loadVar_row W g t t cs (0, 0) (.struct fs) h hu rfl hi
/-- The answer of a function whose one result lies in a block. -/
theorem ret_cell {R : Ending → World → Prop} {a : Act} {w : World} {g k : Nat} {t : TypeId} {cs : Array Value} (fn : Func) (hf : fn.results = #[.cell k t]) (h : Blk w g t cs) {fs : _} (hu : Try.prog.underlying t = some (.struct fs)) (hi : (Try.prog.info? t).map (·.size) = some cs.size)
  (h2 : a.tmps[k]?.getD undef = .pointer (some ⟨g, 0, none⟩)) (hdf : a.defers = []) (hR : R (.returned (.agg cs)) w) : bodyPost Try.prog fn R .ret a w := by
 refine bodyPost_ret (v := .agg cs) ?_ hdf hR
 have hl := load_blk h hu hi
 simp [results, hf, h2, asAddr, hl, Array.mapM_eq_mapM_toList]
theorem ret_cell_tmp {R : Ending → World → Prop} {a : Act} {w : World} {g k j : Nat} {t : TypeId} {cs : Array Value} {v : Value} (fn : Func) (hf : fn.results = #[.cell k t, .tmp j]) (h : Blk w g t cs) {fs : _} (hu : Try.prog.underlying t = some (.struct fs)) (hi : (Try.prog.info? t).map (·.size) = some cs.size)
  (h2 : a.tmps[k]?.getD undef = .pointer (some ⟨g, 0, none⟩)) (h3 : a.tmps[j]?.getD undef = v) (hdf : a.defers = []) (hR : R (.returned (.tuple #[.agg cs, v])) w) : bodyPost Try.prog fn R .ret a w := by
 refine bodyPost_ret (v := .tuple #[.agg cs, v]) ?_ hdf hR
 have hl := load_blk h hu hi
 simp [results, hf, h2, h3, asAddr, hl, Array.mapM_eq_mapM_toList]
theorem step_store_blk {ops : Array Oper} {o : Oper} {ac : Act} {K : Act → World → Prop} {Q : Exit → Act → World → Prop} {Z : Prop} {w : World} (hgd : o.guard = none) (t : TypeId) (p x : Operand) (ho : o.op = Op.store t p x) (g : Nat) (cs old : Array Value)
  (hp : ac.eval p = .pointer (some ⟨g, 0, none⟩)) (hx : ac.eval x = .agg cs) (hb : Blk w g t old) (hi : (Try.prog.info? t).map (·.size) = some cs.size) (ho' : old.size = cs.size) (h1 : cs.all (·.oneCell') = true) (h : K (ac.put o.dst undef) (w.setRow g cs)) :
  if Region.wanted o (yielded ops ac.tmps) = true then Oper.wp Try.prog o ac w K Q else Z := by
 have hw : Region.wanted o (yielded ops ac.tmps) = true := by simp [Region.wanted, hgd]
 rw [if_pos hw]
 exact wp_store_row t p x ho g cs hp hx t old hb hi ho' h1 h
theorem load_sub {W : World} {g : Nat} {t ty : TypeId} {cs : Array Value} (h : Blk W g t cs) (k : Nat) (sub : Array Value) (hs : (cs.toList.drop k).take sub.size = sub.toList) {fs : _} (hu : Try.prog.underlying ty = some (.struct fs)) (hi : (Try.prog.info? ty).map (·.size) = some sub.size) :
  (loadVar ty ⟨g, k, none⟩).run Try.prog W = .ok (.agg sub) W := by
 have hl : (loadCells ⟨g, k, none⟩ sub.toList.length).run Try.prog W = .ok sub.toList.toArray W :=
  run_loadCells_list (P := Try.prog) W ⟨g, k, none⟩ sub.toList (fun j v hv => by
   have hadd : (⟨g, k, none⟩ : Addr).add j = ⟨g, k + j, none⟩ := Go.WideShapes.add_plain ..
   rw [hadd]
   refine h.cell (k + j) v ?_
   rw [← hs] at hv
   rw [List.getElem?_take] at hv
   split at hv
   ·rw [List.getElem?_drop] at hv
    simpa using hv
   ·cases hv)
 cases hq : Try.prog.info? ty with
 | none => simp [hq] at hi
 | some i =>
  have hs' : i.size = sub.size := by simpa [hq] using hi
  have hagg : (isAgg ty).run Try.prog W = .ok true W := by
   unfold isAgg
   rw [Sem.run_bind, run_underlying hu W]
   rfl
  simp only [Array.length_toList, Array.toArray_toList] at hl
  simp [loadVar, Sem.run_bind, hagg, sizeOf, typeInfo, hq, hs', hl]
theorem wpList_load_sub_w {ops : Array Oper} {rest : List Oper} {o : Oper} {ac : Act} {w : World} {Q : Exit → Act → World → Prop} (hw : Region.wanted o (yielded ops ac.tmps) = true) (ty : TypeId) (p : Operand) (ho : o.op = Op.load ty p) (g k : Nat) (t : TypeId) (hp : ac.eval p = .pointer (some ⟨g, k, none⟩)) (cs sub : Array Value)
  (hb : Blk w g t cs) (hs : (cs.toList.drop k).take sub.size = sub.toList) {fs : _} (hu : Try.prog.underlying ty = some (.struct fs)) (hi : (Try.prog.info? ty).map (·.size) = some sub.size) (h : wpList Try.prog ops Q rest (ac.put o.dst (.agg sub)) w) : wpList Try.prog ops Q (o :: rest) ac w := by
 refine wpList_step fun K hK => ?_
 rw [if_pos hw]
 have hl := load_sub hb k sub hs hu hi
 unfold Oper.wp
 simp [execOp, ho, hp, Instr.loadAt, Instr.sureAddr, hl, Result.andThen]
 exact hK _ _ h
theorem wpList_load_blk_w {ops : Array Oper} {rest : List Oper} {o : Oper} {ac : Act} {w : World} {Q : Exit → Act → World → Prop} (hw : Region.wanted o (yielded ops ac.tmps) = true) (ty : TypeId) (x : Operand) (ho : o.op = .load ty x)
  (g : Nat) (hx : ac.eval x = .pointer (some ⟨g, 0, none⟩)) (cs : Array Value) (hg : Blk w g ty cs) {fs : _} (hu : Try.prog.underlying ty = some (.struct fs)) (hi : (Try.prog.info? ty).map (·.size) = some cs.size)
  (h : wpList Try.prog ops Q rest (ac.put o.dst (.agg cs)) w) : wpList Try.prog ops Q (o :: rest) ac w :=
 wpList_step fun K hK => by rw [if_pos hw]; exact wp_load_row ty x ho g hx ty cs (0, 0) (.struct fs) hg hu rfl hi (hK _ _ h)
theorem yieldsIf_sub_w {ops : Array Oper} {S : World → Prop} {o : Oper} {ac : Act} (hw : Region.wanted o (yielded ops ac.tmps) = true) (ty : TypeId) (p : Operand) (ho : o.op = Op.load ty p) (g k : Nat) (t : TypeId) (hp : ac.eval p = .pointer (some ⟨g, k, none⟩)) (cs sub : Array Value)
  (hS : ∀ w, S w → Blk w g t cs) (hs : (cs.toList.drop k).take sub.size = sub.toList) {fs : _} (hu : Try.prog.underlying ty = some (.struct fs)) (hi : (Try.prog.info? ty).map (·.size) = some sub.size) : YieldsIf Try.prog ops S o (.agg sub) ac := by
 refine .inl ⟨hw, fun w hw' => ?_⟩
 have hl := load_sub (hS w hw') k sub hs hu hi
 simp [execOp, ho, hp, Instr.loadAt, Instr.sureAddr, hl, Result.andThen]
theorem blk_nw {W W' : World} {cs : Array Value} {t : TypeId} (e : W.alloc (.cells cs t) = W') : Blk W' W.heap.size t cs := e ▸ blk_new _ _ _
theorem Blk.al {W W' : World} {g : Nat} {t : TypeId} {cs : Array Value} {o : Obj} (h : Blk W g t cs) (e : W.alloc o = W') : Blk W' g t cs := e ▸ h.alloc _
theorem bel_nw {w W : World} {o : Obj} (e : w.alloc o = W) : Below w.heap.size w W := e ▸ (Below.refl _ _).alloc (Nat.le_refl _) _
theorem bel_al {w W W' : World} {o : Obj} (h : Below w.heap.size w W) (e : W.alloc o = W') : Below w.heap.size w W' := e ▸ h.alloc h.size _
theorem bel_tr {w W W' : World} (h : Below w.heap.size w W) (k : Below W.heap.size W W') : Below w.heap.size w W' := h.trans (k.mono h.size)
end Go.Proofs.Ytfiembbmgdmagaa
namespace Go.Proofs.Ytfiembbmgdmagaa
open Go.RowKit
theorem qpu : (∀ (a : Act) (d : Tmp) (v : Value), a.put (some d) v = { a with tmps := a.tmps.setIfInBounds d v }) ∧ (∀ (a : Act) (v : Value), a.put none v = a) ∧ (∀ (l : List Value) (i : Nat) (v : Value), l.toArray.setIfInBounds i v = (l.set i v).toArray) ∧ (∀ (a b : Value) (l : List Value), (a :: l).set 0 b = b :: l) ∧ (∀ (a b : Value) (l : List Value) (i : Nat), (a :: l).set (i + 1) b = a :: l.set i b) :=
 ⟨fun _ _ _ => rfl, fun _ _ => rfl, fun _ _ _ => List.setIfInBounds_toArray .., fun _ _ _ => rfl, fun _ _ _ _ => rfl⟩
theorem qtk {P : Program} {md : Region.Mode} {ops : Array Oper} {Q : Exit → Act → World → Prop} {S : World → Prop} {i : Nat} {oi : Oper} {v : Value} {fuel : Nat} {listed : Array Bool} {a : Act} {w : World} (hS : S w)
  (hv : ∀ w, S w → (execOp a.eval oi).run P w = .ok (.value v) w) (h : wpAnyH P md ops Q S fuel (listed.setIfInBounds i true) (a.put oi.dst v) w) (hi : ops[i]? = some oi := by rfl)
  (hs : Region.noSelect ops = true := by kernel_rfl) (hf : Region.free md ops listed i = true := by kernel_rfl) (hr : (Region.ready md ops listed).contains i = true := by kernel_rfl)
  (hQ : ∀ c a w, Q (.panic c) (a.put oi.dst v) w → Q (.panic c) a w := by exact fun _ _ _ h => h) (hw : Region.wanted oi (yielded ops a.tmps) = true := by rfl) : wpAnyH P md ops Q S (fuel + 1) listed a w :=
 wpAnyH_take hi hs hf hr hQ (Or.inl ⟨hw, hv⟩) hS h
theorem qty {P : Program} {md : Region.Mode} {ops : Array Oper} {Q : Exit → Act → World → Prop} {S : World → Prop} {i : Nat} {oi : Oper} {v : Value} {fuel : Nat} {listed : Array Bool} {a : Act} {w : World} (hy : YieldsIf P ops S oi v a) (hS : S w)
  (h : wpAnyH P md ops Q S fuel (listed.setIfInBounds i true) (a.put oi.dst v) w) (hi : ops[i]? = some oi := by rfl)
  (hs : Region.noSelect ops = true := by kernel_rfl) (hf : Region.free md ops listed i = true := by kernel_rfl) (hr : (Region.ready md ops listed).contains i = true := by kernel_rfl)
  (hQ : ∀ c a w, Q (.panic c) (a.put oi.dst v) w → Q (.panic c) a w := by exact fun _ _ _ h => h) : wpAnyH P md ops Q S (fuel + 1) listed a w :=
 wpAnyH_take hi hs hf hr hQ hy hS h
theorem qtn {P : Program} {md : Region.Mode} {ops : Array Oper} {Q : Exit → Act → World → Prop} {S : World → Prop} {i : Nat} {oi : Oper} {fuel : Nat} {listed : Array Bool} {a : Act} {w : World} (hS : S w)
  (h : wpAnyH P md ops Q S fuel (listed.setIfInBounds i true) (a.put oi.dst undef) w) (hi : ops[i]? = some oi := by rfl)
  (hs : Region.noSelect ops = true := by kernel_rfl) (hf : Region.free md ops listed i = true := by kernel_rfl) (hr : (Region.ready md ops listed).contains i = true := by kernel_rfl)
  (hQ : ∀ c a w, Q (.panic c) (a.put oi.dst undef) w → Q (.panic c) a w := by exact fun _ _ _ h => h) (hw : Region.wanted oi (yielded ops a.tmps) = false := by rfl) : wpAnyH P md ops Q S (fuel + 1) listed a w :=
 wpAnyH_take hi hs hf hr hQ (Or.inr ⟨hw, rfl⟩) hS h
end Go.Proofs.Ytfiembbmgdmagaa
namespace Go.Proofs.Ytfiembbmgdmagaa
open Go.RowKit
set_option linter.unusedVariables false
theorem yieldsIf_blk_w {ops : Array Oper} {S : World → Prop} {o : Oper} {ac : Act} (hw : Region.wanted o (yielded ops ac.tmps) = true) (t : TypeId) (p : Operand) (ho : o.op = Op.load t p) (g : Nat) (hp : ac.eval p = .pointer (some ⟨g, 0, none⟩)) (cs : Array Value)
  (hS : ∀ w, S w → Blk w g t cs) {fs : _} (hu : Try.prog.underlying t = some (.struct fs)) (hi : (Try.prog.info? t).map (·.size) = some cs.size) : YieldsIf Try.prog ops S o (.agg cs) ac := by
 refine .inl ⟨hw, fun w hw' => ?_⟩
 have hl := load_blk (hS w hw') hu hi
 simp [execOp, ho, hp, Instr.loadAt, Instr.sureAddr, hl, Result.andThen]
end Go.Proofs.Ytfiembbmgdmagaa
namespace Go.Proofs.Ytfiembbmgdmagaa
open Go.RowKit
set_option linter.unusedVariables false
set_option linter.unusedSimpArgs false
/-- A stream: its state, of each side what comes next, how far it may go, whether it is known, and has ended. -/
structure Cn where
 st : Int
 n0 : Int
 n1 : Int
 e0 : Int
 e1 : Int
 k0 : Bool
 k1 : Bool
 d0 : Bool
 d1 : Bool
abbrev Cn.v (c : Cn) : Array Value := #[.int .i64 c.st, .int .u32 c.n0, .int .u32 c.n1, .int .u32 c.e0, .int .u32 c.e1, .bool c.k0, .bool c.k1, .bool c.d0, .bool c.d1]
/-- A segment. -/
structure Gt where
 fl : Int
 win : Int
 sz : Int
 sq : Int
 ak : Int
abbrev Gt.v (g : Gt) : Array Value := #[.int .i64 g.fl, .int .i64 g.win, .int .i64 g.sz, .int .u32 g.sq, .int .u32 g.ak]
def cn0 : Cn := ⟨0, 0, 0, 0, 0, false, false, false, false⟩
def flB (f k : Int) : Bool := bits .and .i64 f k != 0
def frB (a b : Int) : Bool := decide ((a - b) % 4294967296 < 2147483648)
def inB15 (n : Int) : Bool := decide (0 ≤ n) && decide (n ≤ 65535)
def bN (b : Bool) : Int := if b then 1 else 0
def Gt.e (g : Gt) : Int := (g.sq + g.sz + bN (flB g.fl 2) + bN (flB g.fl 1)) % 4294967296
def Gt.lim (g : Gt) : Int := (g.ak + g.win) % 4294967296
def wiB (n x l : Int) : Bool := frB n ((x - 65535) % 4294967296) && frB l n
def stOf (a b : Bool) : Int := if a && b then 5 else if a || b then 4 else 3
def Cn.right (c : Cn) : Bool :=
 if c.st == 1 then c.k0 && (!c.k1 && (!c.d0 && !c.d1))
 else if c.st == 2 then c.k0 && (c.k1 && (!c.d0 && !c.d1))
 else if c.st == 3 || (c.st == 4 || c.st == 5) then c.k0 && (c.k1 && c.st == stOf c.d0 c.d1)
 else if c.st == 6 then c.k0 else false
/-- Of the two sides: false the one that began. -/
def Cn.nx (c : Cn) (s : Bool) : Int := if s then c.n1 else c.n0
def Cn.ed (c : Cn) (s : Bool) : Int := if s then c.e1 else c.e0
def Cn.kn (c : Cn) (s : Bool) : Bool := if s then c.k1 else c.k0
def sdI (s : Bool) : Int := if s then 1 else 0
def Cn.win (c : Cn) (s : Bool) (g : Gt) : Bool := c.kn s && wiB g.e (c.nx s) (c.ed s)
def Cn.rst (c : Cn) (s : Bool) (g : Gt) : Option Cn :=
 if c.win s g || (s && (c.st == 1 && (flB g.fl 16 && g.ak == c.n0))) then some { c with st := 6 } else none
def Cn.ans (c : Cn) (g : Gt) : Cn := { c with st := 2, k1 := true, n1 := g.e, e0 := g.lim, e1 := (g.e + c.e1) % 4294967296 }
def Cn.syn (c : Cn) (s : Bool) (g : Gt) : Option Cn :=
 if flB g.fl 1 || g.sz != 0 then none
 else if s = false then (if c.st == 1 && (!flB g.fl 16 && g.e == c.n0) then some c else none)
 else if !flB g.fl 16 || g.ak != c.n0 then none
 else if c.st == 1 then some (c.ans g)
 else if c.st == 2 && g.e == c.n1 then some c else none
/-- Behind bytes: E the end, L how far the other side may go; P, O: do they count? F: is it the last of this side? -/
def Cn.byR (c : Cn) (s : Bool) (E L : Int) (P O F : Bool) : Cn :=
 ⟨stOf (if !s && F then true else c.d0) (if s && F then true else c.d1), if !s && P then E else c.n0, if s && P then E else c.n1, if s && O then L else c.e0, if !s && O then L else c.e1, c.k0, c.k1, if !s && F then true else c.d0, if s && F then true else c.d1⟩
def Cn.byt (c : Cn) (s : Bool) (g : Gt) : Option Cn :=
 if c.win s g && wiB g.ak (c.nx (!s)) (c.nx (!s)) then some (c.byR s g.e g.lim (frB g.e (c.nx s)) (frB g.lim (c.ed (!s))) (flB g.fl 1)) else none
def Cn.take (c : Cn) (s : Bool) (g : Gt) : Option Cn :=
 if flB g.fl 4 then c.rst s g
 else if c.st == 6 then none
 else if flB g.fl 2 then c.syn s g
 else if !flB g.fl 16 || (c.st == 1 || (s && c.st == 2)) then none
 else c.byt s g
def Cn.stp (c : Cn) (s : Bool) (g : Gt) : Cn × Int := if c.right && (inB15 g.win && inB15 g.sz) then (match c.take s g with | some d => (d, 0) | none => (cn0, 23)) else (cn0, 1)
def Cn.step (c : Cn) (i : Int) (g : Gt) : Cn × Int := if i == 0 then c.stp false g else if i == 1 then c.stp true g else (cn0, 1)
def Cn.life (c : Cn) : Int := if c.right then (if c.st == 3 then 3600 else if c.st == 4 then 60 else if c.st == 6 then 1 else 30) else 0
def beg (f sq win sz : Int) : Cn × Int :=
 if inB15 win && inB15 sz then (if bits .and .i64 f 23 == 2 && sz == 0 then (⟨1, (sq + 1) % 4294967296, 0, (sq + 1) % 4294967296, win % 4294967296, true, false, false, false⟩, 0) else (cn0, 23)) else (cn0, 1)
theorem stOf_cases (a b : Bool) : stOf a b = 3 ∨ stOf a b = 4 ∨ stOf a b = 5 := by cases a <;> cases b <;> simp [stOf]
theorem right_known {c : Cn} (h : c.right = true) : c.k0 = true := by
 unfold Cn.right at h
 repeat' split at h
 all_goals simp_all
theorem right_open {c : Cn} (h : c.right = true) (h1 : (c.st == 1) = false) (h6 : (c.st == 6) = false) : c.k0 = true ∧ c.k1 = true := by
 unfold Cn.right at h
 repeat' split at h
 all_goals simp_all
theorem right_syn {c : Cn} (h : c.right = true) (h1 : (c.st == 1) = true) : c.k0 = true ∧ c.k1 = false ∧ c.d0 = false ∧ c.d1 = false := by
 unfold Cn.right at h
 rw [h1] at h
 simpa using h
theorem take_right {c d : Cn} {s : Bool} {g : Gt} (h : c.right = true) (ht : c.take s g = some d) : d.right = true ∧ ((c.st == 6) = true → flB g.fl 4 = true ∧ d.st = 6) := by
 unfold Cn.take at ht
 cases h4 : flB g.fl 4 with
 | true =>
  rw [h4] at ht
  simp only [if_true] at ht
  unfold Cn.rst at ht
  split at ht
  ·simp only [Option.some.injEq] at ht
   subst ht
   exact ⟨by simp [Cn.right, right_known h], fun _ => ⟨rfl, rfl⟩⟩
  ·cases ht
 | false =>
  rw [h4] at ht
  cases h6 : (c.st == 6) with
  | true => simp [h6] at ht
  | false =>
   refine ⟨?_, fun e => by cases e⟩
   simp only [h6, Bool.false_eq_true, if_false] at ht
   cases h2 : flB g.fl 2 with
   | true =>
    simp only [h2, if_true] at ht
    unfold Cn.syn at ht
    split at ht
    ·cases ht
    ·split at ht
     ·split at ht
      ·simp only [Option.some.injEq] at ht; subst ht; exact h
      ·cases ht
     ·split at ht
      ·cases ht
      ·split at ht
       ·rename_i h1
        simp only [Option.some.injEq] at ht
        subst ht
        obtain ⟨q0, q1, q2, q3⟩ := right_syn h h1
        simp [Cn.right, Cn.ans, q0, q2, q3]
       ·split at ht
        ·simp only [Option.some.injEq] at ht; subst ht; exact h
        ·cases ht
   | false =>
    simp only [h2, Bool.false_eq_true, if_false] at ht
    split at ht
    ·cases ht
    ·rename_i hn
     have h1 : (c.st == 1) = false := by
      cases q : (c.st == 1) with
      | false => rfl
      | true => simp [q] at hn
     unfold Cn.byt at ht
     split at ht
     ·simp only [Option.some.injEq] at ht
      subst ht
      obtain ⟨q0, q1⟩ := right_open h h1 h6
      unfold Cn.right Cn.byR
      simp only [q0, q1, Bool.true_and, beq_self_eq_true]
      rcases stOf_cases (if (!s && flB g.fl 1) = true then true else c.d0) (if (s && flB g.fl 1) = true then true else c.d1) with e | e | e <;> rw [e] <;> simp
     ·cases ht
theorem stp_ok {c d : Cn} {s : Bool} {g : Gt} (h : c.stp s g = (d, 0)) : c.take s g = some d := by
 unfold Cn.stp at h
 split at h
 ·cases ht : c.take s g with
  | none => rw [ht] at h; simp at h
  | some x => rw [ht] at h; simp at h; rw [h]
 ·simp at h
theorem step_right {c d : Cn} {i : Int} {g : Gt} (h : c.right = true) (hs : c.step i g = (d, 0)) : d.right = true ∧ ((c.st == 6) = true → flB g.fl 4 = true ∧ d.st = 6) := by
 unfold Cn.step at hs
 split at hs
 ·exact take_right h (stp_ok hs)
 ·split at hs
  ·exact take_right h (stp_ok hs)
  ·simp at hs
/-- Numbers within 32 bits. -/
structure Cn.in32 (c : Cn) : Prop where
 n0 : 0 ≤ c.n0 ∧ c.n0 < 4294967296
 n1 : 0 ≤ c.n1 ∧ c.n1 < 4294967296
 e0 : 0 ≤ c.e0 ∧ c.e0 < 4294967296
 e1 : 0 ≤ c.e1 ∧ c.e1 < 4294967296
structure Gt.in32 (g : Gt) : Prop where
 sq : 0 ≤ g.sq ∧ g.sq < 4294967296
 ak : 0 ≤ g.ak ∧ g.ak < 4294967296
def cmp3 (x y : Int) : Int := if x < y then -1 else if y < x then 1 else 0
def Ad.order (a b : Ad) : Int := if cmp3 a.fam b.fam = 0 then (if cmp3 a.hi b.hi = 0 then cmp3 a.lo b.lo else cmp3 a.hi b.hi) else cmp3 a.fam b.fam
/-- The box of an address stands. -/
structure Boxed (w w' : World) (f h l : Int) : Prop where
 a0 : w'.cell? ⟨w.heap.size, 0, none⟩ = some (.int .i64 f)
 a1 : w'.cell? ⟨w.heap.size, 1, none⟩ = some (.int .u64 h)
 a2 : w'.cell? ⟨w.heap.size, 2, none⟩ = some (.int .u64 l)
 bel : Below w.heap.size w w'
 size : w.heap.size < w'.heap.size
theorem Boxed.below {w w' w'' : World} {f h l : Int} (x : Boxed w w' f h l) (hb : Below (w.heap.size + 1) w' w'') : Boxed w w'' f h l :=
  ⟨(hb.cell (p := ⟨w.heap.size, 0, none⟩) (by simp)).trans x.a0, (hb.cell (p := ⟨w.heap.size, 1, none⟩) (by simp)).trans x.a1, (hb.cell (p := ⟨w.heap.size, 2, none⟩) (by simp)).trans x.a2,
   x.bel.trans (hb.mono (by omega)), by have := x.size; have := hb.size; omega⟩
/-- A rule, as its numbers. -/
structure Rl where
 fr : Int
 tz : Int
 s : Ad
 sn : Int
 d : Ad
 dn : Int
 pr : Int
 sl : Int
 sh : Int
 dl : Int
 dh : Int
 ac : Int
 he : Int
abbrev Rl.v (r : Rl) : Array Value := #[.int .i64 r.fr, .int .i64 r.tz, .int .i64 r.s.fam, .int .u64 r.s.hi, .int .u64 r.s.lo, .int .i64 r.sn, .int .i64 r.d.fam, .int .u64 r.d.hi, .int .u64 r.d.lo, .int .i64 r.dn, .int .i64 r.pr, .int .i64 r.sl, .int .i64 r.sh, .int .i64 r.dl, .int .i64 r.dh, .int .i64 r.ac, .int .i64 r.he]
structure Rl.ok (r : Rl) : Prop where
 s : r.s.ok
 d : r.d.ok
/-- A key, as its numbers. -/
structure Ky where
 fr : Int
 tz : Int
 s : Ad
 d : Ad
 pr : Int
 sp : Int
 dp : Int
abbrev Ky.v (k : Ky) : Array Value := #[.int .i64 k.fr, .int .i64 k.tz, .int .i64 k.s.fam, .int .u64 k.s.hi, .int .u64 k.s.lo, .int .i64 k.d.fam, .int .u64 k.d.hi, .int .u64 k.d.lo, .int .i64 k.pr, .int .i64 k.sp, .int .i64 k.dp]
structure Ky.ok (k : Ky) : Prop where
 s : k.s.ok
 d : k.d.ok
def inB (n lo hi : Int) : Bool := decide (lo ≤ n) && decide (n ≤ hi)
def zeroP (a : Ad) (n : Int) : Bool := a.fam == 0 && (a.hi == 0 && (a.lo == 0 && n == 0))
def netB (a : Ad) (n : Int) : Bool := zeroP a n || a.rightPrefix n
def hasB (a : Ad) (n : Int) (x : Ad) : Bool := zeroP a n || a.has n x
def portB (lo hi : Int) : Bool := decide (0 ≤ lo) && (decide (lo ≤ hi) && decide (hi ≤ 65535))
def Ky.right (k : Ky) : Bool := inB k.fr 0 15 && (inB k.tz 0 15 && (k.s.right && (k.d.right && ((k.s.fam == k.d.fam) && (inB k.pr 0 255 && (inB k.sp 0 65535 && inB k.dp 0 65535))))))
def Rl.right (r : Rl) : Bool := inB r.fr (-1) 15 && (inB r.tz (-1) 15 && (netB r.s r.sn && (netB r.d r.dn && (inB r.pr 0 255 && (portB r.sl r.sh && (portB r.dl r.dh && ((r.ac == 0 || r.ac == 1) && inB r.he 0 3)))))))
/-- Are the parts of a key those that the rule asks for? -/
def Rl.asks (r : Rl) (k : Ky) : Bool := (decide (r.fr < 0) || r.fr == k.fr) && ((decide (r.tz < 0) || r.tz == k.tz) && (hasB r.s r.sn k.s && (hasB r.d r.dn k.d && ((r.pr == 0 || r.pr == k.pr) && (inB k.sp r.sl r.sh && inB k.dp r.dl r.dh)))))
end Go.Proofs.Ytfiembbmgdmagaa
