/- Texts joined: BlkB TuP WkA -/
import Derived.Test.YtnadfacbfcdkgaaDoorFsa12
import Derived.Maps.Ext
import Derived.Deep.RegionHeld3
namespace Go.Proofs.YtnadfacbfcdkgaaDoor
open Go.RowKit
set_option linter.unusedVariables false
set_option linter.unusedSimpArgs false
/-- w' is w but for the blocks F, and new ones. -/
structure But (F : Nat → Prop) (w w' : World) : Prop where
  os : w'.os = w.os
  tape : w'.tape = w.tape
  output : w'.output = w.output
  size : w.heap.size ≤ w'.heap.size
  block : ∀ k, k < w.heap.size → ¬ F k → w'.heap[k]? = w.heap[k]?
theorem But.refl (F : Nat → Prop) (w : World) : But F w w := ⟨rfl, rfl, rfl, Nat.le_refl _, fun _ _ _ => rfl⟩
theorem But.trans {F F' : Nat → Prop} {a b c : World} (h : But F a b) (k : But F' b c) (hf : ∀ n, n < a.heap.size → F' n → F n) : But F a c :=
  ⟨k.os.trans h.os, k.tape.trans h.tape, k.output.trans h.output, Nat.le_trans h.size k.size, fun i hi hn => (k.block i (Nat.lt_of_lt_of_le hi h.size) (fun x => hn (hf i hi x))).trans (h.block i hi hn)⟩
theorem But.of_below {w w' : World} (h : Below w.heap.size w w') (F : Nat → Prop) : But F w w' := ⟨h.os, h.tape, h.output, h.size, fun k hk _ => h.block k hk⟩
theorem But.below {F : Nat → Prop} {a b c : World} (h : But F a b) (k : Below b.heap.size b c) : But F a c := h.trans (F' := fun _ => False) (But.of_below k _) (fun _ _ x => x.elim)
theorem But.setRow {F : Nat → Prop} {a b : World} (h : But F a b) (g : Nat) (hg : F g ∨ a.heap.size ≤ g) (cs : Array Value) : But F a (b.setRow g cs) :=
  h.trans (F' := fun k => k = g) ⟨rfl, rfl, rfl, by simp [World.setRow], fun k hk hn => setRow_heap_ne b g k cs hn⟩ (fun n hn e => by subst e; rcases hg with x | x; exact x; omega)
theorem But.setCell {F : Nat → Prop} {a b : World} (h : But F a b) (g i : Nat) (hg : F g ∨ a.heap.size ≤ g) (v : Value) : But F a (b.setCell ⟨g, i, none⟩ v) :=
  h.trans (F' := fun k => k = g) ⟨rfl, rfl, rfl, by simp [World.setCell], fun k hk hn => Below.heap_setCell _ _ _ _ hn⟩ (fun n hn e => by subst e; rcases hg with x | x; exact x; omega)
theorem But.grown {F : Nat → Prop} {a b c : World} {r : Option Nat} (h : But F a b) (k : b.grownBy c r) (hr : ∀ n, r = some n → F n ∨ a.heap.size ≤ n) : But F a c :=
  h.trans (F' := fun k => r = some k) ⟨k.os, k.tape, k.output, k.size, fun i hi hn => k.block i hi (fun e => hn e.symm)⟩ (fun n hn e => by rcases hr n e with x | x; exact x; omega)
theorem But.cell {F : Nat → Prop} {w w' : World} (h : But F w w') {b i : Nat} {v : Value} (hn : ¬ F b) (hc : w.cell? ⟨b, i, none⟩ = some v) : w'.cell? ⟨b, i, none⟩ = some v :=
  (World.cell?_of_block (h.block b (World.block_lt_of_cell? w _ hc) hn)).trans hc
/-- A way: its family, its protocol, its ends and their ports. -/
structure Wy where
  fam : Int
  pr : Int
  s : Ad
  d : Ad
  sp : Int
  dp : Int
abbrev Wy.v (t : Wy) : Array Value := #[.int .i64 t.fam, .int .i64 t.pr, .int .i64 t.s.fam, .int .u64 t.s.hi, .int .u64 t.s.lo, .int .i64 t.d.fam, .int .u64 t.d.hi, .int .u64 t.d.lo, .int .i64 t.sp, .int .i64 t.dp]
structure Wy.ok (t : Wy) : Prop where
  s : t.s.ok
  d : t.d.ok
def sideB (f : Int) (a : Ad) (p : Int) : Bool := a.fam == f && (a.right && (decide (0 ≤ p) && decide (p ≤ 65535)))
/-- The name of a protocol. -/
def nameB (f p : Int) : List UInt8 := if p = 6 then [116, 99, 112] else if p = 17 then [117, 100, 112] else if p = 1 ∧ f = 4 then [105, 99, 109, 112] else if p = 58 ∧ f = 6 then [105, 99, 109, 112, 54] else []
def Wy.right (t : Wy) : Bool := sideB t.fam t.s t.sp && (sideB t.fam t.d t.dp && (nameB t.fam t.pr != []))
def Wy.row (t : Wy) : List Int := [t.fam, t.pr, t.s.fam, t.s.hi, t.s.lo, t.d.fam, t.d.hi, t.d.lo, t.sp, t.dp]
theorem retB_fw {a b : Bool} (h : a = b) : Ending.returned (.bool a) = Ending.returned (.bool b) := by rw [h]
theorem but_al {F : Nat → Prop} {w W W' : World} {o : Obj} (h : But F w W) (e : W.alloc o = W') : But F w W' := h.below (bel_nw e)
theorem But.drew {F : Nat → Prop} {w W : World} (h : But F w W) : But F w W.drew := h.below (Below.refl _ _).drew
theorem But.al {F : Nat → Prop} {w W W' : World} {o : Obj} (h : But F w W) (e : W.alloc o = W') : But F w W' := but_al h e
theorem But.kept {F : Nat → Prop} {w W W' : World} (h : But F w W) (b : Below W.heap.size W W') : But F w W' := h.below b
theorem But.other {F : Nat → Prop} {w W : World} (h : But F w W) {g : Nat} (hg : F g ∨ w.heap.size ≤ g) (cs : Array Value) : But F w (W.setRow g cs) := h.setRow g hg cs
theorem But.own {F : Nat → Prop} {w a b : World} (h : But F w a) (bl : Below w.heap.size a b) : But F w b := ⟨bl.os.trans h.os, bl.tape.trans h.tape, bl.output.trans h.output, Nat.le_trans h.size bl.size, fun k hk hn => (bl.block k hk).trans (h.block k hk hn)⟩
end Go.Proofs.YtnadfacbfcdkgaaDoor
