/- Texts joined: Pre MaskLaw Frm Ord App Byt Back RBit RByt Room -/
import Derived.Test.YtgppfkbapieneaaDoorCfx2
import Derived.Deep.QuietTactic
import Derived.BigQuiet
import Derived.Deep.RegionHeld3
import Derived.WalkKit
import Derived.Laws.AppendOwn
import Derived.Laws.AppendOwnNone
import Derived.Laws.OwnMore
import Derived.OwnWalk
import Derived.KernelRfl
import Derived.Laws.BytesArg
import Derived.Laws.MakeOwn
import Derived.RegionTactic
import Derived.BigRegion
import Derived.Deep.DeepCutAuto
namespace Go.Proofs.YtgppfkbapieneaaDoor
open Go.RowKit
set_option linter.unusedVariables false
set_option linter.unusedSimpArgs false
theorem kept {W w1 : World} {b o : Nat} {v : Value} (hb : Below W.heap.size W w1) (h : W.cell? ⟨b, o, none⟩ = some v) : w1.cell? ⟨b, o, none⟩ = some v :=
  (hb.cell (World.block_lt_of_cell? W _ h)).trans h
theorem kept_alloc {W w1 : World} {b o : Nat} {v : Value} (hb : Below W.heap.size W w1) (X : Obj) (h : W.cell? ⟨b, o, none⟩ = some v) : (w1.alloc X).cell? ⟨b, o, none⟩ = some v :=
  kept (hb.alloc hb.size X) h
/-- Are they one address? -/
def Ad.same (a b : Ad) : Bool := a.fam == b.fam && (a.hi == b.hi && a.lo == b.lo)
theorem Ad.same_iff {a b : Ad} : a.same b = true ↔ a = b := by
  cases a; cases b; simp [Ad.same]
def Ad.has (p : Ad) (n : Int) (a : Ad) : Bool := (a.mask n).2 == 0 && (a.mask n).1.same p
def Ad.rightPrefix (p : Ad) (n : Int) : Bool := p.has n p
set_option maxHeartbeats 400000 in
theorem rightPrefix_any (f h l b : Int) (w : World) (ho : Ad.ok ⟨f, h, l⟩) :
    Calls Tryd.prog 77 #[.agg #[.int .i64 f, .int .u64 h, .int .u64 l, .int .i64 b]] w fun e w' =>
      e = .returned (.bool (Ad.rightPrefix ⟨f, h, l⟩ b)) ∧ Below w.heap.size w w' := by
  unfold Ad.rightPrefix Ad.has
  have hm := fun w => mask_any f h l b w ho
  generalize Ad.mask ⟨f, h, l⟩ b = m at *
  obtain ⟨⟨mf, mh, ml⟩, me⟩ := m
  simp only at hm
  go_enter Tryd.func77, Tryd.ntmps77
  go_wp2_with fail
  refine (hm _).mono ?_
  rintro e w1 ⟨rfl, b1⟩
  have k0 : ∀ X, (w1.alloc X).cell? ⟨w.heap.size, 0, none⟩ = some (.int .i64 f) := fun X => kept_alloc b1 X (by simp)
  have k1 : ∀ X, (w1.alloc X).cell? ⟨w.heap.size, 1, none⟩ = some (.int .u64 h) := fun X => kept_alloc b1 X (by simp)
  have k2 : ∀ X, (w1.alloc X).cell? ⟨w.heap.size, 2, none⟩ = some (.int .u64 l) := fun X => kept_alloc b1 X (by simp)
  have bz : w.heap.size ≤ w1.heap.size := by have := b1.size; simp at this; omega
  by_cases he : me = 0
  · go_wp2
    all_goals go_ret
    all_goals exact ⟨by first | simp_all [Ad.same] | simp [Ad.same, *], (((Below.refl _ _).alloc (Nat.le_refl _) _).trans (b1.mono (by simp))).alloc bz _⟩
  · go_wp2
    go_ret
    exact ⟨by simp [he], (((Below.refl _ _).alloc (Nat.le_refl _) _).trans (b1.mono (by simp))).alloc bz _⟩
end Go.Proofs.YtgppfkbapieneaaDoor
namespace Go.Proofs.YtgppfkbapieneaaDoor
set_option linter.unusedVariables false
theorem has_iff {p a : Ad} {n : Int} : Ad.has p n a = true ↔ a.fits n = true ∧ a.masked n = p := by
  unfold Ad.has
  by_cases hf : a.fits n = true
  · rw [mask_good hf]
    simp only [Bool.and_eq_true, beq_self_eq_true, true_and, Ad.same_iff, hf]
  · have hf' : a.fits n = false := by simpa using hf
    rw [mask_bad hf']
    simp [hf']
end Go.Proofs.YtgppfkbapieneaaDoor
namespace Go.Proofs.YtgppfkbapieneaaDoor
open Go.RowKit
set_option linter.unusedVariables false
set_option linter.unusedSimpArgs false
theorem wraps_u64 (n : Int) (h₀ : 0 ≤ n) (h₁ : n < 2 ^ 64) : IntKind.u64.wrap n = n := by rw [IntKind.wrap_u64]; omega
def cmp3 (x y : Int) : Int := if x < y then -1 else if y < x then 1 else 0
def Ad.order (a b : Ad) : Int := if cmp3 a.fam b.fam = 0 then (if cmp3 a.hi b.hi = 0 then cmp3 a.lo b.lo else cmp3 a.hi b.hi) else cmp3 a.fam b.fam
end Go.Proofs.YtgppfkbapieneaaDoor
namespace Go.Proofs.YtgppfkbapieneaaDoor
open Go.RowKit
set_option linter.unusedVariables false
/-- The slice value v owns the bytes l, in a block of the call's own (from B on), or is nil and l empty. -/
def Owns (w : World) (B : Nat) (v : Value) (l : List Int) : Prop := w.ownsRow B 5 1 v l.length (l.map (Value.int .u8))
theorem Owns.form {w : World} {B : Nat} {v : Value} {l : List Int} (h : Owns w B v l) :
    ∃ a c, v = .slice a l.length c ∧ l.length ≤ c ∧ (a = none → c = 0) ∧ (∀ x, a = some x → B ≤ x.block ∧ x.off = 0 ∧ x.spot = none) ∧ v.ownBlock = a.map (·.block) := by
  obtain ⟨h1, h2⟩ := h
  rcases h2 with ⟨rfl, h3⟩ | ⟨g, cap, cur, rfl, h3, h4, h5, h6, h7, h8⟩
  · exact ⟨none, 0, by rw [h3], by omega, fun _ => rfl, fun _ h => (by cases h), rfl⟩
  · exact ⟨_, cap, rfl, h5, fun h => (by cases h), fun x hx => (by cases hx; exact ⟨h3, rfl, rfl⟩), rfl⟩
theorem Owns.row {w : World} {B : Nat} {a : Option Addr} {c : Nat} {l : List Int} (h : Owns w B (.slice a l.length c) l) (hs : l.length ≤ 140737488355328) (hb : M.Bytes l) : Row w a l := by
  refine ⟨hs, hb, fun hp => ?_⟩
  have h0 := h
  obtain ⟨h1, h2⟩ := h
  rcases h2 with ⟨h3, h4⟩ | ⟨g, cap, cur, h3, h4, h5, h6, h7, h8, h9⟩
  · omega
  · simp only [Value.slice.injEq] at h3
    obtain ⟨rfl, _, rfl⟩ := h3
    refine ⟨g, 0, rfl, fun i hi => ?_⟩
    have hc := World.ownsRow.cellAt (e := 5) (size := 1) h0 i (by omega)
    rw [Nat.zero_add, hc]
    simp [hi]
theorem Owns.nil (w : World) (B : Nat) : Owns w B (.slice none 0 0) [] := World.ownsRow_nil _ _ _ _
theorem Owns.alloc {w : World} {B : Nat} {v : Value} {l : List Int} (h : Owns w B v l) (o : Obj) : Owns (w.alloc o) B v l := World.ownsRow.alloc h o
theorem Owns.drewN {w : World} {B : Nat} {v : Value} {l : List Int} (h : Owns w B v l) (n : Nat) : Owns (w.drewN n) B v l := h
/-- Behind memory that only grew. -/
theorem Owns.below {w w' : World} {B : Nat} {v : Value} {l : List Int} (h : Owns w B v l) (hb : Below w.heap.size w w') : Owns w' B v l := by
  obtain ⟨h1, h2⟩ := h
  refine ⟨h1, ?_⟩
  rcases h2 with h2 | ⟨g, cap, cur, h3, h4, h5, h6⟩
  · exact .inl h2
  · refine .inr ⟨g, cap, cur, h3, h4, (hb.block g ?_).trans h5, h6⟩
    have := (Array.getElem?_eq_some_iff.1 h5).1
    exact this
/-- b[k:]. -/
theorem Row.drop {w : World} {a : Option Addr} {l : List Int} (h : Row w a l) (c k : Nat) (hc : l.length ≤ c) : Row w (if c = k then a else a.map (fun x => x.add k)) (l.drop k) := by
  have hs := h.small
  refine ⟨by simp; omega, h.bytes.drop k, fun hp => ?_⟩
  have hk : k < l.length := by simp at hp; omega
  obtain ⟨b, off, rfl, hcc⟩ := h.cells (by omega)
  rw [if_neg (by omega)]
  refine ⟨b, off + k, by simp [Go.WideShapes.add_plain], fun i hi => ?_⟩
  have hi' : k + i < l.length := by simp at hi; omega
  rw [Nat.add_assoc, hcc (k + i) hi']
  simp
theorem Row.cell {w : World} {g : Nat} {l : List Int} (h : Row w (some ⟨g, 0, none⟩) l) (i : Nat) (hi : i < l.length) : w.cell? ⟨g, i, none⟩ = some (.int .u8 (l.getD i 0)) := by
  obtain ⟨b, off, hh, hcc⟩ := h.cells (by omega)
  cases hh
  have := hcc i hi
  rwa [Nat.zero_add] at this
theorem Owns.at {w : World} {B c : Nat} {a : Option Addr} {l : List Int} (h : Owns w B (.slice a l.length c) l) (hr : Row w a l) (hp : 0 < l.length) : ∃ g, a = some ⟨g, 0, none⟩ ∧ B ≤ g := by
  obtain ⟨b, off, rfl, _⟩ := hr.cells hp
  obtain ⟨a', c', h1, _, _, h3, _⟩ := h.form
  cases h1
  have := h3 _ rfl
  simp at this
  exact ⟨b, by rw [this.2], this.1⟩
/-- A byte is written over in a slice of the call's own. -/
theorem Owns.stored {w : World} {B g c : Nat} {l : List Int} (h : Owns w B (.slice (some ⟨g, 0, none⟩) l.length c) l) (i : Nat) (y : Int) :
    Owns (w.setCell ⟨g, i, none⟩ (.int .u8 y)) B (.slice (some ⟨g, 0, none⟩) l.length c) (l.set i y) := by
  have := World.ownsRow.stored (e := 5) (size := 1) h i (.int .u8 y)
  replace this := this.1
  show World.ownsRow _ B 5 1 _ (l.set i y).length ((l.set i y).map (Value.int .u8))
  rw [List.length_set, List.map_set]
  exact this
theorem Owns.frozen {w : World} {B g c : Nat} {l : List Int} (h : Owns w B (.slice (some ⟨g, 0, none⟩) l.length c) l) (i : Nat) : w.frozen? ⟨g, i, none⟩ = false :=
  World.ownsRow.frozenAt (e := 5) (size := 1) h i
end Go.Proofs.YtgppfkbapieneaaDoor
namespace Go.Proofs.YtgppfkbapieneaaDoor
open Go.RowKit
set_option linter.unusedVariables false
set_option linter.unusedSimpArgs false
/-- The n lowest bytes of two words, the highest first. -/
def bytesGo : Nat → Int → Int → List Int
  | 0, _, _ => []
  | n + 1, h, l => bytesGo n (h / 256) (l / 256 + h * 72057594037927936 % 18446744073709551616) ++ [l % 256]
def Ad.bytes (a : Ad) : List Int := if a.right then bytesGo (if a.fam = 4 then 4 else 16) a.hi a.lo else []
end Go.Proofs.YtgppfkbapieneaaDoor
namespace Go.Proofs.YtgppfkbapieneaaDoor
set_option linter.unusedVariables false
/-- Both words as one number. -/
def num2 (h l : Int) : Int := h * 18446744073709551616 + l
end Go.Proofs.YtgppfkbapieneaaDoor
namespace Go.Proofs.YtgppfkbapieneaaDoor
open Go.RowKit
set_option linter.unusedVariables false
set_option linter.unusedSimpArgs false
/-- The address as one number, and its bits from the highest on. -/
def Ad.val (a : Ad) : Int := num2 a.hi a.lo
/-- The box of an address stands. -/
structure Boxed (w w' : World) (f h l : Int) : Prop where
  a0 : w'.cell? ⟨w.heap.size, 0, none⟩ = some (.int .i64 f)
  a1 : w'.cell? ⟨w.heap.size, 1, none⟩ = some (.int .u64 h)
  a2 : w'.cell? ⟨w.heap.size, 2, none⟩ = some (.int .u64 l)
  bel : Below w.heap.size w w'
  size : w.heap.size < w'.heap.size
theorem Boxed.below {w w' w'' : World} {f h l : Int} (x : Boxed w w' f h l) (hb : Below (w.heap.size + 1) w' w'') : Boxed w w'' f h l :=
  ⟨(hb.cell (p := ⟨w.heap.size, 0, none⟩) (by simp)).trans x.a0, (hb.cell (p := ⟨w.heap.size, 1, none⟩) (by simp)).trans x.a1, (hb.cell (p := ⟨w.heap.size, 2, none⟩) (by simp)).trans x.a2,
   x.bel.trans (hb.mono (by omega)), by have := x.size; have := hb.size; omega⟩
end Go.Proofs.YtgppfkbapieneaaDoor
namespace Go.Proofs.YtgppfkbapieneaaDoor
open Go.RowKit
set_option linter.unusedVariables false
theorem Owns.other {w : World} {B : Nat} {v : Value} {l : List Int} (h : Owns w B v l) {ad : Addr} (ha : ad.block < B) (u : Value) : Owns (w.setCell ad u) B v l := ownsRow_setCell_below h ha u
end Go.Proofs.YtgppfkbapieneaaDoor
