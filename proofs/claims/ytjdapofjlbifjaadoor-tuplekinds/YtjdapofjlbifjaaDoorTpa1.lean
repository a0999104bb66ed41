/- Texts joined: Bits Fold Sum Mem -/
import Derived.Test.YtjdapofjlbifjaaDoorTpa0
import Derived.WalkKit
import Derived.Laws.BitsAllLaws
import Derived.Laws.BitsLemmas
import Derived.Laws.Bits128
import Derived.Test.YtjdapofjlbifjaaDoorRows
import Derived.Below
import Derived.Deep.Draws
import Derived.Laws.World
namespace Go.Proofs.YtjdapofjlbifjaaDoor
theorem wraps_i64 (n : Int) (h₀ : 0 ≤ n) (h₁ : n < 2 ^ 63) : IntKind.i64.wrap n = n := by rw [IntKind.wrap_i64]; omega
theorem i64_or8 (x y : Int) (hx0 : 0 ≤ x) (hx1 : x ≤ 255) (hy0 : 0 ≤ y) (hy1 : y ≤ 255) : bits .or .i64 (x * 256) y = 256 * x + y := by
  rw [bits_join .i64 63 (by decide) wraps_i64 8 (x * 256) y (by omega) (by omega) (by omega) hy0 (by omega) (by omega)]; omega
end Go.Proofs.YtjdapofjlbifjaaDoor
namespace Go.Proofs.YtjdapofjlbifjaaDoor
open Go.RowKit
set_option linter.unusedVariables false
theorem ret_int {k : IntKind} {a b : Int} (h : a = b) : Ending.returned (.int k a) = .returned (.int k b) := by rw [h]
/-- A slice value of 'l.length' bytes from a on reads as the numbers l. -/
structure Row (w : World) (a : Option Addr) (l : List Int) : Prop where
  small : l.length ≤ 140737488355328
  bytes : M.Bytes l
  cells : 0 < l.length → ∃ b off, a = some ⟨b, off, none⟩ ∧ ∀ i, i < l.length → w.cell? ⟨b, off + i, none⟩ = some (.int .u8 (l.getD i 0))
/-- A slice value of 'ls.length' parts from a on reads as ls. -/
structure Rowss (w : World) (a : Option Addr) (ls : List (List Int)) : Prop where
  small : ls.length ≤ 140737488355328
  cells : 0 < ls.length → ∃ b off, a = some ⟨b, off, none⟩ ∧ ∀ i, i < ls.length → ∃ a' c', w.cell? ⟨b, off + i, none⟩ = some (.slice a' (ls.getD i []).length c') ∧ Row w a' (ls.getD i [])
theorem int_eq {k : IntKind} {a b : Int} (h : a = b) : Value.int k a = .int k b := by rw [h]
theorem Rowss.all {w : World} {a : Option Addr} {ls : List (List Int)} (h : Rowss w a ls) : M.AllBytes ls := by
  intro i hi
  obtain ⟨b, off, _, hc⟩ := h.cells (by omega)
  obtain ⟨_, _, _, hr⟩ := hc i hi
  exact hr.bytes
theorem below_drewN {B : Nat} {a w : World} (h : Below B a w) (n : Nat) : Below B a (w.drewN n) := h.trans ⟨rfl, rfl, rfl, Nat.le_refl _, fun _ _ => rfl⟩
theorem Row.below {w w' : World} {a : Option Addr} {l : List Int} (h : Row w a l) (hb : Below w.heap.size w w') : Row w' a l :=
  ⟨h.small, h.bytes, fun hl => by
    obtain ⟨b, off, ha, hc⟩ := h.cells hl
    exact ⟨b, off, ha, fun i hi => (hb.cell (World.block_lt_of_cell? w _ (hc i hi))).trans (hc i hi)⟩⟩
theorem Rowss.below {w w' : World} {a : Option Addr} {ls : List (List Int)} (h : Rowss w a ls) (hb : Below w.heap.size w w') : Rowss w' a ls :=
  ⟨h.small, fun hl => by
    obtain ⟨b, off, ha, hc⟩ := h.cells hl
    refine ⟨b, off, ha, fun i hi => ?_⟩
    obtain ⟨a', c', h1, h2⟩ := hc i hi
    exact ⟨a', c', (hb.cell (World.block_lt_of_cell? w _ h1)).trans h1, h2.below hb⟩⟩
theorem Row.alloc {w : World} {a : Option Addr} {l : List Int} (h : Row w a l) (o : Obj) : Row (w.alloc o) a l := h.below ((Below.refl _ _).alloc (Nat.le_refl _) o)
theorem Row.drewN {w : World} {a : Option Addr} {l : List Int} (h : Row w a l) (n : Nat) : Row (w.drewN n) a l := h.below (below_drewN (Below.refl _ _) n)
theorem Row.take {w : World} {a : Option Addr} {l : List Int} (h : Row w a l) (k : Nat) : Row w a (l.take k) := by
  have hle : (l.take k).length ≤ l.length := List.length_take_le' _ _
  have := h.small
  refine ⟨by omega, h.bytes.take k, fun hp => ?_⟩
  obtain ⟨b, off, ha, hc⟩ := h.cells (by omega)
  refine ⟨b, off, ha, fun i hi => ?_⟩
  rw [hc i (by omega)]
  have : i < k := by simp at hi; omega
  simp [this]
/-- A new block of bytes. -/
theorem row_new (w : World) (t : TypeId) (l : List Int) (hs : l.length ≤ 140737488355328) (hb : M.Bytes l) :
    Row (w.alloc (.cells (l.map (Value.int .u8)).toArray t)) (some ⟨w.heap.size, 0, none⟩) l :=
  ⟨hs, hb, fun _ => ⟨_, _, rfl, fun i hi => by
    have e : l.getD i 0 = l[i] := by simp [hi]
    rw [e, Nat.zero_add, World.cell?_alloc_new]
    simp [hi]⟩⟩
theorem row_at (w : World) (t : TypeId) (l : List Int) (n : Nat) (hn : n = w.heap.size) (hs : l.length ≤ 140737488355328) (hb : M.Bytes l) :
    Row (w.alloc (.cells (l.map (Value.int .u8)).toArray t)) (some ⟨n, 0, none⟩) l := by subst hn; exact row_new w t l hs hb
end Go.Proofs.YtjdapofjlbifjaaDoor
