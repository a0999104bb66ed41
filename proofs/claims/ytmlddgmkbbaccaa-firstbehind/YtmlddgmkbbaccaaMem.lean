/- Byte slices in memory: a row of bytes is still read in a world that has grown, and in new blocks. -/
import Derived.Test.YtmlddgmkbbaccaaSum
import Derived.Below
import Derived.Deep.Draws
import Derived.Laws.World
namespace Go.Proofs.Ytmlddgmkbbaccaa
open Go.RowKit
set_option linter.unusedVariables false

theorem below_drewN {B : Nat} {a w : World} (h : Below B a w) (n : Nat) : Below B a (w.drewN n) := h.trans ⟨rfl, rfl, rfl, Nat.le_refl _, fun _ _ => rfl⟩

theorem Row.below {w w' : World} {a : Option Addr} {l : List Int} (h : Row w a l) (hb : Below w.heap.size w w') : Row w' a l :=
  ⟨h.small, h.bytes, fun hl => by
    obtain ⟨b, off, ha, hc⟩ := h.cells hl
    exact ⟨b, off, ha, fun i hi => (hb.cell (World.block_lt_of_cell? w _ (hc i hi))).trans (hc i hi)⟩⟩
theorem Rowss.below {w w' : World} {a : Option Addr} {ls : List (List Int)} (h : Rowss w a ls) (hb : Below w.heap.size w w') : Rowss w' a ls :=
  ⟨h.small, fun hl => by
    obtain ⟨b, off, ha, hc⟩ := h.cells hl
    refine ⟨b, off, ha, fun i hi => ?_⟩
    obtain ⟨a', c', h1, h2⟩ := hc i hi
    exact ⟨a', c', (hb.cell (World.block_lt_of_cell? w _ h1)).trans h1, h2.below hb⟩⟩
theorem Row.alloc {w : World} {a : Option Addr} {l : List Int} (h : Row w a l) (o : Obj) : Row (w.alloc o) a l := h.below ((Below.refl _ _).alloc (Nat.le_refl _) o)
theorem Row.drewN {w : World} {a : Option Addr} {l : List Int} (h : Row w a l) (n : Nat) : Row (w.drewN n) a l := h.below (below_drewN (Below.refl _ _) n)

theorem Row.take {w : World} {a : Option Addr} {l : List Int} (h : Row w a l) (k : Nat) : Row w a (l.take k) := by
  have hle : (l.take k).length ≤ l.length := List.length_take_le' _ _
  have := h.small
  refine ⟨by omega, h.bytes.take k, fun hp => ?_⟩
  obtain ⟨b, off, ha, hc⟩ := h.cells (by omega)
  refine ⟨b, off, ha, fun i hi => ?_⟩
  rw [hc i (by omega)]
  have : i < k := by simp at hi; omega
  simp [this]

/-- A new block of bytes. -/
theorem row_new (w : World) (t : TypeId) (l : List Int) (hs : l.length ≤ 140737488355328) (hb : M.Bytes l) :
    Row (w.alloc (.cells (l.map (Value.int .u8)).toArray t)) (some ⟨w.heap.size, 0, none⟩) l :=
  ⟨hs, hb, fun _ => ⟨_, _, rfl, fun i hi => by
    have e : l.getD i 0 = l[i] := by simp [hi]
    rw [e, Nat.zero_add, World.cell?_alloc_new]
    simp [hi]⟩⟩
/-- A new block of slices. -/
theorem rowss_new (w : World) (t : TypeId) (vs : List Value) (ls : List (List Int)) (hs : ls.length ≤ 140737488355328) (hl : vs.length = ls.length)
    (hr : ∀ i, i < ls.length → ∃ a' c', vs.getD i (.bool false) = .slice a' (ls.getD i []).length c' ∧ Row w a' (ls.getD i [])) :
    Rowss (w.alloc (.cells vs.toArray t)) (some ⟨w.heap.size, 0, none⟩) ls :=
  ⟨hs, fun _ => ⟨_, _, rfl, fun i hi => by
    obtain ⟨a', c', h1, h2⟩ := hr i hi
    refine ⟨a', c', ?_, h2.alloc _⟩
    have hi' : i < vs.length := by omega
    rw [← h1, Nat.zero_add, World.cell?_alloc_new]
    simp [hi']⟩⟩
theorem row_at (w : World) (t : TypeId) (l : List Int) (n : Nat) (hn : n = w.heap.size) (hs : l.length ≤ 140737488355328) (hb : M.Bytes l) :
    Row (w.alloc (.cells (l.map (Value.int .u8)).toArray t)) (some ⟨n, 0, none⟩) l := by subst hn; exact row_new w t l hs hb
theorem rowss_at (w : World) (t : TypeId) (vs : List Value) (ls : List (List Int)) (n : Nat) (hn : n = w.heap.size) (hs : ls.length ≤ 140737488355328) (hl : vs.length = ls.length)
    (hr : ∀ i, i < ls.length → ∃ a' c', vs.getD i (.bool false) = .slice a' (ls.getD i []).length c' ∧ Row w a' (ls.getD i [])) :
    Rowss (w.alloc (.cells vs.toArray t)) (some ⟨n, 0, none⟩) ls := by subst hn; exact rowss_new w t vs ls hs hl hr
/-- One part in a new block. -/
theorem rowss_one (w : World) (t : TypeId) (n : Nat) (hn : n = w.heap.size) (a : Option Addr) (c : Nat) (l : List Int) (h : Row w a l) :
    Rowss (w.alloc (.cells #[.slice a l.length c] t)) (some ⟨n, 0, none⟩) [l] :=
  rowss_at w t [.slice a l.length c] [l] n hn (by simp) rfl (fun i hi => by
    have : i = 0 := by simp at hi; omega
    subst this; exact ⟨a, c, rfl, h⟩)
theorem rowss_one' (w : World) (t : TypeId) (n : Nat) (hn : n = w.heap.size) (a : Option Addr) (c : Nat) (l : List Int) (m : Nat) (hm : m = l.length) (h : Row w a l) :
    Rowss (w.alloc (.cells #[.slice a m c] t)) (some ⟨n, 0, none⟩) [l] := by subst hm; exact rowss_one w t n hn a c l h
theorem below_drew (w : World) : Below w.heap.size w w.drew := (Below.refl _ _).drew
/-- Two parts in a new block. -/
theorem rowss_two (w : World) (t : TypeId) (n : Nat) (hn : n = w.heap.size) (a a' : Option Addr) (c c' : Nat) (l l' : List Int) (h : Row w a l) (h' : Row w a' l') :
    Rowss (w.alloc (.cells #[.slice a l.length c, .slice a' l'.length c'] t)) (some ⟨n, 0, none⟩) [l, l'] :=
  rowss_at w t [.slice a l.length c, .slice a' l'.length c'] [l, l'] n hn (by simp) rfl (fun i hi => by
    match i, hi with
    | 0, _ => exact ⟨a, c, rfl, h⟩
    | 1, _ => exact ⟨a', c', rfl, h'⟩)
/-- Three parts in a new block. -/
theorem rowss_three (w : World) (t : TypeId) (n : Nat) (hn : n = w.heap.size) (a a' a'' : Option Addr) (c c' c'' : Nat) (l l' l'' : List Int) (h : Row w a l) (h' : Row w a' l') (h'' : Row w a'' l'') :
    Rowss (w.alloc (.cells #[.slice a l.length c, .slice a' l'.length c', .slice a'' l''.length c''] t)) (some ⟨n, 0, none⟩) [l, l', l''] :=
  rowss_at w t [.slice a l.length c, .slice a' l'.length c', .slice a'' l''.length c''] [l, l', l''] n hn (by simp) rfl (fun i hi => by
    match i, hi with
    | 0, _ => exact ⟨a, c, rfl, h⟩
    | 1, _ => exact ⟨a', c', rfl, h'⟩
    | 2, _ => exact ⟨a'', c'', rfl, h''⟩)
theorem rowss_three' (w : World) (t : TypeId) (n : Nat) (hn : n = w.heap.size) (a a' a'' : Option Addr) (c c' c'' : Nat) (l l' l'' : List Int) (k k' k'' : Nat) (e : k = l.length) (e' : k' = l'.length) (e'' : k'' = l''.length) (h : Row w a l) (h' : Row w a' l') (h'' : Row w a'' l'') :
    Rowss (w.alloc (.cells #[.slice a k c, .slice a' k' c', .slice a'' k'' c''] t)) (some ⟨n, 0, none⟩) [l, l', l''] := by
  subst e; subst e'; subst e''; exact rowss_three w t n hn a a' a'' c c' c'' l l' l'' h h' h''
end Go.Proofs.Ytmlddgmkbbaccaa
