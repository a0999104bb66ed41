/- Texts joined: Ip6B -/
import Derived.Test.YtebdpiedgjdjeaaFgw8
import Derived.Deep.AppendLies
import Derived.Deep.RegionLaw
import Derived.Maps.OwnOps
namespace Go.Proofs.Ytebdpiedgjdjeaa
open Go.RowKit
set_option linter.unusedVariables false
set_option linter.unusedSimpArgs false
/-- The eight cells of a walk. -/
structure SW (W : World) (g : Nat) (s : St) (rv xv : Value) : Prop where
  c0 : W.cell? ⟨g, 0, none⟩ = some (.int .i64 s.next)
  c1 : W.cell? ⟨g, 1, none⟩ = some rv
  c2 : W.cell? ⟨g, 2, none⟩ = some xv
  c3 : W.cell? ⟨g, 3, none⟩ = some (.bool s.met)
  c4 : W.cell? ⟨g, 4, none⟩ = some (.bool s.cut)
  c5 : W.cell? ⟨g, 5, none⟩ = some (.int .u32 s.id)
  c6 : W.cell? ⟨g, 6, none⟩ = some (.int .i64 s.off)
  c7 : W.cell? ⟨g, 7, none⟩ = some (.bool s.more)
  fz : ∀ o, W.frozen? ⟨g, o, none⟩ = false
theorem SW.lt {W : World} {g : Nat} {s : St} {rv xv : Value} (h : SW W g s rv xv) : g < W.heap.size := World.block_lt_of_cell? W _ h.c0
theorem SW.grown {W W' : World} {g : Nat} {s : St} {rv xv : Value} {row : Option Nat} (h : SW W g s rv xv) (hg : W.grownBy W' row) (hne : some g ≠ row) : SW W' g s rv xv :=
  have k : ∀ o, W'.cell? ⟨g, o, none⟩ = W.cell? ⟨g, o, none⟩ := fun o => hg.cell_far ⟨g, o, none⟩ h.lt hne
  ⟨(k _).trans h.c0, (k _).trans h.c1, (k _).trans h.c2, (k _).trans h.c3, (k _).trans h.c4, (k _).trans h.c5, (k _).trans h.c6, (k _).trans h.c7, fun o => (hg.frozen_far ⟨g, o, none⟩ h.lt hne).trans (h.fz o)⟩
theorem SW.below {W W' : World} {g B : Nat} {s : St} {rv xv : Value} (h : SW W g s rv xv) (hg : g < B) (hb : Below B W W') : SW W' g s rv xv :=
  have k : ∀ o, W'.cell? ⟨g, o, none⟩ = W.cell? ⟨g, o, none⟩ := fun o => hb.cell (p := ⟨g, o, none⟩) hg
  ⟨(k _).trans h.c0, (k _).trans h.c1, (k _).trans h.c2, (k _).trans h.c3, (k _).trans h.c4, (k _).trans h.c5, (k _).trans h.c6, (k _).trans h.c7, fun o => (hb.frozen (p := ⟨g, o, none⟩) hg).trans (h.fz o)⟩
theorem grownBy_drewN (w : World) (n : Nat) (row : Option Nat) : w.grownBy (w.drewN n) row := ⟨rfl, rfl, rfl, Nat.le_refl _, fun _ _ _ => rfl⟩
theorem SW.frag {W : World} {g : Nat} {nx : Int} {l ex : List Int} {met cut : Bool} {id off : Int} {more : Bool} {rv xv : Value} (h : SW W g ⟨nx, l, ex, met, cut, id, off, more⟩ rv xv) (i o : Int) (m k : Bool) :
    SW ((((W.setCell ⟨g, 5, none⟩ (.int .u32 i)).setCell ⟨g, 6, none⟩ (.int .i64 o)).setCell ⟨g, 7, none⟩ (.bool m)).setCell ⟨g, 4, none⟩ (.bool k)) g ⟨nx, l, ex, met, k, i, o, m⟩ rv xv := by
  obtain ⟨c0, c1, c2, c3, c4, c5, c6, c7, fz⟩ := h
  refine ⟨?_, ?_, ?_, ?_, ?_, ?_, ?_, ?_, fun o => by simp only [World.frozen?_setCell]; exact fz o⟩
  · rw [put_oth (by decide), put_oth (by decide), put_oth (by decide), put_oth (by decide)]; exact c0
  · rw [put_oth (by decide), put_oth (by decide), put_oth (by decide), put_oth (by decide)]; exact c1
  · rw [put_oth (by decide), put_oth (by decide), put_oth (by decide), put_oth (by decide)]; exact c2
  · rw [put_oth (by decide), put_oth (by decide), put_oth (by decide), put_oth (by decide)]; exact c3
  · exact put_same (by rw [put_oth (by decide), put_oth (by decide), put_oth (by decide)]; exact c4)
  · rw [put_oth (by decide), put_oth (by decide), put_oth (by decide)]; exact put_same c5
  · rw [put_oth (by decide), put_oth (by decide)]; exact put_same (by rw [put_oth (by decide)]; exact c6)
  · rw [put_oth (by decide)]; exact put_same (by rw [put_oth (by decide), put_oth (by decide)]; exact c7)
end Go.Proofs.Ytebdpiedgjdjeaa
