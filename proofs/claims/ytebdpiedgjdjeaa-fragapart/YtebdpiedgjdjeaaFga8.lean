/- Texts joined: Ip6B Ip6C Ip6D -/
import Derived.Test.YtebdpiedgjdjeaaFga7
import Derived.Deep.AppendLies
import Derived.Deep.RegionLaw
import Derived.Maps.OwnOps
import Derived.BigRegion
namespace Go.Proofs.Ytebdpiedgjdjeaa
open Go.RowKit
set_option linter.unusedVariables false
set_option linter.unusedSimpArgs false
/-- The eight cells of a walk. -/
structure SW (W : World) (g : Nat) (s : St) (rv xv : Value) : Prop where
  c0 : W.cell? ⟨g, 0, none⟩ = some (.int .i64 s.next)
  c1 : W.cell? ⟨g, 1, none⟩ = some rv
  c2 : W.cell? ⟨g, 2, none⟩ = some xv
  c3 : W.cell? ⟨g, 3, none⟩ = some (.bool s.met)
  c4 : W.cell? ⟨g, 4, none⟩ = some (.bool s.cut)
  c5 : W.cell? ⟨g, 5, none⟩ = some (.int .u32 s.id)
  c6 : W.cell? ⟨g, 6, none⟩ = some (.int .i64 s.off)
  c7 : W.cell? ⟨g, 7, none⟩ = some (.bool s.more)
  fz : ∀ o, W.frozen? ⟨g, o, none⟩ = false
theorem SW.lt {W : World} {g : Nat} {s : St} {rv xv : Value} (h : SW W g s rv xv) : g < W.heap.size := World.block_lt_of_cell? W _ h.c0
theorem SW.grown {W W' : World} {g : Nat} {s : St} {rv xv : Value} {row : Option Nat} (h : SW W g s rv xv) (hg : W.grownBy W' row) (hne : some g ≠ row) : SW W' g s rv xv :=
  have k : ∀ o, W'.cell? ⟨g, o, none⟩ = W.cell? ⟨g, o, none⟩ := fun o => hg.cell_far ⟨g, o, none⟩ h.lt hne
  ⟨(k _).trans h.c0, (k _).trans h.c1, (k _).trans h.c2, (k _).trans h.c3, (k _).trans h.c4, (k _).trans h.c5, (k _).trans h.c6, (k _).trans h.c7, fun o => (hg.frozen_far ⟨g, o, none⟩ h.lt hne).trans (h.fz o)⟩
theorem SW.below {W W' : World} {g B : Nat} {s : St} {rv xv : Value} (h : SW W g s rv xv) (hg : g < B) (hb : Below B W W') : SW W' g s rv xv :=
  have k : ∀ o, W'.cell? ⟨g, o, none⟩ = W.cell? ⟨g, o, none⟩ := fun o => hb.cell (p := ⟨g, o, none⟩) hg
  ⟨(k _).trans h.c0, (k _).trans h.c1, (k _).trans h.c2, (k _).trans h.c3, (k _).trans h.c4, (k _).trans h.c5, (k _).trans h.c6, (k _).trans h.c7, fun o => (hb.frozen (p := ⟨g, o, none⟩) hg).trans (h.fz o)⟩
theorem grownBy_drewN (w : World) (n : Nat) (row : Option Nat) : w.grownBy (w.drewN n) row := ⟨rfl, rfl, rfl, Nat.le_refl _, fun _ _ _ => rfl⟩
theorem SW.frag {W : World} {g : Nat} {nx : Int} {l ex : List Int} {met cut : Bool} {id off : Int} {more : Bool} {rv xv : Value} (h : SW W g ⟨nx, l, ex, met, cut, id, off, more⟩ rv xv) (i o : Int) (m k : Bool) :
    SW ((((W.setCell ⟨g, 5, none⟩ (.int .u32 i)).setCell ⟨g, 6, none⟩ (.int .i64 o)).setCell ⟨g, 7, none⟩ (.bool m)).setCell ⟨g, 4, none⟩ (.bool k)) g ⟨nx, l, ex, met, k, i, o, m⟩ rv xv := by
  obtain ⟨c0, c1, c2, c3, c4, c5, c6, c7, fz⟩ := h
  refine ⟨?_, ?_, ?_, ?_, ?_, ?_, ?_, ?_, fun o => by simp only [World.frozen?_setCell]; exact fz o⟩
  · rw [put_oth (by decide), put_oth (by decide), put_oth (by decide), put_oth (by decide)]; exact c0
  · rw [put_oth (by decide), put_oth (by decide), put_oth (by decide), put_oth (by decide)]; exact c1
  · rw [put_oth (by decide), put_oth (by decide), put_oth (by decide), put_oth (by decide)]; exact c2
  · rw [put_oth (by decide), put_oth (by decide), put_oth (by decide), put_oth (by decide)]; exact c3
  · exact put_same (by rw [put_oth (by decide), put_oth (by decide), put_oth (by decide)]; exact c4)
  · rw [put_oth (by decide), put_oth (by decide), put_oth (by decide)]; exact put_same c5
  · rw [put_oth (by decide), put_oth (by decide)]; exact put_same (by rw [put_oth (by decide)]; exact c6)
  · rw [put_oth (by decide)]; exact put_same (by rw [put_oth (by decide), put_oth (by decide)]; exact c7)
end Go.Proofs.Ytebdpiedgjdjeaa
namespace Go.Proofs.Ytebdpiedgjdjeaa
open Go.RowKit Go.Maps
set_option linter.unusedVariables false
set_option linter.unusedSimpArgs false
abbrev fv0 (bx : Nat) : Value := .func (.func 86) #[] #[.pointer (some ⟨bx, 0, none⟩)]
abbrev fv43 : Value := .func (.func 88) #[] #[]
abbrev fv44 (g : Nat) : Value := .func (.func 89) #[.pointer (some ⟨g, 0, none⟩)] #[]
abbrev fv60 : Value := .func (.func 87) #[] #[]
def tab (g bx : Nat) : Array MapEntry := #[⟨.int .i64 0, fv0 bx, 0⟩, ⟨.int .i64 43, fv43, 1⟩, ⟨.int .i64 44, fv44 g, 2⟩, ⟨.int .i64 60, fv60, 3⟩]
end Go.Proofs.Ytebdpiedgjdjeaa
namespace Go.Proofs.Ytebdpiedgjdjeaa
open Go.RowKit
set_option linter.unusedVariables false
set_option linter.unusedSimpArgs false
/-- The slice value v owns the ints l, in a block of the call's own (from B on), or is nil and l empty. -/
def OwnsI (w : World) (B : Nat) (v : Value) (l : List Int) : Prop := w.ownsRow B 3 1 v l.length (l.map (Value.int .i64))
theorem OwnsI.nil (w : World) (B : Nat) : OwnsI w B (.slice none 0 0) [] := World.ownsRow_nil _ _ _ _
theorem OwnsI.far {w w' : World} {B g : Nat} {v : Value} {l : List Int} (h : OwnsI w B v l) (hg : w.grownBy w' (some g)) (hgB : g < B) : OwnsI w' B v l :=
  World.ownsRow.kept h hg (by
    cases hv : v.ownBlock with
    | none => exact .inl rfl
    | some k =>
      refine .inr ?_
      have := (World.ownsRow.lt h k hv).1
      intro e
      cases e
      omega)
theorem OwnsI.drewN {w : World} {B : Nat} {v : Value} {l : List Int} (h : OwnsI w B v l) (n : Nat) : OwnsI (w.drewN n) B v l := h
/-- All that is known of a walk that goes on. -/
structure RW (W0 w : World) (g n : Nat) (s : St) (a : Option Addr) (c : Nat) (xa : Option Addr) (xc : Nat) (wr : World) : Prop where
  sw : SW wr g s (.slice a s.l.length c) (.slice xa s.ex.length xc)
  row : Row W0 a s.l
  room : s.l.length ≤ c
  cap : c ≤ 9223372036854775807
  nil : a = none → c = 0
  own : OwnsI wr (n + 2) (.slice xa s.ex.length xc) s.ex
  map : wr.heap[n + 1]? = some (.map (tab g n) 4)
  box : wr.cell? ⟨n, 0, none⟩ = some (.pointer (some ⟨g, 0, none⟩))
  below : Below g w wr
  few : s.ex.length ≤ 8
  big : n + 2 ≤ wr.heap.size
theorem SW.as {W : World} {g : Nat} {s t : St} {rv xv : Value} (h : SW W g s rv xv) (e0 : t.next = s.next) (e1 : t.met = s.met) (e2 : t.cut = s.cut) (e3 : t.id = s.id) (e4 : t.off = s.off) (e5 : t.more = s.more) : SW W g t rv xv := by
  obtain ⟨c0, c1, c2, c3, c4, c5, c6, c7, fz⟩ := h
  exact ⟨by rw [e0]; exact c0, c1, c2, by rw [e1]; exact c3, by rw [e2]; exact c4, by rw [e3]; exact c5, by rw [e4]; exact c6, by rw [e5]; exact c7, fz⟩
theorem RW.drewN {W0 w : World} {g n : Nat} {s : St} {a : Option Addr} {c : Nat} {xa : Option Addr} {xc : Nat} {wr : World} (h : RW W0 w g n s a c xa xc wr) (m : Nat) : RW W0 w g n s a c xa xc (wr.drewN m) :=
  ⟨h.sw.grown (grownBy_drewN wr m none) (by simp), h.row, h.room, h.cap, h.nil, h.own, h.map, h.box, below_drewN h.below m, h.few, h.big⟩
end Go.Proofs.Ytebdpiedgjdjeaa
