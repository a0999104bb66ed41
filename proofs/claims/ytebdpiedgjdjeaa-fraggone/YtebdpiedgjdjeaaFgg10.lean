/- Texts joined: Ip6C Ip6D -/
import Derived.Test.YtebdpiedgjdjeaaFgg9
import Derived.BigRegion
namespace Go.Proofs.Ytebdpiedgjdjeaa
open Go.RowKit Go.Maps
set_option linter.unusedVariables false
set_option linter.unusedSimpArgs false
abbrev fv0 (bx : Nat) : Value := .func (.func 86) #[] #[.pointer (some ⟨bx, 0, none⟩)]
abbrev fv43 : Value := .func (.func 88) #[] #[]
abbrev fv44 (g : Nat) : Value := .func (.func 89) #[.pointer (some ⟨g, 0, none⟩)] #[]
abbrev fv60 : Value := .func (.func 87) #[] #[]
def tab (g bx : Nat) : Array MapEntry := #[⟨.int .i64 0, fv0 bx, 0⟩, ⟨.int .i64 43, fv43, 1⟩, ⟨.int .i64 44, fv44 g, 2⟩, ⟨.int .i64 60, fv60, 3⟩]
end Go.Proofs.Ytebdpiedgjdjeaa
namespace Go.Proofs.Ytebdpiedgjdjeaa
open Go.RowKit
set_option linter.unusedVariables false
set_option linter.unusedSimpArgs false
/-- The slice value v owns the ints l, in a block of the call's own (from B on), or is nil and l empty. -/
def OwnsI (w : World) (B : Nat) (v : Value) (l : List Int) : Prop := w.ownsRow B 3 1 v l.length (l.map (Value.int .i64))
theorem OwnsI.nil (w : World) (B : Nat) : OwnsI w B (.slice none 0 0) [] := World.ownsRow_nil _ _ _ _
theorem OwnsI.drewN {w : World} {B : Nat} {v : Value} {l : List Int} (h : OwnsI w B v l) (n : Nat) : OwnsI (w.drewN n) B v l := h
/-- All that is known of a walk that goes on. -/
structure RW (W0 w : World) (g n : Nat) (s : St) (a : Option Addr) (c : Nat) (xa : Option Addr) (xc : Nat) (wr : World) : Prop where
  sw : SW wr g s (.slice a s.l.length c) (.slice xa s.ex.length xc)
  row : Row W0 a s.l
  room : s.l.length ≤ c
  cap : c ≤ 9223372036854775807
  nil : a = none → c = 0
  own : OwnsI wr (n + 2) (.slice xa s.ex.length xc) s.ex
  map : wr.heap[n + 1]? = some (.map (tab g n) 4)
  box : wr.cell? ⟨n, 0, none⟩ = some (.pointer (some ⟨g, 0, none⟩))
  below : Below g w wr
  few : s.ex.length ≤ 8
  big : n + 2 ≤ wr.heap.size
theorem grownBy_drew (w : World) (row : Option Nat) : w.grownBy w.drew row := ⟨rfl, rfl, rfl, Nat.le_refl _, fun _ _ _ => rfl⟩
theorem SW.put2 {W : World} {g : Nat} {s : St} {rv xv : Value} (h : SW W g s rv xv) (v : Value) : SW (W.setCell ⟨g, 2, none⟩ v) g s rv v := by
  obtain ⟨c0, c1, c2, c3, c4, c5, c6, c7, fz⟩ := h
  exact ⟨(put_oth (by decide)).trans c0, (put_oth (by decide)).trans c1, put_same c2, (put_oth (by decide)).trans c3, (put_oth (by decide)).trans c4, (put_oth (by decide)).trans c5, (put_oth (by decide)).trans c6, (put_oth (by decide)).trans c7, fun o => by rw [World.frozen?_setCell]; exact fz o⟩
theorem SW.put1 {W : World} {g : Nat} {s : St} {rv xv : Value} (h : SW W g s rv xv) (v : Value) : SW (W.setCell ⟨g, 1, none⟩ v) g s v xv := by
  obtain ⟨c0, c1, c2, c3, c4, c5, c6, c7, fz⟩ := h
  exact ⟨(put_oth (by decide)).trans c0, put_same c1, (put_oth (by decide)).trans c2, (put_oth (by decide)).trans c3, (put_oth (by decide)).trans c4, (put_oth (by decide)).trans c5, (put_oth (by decide)).trans c6, (put_oth (by decide)).trans c7, fun o => by rw [World.frozen?_setCell]; exact fz o⟩
theorem SW.as {W : World} {g : Nat} {s t : St} {rv xv : Value} (h : SW W g s rv xv) (e0 : t.next = s.next) (e1 : t.met = s.met) (e2 : t.cut = s.cut) (e3 : t.id = s.id) (e4 : t.off = s.off) (e5 : t.more = s.more) : SW W g t rv xv := by
  obtain ⟨c0, c1, c2, c3, c4, c5, c6, c7, fz⟩ := h
  exact ⟨by rw [e0]; exact c0, c1, c2, by rw [e1]; exact c3, by rw [e2]; exact c4, by rw [e3]; exact c5, by rw [e4]; exact c6, by rw [e5]; exact c7, fz⟩
theorem RW.drewN {W0 w : World} {g n : Nat} {s : St} {a : Option Addr} {c : Nat} {xa : Option Addr} {xc : Nat} {wr : World} (h : RW W0 w g n s a c xa xc wr) (m : Nat) : RW W0 w g n s a c xa xc (wr.drewN m) :=
  ⟨h.sw.grown (grownBy_drewN wr m none) (by simp), h.row, h.room, h.cap, h.nil, h.own, h.map, h.box, below_drewN h.below m, h.few, h.big⟩
end Go.Proofs.Ytebdpiedgjdjeaa
