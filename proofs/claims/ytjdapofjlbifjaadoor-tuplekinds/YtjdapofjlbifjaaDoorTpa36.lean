/- Texts joined: FrS -/
import Derived.Test.YtjdapofjlbifjaaDoorTpa16
namespace Go.Proofs.YtjdapofjlbifjaaDoor
open Go.RowKit
set_option linter.unusedVariables false
set_option linter.unusedSimpArgs false
/-- These cells lie from k on in the block b. -/
def CellsAt (W : World) (b k : Nat) (sub : Array Value) : Prop := b < W.heap.size ∧ ∀ j v, sub[j]? = some v → W.cell? ⟨b, k + j, none⟩ = some v
theorem CellsAt.below {w w' : World} {b k : Nat} {sub : Array Value} (h : CellsAt w b k sub) (hb : Below w.heap.size w w') : CellsAt w' b k sub :=
  ⟨Nat.lt_of_lt_of_le h.1 hb.size, fun j v hv => kept hb (h.2 j v hv)⟩
/-- A slice of things of n cells each, as it is read. -/
structure RowN {α : Type} (n : Nat) (v : α → Array Value) (ok : World → α → Prop) (w : World) (a : Option Addr) (l : List α) : Prop where
  each : ∀ q ∈ l, ok w q
  cells : ∀ (i : Nat) (q : α), l[i]? = some q → ∃ b off, a = some ⟨b, off, none⟩ ∧ CellsAt w b (off + i * n) (v q)
theorem RowN.below {α : Type} {n : Nat} {v : α → Array Value} {ok : World → α → Prop} (hok : ∀ {w w' : World} {q : α}, ok w q → Below w.heap.size w w' → ok w' q) {w w' : World} {a : Option Addr} {l : List α} (h : RowN n v ok w a l) (hb : Below w.heap.size w w') : RowN n v ok w' a l :=
  ⟨fun q hq => hok (h.each q hq) hb, fun i q hq => by
    obtain ⟨b, off, h1, h2⟩ := h.cells i q hq
    exact ⟨b, off, h1, h2.below hb⟩⟩
end Go.Proofs.YtjdapofjlbifjaaDoor
