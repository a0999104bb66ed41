/- Texts joined: FgA -/
import Derived.Test.YtebdpiedgjdjeaaFga9
import Derived.Test.YtebdpiedgjdjeaaFga10
import Derived.Maps.OwnSet
import Derived.Maps.RangeWalk
import Derived.Maps.Ext
namespace Go.Proofs.Ytebdpiedgjdjeaa
open Go.RowKit
set_option linter.unusedVariables false
set_option linter.unusedSimpArgs false
/-- A piece, and where its bytes lie. -/
structure Pc where
  off : Int
  da : Option Addr
  dc : Nat
  data : List Int
abbrev Pc.v (p : Pc) : Array Value := #[.int .i64 p.off, .slice p.da p.data.length p.dc]
def pcells (ps : List Pc) : List Value := ps.flatMap fun p => [.int .i64 p.off, .slice p.da p.data.length p.dc]
/-- The packet at the place 0. -/
structure Hd where
  fam : Int
  s : Ad
  d : Ad
  pr : Int
  ho : Int
  xa : Option Addr
  xc : Nat
  X : List Int
/-- A datagram. -/
structure Gm where
  ends : Int
  dead : Bool
  hd : Hd
  pa : Option Addr
  pc : Nat
  ps : List Pc
  size : Int
  reach : Int
  last : Bool
abbrev Gm.v (g : Gm) : Array Value :=
  #[.int .i64 g.ends, .bool g.dead, .int .i64 g.hd.fam, .int .i64 g.hd.s.fam, .int .u64 g.hd.s.hi, .int .u64 g.hd.s.lo, .int .i64 g.hd.d.fam, .int .u64 g.hd.d.hi, .int .u64 g.hd.d.lo, .int .i64 g.hd.pr, .int .i64 g.hd.ho, .bool false, .int .u32 0, .int .i64 0, .bool false, .slice g.hd.xa g.hd.X.length g.hd.xc, .slice none 0 0,
    .slice g.pa g.ps.length g.pc, .int .i64 g.size, .int .i64 g.reach, .bool g.last]
/-- A datagram's pieces and its header's list, in memory. -/
structure GmR (w : World) (g : Gm) : Prop where
  row : w.ownsRow 0 117 2 (.slice g.pa g.ps.length g.pc) g.ps.length (pcells g.ps)
  each : ∀ p ∈ g.ps, Row w p.da p.data ∧ p.data.length ≤ p.dc ∧ (p.da = none → p.dc = 0)
  exts : RowI w g.hd.xa g.hd.X
  few : g.ps.length ≤ 65535
theorem pcells_get : ∀ (ps : List Pc) (i : Nat) (p : Pc), ps[i]? = some p → (pcells ps)[2 * i]? = some (.int .i64 p.off) ∧ (pcells ps)[2 * i + 1]? = some (.slice p.da p.data.length p.dc)
  | [], i, p, h => by simp at h
  | q :: r, 0, p, h => by
    obtain rfl : q = p := by simpa using h
    exact ⟨rfl, rfl⟩
  | q :: r, i + 1, p, h => by
    have ih := pcells_get r i p (by simpa using h)
    have e : pcells (q :: r) = [.int .i64 q.off, .slice q.da q.data.length q.dc] ++ pcells r := rfl
    rw [e]
    refine ⟨?_, ?_⟩
    · rw [List.getElem?_append_right (by simp; omega)]
      show (pcells r)[2 * (i + 1) - 2]? = _
      rw [show 2 * (i + 1) - 2 = 2 * i by omega]
      exact ih.1
    · rw [List.getElem?_append_right (by simp; omega)]
      show (pcells r)[2 * (i + 1) + 1 - 2]? = _
      rw [show 2 * (i + 1) + 1 - 2 = 2 * i + 1 by omega]
      exact ih.2
/-- Where the pieces lie, cell by cell. -/
theorem GmR.cells {w : World} {g : Gm} (h : GmR w g) (hp : 0 < g.ps.length) : ∃ b, g.pa = some ⟨b, 0, none⟩ ∧ b < w.heap.size ∧ ∀ i p, g.ps[i]? = some p → w.cell? ⟨b, 2 * i, none⟩ = some (.int .i64 p.off) ∧ w.cell? ⟨b, 2 * i + 1, none⟩ = some (.slice p.da p.data.length p.dc) := by
  obtain ⟨hl, hr⟩ := h.row
  rcases hr with ⟨_, h0⟩ | ⟨b, cap, cur, hv, _, hb, hn, hcm, hcs, hx⟩
  · omega
  · have hpa : g.pa = some ⟨b, 0, none⟩ := by
      simp only [Value.slice.injEq] at hv
      exact hv.1
    refine ⟨b, hpa, (Array.getElem?_eq_some_iff.1 hb).1, fun i p hi => ?_⟩
    have hlt : i < g.ps.length := (List.getElem?_eq_some_iff.1 hi).1
    have hg := pcells_get g.ps i p hi
    have hc : ∀ j v, (pcells g.ps)[j]? = some v → w.cell? ⟨b, j, none⟩ = some v := fun j v hj => by
      rw [← hx, List.getElem?_take] at hj
      split at hj
      · exact Blk.cell (show Blk w b 117 cur from hb) j v (by simpa using hj)
      · cases hj
    exact ⟨hc _ _ hg.1, hc _ _ hg.2⟩
end Go.Proofs.Ytebdpiedgjdjeaa
