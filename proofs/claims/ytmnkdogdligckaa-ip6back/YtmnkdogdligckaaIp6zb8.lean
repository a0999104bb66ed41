/- Texts joined: Ip4Q -/
import Derived.Test.YtmnkdogdligckaaIp6zb7
namespace Go.Proofs.Ytmnkdogdligckaa
open Go.RowKit
set_option linter.unusedVariables false
set_option linter.unusedSimpArgs false
/-- The value of a packet without extension headers. -/
abbrev Pk.v (p : Pk) (x d : Value) : Value :=
  .agg #[.int .i64 p.fam, .int .i64 p.src.fam, .int .u64 p.src.hi, .int .u64 p.src.lo, .int .i64 p.dst.fam, .int .u64 p.dst.hi, .int .u64 p.dst.lo, .int .i64 p.proto, .int .i64 p.hop, .bool p.frag, .int .u32 p.id, .int .i64 p.off, .bool p.more, x, d]
abbrev zIp : Array Value := #[.int .i64 0, .int .i64 0, .int .u64 0, .int .u64 0, .int .i64 0, .int .u64 0, .int .u64 0, .int .i64 0, .int .i64 0, .bool false, .int .u32 0, .int .i64 0, .bool false, .slice none 0 0, .slice none 0 0]
/-- A block of fifteen cells that nobody has written yet. -/
structure ZIp (W : World) (g : Nat) : Prop where
  c0 : W.cell? ⟨g, 0, none⟩ = some (.int .i64 0)
  c1 : W.cell? ⟨g, 1, none⟩ = some (.int .i64 0)
  c2 : W.cell? ⟨g, 2, none⟩ = some (.int .u64 0)
  c3 : W.cell? ⟨g, 3, none⟩ = some (.int .u64 0)
  c4 : W.cell? ⟨g, 4, none⟩ = some (.int .i64 0)
  c5 : W.cell? ⟨g, 5, none⟩ = some (.int .u64 0)
  c6 : W.cell? ⟨g, 6, none⟩ = some (.int .u64 0)
  c7 : W.cell? ⟨g, 7, none⟩ = some (.int .i64 0)
  c8 : W.cell? ⟨g, 8, none⟩ = some (.int .i64 0)
  c9 : W.cell? ⟨g, 9, none⟩ = some (.bool false)
  c10 : W.cell? ⟨g, 10, none⟩ = some (.int .u32 0)
  c11 : W.cell? ⟨g, 11, none⟩ = some (.int .i64 0)
  c12 : W.cell? ⟨g, 12, none⟩ = some (.bool false)
  c13 : W.cell? ⟨g, 13, none⟩ = some (.slice none 0 0)
  c14 : W.cell? ⟨g, 14, none⟩ = some (.slice none 0 0)
  fz : ∀ o, W.frozen? ⟨g, o, none⟩ = false
theorem ZIp.below {W W' : World} {g B : Nat} (h : ZIp W g) (hg : g < B) (hb : Below B W W') : ZIp W' g :=
  have k : ∀ o, W'.cell? ⟨g, o, none⟩ = W.cell? ⟨g, o, none⟩ := fun o => hb.cell (p := ⟨g, o, none⟩) hg
  ⟨(k _).trans h.c0, (k _).trans h.c1, (k _).trans h.c2, (k _).trans h.c3, (k _).trans h.c4, (k _).trans h.c5, (k _).trans h.c6, (k _).trans h.c7, (k _).trans h.c8, (k _).trans h.c9, (k _).trans h.c10, (k _).trans h.c11, (k _).trans h.c12, (k _).trans h.c13, (k _).trans h.c14, fun o => (hb.frozen (p := ⟨g, o, none⟩) hg).trans (h.fz o)⟩
theorem zIp_new (w : World) : ZIp (w.alloc (.cells zIp 38)) w.heap.size := by
  constructor <;> simp
theorem put_oth {W : World} {g i j : Nat} {v : Value} (h : i ≠ j) : (W.setCell ⟨g, i, none⟩ v).cell? ⟨g, j, none⟩ = W.cell? ⟨g, j, none⟩ := put_other (by simp [h])
/-- A block that holds these fifteen values. -/
structure SIp (W : World) (g : Nat) (v0 v1 v2 v3 v4 v5 v6 v7 v8 v9 v10 v11 v12 v13 v14 : Value) : Prop where
  c0 : W.cell? ⟨g, 0, none⟩ = some v0
  c1 : W.cell? ⟨g, 1, none⟩ = some v1
  c2 : W.cell? ⟨g, 2, none⟩ = some v2
  c3 : W.cell? ⟨g, 3, none⟩ = some v3
  c4 : W.cell? ⟨g, 4, none⟩ = some v4
  c5 : W.cell? ⟨g, 5, none⟩ = some v5
  c6 : W.cell? ⟨g, 6, none⟩ = some v6
  c7 : W.cell? ⟨g, 7, none⟩ = some v7
  c8 : W.cell? ⟨g, 8, none⟩ = some v8
  c9 : W.cell? ⟨g, 9, none⟩ = some v9
  c10 : W.cell? ⟨g, 10, none⟩ = some v10
  c11 : W.cell? ⟨g, 11, none⟩ = some v11
  c12 : W.cell? ⟨g, 12, none⟩ = some v12
  c13 : W.cell? ⟨g, 13, none⟩ = some v13
  c14 : W.cell? ⟨g, 14, none⟩ = some v14
abbrev set15 (W : World) (g : Nat) (v0 v1 v2 v3 v4 v5 v6 v7 v8 v9 v10 v11 v12 v13 v14 : Value) : World := (((((((((((((((W.setCell ⟨g, 0, none⟩ v0).setCell ⟨g, 1, none⟩ v1).setCell ⟨g, 2, none⟩ v2).setCell ⟨g, 3, none⟩ v3).setCell ⟨g, 4, none⟩ v4).setCell ⟨g, 5, none⟩ v5).setCell ⟨g, 6, none⟩ v6).setCell ⟨g, 7, none⟩ v7).setCell ⟨g, 8, none⟩ v8).setCell ⟨g, 9, none⟩ v9).setCell ⟨g, 10, none⟩ v10).setCell ⟨g, 11, none⟩ v11).setCell ⟨g, 12, none⟩ v12).setCell ⟨g, 13, none⟩ v13).setCell ⟨g, 14, none⟩ v14)
theorem sIp_set {W : World} {g : Nat} (z : ZIp W g) (v0 v1 v2 v3 v4 v5 v6 v7 v8 v9 v10 v11 v12 v13 v14 : Value) : SIp (set15 W g v0 v1 v2 v3 v4 v5 v6 v7 v8 v9 v10 v11 v12 v13 v14) g v0 v1 v2 v3 v4 v5 v6 v7 v8 v9 v10 v11 v12 v13 v14 := by
  constructor
  · rw [put_oth (by decide), put_oth (by decide), put_oth (by decide), put_oth (by decide), put_oth (by decide), put_oth (by decide), put_oth (by decide), put_oth (by decide), put_oth (by decide), put_oth (by decide), put_oth (by decide), put_oth (by decide), put_oth (by decide), put_oth (by decide)]
    exact put_same (by exact z.c0)
  · rw [put_oth (by decide), put_oth (by decide), put_oth (by decide), put_oth (by decide), put_oth (by decide), put_oth (by decide), put_oth (by decide), put_oth (by decide), put_oth (by decide), put_oth (by decide), put_oth (by decide), put_oth (by decide), put_oth (by decide)]
    exact put_same (by rw [put_oth (by decide)]; exact z.c1)
  · rw [put_oth (by decide), put_oth (by decide), put_oth (by decide), put_oth (by decide), put_oth (by decide), put_oth (by decide), put_oth (by decide), put_oth (by decide), put_oth (by decide), put_oth (by decide), put_oth (by decide), put_oth (by decide)]
    exact put_same (by rw [put_oth (by decide), put_oth (by decide)]; exact z.c2)
  · rw [put_oth (by decide), put_oth (by decide), put_oth (by decide), put_oth (by decide), put_oth (by decide), put_oth (by decide), put_oth (by decide), put_oth (by decide), put_oth (by decide), put_oth (by decide), put_oth (by decide)]
    exact put_same (by rw [put_oth (by decide), put_oth (by decide), put_oth (by decide)]; exact z.c3)
  · rw [put_oth (by decide), put_oth (by decide), put_oth (by decide), put_oth (by decide), put_oth (by decide), put_oth (by decide), put_oth (by decide), put_oth (by decide), put_oth (by decide), put_oth (by decide)]
    exact put_same (by rw [put_oth (by decide), put_oth (by decide), put_oth (by decide), put_oth (by decide)]; exact z.c4)
  · rw [put_oth (by decide), put_oth (by decide), put_oth (by decide), put_oth (by decide), put_oth (by decide), put_oth (by decide), put_oth (by decide), put_oth (by decide), put_oth (by decide)]
    exact put_same (by rw [put_oth (by decide), put_oth (by decide), put_oth (by decide), put_oth (by decide), put_oth (by decide)]; exact z.c5)
  · rw [put_oth (by decide), put_oth (by decide), put_oth (by decide), put_oth (by decide), put_oth (by decide), put_oth (by decide), put_oth (by decide), put_oth (by decide)]
    exact put_same (by rw [put_oth (by decide), put_oth (by decide), put_oth (by decide), put_oth (by decide), put_oth (by decide), put_oth (by decide)]; exact z.c6)
  · rw [put_oth (by decide), put_oth (by decide), put_oth (by decide), put_oth (by decide), put_oth (by decide), put_oth (by decide), put_oth (by decide)]
    exact put_same (by rw [put_oth (by decide), put_oth (by decide), put_oth (by decide), put_oth (by decide), put_oth (by decide), put_oth (by decide), put_oth (by decide)]; exact z.c7)
  · rw [put_oth (by decide), put_oth (by decide), put_oth (by decide), put_oth (by decide), put_oth (by decide), put_oth (by decide)]
    exact put_same (by rw [put_oth (by decide), put_oth (by decide), put_oth (by decide), put_oth (by decide), put_oth (by decide), put_oth (by decide), put_oth (by decide), put_oth (by decide)]; exact z.c8)
  · rw [put_oth (by decide), put_oth (by decide), put_oth (by decide), put_oth (by decide), put_oth (by decide)]
    exact put_same (by rw [put_oth (by decide), put_oth (by decide), put_oth (by decide), put_oth (by decide), put_oth (by decide), put_oth (by decide), put_oth (by decide), put_oth (by decide), put_oth (by decide)]; exact z.c9)
  · rw [put_oth (by decide), put_oth (by decide), put_oth (by decide), put_oth (by decide)]
    exact put_same (by rw [put_oth (by decide), put_oth (by decide), put_oth (by decide), put_oth (by decide), put_oth (by decide), put_oth (by decide), put_oth (by decide), put_oth (by decide), put_oth (by decide), put_oth (by decide)]; exact z.c10)
  · rw [put_oth (by decide), put_oth (by decide), put_oth (by decide)]
    exact put_same (by rw [put_oth (by decide), put_oth (by decide), put_oth (by decide), put_oth (by decide), put_oth (by decide), put_oth (by decide), put_oth (by decide), put_oth (by decide), put_oth (by decide), put_oth (by decide), put_oth (by decide)]; exact z.c11)
  · rw [put_oth (by decide), put_oth (by decide)]
    exact put_same (by rw [put_oth (by decide), put_oth (by decide), put_oth (by decide), put_oth (by decide), put_oth (by decide), put_oth (by decide), put_oth (by decide), put_oth (by decide), put_oth (by decide), put_oth (by decide), put_oth (by decide), put_oth (by decide)]; exact z.c12)
  · rw [put_oth (by decide)]
    exact put_same (by rw [put_oth (by decide), put_oth (by decide), put_oth (by decide), put_oth (by decide), put_oth (by decide), put_oth (by decide), put_oth (by decide), put_oth (by decide), put_oth (by decide), put_oth (by decide), put_oth (by decide), put_oth (by decide), put_oth (by decide)]; exact z.c13)
  · exact put_same (by rw [put_oth (by decide), put_oth (by decide), put_oth (by decide), put_oth (by decide), put_oth (by decide), put_oth (by decide), put_oth (by decide), put_oth (by decide), put_oth (by decide), put_oth (by decide), put_oth (by decide), put_oth (by decide), put_oth (by decide), put_oth (by decide)]; exact z.c14)
theorem set15_below {w W : World} {g B : Nat} (h : Below B w W) (hg : B ≤ g) (v0 v1 v2 v3 v4 v5 v6 v7 v8 v9 v10 v11 v12 v13 v14 : Value) : Below B w (set15 W g v0 v1 v2 v3 v4 v5 v6 v7 v8 v9 v10 v11 v12 v13 v14) := by
  iterate 15 (refine Below.setCell ?_ (show B ≤ g from hg) _)
  exact h
/-- What Parse holds on its way: the bytes, the box that its functions look into, the answer not yet written. -/
structure PF (w : World) (g : Nat) (a : Option Addr) (c : Nat) (l : List Int) (W : World) : Prop where
  row : Row W a l
  box : W.cell? ⟨w.heap.size, 0, none⟩ = some (.slice a l.length c)
  z : ZIp W g
  bel : Below w.heap.size w W
  size : w.heap.size + 2 ≤ W.heap.size
  lt : g < W.heap.size
  ge : w.heap.size ≤ g
theorem PF.step {w : World} {g : Nat} {a : Option Addr} {c : Nat} {l : List Int} {W W' : World} (p : PF w g a c l W) (hb : Below W.heap.size W W') : PF w g a c l W' :=
  ⟨p.row.below hb, (hb.cell (p := ⟨w.heap.size, 0, none⟩) (by have := p.size; show w.heap.size < _; omega)).trans p.box, p.z.below p.lt hb, p.bel.trans (hb.mono (by have := p.size; omega)), Nat.le_trans p.size hb.size, Nat.lt_of_lt_of_le p.lt hb.size, p.ge⟩
theorem sIp_new (w : World) (v0 v1 v2 v3 v4 v5 v6 v7 v8 v9 v10 v11 v12 v13 v14 : Value) : SIp (w.alloc (.cells #[v0, v1, v2, v3, v4, v5, v6, v7, v8, v9, v10, v11, v12, v13, v14] 38)) w.heap.size v0 v1 v2 v3 v4 v5 v6 v7 v8 v9 v10 v11 v12 v13 v14 := by
  constructor <;> simp
theorem SIp.below {W W' : World} {g B : Nat} {v0 v1 v2 v3 v4 v5 v6 v7 v8 v9 v10 v11 v12 v13 v14 : Value} (h : SIp W g v0 v1 v2 v3 v4 v5 v6 v7 v8 v9 v10 v11 v12 v13 v14) (hg : g < B) (hb : Below B W W') : SIp W' g v0 v1 v2 v3 v4 v5 v6 v7 v8 v9 v10 v11 v12 v13 v14 :=
  have k : ∀ o, W'.cell? ⟨g, o, none⟩ = W.cell? ⟨g, o, none⟩ := fun o => hb.cell (p := ⟨g, o, none⟩) hg
  ⟨(k _).trans h.c0, (k _).trans h.c1, (k _).trans h.c2, (k _).trans h.c3, (k _).trans h.c4, (k _).trans h.c5, (k _).trans h.c6, (k _).trans h.c7, (k _).trans h.c8, (k _).trans h.c9, (k _).trans h.c10, (k _).trans h.c11, (k _).trans h.c12, (k _).trans h.c13, (k _).trans h.c14⟩
end Go.Proofs.Ytmnkdogdligckaa
