/- What the document's own reading of a packet holds on its way. -/
import Derived.Test.YtpcdmjjlgoeglaaIp4Q
import Derived.Test.YtpcdmjjlgoeglaaIp4R
import Derived.Test.YtpcdmjjlgoeglaaRefSum
import Derived.Test.YtpcdmjjlgoeglaaRFrm
namespace Go.Proofs.Ytpcdmjjlgoeglaa
open Go.RowKit
set_option linter.unusedVariables false
set_option linter.unusedSimpArgs false

theorem rparse_ret {R : Ending → World → Prop} {a : Act} {w : World} {g : Nat} {x : Int} {v0 v1 v2 v3 v4 v5 v6 v7 v8 v9 v10 v11 v12 v13 v14 : Value} (s : SIp w g v0 v1 v2 v3 v4 v5 v6 v7 v8 v9 v10 v11 v12 v13 v14) (h2 : a.tmps[2]?.getD undef = .pointer (some ⟨g, 0, none⟩)) (h3 : a.tmps[3]?.getD undef = .int .i64 x) (hd : a.defers = [])
    (hR : R (.returned (.tuple #[.agg #[v0, v1, v2, v3, v4, v5, v6, v7, v8, v9, v10, v11, v12, v13, v14], .int .i64 x])) w) : bodyPost Try.prog Try.f10 R .ret a w := by
  obtain ⟨c0, c1, c2, c3, c4, c5, c6, c7, c8, c9, c10, c11, c12, c13, c14⟩ := s
  refine bodyPost_ret (v := .tuple #[.agg #[v0, v1, v2, v3, v4, v5, v6, v7, v8, v9, v10, v11, v12, v13, v14], .int .i64 x]) ?_ hd hR
  simp [results, Try.results10, go_sem, h2, h3, c0, c1, c2, c3, c4, c5, c6, c7, c8, c9, c10, c11, c12, c13, c14]

/-- The bytes, and the answer not yet written. -/
structure RF (w : World) (a : Option Addr) (l : List Int) (W : World) : Prop where
  row : Row W a l
  z : ZIp W w.heap.size
  bel : Below w.heap.size w W
  lt : w.heap.size < W.heap.size
theorem RF.step {w : World} {a : Option Addr} {l : List Int} {W W' : World} (p : RF w a l W) (hb : Below W.heap.size W W') : RF w a l W' :=
  ⟨p.row.below hb, p.z.below p.lt hb, p.bel.trans (hb.mono (by have := p.lt; omega)), Nat.lt_of_lt_of_le p.lt hb.size⟩
theorem RF.cell {w : World} {bk ao : Nat} {l : List Int} {W : World} (p : RF w (some ⟨bk, ao, none⟩) l W) (i : Nat) (hi : i < l.length) : W.cell? ⟨bk, ao + i, none⟩ = some (.int .u8 (l.getD i 0)) := by
  obtain ⟨b, o, e, h⟩ := p.row.cells (by omega)
  simp only [Option.some.injEq, Addr.mk.injEq] at e
  obtain ⟨rfl, rfl, _⟩ := e
  exact h i hi
theorem u8_and15 (x : Int) (h0 : 0 ≤ x) (h1 : x ≤ 255) : bits .and .u8 x 15 = x % 16 := by
  obtain ⟨n, rfl⟩ := Int.eq_ofNat_of_zero_le h0
  have h : ∀ b : Fin 256, bits .and .u8 (b.val : Int) 15 = (b.val : Int) % 16 := by decide +kernel
  exact h ⟨n, by omega⟩
theorem u8_and1 (x : Int) (h0 : 0 ≤ x) (h1 : x ≤ 255) : bits .and .u8 x 1 = x % 2 := by
  obtain ⟨n, rfl⟩ := Int.eq_ofNat_of_zero_le h0
  have h : ∀ b : Fin 256, bits .and .u8 (b.val : Int) 1 = (b.val : Int) % 2 := by decide +kernel
  exact h ⟨n, by omega⟩
end Go.Proofs.Ytpcdmjjlgoeglaa
