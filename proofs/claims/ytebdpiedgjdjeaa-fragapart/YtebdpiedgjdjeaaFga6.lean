/- Texts joined: Ip4T Room Ip4Q -/
import Derived.Test.YtebdpiedgjdjeaaFga5
import Derived.Laws.MakeOwn
namespace Go.Proofs.Ytebdpiedgjdjeaa
set_option linter.unusedVariables false
set_option linter.unusedSimpArgs false
theorem getD_left (l m : List Int) (i : Nat) (h : i < l.length) : (l ++ m).getD i 0 = l.getD i 0 := by
  simp only [List.getD_eq_getElem?_getD, List.getElem?_append_left h]
/-- The first twenty bytes are alike. -/
def Alike (b c : List Int) : Prop := ∀ i, i < 20 → b.getD i 0 = c.getD i 0
theorem alike_hd {b c : List Int} (h : Alike b c) : hd b = hd c := by unfold hd; rw [h 0 (by omega)]
theorem alike_sz {b c : List Int} (h : Alike b c) : sz b = sz c := by
  show 256 * b.getD 2 0 + b.getD 3 0 = 256 * c.getD 2 0 + c.getD 3 0
  rw [h 2 (by omega), h 3 (by omega)]
theorem alike_pl {b c : List Int} (h : Alike b c) : pl b = pl c := by
  show 256 * b.getD 6 0 + b.getD 7 0 = 256 * c.getD 6 0 + c.getD 7 0
  rw [h 6 (by omega), h 7 (by omega)]
theorem take_app {b m : List Int} {k : Nat} (h : k ≤ b.length) : (b ++ m).take k = b.take k := by
  rw [List.take_append_of_le_length h]
theorem part_app {b m : List Int} {x n : Int} (hx : 0 ≤ x) (hn : 0 ≤ n) (h : x + n ≤ b.length) : part (b ++ m) x n = part b x n := by
  unfold part
  rw [List.drop_append_of_le_length (by omega), List.take_append_of_le_length (by rw [List.length_drop]; omega)]
theorem alike_app {b : List Int} (m : List Int) (h : 20 ≤ b.length) : Alike (b ++ m) b := fun i hi => getD_left b m i (by omega)
/-- What stands behind turns nothing. -/
theorem behind {b : List Int} (m : List Int) (h : perr b = 0) : perr (b ++ m) = 0 ∧ pkt (b ++ m) = pkt b := by
  obtain ⟨h1, h2, h3, h4, h5, h6, h7, h8, h9, h10, h11, h12⟩ := perr_zero.1 h
  have al := alike_app m h1
  have e1 := alike_hd al
  have e2 := alike_sz al
  have e3 := alike_pl al
  have e4 : mr (b ++ m) = mr b := by unfold mr; rw [e3]
  have e5 : ofs (b ++ m) = ofs b := by unfold ofs; rw [e3]
  have e6 : (b ++ m).take (hd b).toNat = b.take (hd b).toNat := take_app (by omega)
  refine ⟨perr_zero.2 ⟨by rw [List.length_append]; omega, by rw [al 0 (by omega)]; exact h2, by rw [e1]; exact h3, by rw [e1, List.length_append]; omega, by rw [e1, e2]; exact h5, by rw [e2, List.length_append]; omega, by rw [e1, e6]; exact h7, by rw [al 8 (by omega)]; exact h8, by rw [e3]; exact h9, by rw [e1, e6]; exact h10, by rw [e1, e2, e4]; exact h11, by rw [e1, e2, e5]; exact h12⟩, ?_⟩
  have e7 : fr (b ++ m) = fr b := by unfold fr; rw [e4, e5]
  have e8 : u16 (b ++ m) 4 = u16 b 4 := by
    show 256 * (b ++ m).getD 4 0 + (b ++ m).getD 5 0 = 256 * b.getD 4 0 + b.getD 5 0
    rw [al 4 (by omega), al 5 (by omega)]
  unfold pkt
  rw [part_app (by omega) (by omega) (by omega), part_app (by omega) (by omega) (by omega), al 9 (by omega), al 8 (by omega), e7, e8, e5, e4, e1, e2, part_app (by omega) (by omega) (by omega)]
end Go.Proofs.Ytebdpiedgjdjeaa
namespace Go.Proofs.Ytebdpiedgjdjeaa
open Go.RowKit
set_option linter.unusedVariables false
theorem made_zero (N : Nat) : (madeCells #[Value.int .u8 0] N).toList = List.replicate N (Value.int .u8 0) := by
  apply List.ext_getElem
  · simp [madeCells]
  · intro i h1 h2
    simp [madeCells, Nat.mod_one]
theorem Owns.other {w : World} {B : Nat} {v : Value} {l : List Int} (h : Owns w B v l) {ad : Addr} (ha : ad.block < B) (u : Value) : Owns (w.setCell ad u) B v l := ownsRow_setCell_below h ha u
end Go.Proofs.Ytebdpiedgjdjeaa
namespace Go.Proofs.Ytebdpiedgjdjeaa
open Go.RowKit
set_option linter.unusedVariables false
set_option linter.unusedSimpArgs false
/-- The value of a packet without extension headers. -/
abbrev Pk.v (p : Pk) (x d : Value) : Value :=
  .agg #[.int .i64 p.fam, .int .i64 p.src.fam, .int .u64 p.src.hi, .int .u64 p.src.lo, .int .i64 p.dst.fam, .int .u64 p.dst.hi, .int .u64 p.dst.lo, .int .i64 p.proto, .int .i64 p.hop, .bool p.frag, .int .u32 p.id, .int .i64 p.off, .bool p.more, x, d]
/-- A block of fifteen cells that nobody has written yet. -/
structure ZIp (W : World) (g : Nat) : Prop where
  c0 : W.cell? ⟨g, 0, none⟩ = some (.int .i64 0)
  c1 : W.cell? ⟨g, 1, none⟩ = some (.int .i64 0)
  c2 : W.cell? ⟨g, 2, none⟩ = some (.int .u64 0)
  c3 : W.cell? ⟨g, 3, none⟩ = some (.int .u64 0)
  c4 : W.cell? ⟨g, 4, none⟩ = some (.int .i64 0)
  c5 : W.cell? ⟨g, 5, none⟩ = some (.int .u64 0)
  c6 : W.cell? ⟨g, 6, none⟩ = some (.int .u64 0)
  c7 : W.cell? ⟨g, 7, none⟩ = some (.int .i64 0)
  c8 : W.cell? ⟨g, 8, none⟩ = some (.int .i64 0)
  c9 : W.cell? ⟨g, 9, none⟩ = some (.bool false)
  c10 : W.cell? ⟨g, 10, none⟩ = some (.int .u32 0)
  c11 : W.cell? ⟨g, 11, none⟩ = some (.int .i64 0)
  c12 : W.cell? ⟨g, 12, none⟩ = some (.bool false)
  c13 : W.cell? ⟨g, 13, none⟩ = some (.slice none 0 0)
  c14 : W.cell? ⟨g, 14, none⟩ = some (.slice none 0 0)
  fz : ∀ o, W.frozen? ⟨g, o, none⟩ = false
theorem ZIp.below {W W' : World} {g B : Nat} (h : ZIp W g) (hg : g < B) (hb : Below B W W') : ZIp W' g :=
  have k : ∀ o, W'.cell? ⟨g, o, none⟩ = W.cell? ⟨g, o, none⟩ := fun o => hb.cell (p := ⟨g, o, none⟩) hg
  ⟨(k _).trans h.c0, (k _).trans h.c1, (k _).trans h.c2, (k _).trans h.c3, (k _).trans h.c4, (k _).trans h.c5, (k _).trans h.c6, (k _).trans h.c7, (k _).trans h.c8, (k _).trans h.c9, (k _).trans h.c10, (k _).trans h.c11, (k _).trans h.c12, (k _).trans h.c13, (k _).trans h.c14, fun o => (hb.frozen (p := ⟨g, o, none⟩) hg).trans (h.fz o)⟩
theorem put_oth {W : World} {g i j : Nat} {v : Value} (h : i ≠ j) : (W.setCell ⟨g, i, none⟩ v).cell? ⟨g, j, none⟩ = W.cell? ⟨g, j, none⟩ := put_other (by simp [h])
/-- A block that holds these fifteen values. -/
structure SIp (W : World) (g : Nat) (v0 v1 v2 v3 v4 v5 v6 v7 v8 v9 v10 v11 v12 v13 v14 : Value) : Prop where
  c0 : W.cell? ⟨g, 0, none⟩ = some v0
  c1 : W.cell? ⟨g, 1, none⟩ = some v1
  c2 : W.cell? ⟨g, 2, none⟩ = some v2
  c3 : W.cell? ⟨g, 3, none⟩ = some v3
  c4 : W.cell? ⟨g, 4, none⟩ = some v4
  c5 : W.cell? ⟨g, 5, none⟩ = some v5
  c6 : W.cell? ⟨g, 6, none⟩ = some v6
  c7 : W.cell? ⟨g, 7, none⟩ = some v7
  c8 : W.cell? ⟨g, 8, none⟩ = some v8
  c9 : W.cell? ⟨g, 9, none⟩ = some v9
  c10 : W.cell? ⟨g, 10, none⟩ = some v10
  c11 : W.cell? ⟨g, 11, none⟩ = some v11
  c12 : W.cell? ⟨g, 12, none⟩ = some v12
  c13 : W.cell? ⟨g, 13, none⟩ = some v13
  c14 : W.cell? ⟨g, 14, none⟩ = some v14
theorem SIp.below {W W' : World} {g B : Nat} {v0 v1 v2 v3 v4 v5 v6 v7 v8 v9 v10 v11 v12 v13 v14 : Value} (h : SIp W g v0 v1 v2 v3 v4 v5 v6 v7 v8 v9 v10 v11 v12 v13 v14) (hg : g < B) (hb : Below B W W') : SIp W' g v0 v1 v2 v3 v4 v5 v6 v7 v8 v9 v10 v11 v12 v13 v14 :=
  have k : ∀ o, W'.cell? ⟨g, o, none⟩ = W.cell? ⟨g, o, none⟩ := fun o => hb.cell (p := ⟨g, o, none⟩) hg
  ⟨(k _).trans h.c0, (k _).trans h.c1, (k _).trans h.c2, (k _).trans h.c3, (k _).trans h.c4, (k _).trans h.c5, (k _).trans h.c6, (k _).trans h.c7, (k _).trans h.c8, (k _).trans h.c9, (k _).trans h.c10, (k _).trans h.c11, (k _).trans h.c12, (k _).trans h.c13, (k _).trans h.c14⟩
end Go.Proofs.Ytebdpiedgjdjeaa
