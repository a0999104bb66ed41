/- Texts joined: Ip4Q Ip6A -/
import Derived.Test.YtbghilihccaaaaaTwz6
namespace Go.Proofs.Ytbghilihccaaaaa
open Go.RowKit
set_option linter.unusedVariables false
set_option linter.unusedSimpArgs false
/-- The value of a packet without extension headers. -/
abbrev Pk.v (p : Pk) (x d : Value) : Value :=
  .agg #[.int .i64 p.fam, .int .i64 p.src.fam, .int .u64 p.src.hi, .int .u64 p.src.lo, .int .i64 p.dst.fam, .int .u64 p.dst.hi, .int .u64 p.dst.lo, .int .i64 p.proto, .int .i64 p.hop, .bool p.frag, .int .u32 p.id, .int .i64 p.off, .bool p.more, x, d]
abbrev zIp : Array Value := #[.int .i64 0, .int .i64 0, .int .u64 0, .int .u64 0, .int .i64 0, .int .u64 0, .int .u64 0, .int .i64 0, .int .i64 0, .bool false, .int .u32 0, .int .i64 0, .bool false, .slice none 0 0, .slice none 0 0]
/-- A block of fifteen cells that nobody has written yet. -/
structure ZIp (W : World) (g : Nat) : Prop where
  c0 : W.cell? ⟨g, 0, none⟩ = some (.int .i64 0)
  c1 : W.cell? ⟨g, 1, none⟩ = some (.int .i64 0)
  c2 : W.cell? ⟨g, 2, none⟩ = some (.int .u64 0)
  c3 : W.cell? ⟨g, 3, none⟩ = some (.int .u64 0)
  c4 : W.cell? ⟨g, 4, none⟩ = some (.int .i64 0)
  c5 : W.cell? ⟨g, 5, none⟩ = some (.int .u64 0)
  c6 : W.cell? ⟨g, 6, none⟩ = some (.int .u64 0)
  c7 : W.cell? ⟨g, 7, none⟩ = some (.int .i64 0)
  c8 : W.cell? ⟨g, 8, none⟩ = some (.int .i64 0)
  c9 : W.cell? ⟨g, 9, none⟩ = some (.bool false)
  c10 : W.cell? ⟨g, 10, none⟩ = some (.int .u32 0)
  c11 : W.cell? ⟨g, 11, none⟩ = some (.int .i64 0)
  c12 : W.cell? ⟨g, 12, none⟩ = some (.bool false)
  c13 : W.cell? ⟨g, 13, none⟩ = some (.slice none 0 0)
  c14 : W.cell? ⟨g, 14, none⟩ = some (.slice none 0 0)
  fz : ∀ o, W.frozen? ⟨g, o, none⟩ = false
theorem ZIp.below {W W' : World} {g B : Nat} (h : ZIp W g) (hg : g < B) (hb : Below B W W') : ZIp W' g :=
  have k : ∀ o, W'.cell? ⟨g, o, none⟩ = W.cell? ⟨g, o, none⟩ := fun o => hb.cell (p := ⟨g, o, none⟩) hg
  ⟨(k _).trans h.c0, (k _).trans h.c1, (k _).trans h.c2, (k _).trans h.c3, (k _).trans h.c4, (k _).trans h.c5, (k _).trans h.c6, (k _).trans h.c7, (k _).trans h.c8, (k _).trans h.c9, (k _).trans h.c10, (k _).trans h.c11, (k _).trans h.c12, (k _).trans h.c13, (k _).trans h.c14, fun o => (hb.frozen (p := ⟨g, o, none⟩) hg).trans (h.fz o)⟩
theorem zIp_new (w : World) : ZIp (w.alloc (.cells zIp 42)) w.heap.size := by
  constructor <;> simp
theorem put_oth {W : World} {g i j : Nat} {v : Value} (h : i ≠ j) : (W.setCell ⟨g, i, none⟩ v).cell? ⟨g, j, none⟩ = W.cell? ⟨g, j, none⟩ := put_other (by simp [h])
/-- A block that holds these fifteen values. -/
structure SIp (W : World) (g : Nat) (v0 v1 v2 v3 v4 v5 v6 v7 v8 v9 v10 v11 v12 v13 v14 : Value) : Prop where
  c0 : W.cell? ⟨g, 0, none⟩ = some v0
  c1 : W.cell? ⟨g, 1, none⟩ = some v1
  c2 : W.cell? ⟨g, 2, none⟩ = some v2
  c3 : W.cell? ⟨g, 3, none⟩ = some v3
  c4 : W.cell? ⟨g, 4, none⟩ = some v4
  c5 : W.cell? ⟨g, 5, none⟩ = some v5
  c6 : W.cell? ⟨g, 6, none⟩ = some v6
  c7 : W.cell? ⟨g, 7, none⟩ = some v7
  c8 : W.cell? ⟨g, 8, none⟩ = some v8
  c9 : W.cell? ⟨g, 9, none⟩ = some v9
  c10 : W.cell? ⟨g, 10, none⟩ = some v10
  c11 : W.cell? ⟨g, 11, none⟩ = some v11
  c12 : W.cell? ⟨g, 12, none⟩ = some v12
  c13 : W.cell? ⟨g, 13, none⟩ = some v13
  c14 : W.cell? ⟨g, 14, none⟩ = some v14
abbrev set15 (W : World) (g : Nat) (v0 v1 v2 v3 v4 v5 v6 v7 v8 v9 v10 v11 v12 v13 v14 : Value) : World := (((((((((((((((W.setCell ⟨g, 0, none⟩ v0).setCell ⟨g, 1, none⟩ v1).setCell ⟨g, 2, none⟩ v2).setCell ⟨g, 3, none⟩ v3).setCell ⟨g, 4, none⟩ v4).setCell ⟨g, 5, none⟩ v5).setCell ⟨g, 6, none⟩ v6).setCell ⟨g, 7, none⟩ v7).setCell ⟨g, 8, none⟩ v8).setCell ⟨g, 9, none⟩ v9).setCell ⟨g, 10, none⟩ v10).setCell ⟨g, 11, none⟩ v11).setCell ⟨g, 12, none⟩ v12).setCell ⟨g, 13, none⟩ v13).setCell ⟨g, 14, none⟩ v14)
theorem sIp_set {W : World} {g : Nat} (z : ZIp W g) (v0 v1 v2 v3 v4 v5 v6 v7 v8 v9 v10 v11 v12 v13 v14 : Value) : SIp (set15 W g v0 v1 v2 v3 v4 v5 v6 v7 v8 v9 v10 v11 v12 v13 v14) g v0 v1 v2 v3 v4 v5 v6 v7 v8 v9 v10 v11 v12 v13 v14 := by
  constructor
  · rw [put_oth (by decide), put_oth (by decide), put_oth (by decide), put_oth (by decide), put_oth (by decide), put_oth (by decide), put_oth (by decide), put_oth (by decide), put_oth (by decide), put_oth (by decide), put_oth (by decide), put_oth (by decide), put_oth (by decide), put_oth (by decide)]
    exact put_same (by exact z.c0)
  · rw [put_oth (by decide), put_oth (by decide), put_oth (by decide), put_oth (by decide), put_oth (by decide), put_oth (by decide), put_oth (by decide), put_oth (by decide), put_oth (by decide), put_oth (by decide), put_oth (by decide), put_oth (by decide), put_oth (by decide)]
    exact put_same (by rw [put_oth (by decide)]; exact z.c1)
  · rw [put_oth (by decide), put_oth (by decide), put_oth (by decide), put_oth (by decide), put_oth (by decide), put_oth (by decide), put_oth (by decide), put_oth (by decide), put_oth (by decide), put_oth (by decide), put_oth (by decide), put_oth (by decide)]
    exact put_same (by rw [put_oth (by decide), put_oth (by decide)]; exact z.c2)
  · rw [put_oth (by decide), put_oth (by decide), put_oth (by decide), put_oth (by decide), put_oth (by decide), put_oth (by decide), put_oth (by decide), put_oth (by decide), put_oth (by decide), put_oth (by decide), put_oth (by decide)]
    exact put_same (by rw [put_oth (by decide), put_oth (by decide), put_oth (by decide)]; exact z.c3)
  · rw [put_oth (by decide), put_oth (by decide), put_oth (by decide), put_oth (by decide), put_oth (by decide), put_oth (by decide), put_oth (by decide), put_oth (by decide), put_oth (by decide), put_oth (by decide)]
    exact put_same (by rw [put_oth (by decide), put_oth (by decide), put_oth (by decide), put_oth (by decide)]; exact z.c4)
  · rw [put_oth (by decide), put_oth (by decide), put_oth (by decide), put_oth (by decide), put_oth (by decide), put_oth (by decide), put_oth (by decide), put_oth (by decide), put_oth (by decide)]
    exact put_same (by rw [put_oth (by decide), put_oth (by decide), put_oth (by decide), put_oth (by decide), put_oth (by decide)]; exact z.c5)
  · rw [put_oth (by decide), put_oth (by decide), put_oth (by decide), put_oth (by decide), put_oth (by decide), put_oth (by decide), put_oth (by decide), put_oth (by decide)]
    exact put_same (by rw [put_oth (by decide), put_oth (by decide), put_oth (by decide), put_oth (by decide), put_oth (by decide), put_oth (by decide)]; exact z.c6)
  · rw [put_oth (by decide), put_oth (by decide), put_oth (by decide), put_oth (by decide), put_oth (by decide), put_oth (by decide), put_oth (by decide)]
    exact put_same (by rw [put_oth (by decide), put_oth (by decide), put_oth (by decide), put_oth (by decide), put_oth (by decide), put_oth (by decide), put_oth (by decide)]; exact z.c7)
  · rw [put_oth (by decide), put_oth (by decide), put_oth (by decide), put_oth (by decide), put_oth (by decide), put_oth (by decide)]
    exact put_same (by rw [put_oth (by decide), put_oth (by decide), put_oth (by decide), put_oth (by decide), put_oth (by decide), put_oth (by decide), put_oth (by decide), put_oth (by decide)]; exact z.c8)
  · rw [put_oth (by decide), put_oth (by decide), put_oth (by decide), put_oth (by decide), put_oth (by decide)]
    exact put_same (by rw [put_oth (by decide), put_oth (by decide), put_oth (by decide), put_oth (by decide), put_oth (by decide), put_oth (by decide), put_oth (by decide), put_oth (by decide), put_oth (by decide)]; exact z.c9)
  · rw [put_oth (by decide), put_oth (by decide), put_oth (by decide), put_oth (by decide)]
    exact put_same (by rw [put_oth (by decide), put_oth (by decide), put_oth (by decide), put_oth (by decide), put_oth (by decide), put_oth (by decide), put_oth (by decide), put_oth (by decide), put_oth (by decide), put_oth (by decide)]; exact z.c10)
  · rw [put_oth (by decide), put_oth (by decide), put_oth (by decide)]
    exact put_same (by rw [put_oth (by decide), put_oth (by decide), put_oth (by decide), put_oth (by decide), put_oth (by decide), put_oth (by decide), put_oth (by decide), put_oth (by decide), put_oth (by decide), put_oth (by decide), put_oth (by decide)]; exact z.c11)
  · rw [put_oth (by decide), put_oth (by decide)]
    exact put_same (by rw [put_oth (by decide), put_oth (by decide), put_oth (by decide), put_oth (by decide), put_oth (by decide), put_oth (by decide), put_oth (by decide), put_oth (by decide), put_oth (by decide), put_oth (by decide), put_oth (by decide), put_oth (by decide)]; exact z.c12)
  · rw [put_oth (by decide)]
    exact put_same (by rw [put_oth (by decide), put_oth (by decide), put_oth (by decide), put_oth (by decide), put_oth (by decide), put_oth (by decide), put_oth (by decide), put_oth (by decide), put_oth (by decide), put_oth (by decide), put_oth (by decide), put_oth (by decide), put_oth (by decide)]; exact z.c13)
  · exact put_same (by rw [put_oth (by decide), put_oth (by decide), put_oth (by decide), put_oth (by decide), put_oth (by decide), put_oth (by decide), put_oth (by decide), put_oth (by decide), put_oth (by decide), put_oth (by decide), put_oth (by decide), put_oth (by decide), put_oth (by decide), put_oth (by decide)]; exact z.c14)
theorem parse_ret {R : Ending → World → Prop} {a : Act} {w : World} {g : Nat} {x : Int} {v0 v1 v2 v3 v4 v5 v6 v7 v8 v9 v10 v11 v12 v13 v14 : Value} (s : SIp w g v0 v1 v2 v3 v4 v5 v6 v7 v8 v9 v10 v11 v12 v13 v14) (h2 : a.tmps[2]?.getD undef = .pointer (some ⟨g, 0, none⟩)) (h3 : a.tmps[3]?.getD undef = .int .i64 x) (hd : a.defers = [])
    (hR : R (.returned (.tuple #[.agg #[v0, v1, v2, v3, v4, v5, v6, v7, v8, v9, v10, v11, v12, v13, v14], .int .i64 x])) w) : bodyPost Try.prog Try.f40 R .ret a w := by
  obtain ⟨c0, c1, c2, c3, c4, c5, c6, c7, c8, c9, c10, c11, c12, c13, c14⟩ := s
  refine bodyPost_ret (v := .tuple #[.agg #[v0, v1, v2, v3, v4, v5, v6, v7, v8, v9, v10, v11, v12, v13, v14], .int .i64 x]) ?_ hd hR
  simp [results, Try.results40, go_sem, h2, h3, c0, c1, c2, c3, c4, c5, c6, c7, c8, c9, c10, c11, c12, c13, c14]
theorem set15_below {w W : World} {g B : Nat} (h : Below B w W) (hg : B ≤ g) (v0 v1 v2 v3 v4 v5 v6 v7 v8 v9 v10 v11 v12 v13 v14 : Value) : Below B w (set15 W g v0 v1 v2 v3 v4 v5 v6 v7 v8 v9 v10 v11 v12 v13 v14) := by
  iterate 15 (refine Below.setCell ?_ (show B ≤ g from hg) _)
  exact h
/-- What Parse holds on its way: the bytes, the box that its functions look into, the answer not yet written. -/
structure PF (w : World) (g : Nat) (a : Option Addr) (c : Nat) (l : List Int) (W : World) : Prop where
  row : Row W a l
  box : W.cell? ⟨w.heap.size, 0, none⟩ = some (.slice a l.length c)
  z : ZIp W g
  bel : Below w.heap.size w W
  size : w.heap.size + 2 ≤ W.heap.size
  lt : g < W.heap.size
  ge : w.heap.size ≤ g
theorem PF.step {w : World} {g : Nat} {a : Option Addr} {c : Nat} {l : List Int} {W W' : World} (p : PF w g a c l W) (hb : Below W.heap.size W W') : PF w g a c l W' :=
  ⟨p.row.below hb, (hb.cell (p := ⟨w.heap.size, 0, none⟩) (by have := p.size; show w.heap.size < _; omega)).trans p.box, p.z.below p.lt hb, p.bel.trans (hb.mono (by have := p.size; omega)), Nat.le_trans p.size hb.size, Nat.lt_of_lt_of_le p.lt hb.size, p.ge⟩
theorem sIp_new (w : World) (v0 v1 v2 v3 v4 v5 v6 v7 v8 v9 v10 v11 v12 v13 v14 : Value) : SIp (w.alloc (.cells #[v0, v1, v2, v3, v4, v5, v6, v7, v8, v9, v10, v11, v12, v13, v14] 42)) w.heap.size v0 v1 v2 v3 v4 v5 v6 v7 v8 v9 v10 v11 v12 v13 v14 := by
  constructor <;> simp
theorem SIp.below {W W' : World} {g B : Nat} {v0 v1 v2 v3 v4 v5 v6 v7 v8 v9 v10 v11 v12 v13 v14 : Value} (h : SIp W g v0 v1 v2 v3 v4 v5 v6 v7 v8 v9 v10 v11 v12 v13 v14) (hg : g < B) (hb : Below B W W') : SIp W' g v0 v1 v2 v3 v4 v5 v6 v7 v8 v9 v10 v11 v12 v13 v14 :=
  have k : ∀ o, W'.cell? ⟨g, o, none⟩ = W.cell? ⟨g, o, none⟩ := fun o => hb.cell (p := ⟨g, o, none⟩) hg
  ⟨(k _).trans h.c0, (k _).trans h.c1, (k _).trans h.c2, (k _).trans h.c3, (k _).trans h.c4, (k _).trans h.c5, (k _).trans h.c6, (k _).trans h.c7, (k _).trans h.c8, (k _).trans h.c9, (k _).trans h.c10, (k _).trans h.c11, (k _).trans h.c12, (k _).trans h.c13, (k _).trans h.c14⟩
theorem parse_fresh {w W8 W' : World} {g c c1 : Nat} {a a1 : Option Addr} {l D : List Int} (v0 v1 v2 v3 v4 v5 v6 v7 v8 v9 v10 v11 v12 v13 v14 : Value) (p : PF w g a c l W8) (bw : Below W8.heap.size W8 W') (o : Owns W8 (g + 1) (.slice a1 D.length c1) D)
    (bD : M.Bytes D) (hD : D.length ≤ 65535) (room : D.length ≤ c1) (nil : a1 = none → c1 = 0) : Fresh w (set15 W' g v0 v1 v2 v3 v4 v5 v6 v7 v8 v9 v10 v11 v12 v13 v14) a1 c1 D := by
  have p' := p.step bw
  have o1 := o.below bw
  have o2 : Owns (set15 W' g v0 v1 v2 v3 v4 v5 v6 v7 v8 v9 v10 v11 v12 v13 v14) (g + 1) (.slice a1 D.length c1) D := by
    iterate 15 (refine Owns.other ?_ (show g < g + 1 by omega) _)
    exact o1
  exact ⟨owns_le (by have := p.ge; omega) o2, room, nil, o2.row (by omega) bD, set15_below p'.bel p.ge v0 v1 v2 v3 v4 v5 v6 v7 v8 v9 v10 v11 v12 v13 v14⟩
set_option maxRecDepth 100000 in
theorem u8_and192 (x : Int) (h0 : 0 ≤ x) (h1 : x ≤ 255) : bits .and .u8 x 192 = x / 64 * 64 := by
  obtain ⟨n, rfl⟩ := Int.eq_ofNat_of_zero_le h0
  have h : ∀ n : Nat, n < 256 → bits .and .u8 (n : Int) 192 = (n : Int) / 64 * 64 := by decide
  exact h n (by omega)
theorem i64_and65528 (x : Int) (h0 : 0 ≤ x) (h1 : x ≤ 65535) : bits .and .i64 x 65528 = x / 8 * 8 := by
  obtain ⟨n, rfl⟩ := Int.eq_ofNat_of_zero_le h0
  show IntKind.i64.wrap ((BitVec.ofInt 64 n &&& BitVec.ofInt 64 65528).toNat : Int) = _
  have h1' : (BitVec.ofInt 64 (n : Int)).toNat = n := by rw [BitVec.toNat_ofInt]; omega
  have h2 : (BitVec.ofInt 64 65528).toNat = 65528 := by decide
  have h3 : n &&& 65528 = n / 8 * 8 := by
    have e : n / 8 * 8 = (n / 8) <<< 3 := by rw [Nat.shiftLeft_eq]
    rw [e]
    apply Nat.eq_of_testBit_eq
    intro j
    rw [Nat.testBit_and, Nat.testBit_shiftLeft, show n / 8 = n >>> 3 by rw [Nat.shiftRight_eq_div_pow], Nat.testBit_shiftRight]
    by_cases hj : j < 16
    · have hd : ∀ j, j < 16 → Nat.testBit 65528 j = decide (3 ≤ j) := by decide
      rw [hd j hj]
      by_cases h3 : 3 ≤ j
      · rw [show 3 + (j - 3) = j by omega]; simp [h3]
      · simp [h3]
    · have hz : n.testBit j = false := Nat.testBit_lt_two_pow (Nat.lt_of_lt_of_le (show n < 2 ^ 16 by omega) (Nat.pow_le_pow_right (by decide) (by omega)))
      rw [hz]
      rw [show 3 + (j - 3) = j by omega, hz]
      simp
  rw [BitVec.toNat_and, h1', h2, h3, IntKind.wrap_i64]
  omega
theorem i64_and1 (x : Int) (h0 : 0 ≤ x) (h1 : x ≤ 65535) : bits .and .i64 x 1 = x % 2 := by
  obtain ⟨n, rfl⟩ := Int.eq_ofNat_of_zero_le h0
  have := i64_and_pow n 0 (by decide) (by omega)
  rw [show ((2 : Int) ^ 0) = 1 from rfl] at this
  rw [this]
  simp
set_option maxRecDepth 100000 in
set_option maxHeartbeats 1000000 in
theorem options6_any (a : Option Addr) (c : Nat) (l : List Int) (w : World) (h : Row w a l) (hl2 : 8 ≤ l.length) (hc : l.length ≤ c) (hcm : c ≤ 9223372036854775807) :
    Calls Try.prog 87 #[.slice a l.length c] w fun e w' => e = .returned (.int .i64 (opt6 (l.drop 2))) ∧ w' = w := by
  obtain ⟨T, hT⟩ : ∃ T, opt6 (l.drop 2) = T := ⟨_, rfl⟩
  rw [hT]
  have HT : Hid (opt6 (l.drop 2) = T) := hT
  have hd := h.drop c 2 hc
  have hdl : (l.drop 2).length = l.length - 2 := List.length_drop
  obtain ⟨bk, off, rfl, _⟩ := h.cells (by omega)
  clear hT
  have hc2 : ¬ c = 2 := by omega
  rw [if_neg hc2] at hd
  go_enter Try.func87, Try.ntmps87
  go_wp2
  go_loop [3] (fun v => ∃ a' c' r, v = .slice a' r.length c' ∧ Row w a' r ∧ r.length ≤ c' ∧ c' ≤ 9223372036854775807 ∧ Hid (opt6 r = T)) (fun v => sliceLen v)
  case atStart => exact ⟨_, _, l.drop 2, by rw [hdl], by simpa [Go.WideShapes.add_plain] using hd, by rw [hdl]; omega, by omega, HT⟩
  case round =>
    obtain ⟨a', c', r, rfl, hr, hc', hcm', ho⟩ := hrel
    clear hc hcm h HT hd hdl hl2
    cases r with
    | nil =>
      have e : Hid (0 = T) := by show 0 = T; rw [← ho.out, opt6_nil]
      clear ho hr
      simp only [List.length_nil] at hc' ⊢
      go_wp2
      go_ret
      exact ⟨ret_int e.out, rfl⟩
    | cons x r =>
      obtain ⟨bk, off, rfl, hcl⟩ := hr.cells (by simp)
      have c0 := hcl 0 (by simp)
      have hx := hr.bytes.get 0
      simp only [Nat.add_zero, List.getD_cons_zero] at c0 hx
      simp only [List.length_cons] at hc' ⊢
      have hn0 : ((r.length : Int) + 1 > 0) := by omega
      by_cases x0 : x = 0
      · subst x0
        have hd : Row w (if c' = 1 then some ⟨bk, off, none⟩ else some ⟨bk, off + 1, none⟩) r := by
          have hd := hr.drop c' 1 (by simpa using hc')
          simpa [Go.WideShapes.add_plain] using hd
        have E : Hid (opt6 r = T) := by show opt6 r = T; rw [← ho.out, opt6_zero]
        clear ho hr hcl
        go_wp2
        exact ⟨⟨_, _, r, rfl, hd, by omega, by omega, E⟩, by simp [sliceLen]⟩
      · have x0' : (x != 0) = true := by simpa using x0
        have xa := u8_and192 x hx.1 hx.2
        by_cases x6 : x / 64 = 0
        · have x6' : (bits .and .u8 x 192 != 0) = false := by rw [xa, x6]; rfl
          cases r with
          | nil =>
            have e : Hid (7 = T) := by show 7 = T; rw [← ho.out, opt6_bad x [] x0 (.inr (.inl (by simp)))]
            clear ho hr hcl
            simp only [List.length_nil] at hc' ⊢
            go_wp2
            go_ret
            exact ⟨ret_int e.out, rfl⟩
          | cons y r =>
            have c1 := hcl 1 (by simp)
            have hy := hr.bytes.get 1
            simp only [List.getD_cons_succ, List.getD_cons_zero, List.length_cons] at c1 hy hc' hn0 ⊢
            obtain ⟨n, hn⟩ : ∃ n, r.length + 1 + 1 = n := ⟨_, rfl⟩
            have HN : Hid (r.length + 1 + 1 = n) := hn
            have hn1 : 2 ≤ n := by omega
            have hn2 : ¬ ((n : Int) < 2) := by omega
            have hn3 : (n : Int) > 0 := by omega
            rw [hn] at hc' ⊢
            clear hn hn0
            by_cases hb : y > (n : Int) - 2
            · have e : Hid (7 = T) := by show 7 = T; rw [← ho.out, opt6_bad x _ x0 (.inr (.inr (by have := HN.out; simp only [List.getD_cons_zero, List.length_cons]; omega)))]
              clear ho hr hcl
              go_wp2
              go_ret
              exact ⟨ret_int e.out, rfl⟩
            · have hn := opt6_next x (y :: r) x0 (by have := HN.out; simp only [List.getD_cons_zero, List.length_cons]; omega)
              simp only [List.getD_cons_zero] at hn
              obtain ⟨m, rfl⟩ := Int.eq_ofNat_of_zero_le hy.1
              rw [Int.toNat_natCast] at hn
              have hdd : ((m : Int) :: r).drop (1 + m) = (x :: (m : Int) :: r).drop (2 + m) := by rw [show 2 + m = (1 + m) + 1 by omega, List.drop_succ_cons]
              have E : Hid (opt6 ((x :: (m : Int) :: r).drop (2 + m)) = T) := by show _ = T; rw [← hdd, ← hn]; exact ho.out
              have hd : Row w (if c' = 2 + m then some ⟨bk, off, none⟩ else some ⟨bk, off + (2 + m), none⟩) ((x :: (m : Int) :: r).drop (2 + m)) := by
                have hd := hr.drop c' (2 + m) (by have := HN.out; simp; omega)
                simpa [Go.WideShapes.add_plain] using hd
              have hl2 : Hid (n - (2 + m) = ((x :: (m : Int) :: r).drop (2 + m)).length) := by
                show _ = _
                have := HN.out
                simp
                omega
              have y4 : (2 : Int) + (m : Int) ≤ (n : Int) := by omega
              have y5 : 2 + m ≤ n := by omega
              clear ho hr hcl hn hdd
              go_wp2
              exact ⟨⟨_, _, _, by rw [hl2.out], hd, by rw [← hl2.out]; omega, by omega, E⟩, by simp [sliceLen]; omega⟩
        · have x6' : (bits .and .u8 x 192 != 0) = true := by rw [xa]; simp; omega
          have e : Hid (7 = T) := by show 7 = T; rw [← ho.out, opt6_bad x _ x0 (.inl x6)]
          clear ho hr hcl
          go_wp2
          go_ret
          exact ⟨ret_int e.out, rfl⟩
set_option maxHeartbeats 400000 in
theorem routed_any (a : Option Addr) (c : Nat) (l : List Int) (w : World) (h : Row w a l) (hl : 8 ≤ l.length) :
    Calls Try.prog 88 #[.slice a l.length c] w fun e w' => e = .returned (.int .i64 (if l.getD 3 0 ≠ 0 ∨ l.getD 2 0 = 0 then 8 else 0)) ∧ w' = w := by
  obtain ⟨bk, off, rfl, hc⟩ := h.cells (by omega)
  have c2 := hc 2 (by omega)
  have c3 := hc 3 (by omega)
  have h2 : (2 : Int) < (l.length : Int) := by omega
  have h3 : (3 : Int) < (l.length : Int) := by omega
  have hs := h.small
  clear hc h
  generalize l.getD 2 0 = x at *
  generalize l.getD 3 0 = y at *
  by_cases hy : y = 0
  · by_cases hx : x = 0
    · subst hx; subst hy
      go_enter Try.func88, Try.ntmps88
      go_wp2
      go_ret
      exact ⟨rfl, rfl⟩
    · have hx' : (x == 0) = false := by simpa using hx
      rw [if_neg (by omega)]
      subst hy
      go_enter Try.func88, Try.ntmps88
      go_wp2
      go_ret
      exact ⟨rfl, rfl⟩
  · have hy' : (y != 0) = true := by simpa using hy
    rw [if_pos (.inl hy)]
    go_enter Try.func88, Try.ntmps88
    go_wp2
    go_ret
    exact ⟨rfl, rfl⟩
set_option maxHeartbeats 400000 in
theorem size6_any (a : Option Addr) (c : Nat) (l : List Int) (k : Int) (w : World) (h : Row w a l) :
    Calls Try.prog 83 #[.int .i64 k, .slice a l.length c] w fun e w' => e = .returned (.int .i64 (hsz k l)) ∧ w' = w := by
  have hs := h.small
  by_cases hk : k = 44
  · have e : hsz k l = 8 := by unfold hsz; rw [if_pos (.inl hk)]
    rw [e]; clear e
    subst hk
    go_enter Try.func83, Try.ntmps83
    go_wp2
    go_ret
    exact ⟨rfl, rfl⟩
  · have hk' : (k == 44) = false := by simpa using hk
    by_cases hl : l.length < 2
    · have e : hsz k l = 8 := by unfold hsz; rw [if_pos (.inr hl)]
      have hl' : (l.length : Int) < 2 := by omega
      rw [e]; clear e
      go_enter Try.func83, Try.ntmps83
      go_wp2
      go_ret
      exact ⟨rfl, rfl⟩
    · have e : hsz k l = ((l.getD 1 0).toNat + 1) * 8 := by unfold hsz; rw [if_neg (by omega)]
      have hl' : ¬ (l.length : Int) < 2 := by omega
      have hl1 : (1 : Int) < (l.length : Int) := by omega
      rw [e]; clear e
      obtain ⟨bk, off, rfl, hc⟩ := h.cells (by omega)
      have c1 := hc 1 (by omega)
      have b1 := h.bytes.get 1
      clear hc h
      generalize l.getD 1 0 = x at *
      obtain ⟨m, rfl⟩ := Int.eq_ofNat_of_zero_le b1.1
      rw [Int.toNat_natCast]
      go_enter Try.func83, Try.ntmps83
      go_wp2
      go_ret
      exact ⟨ret_int (by first | omega | (simp; omega)), rfl⟩
end Go.Proofs.Ytbghilihccaaaaa
