/- Texts joined: Ip4A Ip4B Check Ip4T Room Ip4Q Arg3 Puts SgM SgA -/
import Derived.Test.YtpjjkdgmfjhfiaaSgrR2
import Derived.Laws.MakeOwn
import Derived.ProofKit
import Derived.OpenShut
import Derived.Deep.Strs
import Derived.ChangeSame
import Derived.ChangeArms
namespace Go.Proofs.Ytpjjkdgmfjhfiaa
open Go.RowKit
set_option linter.unusedVariables false
set_option linter.unusedSimpArgs false
def sliceLen : Value → Nat
  | .slice _ n _ => n
  | _ => 0
theorem sliceLen_slice (a : Option Addr) (n c : Nat) : sliceLen (.slice a n c) = n := rfl
end Go.Proofs.Ytpjjkdgmfjhfiaa
namespace Go.Proofs.Ytpjjkdgmfjhfiaa
open Go.RowKit
theorem nat_and_pow (x i : Nat) : x &&& 2 ^ i = x / 2 ^ i % 2 * 2 ^ i := by
  have e : x / 2 ^ i % 2 = (x.testBit i).toNat := by
    rw [Nat.testBit_eq_decide_div_mod_eq]
    have := Nat.mod_two_eq_zero_or_one (x / 2 ^ i)
    rcases this with h | h <;> simp [h]
  apply Nat.eq_of_testBit_eq
  intro j
  rw [Nat.testBit_and, Nat.testBit_two_pow, e]
  by_cases hj : i = j
  · subst hj
    cases x.testBit i <;> simp
  · cases hx : x.testBit i <;> simp [hj]
theorem i64_and_pow (x : Nat) (i : Nat) (hi : i < 62) (hx : x < 9223372036854775808) : bits .and .i64 (x : Int) (2 ^ i) = ((x / 2 ^ i % 2 * 2 ^ i : Nat) : Int) := by
  show IntKind.i64.wrap ((BitVec.ofInt 64 x &&& BitVec.ofInt 64 (2 ^ i)).toNat : Int) = _
  have h1 : (BitVec.ofInt 64 (x : Int)).toNat = x := by rw [BitVec.toNat_ofInt]; omega
  have hp : 2 ^ i < 2 ^ 62 := Nat.pow_lt_pow_right (by decide) hi
  have h2 : (BitVec.ofInt 64 ((2 : Int) ^ i)).toNat = 2 ^ i := by
    rw [BitVec.toNat_ofInt, show ((2 : Int) ^ i) = ((2 ^ i : Nat) : Int) by simp]
    generalize 2 ^ i = q at hp
    omega
  rw [BitVec.toNat_and, h1, h2, nat_and_pow, IntKind.wrap_i64]
  have h3 : x / 2 ^ i % 2 * 2 ^ i ≤ 2 ^ i := by
    have h4 := Nat.mod_lt (x / 2 ^ i) (by decide : 0 < 2)
    have h5 : x / 2 ^ i % 2 * 2 ^ i ≤ 1 * 2 ^ i := Nat.mul_le_mul_right _ (by omega)
    omega
  generalize x / 2 ^ i % 2 * 2 ^ i = y at h3
  generalize 2 ^ i = q at hp h3
  omega
end Go.Proofs.Ytpjjkdgmfjhfiaa
namespace Go.Proofs.Ytpjjkdgmfjhfiaa
open Go.RowKit
set_option linter.unusedVariables false
set_option maxHeartbeats 400000 in
theorem check_any (a : Option Addr) (cap : Nat) (ls : List (List Int)) (w : World) (h : Rowss w a ls) :
    Calls Try.prog 42 #[.slice a ls.length cap] w fun e w' => e = .returned (.int .i64 (65535 - M.sumOf ls)) ∧ w' = w := by
  have hb := M.nf_bd (M.raw true ls.flatten)
  have hb' : 0 ≤ M.sumOf ls ∧ M.sumOf ls ≤ 65535 := hb
  clear hb
  go_enter Try.func42, Try.ntmps42
  go_wp2_with (go_at_call 65; refine (sum_any _ _ _ _ h).mono ?_; rintro e w' ⟨rfl, rfl⟩)
  go_ret
  exact ⟨rfl, rfl⟩
end Go.Proofs.Ytpjjkdgmfjhfiaa
namespace Go.Proofs.Ytpjjkdgmfjhfiaa
set_option linter.unusedVariables false
set_option linter.unusedSimpArgs false
theorem getD_left (l m : List Int) (i : Nat) (h : i < l.length) : (l ++ m).getD i 0 = l.getD i 0 := by
  simp only [List.getD_eq_getElem?_getD, List.getElem?_append_left h]
/-- The first twenty bytes are alike. -/
def Alike (b c : List Int) : Prop := ∀ i, i < 20 → b.getD i 0 = c.getD i 0
theorem alike_hd {b c : List Int} (h : Alike b c) : hd b = hd c := by unfold hd; rw [h 0 (by omega)]
theorem alike_sz {b c : List Int} (h : Alike b c) : sz b = sz c := by
  show 256 * b.getD 2 0 + b.getD 3 0 = 256 * c.getD 2 0 + c.getD 3 0
  rw [h 2 (by omega), h 3 (by omega)]
theorem alike_pl {b c : List Int} (h : Alike b c) : pl b = pl c := by
  show 256 * b.getD 6 0 + b.getD 7 0 = 256 * c.getD 6 0 + c.getD 7 0
  rw [h 6 (by omega), h 7 (by omega)]
theorem take_app {b m : List Int} {k : Nat} (h : k ≤ b.length) : (b ++ m).take k = b.take k := by
  rw [List.take_append_of_le_length h]
theorem part_app {b m : List Int} {x n : Int} (hx : 0 ≤ x) (hn : 0 ≤ n) (h : x + n ≤ b.length) : part (b ++ m) x n = part b x n := by
  unfold part
  rw [List.drop_append_of_le_length (by omega), List.take_append_of_le_length (by rw [List.length_drop]; omega)]
theorem alike_app {b : List Int} (m : List Int) (h : 20 ≤ b.length) : Alike (b ++ m) b := fun i hi => getD_left b m i (by omega)
/-- What stands behind turns nothing. -/
theorem behind {b : List Int} (m : List Int) (h : perr b = 0) : perr (b ++ m) = 0 ∧ pkt (b ++ m) = pkt b := by
  obtain ⟨h1, h2, h3, h4, h5, h6, h7, h8, h9, h10, h11, h12⟩ := perr_zero.1 h
  have al := alike_app m h1
  have e1 := alike_hd al
  have e2 := alike_sz al
  have e3 := alike_pl al
  have e4 : mr (b ++ m) = mr b := by unfold mr; rw [e3]
  have e5 : ofs (b ++ m) = ofs b := by unfold ofs; rw [e3]
  have e6 : (b ++ m).take (hd b).toNat = b.take (hd b).toNat := take_app (by omega)
  refine ⟨perr_zero.2 ⟨by rw [List.length_append]; omega, by rw [al 0 (by omega)]; exact h2, by rw [e1]; exact h3, by rw [e1, List.length_append]; omega, by rw [e1, e2]; exact h5, by rw [e2, List.length_append]; omega, by rw [e1, e6]; exact h7, by rw [al 8 (by omega)]; exact h8, by rw [e3]; exact h9, by rw [e1, e6]; exact h10, by rw [e1, e2, e4]; exact h11, by rw [e1, e2, e5]; exact h12⟩, ?_⟩
  have e7 : fr (b ++ m) = fr b := by unfold fr; rw [e4, e5]
  have e8 : u16 (b ++ m) 4 = u16 b 4 := by
    show 256 * (b ++ m).getD 4 0 + (b ++ m).getD 5 0 = 256 * b.getD 4 0 + b.getD 5 0
    rw [al 4 (by omega), al 5 (by omega)]
  unfold pkt
  rw [part_app (by omega) (by omega) (by omega), part_app (by omega) (by omega) (by omega), al 9 (by omega), al 8 (by omega), e7, e8, e5, e4, e1, e2, part_app (by omega) (by omega) (by omega)]
end Go.Proofs.Ytpjjkdgmfjhfiaa
namespace Go.Proofs.Ytpjjkdgmfjhfiaa
open Go.RowKit
set_option linter.unusedVariables false
/-- One byte of a slice of the call's own: where it lies, and what writing it does. -/
theorem Owns.write {w : World} {B n c : Nat} {a : Option Addr} {l : List Int} (h : Owns w B (.slice a n c) l) (hl : l.length = n) (k : Nat) (hk : k < n) :
    ∃ g, a = some ⟨g, 0, none⟩ ∧ B ≤ g ∧ g < w.heap.size ∧ w.cell? ⟨g, k, none⟩ = some (.int .u8 (l.getD k 0)) ∧ w.frozen? ⟨g, k, none⟩ = false ∧ ∀ y, Owns (w.setCell ⟨g, k, none⟩ (.int .u8 y)) B (.slice a n c) (l.set k y) := by
  subst hl
  obtain ⟨a', c', h1, _, h2, h3, h4⟩ := h.form
  cases h1
  cases a with
  | none =>
    obtain ⟨_, hh⟩ := h
    rcases hh with ⟨_, h6⟩ | ⟨g, cap, cur, h6, _⟩
    · omega
    · cases h6
  | some x =>
    obtain ⟨g, off, spot⟩ := x
    have := h3 _ rfl
    simp at this
    obtain ⟨h5, rfl, rfl⟩ := this
    have hc := World.ownsRow.cellAt (e := 5) (size := 1) h k (by omega)
    refine ⟨g, rfl, h5, ?_, ?_, h.frozen k, fun y => h.stored k y⟩
    · exact (World.ownsRow.lt h g rfl).2
    · rw [hc]; simp [hk]
theorem Owns.other {w : World} {B : Nat} {v : Value} {l : List Int} (h : Owns w B v l) {ad : Addr} (ha : ad.block < B) (u : Value) : Owns (w.setCell ad u) B v l := ownsRow_setCell_below h ha u
theorem size_setCell (w : World) (a : Addr) (u : Value) : (w.setCell a u).heap.size = w.heap.size := by simp
end Go.Proofs.Ytpjjkdgmfjhfiaa
namespace Go.Proofs.Ytpjjkdgmfjhfiaa
open Go.RowKit
set_option linter.unusedVariables false
set_option linter.unusedSimpArgs false
/-- The value of a packet without extension headers. -/
abbrev Pk.v (p : Pk) (x d : Value) : Value :=
  .agg #[.int .i64 p.fam, .int .i64 p.src.fam, .int .u64 p.src.hi, .int .u64 p.src.lo, .int .i64 p.dst.fam, .int .u64 p.dst.hi, .int .u64 p.dst.lo, .int .i64 p.proto, .int .i64 p.hop, .bool p.frag, .int .u32 p.id, .int .i64 p.off, .bool p.more, x, d]
abbrev zIp : Array Value := (sRa 0 0 0 0 0 0 0 0 0 false 0 0 false none 0 0 none 0 0)
/-- A block of fifteen cells that nobody has written yet. -/
structure ZIp (W : World) (g : Nat) : Prop where
  c0 : W.cell? ⟨g, 0, none⟩ = some (.int .i64 0)
  c1 : W.cell? ⟨g, 1, none⟩ = some (.int .i64 0)
  c2 : W.cell? ⟨g, 2, none⟩ = some (.int .u64 0)
  c3 : W.cell? ⟨g, 3, none⟩ = some (.int .u64 0)
  c4 : W.cell? ⟨g, 4, none⟩ = some (.int .i64 0)
  c5 : W.cell? ⟨g, 5, none⟩ = some (.int .u64 0)
  c6 : W.cell? ⟨g, 6, none⟩ = some (.int .u64 0)
  c7 : W.cell? ⟨g, 7, none⟩ = some (.int .i64 0)
  c8 : W.cell? ⟨g, 8, none⟩ = some (.int .i64 0)
  c9 : W.cell? ⟨g, 9, none⟩ = some (.bool false)
  c10 : W.cell? ⟨g, 10, none⟩ = some (.int .u32 0)
  c11 : W.cell? ⟨g, 11, none⟩ = some (.int .i64 0)
  c12 : W.cell? ⟨g, 12, none⟩ = some (.bool false)
  c13 : W.cell? ⟨g, 13, none⟩ = some (.slice none 0 0)
  c14 : W.cell? ⟨g, 14, none⟩ = some (.slice none 0 0)
  fz : ∀ o, W.frozen? ⟨g, o, none⟩ = false
theorem ZIp.below {W W' : World} {g B : Nat} (h : ZIp W g) (hg : g < B) (hb : Below B W W') : ZIp W' g :=
  have k : ∀ o, W'.cell? ⟨g, o, none⟩ = W.cell? ⟨g, o, none⟩ := fun o => hb.cell (p := ⟨g, o, none⟩) hg
  ⟨(k _).trans h.c0, (k _).trans h.c1, (k _).trans h.c2, (k _).trans h.c3, (k _).trans h.c4, (k _).trans h.c5, (k _).trans h.c6, (k _).trans h.c7, (k _).trans h.c8, (k _).trans h.c9, (k _).trans h.c10, (k _).trans h.c11, (k _).trans h.c12, (k _).trans h.c13, (k _).trans h.c14, fun o => (hb.frozen (p := ⟨g, o, none⟩) hg).trans (h.fz o)⟩
theorem put_oth {W : World} {g i j : Nat} {v : Value} (h : i ≠ j) : (W.setCell ⟨g, i, none⟩ v).cell? ⟨g, j, none⟩ = W.cell? ⟨g, j, none⟩ := put_other (by simp [h])
/-- A block that holds these fifteen values. -/
structure SIp (W : World) (g : Nat) (v0 v1 v2 v3 v4 v5 v6 v7 v8 v9 v10 v11 v12 v13 v14 : Value) : Prop where
  c0 : W.cell? ⟨g, 0, none⟩ = some v0
  c1 : W.cell? ⟨g, 1, none⟩ = some v1
  c2 : W.cell? ⟨g, 2, none⟩ = some v2
  c3 : W.cell? ⟨g, 3, none⟩ = some v3
  c4 : W.cell? ⟨g, 4, none⟩ = some v4
  c5 : W.cell? ⟨g, 5, none⟩ = some v5
  c6 : W.cell? ⟨g, 6, none⟩ = some v6
  c7 : W.cell? ⟨g, 7, none⟩ = some v7
  c8 : W.cell? ⟨g, 8, none⟩ = some v8
  c9 : W.cell? ⟨g, 9, none⟩ = some v9
  c10 : W.cell? ⟨g, 10, none⟩ = some v10
  c11 : W.cell? ⟨g, 11, none⟩ = some v11
  c12 : W.cell? ⟨g, 12, none⟩ = some v12
  c13 : W.cell? ⟨g, 13, none⟩ = some v13
  c14 : W.cell? ⟨g, 14, none⟩ = some v14
/-- What Parse holds on its way: the bytes, the box that its functions look into, the answer not yet written. -/
structure PF (w : World) (g : Nat) (a : Option Addr) (c : Nat) (l : List Int) (W : World) : Prop where
  row : Row W a l
  box : W.cell? ⟨w.heap.size, 0, none⟩ = some (.slice a l.length c)
  z : ZIp W g
  bel : Below w.heap.size w W
  size : w.heap.size + 2 ≤ W.heap.size
  lt : g < W.heap.size
  ge : w.heap.size ≤ g
theorem PF.step {w : World} {g : Nat} {a : Option Addr} {c : Nat} {l : List Int} {W W' : World} (p : PF w g a c l W) (hb : Below W.heap.size W W') : PF w g a c l W' :=
  ⟨p.row.below hb, (hb.cell (p := ⟨w.heap.size, 0, none⟩) (by have := p.size; show w.heap.size < _; omega)).trans p.box, p.z.below p.lt hb, p.bel.trans (hb.mono (by have := p.size; omega)), Nat.le_trans p.size hb.size, Nat.lt_of_lt_of_le p.lt hb.size, p.ge⟩
theorem SIp.below {W W' : World} {g B : Nat} {v0 v1 v2 v3 v4 v5 v6 v7 v8 v9 v10 v11 v12 v13 v14 : Value} (h : SIp W g v0 v1 v2 v3 v4 v5 v6 v7 v8 v9 v10 v11 v12 v13 v14) (hg : g < B) (hb : Below B W W') : SIp W' g v0 v1 v2 v3 v4 v5 v6 v7 v8 v9 v10 v11 v12 v13 v14 :=
  have k : ∀ o, W'.cell? ⟨g, o, none⟩ = W.cell? ⟨g, o, none⟩ := fun o => hb.cell (p := ⟨g, o, none⟩) hg
  ⟨(k _).trans h.c0, (k _).trans h.c1, (k _).trans h.c2, (k _).trans h.c3, (k _).trans h.c4, (k _).trans h.c5, (k _).trans h.c6, (k _).trans h.c7, (k _).trans h.c8, (k _).trans h.c9, (k _).trans h.c10, (k _).trans h.c11, (k _).trans h.c12, (k _).trans h.c13, (k _).trans h.c14⟩
end Go.Proofs.Ytpjjkdgmfjhfiaa
namespace Go.Proofs.Ytpjjkdgmfjhfiaa
open Go.ChangeShapes Go.WideShapes Go.ChangeAt Go.RowKit
set_option linter.unusedVariables false
set_option linter.unusedSimpArgs false
set_option linter.constructorNameAsVariable false
set_option maxRecDepth 100000
theorem wf_i64 {x : Int} (h : (Lit.int .i64 x).wf = true) : -9223372036854775808 ≤ x ∧ x ≤ 9223372036854775807 := by
  simpa [Lit.wf, IntKind.min, IntKind.max, IntKind.signed, IntKind.bits] using h
theorem wf_u64 {x : Int} (h : (Lit.int .u64 x).wf = true) : 0 ≤ x ∧ x ≤ 18446744073709551615 := by
  simpa [Lit.wf, IntKind.min, IntKind.max, IntKind.signed, IntKind.bits] using h
theorem wf_u32 {x : Int} (h : (Lit.int .u32 x).wf = true) : 0 ≤ x ∧ x ≤ 4294967295 := by
  simpa [Lit.wf, IntKind.min, IntKind.max, IntKind.signed, IntKind.bits] using h
theorem lst3 {cs : List Value} (h : cs.length = 3) : ∃ a b c, cs = [a, b, c] := by
  match cs, h with
  | [a, b, c], _ => exact ⟨a, b, c, rfl⟩
theorem adr_cells {H : Type} {enc : TypeId × Value → H} {W : World} {n : Nat} {cs : List Value} {y : DataW H × List MemPlace}
    (h : DataW.trod enc Try.prog W 0 (fun _ => true) true n 24 cs = some y) : ∃ f h l, cs = [.int .i64 f, .int .u64 h, .int .u64 l] ∧ Ad.ok ⟨f, h, l⟩ := by
  obtain ⟨y0, y1, y2, k, _, hl, h0, h1, h2⟩ := Go.Deep.trod_struct3 Try.underlying24 h
  have c24 : Try.prog.cellsOf 24 = 3 := by kernel_rfl
  have c3 : Try.prog.cellsOf 3 = 1 := by kernel_rfl
  have c22 : Try.prog.cellsOf 22 = 1 := by kernel_rfl
  rw [c24] at hl
  obtain ⟨v0, v1, v2, rfl⟩ := lst3 hl
  simp only [c3, c22] at h0 h1 h2
  obtain ⟨f, e0, _, w0⟩ := DataW.trod_int Try.underlying3 h0
  obtain ⟨h, e1, _, w1⟩ := DataW.trod_int Try.underlying22 h1
  obtain ⟨l, e2, _, w2⟩ := DataW.trod_int Try.underlying22 h2
  simp only [List.drop_zero, List.drop_succ_cons, List.take_succ_cons, List.take_zero, List.cons.injEq, and_true] at e0 e1 e2
  subst e0 e1 e2
  exact ⟨_, _, _, rfl, wf_i64 w0, wf_u64 w1, wf_u64 w2⟩
theorem bytes_cells {H : Type} {enc : TypeId × Value → H} {W : World} {fuel : Nat} {cs : List Value} {y : DataW H × List MemPlace} (hf : DataW.trod enc Try.prog W 0 (fun _ => true) true fuel 28 cs = some y)
    (hsz : ∀ n ∈ y.1.weights Try.prog 28, n ≤ reachBytes) :
    ∃ (a : Option Addr) (cap : Nat) (l : List Int), cs = [.slice a l.length cap] ∧ l.length ≤ cap ∧ cap ≤ 140737488351232 ∧ (a = none → cap = 0) ∧ Row W a l := by
  have hbe : Try.prog.bytesOf 5 = 1 := by kernel_rfl
  rcases open_ints Try.underlying28 Try.underlying5 (by kernel_rfl) hf with ⟨hcs, _⟩ | ⟨x, l, c, zs, hcs, _, hl, hm, hz, hx, hcell, hwz⟩
  · exact ⟨none, 0, [], hcs, Nat.le_refl _, by omega, fun _ => rfl, row_nil _ _⟩
  · simp only [if_true] at hz
    subst hx
    have hn := hsz ((lits .u8 (zs.take l)).length + (lits (H := H) .u8 (zs.drop l)).length) (by simp only [DataW.weights, Try.underlying28, hbe, Nat.mul_one]; exact List.mem_cons_self ..)
    simp only [lits, List.length_map, List.length_take, List.length_drop, reachBytes] at hn
    have e1 : l = (zs.take l).length := by simp; omega
    exact ⟨some x, c, zs.take l, by rw [← e1]; exact hcs, by omega, by omega, fun h => (by cases h), row_of_ints (by omega) hcell hwz⟩
theorem ints_cells {H : Type} {enc : TypeId × Value → H} {W : World} {fuel : Nat} {cs : List Value} {y : DataW H × List MemPlace} (hf : DataW.trod enc Try.prog W 0 (fun _ => true) true fuel 34 cs = some y) :
    ∃ (a : Option Addr) (n cap : Nat), cs = [.slice a n cap] := by
  rcases open_ints Try.underlying34 Try.underlying3 (by kernel_rfl) hf with ⟨hcs, _⟩ | ⟨x, l, c, zs, hcs, _⟩
  · exact ⟨none, 0, 0, hcs⟩
  · exact ⟨some x, l, c, hcs⟩
theorem arr15 {cs : Array Value} (h : cs.size = 15) : ∃ v0 v1 v2 v3 v4 v5 v6 v7 v8 v9 v10 v11 v12 v13 v14, cs = #[v0, v1, v2, v3, v4, v5, v6, v7, v8, v9, v10, v11, v12, v13, v14] := by
  obtain ⟨l⟩ := cs
  match l, h with
  | [v0, v1, v2, v3, v4, v5, v6, v7, v8, v9, v10, v11, v12, v13, v14], _ => exact ⟨v0, v1, v2, v3, v4, v5, v6, v7, v8, v9, v10, v11, v12, v13, v14, rfl⟩
theorem open_ip {H : Type} {enc : TypeId × Value → H} {W : World} {base : Nat} {v : Value} {d : DataW H} {p : List MemPlace}
    (hv : Value.okWide Try.prog W .any base 36 v) (h : DataW.Trod enc Try.prog W 0 (fun _ => true) true 36 v d p) (hsz : ∀ n ∈ d.weights Try.prog 36, n ≤ reachBytes) :
    ∃ (q : Pk) (xa : Option Addr) (xn xc : Nat) (da : Option Addr) (dc : Nat), v = q.v (.slice xa xn xc) (.slice da q.data.length dc) ∧ q.ok ∧ q.data.length ≤ dc ∧ dc ≤ 140737488351232 ∧ (da = none → dc = 0) ∧ Row W da q.data := by
  have c29 : Try.prog.cellsOf 36 = 15 := by kernel_rfl
  have cA : Try.prog.cellsOf 24 = 3 := by kernel_rfl
  have cI : Try.prog.cellsOf 3 = 1 := by kernel_rfl
  have cB : Try.prog.cellsOf 4 = 1 := by kernel_rfl
  have cU : Try.prog.cellsOf 33 = 1 := by kernel_rfl
  have cX : Try.prog.cellsOf 34 = 1 := by kernel_rfl
  have cY : Try.prog.cellsOf 28 = 1 := by kernel_rfl
  obtain ⟨cs, rfl, hs⟩ := okWide_struct Try.underlying36 hv
  obtain ⟨v0, v1, v2, v3, v4, v5, v6, v7, v8, v9, v10, v11, v12, v13, v14, rfl⟩ := arr15 (hs.trans c29)
  obtain ⟨fuel, hf0⟩ := h
  obtain ⟨xs, n, _, hx, hl, hlen, hf⟩ := DataW.trod_struct Try.underlying36 hf0
  obtain ⟨y0, y1, y2, y3, y4, y5, y6, y7, y8, y9, y10, rfl⟩ : ∃ y0 y1 y2 y3 y4 y5 y6 y7 y8 y9 y10, xs = [y0, y1, y2, y3, y4, y5, y6, y7, y8, y9, y10] := by
    match xs, hlen with
    | [y0, y1, y2, y3, y4, y5, y6, y7, y8, y9, y10], _ => exact ⟨y0, y1, y2, y3, y4, y5, y6, y7, y8, y9, y10, rfl⟩
  have h0 : DataW.trod enc Try.prog W 0 (fun _ => true) true n 3 ((([v0, v1, v2, v3, v4, v5, v6, v7, v8, v9, v10, v11, v12, v13, v14] : List Value).drop 0).take (Try.prog.cellsOf 3)) = some y0 := hf 0 _ rfl
  have h1 : DataW.trod enc Try.prog W 0 (fun _ => true) true n 24 ((([v0, v1, v2, v3, v4, v5, v6, v7, v8, v9, v10, v11, v12, v13, v14] : List Value).drop 1).take (Try.prog.cellsOf 24)) = some y1 := hf 1 _ rfl
  have h2 : DataW.trod enc Try.prog W 0 (fun _ => true) true n 24 ((([v0, v1, v2, v3, v4, v5, v6, v7, v8, v9, v10, v11, v12, v13, v14] : List Value).drop 4).take (Try.prog.cellsOf 24)) = some y2 := hf 2 _ rfl
  have h3 : DataW.trod enc Try.prog W 0 (fun _ => true) true n 3 ((([v0, v1, v2, v3, v4, v5, v6, v7, v8, v9, v10, v11, v12, v13, v14] : List Value).drop 7).take (Try.prog.cellsOf 3)) = some y3 := hf 3 _ rfl
  have h4 : DataW.trod enc Try.prog W 0 (fun _ => true) true n 3 ((([v0, v1, v2, v3, v4, v5, v6, v7, v8, v9, v10, v11, v12, v13, v14] : List Value).drop 8).take (Try.prog.cellsOf 3)) = some y4 := hf 4 _ rfl
  have h5 : DataW.trod enc Try.prog W 0 (fun _ => true) true n 4 ((([v0, v1, v2, v3, v4, v5, v6, v7, v8, v9, v10, v11, v12, v13, v14] : List Value).drop 9).take (Try.prog.cellsOf 4)) = some y5 := hf 5 _ rfl
  have h6 : DataW.trod enc Try.prog W 0 (fun _ => true) true n 33 ((([v0, v1, v2, v3, v4, v5, v6, v7, v8, v9, v10, v11, v12, v13, v14] : List Value).drop 10).take (Try.prog.cellsOf 33)) = some y6 := hf 6 _ rfl
  have h7 : DataW.trod enc Try.prog W 0 (fun _ => true) true n 3 ((([v0, v1, v2, v3, v4, v5, v6, v7, v8, v9, v10, v11, v12, v13, v14] : List Value).drop 11).take (Try.prog.cellsOf 3)) = some y7 := hf 7 _ rfl
  have h8 : DataW.trod enc Try.prog W 0 (fun _ => true) true n 4 ((([v0, v1, v2, v3, v4, v5, v6, v7, v8, v9, v10, v11, v12, v13, v14] : List Value).drop 12).take (Try.prog.cellsOf 4)) = some y8 := hf 8 _ rfl
  have h9 : DataW.trod enc Try.prog W 0 (fun _ => true) true n 34 ((([v0, v1, v2, v3, v4, v5, v6, v7, v8, v9, v10, v11, v12, v13, v14] : List Value).drop 13).take (Try.prog.cellsOf 34)) = some y9 := hf 9 _ rfl
  have h10 : DataW.trod enc Try.prog W 0 (fun _ => true) true n 28 ((([v0, v1, v2, v3, v4, v5, v6, v7, v8, v9, v10, v11, v12, v13, v14] : List Value).drop 14).take (Try.prog.cellsOf 28)) = some y10 := hf 10 _ rfl
  simp only [cA, cI, cB, cU, cX, cY, List.drop_zero, List.drop_succ_cons, List.take_succ_cons, List.take_zero] at h0 h1 h2 h3 h4 h5 h6 h7 h8 h9 h10
  obtain ⟨f, e0, _, w0⟩ := DataW.trod_int Try.underlying3 h0
  obtain ⟨sf, sh, sl, e1, ok1⟩ := adr_cells h1
  obtain ⟨df, dh, dl, e2, ok2⟩ := adr_cells h2
  obtain ⟨pr, e3, _, w3⟩ := DataW.trod_int Try.underlying3 h3
  obtain ⟨ho, e4, _, w4⟩ := DataW.trod_int Try.underlying3 h4
  obtain ⟨fg, e5, _⟩ := DataW.trod_bool Try.underlying4 h5
  obtain ⟨id, e6, _, w6⟩ := DataW.trod_int Try.underlying33 h6
  obtain ⟨of, e7, _, w7⟩ := DataW.trod_int Try.underlying3 h7
  obtain ⟨mo, e8, _⟩ := DataW.trod_bool Try.underlying4 h8
  obtain ⟨xa, xn, xc, e9⟩ := ints_cells h9
  have hd : d = .agg [y0.1, y1.1, y2.1, y3.1, y4.1, y5.1, y6.1, y7.1, y8.1, y9.1, y10.1] := by simpa using congrArg Prod.fst hx
  obtain ⟨da, dc, dat, e10, g1, g2, g3, g4⟩ := bytes_cells h10 (fun m hm => hsz m (by
    rw [hd]
    simp only [DataW.weights, Try.underlying36]
    exact DataW.weights_mem_each (j := 10) (t := 28) rfl rfl m hm))
  simp only [List.cons.injEq, and_true] at e1
  simp only [List.cons.injEq, and_true] at e2
  obtain ⟨rfl, rfl, rfl⟩ := e1
  obtain ⟨rfl, rfl, rfl⟩ := e2
  have one : ∀ {x y : Value}, [x] = [y] → x = y := fun h => (List.cons.inj h).1
  obtain rfl := one e0
  obtain rfl := one e3
  obtain rfl := one e4
  obtain rfl := one e5
  obtain rfl := one e6
  obtain rfl := one e7
  obtain rfl := one e8
  obtain rfl := one e9
  obtain rfl := one e10
  exact ⟨⟨f, ⟨sf, sh, sl⟩, ⟨df, dh, dl⟩, pr, ho, fg, id, of, mo, dat⟩, xa, xn, xc, da, dc, rfl, ⟨wf_i64 w0, ok1, ok2, wf_i64 w3, wf_i64 w4, wf_u32 w6, wf_i64 w7, g4.bytes, by show dat.length ≤ _; omega⟩, g1, g2, g3, g4⟩
end Go.Proofs.Ytpjjkdgmfjhfiaa
namespace Go.Proofs.Ytpjjkdgmfjhfiaa
open Go.RowKit
set_option linter.unusedVariables false
def put16 (l : List Int) (n : Int) : List Int := l ++ [n / 256 % 256, n % 256]
def put32 (l : List Int) (u : Int) : List Int := l ++ [u / 16777216, u / 65536 % 256, u / 256 % 256, u % 256]
set_option maxHeartbeats 400000 in
theorem put16_any (a : Option Addr) (c : Nat) (l : List Int) (n : Int) (w : World) (h : Row w a l) (hnil : a = none → c = 0) (hl : l.length ≤ 140737488351232) :
    Calls Try.prog 26 #[.slice a l.length c, .int .i64 n] w fun e w' => ∃ a' c', e = .returned (.slice a' (put16 l n).length c') ∧ Fresh w w' a' c' (put16 l n) := by
  obtain ⟨r, hr⟩ : ∃ r, put16 l n = r := ⟨_, rfl⟩
  have hrl : r.length ≤ l.length + 2 := by rw [← hr]; simp [put16]
  rw [hr]
  have HR : Hid (l ++ [n / 256 % 256, n % 256] = r) := hr
  clear hr
  go_enter Try.func26, Try.ntmps26
  go_wp2_with fail
  refine (longer_any _ _ l _ _ h hnil hl (by omega) (by omega)).mono ?_
  rintro e w1 ⟨a1, c1, rfl, f1⟩
  have b1 := f1.below
  have z1 := b1.size
  have o1 := f1.owns
  have hb := h.bytes
  clear f1 h
  go_wp2_with (at_builtin; refine wpList_app2 _ rfl _ _ rfl w.heap.size _ l rfl (o1.alloc _) hb _ 2 [n / 256 % 256, n % 256] rfl ?row (fun hh => by cases hh) r HR.out ?c1 ?c2 ?_)
  case row =>
    refine row_at _ 5 [n / 256 % 256, n % 256] _ (by simp) (by simp) ?_
    intro z hz
    simp at hz
    omega
  case c1 => omega
  case c2 => simp; omega
  intro a2 c2 w2 o2 hc2 hn2 r2 b2 _
  go_wp2
  go_ret
  exact ⟨a2, c2, rfl, o2, hc2, hn2, r2, (b1.alloc z1 _).trans b2⟩
set_option maxHeartbeats 400000 in
theorem put32_any (a : Option Addr) (c : Nat) (l : List Int) (n : Int) (w : World) (h : Row w a l) (hnil : a = none → c = 0) (hl : l.length ≤ 140737488351232) (hn : 0 ≤ n ∧ n ≤ 4294967295) :
    Calls Try.prog 27 #[.slice a l.length c, .int .u32 n] w fun e w' => ∃ a' c', e = .returned (.slice a' (put32 l n).length c') ∧ Fresh w w' a' c' (put32 l n) := by
  obtain ⟨r, hr⟩ : ∃ r, put32 l n = r := ⟨_, rfl⟩
  have hrl : r.length ≤ l.length + 4 := by rw [← hr]; simp [put32]
  rw [hr]
  have HR : Hid (l ++ [n / 16777216, n / 65536 % 256, n / 256 % 256, n % 256] = r) := hr
  clear hr
  go_enter Try.func27, Try.ntmps27
  go_wp2_with fail
  refine (longer_any _ _ l _ _ h hnil hl (by omega) (by omega)).mono ?_
  rintro e w1 ⟨a1, c1, rfl, f1⟩
  have b1 := f1.below
  have z1 := b1.size
  have o1 := f1.owns
  have hb := h.bytes
  clear f1 h
  go_wp2_with (at_builtin; refine wpList_app2 _ rfl _ _ rfl w.heap.size _ l rfl (o1.alloc _) hb _ 4 [n / 16777216, n / 65536 % 256, n / 256 % 256, n % 256] rfl ?row (fun hh => by cases hh) r HR.out ?c1 ?c2 ?_)
  case row =>
    refine row_at _ 5 [n / 16777216, n / 65536 % 256, n / 256 % 256, n % 256] _ (by simp) (by simp) ?_
    intro z hz
    simp at hz
    omega
  case c1 => omega
  case c2 => simp; omega
  intro a2 c2 w2 o2 hc2 hn2 r2 b2 _
  go_wp2
  go_ret
  exact ⟨a2, c2, rfl, o2, hc2, hn2, r2, (b1.alloc z1 _).trans b2⟩
set_option maxHeartbeats 400000 in
theorem rput16_any (a : Option Addr) (c : Nat) (l : List Int) (n : Int) (w : World) (h : Row w a l) (hnil : a = none → c = 0) (hl : l.length ≤ 140737488351232) :
    Calls Try.prog 30 #[.slice a l.length c, .int .i64 n] w fun e w' => ∃ a' c', e = .returned (.slice a' (put16 l n).length c') ∧ Fresh w w' a' c' (put16 l n) := by
  obtain ⟨r, hr⟩ : ∃ r, put16 l n = r := ⟨_, rfl⟩
  have hrl : r.length ≤ l.length + 2 := by rw [← hr]; simp [put16]
  rw [hr]
  have HR : Hid (l ++ [n / 256 % 256, n % 256] = r) := hr
  clear hr
  go_enter Try.func30, Try.ntmps30
  go_wp2_with (at_builtin; refine wpList_app2 _ rfl _ _ rfl w.heap.size _ [] rfl (Owns.nil _ _) M.Bytes.nil a c l rfl h hnil l rfl ?c1 (Nat.le_refl _) ?_)
  case c1 => omega
  intro a1 c1 w1 o1 _ _ _ b1 _
  have z1 := b1.size
  have hb := h.bytes
  clear h
  go_wp2_with (at_builtin; refine wpList_app2 _ rfl _ _ rfl w.heap.size _ l rfl (o1.alloc _) hb _ 2 [n / 256 % 256, n % 256] rfl ?row (fun hh => by cases hh) r HR.out ?c1 ?c2 ?_)
  case row =>
    refine row_at _ 5 [n / 256 % 256, n % 256] _ (by simp) (by simp) ?_
    intro z hz
    simp at hz
    omega
  case c1 => omega
  case c2 => simp; omega
  intro a2 c2 w2 o2 hc2 hn2 r2 b2 _
  go_wp2
  go_ret
  exact ⟨a2, c2, rfl, o2, hc2, hn2, r2, (b1.alloc z1 _).trans b2⟩
set_option maxHeartbeats 400000 in
theorem rput32_any (a : Option Addr) (c : Nat) (l : List Int) (n : Int) (w : World) (h : Row w a l) (hnil : a = none → c = 0) (hl : l.length ≤ 140737488351232) (hn : 0 ≤ n ∧ n ≤ 4294967295) :
    Calls Try.prog 31 #[.slice a l.length c, .int .u32 n] w fun e w' => ∃ a' c', e = .returned (.slice a' (put32 l n).length c') ∧ Fresh w w' a' c' (put32 l n) := by
  obtain ⟨r, hr⟩ : ∃ r, put32 l n = r := ⟨_, rfl⟩
  have hrl : r.length ≤ l.length + 4 := by rw [← hr]; simp [put32]
  rw [hr]
  have HR : Hid (l ++ [n / 16777216, n / 65536 % 256, n / 256 % 256, n % 256] = r) := hr
  clear hr
  go_enter Try.func31, Try.ntmps31
  go_wp2_with (at_builtin; refine wpList_app2 _ rfl _ _ rfl w.heap.size _ [] rfl (Owns.nil _ _) M.Bytes.nil a c l rfl h hnil l rfl ?c1 (Nat.le_refl _) ?_)
  case c1 => omega
  intro a1 c1 w1 o1 _ _ _ b1 _
  have z1 := b1.size
  have hb := h.bytes
  clear h
  go_wp2_with (at_builtin; refine wpList_app2 _ rfl _ _ rfl w.heap.size _ l rfl (o1.alloc _) hb _ 4 [n / 16777216, n / 65536 % 256, n / 256 % 256, n % 256] rfl ?row (fun hh => by cases hh) r HR.out ?c1 ?c2 ?_)
  case row =>
    refine row_at _ 5 [n / 16777216, n / 65536 % 256, n / 256 % 256, n % 256] _ (by simp) (by simp) ?_
    intro z hz
    simp at hz
    omega
  case c1 => omega
  case c2 => simp; omega
  intro a2 c2 w2 o2 hc2 hn2 r2 b2 _
  go_wp2
  go_ret
  exact ⟨a2, c2, rfl, o2, hc2, hn2, r2, (b1.alloc z1 _).trans b2⟩
end Go.Proofs.Ytpjjkdgmfjhfiaa
namespace Go.Proofs.Ytpjjkdgmfjhfiaa
open Go.RowKit
set_option linter.unusedVariables false
set_option linter.unusedSimpArgs false
/-- May two addresses be, and are they of a family? -/
def endsB (f : Int) (s d : Ad) : Bool := s.right && (d.right && (s.fam == f && d.fam == f))
theorem endsB_iff (f : Int) (s d : Ad) : endsB f s d = true ↔ s.right = true ∧ d.right = true ∧ s.fam = f ∧ d.fam = f := by simp [endsB]
/-- The pseudo header's bytes. -/
def pseudoL (s d : Ad) (pr sz : Int) : List Int :=
  if s.fam = 4 then put16 (s.bytes ++ d.bytes ++ [0, pr % 256]) sz else put32 (s.bytes ++ d.bytes) (sz % 4294967296) ++ [0, 0, 0, pr % 256]
def pseudo (s d : Ad) (pr sz : Int) : List Int := if endsB s.fam s d = true then pseudoL s d pr sz else []
def isErr (f k : Int) : Bool := if f = 4 then (k == 3 || k == 11 || k == 12) else (f == 6 && (decide (1 ≤ k) && decide (k ≤ 4)))
def isEcho (f k : Int) : Bool := if f = 4 then (k == 8 || k == 0) else (k == 128 || k == 129)
def icmpOf (f : Int) : Int := if f = 4 then 1 else 58
/-- What is summed ahead. -/
def ahead (s d : Ad) (pr sz : Int) : List Int := if pr = 1 then [] else pseudo s d pr sz
/-- The ports that the bytes tell. -/
def portsOf (f pr : Int) (l : List Int) : Int × Int :=
  if pr = 6 then (u16v l 0, u16v l 2) else if pr = 17 then (u16v l 0, u16v l 2) else if pr = icmpOf f then (if isEcho f (l.getD 0 0) = true then (u16v l 4, u16v l 4) else (0, 0)) else (0, 0)
theorem retB {a b : Bool} (h : a = b) : Ending.returned (.bool a) = .returned (.bool b) := by rw [h]
set_option maxRecDepth 100000 in
set_option maxHeartbeats 2000000 in
theorem ofFamily_any (f sf sh sl df dh dl : Int) (w : World) :
    Calls Try.prog 23 #[.int .i64 f, .agg #[.int .i64 sf, .int .u64 sh, .int .u64 sl], .agg #[.int .i64 df, .int .u64 dh, .int .u64 dl]] w fun e w' => e = .returned (.bool (endsB f ⟨sf, sh, sl⟩ ⟨df, dh, dl⟩)) ∧ Below w.heap.size w w' := by
  obtain ⟨W1, hW1⟩ : ∃ W1, w.alloc (.cells #[.int .i64 sf, .int .u64 sh, .int .u64 sl] 24) = W1 := ⟨_, rfl⟩
  obtain ⟨W2, hW2⟩ : ∃ W2, W1.alloc (.cells #[.int .i64 df, .int .u64 dh, .int .u64 dl] 24) = W2 := ⟨_, rfl⟩
  have b1 : Below w.heap.size w W1 := by rw [← hW1]; exact (Below.refl _ _).alloc (Nat.le_refl _) _
  have b2 : Below w.heap.size w W2 := by rw [← hW2]; exact b1.alloc b1.size _
  have c0 : W2.cell? ⟨w.heap.size, 0, none⟩ = some (.int .i64 sf) := by rw [← hW2]; exact kept_alloc (Below.refl _ _) _ (by rw [← hW1]; simp)
  have c1 : W2.cell? ⟨w.heap.size, 1, none⟩ = some (.int .u64 sh) := by rw [← hW2]; exact kept_alloc (Below.refl _ _) _ (by rw [← hW1]; simp)
  have c2 : W2.cell? ⟨w.heap.size, 2, none⟩ = some (.int .u64 sl) := by rw [← hW2]; exact kept_alloc (Below.refl _ _) _ (by rw [← hW1]; simp)
  have d0 : W2.cell? ⟨W1.heap.size, 0, none⟩ = some (.int .i64 df) := by rw [← hW2]; simp
  have d1 : W2.cell? ⟨W1.heap.size, 1, none⟩ = some (.int .u64 dh) := by rw [← hW2]; simp
  have d2 : W2.cell? ⟨W1.heap.size, 2, none⟩ = some (.int .u64 dl) := by rw [← hW2]; simp
  have K1 : Hid (Calls Try.prog 48 #[.agg #[.int .i64 sf, .int .u64 sh, .int .u64 sl]] W2 _) := right_any sf sh sl W2
  have K2 : Hid (∀ W, Calls Try.prog 48 #[.agg #[.int .i64 df, .int .u64 dh, .int .u64 dl]] W _) := fun W => right_any df dh dl W
  have E : Hid (endsB f ⟨sf, sh, sl⟩ ⟨df, dh, dl⟩ = (Ad.right ⟨sf, sh, sl⟩ && (Ad.right ⟨df, dh, dl⟩ && (sf == f && df == f)))) := rfl
  generalize Ad.right ⟨sf, sh, sl⟩ = R1 at *
  generalize Ad.right ⟨df, dh, dl⟩ = R2 at *
  generalize endsB f ⟨sf, sh, sl⟩ ⟨df, dh, dl⟩ = RR at *
  go_enter Try.func23, Try.ntmps23
  go_wp2_with fail
  refine Calls.mono K1.out ?_
  rintro e W3 ⟨rfl, hW3⟩
  have b3' : Below W2.heap.size W2 W3 := by rw [hW3]; exact (Below.refl _ _).alloc (Nat.le_refl _) _
  have b3 : Below w.heap.size w W3 := b2.trans (b3'.mono b2.size)
  have c0' := kept b3' c0
  have d0' := kept b3' d0
  have d1' := kept b3' d1
  have d2' := kept b3' d2
  clear K1 hW3 hW1 hW2 c0 c1 c2 d0 d1 d2
  cases R1 with
  | false =>
    go_wp2
    go_ret
    exact ⟨retB (by rw [E.out]; simp), b3⟩
  | true =>
    go_wp2_with fail
    refine Calls.mono (K2.out _) ?_
    rintro e W4 ⟨rfl, hW4⟩
    have b4' : Below W3.heap.size W3 W4 := by rw [hW4]; exact (Below.refl _ _).alloc (Nat.le_refl _) _
    have b4 : Below w.heap.size w W4 := b3.trans (b4'.mono b3.size)
    have c0'' := kept b4' c0'
    have d0'' := kept b4' d0'
    clear K2 hW4 c0' d0' d1' d2'
    cases R2 with
    | false =>
      go_wp2
      go_ret
      exact ⟨retB (by rw [E.out]; simp), b4⟩
    | true =>
      go_wp2_with fail
      all_goals (go_ret; exact ⟨retB (by rw [E.out]; simp [*]), b4⟩)
theorem isError_any (f k : Int) (w : World) : Calls Try.prog 13 #[.int .i64 f, .int .i64 k] w fun e w' => e = .returned (.bool (isErr f k)) ∧ w' = w := by
  go_enter Try.func13, Try.ntmps13
  go_wp2_with fail
  all_goals (go_ret; exact ⟨retB (by unfold isErr; simp_all <;> omega), rfl⟩)
theorem isEcho_any (f k : Int) (w : World) : Calls Try.prog 64 #[.int .i64 f, .int .i64 k] w fun e w' => e = .returned (.bool (isEcho f k)) ∧ w' = w := by
  go_enter Try.func64, Try.ntmps64
  go_wp2_with fail
  all_goals (go_ret; exact ⟨retB (by unfold isEcho; simp_all <;> omega), rfl⟩)
theorem icmpOf_any (f : Int) (w : World) : Calls Try.prog 57 #[.int .i64 f] w fun e w' => e = .returned (.int .i64 (icmpOf f)) ∧ w' = w := by
  go_enter Try.func57, Try.ntmps57
  go_wp2_with fail
  all_goals (go_ret; exact ⟨ret_int (by unfold icmpOf; simp_all), rfl⟩)
theorem segU16_any (a : Option Addr) (c : Nat) (l : List Int) (x : Int) (w : World) (h : Row w a l) (hx : -9223372036854775808 ≤ x ∧ x ≤ 9223372036854775807) :
    Calls Try.prog 71 #[.slice a l.length c, .int .i64 x] w fun e w' => e = .returned (.int .i64 (u16v l x)) ∧ Below w.heap.size w w' := by
  have K : Hid _ := u16_any a c l x w h hx
  go_enter Try.func71, Try.ntmps71
  go_wp2_with fail
  refine Calls.mono K.out ?_
  rintro e W1 ⟨rfl, b1⟩
  go_wp2
  go_ret
  exact ⟨rfl, b1⟩
end Go.Proofs.Ytpjjkdgmfjhfiaa
