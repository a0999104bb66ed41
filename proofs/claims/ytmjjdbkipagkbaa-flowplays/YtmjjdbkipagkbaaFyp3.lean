/- Texts joined: Back RBit RByt FrA FrS TcN -/
import Derived.Test.YtmjjdbkipagkbaaFyp2
import Derived.RegionTactic
import Derived.BigRegion
import Derived.Deep.DeepCutAuto
import Derived.ProofKit
import Derived.OpenShut
import Derived.Deep.DeepHandedRow
import Derived.Deep.Slices
import Derived.Deep.Strs
import Derived.ChangeSlices
import Derived.ChangeSame
namespace Go.Proofs.Ytmjjdbkipagkbaa
set_option linter.unusedVariables false
/-- Both words as one number. -/
def num2 (h l : Int) : Int := h * 18446744073709551616 + l
end Go.Proofs.Ytmjjdbkipagkbaa
namespace Go.Proofs.Ytmjjdbkipagkbaa
open Go.RowKit
set_option linter.unusedVariables false
set_option linter.unusedSimpArgs false
/-- The address as one number, and its bits from the highest on. -/
def Ad.val (a : Ad) : Int := num2 a.hi a.lo
/-- The box of an address stands. -/
structure Boxed (w w' : World) (f h l : Int) : Prop where
  a0 : w'.cell? ⟨w.heap.size, 0, none⟩ = some (.int .i64 f)
  a1 : w'.cell? ⟨w.heap.size, 1, none⟩ = some (.int .u64 h)
  a2 : w'.cell? ⟨w.heap.size, 2, none⟩ = some (.int .u64 l)
  bel : Below w.heap.size w w'
  size : w.heap.size < w'.heap.size
theorem Boxed.below {w w' w'' : World} {f h l : Int} (x : Boxed w w' f h l) (hb : Below (w.heap.size + 1) w' w'') : Boxed w w'' f h l :=
  ⟨(hb.cell (p := ⟨w.heap.size, 0, none⟩) (by simp)).trans x.a0, (hb.cell (p := ⟨w.heap.size, 1, none⟩) (by simp)).trans x.a1, (hb.cell (p := ⟨w.heap.size, 2, none⟩) (by simp)).trans x.a2,
   x.bel.trans (hb.mono (by omega)), by have := x.size; have := hb.size; omega⟩
/-- A rule, as its numbers. -/
structure Rl where
  fr : Int
  tz : Int
  s : Ad
  sn : Int
  d : Ad
  dn : Int
  pr : Int
  sl : Int
  sh : Int
  dl : Int
  dh : Int
  ac : Int
  he : Int
abbrev Rl.v (r : Rl) : Array Value := #[.int .i64 r.fr, .int .i64 r.tz, .int .i64 r.s.fam, .int .u64 r.s.hi, .int .u64 r.s.lo, .int .i64 r.sn, .int .i64 r.d.fam, .int .u64 r.d.hi, .int .u64 r.d.lo, .int .i64 r.dn, .int .i64 r.pr, .int .i64 r.sl, .int .i64 r.sh, .int .i64 r.dl, .int .i64 r.dh, .int .i64 r.ac, .int .i64 r.he]
structure Rl.ok (r : Rl) : Prop where
  s : r.s.ok
  d : r.d.ok
/-- A key, as its numbers. -/
structure Ky where
  fr : Int
  tz : Int
  s : Ad
  d : Ad
  pr : Int
  sp : Int
  dp : Int
abbrev Ky.v (k : Ky) : Array Value := #[.int .i64 k.fr, .int .i64 k.tz, .int .i64 k.s.fam, .int .u64 k.s.hi, .int .u64 k.s.lo, .int .i64 k.d.fam, .int .u64 k.d.hi, .int .u64 k.d.lo, .int .i64 k.pr, .int .i64 k.sp, .int .i64 k.dp]
structure Ky.ok (k : Ky) : Prop where
  s : k.s.ok
  d : k.d.ok
def inB (n lo hi : Int) : Bool := decide (lo ≤ n) && decide (n ≤ hi)
def zeroP (a : Ad) (n : Int) : Bool := a.fam == 0 && (a.hi == 0 && (a.lo == 0 && n == 0))
def netB (a : Ad) (n : Int) : Bool := zeroP a n || a.rightPrefix n
def hasB (a : Ad) (n : Int) (x : Ad) : Bool := zeroP a n || a.has n x
def portB (lo hi : Int) : Bool := decide (0 ≤ lo) && (decide (lo ≤ hi) && decide (hi ≤ 65535))
def Ky.right (k : Ky) : Bool := inB k.fr 0 15 && (inB k.tz 0 15 && (k.s.right && (k.d.right && ((k.s.fam == k.d.fam) && (inB k.pr 0 255 && (inB k.sp 0 65535 && inB k.dp 0 65535))))))
def Rl.right (r : Rl) : Bool := inB r.fr (-1) 15 && (inB r.tz (-1) 15 && (netB r.s r.sn && (netB r.d r.dn && (inB r.pr 0 255 && (portB r.sl r.sh && (portB r.dl r.dh && ((r.ac == 0 || r.ac == 1) && inB r.he 0 3)))))))
/-- Are the parts of a key those that the rule asks for? -/
def Rl.asks (r : Rl) (k : Ky) : Bool := (decide (r.fr < 0) || r.fr == k.fr) && ((decide (r.tz < 0) || r.tz == k.tz) && (hasB r.s r.sn k.s && (hasB r.d r.dn k.d && ((r.pr == 0 || r.pr == k.pr) && (inB k.sp r.sl r.sh && inB k.dp r.dl r.dh)))))
/-- These cells lie from k on in the block b. -/
def CellsAt (W : World) (b k : Nat) (sub : Array Value) : Prop := b < W.heap.size ∧ ∀ j v, sub[j]? = some v → W.cell? ⟨b, k + j, none⟩ = some v
theorem CellsAt.below {w w' : World} {b k : Nat} {sub : Array Value} (h : CellsAt w b k sub) (hb : Below w.heap.size w w') : CellsAt w' b k sub :=
  ⟨Nat.lt_of_lt_of_le h.1 hb.size, fun j v hv => kept hb (h.2 j v hv)⟩
theorem Blk.at_ {W : World} {g : Nat} {t : TypeId} {cs : Array Value} (h : Blk W g t cs) : CellsAt W g 0 cs := ⟨h.lt, fun j v hv => by rw [Nat.zero_add]; exact h.cell j v hv⟩
theorem load_at {W : World} {g k : Nat} {ty : TypeId} {sub : Array Value} (h : CellsAt W g k sub) {fs : _} (hu : Try.prog.underlying ty = some (.struct fs)) (hi : (Try.prog.info? ty).map (·.size) = some sub.size) :
    (loadVar ty ⟨g, k, none⟩).run Try.prog W = .ok (.agg sub) W := by
  have hl : (loadCells ⟨g, k, none⟩ sub.toList.length).run Try.prog W = .ok sub.toList.toArray W :=
    run_loadCells_list (P := Try.prog) W ⟨g, k, none⟩ sub.toList (fun j v hv => by
      have hadd : (⟨g, k, none⟩ : Addr).add j = ⟨g, k + j, none⟩ := Go.WideShapes.add_plain ..
      rw [hadd]
      exact h.2 j v (by simpa using hv))
  cases hq : Try.prog.info? ty with
  | none => simp [hq] at hi
  | some i =>
    have hs' : i.size = sub.size := by simpa [hq] using hi
    have hagg : (isAgg ty).run Try.prog W = .ok true W := by
      unfold isAgg
      rw [Sem.run_bind, run_underlying hu W]
      rfl
    simp only [Array.length_toList, Array.toArray_toList] at hl
    simp [loadVar, Sem.run_bind, hagg, sizeOf, typeInfo, hq, hs', hl]
theorem wpList_load_at_w {ops : Array Oper} {rest : List Oper} {o : Oper} {ac : Act} {w : World} {Q : Exit → Act → World → Prop} (hw : Region.wanted o (yielded ops ac.tmps) = true) (ty : TypeId) (p : Operand) (ho : o.op = Op.load ty p) (g k : Nat) (hp : ac.eval p = .pointer (some ⟨g, k, none⟩)) (sub : Array Value)
    (hb : CellsAt w g k sub) {fs : _} (hu : Try.prog.underlying ty = some (.struct fs)) (hi : (Try.prog.info? ty).map (·.size) = some sub.size) (h : wpList Try.prog ops Q rest (ac.put o.dst (.agg sub)) w) : wpList Try.prog ops Q (o :: rest) ac w := by
  refine wpList_step fun K hK => ?_
  rw [if_pos hw]
  have hl := load_at hb hu hi
  unfold Oper.wp
  simp [execOp, ho, hp, Instr.loadAt, Instr.sureAddr, hl, Result.andThen]
  exact hK _ _ h
theorem yieldsIf_at {ops : Array Oper} {S : World → Prop} {o : Oper} {ac : Act} (hw : Region.wanted o (yielded ops ac.tmps) = true) (ty : TypeId) (p : Operand) (ho : o.op = Op.load ty p) (g k : Nat) (hp : ac.eval p = .pointer (some ⟨g, k, none⟩)) (sub : Array Value)
    (hS : ∀ w, S w → CellsAt w g k sub) {fs : _} (hu : Try.prog.underlying ty = some (.struct fs)) (hi : (Try.prog.info? ty).map (·.size) = some sub.size) : YieldsIf Try.prog ops S o (.agg sub) ac := by
  refine .inl ⟨hw, fun w hw' => ?_⟩
  have hl := load_at (hS w hw') hu hi
  simp [execOp, ho, hp, Instr.loadAt, Instr.sureAddr, hl, Result.andThen]
theorem list_of {α : Type} {P : Nat → α → Prop} : ∀ m, (∀ i, i < m → ∃ q, P i q) → ∃ l : List α, l.length = m ∧ ∀ (i : Nat) (q : α), l[i]? = some q → P i q
  | 0, _ => ⟨[], rfl, fun i q h => by simp at h⟩
  | m + 1, h => by
    obtain ⟨l, h1, h2⟩ := list_of m (fun i hi => h i (by omega))
    obtain ⟨q, hq⟩ := h m (by omega)
    refine ⟨l ++ [q], by simp [h1], fun i q' hi => ?_⟩
    rcases Nat.lt_or_ge i m with x | x
    · rw [List.getElem?_append_left (by omega)] at hi
      exact h2 i q' hi
    · have hl := (List.getElem?_eq_some_iff.1 hi).1
      simp [h1] at hl
      have : i = m := by omega
      subst this
      rw [List.getElem?_append_right (by omega)] at hi
      simp [h1] at hi
      rw [← hi]
      exact hq
/-- A slice of things of n cells each, as it is read. -/
structure RowN {α : Type} (n : Nat) (v : α → Array Value) (ok : World → α → Prop) (w : World) (a : Option Addr) (l : List α) : Prop where
  each : ∀ q ∈ l, ok w q
  cells : ∀ (i : Nat) (q : α), l[i]? = some q → ∃ b off, a = some ⟨b, off, none⟩ ∧ CellsAt w b (off + i * n) (v q)
theorem RowN.below {α : Type} {n : Nat} {v : α → Array Value} {ok : World → α → Prop} (hok : ∀ {w w' : World} {q : α}, ok w q → Below w.heap.size w w' → ok w' q) {w w' : World} {a : Option Addr} {l : List α} (h : RowN n v ok w a l) (hb : Below w.heap.size w w') : RowN n v ok w' a l :=
  ⟨fun q hq => hok (h.each q hq) hb, fun i q hq => by
    obtain ⟨b, off, h1, h2⟩ := h.cells i q hq
    exact ⟨b, off, h1, h2.below hb⟩⟩
end Go.Proofs.Ytmjjdbkipagkbaa
namespace Go.Proofs.Ytmjjdbkipagkbaa
open Go.RowKit Go.ChangeShapes Go.WideShapes Go.ChangeAt
set_option linter.unusedVariables false
set_option linter.unusedSimpArgs false
set_option linter.constructorNameAsVariable false
set_option maxRecDepth 100000
theorem one_tc {x y : Value} (h : [x] = [y]) : x = y := (List.cons.inj h).1
theorem nine_tc {cs : List Value} (h : cs.length = 9) : ∃ a b c d e f g i j, cs = [a, b, c, d, e, f, g, i, j] := by
  match cs, h with
  | [a, b, c, d, e, f, g, i, j], _ => exact ⟨a, b, c, d, e, f, g, i, j, rfl⟩
theorem u32_tc {x : Int} (w : (Lit.int .u32 x).wf = true) : 0 ≤ x ∧ x < 4294967296 := by
  simp [Lit.wf, IntKind.min, IntKind.max, IntKind.signed, IntKind.bits] at w; omega
theorem i64_tc {x : Int} (w : (Lit.int .i64 x).wf = true) : -9223372036854775808 ≤ x ∧ x ≤ 9223372036854775807 := by
  simp [Lit.wf, IntKind.min, IntKind.max, IntKind.signed, IntKind.bits] at w; omega
theorem pairU_tc {H : Type} {enc : TypeId × Value → H} {W : World} {n : Nat} {x y : Value} {d : DataW H × List MemPlace}
    (h : DataW.trod enc Try.prog W 0 (fun _ => true) true n 28 [x, y] = some d) : ∃ a b, x = .int .u32 a ∧ y = .int .u32 b ∧ (0 ≤ a ∧ a < 4294967296) ∧ (0 ≤ b ∧ b < 4294967296) := by
  have cI : Try.prog.cellsOf 27 = 1 := by kernel_rfl
  obtain ⟨xs, m, _, hx, _, hlen, hf⟩ := DataW.trod_array Try.underlying28 h
  obtain ⟨y0, y1, rfl⟩ : ∃ y0 y1, xs = [y0, y1] := by
    match xs, hlen with
    | [y0, y1], _ => exact ⟨y0, y1, rfl⟩
  have h0 : DataW.trod enc Try.prog W 0 (fun _ => true) true m 27 (([x, y].drop (0 * Try.prog.cellsOf 27)).take (Try.prog.cellsOf 27)) = some y0 := hf 0 (by decide)
  have h1 : DataW.trod enc Try.prog W 0 (fun _ => true) true m 27 (([x, y].drop (1 * Try.prog.cellsOf 27)).take (Try.prog.cellsOf 27)) = some y1 := hf 1 (by decide)
  rw [cI] at h0 h1
  obtain ⟨a, e0, _, w0⟩ := DataW.trod_int Try.underlying27 (show DataW.trod enc Try.prog W 0 (fun _ => true) true m 27 [x] = some y0 from h0)
  obtain ⟨b, e1, _, w1⟩ := DataW.trod_int Try.underlying27 (show DataW.trod enc Try.prog W 0 (fun _ => true) true m 27 [y] = some y1 from h1)
  exact ⟨a, b, one_tc e0, one_tc e1, u32_tc w0, u32_tc w1⟩
theorem pairB_tc {H : Type} {enc : TypeId × Value → H} {W : World} {n : Nat} {x y : Value} {d : DataW H × List MemPlace}
    (h : DataW.trod enc Try.prog W 0 (fun _ => true) true n 29 [x, y] = some d) : ∃ a b, x = .bool a ∧ y = .bool b := by
  have cI : Try.prog.cellsOf 4 = 1 := by kernel_rfl
  obtain ⟨xs, m, _, hx, _, hlen, hf⟩ := DataW.trod_array Try.underlying29 h
  obtain ⟨y0, y1, rfl⟩ : ∃ y0 y1, xs = [y0, y1] := by
    match xs, hlen with
    | [y0, y1], _ => exact ⟨y0, y1, rfl⟩
  have h0 : DataW.trod enc Try.prog W 0 (fun _ => true) true m 4 (([x, y].drop (0 * Try.prog.cellsOf 4)).take (Try.prog.cellsOf 4)) = some y0 := hf 0 (by decide)
  have h1 : DataW.trod enc Try.prog W 0 (fun _ => true) true m 4 (([x, y].drop (1 * Try.prog.cellsOf 4)).take (Try.prog.cellsOf 4)) = some y1 := hf 1 (by decide)
  rw [cI] at h0 h1
  obtain ⟨a, e0, _⟩ := DataW.trod_bool Try.underlying4 (show DataW.trod enc Try.prog W 0 (fun _ => true) true m 4 [x] = some y0 from h0)
  obtain ⟨b, e1, _⟩ := DataW.trod_bool Try.underlying4 (show DataW.trod enc Try.prog W 0 (fun _ => true) true m 4 [y] = some y1 from h1)
  exact ⟨a, b, one_tc e0, one_tc e1⟩
set_option maxRecDepth 100000 in
theorem conn_cells {H : Type} {enc : TypeId × Value → H} {W : World} {fuel : Nat} {cs : List Value} {y : DataW H × List MemPlace} (hf0 : DataW.trod enc Try.prog W 0 (fun _ => true) true fuel 31 cs = some y) :
    ∃ q : Cn, cs = q.v.toList ∧ q.in32 := by
  have cc : Try.prog.cellsOf 31 = 9 := by kernel_rfl
  have cI : Try.prog.cellsOf 3 = 1 := by kernel_rfl
  have cU : Try.prog.cellsOf 28 = 2 := by kernel_rfl
  have cB : Try.prog.cellsOf 29 = 2 := by kernel_rfl
  obtain ⟨xs, n, _, hx, hl, hlen, hf⟩ := DataW.trod_struct Try.underlying31 hf0
  obtain ⟨v0, v1, v2, v3, v4, v5, v6, v7, v8, rfl⟩ := nine_tc (hl.trans cc)
  obtain ⟨y0, y1, y2, y3, y4, rfl⟩ : ∃ y0 y1 y2 y3 y4, xs = [y0, y1, y2, y3, y4] := by
    match xs, hlen with
    | [y0, y1, y2, y3, y4], _ => exact ⟨y0, y1, y2, y3, y4, rfl⟩
  have h0 : DataW.trod enc Try.prog W 0 (fun _ => true) true n 3 ((([v0, v1, v2, v3, v4, v5, v6, v7, v8] : List Value).drop 0).take (Try.prog.cellsOf 3)) = some y0 := hf 0 _ rfl
  have h1 : DataW.trod enc Try.prog W 0 (fun _ => true) true n 28 ((([v0, v1, v2, v3, v4, v5, v6, v7, v8] : List Value).drop 1).take (Try.prog.cellsOf 28)) = some y1 := hf 1 _ rfl
  have h2 : DataW.trod enc Try.prog W 0 (fun _ => true) true n 28 ((([v0, v1, v2, v3, v4, v5, v6, v7, v8] : List Value).drop 3).take (Try.prog.cellsOf 28)) = some y2 := hf 2 _ rfl
  have h3 : DataW.trod enc Try.prog W 0 (fun _ => true) true n 29 ((([v0, v1, v2, v3, v4, v5, v6, v7, v8] : List Value).drop 5).take (Try.prog.cellsOf 29)) = some y3 := hf 3 _ rfl
  have h4 : DataW.trod enc Try.prog W 0 (fun _ => true) true n 29 ((([v0, v1, v2, v3, v4, v5, v6, v7, v8] : List Value).drop 7).take (Try.prog.cellsOf 29)) = some y4 := hf 4 _ rfl
  simp only [cI, cU, cB, List.drop_zero, List.drop_succ_cons, List.take_succ_cons, List.take_zero] at h0 h1 h2 h3 h4
  obtain ⟨st, e0, _, _⟩ := DataW.trod_int Try.underlying3 h0
  obtain rfl := one_tc e0
  obtain ⟨a, b, rfl, rfl, r1, r2⟩ := pairU_tc h1
  obtain ⟨c, d, rfl, rfl, r3, r4⟩ := pairU_tc h2
  obtain ⟨p, q, rfl, rfl⟩ := pairB_tc h3
  obtain ⟨s, t, rfl, rfl⟩ := pairB_tc h4
  exact ⟨⟨st, a, b, c, d, p, q, s, t⟩, rfl, r1, r2, r3, r4⟩
/-- A segment of a side. -/
structure Tlk where
  i : Int
  g : Gt
abbrev Tlk.v (q : Tlk) : Array Value := #[.int .i64 q.i, .int .i64 q.g.fl, .int .i64 q.g.win, .int .i64 q.g.sz, .int .u32 q.g.sq, .int .u32 q.g.ak]
structure Tlk.ok (w : World) (q : Tlk) : Prop where
  i : -9223372036854775808 ≤ q.i ∧ q.i ≤ 9223372036854775807
  g : q.g.in32
theorem Tlk.ok.below {w w' : World} {q : Tlk} (h : q.ok w) (_ : Below w.heap.size w w') : q.ok w' := ⟨h.i, h.g⟩
abbrev RowT (w : World) (a : Option Addr) (l : List Tlk) : Prop := RowN 6 Tlk.v Tlk.ok w a l
theorem RowT.low {w w' : World} {a : Option Addr} {l : List Tlk} (h : RowT w a l) (hb : Below w.heap.size w w') : RowT w' a l := RowN.below (ok := Tlk.ok) (fun {w w'} {q} h b => Tlk.ok.below h b) h hb
/-- A slice of numbers of 16 bits, as it is read. -/
structure RowH (w : World) (a : Option Addr) (l : List Int) : Prop where
  each : ∀ x ∈ l, 0 ≤ x ∧ x < 65536
  cells : ∀ i, i < l.length → ∃ b off, a = some ⟨b, off, none⟩ ∧ w.cell? ⟨b, off + i, none⟩ = some (.int .u16 (l.getD i 0))
theorem RowH.low {w w' : World} {a : Option Addr} {l : List Int} (h : RowH w a l) (hb : Below w.heap.size w w') : RowH w' a l :=
  ⟨h.each, fun i hi => by
    obtain ⟨b, off, h1, h2⟩ := h.cells i hi
    exact ⟨b, off, h1, kept hb h2⟩⟩
end Go.Proofs.Ytmjjdbkipagkbaa
