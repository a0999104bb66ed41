/- Texts joined: RByt FrA FrS Arg2 -/
import Derived.Test.YtmflogmocgbmhaaXpa3
import Derived.Deep.DeepCutAuto
import Derived.Deep.QuietTactic
import Derived.BigQuiet
import Derived.RegionTactic
import Derived.BigRegion
import Derived.Test.YtmflogmocgbmhaaRows
import Derived.ProofKit
import Derived.OpenShut
import Derived.Lib.SmallJoins
import Derived.Lib.LaidTab
import Derived.Stop.LaidErr
import Derived.Deep.DeepHandedRow
import Derived.Deep.Strs
import Derived.ChangeSame
import Derived.Shelf.LaysM
namespace Go.Proofs.Ytmflogmocgbmhaa
open Go.RowKit
set_option linter.unusedVariables false
set_option linter.unusedSimpArgs false
/-- The box of an address stands. -/
structure Boxed (w w' : World) (f h l : Int) : Prop where
  a0 : w'.cell? ⟨w.heap.size, 0, none⟩ = some (.int .i64 f)
  a1 : w'.cell? ⟨w.heap.size, 1, none⟩ = some (.int .u64 h)
  a2 : w'.cell? ⟨w.heap.size, 2, none⟩ = some (.int .u64 l)
  bel : Below w.heap.size w w'
  size : w.heap.size < w'.heap.size
theorem Boxed.below {w w' w'' : World} {f h l : Int} (x : Boxed w w' f h l) (hb : Below (w.heap.size + 1) w' w'') : Boxed w w'' f h l :=
  ⟨(hb.cell (p := ⟨w.heap.size, 0, none⟩) (by simp)).trans x.a0, (hb.cell (p := ⟨w.heap.size, 1, none⟩) (by simp)).trans x.a1, (hb.cell (p := ⟨w.heap.size, 2, none⟩) (by simp)).trans x.a2,
   x.bel.trans (hb.mono (by omega)), by have := x.size; have := hb.size; omega⟩
/-- A rule, as its numbers. -/
structure Rl where
  fr : Int
  tz : Int
  s : Ad
  sn : Int
  d : Ad
  dn : Int
  pr : Int
  sl : Int
  sh : Int
  dl : Int
  dh : Int
  ac : Int
  he : Int
abbrev Rl.v (r : Rl) : Array Value := #[.int .i64 r.fr, .int .i64 r.tz, .int .i64 r.s.fam, .int .u64 r.s.hi, .int .u64 r.s.lo, .int .i64 r.sn, .int .i64 r.d.fam, .int .u64 r.d.hi, .int .u64 r.d.lo, .int .i64 r.dn, .int .i64 r.pr, .int .i64 r.sl, .int .i64 r.sh, .int .i64 r.dl, .int .i64 r.dh, .int .i64 r.ac, .int .i64 r.he]
structure Rl.ok (r : Rl) : Prop where
  s : r.s.ok
  d : r.d.ok
/-- A key, as its numbers. -/
structure Ky where
  fr : Int
  tz : Int
  s : Ad
  d : Ad
  pr : Int
  sp : Int
  dp : Int
abbrev Ky.v (k : Ky) : Array Value := #[.int .i64 k.fr, .int .i64 k.tz, .int .i64 k.s.fam, .int .u64 k.s.hi, .int .u64 k.s.lo, .int .i64 k.d.fam, .int .u64 k.d.hi, .int .u64 k.d.lo, .int .i64 k.pr, .int .i64 k.sp, .int .i64 k.dp]
structure Ky.ok (k : Ky) : Prop where
  s : k.s.ok
  d : k.d.ok
def inB (n lo hi : Int) : Bool := decide (lo ≤ n) && decide (n ≤ hi)
def zeroP (a : Ad) (n : Int) : Bool := a.fam == 0 && (a.hi == 0 && (a.lo == 0 && n == 0))
def netB (a : Ad) (n : Int) : Bool := zeroP a n || a.rightPrefix n
def portB (lo hi : Int) : Bool := decide (0 ≤ lo) && (decide (lo ≤ hi) && decide (hi ≤ 65535))
def Ky.right (k : Ky) : Bool := inB k.fr 0 15 && (inB k.tz 0 15 && (k.s.right && (k.d.right && ((k.s.fam == k.d.fam) && (inB k.pr 0 255 && (inB k.sp 0 65535 && inB k.dp 0 65535))))))
def Rl.right (r : Rl) : Bool := inB r.fr (-1) 15 && (inB r.tz (-1) 15 && (netB r.s r.sn && (netB r.d r.dn && (inB r.pr 0 255 && (portB r.sl r.sh && (portB r.dl r.dh && ((r.ac == 0 || r.ac == 1) && inB r.he 0 3)))))))
/-- These cells lie from k on in the block b. -/
def CellsAt (W : World) (b k : Nat) (sub : Array Value) : Prop := b < W.heap.size ∧ ∀ j v, sub[j]? = some v → W.cell? ⟨b, k + j, none⟩ = some v
theorem CellsAt.below {w w' : World} {b k : Nat} {sub : Array Value} (h : CellsAt w b k sub) (hb : Below w.heap.size w w') : CellsAt w' b k sub :=
  ⟨Nat.lt_of_lt_of_le h.1 hb.size, fun j v hv => kept hb (h.2 j v hv)⟩
theorem Blk.at_ {W : World} {g : Nat} {t : TypeId} {cs : Array Value} (h : Blk W g t cs) : CellsAt W g 0 cs := ⟨h.lt, fun j v hv => by rw [Nat.zero_add]; exact h.cell j v hv⟩
theorem load_at {W : World} {g k : Nat} {ty : TypeId} {sub : Array Value} (h : CellsAt W g k sub) {fs : _} (hu : Try.prog.underlying ty = some (.struct fs)) (hi : (Try.prog.info? ty).map (·.size) = some sub.size) :
    (loadVar ty ⟨g, k, none⟩).run Try.prog W = .ok (.agg sub) W := by
  have hl : (loadCells ⟨g, k, none⟩ sub.toList.length).run Try.prog W = .ok sub.toList.toArray W :=
    run_loadCells_list (P := Try.prog) W ⟨g, k, none⟩ sub.toList (fun j v hv => by
      have hadd : (⟨g, k, none⟩ : Addr).add j = ⟨g, k + j, none⟩ := Go.WideShapes.add_plain ..
      rw [hadd]
      exact h.2 j v (by simpa using hv))
  cases hq : Try.prog.info? ty with
  | none => simp [hq] at hi
  | some i =>
    have hs' : i.size = sub.size := by simpa [hq] using hi
    have hagg : (isAgg ty).run Try.prog W = .ok true W := by
      unfold isAgg
      rw [Sem.run_bind, run_underlying hu W]
      rfl
    simp only [Array.length_toList, Array.toArray_toList] at hl
    simp [loadVar, Sem.run_bind, hagg, sizeOf, typeInfo, hq, hs', hl]
theorem wpList_load_at_w {ops : Array Oper} {rest : List Oper} {o : Oper} {ac : Act} {w : World} {Q : Exit → Act → World → Prop} (hw : Region.wanted o (yielded ops ac.tmps) = true) (ty : TypeId) (p : Operand) (ho : o.op = Op.load ty p) (g k : Nat) (hp : ac.eval p = .pointer (some ⟨g, k, none⟩)) (sub : Array Value)
    (hb : CellsAt w g k sub) {fs : _} (hu : Try.prog.underlying ty = some (.struct fs)) (hi : (Try.prog.info? ty).map (·.size) = some sub.size) (h : wpList Try.prog ops Q rest (ac.put o.dst (.agg sub)) w) : wpList Try.prog ops Q (o :: rest) ac w := by
  refine wpList_step fun K hK => ?_
  rw [if_pos hw]
  have hl := load_at hb hu hi
  unfold Oper.wp
  simp [execOp, ho, hp, Instr.loadAt, Instr.sureAddr, hl, Result.andThen]
  exact hK _ _ h
theorem yieldsIf_at {ops : Array Oper} {S : World → Prop} {o : Oper} {ac : Act} (hw : Region.wanted o (yielded ops ac.tmps) = true) (ty : TypeId) (p : Operand) (ho : o.op = Op.load ty p) (g k : Nat) (hp : ac.eval p = .pointer (some ⟨g, k, none⟩)) (sub : Array Value)
    (hS : ∀ w, S w → CellsAt w g k sub) {fs : _} (hu : Try.prog.underlying ty = some (.struct fs)) (hi : (Try.prog.info? ty).map (·.size) = some sub.size) : YieldsIf Try.prog ops S o (.agg sub) ac := by
  refine .inl ⟨hw, fun w hw' => ?_⟩
  have hl := load_at (hS w hw') hu hi
  simp [execOp, ho, hp, Instr.loadAt, Instr.sureAddr, hl, Result.andThen]
theorem list_of {α : Type} {P : Nat → α → Prop} : ∀ m, (∀ i, i < m → ∃ q, P i q) → ∃ l : List α, l.length = m ∧ ∀ (i : Nat) (q : α), l[i]? = some q → P i q
  | 0, _ => ⟨[], rfl, fun i q h => by simp at h⟩
  | m + 1, h => by
    obtain ⟨l, h1, h2⟩ := list_of m (fun i hi => h i (by omega))
    obtain ⟨q, hq⟩ := h m (by omega)
    refine ⟨l ++ [q], by simp [h1], fun i q' hi => ?_⟩
    rcases Nat.lt_or_ge i m with x | x
    · rw [List.getElem?_append_left (by omega)] at hi
      exact h2 i q' hi
    · have hl := (List.getElem?_eq_some_iff.1 hi).1
      simp [h1] at hl
      have : i = m := by omega
      subst this
      rw [List.getElem?_append_right (by omega)] at hi
      simp [h1] at hi
      rw [← hi]
      exact hq
/-- A slice of things of n cells each, as it is read. -/
structure RowN {α : Type} (n : Nat) (v : α → Array Value) (ok : World → α → Prop) (w : World) (a : Option Addr) (l : List α) : Prop where
  each : ∀ q ∈ l, ok w q
  cells : ∀ (i : Nat) (q : α), l[i]? = some q → ∃ b off, a = some ⟨b, off, none⟩ ∧ CellsAt w b (off + i * n) (v q)
theorem RowN.below {α : Type} {n : Nat} {v : α → Array Value} {ok : World → α → Prop} (hok : ∀ {w w' : World} {q : α}, ok w q → Below w.heap.size w w' → ok w' q) {w w' : World} {a : Option Addr} {l : List α} (h : RowN n v ok w a l) (hb : Below w.heap.size w w') : RowN n v ok w' a l :=
  ⟨fun q hq => hok (h.each q hq) hb, fun i q hq => by
    obtain ⟨b, off, h1, h2⟩ := h.cells i q hq
    exact ⟨b, off, h1, h2.below hb⟩⟩
end Go.Proofs.Ytmflogmocgbmhaa
namespace Go.Proofs.Ytmflogmocgbmhaa
open Go.ChangeShapes Go.WideShapes Go.ChangeAt Go.RowKit Go.Joins
set_option linter.unusedVariables false
set_option linter.constructorNameAsVariable false
set_option maxRecDepth 100000
theorem ad_ok {f h l : Int} (w0 : (Lit.int .i64 f).wf = true) (w1 : (Lit.int .u64 h).wf = true) (w2 : (Lit.int .u64 l).wf = true) : Ad.ok ⟨f, h, l⟩ := by
  refine ⟨?_, ?_, ?_⟩
  · simpa [Lit.wf, IntKind.min, IntKind.max, IntKind.signed, IntKind.bits] using w0
  · simpa [Lit.wf, IntKind.min, IntKind.max, IntKind.signed, IntKind.bits] using w1
  · simpa [Lit.wf, IntKind.min, IntKind.max, IntKind.signed, IntKind.bits] using w2
theorem list3 {cs : List Value} (h : cs.length = 3) : ∃ a b c, cs = [a, b, c] := by
  match cs, h with
  | [a, b, c], _ => exact ⟨a, b, c, rfl⟩
theorem addr_cells {H : Type} {enc : TypeId × Value → H} {W : World} {n : Nat} {cs : List Value} {y : DataW H × List MemPlace}
    (h : DataW.trod enc Try.prog W 0 (fun _ => true) true n 24 cs = some y) : ∃ f h l, cs = [.int .i64 f, .int .u64 h, .int .u64 l] ∧ Ad.ok ⟨f, h, l⟩ := by
  obtain ⟨y0, y1, y2, k, _, hl, h0, h1, h2⟩ := Go.Deep.trod_struct3 Try.underlying24 h
  have c24 : Try.prog.cellsOf 24 = 3 := by kernel_rfl
  have c3 : Try.prog.cellsOf 3 = 1 := by kernel_rfl
  have c22 : Try.prog.cellsOf 22 = 1 := by kernel_rfl
  rw [c24] at hl
  obtain ⟨v0, v1, v2, rfl⟩ := list3 hl
  simp only [c3, c22] at h0 h1 h2
  obtain ⟨f, e0, _, w0⟩ := DataW.trod_int Try.underlying3 h0
  obtain ⟨h, e1, _, w1⟩ := DataW.trod_int Try.underlying22 h1
  obtain ⟨l, e2, _, w2⟩ := DataW.trod_int Try.underlying22 h2
  simp only [List.drop_zero, List.drop_succ_cons, List.take_succ_cons, List.take_zero, List.cons.injEq, and_true] at e0 e1 e2
  subst e0 e1 e2
  exact ⟨_, _, _, rfl, ad_ok w0 w1 w2⟩
end Go.Proofs.Ytmflogmocgbmhaa
