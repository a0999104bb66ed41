/- Texts joined: Arg9 -/
import Derived.Test.YtebdpiedgjdjeaaFgw44
import Derived.Deep.Slices
import Derived.Maps.RangeWalk
import Derived.ProofKit
import Derived.OpenShut
import Derived.Deep.Strs
import Derived.ChangeSame
import Derived.ChangeArms
namespace Go.Proofs.Ytebdpiedgjdjeaa
open Go.RowKit Go.ChangeShapes Go.WideShapes Go.ChangeAt
set_option linter.unusedVariables false
set_option linter.unusedSimpArgs false
set_option linter.constructorNameAsVariable false
/-- These cells lie from k on in the block b. -/
def CellsAt (W : World) (b k : Nat) (sub : Array Value) : Prop := b < W.heap.size ∧ ∀ j v, sub[j]? = some v → W.cell? ⟨b, k + j, none⟩ = some v
theorem CellsAt.but {F : Nat → Prop} {w w' : World} {b k : Nat} {sub : Array Value} (h : CellsAt w b k sub) (hb : But F w w') (hn : ¬ F b) : CellsAt w' b k sub :=
  ⟨Nat.lt_of_lt_of_le h.1 hb.size, fun j v hv => hb.cell hn (h.2 j v hv)⟩
theorem CellsAt.below {w w' : World} {b k : Nat} {sub : Array Value} (h : CellsAt w b k sub) (hb : Below w.heap.size w w') : CellsAt w' b k sub :=
  h.but (But.of_below hb (fun _ => False)) (fun x => x)
theorem load_at {W : World} {g k : Nat} {ty : TypeId} {sub : Array Value} (h : CellsAt W g k sub) {fs : _} (hu : Try.prog.underlying ty = some (.struct fs)) (hi : (Try.prog.info? ty).map (·.size) = some sub.size) :
    (loadVar ty ⟨g, k, none⟩).run Try.prog W = .ok (.agg sub) W := by
  have hl : (loadCells ⟨g, k, none⟩ sub.toList.length).run Try.prog W = .ok sub.toList.toArray W :=
    run_loadCells_list (P := Try.prog) W ⟨g, k, none⟩ sub.toList (fun j v hv => by
      have hadd : (⟨g, k, none⟩ : Addr).add j = ⟨g, k + j, none⟩ := Go.WideShapes.add_plain ..
      rw [hadd]
      exact h.2 j v (by simpa using hv))
  cases hq : Try.prog.info? ty with
  | none => simp [hq] at hi
  | some i =>
    have hs' : i.size = sub.size := by simpa [hq] using hi
    have hagg : (isAgg ty).run Try.prog W = .ok true W := by
      unfold isAgg
      rw [Sem.run_bind, run_underlying hu W]
      rfl
    simp only [Array.length_toList, Array.toArray_toList] at hl
    simp [loadVar, Sem.run_bind, hagg, sizeOf, typeInfo, hq, hs', hl]
theorem wpList_load_at {ops : Array Oper} {rest : List Oper} {o : Oper} {ac : Act} {w : World} {Q : Exit → Act → World → Prop} (hgd : o.guard = none) (ty : TypeId) (p : Operand) (ho : o.op = Op.load ty p) (g k : Nat) (hp : ac.eval p = .pointer (some ⟨g, k, none⟩)) (sub : Array Value)
    (hb : CellsAt w g k sub) {fs : _} (hu : Try.prog.underlying ty = some (.struct fs)) (hi : (Try.prog.info? ty).map (·.size) = some sub.size) (h : wpList Try.prog ops Q rest (ac.put o.dst (.agg sub)) w) : wpList Try.prog ops Q (o :: rest) ac w := by
  refine wpList_plain hgd fun K hK => ?_
  have hl := load_at hb hu hi
  unfold Oper.wp
  simp [execOp, ho, hp, Instr.loadAt, Instr.sureAddr, hl, Result.andThen]
  exact hK _ _ h
/-- A packet that came in, and where its slices lie. -/
structure PkIn where
  p : Pkt
  xa : Option Addr
  xc : Nat
  da : Option Addr
  dc : Nat
abbrev PkIn.v (q : PkIn) : Array Value := pkV q.p q.xa q.xc q.da q.dc
structure PkIn.ok (W : World) (q : PkIn) : Prop where
  p : PktOk q.p
  exts : RowI W q.xa q.p.X
  xnil : q.xa = none → q.xc = 0
  data : Row W q.da q.p.dat
  dnil : q.da = none → q.dc = 0
theorem PkIn.ok.below {w w' : World} {q : PkIn} (h : q.ok w) (hb : Below w.heap.size w w') : q.ok w' := ⟨h.p, h.exts.below hb, h.xnil, h.data.below hb, h.dnil⟩
/-- A call of a script. -/
structure Ac6 where
  tk : Bool
  nw : Int
  q : PkIn
abbrev Ac6.v (a : Ac6) : Array Value := #[.bool a.tk, .int .i64 a.nw, .int .i64 a.q.p.f, .int .i64 a.q.p.s.fam, .int .u64 a.q.p.s.hi, .int .u64 a.q.p.s.lo, .int .i64 a.q.p.d.fam, .int .u64 a.q.p.d.hi, .int .u64 a.q.p.d.lo, .int .i64 a.q.p.pr, .int .i64 a.q.p.ho, .bool a.q.p.fg, .int .u32 a.q.p.id, .int .i64 a.q.p.of, .bool a.q.p.mo, .slice a.q.xa a.q.p.X.length a.q.xc, .slice a.q.da a.q.p.dat.length a.q.dc]
structure Ac6.ok (W : World) (a : Ac6) : Prop where
  now : (Lit.int .i64 a.nw).wf = true
  q : a.q.ok W
theorem Ac6.ok.below {w w' : World} {q : Ac6} (h : q.ok w) (hb : Below w.heap.size w w') : q.ok w' := ⟨h.now, h.q.below hb⟩
/-- A slice of things of n cells each, as it is read. -/
structure RowN {α : Type} (n : Nat) (v : α → Array Value) (ok : World → α → Prop) (w : World) (a : Option Addr) (l : List α) : Prop where
  each : ∀ q ∈ l, ok w q
  cells : ∀ (i : Nat) (q : α), l[i]? = some q → ∃ b off, a = some ⟨b, off, none⟩ ∧ CellsAt w b (off + i * n) (v q)
theorem RowN.below {α : Type} {n : Nat} {v : α → Array Value} {ok : World → α → Prop} (hok : ∀ {w w' : World} {q : α}, ok w q → Below w.heap.size w w' → ok w' q) {w w' : World} {a : Option Addr} {l : List α} (h : RowN n v ok w a l) (hb : Below w.heap.size w w') : RowN n v ok w' a l :=
  ⟨fun q hq => hok (h.each q hq) hb, fun i q hq => by
    obtain ⟨b, off, h1, h2⟩ := h.cells i q hq
    exact ⟨b, off, h1, h2.below hb⟩⟩
end Go.Proofs.Ytebdpiedgjdjeaa
