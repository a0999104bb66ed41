/- Texts joined: FrS TcN TuP TuN FwA FwB Arg2 FwJ TcB -/
import Derived.Test.YtfiembbmgdmagaaFxm0
import Derived.ProofKit
import Derived.OpenShut
import Derived.Deep.DeepHandedRow
import Derived.Deep.Slices
import Derived.Deep.Strs
import Derived.ChangeSlices
import Derived.ChangeSame
import Derived.Deep.RegionHeld3
import Derived.Test.YtfiembbmgdmagaaRows
import Derived.Lib.SmallJoins
import Derived.Lib.LaidTab
import Derived.Stop.LaidErr
import Derived.Shelf.LaysM
namespace Go.Proofs.Ytfiembbmgdmagaa
open Go.RowKit
set_option linter.unusedVariables false
set_option linter.unusedSimpArgs false
/-- These cells lie from k on in the block b. -/
def CellsAt (W : World) (b k : Nat) (sub : Array Value) : Prop := b < W.heap.size ∧ ∀ j v, sub[j]? = some v → W.cell? ⟨b, k + j, none⟩ = some v
theorem CellsAt.below {w w' : World} {b k : Nat} {sub : Array Value} (h : CellsAt w b k sub) (hb : Below w.heap.size w w') : CellsAt w' b k sub :=
 ⟨Nat.lt_of_lt_of_le h.1 hb.size, fun j v hv => kept hb (h.2 j v hv)⟩
theorem load_at {W : World} {g k : Nat} {ty : TypeId} {sub : Array Value} (h : CellsAt W g k sub) {fs : _} (hu : Try.prog.underlying ty = some (.struct fs)) (hi : (Try.prog.info? ty).map (·.size) = some sub.size) :
  (loadVar ty ⟨g, k, none⟩).run Try.prog W = .ok (.agg sub) W := by
 have hl : (loadCells ⟨g, k, none⟩ sub.toList.length).run Try.prog W = .ok sub.toList.toArray W :=
  run_loadCells_list (P := Try.prog) W ⟨g, k, none⟩ sub.toList (fun j v hv => by
   have hadd : (⟨g, k, none⟩ : Addr).add j = ⟨g, k + j, none⟩ := Go.WideShapes.add_plain ..
   rw [hadd]
   exact h.2 j v (by simpa using hv))
 cases hq : Try.prog.info? ty with
 | none => simp [hq] at hi
 | some i =>
  have hs' : i.size = sub.size := by simpa [hq] using hi
  have hagg : (isAgg ty).run Try.prog W = .ok true W := by
   unfold isAgg
   rw [Sem.run_bind, run_underlying hu W]
   rfl
  simp only [Array.length_toList, Array.toArray_toList] at hl
  simp [loadVar, Sem.run_bind, hagg, sizeOf, typeInfo, hq, hs', hl]
theorem wpList_load_at_w {ops : Array Oper} {rest : List Oper} {o : Oper} {ac : Act} {w : World} {Q : Exit → Act → World → Prop} (hw : Region.wanted o (yielded ops ac.tmps) = true) (ty : TypeId) (p : Operand) (ho : o.op = Op.load ty p) (g k : Nat) (hp : ac.eval p = .pointer (some ⟨g, k, none⟩)) (sub : Array Value)
  (hb : CellsAt w g k sub) {fs : _} (hu : Try.prog.underlying ty = some (.struct fs)) (hi : (Try.prog.info? ty).map (·.size) = some sub.size) (h : wpList Try.prog ops Q rest (ac.put o.dst (.agg sub)) w) : wpList Try.prog ops Q (o :: rest) ac w := by
 refine wpList_step fun K hK => ?_
 rw [if_pos hw]
 have hl := load_at hb hu hi
 unfold Oper.wp
 simp [execOp, ho, hp, Instr.loadAt, Instr.sureAddr, hl, Result.andThen]
 exact hK _ _ h
theorem list_of {α : Type} {P : Nat → α → Prop} : ∀ m, (∀ i, i < m → ∃ q, P i q) → ∃ l : List α, l.length = m ∧ ∀ (i : Nat) (q : α), l[i]? = some q → P i q
 | 0, _ => ⟨[], rfl, fun i q h => by simp at h⟩
 | m + 1, h => by
  obtain ⟨l, h1, h2⟩ := list_of m (fun i hi => h i (by omega))
  obtain ⟨q, hq⟩ := h m (by omega)
  refine ⟨l ++ [q], by simp [h1], fun i q' hi => ?_⟩
  rcases Nat.lt_or_ge i m with x | x
  ·rw [List.getElem?_append_left (by omega)] at hi
   exact h2 i q' hi
  ·have hl := (List.getElem?_eq_some_iff.1 hi).1
   simp [h1] at hl
   have : i = m := by omega
   subst this
   rw [List.getElem?_append_right (by omega)] at hi
   simp [h1] at hi
   rw [← hi]
   exact hq
/-- A slice of things of n cells each, as it is read. -/
structure RowN {α : Type} (n : Nat) (v : α → Array Value) (ok : World → α → Prop) (w : World) (a : Option Addr) (l : List α) : Prop where
 each : ∀ q ∈ l, ok w q
 cells : ∀ (i : Nat) (q : α), l[i]? = some q → ∃ b off, a = some ⟨b, off, none⟩ ∧ CellsAt w b (off + i * n) (v q)
theorem RowN.below {α : Type} {n : Nat} {v : α → Array Value} {ok : World → α → Prop} (hok : ∀ {w w' : World} {q : α}, ok w q → Below w.heap.size w w' → ok w' q) {w w' : World} {a : Option Addr} {l : List α} (h : RowN n v ok w a l) (hb : Below w.heap.size w w') : RowN n v ok w' a l :=
 ⟨fun q hq => hok (h.each q hq) hb, fun i q hq => by
  obtain ⟨b, off, h1, h2⟩ := h.cells i q hq
  exact ⟨b, off, h1, h2.below hb⟩⟩
end Go.Proofs.Ytfiembbmgdmagaa
namespace Go.Proofs.Ytfiembbmgdmagaa
open Go.RowKit Go.ChangeShapes Go.WideShapes Go.ChangeAt
set_option linter.unusedVariables false
set_option linter.unusedSimpArgs false
set_option linter.constructorNameAsVariable false
set_option maxRecDepth 100000
theorem one_tc {x y : Value} (h : [x] = [y]) : x = y := (List.cons.inj h).1
theorem i64_tc {x : Int} (w : (Lit.int .i64 x).wf = true) : -9223372036854775808 ≤ x ∧ x ≤ 9223372036854775807 := by
 simp [Lit.wf, IntKind.min, IntKind.max, IntKind.signed, IntKind.bits] at w; omega
/-- A segment of a side. -/
structure Tlk where
 i : Int
 g : Gt
abbrev Tlk.v (q : Tlk) : Array Value := #[.int .i64 q.i, .int .i64 q.g.fl, .int .i64 q.g.win, .int .i64 q.g.sz, .int .u32 q.g.sq, .int .u32 q.g.ak]
structure Tlk.ok (w : World) (q : Tlk) : Prop where
 i : -9223372036854775808 ≤ q.i ∧ q.i ≤ 9223372036854775807
 g : q.g.in32
theorem Tlk.ok.below {w w' : World} {q : Tlk} (h : q.ok w) (_ : Below w.heap.size w w') : q.ok w' := ⟨h.i, h.g⟩
end Go.Proofs.Ytfiembbmgdmagaa
namespace Go.Proofs.Ytfiembbmgdmagaa
open Go.RowKit
set_option linter.unusedVariables false
set_option linter.unusedSimpArgs false
theorem blk_two (w : World) (X : Obj) (cs : Array Value) (t : TypeId) : Blk ((w.alloc X).alloc (.cells cs t)) (w.heap.size + 1) t cs := by
 have := blk_new (w.alloc X) cs t
 rwa [World.size_alloc] at this
theorem bel_two (w : World) (X Y : Obj) : Below w.heap.size w ((w.alloc X).alloc Y) := ((Below.refl _ _).alloc (Nat.le_refl _) _).alloc (by simp) _
/-- A way: its family, its protocol, its ends and their ports. -/
structure Wy where
 fam : Int
 pr : Int
 s : Ad
 d : Ad
 sp : Int
 dp : Int
abbrev Wy.v (t : Wy) : Array Value := #[.int .i64 t.fam, .int .i64 t.pr, .int .i64 t.s.fam, .int .u64 t.s.hi, .int .u64 t.s.lo, .int .i64 t.d.fam, .int .u64 t.d.hi, .int .u64 t.d.lo, .int .i64 t.sp, .int .i64 t.dp]
structure Wy.ok (t : Wy) : Prop where
 s : t.s.ok
 d : t.d.ok
def Wy.rev (t : Wy) : Wy := ⟨t.fam, t.pr, t.d, t.s, t.dp, t.sp⟩
def sideB (f : Int) (a : Ad) (p : Int) : Bool := a.fam == f && (a.right && (decide (0 ≤ p) && decide (p ≤ 65535)))
/-- The name of a protocol. -/
def nameB (f p : Int) : List UInt8 := if p = 6 then [116, 99, 112] else if p = 17 then [117, 100, 112] else if p = 1 ∧ f = 4 then [105, 99, 109, 112] else if p = 58 ∧ f = 6 then [105, 99, 109, 112, 54] else []
def Wy.right (t : Wy) : Bool := sideB t.fam t.s t.sp && (sideB t.fam t.d t.dp && (nameB t.fam t.pr != []))
/-- The order of two ways. -/
def Wy.order (a b : Wy) : Int :=
 if a.fam = b.fam then (if a.pr = b.pr then (if a.s.same b.s then (if a.d.same b.d then (if a.sp = b.sp then cmp3 a.dp b.dp else cmp3 a.sp b.sp) else a.d.order b.d) else a.s.order b.s) else cmp3 a.pr b.pr) else cmp3 a.fam b.fam
def Wy.eqB (a b : Wy) : Bool := a.fam == b.fam && (a.pr == b.pr && ((a.s.fam == b.s.fam && (a.s.hi == b.s.hi && a.s.lo == b.s.lo)) && ((a.d.fam == b.d.fam && (a.d.hi == b.d.hi && a.d.lo == b.d.lo)) && (a.sp == b.sp && a.dp == b.dp))))
theorem Wy.eqB_iff (a b : Wy) : a.eqB b = true ↔ a = b := by
 obtain ⟨f, pr, ⟨sf, sh, sl⟩, ⟨df, dh, dl⟩, sp, dp⟩ := a
 obtain ⟨f', pr', ⟨sf', sh', sl'⟩, ⟨df', dh', dl'⟩, sp', dp'⟩ := b
 simp [Wy.eqB]
/-- A flow. -/
structure Fl where
 w : Wy
 c : Cn
 ends : Int
 help : Int
 both : Bool
abbrev Fl.v (f : Fl) : Array Value := #[.int .i64 f.w.fam, .int .i64 f.w.pr, .int .i64 f.w.s.fam, .int .u64 f.w.s.hi, .int .u64 f.w.s.lo, .int .i64 f.w.d.fam, .int .u64 f.w.d.hi, .int .u64 f.w.d.lo, .int .i64 f.w.sp, .int .i64 f.w.dp, .int .i64 f.c.st, .int .u32 f.c.n0, .int .u32 f.c.n1, .int .u32 f.c.e0, .int .u32 f.c.e1, .bool f.c.k0, .bool f.c.k1, .bool f.c.d0, .bool f.c.d1, .int .i64 f.ends, .int .i64 f.help, .bool f.both]
/-- A segment. -/
structure Sm where
 w : Wy
 fl : Int
 sq : Int
 ak : Int
 win : Int
 ty : Int
 co : Int
 er : Bool
 inn : Wy
 da : Option Addr
 dn : Nat
 dc : Nat
abbrev Sm.v (s : Sm) : Array Value := #[.int .i64 s.w.fam, .int .i64 s.w.pr, .int .i64 s.w.s.fam, .int .u64 s.w.s.hi, .int .u64 s.w.s.lo, .int .i64 s.w.d.fam, .int .u64 s.w.d.hi, .int .u64 s.w.d.lo, .int .i64 s.w.sp, .int .i64 s.w.dp, .int .i64 s.fl, .int .u32 s.sq, .int .u32 s.ak, .int .i64 s.win, .int .i64 s.ty, .int .i64 s.co, .bool s.er, .int .i64 s.inn.fam, .int .i64 s.inn.pr, .int .i64 s.inn.s.fam, .int .u64 s.inn.s.hi, .int .u64 s.inn.s.lo, .int .i64 s.inn.d.fam, .int .u64 s.inn.d.hi, .int .u64 s.inn.d.lo, .int .i64 s.inn.sp, .int .i64 s.inn.dp, .slice s.da s.dn s.dc]
abbrev wy0 : Wy := ⟨0, 0, ⟨0, 0, 0⟩, ⟨0, 0, 0⟩, 0, 0⟩
def fl0 : Fl := ⟨wy0, cn0, 0, 0, false⟩
/-- What of a segment the stream asks for. -/
def Sm.g (s : Sm) : Gt := ⟨s.fl, s.win, s.dn, s.sq, s.ak⟩
def nowB (n : Int) : Bool := decide (0 ≤ n) && decide (n ≤ 4611686018427384304)
def hlpB (h : Int) : Bool := decide (0 ≤ h) && decide (h ≤ 3)
def endB (n : Int) : Bool := decide (0 ≤ n) && decide (n ≤ 4611686018427387904)
def Cn.zB (c : Cn) : Bool := c.st == 0 && ((c.n0 == 0 && c.n1 == 0) && ((c.e0 == 0 && c.e1 == 0) && ((c.k0 == false && c.k1 == false) && (c.d0 == false && c.d1 == false))))
def Fl.cnB (f : Fl) : Bool := if f.w.pr == 6 then f.c.right else f.c.zB
def Fl.right (f : Fl) : Bool := f.w.right && (endB f.ends && (hlpB f.help && f.cnB))
def Fl.life (f : Fl) : Int := if f.w.pr == 6 then f.c.life else if f.w.pr == 17 then (if f.both then 180 else 30) else 10
/-- The time of a flow behind a packet that came now. -/
def Fl.keep (f : Fl) (now : Int) : Fl := { f with ends := now + f.life }
/-- The type of an echo of a side. -/
def ecT (pr : Int) (side : Bool) : Int := if pr == 58 then (if side then 129 else 128) else (if side then 0 else 8)
def Sm.ec (s : Sm) (side : Bool) : Bool := s.ty == ecT s.w.pr side && s.co == 0
def Sm.beg (s : Sm) : Cn × Int := if s.w.pr == 6 then Go.Proofs.Ytfiembbmgdmagaa.beg s.fl s.sq s.win s.dn else if s.w.pr == 17 || s.ec false then (cn0, 0) else (cn0, 23)
def startF (s : Sm) (now help : Int) : Fl × Int :=
 if s.w.right && (nowB now && hlpB help) then (if s.beg.2 == 0 then (Fl.keep ⟨s.w, s.beg.1, 0, help, false⟩ now, 0) else (fl0, s.beg.2)) else (fl0, 1)
def Fl.way (f : Fl) (side : Bool) : Wy := if side then f.w.rev else f.w
def Sm.stp (s : Sm) (c : Cn) (side : Bool) : Cn × Int := if s.w.pr == 6 then c.step (if side then 1 else 0) s.g else if s.w.pr == 17 || s.ec side then (c, 0) else (cn0, 23)
def Fl.goS (f : Fl) (side : Bool) (s : Sm) (now : Int) : Fl × Int :=
 if f.right && nowB now then
  (if s.w.eqB (f.way side) then (if (s.stp f.c side).2 == 0 then (Fl.keep ⟨f.w, (s.stp f.c side).1, f.ends, f.help, f.both || side⟩ now, 0) else (fl0, (s.stp f.c side).2)) else (fl0, 23))
 else (fl0, 1)
def Fl.go (f : Fl) (side : Int) (s : Sm) (now : Int) : Fl × Int := if side == 0 then f.goS false s now else if side == 1 then f.goS true s now else (fl0, 1)
theorem life_bd (f : Fl) (h : f.cnB = true) : 1 ≤ f.life ∧ f.life ≤ 3600 := by
 unfold Fl.cnB at h
 unfold Fl.life Cn.life
 cases h6 : (f.w.pr == 6)
 ·simp only [Bool.false_eq_true, if_false]
  (repeat' split) <;> omega
 ·rw [h6] at h
  simp only [if_true] at h
  rw [h]
  simp only [if_true]
  (repeat' split) <;> omega
theorem beg_right {fl sq win sz : Int} (h : (beg fl sq win sz).2 = 0) : (beg fl sq win sz).1.right = true := by
 unfold beg at h ⊢
 split
 ·split
  ·rfl
  ·rename_i h1 h2; rw [if_pos h1, if_neg h2] at h; simp at h
 ·rename_i h1; rw [if_neg h1] at h; simp at h
theorem start_right {s : Sm} {now help : Int} (h : (startF s now help).2 = 0) : (startF s now help).1.right = true ∧ now < (startF s now help).1.ends ∧ (startF s now help).1.w = s.w := by
 unfold startF at h ⊢
 by_cases h1 : (s.w.right && (nowB now && hlpB help)) = true
 ·rw [if_pos h1] at h ⊢
  by_cases h2 : (s.beg.2 == 0) = true
  ·rw [if_pos h2]
   have hb : (⟨s.w, s.beg.1, 0, help, false⟩ : Fl).cnB = true := by
    unfold Fl.cnB
    have h3 : s.beg.2 = 0 := by simpa using h2
    unfold Sm.beg at h3 ⊢
    cases h6 : (s.w.pr == 6)
    ·simp only [h6, if_false, Bool.false_eq_true] at h3 ⊢
     split <;> first | rfl | skip
     all_goals decide
    ·simp only [h6, if_true] at h3 ⊢
     exact beg_right h3
   have hl := life_bd _ hb
   simp only [Bool.and_eq_true, nowB, decide_eq_true_eq] at h1
   refine ⟨?_, ?_, rfl⟩
   ·unfold Fl.right
    simp only [Fl.keep]
    simp only [Bool.and_eq_true]
    refine ⟨h1.1, ?_, h1.2.2, hb⟩
    simp [endB]
    omega
   ·simp only [Fl.keep]
    omega
  ·rw [if_neg h2] at h
   exact absurd h (by simpa using h2)
 ·rw [if_neg h1] at h
  simp at h
theorem goS_right {f : Fl} {side : Bool} {s : Sm} {now : Int} (h : (f.goS side s now).2 = 0) : (f.goS side s now).1.right = true ∧ now < (f.goS side s now).1.ends ∧ (f.goS side s now).1.w = f.w := by
 unfold Fl.goS at h ⊢
 by_cases h1 : (f.right && nowB now) = true
 ·rw [if_pos h1] at h ⊢
  by_cases h2 : s.w.eqB (f.way side) = true
  ·rw [if_pos h2] at h ⊢
   by_cases h3 : ((s.stp f.c side).2 == 0) = true
   ·rw [if_pos h3]
    have hp : s.w.pr = f.w.pr := by
     have := (Wy.eqB_iff _ _).1 h2
     rw [this]
     unfold Fl.way
     split <;> rfl
    have hr : f.right = true := by simp only [Bool.and_eq_true] at h1; exact h1.1
    have hr' := hr
    unfold Fl.right at hr'
    simp only [Bool.and_eq_true] at hr'
    have hb : (⟨f.w, (s.stp f.c side).1, f.ends, f.help, f.both || side⟩ : Fl).cnB = true := by
     have hc := hr'.2.2.2
     unfold Fl.cnB at hc ⊢
     have h4 : (s.stp f.c side).2 = 0 := by simpa using h3
     unfold Sm.stp at h4 ⊢
     rw [hp] at h4 ⊢
     cases h6 : (f.w.pr == 6)
     ·simp only [h6, if_false, Bool.false_eq_true] at h4 hc ⊢
      split
      ·exact hc
      ·rename_i h7; rw [if_neg h7] at h4; simp at h4
     ·simp only [h6, if_true] at h4 hc ⊢
      exact (step_right (i := if side then 1 else 0) (g := s.g) hc (d := (f.c.step (if side then 1 else 0) s.g).1) (Prod.ext rfl h4)).1
    have hl := life_bd _ hb
    simp only [Bool.and_eq_true, nowB, decide_eq_true_eq] at h1
    refine ⟨?_, ?_, rfl⟩
    ·unfold Fl.right
     simp only [Fl.keep, Bool.and_eq_true]
     refine ⟨hr'.1, ?_, hr'.2.2.1, hb⟩
     simp [endB]
     omega
    ·simp only [Fl.keep]
     omega
   ·rw [if_neg h3] at h
    exact absurd h (by simpa using h3)
  ·rw [if_neg h2] at h
   simp at h
 ·rw [if_neg h1] at h
  simp at h
/-- All numbers of a way lie in their kinds. -/
structure Wy.kf (t : Wy) : Prop where
 ok : t.ok
 fam : -9223372036854775808 ≤ t.fam ∧ t.fam ≤ 9223372036854775807
 pr : -9223372036854775808 ≤ t.pr ∧ t.pr ≤ 9223372036854775807
 sp : -9223372036854775808 ≤ t.sp ∧ t.sp ≤ 9223372036854775807
 dp : -9223372036854775808 ≤ t.dp ∧ t.dp ≤ 9223372036854775807
structure Ft where
 most : Int
 now : Int
 L : List Fl
def atF (w : Wy) (L : List Fl) : Option Fl := L.find? fun f => f.w.eqB w
def insF (f : Fl) : List Fl → List Fl
 | [] => [f]
 | g :: r => if g.w.order f.w < 0 then g :: insF f r else f :: g :: r
def setF (f : Fl) (L : List Fl) : List Fl := L.map fun g => if g.w.eqB f.w then f else g
def delF (w : Wy) (L : List Fl) : List Fl := L.filter fun g => !g.w.eqB w
def Ft.put (s : Ft) (f : Fl) : Ft × Int :=
 if !(f.right && decide (s.now < f.ends)) then (s, 1)
 else if (atF f.w s.L).isSome then ({ s with L := setF f s.L }, 0)
 else if (atF f.w.rev s.L).isSome then (s, 15)
 else if s.most ≤ s.L.length then (s, 12)
 else ({ s with L := insF f s.L }, 0)
def Ft.drop (s : Ft) (w : Wy) : Ft × Bool :=
 if (atF w s.L).isSome then ({ s with L := delF w s.L }, true)
 else if (atF w.rev s.L).isSome then ({ s with L := delF w.rev s.L }, true)
 else (s, false)
end Go.Proofs.Ytfiembbmgdmagaa
namespace Go.Proofs.Ytfiembbmgdmagaa
open Go.ChangeShapes Go.WideShapes Go.ChangeAt Go.RowKit Go.Joins
set_option linter.unusedVariables false
set_option linter.constructorNameAsVariable false
set_option maxRecDepth 100000
theorem ad_ok {f h l : Int} (w0 : (Lit.int .i64 f).wf = true) (w1 : (Lit.int .u64 h).wf = true) (w2 : (Lit.int .u64 l).wf = true) : Ad.ok ⟨f, h, l⟩ := by
 refine ⟨?_, ?_, ?_⟩
 ·simpa [Lit.wf, IntKind.min, IntKind.max, IntKind.signed, IntKind.bits] using w0
 ·simpa [Lit.wf, IntKind.min, IntKind.max, IntKind.signed, IntKind.bits] using w1
 ·simpa [Lit.wf, IntKind.min, IntKind.max, IntKind.signed, IntKind.bits] using w2
theorem list3 {cs : List Value} (h : cs.length = 3) : ∃ a b c, cs = [a, b, c] := by
 match cs, h with
 | [a, b, c], _ => exact ⟨a, b, c, rfl⟩
theorem addr_cells {H : Type} {enc : TypeId × Value → H} {W : World} {n : Nat} {cs : List Value} {y : DataW H × List MemPlace}
  (h : DataW.trod enc Try.prog W 0 (fun _ => true) true n 24 cs = some y) : ∃ f h l, cs = [.int .i64 f, .int .u64 h, .int .u64 l] ∧ Ad.ok ⟨f, h, l⟩ := by
 obtain ⟨y0, y1, y2, k, _, hl, h0, h1, h2⟩ := Go.Deep.trod_struct3 Try.underlying24 h
 have c24 : Try.prog.cellsOf 24 = 3 := by kernel_rfl
 have c3 : Try.prog.cellsOf 3 = 1 := by kernel_rfl
 have c22 : Try.prog.cellsOf 22 = 1 := by kernel_rfl
 rw [c24] at hl
 obtain ⟨v0, v1, v2, rfl⟩ := list3 hl
 simp only [c3, c22] at h0 h1 h2
 obtain ⟨f, e0, _, w0⟩ := DataW.trod_int Try.underlying3 h0
 obtain ⟨h, e1, _, w1⟩ := DataW.trod_int Try.underlying22 h1
 obtain ⟨l, e2, _, w2⟩ := DataW.trod_int Try.underlying22 h2
 simp only [List.drop_zero, List.drop_succ_cons, List.take_succ_cons, List.take_zero, List.cons.injEq, and_true] at e0 e1 e2
 subst e0 e1 e2
 exact ⟨_, _, _, rfl, ad_ok w0 w1 w2⟩
end Go.Proofs.Ytfiembbmgdmagaa
namespace Go.Proofs.Ytfiembbmgdmagaa
open Go.RowKit Go.ChangeShapes Go.WideShapes Go.ChangeAt
set_option linter.unusedVariables false
set_option linter.unusedSimpArgs false
set_option linter.constructorNameAsVariable false
/-- All numbers of a flow lie in their kinds. -/
structure Fl.kf (f : Fl) : Prop where
 w : f.w.kf
 ends : -9223372036854775808 ≤ f.ends ∧ f.ends ≤ 9223372036854775807
structure Ac where
 kd : Int
 nw : Int
 f : Fl
abbrev Ac.v (q : Ac) : Array Value := #[.int .i64 q.kd, .int .i64 q.nw, .int .i64 q.f.w.fam, .int .i64 q.f.w.pr, .int .i64 q.f.w.s.fam, .int .u64 q.f.w.s.hi, .int .u64 q.f.w.s.lo, .int .i64 q.f.w.d.fam, .int .u64 q.f.w.d.hi, .int .u64 q.f.w.d.lo, .int .i64 q.f.w.sp, .int .i64 q.f.w.dp, .int .i64 q.f.c.st, .int .u32 q.f.c.n0, .int .u32 q.f.c.n1, .int .u32 q.f.c.e0, .int .u32 q.f.c.e1, .bool q.f.c.k0, .bool q.f.c.k1, .bool q.f.c.d0, .bool q.f.c.d1, .int .i64 q.f.ends, .int .i64 q.f.help, .bool q.f.both]
structure Ac.ok (q : Ac) : Prop where
 kd : -9223372036854775808 ≤ q.kd ∧ q.kd ≤ 9223372036854775807
 nw : -9223372036854775808 ≤ q.nw ∧ q.nw ≤ 9223372036854775807
 f : q.f.kf
theorem slice_fw {H : Type} {enc : TypeId × Value → H} {W : World} {fuel : Nat} {cs : List Value} {y : DataW H × List MemPlace} (hf : DataW.trod enc Try.prog W 0 (fun _ => true) true fuel 34 cs = some y) : ∃ a n c, cs = [.slice a n c] := by
 rcases Deep.open_slice Try.underlying34 hf with ⟨hcs, _⟩ | ⟨x, l, c, m, n, D, Pl, hcs, _⟩
 ·exact ⟨_, _, _, hcs⟩
 ·exact ⟨_, _, _, hcs⟩
theorem ls_wayK {cs : List Value} (h : cs.length = 10) : ∃ v0 v1 v2 v3 v4 v5 v6 v7 v8 v9, cs = [v0, v1, v2, v3, v4, v5, v6, v7, v8, v9] := by
 match cs, h with
 | [v0, v1, v2, v3, v4, v5, v6, v7, v8, v9], _ => exact ⟨v0, v1, v2, v3, v4, v5, v6, v7, v8, v9, rfl⟩
theorem ly_wayK {α : Type} {cs : List α} (h : cs.length = 6) : ∃ y0 y1 y2 y3 y4 y5, cs = [y0, y1, y2, y3, y4, y5] := by
 match cs, h with
 | [y0, y1, y2, y3, y4, y5], _ => exact ⟨y0, y1, y2, y3, y4, y5, rfl⟩
set_option maxRecDepth 100000 in
set_option maxHeartbeats 4000000 in
theorem wayK_cells {H : Type} {enc : TypeId × Value → H} {W : World} {fuel : Nat} {cs : List Value} {y : DataW H × List MemPlace} (hf0 : DataW.trod enc Try.prog W 0 (fun _ => true) true fuel 26 cs = some y) :
  ∃ q : Wy, cs = q.v.toList ∧ q.kf := by
 have cc : Try.prog.cellsOf 26 = 10 := by kernel_rfl
 have c_0 : Try.prog.cellsOf 3 = 1 := by kernel_rfl
 have c_1 : Try.prog.cellsOf 24 = 3 := by kernel_rfl
 obtain ⟨xs, n, _, hx, hl, hlen, hf⟩ := DataW.trod_struct Try.underlying26 hf0
 obtain ⟨v0, v1, v2, v3, v4, v5, v6, v7, v8, v9, rfl⟩ := ls_wayK (hl.trans cc)
 obtain ⟨y0, y1, y2, y3, y4, y5, rfl⟩ := ly_wayK hlen
 have h0 : DataW.trod enc Try.prog W 0 (fun _ => true) true n 3 ((([v0, v1, v2, v3, v4, v5, v6, v7, v8, v9] : List Value).drop 0).take (Try.prog.cellsOf 3)) = some y0 := hf 0 _ rfl
 have h1 : DataW.trod enc Try.prog W 0 (fun _ => true) true n 3 ((([v0, v1, v2, v3, v4, v5, v6, v7, v8, v9] : List Value).drop 1).take (Try.prog.cellsOf 3)) = some y1 := hf 1 _ rfl
 have h2 : DataW.trod enc Try.prog W 0 (fun _ => true) true n 24 ((([v0, v1, v2, v3, v4, v5, v6, v7, v8, v9] : List Value).drop 2).take (Try.prog.cellsOf 24)) = some y2 := hf 2 _ rfl
 have h3 : DataW.trod enc Try.prog W 0 (fun _ => true) true n 24 ((([v0, v1, v2, v3, v4, v5, v6, v7, v8, v9] : List Value).drop 5).take (Try.prog.cellsOf 24)) = some y3 := hf 3 _ rfl
 have h4 : DataW.trod enc Try.prog W 0 (fun _ => true) true n 3 ((([v0, v1, v2, v3, v4, v5, v6, v7, v8, v9] : List Value).drop 8).take (Try.prog.cellsOf 3)) = some y4 := hf 4 _ rfl
 have h5 : DataW.trod enc Try.prog W 0 (fun _ => true) true n 3 ((([v0, v1, v2, v3, v4, v5, v6, v7, v8, v9] : List Value).drop 9).take (Try.prog.cellsOf 3)) = some y5 := hf 5 _ rfl
 simp only [c_0, c_1, List.drop_zero, List.drop_succ_cons, List.take_succ_cons, List.take_zero] at h0 h1 h2 h3 h4 h5
 obtain ⟨a0, e0, _, w0⟩ := DataW.trod_int Try.underlying3 h0
 obtain rfl := one_tc e0
 obtain ⟨a1, e1, _, w1⟩ := DataW.trod_int Try.underlying3 h1
 obtain rfl := one_tc e1
 obtain ⟨f2, g2, l2, e2, k2⟩ := addr_cells h2
 simp only [List.cons.injEq, and_true] at e2
 obtain ⟨rfl, rfl, rfl⟩ := e2
 obtain ⟨f3, g3, l3, e3, k3⟩ := addr_cells h3
 simp only [List.cons.injEq, and_true] at e3
 obtain ⟨rfl, rfl, rfl⟩ := e3
 obtain ⟨a4, e4, _, w4⟩ := DataW.trod_int Try.underlying3 h4
 obtain rfl := one_tc e4
 obtain ⟨a5, e5, _, w5⟩ := DataW.trod_int Try.underlying3 h5
 obtain rfl := one_tc e5
 exact ⟨⟨a0, a1, ⟨f2, g2, l2⟩, ⟨f3, g3, l3⟩, a4, a5⟩, rfl, ⟨⟨k2, k3⟩, i64_tc w0, i64_tc w1, i64_tc w4, i64_tc w5⟩⟩
theorem ls_sm {cs : List Value} (h : cs.length = 28) : ∃ v0 v1 v2 v3 v4 v5 v6 v7 v8 v9 v10 v11 v12 v13 v14 v15 v16 v17 v18 v19 v20 v21 v22 v23 v24 v25 v26 v27, cs = [v0, v1, v2, v3, v4, v5, v6, v7, v8, v9, v10, v11, v12, v13, v14, v15, v16, v17, v18, v19, v20, v21, v22, v23, v24, v25, v26, v27] := by
 match cs, h with
 | [v0, v1, v2, v3, v4, v5, v6, v7, v8, v9, v10, v11, v12, v13, v14, v15, v16, v17, v18, v19, v20, v21, v22, v23, v24, v25, v26, v27], _ => exact ⟨v0, v1, v2, v3, v4, v5, v6, v7, v8, v9, v10, v11, v12, v13, v14, v15, v16, v17, v18, v19, v20, v21, v22, v23, v24, v25, v26, v27, rfl⟩
theorem ly_sm {α : Type} {cs : List α} (h : cs.length = 10) : ∃ y0 y1 y2 y3 y4 y5 y6 y7 y8 y9, cs = [y0, y1, y2, y3, y4, y5, y6, y7, y8, y9] := by
 match cs, h with
 | [y0, y1, y2, y3, y4, y5, y6, y7, y8, y9], _ => exact ⟨y0, y1, y2, y3, y4, y5, y6, y7, y8, y9, rfl⟩
set_option maxRecDepth 100000 in
set_option maxHeartbeats 4000000 in
theorem sm_cells {H : Type} {enc : TypeId × Value → H} {W : World} {fuel : Nat} {cs : List Value} {y : DataW H × List MemPlace} (hf0 : DataW.trod enc Try.prog W 0 (fun _ => true) true fuel 36 cs = some y) :
  ∃ q : Sm, cs = q.v.toList ∧ q.w.kf := by
 have cc : Try.prog.cellsOf 36 = 28 := by kernel_rfl
 have c_0 : Try.prog.cellsOf 26 = 10 := by kernel_rfl
 have c_1 : Try.prog.cellsOf 3 = 1 := by kernel_rfl
 have c_2 : Try.prog.cellsOf 27 = 1 := by kernel_rfl
 have c_3 : Try.prog.cellsOf 4 = 1 := by kernel_rfl
 have c_4 : Try.prog.cellsOf 34 = 1 := by kernel_rfl
 obtain ⟨xs, n, _, hx, hl, hlen, hf⟩ := DataW.trod_struct Try.underlying36 hf0
 obtain ⟨v0, v1, v2, v3, v4, v5, v6, v7, v8, v9, v10, v11, v12, v13, v14, v15, v16, v17, v18, v19, v20, v21, v22, v23, v24, v25, v26, v27, rfl⟩ := ls_sm (hl.trans cc)
 obtain ⟨y0, y1, y2, y3, y4, y5, y6, y7, y8, y9, rfl⟩ := ly_sm hlen
 have h0 : DataW.trod enc Try.prog W 0 (fun _ => true) true n 26 ((([v0, v1, v2, v3, v4, v5, v6, v7, v8, v9, v10, v11, v12, v13, v14, v15, v16, v17, v18, v19, v20, v21, v22, v23, v24, v25, v26, v27] : List Value).drop 0).take (Try.prog.cellsOf 26)) = some y0 := hf 0 _ rfl
 have h1 : DataW.trod enc Try.prog W 0 (fun _ => true) true n 3 ((([v0, v1, v2, v3, v4, v5, v6, v7, v8, v9, v10, v11, v12, v13, v14, v15, v16, v17, v18, v19, v20, v21, v22, v23, v24, v25, v26, v27] : List Value).drop 10).take (Try.prog.cellsOf 3)) = some y1 := hf 1 _ rfl
 have h2 : DataW.trod enc Try.prog W 0 (fun _ => true) true n 27 ((([v0, v1, v2, v3, v4, v5, v6, v7, v8, v9, v10, v11, v12, v13, v14, v15, v16, v17, v18, v19, v20, v21, v22, v23, v24, v25, v26, v27] : List Value).drop 11).take (Try.prog.cellsOf 27)) = some y2 := hf 2 _ rfl
 have h3 : DataW.trod enc Try.prog W 0 (fun _ => true) true n 27 ((([v0, v1, v2, v3, v4, v5, v6, v7, v8, v9, v10, v11, v12, v13, v14, v15, v16, v17, v18, v19, v20, v21, v22, v23, v24, v25, v26, v27] : List Value).drop 12).take (Try.prog.cellsOf 27)) = some y3 := hf 3 _ rfl
 have h4 : DataW.trod enc Try.prog W 0 (fun _ => true) true n 3 ((([v0, v1, v2, v3, v4, v5, v6, v7, v8, v9, v10, v11, v12, v13, v14, v15, v16, v17, v18, v19, v20, v21, v22, v23, v24, v25, v26, v27] : List Value).drop 13).take (Try.prog.cellsOf 3)) = some y4 := hf 4 _ rfl
 have h5 : DataW.trod enc Try.prog W 0 (fun _ => true) true n 3 ((([v0, v1, v2, v3, v4, v5, v6, v7, v8, v9, v10, v11, v12, v13, v14, v15, v16, v17, v18, v19, v20, v21, v22, v23, v24, v25, v26, v27] : List Value).drop 14).take (Try.prog.cellsOf 3)) = some y5 := hf 5 _ rfl
 have h6 : DataW.trod enc Try.prog W 0 (fun _ => true) true n 3 ((([v0, v1, v2, v3, v4, v5, v6, v7, v8, v9, v10, v11, v12, v13, v14, v15, v16, v17, v18, v19, v20, v21, v22, v23, v24, v25, v26, v27] : List Value).drop 15).take (Try.prog.cellsOf 3)) = some y6 := hf 6 _ rfl
 have h7 : DataW.trod enc Try.prog W 0 (fun _ => true) true n 4 ((([v0, v1, v2, v3, v4, v5, v6, v7, v8, v9, v10, v11, v12, v13, v14, v15, v16, v17, v18, v19, v20, v21, v22, v23, v24, v25, v26, v27] : List Value).drop 16).take (Try.prog.cellsOf 4)) = some y7 := hf 7 _ rfl
 have h8 : DataW.trod enc Try.prog W 0 (fun _ => true) true n 26 ((([v0, v1, v2, v3, v4, v5, v6, v7, v8, v9, v10, v11, v12, v13, v14, v15, v16, v17, v18, v19, v20, v21, v22, v23, v24, v25, v26, v27] : List Value).drop 17).take (Try.prog.cellsOf 26)) = some y8 := hf 8 _ rfl
 have h9 : DataW.trod enc Try.prog W 0 (fun _ => true) true n 34 ((([v0, v1, v2, v3, v4, v5, v6, v7, v8, v9, v10, v11, v12, v13, v14, v15, v16, v17, v18, v19, v20, v21, v22, v23, v24, v25, v26, v27] : List Value).drop 27).take (Try.prog.cellsOf 34)) = some y9 := hf 9 _ rfl
 simp only [c_0, c_1, c_2, c_3, c_4, List.drop_zero, List.drop_succ_cons, List.take_succ_cons, List.take_zero] at h0 h1 h2 h3 h4 h5 h6 h7 h8 h9
 obtain ⟨q0, e0, k0⟩ := wayK_cells h0
 simp only [List.cons.injEq, and_true] at e0
 obtain ⟨rfl, rfl, rfl, rfl, rfl, rfl, rfl, rfl, rfl, rfl⟩ := e0
 obtain ⟨a1, e1, _, w1⟩ := DataW.trod_int Try.underlying3 h1
 obtain rfl := one_tc e1
 obtain ⟨a2, e2, _, w2⟩ := DataW.trod_int Try.underlying27 h2
 obtain rfl := one_tc e2
 obtain ⟨a3, e3, _, w3⟩ := DataW.trod_int Try.underlying27 h3
 obtain rfl := one_tc e3
 obtain ⟨a4, e4, _, w4⟩ := DataW.trod_int Try.underlying3 h4
 obtain rfl := one_tc e4
 obtain ⟨a5, e5, _, w5⟩ := DataW.trod_int Try.underlying3 h5
 obtain rfl := one_tc e5
 obtain ⟨a6, e6, _, w6⟩ := DataW.trod_int Try.underlying3 h6
 obtain rfl := one_tc e6
 obtain ⟨a7, e7, _⟩ := DataW.trod_bool Try.underlying4 h7
 obtain rfl := one_tc e7
 obtain ⟨q8, e8, k8⟩ := wayK_cells h8
 simp only [List.cons.injEq, and_true] at e8
 obtain ⟨rfl, rfl, rfl, rfl, rfl, rfl, rfl, rfl, rfl, rfl⟩ := e8
 obtain ⟨a9, n9, m9, e9⟩ := slice_fw h9
 obtain rfl := one_tc e9
 exact ⟨⟨q0, a1, a2, a3, a4, a5, a6, a7, q8, a9, n9, m9⟩, rfl, k0⟩
set_option maxRecDepth 100000 in
theorem open_sm {H : Type} {enc : TypeId × Value → H} {W : World} {base : Nat} {v : Value} {d : DataW H} {p : List MemPlace}
  (hv : Value.okWide Try.prog W .any base 36 v) (h : DataW.Trod enc Try.prog W 0 (fun _ => true) true 36 v d p) :
  ∃ q : Sm, v = .agg q.v ∧ q.w.kf := by
 obtain ⟨cs, rfl, _⟩ := okWide_struct Try.underlying36 hv
 obtain ⟨fuel, hf⟩ := h
 obtain ⟨q, e, ok⟩ := sm_cells hf
 refine ⟨q, ?_, ok⟩
 simp only [Value.cells] at e
 congr 1
 exact Array.ext' e
set_option maxRecDepth 100000 in
set_option maxHeartbeats 1000000 in
theorem open_sms {H : Type} {enc : TypeId × Value → H} {W : World} {base : Nat} {v : Value} {d : DataW H} {p : List MemPlace}
  (hv : Value.okWide Try.prog W .any base 73 v) (h : DataW.Trod enc Try.prog W 0 (fun _ => true) true 73 v d p) (hsz : ∀ n ∈ d.weights Try.prog 73, n ≤ reachBytes) :
  ∃ (a : Option Addr) (cap : Nat) (l : List Sm), v = .slice a l.length cap ∧ l.length ≤ cap ∧ (cap * 232 ≤ 140737488351232 ∧ (a = none → cap = 0)) ∧ RowN 28 Sm.v (fun _ q => q.w.kf) W a l := by
 obtain ⟨a0, len0, cap0, rfl⟩ := okWide_slice Try.underlying73 hv
 obtain ⟨fuel, hf⟩ := h
 rcases Deep.open_slice Try.underlying73 hf with ⟨hcs, _⟩ | ⟨x, l, c, m, n, D, Pl, hcs, _, hl, hm, hmm, hx, hcell⟩
 ·simp [Value.cells] at hcs
  obtain ⟨rfl, rfl, rfl⟩ := hcs
  exact ⟨none, 0, [], rfl, Nat.le_refl _, ⟨by omega, fun _ => rfl⟩, by simp, fun i q h => by simp at h⟩
 ·simp [Value.cells] at hcs
  obtain ⟨rfl, rfl, rfl⟩ := hcs
  simp only [if_true] at hmm
  subst hmm
  simp only [Prod.mk.injEq] at hx
  obtain ⟨rfl, _⟩ := hx
  have hbe : Program.bytesOf Try.prog 36 = 232 := by kernel_rfl
  have hce : Program.cellsOf Try.prog 36 = 28 := by kernel_rfl
  have hn := hsz ((((List.range len0).map D).length + ((List.range (m - len0)).map fun j => D (len0 + j)).length) * 232) (by simp only [DataW.weights, Try.underlying73, hbe]; exact List.mem_cons_self ..)
  simp only [List.length_map, List.length_range, reachBytes] at hn
  have each : ∀ i, i < len0 → ∃ q : Sm, (fun _ q => q.w.kf) W q ∧ ∀ j v, q.v[j]? = some v → W.cell? ((x.add (i * 28)).add j) = some v := by
   intro i hi
   obtain ⟨cs', h1, h2⟩ := hcell i (by omega)
   rw [hce] at h1
   obtain ⟨_, hlen, hc⟩ := World.cells?_some h1
   obtain ⟨q, e, hq⟩ := sm_cells h2
   refine ⟨q, hq, fun j v hj => ?_⟩
   have hj' : j < 28 := by
    have := (Array.getElem?_eq_some_iff.1 hj).1
    simpa using this
   have h3 := hc j (by omega)
   rw [h3, e]
   have : q.v.toList[j]? = some v := by simpa using hj
   exact this
  obtain ⟨l, hl1, hl2⟩ := list_of len0 each
  refine ⟨some x, m, l, by rw [hl1], by omega, ⟨by omega, fun h => by cases h⟩, fun q hq => ?_, fun i q hq => ?_⟩
  ·obtain ⟨i, hi⟩ := List.mem_iff_getElem?.1 hq
   exact (hl2 i q hi).1
  ·obtain ⟨_, c0⟩ := hl2 i q hq
   obtain ⟨b, off, spot⟩ := x
   have hil : i < l.length := (List.getElem?_eq_some_iff.1 hq).1
   obtain ⟨q0, hq0⟩ : ∃ q0, l[0]? = some q0 := ⟨_, List.getElem?_eq_getElem (by omega)⟩
   have hspot : spot = none := by simpa [Addr.add] using World.cell?_spot ((hl2 0 q0 hq0).2 0 _ rfl)
   subst hspot
   refine ⟨b, off, rfl, ?_, fun j v hj => ?_⟩
   ·have := c0 0 _ rfl
    rw [Go.WideShapes.add_plain, Go.WideShapes.add_plain] at this
    exact World.block_lt_of_cell? W _ this
   ·have := c0 j v hj
    rw [Go.WideShapes.add_plain, Go.WideShapes.add_plain] at this
    exact this
end Go.Proofs.Ytfiembbmgdmagaa
namespace Go.Proofs.Ytfiembbmgdmagaa
open Go.RowKit
set_option linter.unusedVariables false
set_option linter.unusedSimpArgs false
theorem retB_tc {a b : Bool} (h : a = b) : Ending.returned (.bool a) = Ending.returned (.bool b) := by rw [h]
theorem retN_tc {k : IntKind} {a b : Int} (h : a = b) : Ending.returned (.int k a) = Ending.returned (.int k b) := by rw [h]
theorem Blk.gt {W : World} {g : Nat} {t : TypeId} {r : Gt} (h : Blk W g t r.v) : W.cell? ⟨g, 0, none⟩ = some (.int .i64 r.fl) ∧ W.cell? ⟨g, 1, none⟩ = some (.int .i64 r.win) ∧ W.cell? ⟨g, 2, none⟩ = some (.int .i64 r.sz) ∧ W.cell? ⟨g, 3, none⟩ = some (.int .u32 r.sq) ∧ W.cell? ⟨g, 4, none⟩ = some (.int .u32 r.ak) :=
 ⟨h.cell 0 _ rfl, h.cell 1 _ rfl, h.cell 2 _ rfl, h.cell 3 _ rfl, h.cell 4 _ rfl⟩
theorem has_tc (g : Gt) (k : Int) (w : World) :
  Calls Try.prog 97 #[.agg g.v, .int .i64 k] w fun e w' => e = .returned (.bool (flB g.fl k)) ∧ Below w.heap.size w w' := by
 obtain ⟨W1, hW1⟩ : ∃ W1, w.alloc (.cells g.v 110) = W1 := ⟨_, rfl⟩
 have b1 := bel_nw hW1
 have A1 := blk_nw hW1
 have c0 := A1.cell 0 (.int .i64 g.fl) rfl
 go_enter Try.func97, Try.ntmps97
 go_wp2
 go_ret
 exact ⟨retB_tc (by simp [flB]), b1⟩
theorem from_tc (a b : Int) (w : World) :
  Calls Try.prog 111 #[.int .u32 a, .int .u32 b] w fun e w' => e = .returned (.bool (frB a b)) ∧ Below w.heap.size w w' := by
 go_enter Try.func111, Try.ntmps111
 go_wp2
 go_ret
 exact ⟨retB_tc (by simp [frB]), Below.refl _ _⟩
theorem size_tc (n : Int) (w : World) :
  Calls Try.prog 79 #[.int .i64 n] w fun e w' => e = .returned (.bool (inB15 n)) ∧ Below w.heap.size w w' := by
 go_enter Try.func79, Try.ntmps79
 by_cases h : 0 ≤ n
 ·go_wp2
  all_goals (go_ret; exact ⟨retB_tc (by simp [inB15, h]), Below.refl _ _⟩)
 ·go_wp2
  all_goals (go_ret; exact ⟨retB_tc (by simp [inB15]; omega), Below.refl _ _⟩)
theorem state_tc (a b : Bool) (w : World) :
  Calls Try.prog 82 #[.agg #[.bool a, .bool b]] w fun e w' => e = .returned (.int .i64 (stOf a b)) ∧ Below w.heap.size w w' := by
 obtain ⟨W1, hW1⟩ : ∃ W1, w.alloc (.cells #[.bool a, .bool b] 29) = W1 := ⟨_, rfl⟩
 have b1 := bel_nw hW1
 have A1 := blk_nw hW1
 have c0 := A1.cell 0 (.bool a) rfl
 have c1 := A1.cell 1 (.bool b) rfl
 go_enter Try.func82, Try.ntmps82
 cases a <;> cases b <;> (go_wp2; go_ret; exact ⟨rfl, b1⟩)
theorem limit_tc (g : Gt) (w : World) :
  Calls Try.prog 112 #[.agg g.v] w fun e w' => e = .returned (.int .u32 g.lim) ∧ Below w.heap.size w w' := by
 obtain ⟨W1, hW1⟩ : ∃ W1, w.alloc (.cells g.v 110) = W1 := ⟨_, rfl⟩
 have b1 := bel_nw hW1
 have A1 := blk_nw hW1
 obtain ⟨c0, c1, c2, c3, c4⟩ := A1.gt
 go_enter Try.func112, Try.ntmps112
 go_wp2
 go_ret
 exact ⟨retN_tc (by simp [Gt.lim]), b1⟩
set_option maxRecDepth 100000 in
set_option maxHeartbeats 1000000 in
theorem end_tc (g : Gt) (w : World) :
  Calls Try.prog 108 #[.agg g.v] w fun e w' => e = .returned (.int .u32 g.e) ∧ Below w.heap.size w w' := by
 obtain ⟨W1, hW1⟩ : ∃ W1, w.alloc (.cells g.v 110) = W1 := ⟨_, rfl⟩
 have b1 := bel_nw hW1
 have A1 := blk_nw hW1
 obtain ⟨c0, c1, c2, c3, c4⟩ := A1.gt
 have K2 : Hid (∀ W, Calls Try.prog 97 #[.agg g.v, .int .i64 2] W fun e w' => e = .returned (.bool (flB g.fl 2)) ∧ Below W.heap.size W w') := fun W => has_tc g 2 W
 have K1 : Hid (∀ W, Calls Try.prog 97 #[.agg g.v, .int .i64 1] W fun e w' => e = .returned (.bool (flB g.fl 1)) ∧ Below W.heap.size W w') := fun W => has_tc g 1 W
 obtain ⟨E, hE⟩ : ∃ E, g.e = E := ⟨_, rfl⟩
 have HE : Hid ((g.sq + g.sz + bN (flB g.fl 2) + bN (flB g.fl 1)) % 4294967296 = E) := hE
 rw [hE]
 clear hE
 generalize flB g.fl 2 = R2 at *
 generalize flB g.fl 1 = R1 at *
 go_enter Try.func108, Try.ntmps108
 go_wp2_with (refine wpList_load_row rfl _ _ rfl w.heap.size (by rfl) _ _ _ _ A1 Try.underlying110 rfl (by kernel_rfl) ?_)
 refine Calls.mono (K2.out _) ?_
 rintro e W2 ⟨rfl, bb⟩
 have A2 := A1.kept bb
 have b2 := bel_tr b1 bb
 clear bb c0 c1 c2 c3 c4 K2
 cases R2 <;> (
  go_wp2_with (refine wpList_load_row rfl _ _ rfl w.heap.size (by rfl) _ _ _ _ A2 Try.underlying110 rfl (by kernel_rfl) ?_)
  refine Calls.mono (K1.out _) ?_
  rintro e W3 ⟨rfl, bb⟩
  have b3 := bel_tr b2 bb
  cases R1 <;> (
   go_wp2
   go_ret
   exact ⟨retN_tc (by rw [← HE.out]; simp [bN]), b3⟩))
theorem within_tc (n x l : Int) (w : World) :
  Calls Try.prog 110 #[.int .u32 n, .int .u32 x, .int .u32 l] w fun e w' => e = .returned (.bool (wiB n x l)) ∧ Below w.heap.size w w' := by
 have K1 : Hid (∀ W, Calls Try.prog 111 #[.int .u32 n, .int .u32 ((x - 65535) % 4294967296)] W fun e w' => e = .returned (.bool (frB n ((x - 65535) % 4294967296))) ∧ Below W.heap.size W w') := fun W => from_tc _ _ W
 have K2 : Hid (∀ W, Calls Try.prog 111 #[.int .u32 l, .int .u32 n] W fun e w' => e = .returned (.bool (frB l n)) ∧ Below W.heap.size W w') := fun W => from_tc _ _ W
 show Calls _ _ _ w fun e w' => e = .returned (.bool (frB n ((x - 65535) % 4294967296) && frB l n)) ∧ Below w.heap.size w w'
 generalize frB n ((x - 65535) % 4294967296) = P at *
 generalize frB l n = Q at *
 go_enter Try.func110, Try.ntmps110
 go_wp2_with fail
 refine Calls.mono (K1.out _) ?_
 rintro e W2 ⟨rfl, bb⟩
 cases P
 ·go_wp2
  go_ret
  exact ⟨rfl, bb⟩
 ·go_wp2_with fail
  refine Calls.mono (K2.out _) ?_
  rintro e W3 ⟨rfl, bc⟩
  go_wp2
  go_ret
  exact ⟨retB_tc (by simp), bel_tr bb bc⟩
end Go.Proofs.Ytfiembbmgdmagaa
