/- Texts joined: TcN TuP TuN FwA FwB Arg2 FwJ BlkZ BlkB KeyL FwK TcB -/
import Derived.Test.YtfiembbmgdmagaaFxn0
import Derived.ProofKit
import Derived.OpenShut
import Derived.Deep.DeepHandedRow
import Derived.Deep.Slices
import Derived.Deep.Strs
import Derived.ChangeSlices
import Derived.ChangeSame
import Derived.Deep.RegionHeld3
import Derived.Test.YtfiembbmgdmagaaRows
import Derived.Lib.SmallJoins
import Derived.Lib.LaidTab
import Derived.Stop.LaidErr
import Derived.Shelf.LaysM
import Derived.Maps.Ext
import Derived.DeepKeys4
import Derived.Maps.RangeWalk
namespace Go.Proofs.Ytfiembbmgdmagaa
open Go.RowKit Go.ChangeShapes Go.WideShapes Go.ChangeAt
set_option linter.unusedVariables false
set_option linter.unusedSimpArgs false
set_option linter.constructorNameAsVariable false
set_option maxRecDepth 100000
theorem one_tc {x y : Value} (h : [x] = [y]) : x = y := (List.cons.inj h).1
theorem nine_tc {cs : List Value} (h : cs.length = 9) : ∃ a b c d e f g i j, cs = [a, b, c, d, e, f, g, i, j] := by
 match cs, h with
 | [a, b, c, d, e, f, g, i, j], _ => exact ⟨a, b, c, d, e, f, g, i, j, rfl⟩
theorem u32_tc {x : Int} (w : (Lit.int .u32 x).wf = true) : 0 ≤ x ∧ x < 4294967296 := by
 simp [Lit.wf, IntKind.min, IntKind.max, IntKind.signed, IntKind.bits] at w; omega
theorem i64_tc {x : Int} (w : (Lit.int .i64 x).wf = true) : -9223372036854775808 ≤ x ∧ x ≤ 9223372036854775807 := by
 simp [Lit.wf, IntKind.min, IntKind.max, IntKind.signed, IntKind.bits] at w; omega
theorem pairU_tc {H : Type} {enc : TypeId × Value → H} {W : World} {n : Nat} {x y : Value} {d : DataW H × List MemPlace}
  (h : DataW.trod enc Try.prog W 0 (fun _ => true) true n 28 [x, y] = some d) : ∃ a b, x = .int .u32 a ∧ y = .int .u32 b ∧ (0 ≤ a ∧ a < 4294967296) ∧ (0 ≤ b ∧ b < 4294967296) := by
 have cI : Try.prog.cellsOf 27 = 1 := by kernel_rfl
 obtain ⟨xs, m, _, hx, _, hlen, hf⟩ := DataW.trod_array Try.underlying28 h
 obtain ⟨y0, y1, rfl⟩ : ∃ y0 y1, xs = [y0, y1] := by
  match xs, hlen with
  | [y0, y1], _ => exact ⟨y0, y1, rfl⟩
 have h0 : DataW.trod enc Try.prog W 0 (fun _ => true) true m 27 (([x, y].drop (0 * Try.prog.cellsOf 27)).take (Try.prog.cellsOf 27)) = some y0 := hf 0 (by decide)
 have h1 : DataW.trod enc Try.prog W 0 (fun _ => true) true m 27 (([x, y].drop (1 * Try.prog.cellsOf 27)).take (Try.prog.cellsOf 27)) = some y1 := hf 1 (by decide)
 rw [cI] at h0 h1
 obtain ⟨a, e0, _, w0⟩ := DataW.trod_int Try.underlying27 (show DataW.trod enc Try.prog W 0 (fun _ => true) true m 27 [x] = some y0 from h0)
 obtain ⟨b, e1, _, w1⟩ := DataW.trod_int Try.underlying27 (show DataW.trod enc Try.prog W 0 (fun _ => true) true m 27 [y] = some y1 from h1)
 exact ⟨a, b, one_tc e0, one_tc e1, u32_tc w0, u32_tc w1⟩
theorem pairB_tc {H : Type} {enc : TypeId × Value → H} {W : World} {n : Nat} {x y : Value} {d : DataW H × List MemPlace}
  (h : DataW.trod enc Try.prog W 0 (fun _ => true) true n 29 [x, y] = some d) : ∃ a b, x = .bool a ∧ y = .bool b := by
 have cI : Try.prog.cellsOf 4 = 1 := by kernel_rfl
 obtain ⟨xs, m, _, hx, _, hlen, hf⟩ := DataW.trod_array Try.underlying29 h
 obtain ⟨y0, y1, rfl⟩ : ∃ y0 y1, xs = [y0, y1] := by
  match xs, hlen with
  | [y0, y1], _ => exact ⟨y0, y1, rfl⟩
 have h0 : DataW.trod enc Try.prog W 0 (fun _ => true) true m 4 (([x, y].drop (0 * Try.prog.cellsOf 4)).take (Try.prog.cellsOf 4)) = some y0 := hf 0 (by decide)
 have h1 : DataW.trod enc Try.prog W 0 (fun _ => true) true m 4 (([x, y].drop (1 * Try.prog.cellsOf 4)).take (Try.prog.cellsOf 4)) = some y1 := hf 1 (by decide)
 rw [cI] at h0 h1
 obtain ⟨a, e0, _⟩ := DataW.trod_bool Try.underlying4 (show DataW.trod enc Try.prog W 0 (fun _ => true) true m 4 [x] = some y0 from h0)
 obtain ⟨b, e1, _⟩ := DataW.trod_bool Try.underlying4 (show DataW.trod enc Try.prog W 0 (fun _ => true) true m 4 [y] = some y1 from h1)
 exact ⟨a, b, one_tc e0, one_tc e1⟩
set_option maxRecDepth 100000 in
theorem conn_cells {H : Type} {enc : TypeId × Value → H} {W : World} {fuel : Nat} {cs : List Value} {y : DataW H × List MemPlace} (hf0 : DataW.trod enc Try.prog W 0 (fun _ => true) true fuel 31 cs = some y) :
  ∃ q : Cn, cs = q.v.toList ∧ q.in32 := by
 have cc : Try.prog.cellsOf 31 = 9 := by kernel_rfl
 have cI : Try.prog.cellsOf 3 = 1 := by kernel_rfl
 have cU : Try.prog.cellsOf 28 = 2 := by kernel_rfl
 have cB : Try.prog.cellsOf 29 = 2 := by kernel_rfl
 obtain ⟨xs, n, _, hx, hl, hlen, hf⟩ := DataW.trod_struct Try.underlying31 hf0
 obtain ⟨v0, v1, v2, v3, v4, v5, v6, v7, v8, rfl⟩ := nine_tc (hl.trans cc)
 obtain ⟨y0, y1, y2, y3, y4, rfl⟩ : ∃ y0 y1 y2 y3 y4, xs = [y0, y1, y2, y3, y4] := by
  match xs, hlen with
  | [y0, y1, y2, y3, y4], _ => exact ⟨y0, y1, y2, y3, y4, rfl⟩
 have h0 : DataW.trod enc Try.prog W 0 (fun _ => true) true n 3 ((([v0, v1, v2, v3, v4, v5, v6, v7, v8] : List Value).drop 0).take (Try.prog.cellsOf 3)) = some y0 := hf 0 _ rfl
 have h1 : DataW.trod enc Try.prog W 0 (fun _ => true) true n 28 ((([v0, v1, v2, v3, v4, v5, v6, v7, v8] : List Value).drop 1).take (Try.prog.cellsOf 28)) = some y1 := hf 1 _ rfl
 have h2 : DataW.trod enc Try.prog W 0 (fun _ => true) true n 28 ((([v0, v1, v2, v3, v4, v5, v6, v7, v8] : List Value).drop 3).take (Try.prog.cellsOf 28)) = some y2 := hf 2 _ rfl
 have h3 : DataW.trod enc Try.prog W 0 (fun _ => true) true n 29 ((([v0, v1, v2, v3, v4, v5, v6, v7, v8] : List Value).drop 5).take (Try.prog.cellsOf 29)) = some y3 := hf 3 _ rfl
 have h4 : DataW.trod enc Try.prog W 0 (fun _ => true) true n 29 ((([v0, v1, v2, v3, v4, v5, v6, v7, v8] : List Value).drop 7).take (Try.prog.cellsOf 29)) = some y4 := hf 4 _ rfl
 simp only [cI, cU, cB, List.drop_zero, List.drop_succ_cons, List.take_succ_cons, List.take_zero] at h0 h1 h2 h3 h4
 obtain ⟨st, e0, _, _⟩ := DataW.trod_int Try.underlying3 h0
 obtain rfl := one_tc e0
 obtain ⟨a, b, rfl, rfl, r1, r2⟩ := pairU_tc h1
 obtain ⟨c, d, rfl, rfl, r3, r4⟩ := pairU_tc h2
 obtain ⟨p, q, rfl, rfl⟩ := pairB_tc h3
 obtain ⟨s, t, rfl, rfl⟩ := pairB_tc h4
 exact ⟨⟨st, a, b, c, d, p, q, s, t⟩, rfl, r1, r2, r3, r4⟩
/-- A segment of a side. -/
structure Tlk where
 i : Int
 g : Gt
abbrev Tlk.v (q : Tlk) : Array Value := #[.int .i64 q.i, .int .i64 q.g.fl, .int .i64 q.g.win, .int .i64 q.g.sz, .int .u32 q.g.sq, .int .u32 q.g.ak]
structure Tlk.ok (w : World) (q : Tlk) : Prop where
 i : -9223372036854775808 ≤ q.i ∧ q.i ≤ 9223372036854775807
 g : q.g.in32
end Go.Proofs.Ytfiembbmgdmagaa
namespace Go.Proofs.Ytfiembbmgdmagaa
open Go.RowKit
set_option linter.unusedVariables false
set_option linter.unusedSimpArgs false
theorem blk_two (w : World) (X : Obj) (cs : Array Value) (t : TypeId) : Blk ((w.alloc X).alloc (.cells cs t)) (w.heap.size + 1) t cs := by
 have := blk_new (w.alloc X) cs t
 rwa [World.size_alloc] at this
theorem bel_two (w : World) (X Y : Obj) : Below w.heap.size w ((w.alloc X).alloc Y) := ((Below.refl _ _).alloc (Nat.le_refl _) _).alloc (by simp) _
/-- A way: its family, its protocol, its ends and their ports. -/
structure Wy where
 fam : Int
 pr : Int
 s : Ad
 d : Ad
 sp : Int
 dp : Int
abbrev Wy.v (t : Wy) : Array Value := #[.int .i64 t.fam, .int .i64 t.pr, .int .i64 t.s.fam, .int .u64 t.s.hi, .int .u64 t.s.lo, .int .i64 t.d.fam, .int .u64 t.d.hi, .int .u64 t.d.lo, .int .i64 t.sp, .int .i64 t.dp]
structure Wy.ok (t : Wy) : Prop where
 s : t.s.ok
 d : t.d.ok
def Wy.rev (t : Wy) : Wy := ⟨t.fam, t.pr, t.d, t.s, t.dp, t.sp⟩
def sideB (f : Int) (a : Ad) (p : Int) : Bool := a.fam == f && (a.right && (decide (0 ≤ p) && decide (p ≤ 65535)))
/-- The name of a protocol. -/
def nameB (f p : Int) : List UInt8 := if p = 6 then [116, 99, 112] else if p = 17 then [117, 100, 112] else if p = 1 ∧ f = 4 then [105, 99, 109, 112] else if p = 58 ∧ f = 6 then [105, 99, 109, 112, 54] else []
def Wy.right (t : Wy) : Bool := sideB t.fam t.s t.sp && (sideB t.fam t.d t.dp && (nameB t.fam t.pr != []))
/-- The order of two ways. -/
def Wy.order (a b : Wy) : Int :=
 if a.fam = b.fam then (if a.pr = b.pr then (if a.s.same b.s then (if a.d.same b.d then (if a.sp = b.sp then cmp3 a.dp b.dp else cmp3 a.sp b.sp) else a.d.order b.d) else a.s.order b.s) else cmp3 a.pr b.pr) else cmp3 a.fam b.fam
def Wy.eqB (a b : Wy) : Bool := a.fam == b.fam && (a.pr == b.pr && ((a.s.fam == b.s.fam && (a.s.hi == b.s.hi && a.s.lo == b.s.lo)) && ((a.d.fam == b.d.fam && (a.d.hi == b.d.hi && a.d.lo == b.d.lo)) && (a.sp == b.sp && a.dp == b.dp))))
theorem Wy.eqB_iff (a b : Wy) : a.eqB b = true ↔ a = b := by
 obtain ⟨f, pr, ⟨sf, sh, sl⟩, ⟨df, dh, dl⟩, sp, dp⟩ := a
 obtain ⟨f', pr', ⟨sf', sh', sl'⟩, ⟨df', dh', dl'⟩, sp', dp'⟩ := b
 simp [Wy.eqB]
/-- A flow. -/
structure Fl where
 w : Wy
 c : Cn
 ends : Int
 help : Int
 both : Bool
abbrev Fl.v (f : Fl) : Array Value := #[.int .i64 f.w.fam, .int .i64 f.w.pr, .int .i64 f.w.s.fam, .int .u64 f.w.s.hi, .int .u64 f.w.s.lo, .int .i64 f.w.d.fam, .int .u64 f.w.d.hi, .int .u64 f.w.d.lo, .int .i64 f.w.sp, .int .i64 f.w.dp, .int .i64 f.c.st, .int .u32 f.c.n0, .int .u32 f.c.n1, .int .u32 f.c.e0, .int .u32 f.c.e1, .bool f.c.k0, .bool f.c.k1, .bool f.c.d0, .bool f.c.d1, .int .i64 f.ends, .int .i64 f.help, .bool f.both]
/-- A segment. -/
structure Sm where
 w : Wy
 fl : Int
 sq : Int
 ak : Int
 win : Int
 ty : Int
 co : Int
 er : Bool
 inn : Wy
 da : Option Addr
 dn : Nat
 dc : Nat
abbrev Sm.v (s : Sm) : Array Value := #[.int .i64 s.w.fam, .int .i64 s.w.pr, .int .i64 s.w.s.fam, .int .u64 s.w.s.hi, .int .u64 s.w.s.lo, .int .i64 s.w.d.fam, .int .u64 s.w.d.hi, .int .u64 s.w.d.lo, .int .i64 s.w.sp, .int .i64 s.w.dp, .int .i64 s.fl, .int .u32 s.sq, .int .u32 s.ak, .int .i64 s.win, .int .i64 s.ty, .int .i64 s.co, .bool s.er, .int .i64 s.inn.fam, .int .i64 s.inn.pr, .int .i64 s.inn.s.fam, .int .u64 s.inn.s.hi, .int .u64 s.inn.s.lo, .int .i64 s.inn.d.fam, .int .u64 s.inn.d.hi, .int .u64 s.inn.d.lo, .int .i64 s.inn.sp, .int .i64 s.inn.dp, .slice s.da s.dn s.dc]
abbrev wy0 : Wy := ⟨0, 0, ⟨0, 0, 0⟩, ⟨0, 0, 0⟩, 0, 0⟩
def fl0 : Fl := ⟨wy0, cn0, 0, 0, false⟩
/-- What of a segment the stream asks for. -/
def Sm.g (s : Sm) : Gt := ⟨s.fl, s.win, s.dn, s.sq, s.ak⟩
def nowB (n : Int) : Bool := decide (0 ≤ n) && decide (n ≤ 4611686018427384304)
def hlpB (h : Int) : Bool := decide (0 ≤ h) && decide (h ≤ 3)
def endB (n : Int) : Bool := decide (0 ≤ n) && decide (n ≤ 4611686018427387904)
def Cn.zB (c : Cn) : Bool := c.st == 0 && ((c.n0 == 0 && c.n1 == 0) && ((c.e0 == 0 && c.e1 == 0) && ((c.k0 == false && c.k1 == false) && (c.d0 == false && c.d1 == false))))
def Fl.cnB (f : Fl) : Bool := if f.w.pr == 6 then f.c.right else f.c.zB
def Fl.right (f : Fl) : Bool := f.w.right && (endB f.ends && (hlpB f.help && f.cnB))
def Fl.life (f : Fl) : Int := if f.w.pr == 6 then f.c.life else if f.w.pr == 17 then (if f.both then 180 else 30) else 10
/-- The time of a flow behind a packet that came now. -/
def Fl.keep (f : Fl) (now : Int) : Fl := { f with ends := now + f.life }
/-- The type of an echo of a side. -/
def ecT (pr : Int) (side : Bool) : Int := if pr == 58 then (if side then 129 else 128) else (if side then 0 else 8)
def Sm.ec (s : Sm) (side : Bool) : Bool := s.ty == ecT s.w.pr side && s.co == 0
def Sm.beg (s : Sm) : Cn × Int := if s.w.pr == 6 then Go.Proofs.Ytfiembbmgdmagaa.beg s.fl s.sq s.win s.dn else if s.w.pr == 17 || s.ec false then (cn0, 0) else (cn0, 23)
def startF (s : Sm) (now help : Int) : Fl × Int :=
 if s.w.right && (nowB now && hlpB help) then (if s.beg.2 == 0 then (Fl.keep ⟨s.w, s.beg.1, 0, help, false⟩ now, 0) else (fl0, s.beg.2)) else (fl0, 1)
def Fl.way (f : Fl) (side : Bool) : Wy := if side then f.w.rev else f.w
def Sm.stp (s : Sm) (c : Cn) (side : Bool) : Cn × Int := if s.w.pr == 6 then c.step (if side then 1 else 0) s.g else if s.w.pr == 17 || s.ec side then (c, 0) else (cn0, 23)
def Fl.goS (f : Fl) (side : Bool) (s : Sm) (now : Int) : Fl × Int :=
 if f.right && nowB now then
  (if s.w.eqB (f.way side) then (if (s.stp f.c side).2 == 0 then (Fl.keep ⟨f.w, (s.stp f.c side).1, f.ends, f.help, f.both || side⟩ now, 0) else (fl0, (s.stp f.c side).2)) else (fl0, 23))
 else (fl0, 1)
def Fl.go (f : Fl) (side : Int) (s : Sm) (now : Int) : Fl × Int := if side == 0 then f.goS false s now else if side == 1 then f.goS true s now else (fl0, 1)
theorem life_bd (f : Fl) (h : f.cnB = true) : 1 ≤ f.life ∧ f.life ≤ 3600 := by
 unfold Fl.cnB at h
 unfold Fl.life Cn.life
 cases h6 : (f.w.pr == 6)
 ·simp only [Bool.false_eq_true, if_false]
  (repeat' split) <;> omega
 ·rw [h6] at h
  simp only [if_true] at h
  rw [h]
  simp only [if_true]
  (repeat' split) <;> omega
theorem beg_right {fl sq win sz : Int} (h : (beg fl sq win sz).2 = 0) : (beg fl sq win sz).1.right = true := by
 unfold beg at h ⊢
 split
 ·split
  ·rfl
  ·rename_i h1 h2; rw [if_pos h1, if_neg h2] at h; simp at h
 ·rename_i h1; rw [if_neg h1] at h; simp at h
/-- All numbers of a way lie in their kinds. -/
structure Wy.kf (t : Wy) : Prop where
 ok : t.ok
 fam : -9223372036854775808 ≤ t.fam ∧ t.fam ≤ 9223372036854775807
 pr : -9223372036854775808 ≤ t.pr ∧ t.pr ≤ 9223372036854775807
 sp : -9223372036854775808 ≤ t.sp ∧ t.sp ≤ 9223372036854775807
 dp : -9223372036854775808 ≤ t.dp ∧ t.dp ≤ 9223372036854775807
structure Ft where
 most : Int
 now : Int
 L : List Fl
def atF (w : Wy) (L : List Fl) : Option Fl := L.find? fun f => f.w.eqB w
def insF (f : Fl) : List Fl → List Fl
 | [] => [f]
 | g :: r => if g.w.order f.w < 0 then g :: insF f r else f :: g :: r
def setF (f : Fl) (L : List Fl) : List Fl := L.map fun g => if g.w.eqB f.w then f else g
def delF (w : Wy) (L : List Fl) : List Fl := L.filter fun g => !g.w.eqB w
def Ft.put (s : Ft) (f : Fl) : Ft × Int :=
 if !(f.right && decide (s.now < f.ends)) then (s, 1)
 else if (atF f.w s.L).isSome then ({ s with L := setF f s.L }, 0)
 else if (atF f.w.rev s.L).isSome then (s, 15)
 else if s.most ≤ s.L.length then (s, 12)
 else ({ s with L := insF f s.L }, 0)
def Ft.drop (s : Ft) (w : Wy) : Ft × Bool :=
 if (atF w s.L).isSome then ({ s with L := delF w s.L }, true)
 else if (atF w.rev s.L).isSome then ({ s with L := delF w.rev s.L }, true)
 else (s, false)
abbrev SortF (L : List Fl) : Prop := L.Pairwise fun f g => f.w.order g.w < 0
structure FtOk (s : Ft) : Prop where
 most : 0 ≤ s.most ∧ s.most ≤ 256
 now : 0 ≤ s.now ∧ s.now ≤ 4611686018427387904
 few : (s.L.length : Int) ≤ s.most
 sorted : SortF s.L
 each : ∀ f ∈ s.L, f.right = true ∧ s.now < f.ends ∧ f.w.kf
 apart : ∀ f ∈ s.L, ∀ g ∈ s.L, g.w = f.w.rev → f = g

/-! What is found. -/
end Go.Proofs.Ytfiembbmgdmagaa
namespace Go.Proofs.Ytfiembbmgdmagaa
open Go.ChangeShapes Go.WideShapes Go.ChangeAt Go.RowKit Go.Joins
set_option linter.unusedVariables false
set_option linter.constructorNameAsVariable false
set_option maxRecDepth 100000
theorem ad_ok {f h l : Int} (w0 : (Lit.int .i64 f).wf = true) (w1 : (Lit.int .u64 h).wf = true) (w2 : (Lit.int .u64 l).wf = true) : Ad.ok ⟨f, h, l⟩ := by
 refine ⟨?_, ?_, ?_⟩
 ·simpa [Lit.wf, IntKind.min, IntKind.max, IntKind.signed, IntKind.bits] using w0
 ·simpa [Lit.wf, IntKind.min, IntKind.max, IntKind.signed, IntKind.bits] using w1
 ·simpa [Lit.wf, IntKind.min, IntKind.max, IntKind.signed, IntKind.bits] using w2
theorem list3 {cs : List Value} (h : cs.length = 3) : ∃ a b c, cs = [a, b, c] := by
 match cs, h with
 | [a, b, c], _ => exact ⟨a, b, c, rfl⟩
theorem addr_cells {H : Type} {enc : TypeId × Value → H} {W : World} {n : Nat} {cs : List Value} {y : DataW H × List MemPlace}
  (h : DataW.trod enc Try.prog W 0 (fun _ => true) true n 24 cs = some y) : ∃ f h l, cs = [.int .i64 f, .int .u64 h, .int .u64 l] ∧ Ad.ok ⟨f, h, l⟩ := by
 obtain ⟨y0, y1, y2, k, _, hl, h0, h1, h2⟩ := Go.Deep.trod_struct3 Try.underlying24 h
 have c24 : Try.prog.cellsOf 24 = 3 := by kernel_rfl
 have c3 : Try.prog.cellsOf 3 = 1 := by kernel_rfl
 have c22 : Try.prog.cellsOf 22 = 1 := by kernel_rfl
 rw [c24] at hl
 obtain ⟨v0, v1, v2, rfl⟩ := list3 hl
 simp only [c3, c22] at h0 h1 h2
 obtain ⟨f, e0, _, w0⟩ := DataW.trod_int Try.underlying3 h0
 obtain ⟨h, e1, _, w1⟩ := DataW.trod_int Try.underlying22 h1
 obtain ⟨l, e2, _, w2⟩ := DataW.trod_int Try.underlying22 h2
 simp only [List.drop_zero, List.drop_succ_cons, List.take_succ_cons, List.take_zero, List.cons.injEq, and_true] at e0 e1 e2
 subst e0 e1 e2
 exact ⟨_, _, _, rfl, ad_ok w0 w1 w2⟩
end Go.Proofs.Ytfiembbmgdmagaa
namespace Go.Proofs.Ytfiembbmgdmagaa
open Go.RowKit Go.ChangeShapes Go.WideShapes Go.ChangeAt
set_option linter.unusedVariables false
set_option linter.unusedSimpArgs false
set_option linter.constructorNameAsVariable false
/-- All numbers of a flow lie in their kinds. -/
structure Fl.kf (f : Fl) : Prop where
 w : f.w.kf
 ends : -9223372036854775808 ≤ f.ends ∧ f.ends ≤ 9223372036854775807
structure Ac where
 kd : Int
 nw : Int
 f : Fl
abbrev Ac.v (q : Ac) : Array Value := #[.int .i64 q.kd, .int .i64 q.nw, .int .i64 q.f.w.fam, .int .i64 q.f.w.pr, .int .i64 q.f.w.s.fam, .int .u64 q.f.w.s.hi, .int .u64 q.f.w.s.lo, .int .i64 q.f.w.d.fam, .int .u64 q.f.w.d.hi, .int .u64 q.f.w.d.lo, .int .i64 q.f.w.sp, .int .i64 q.f.w.dp, .int .i64 q.f.c.st, .int .u32 q.f.c.n0, .int .u32 q.f.c.n1, .int .u32 q.f.c.e0, .int .u32 q.f.c.e1, .bool q.f.c.k0, .bool q.f.c.k1, .bool q.f.c.d0, .bool q.f.c.d1, .int .i64 q.f.ends, .int .i64 q.f.help, .bool q.f.both]
structure Ac.ok (q : Ac) : Prop where
 kd : -9223372036854775808 ≤ q.kd ∧ q.kd ≤ 9223372036854775807
 nw : -9223372036854775808 ≤ q.nw ∧ q.nw ≤ 9223372036854775807
 f : q.f.kf
theorem ls_wayK {cs : List Value} (h : cs.length = 10) : ∃ v0 v1 v2 v3 v4 v5 v6 v7 v8 v9, cs = [v0, v1, v2, v3, v4, v5, v6, v7, v8, v9] := by
 match cs, h with
 | [v0, v1, v2, v3, v4, v5, v6, v7, v8, v9], _ => exact ⟨v0, v1, v2, v3, v4, v5, v6, v7, v8, v9, rfl⟩
theorem ly_wayK {α : Type} {cs : List α} (h : cs.length = 6) : ∃ y0 y1 y2 y3 y4 y5, cs = [y0, y1, y2, y3, y4, y5] := by
 match cs, h with
 | [y0, y1, y2, y3, y4, y5], _ => exact ⟨y0, y1, y2, y3, y4, y5, rfl⟩
set_option maxRecDepth 100000 in
set_option maxHeartbeats 4000000 in
theorem wayK_cells {H : Type} {enc : TypeId × Value → H} {W : World} {fuel : Nat} {cs : List Value} {y : DataW H × List MemPlace} (hf0 : DataW.trod enc Try.prog W 0 (fun _ => true) true fuel 26 cs = some y) :
  ∃ q : Wy, cs = q.v.toList ∧ q.kf := by
 have cc : Try.prog.cellsOf 26 = 10 := by kernel_rfl
 have c_0 : Try.prog.cellsOf 3 = 1 := by kernel_rfl
 have c_1 : Try.prog.cellsOf 24 = 3 := by kernel_rfl
 obtain ⟨xs, n, _, hx, hl, hlen, hf⟩ := DataW.trod_struct Try.underlying26 hf0
 obtain ⟨v0, v1, v2, v3, v4, v5, v6, v7, v8, v9, rfl⟩ := ls_wayK (hl.trans cc)
 obtain ⟨y0, y1, y2, y3, y4, y5, rfl⟩ := ly_wayK hlen
 have h0 : DataW.trod enc Try.prog W 0 (fun _ => true) true n 3 ((([v0, v1, v2, v3, v4, v5, v6, v7, v8, v9] : List Value).drop 0).take (Try.prog.cellsOf 3)) = some y0 := hf 0 _ rfl
 have h1 : DataW.trod enc Try.prog W 0 (fun _ => true) true n 3 ((([v0, v1, v2, v3, v4, v5, v6, v7, v8, v9] : List Value).drop 1).take (Try.prog.cellsOf 3)) = some y1 := hf 1 _ rfl
 have h2 : DataW.trod enc Try.prog W 0 (fun _ => true) true n 24 ((([v0, v1, v2, v3, v4, v5, v6, v7, v8, v9] : List Value).drop 2).take (Try.prog.cellsOf 24)) = some y2 := hf 2 _ rfl
 have h3 : DataW.trod enc Try.prog W 0 (fun _ => true) true n 24 ((([v0, v1, v2, v3, v4, v5, v6, v7, v8, v9] : List Value).drop 5).take (Try.prog.cellsOf 24)) = some y3 := hf 3 _ rfl
 have h4 : DataW.trod enc Try.prog W 0 (fun _ => true) true n 3 ((([v0, v1, v2, v3, v4, v5, v6, v7, v8, v9] : List Value).drop 8).take (Try.prog.cellsOf 3)) = some y4 := hf 4 _ rfl
 have h5 : DataW.trod enc Try.prog W 0 (fun _ => true) true n 3 ((([v0, v1, v2, v3, v4, v5, v6, v7, v8, v9] : List Value).drop 9).take (Try.prog.cellsOf 3)) = some y5 := hf 5 _ rfl
 simp only [c_0, c_1, List.drop_zero, List.drop_succ_cons, List.take_succ_cons, List.take_zero] at h0 h1 h2 h3 h4 h5
 obtain ⟨a0, e0, _, w0⟩ := DataW.trod_int Try.underlying3 h0
 obtain rfl := one_tc e0
 obtain ⟨a1, e1, _, w1⟩ := DataW.trod_int Try.underlying3 h1
 obtain rfl := one_tc e1
 obtain ⟨f2, g2, l2, e2, k2⟩ := addr_cells h2
 simp only [List.cons.injEq, and_true] at e2
 obtain ⟨rfl, rfl, rfl⟩ := e2
 obtain ⟨f3, g3, l3, e3, k3⟩ := addr_cells h3
 simp only [List.cons.injEq, and_true] at e3
 obtain ⟨rfl, rfl, rfl⟩ := e3
 obtain ⟨a4, e4, _, w4⟩ := DataW.trod_int Try.underlying3 h4
 obtain rfl := one_tc e4
 obtain ⟨a5, e5, _, w5⟩ := DataW.trod_int Try.underlying3 h5
 obtain rfl := one_tc e5
 exact ⟨⟨a0, a1, ⟨f2, g2, l2⟩, ⟨f3, g3, l3⟩, a4, a5⟩, rfl, ⟨⟨k2, k3⟩, i64_tc w0, i64_tc w1, i64_tc w4, i64_tc w5⟩⟩
theorem ls_flow {cs : List Value} (h : cs.length = 22) : ∃ v0 v1 v2 v3 v4 v5 v6 v7 v8 v9 v10 v11 v12 v13 v14 v15 v16 v17 v18 v19 v20 v21, cs = [v0, v1, v2, v3, v4, v5, v6, v7, v8, v9, v10, v11, v12, v13, v14, v15, v16, v17, v18, v19, v20, v21] := by
 match cs, h with
 | [v0, v1, v2, v3, v4, v5, v6, v7, v8, v9, v10, v11, v12, v13, v14, v15, v16, v17, v18, v19, v20, v21], _ => exact ⟨v0, v1, v2, v3, v4, v5, v6, v7, v8, v9, v10, v11, v12, v13, v14, v15, v16, v17, v18, v19, v20, v21, rfl⟩
theorem ly_flow {α : Type} {cs : List α} (h : cs.length = 5) : ∃ y0 y1 y2 y3 y4, cs = [y0, y1, y2, y3, y4] := by
 match cs, h with
 | [y0, y1, y2, y3, y4], _ => exact ⟨y0, y1, y2, y3, y4, rfl⟩
set_option maxRecDepth 100000 in
set_option maxHeartbeats 4000000 in
theorem flow_cells {H : Type} {enc : TypeId × Value → H} {W : World} {fuel : Nat} {cs : List Value} {y : DataW H × List MemPlace} (hf0 : DataW.trod enc Try.prog W 0 (fun _ => true) true fuel 33 cs = some y) :
  ∃ q : Fl, cs = q.v.toList ∧ q.kf := by
 have cc : Try.prog.cellsOf 33 = 22 := by kernel_rfl
 have c_0 : Try.prog.cellsOf 26 = 10 := by kernel_rfl
 have c_1 : Try.prog.cellsOf 31 = 9 := by kernel_rfl
 have c_2 : Try.prog.cellsOf 3 = 1 := by kernel_rfl
 have c_3 : Try.prog.cellsOf 4 = 1 := by kernel_rfl
 obtain ⟨xs, n, _, hx, hl, hlen, hf⟩ := DataW.trod_struct Try.underlying33 hf0
 obtain ⟨v0, v1, v2, v3, v4, v5, v6, v7, v8, v9, v10, v11, v12, v13, v14, v15, v16, v17, v18, v19, v20, v21, rfl⟩ := ls_flow (hl.trans cc)
 obtain ⟨y0, y1, y2, y3, y4, rfl⟩ := ly_flow hlen
 have h0 : DataW.trod enc Try.prog W 0 (fun _ => true) true n 26 ((([v0, v1, v2, v3, v4, v5, v6, v7, v8, v9, v10, v11, v12, v13, v14, v15, v16, v17, v18, v19, v20, v21] : List Value).drop 0).take (Try.prog.cellsOf 26)) = some y0 := hf 0 _ rfl
 have h1 : DataW.trod enc Try.prog W 0 (fun _ => true) true n 31 ((([v0, v1, v2, v3, v4, v5, v6, v7, v8, v9, v10, v11, v12, v13, v14, v15, v16, v17, v18, v19, v20, v21] : List Value).drop 10).take (Try.prog.cellsOf 31)) = some y1 := hf 1 _ rfl
 have h2 : DataW.trod enc Try.prog W 0 (fun _ => true) true n 3 ((([v0, v1, v2, v3, v4, v5, v6, v7, v8, v9, v10, v11, v12, v13, v14, v15, v16, v17, v18, v19, v20, v21] : List Value).drop 19).take (Try.prog.cellsOf 3)) = some y2 := hf 2 _ rfl
 have h3 : DataW.trod enc Try.prog W 0 (fun _ => true) true n 3 ((([v0, v1, v2, v3, v4, v5, v6, v7, v8, v9, v10, v11, v12, v13, v14, v15, v16, v17, v18, v19, v20, v21] : List Value).drop 20).take (Try.prog.cellsOf 3)) = some y3 := hf 3 _ rfl
 have h4 : DataW.trod enc Try.prog W 0 (fun _ => true) true n 4 ((([v0, v1, v2, v3, v4, v5, v6, v7, v8, v9, v10, v11, v12, v13, v14, v15, v16, v17, v18, v19, v20, v21] : List Value).drop 21).take (Try.prog.cellsOf 4)) = some y4 := hf 4 _ rfl
 simp only [c_0, c_1, c_2, c_3, List.drop_zero, List.drop_succ_cons, List.take_succ_cons, List.take_zero] at h0 h1 h2 h3 h4
 obtain ⟨q0, e0, k0⟩ := wayK_cells h0
 simp only [List.cons.injEq, and_true] at e0
 obtain ⟨rfl, rfl, rfl, rfl, rfl, rfl, rfl, rfl, rfl, rfl⟩ := e0
 obtain ⟨q1, e1, k1⟩ := conn_cells h1
 simp only [List.cons.injEq, and_true] at e1
 obtain ⟨rfl, rfl, rfl, rfl, rfl, rfl, rfl, rfl, rfl⟩ := e1
 obtain ⟨a2, e2, _, w2⟩ := DataW.trod_int Try.underlying3 h2
 obtain rfl := one_tc e2
 obtain ⟨a3, e3, _, w3⟩ := DataW.trod_int Try.underlying3 h3
 obtain rfl := one_tc e3
 obtain ⟨a4, e4, _⟩ := DataW.trod_bool Try.underlying4 h4
 obtain rfl := one_tc e4
 exact ⟨⟨q0, q1, a2, a3, a4⟩, rfl, ⟨k0, i64_tc w2⟩⟩
set_option maxRecDepth 100000 in
theorem open_flow {H : Type} {enc : TypeId × Value → H} {W : World} {base : Nat} {v : Value} {d : DataW H} {p : List MemPlace}
  (hv : Value.okWide Try.prog W .any base 33 v) (h : DataW.Trod enc Try.prog W 0 (fun _ => true) true 33 v d p) :
  ∃ q : Fl, v = .agg q.v ∧ q.kf := by
 obtain ⟨cs, rfl, _⟩ := okWide_struct Try.underlying33 hv
 obtain ⟨fuel, hf⟩ := h
 obtain ⟨q, e, ok⟩ := flow_cells hf
 refine ⟨q, ?_, ok⟩
 simp only [Value.cells] at e
 congr 1
 exact Array.ext' e
end Go.Proofs.Ytfiembbmgdmagaa
namespace Go.Proofs.Ytfiembbmgdmagaa
open Go.RowKit
set_option linter.unusedVariables false
set_option linter.unusedSimpArgs false
/-- Cells put one behind the other. -/
def setMany (cur : Array Value) (j : Nat) : List Value → Array Value
 | [] => cur
 | v :: vs => setMany (cur.setIfInBounds j v) (j + 1) vs
theorem setRow_self {W : World} {g : Nat} {t : TypeId} {cs : Array Value} (h : Blk W g t cs) : W.setRow g cs = W := by
 have hlt : g < W.heap.size := h.lt
 have hv : W.heap[g] = .cells cs t (0, 0) := (Array.getElem?_eq_some_iff.1 h).2
 unfold World.setRow
 cases W with
 | mk heap tape drawn os output =>
  congr 1
  apply Array.ext
  ·simp
  ·intro k h1 h2
   simp only [Array.getElem_modify]
   split
   ·rename_i hk; subst hk; simp at hv; simp [hv]
   ·rfl
theorem run_storeCells_off (g k : Nat) (t : TypeId) : ∀ (vs : List Value) (i : Nat) (cur : Array Value) (w : World), Blk w g t cur → k + i + vs.length ≤ cur.size → (∀ v ∈ vs, v.oneCell' = true) →
  (storeCells ⟨g, k, none⟩ vs i).run Try.prog w = .ok () (w.setRow g (setMany cur (k + i) vs))
 | [], i, cur, w, hg, hl, _ => by
  simp only [storeCells, setMany]
  rw [setRow_self hg]
  rfl
 | v :: rest, i, cur, w, hg, hl, h1 => by
  have hi : k + i < cur.size := by simp at hl; omega
  have hadd : (⟨g, k, none⟩ : Addr).add i = ⟨g, k + i, none⟩ := Go.WideShapes.add_plain ..
  have hcell : w.cell? ⟨g, k + i, none⟩ = some cur[k + i] := hg.cell (k + i) _ (by simp [hi])
  have hfro : w.frozen? ⟨g, k + i, none⟩ = false := hg.frozen _
  have hst : (store ((⟨g, k, none⟩ : Addr).add i) v).run Try.prog w = .ok () (w.setRow g (cur.setIfInBounds (k + i) v)) := by
   rw [hadd, run_store Try.prog w _ v _ (h1 v (by simp)), hcell]
   simp [hfro, setCell_eq_setRow w g (k + i) cur t (0, 0) v hg]
  have ih := run_storeCells_off g k t rest (i + 1) (cur.setIfInBounds (k + i) v) (w.setRow g (cur.setIfInBounds (k + i) v)) (hg.set _) (by simp at hl ⊢; omega) (fun x hx => h1 x (by simp [hx]))
  simp only [storeCells, Sem.run_bind, hst, Result.andThen_ok, ih, setRow_setRow, setMany]
  rfl
theorem run_storeVar_off {W : World} {g k : Nat} {t ty : TypeId} {cur cells : Array Value} (h : Blk W g t cur) (hi : (Try.prog.info? ty).map (·.size) = some cells.size) (hl : k + cells.size ≤ cur.size) (h1 : cells.all (·.oneCell') = true) :
  (storeVar ty ⟨g, k, none⟩ (.agg cells)).run Try.prog W = .ok () (W.setRow g (setMany cur k cells.toList)) := by
 have := run_storeCells_off g k t cells.toList 0 cur W h (by simp; omega) (fun v hv => (Array.all_eq_true_iff_forall_mem.1 h1) v (by simpa using hv))
 cases hq : Try.prog.info? ty with
 | none => simp [hq] at hi
 | some i =>
  have hs : cells.size = i.size := by simp [hq] at hi; omega
  simp [storeVar, sizeOf, typeInfo, hq, Value.cells, hs, this]
theorem wpList_store_off {ops : Array Oper} {rest : List Oper} {o : Oper} {ac : Act} {Q : Exit → Act → World → Prop} {w : World} (hgd : o.guard = none) (ty : TypeId) (p x : Operand) (ho : o.op = Op.store ty p x) (g k : Nat) (t : TypeId) (cs cur new : Array Value)
  (hp : ac.eval p = .pointer (some ⟨g, k, none⟩)) (hx : ac.eval x = .agg cs) (hb : Blk w g t cur) (hi : (Try.prog.info? ty).map (·.size) = some cs.size) (hl : k + cs.size ≤ cur.size) (h1 : cs.all (·.oneCell') = true) (hn : setMany cur k cs.toList = new) (h : wpList Try.prog ops Q rest (ac.put o.dst undef) (w.setRow g new)) : wpList Try.prog ops Q (o :: rest) ac w := by
 refine wpList_plain hgd fun K hK => ?_
 subst hn
 unfold Oper.wp execOp
 simp only [ho, hp, hx, Instr.storeAt, Instr.sureAddr, Sem.run_bind, Sem.run_pure, Result.andThen_ok, run_storeVar_off hb hi hl h1]
 exact hK _ _ h
/-- w' is w but for the blocks F, and new ones. -/
structure But (F : Nat → Prop) (w w' : World) : Prop where
 os : w'.os = w.os
 tape : w'.tape = w.tape
 output : w'.output = w.output
 size : w.heap.size ≤ w'.heap.size
 block : ∀ k, k < w.heap.size → ¬ F k → w'.heap[k]? = w.heap[k]?
theorem But.refl (F : Nat → Prop) (w : World) : But F w w := ⟨rfl, rfl, rfl, Nat.le_refl _, fun _ _ _ => rfl⟩
theorem But.trans {F F' : Nat → Prop} {a b c : World} (h : But F a b) (k : But F' b c) (hf : ∀ n, n < a.heap.size → F' n → F n) : But F a c :=
 ⟨k.os.trans h.os, k.tape.trans h.tape, k.output.trans h.output, Nat.le_trans h.size k.size, fun i hi hn => (k.block i (Nat.lt_of_lt_of_le hi h.size) (fun x => hn (hf i hi x))).trans (h.block i hi hn)⟩
theorem But.of_below {w w' : World} (h : Below w.heap.size w w') (F : Nat → Prop) : But F w w' := ⟨h.os, h.tape, h.output, h.size, fun k hk _ => h.block k hk⟩
theorem But.setRow {F : Nat → Prop} {a b : World} (h : But F a b) (g : Nat) (hg : F g ∨ a.heap.size ≤ g) (cs : Array Value) : But F a (b.setRow g cs) :=
 h.trans (F' := fun k => k = g) ⟨rfl, rfl, rfl, by simp [World.setRow], fun k hk hn => setRow_heap_ne b g k cs hn⟩ (fun n hn e => by subst e; rcases hg with x | x; exact x; omega)
theorem But.setCell {F : Nat → Prop} {a b : World} (h : But F a b) (g i : Nat) (hg : F g ∨ a.heap.size ≤ g) (v : Value) : But F a (b.setCell ⟨g, i, none⟩ v) :=
 h.trans (F' := fun k => k = g) ⟨rfl, rfl, rfl, by simp [World.setCell], fun k hk hn => Below.heap_setCell _ _ _ _ hn⟩ (fun n hn e => by subst e; rcases hg with x | x; exact x; omega)
theorem But.cell {F : Nat → Prop} {w w' : World} (h : But F w w') {b i : Nat} {v : Value} (hn : ¬ F b) (hc : w.cell? ⟨b, i, none⟩ = some v) : w'.cell? ⟨b, i, none⟩ = some v :=
 (World.cell?_of_block (h.block b (World.block_lt_of_cell? w _ hc) hn)).trans hc
theorem Blk.but {F : Nat → Prop} {w w' : World} {g : Nat} {t : TypeId} {cs : Array Value} (h : Blk w g t cs) (hb : But F w w') (hn : ¬ F g) : Blk w' g t cs := (hb.block g h.lt hn).trans h
end Go.Proofs.Ytfiembbmgdmagaa
namespace Go.Proofs.Ytfiembbmgdmagaa
open Go.RowKit Go.Maps Go.WideMaps
set_option linter.unusedVariables false
set_option linter.unusedSimpArgs false
/-- An element is read as it is. -/
def heldElem (v : Value) : Option (DataW Value × List MemPlace) := some (.held v, [])
abbrev Keys {α : Type} (E : List (Lit × α)) : Prop := E.Pairwise fun p q => p.1 ≠ q.1
abbrev OwnsF (w : World) (b n : Nat) (D : DataW Value) : Prop := w.ownsMap Try.prog 26 heldElem b n D
abbrev toDF (G : List (Lit × Fl)) : DataW Value := .map (G.map fun p => (p.1, .held (.agg p.2.v)))
/-- The key of a way. -/
def keyW (w : Wy) : Lit := .string (keyBytes [.int .i64 w.fam, .int .i64 w.pr, .int .i64 w.s.fam, .int .u64 w.s.hi, .int .u64 w.s.lo, .int .i64 w.d.fam, .int .u64 w.d.hi, .int .u64 w.d.lo, .int .i64 w.sp, .int .i64 w.dp])
/-- The map of flows. -/
structure MapF (w : World) (mb : Nat) (G : List (Lit × Fl)) : Prop where
 own : OwnsF w mb G.length (toDF G)
theorem MapF.lt {w : World} {mb : Nat} {G : List (Lit × Fl)} (h : MapF w mb G) : mb < w.heap.size := World.ownsMap.lt h.own
theorem MapF.al {w w' : World} {mb : Nat} {G : List (Lit × Fl)} {o : Obj} (h : MapF w mb G) (e : w.alloc o = w') : MapF w' mb G := ⟨by rw [← e]; exact World.ownsMap.alloc h.own _⟩
theorem MapF.drew {w : World} {mb : Nat} {G : List (Lit × Fl)} (h : MapF w mb G) : MapF w.drew mb G := ⟨World.ownsMap.drew h.own⟩
theorem MapF.but {F : Nat → Prop} {w w' : World} {mb : Nat} {G : List (Lit × Fl)} (h : MapF w mb G) (b : But F w w') (hn : ¬ F mb) : MapF w' mb G := by
 obtain ⟨es, ck, h1, h2, h3, h4⟩ := h.own
 exact ⟨⟨es, ck, (b.block mb h.lt hn).trans h1, h2, h3, h4⟩⟩
theorem MapF.kept {w w' : World} {mb : Nat} {G : List (Lit × Fl)} (h : MapF w mb G) (b : Below w.heap.size w w') : MapF w' mb G := h.but (But.of_below b (fun _ => False)) (fun x => x)
theorem MapF.other {w : World} {mb g : Nat} {G : List (Lit × Fl)} (h : MapF w mb G) (hn : mb ≠ g) (cs : Array Value) : MapF (w.setRow g cs) mb G :=
 h.but ((But.refl (fun k => k = g) w).setRow g (.inl rfl) cs) hn
theorem MapF.put_other {w : World} {mb g : Nat} {G : List (Lit × Fl)} {t : TypeId} {cs : Array Value} (h : MapF w mb G) (_ : Blk w g t cs) (hn : mb ≠ g) (i : Nat) (v : Value) : MapF (w.setCell ⟨g, i, none⟩ v) mb G :=
 h.but ((But.refl (fun k => k = g) w).setCell g i (.inl rfl) v) hn
abbrev tabV (s : Ft) (mb : Nat) : Array Value := #[.bool true, .int .i64 s.most, .int .i64 s.now, .map (some mb)]
structure TabF (w : World) (tb mb : Nat) (s : Ft) (G : List (Lit × Fl)) : Prop where
 tab : Blk w tb 77 (tabV s mb)
 map : MapF w mb G
 ne : tb ≠ mb
 ok : FtOk s
 keys : Keys G
 key : ∀ p ∈ G, p.1 = keyW p.2.w
 perm : (G.map (·.2)).Perm s.L
theorem TabF.but {F : Nat → Prop} {w w' : World} {tb mb : Nat} {s : Ft} {G : List (Lit × Fl)} (h : TabF w tb mb s G) (b : But F w w') (h1 : ¬ F tb) (h2 : ¬ F mb) : TabF w' tb mb s G := ⟨h.tab.but b h1, h.map.but b h2, h.ne, h.ok, h.keys, h.key, h.perm⟩
theorem TabF.kept {w w' : World} {tb mb : Nat} {s : Ft} {G : List (Lit × Fl)} (h : TabF w tb mb s G) (b : Below w.heap.size w w') : TabF w' tb mb s G := h.but (But.of_below b (fun _ => False)) (fun x => x) (fun x => x)
theorem TabF.kf {w : World} {tb mb : Nat} {s : Ft} {G : List (Lit × Fl)} (h : TabF w tb mb s G) {p : Lit × Fl} (hp : p ∈ G) : p.2.w.kf := (h.ok.each p.2 (h.perm.mem_iff.1 (List.mem_map.2 ⟨p, hp, rfl⟩))).2.2
end Go.Proofs.Ytfiembbmgdmagaa
namespace Go.Proofs.Ytfiembbmgdmagaa
open Go.RowKit
set_option linter.unusedVariables false
set_option linter.unusedSimpArgs false
theorem retB_tc {a b : Bool} (h : a = b) : Ending.returned (.bool a) = Ending.returned (.bool b) := by rw [h]
theorem retN_tc {k : IntKind} {a b : Int} (h : a = b) : Ending.returned (.int k a) = Ending.returned (.int k b) := by rw [h]
theorem Blk.gt {W : World} {g : Nat} {t : TypeId} {r : Gt} (h : Blk W g t r.v) : W.cell? ⟨g, 0, none⟩ = some (.int .i64 r.fl) ∧ W.cell? ⟨g, 1, none⟩ = some (.int .i64 r.win) ∧ W.cell? ⟨g, 2, none⟩ = some (.int .i64 r.sz) ∧ W.cell? ⟨g, 3, none⟩ = some (.int .u32 r.sq) ∧ W.cell? ⟨g, 4, none⟩ = some (.int .u32 r.ak) :=
 ⟨h.cell 0 _ rfl, h.cell 1 _ rfl, h.cell 2 _ rfl, h.cell 3 _ rfl, h.cell 4 _ rfl⟩
theorem has_tc (g : Gt) (k : Int) (w : World) :
  Calls Try.prog 97 #[.agg g.v, .int .i64 k] w fun e w' => e = .returned (.bool (flB g.fl k)) ∧ Below w.heap.size w w' := by
 obtain ⟨W1, hW1⟩ : ∃ W1, w.alloc (.cells g.v 110) = W1 := ⟨_, rfl⟩
 have b1 := bel_nw hW1
 have A1 := blk_nw hW1
 have c0 := A1.cell 0 (.int .i64 g.fl) rfl
 go_enter Try.func97, Try.ntmps97
 go_wp2
 go_ret
 exact ⟨retB_tc (by simp [flB]), b1⟩
theorem from_tc (a b : Int) (w : World) :
  Calls Try.prog 111 #[.int .u32 a, .int .u32 b] w fun e w' => e = .returned (.bool (frB a b)) ∧ Below w.heap.size w w' := by
 go_enter Try.func111, Try.ntmps111
 go_wp2
 go_ret
 exact ⟨retB_tc (by simp [frB]), Below.refl _ _⟩
theorem size_tc (n : Int) (w : World) :
  Calls Try.prog 79 #[.int .i64 n] w fun e w' => e = .returned (.bool (inB15 n)) ∧ Below w.heap.size w w' := by
 go_enter Try.func79, Try.ntmps79
 by_cases h : 0 ≤ n
 ·go_wp2
  all_goals (go_ret; exact ⟨retB_tc (by simp [inB15, h]), Below.refl _ _⟩)
 ·go_wp2
  all_goals (go_ret; exact ⟨retB_tc (by simp [inB15]; omega), Below.refl _ _⟩)
theorem state_tc (a b : Bool) (w : World) :
  Calls Try.prog 82 #[.agg #[.bool a, .bool b]] w fun e w' => e = .returned (.int .i64 (stOf a b)) ∧ Below w.heap.size w w' := by
 obtain ⟨W1, hW1⟩ : ∃ W1, w.alloc (.cells #[.bool a, .bool b] 29) = W1 := ⟨_, rfl⟩
 have b1 := bel_nw hW1
 have A1 := blk_nw hW1
 have c0 := A1.cell 0 (.bool a) rfl
 have c1 := A1.cell 1 (.bool b) rfl
 go_enter Try.func82, Try.ntmps82
 cases a <;> cases b <;> (go_wp2; go_ret; exact ⟨rfl, b1⟩)
theorem limit_tc (g : Gt) (w : World) :
  Calls Try.prog 112 #[.agg g.v] w fun e w' => e = .returned (.int .u32 g.lim) ∧ Below w.heap.size w w' := by
 obtain ⟨W1, hW1⟩ : ∃ W1, w.alloc (.cells g.v 110) = W1 := ⟨_, rfl⟩
 have b1 := bel_nw hW1
 have A1 := blk_nw hW1
 obtain ⟨c0, c1, c2, c3, c4⟩ := A1.gt
 go_enter Try.func112, Try.ntmps112
 go_wp2
 go_ret
 exact ⟨retN_tc (by simp [Gt.lim]), b1⟩
set_option maxRecDepth 100000 in
set_option maxHeartbeats 1000000 in
theorem end_tc (g : Gt) (w : World) :
  Calls Try.prog 108 #[.agg g.v] w fun e w' => e = .returned (.int .u32 g.e) ∧ Below w.heap.size w w' := by
 obtain ⟨W1, hW1⟩ : ∃ W1, w.alloc (.cells g.v 110) = W1 := ⟨_, rfl⟩
 have b1 := bel_nw hW1
 have A1 := blk_nw hW1
 obtain ⟨c0, c1, c2, c3, c4⟩ := A1.gt
 have K2 : Hid (∀ W, Calls Try.prog 97 #[.agg g.v, .int .i64 2] W fun e w' => e = .returned (.bool (flB g.fl 2)) ∧ Below W.heap.size W w') := fun W => has_tc g 2 W
 have K1 : Hid (∀ W, Calls Try.prog 97 #[.agg g.v, .int .i64 1] W fun e w' => e = .returned (.bool (flB g.fl 1)) ∧ Below W.heap.size W w') := fun W => has_tc g 1 W
 obtain ⟨E, hE⟩ : ∃ E, g.e = E := ⟨_, rfl⟩
 have HE : Hid ((g.sq + g.sz + bN (flB g.fl 2) + bN (flB g.fl 1)) % 4294967296 = E) := hE
 rw [hE]
 clear hE
 generalize flB g.fl 2 = R2 at *
 generalize flB g.fl 1 = R1 at *
 go_enter Try.func108, Try.ntmps108
 go_wp2_with (refine wpList_load_row rfl _ _ rfl w.heap.size (by rfl) _ _ _ _ A1 Try.underlying110 rfl (by kernel_rfl) ?_)
 refine Calls.mono (K2.out _) ?_
 rintro e W2 ⟨rfl, bb⟩
 have A2 := A1.kept bb
 have b2 := bel_tr b1 bb
 clear bb c0 c1 c2 c3 c4 K2
 cases R2 <;> (
  go_wp2_with (refine wpList_load_row rfl _ _ rfl w.heap.size (by rfl) _ _ _ _ A2 Try.underlying110 rfl (by kernel_rfl) ?_)
  refine Calls.mono (K1.out _) ?_
  rintro e W3 ⟨rfl, bb⟩
  have b3 := bel_tr b2 bb
  cases R1 <;> (
   go_wp2
   go_ret
   exact ⟨retN_tc (by rw [← HE.out]; simp [bN]), b3⟩))
theorem within_tc (n x l : Int) (w : World) :
  Calls Try.prog 110 #[.int .u32 n, .int .u32 x, .int .u32 l] w fun e w' => e = .returned (.bool (wiB n x l)) ∧ Below w.heap.size w w' := by
 have K1 : Hid (∀ W, Calls Try.prog 111 #[.int .u32 n, .int .u32 ((x - 65535) % 4294967296)] W fun e w' => e = .returned (.bool (frB n ((x - 65535) % 4294967296))) ∧ Below W.heap.size W w') := fun W => from_tc _ _ W
 have K2 : Hid (∀ W, Calls Try.prog 111 #[.int .u32 l, .int .u32 n] W fun e w' => e = .returned (.bool (frB l n)) ∧ Below W.heap.size W w') := fun W => from_tc _ _ W
 show Calls _ _ _ w fun e w' => e = .returned (.bool (frB n ((x - 65535) % 4294967296) && frB l n)) ∧ Below w.heap.size w w'
 generalize frB n ((x - 65535) % 4294967296) = P at *
 generalize frB l n = Q at *
 go_enter Try.func110, Try.ntmps110
 go_wp2_with fail
 refine Calls.mono (K1.out _) ?_
 rintro e W2 ⟨rfl, bb⟩
 cases P
 ·go_wp2
  go_ret
  exact ⟨rfl, bb⟩
 ·go_wp2_with fail
  refine Calls.mono (K2.out _) ?_
  rintro e W3 ⟨rfl, bc⟩
  go_wp2
  go_ret
  exact ⟨retB_tc (by simp), bel_tr bb bc⟩
end Go.Proofs.Ytfiembbmgdmagaa
