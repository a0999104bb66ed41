/- Texts joined: TuP TuN FwA FwB Arg2 FwJ TuB TuD BlkZ BlkB KeyL FwK TcB -/
import Derived.Test.YtfiembbmgdmagaaFxb0
import Derived.Deep.RegionHeld3
import Derived.Test.YtfiembbmgdmagaaRows
import Derived.ProofKit
import Derived.OpenShut
import Derived.Lib.SmallJoins
import Derived.Lib.LaidTab
import Derived.Stop.LaidErr
import Derived.Deep.DeepHandedRow
import Derived.Deep.Strs
import Derived.ChangeSame
import Derived.Shelf.LaysM
import Derived.Maps.Ext
import Derived.DeepKeys4
import Derived.Maps.RangeWalk
namespace Go.Proofs.Ytfiembbmgdmagaa
open Go.RowKit
set_option linter.unusedVariables false
set_option linter.unusedSimpArgs false
theorem blk_two (w : World) (X : Obj) (cs : Array Value) (t : TypeId) : Blk ((w.alloc X).alloc (.cells cs t)) (w.heap.size + 1) t cs := by
  have := blk_new (w.alloc X) cs t
  rwa [World.size_alloc] at this
theorem bel_two (w : World) (X Y : Obj) : Below w.heap.size w ((w.alloc X).alloc Y) := ((Below.refl _ _).alloc (Nat.le_refl _) _).alloc (by simp) _
/-- A way: its family, its protocol, its ends and their ports. -/
structure Wy where
  fam : Int
  pr : Int
  s : Ad
  d : Ad
  sp : Int
  dp : Int
abbrev Wy.v (t : Wy) : Array Value := #[.int .i64 t.fam, .int .i64 t.pr, .int .i64 t.s.fam, .int .u64 t.s.hi, .int .u64 t.s.lo, .int .i64 t.d.fam, .int .u64 t.d.hi, .int .u64 t.d.lo, .int .i64 t.sp, .int .i64 t.dp]
structure Wy.ok (t : Wy) : Prop where
  s : t.s.ok
  d : t.d.ok
def Wy.rev (t : Wy) : Wy := ⟨t.fam, t.pr, t.d, t.s, t.dp, t.sp⟩
theorem Wy.rev_rev (t : Wy) : t.rev.rev = t := rfl
theorem Wy.ok_rev {t : Wy} (h : t.ok) : t.rev.ok := ⟨h.d, h.s⟩
def sideB (f : Int) (a : Ad) (p : Int) : Bool := a.fam == f && (a.right && (decide (0 ≤ p) && decide (p ≤ 65535)))
/-- The name of a protocol. -/
def nameB (f p : Int) : List UInt8 := if p = 6 then [116, 99, 112] else if p = 17 then [117, 100, 112] else if p = 1 ∧ f = 4 then [105, 99, 109, 112] else if p = 58 ∧ f = 6 then [105, 99, 109, 112, 54] else []
def Wy.right (t : Wy) : Bool := sideB t.fam t.s t.sp && (sideB t.fam t.d t.dp && (nameB t.fam t.pr != []))
/-- The order of two ways. -/
def Wy.order (a b : Wy) : Int :=
  if a.fam = b.fam then (if a.pr = b.pr then (if a.s.same b.s then (if a.d.same b.d then (if a.sp = b.sp then cmp3 a.dp b.dp else cmp3 a.sp b.sp) else a.d.order b.d) else a.s.order b.s) else cmp3 a.pr b.pr) else cmp3 a.fam b.fam
def lexI : List Int → List Int → Int
  | x :: xs, y :: ys => if x = y then lexI xs ys else cmp3 x y
  | _, _ => 0
theorem cmp3_self (x : Int) : cmp3 x x = 0 := by unfold cmp3; rw [if_neg (by omega), if_neg (by omega)]
theorem cmp3_neg (x y : Int) : cmp3 y x = - cmp3 x y := by unfold cmp3; (repeat' split) <;> omega
theorem cmp3_zero {x y : Int} : cmp3 x y = 0 ↔ x = y := by unfold cmp3; (repeat' split) <;> omega
theorem cmp3_le {x y : Int} : cmp3 x y ≤ 0 ↔ x ≤ y := by unfold cmp3; (repeat' split) <;> omega
theorem lexI_neg : ∀ a b : List Int, lexI b a = - lexI a b
  | [], [] => rfl
  | [], _ :: _ => rfl
  | _ :: _, [] => rfl
  | x :: xs, y :: ys => by
    unfold lexI
    by_cases h : x = y
    · rw [if_pos h, if_pos h.symm, lexI_neg xs ys]
    · rw [if_neg h, if_neg (fun e => h e.symm), cmp3_neg]
theorem lexI_zero : ∀ a b : List Int, a.length = b.length → (lexI a b = 0 ↔ a = b)
  | [], [], _ => by simp [lexI]
  | x :: xs, y :: ys, h => by
    unfold lexI
    by_cases e : x = y
    · rw [if_pos e, lexI_zero xs ys (by simpa using h), e]; simp
    · rw [if_neg e, cmp3_zero]; simp [e]
theorem lexI_tr : ∀ a b c : List Int, a.length = b.length → b.length = c.length → lexI a b ≤ 0 → lexI b c ≤ 0 → lexI a c ≤ 0
  | [], [], [], _, _, _, _ => by simp [lexI]
  | x :: xs, y :: ys, z :: zs, h, h', p, q => by
    unfold lexI at p q ⊢
    by_cases e : x = y
    · by_cases e' : y = z
      · rw [if_pos e] at p
        rw [if_pos e'] at q
        rw [if_pos (e.trans e')]
        exact lexI_tr xs ys zs (by simpa using h) (by simpa using h') p q
      · rw [if_neg e', cmp3_le] at q
        subst e
        rw [if_neg e', cmp3_le]
        exact q
    · rw [if_neg e, cmp3_le] at p
      by_cases e' : y = z
      · subst e'
        rw [if_neg e, cmp3_le]
        exact p
      · rw [if_neg e', cmp3_le] at q
        by_cases e'' : x = z
        · omega
        · rw [if_neg e'', cmp3_le]; omega
def Wy.row (t : Wy) : List Int := [t.fam, t.pr, t.s.fam, t.s.hi, t.s.lo, t.d.fam, t.d.hi, t.d.lo, t.sp, t.dp]
theorem Ad.order_lex (a b : Ad) : a.order b = lexI [a.fam, a.hi, a.lo] [b.fam, b.hi, b.lo] := by
  unfold Ad.order lexI lexI lexI lexI
  by_cases h : a.fam = b.fam
  · rw [if_pos (cmp3_zero.2 h), if_pos h]
    by_cases h' : a.hi = b.hi
    · rw [if_pos (cmp3_zero.2 h'), if_pos h']
      by_cases h'' : a.lo = b.lo
      · rw [if_pos h'', h'', cmp3_self]
      · rw [if_neg h'']
    · rw [if_neg (fun e => h' (cmp3_zero.1 e)), if_neg h']
  · rw [if_neg (fun e => h (cmp3_zero.1 e)), if_neg h]
theorem lexI_three (x y z x' y' z' : Int) (u v : List Int) : lexI (x :: y :: z :: u) (x' :: y' :: z' :: v) = if x = x' ∧ y = y' ∧ z = z' then lexI u v else lexI [x, y, z] [x', y', z'] := by
  by_cases h : x = x'
  · by_cases h' : y = y'
    · by_cases h'' : z = z'
      · simp [lexI, h, h', h'']
      · simp [lexI, h, h', h'']
    · simp [lexI, h, h']
  · simp [lexI, h]
theorem Ad.same_eq (a b : Ad) : (a.same b = true) ↔ (a.fam = b.fam ∧ a.hi = b.hi ∧ a.lo = b.lo) := by simp [Ad.same]
theorem Wy.order_lex (a b : Wy) : a.order b = lexI a.row b.row := by
  unfold Wy.order Wy.row
  by_cases h : a.fam = b.fam
  · rw [if_pos h, lexI, if_pos h]
    by_cases h2 : a.pr = b.pr
    · rw [if_pos h2, lexI, if_pos h2, lexI_three, lexI_three, Ad.order_lex, Ad.order_lex]
      by_cases h3 : a.s.same b.s = true
      · rw [if_pos h3, if_pos ((Ad.same_eq _ _).1 h3)]
        by_cases h4 : a.d.same b.d = true
        · rw [if_pos h4, if_pos ((Ad.same_eq _ _).1 h4)]
          by_cases h5 : a.sp = b.sp
          · rw [if_pos h5, lexI, if_pos h5, lexI]
            by_cases h6 : a.dp = b.dp
            · rw [if_pos h6, h6, cmp3_self]; rfl
            · rw [if_neg h6]
          · rw [if_neg h5, lexI, if_neg h5]
        · rw [if_neg h4, if_neg (fun e => h4 ((Ad.same_eq _ _).2 e))]
      · rw [if_neg h3, if_neg (fun e => h3 ((Ad.same_eq _ _).2 e))]
    · rw [if_neg h2, lexI, if_neg h2]
  · rw [if_neg h, lexI, if_neg h]
theorem Wy.row_inj {a b : Wy} (h : a.row = b.row) : a = b := by
  obtain ⟨f, p, ⟨x, y, z⟩, ⟨x', y', z'⟩, u, v⟩ := a
  obtain ⟨f2, p2, ⟨x2, y2, z2⟩, ⟨x2', y2', z2'⟩, u2, v2⟩ := b
  simp [Wy.row] at h
  simp [h]
theorem Wy.order_neg (a b : Wy) : b.order a = - a.order b := by rw [Wy.order_lex, Wy.order_lex, lexI_neg]
theorem Wy.order_zero {a b : Wy} : a.order b = 0 ↔ a = b := by
  rw [Wy.order_lex, lexI_zero _ _ (by simp [Wy.row])]
  exact ⟨Wy.row_inj, fun e => by rw [e]⟩
theorem Wy.order_tr {a b c : Wy} (h : a.order b ≤ 0) (h' : b.order c ≤ 0) : a.order c ≤ 0 := by
  rw [Wy.order_lex] at *
  exact lexI_tr _ _ _ (by simp [Wy.row]) (by simp [Wy.row]) h h'
/-- The first of some numbers that is not zero. -/
def fst0 : List Int → Int
  | [] => 0
  | x :: r => if x = 0 then fst0 r else x
theorem Ad.order_zero {a b : Ad} : a.order b = 0 ↔ a.same b = true := by
  rw [Ad.order_lex, lexI_zero _ _ (by simp), Ad.same_eq]; simp
theorem Wy.order_fst (a b : Wy) : a.order b = fst0 [cmp3 a.fam b.fam, cmp3 a.pr b.pr, a.s.order b.s, a.d.order b.d, cmp3 a.sp b.sp, cmp3 a.dp b.dp] := by
  unfold Wy.order
  simp only [fst0, cmp3_zero, Ad.order_zero]
  (repeat' split) <;> first | rfl | (rw [cmp3_zero]; assumption)
def Wy.eqB (a b : Wy) : Bool := a.fam == b.fam && (a.pr == b.pr && ((a.s.fam == b.s.fam && (a.s.hi == b.s.hi && a.s.lo == b.s.lo)) && ((a.d.fam == b.d.fam && (a.d.hi == b.d.hi && a.d.lo == b.d.lo)) && (a.sp == b.sp && a.dp == b.dp))))
theorem Wy.eqB_iff (a b : Wy) : a.eqB b = true ↔ a = b := by
  obtain ⟨f, pr, ⟨sf, sh, sl⟩, ⟨df, dh, dl⟩, sp, dp⟩ := a
  obtain ⟨f', pr', ⟨sf', sh', sl'⟩, ⟨df', dh', dl'⟩, sp', dp'⟩ := b
  simp [Wy.eqB]
set_option maxRecDepth 100000 in
set_option maxHeartbeats 4000000 in
theorem eql_way (a b : Wy) (w : World) : (Go.binOp .eql 26 (.agg a.v) (.agg b.v)).run Try.prog w = Result.ok (.bool (a.eqB b)) w := by
  obtain ⟨f, pr, ⟨sf, sh, sl⟩, ⟨df, dh, dl⟩, sp, dp⟩ := a
  obtain ⟨f', pr', ⟨sf', sh', sl'⟩, ⟨df', dh', dl'⟩, sp', dp'⟩ := b
  unfold Wy.eqB
  simp only
  by_cases h1 : f = f'
  case neg => simp [go_sem, h1]
  subst h1
  by_cases h2 : pr = pr'
  case neg => simp [go_sem, h2]
  subst h2
  by_cases h3 : sf = sf'
  case neg => simp [go_sem, h3]
  subst h3
  by_cases h4 : sh = sh'
  case neg => simp [go_sem, h4]
  subst h4
  by_cases h5 : sl = sl'
  case neg => simp [go_sem, h5]
  subst h5
  by_cases h6 : df = df'
  case neg => simp [go_sem, h6]
  subst h6
  by_cases h7 : dh = dh'
  case neg => simp [go_sem, h7]
  subst h7
  by_cases h8 : dl = dl'
  case neg => simp [go_sem, h8]
  subst h8
  by_cases h9 : sp = sp'
  case neg => simp [go_sem, h9]
  subst h9
  by_cases h : dp = dp' <;> simp [go_sem, h]
/-- A flow. -/
structure Fl where
  w : Wy
  c : Cn
  ends : Int
  help : Int
  both : Bool
abbrev Fl.v (f : Fl) : Array Value := #[.int .i64 f.w.fam, .int .i64 f.w.pr, .int .i64 f.w.s.fam, .int .u64 f.w.s.hi, .int .u64 f.w.s.lo, .int .i64 f.w.d.fam, .int .u64 f.w.d.hi, .int .u64 f.w.d.lo, .int .i64 f.w.sp, .int .i64 f.w.dp, .int .i64 f.c.st, .int .u32 f.c.n0, .int .u32 f.c.n1, .int .u32 f.c.e0, .int .u32 f.c.e1, .bool f.c.k0, .bool f.c.k1, .bool f.c.d0, .bool f.c.d1, .int .i64 f.ends, .int .i64 f.help, .bool f.both]
/-- A segment. -/
structure Sm where
  w : Wy
  fl : Int
  sq : Int
  ak : Int
  win : Int
  ty : Int
  co : Int
  er : Bool
  inn : Wy
  da : Option Addr
  dn : Nat
  dc : Nat
abbrev Sm.v (s : Sm) : Array Value := #[.int .i64 s.w.fam, .int .i64 s.w.pr, .int .i64 s.w.s.fam, .int .u64 s.w.s.hi, .int .u64 s.w.s.lo, .int .i64 s.w.d.fam, .int .u64 s.w.d.hi, .int .u64 s.w.d.lo, .int .i64 s.w.sp, .int .i64 s.w.dp, .int .i64 s.fl, .int .u32 s.sq, .int .u32 s.ak, .int .i64 s.win, .int .i64 s.ty, .int .i64 s.co, .bool s.er, .int .i64 s.inn.fam, .int .i64 s.inn.pr, .int .i64 s.inn.s.fam, .int .u64 s.inn.s.hi, .int .u64 s.inn.s.lo, .int .i64 s.inn.d.fam, .int .u64 s.inn.d.hi, .int .u64 s.inn.d.lo, .int .i64 s.inn.sp, .int .i64 s.inn.dp, .slice s.da s.dn s.dc]
abbrev wy0 : Wy := ⟨0, 0, ⟨0, 0, 0⟩, ⟨0, 0, 0⟩, 0, 0⟩
def fl0 : Fl := ⟨wy0, cn0, 0, 0, false⟩
/-- What of a segment the stream asks for. -/
def Sm.g (s : Sm) : Gt := ⟨s.fl, s.win, s.dn, s.sq, s.ak⟩
def nowB (n : Int) : Bool := decide (0 ≤ n) && decide (n ≤ 4611686018427384304)
def hlpB (h : Int) : Bool := decide (0 ≤ h) && decide (h ≤ 3)
def endB (n : Int) : Bool := decide (0 ≤ n) && decide (n ≤ 4611686018427387904)
def Cn.zB (c : Cn) : Bool := c.st == 0 && ((c.n0 == 0 && c.n1 == 0) && ((c.e0 == 0 && c.e1 == 0) && ((c.k0 == false && c.k1 == false) && (c.d0 == false && c.d1 == false))))
def Fl.cnB (f : Fl) : Bool := if f.w.pr == 6 then f.c.right else f.c.zB
def Fl.right (f : Fl) : Bool := f.w.right && (endB f.ends && (hlpB f.help && f.cnB))
def Fl.life (f : Fl) : Int := if f.w.pr == 6 then f.c.life else if f.w.pr == 17 then (if f.both then 180 else 30) else 10
/-- The time of a flow behind a packet that came now. -/
def Fl.keep (f : Fl) (now : Int) : Fl := { f with ends := now + f.life }
/-- The type of an echo of a side. -/
def ecT (pr : Int) (side : Bool) : Int := if pr == 58 then (if side then 129 else 128) else (if side then 0 else 8)
def Sm.ec (s : Sm) (side : Bool) : Bool := s.ty == ecT s.w.pr side && s.co == 0
def Sm.beg (s : Sm) : Cn × Int := if s.w.pr == 6 then Go.Proofs.Ytfiembbmgdmagaa.beg s.fl s.sq s.win s.dn else if s.w.pr == 17 || s.ec false then (cn0, 0) else (cn0, 23)
def startF (s : Sm) (now help : Int) : Fl × Int :=
  if s.w.right && (nowB now && hlpB help) then (if s.beg.2 == 0 then (Fl.keep ⟨s.w, s.beg.1, 0, help, false⟩ now, 0) else (fl0, s.beg.2)) else (fl0, 1)
def Fl.way (f : Fl) (side : Bool) : Wy := if side then f.w.rev else f.w
def Sm.stp (s : Sm) (c : Cn) (side : Bool) : Cn × Int := if s.w.pr == 6 then c.step (if side then 1 else 0) s.g else if s.w.pr == 17 || s.ec side then (c, 0) else (cn0, 23)
def Fl.goS (f : Fl) (side : Bool) (s : Sm) (now : Int) : Fl × Int :=
  if f.right && nowB now then
    (if s.w.eqB (f.way side) then (if (s.stp f.c side).2 == 0 then (Fl.keep ⟨f.w, (s.stp f.c side).1, f.ends, f.help, f.both || side⟩ now, 0) else (fl0, (s.stp f.c side).2)) else (fl0, 23))
  else (fl0, 1)
def Fl.go (f : Fl) (side : Int) (s : Sm) (now : Int) : Fl × Int := if side == 0 then f.goS false s now else if side == 1 then f.goS true s now else (fl0, 1)
theorem life_bd (f : Fl) (h : f.cnB = true) : 1 ≤ f.life ∧ f.life ≤ 3600 := by
  unfold Fl.cnB at h
  unfold Fl.life Cn.life
  cases h6 : (f.w.pr == 6)
  · simp only [Bool.false_eq_true, if_false]
    (repeat' split) <;> omega
  · rw [h6] at h
    simp only [if_true] at h
    rw [h]
    simp only [if_true]
    (repeat' split) <;> omega
theorem beg_right {fl sq win sz : Int} (h : (beg fl sq win sz).2 = 0) : (beg fl sq win sz).1.right = true := by
  unfold beg at h ⊢
  split
  · split
    · rfl
    · rename_i h1 h2; rw [if_pos h1, if_neg h2] at h; simp at h
  · rename_i h1; rw [if_neg h1] at h; simp at h
/-- All numbers of a way lie in their kinds. -/
structure Wy.kf (t : Wy) : Prop where
  ok : t.ok
  fam : -9223372036854775808 ≤ t.fam ∧ t.fam ≤ 9223372036854775807
  pr : -9223372036854775808 ≤ t.pr ∧ t.pr ≤ 9223372036854775807
  sp : -9223372036854775808 ≤ t.sp ∧ t.sp ≤ 9223372036854775807
  dp : -9223372036854775808 ≤ t.dp ∧ t.dp ≤ 9223372036854775807
theorem Wy.kf_rev {t : Wy} (h : t.kf) : t.rev.kf := ⟨Wy.ok_rev h.ok, h.fam, h.pr, h.dp, h.sp⟩
theorem eqB_false {a b : Wy} : a.eqB b = false ↔ a ≠ b := by
  rw [← Bool.not_eq_true, Wy.eqB_iff]
theorem rev_iff {a b : Wy} : a.rev = b ↔ a = b.rev := ⟨fun h => by rw [← h, Wy.rev_rev], fun h => by rw [h, Wy.rev_rev]⟩
structure Ft where
  most : Int
  now : Int
  L : List Fl
def atF (w : Wy) (L : List Fl) : Option Fl := L.find? fun f => f.w.eqB w
def Ft.find (s : Ft) (w : Wy) : Fl × Int × Bool :=
  match atF w s.L with
  | some f => (f, 0, true)
  | none => match atF w.rev s.L with
    | some f => (f, 1, true)
    | none => (fl0, 0, false)
def insF (f : Fl) : List Fl → List Fl
  | [] => [f]
  | g :: r => if g.w.order f.w < 0 then g :: insF f r else f :: g :: r
def setF (f : Fl) (L : List Fl) : List Fl := L.map fun g => if g.w.eqB f.w then f else g
def delF (w : Wy) (L : List Fl) : List Fl := L.filter fun g => !g.w.eqB w
def keepF (now : Int) (L : List Fl) : List Fl := L.filter fun f => decide (now < f.ends)
def Ft.put (s : Ft) (f : Fl) : Ft × Int :=
  if !(f.right && decide (s.now < f.ends)) then (s, 1)
  else if (atF f.w s.L).isSome then ({ s with L := setF f s.L }, 0)
  else if (atF f.w.rev s.L).isSome then (s, 15)
  else if s.most ≤ s.L.length then (s, 12)
  else ({ s with L := insF f s.L }, 0)
def Ft.drop (s : Ft) (w : Wy) : Ft × Bool :=
  if (atF w s.L).isSome then ({ s with L := delF w s.L }, true)
  else if (atF w.rev s.L).isSome then ({ s with L := delF w.rev s.L }, true)
  else (s, false)
def Ft.tick (s : Ft) (now : Int) : Ft × Int :=
  if now < s.now ∨ now > 4611686018427387904 then (s, 25) else ({ s with now := now, L := keepF now s.L }, 0)
abbrev SortF (L : List Fl) : Prop := L.Pairwise fun f g => f.w.order g.w < 0
structure FtOk (s : Ft) : Prop where
  most : 0 ≤ s.most ∧ s.most ≤ 256
  now : 0 ≤ s.now ∧ s.now ≤ 4611686018427387904
  few : (s.L.length : Int) ≤ s.most
  sorted : SortF s.L
  each : ∀ f ∈ s.L, f.right = true ∧ s.now < f.ends ∧ f.w.kf
  apart : ∀ f ∈ s.L, ∀ g ∈ s.L, g.w = f.w.rev → f = g

/-! What is found. -/
theorem atF_some {w : Wy} {L : List Fl} {f : Fl} (h : atF w L = some f) : f ∈ L ∧ f.w = w :=
  ⟨List.mem_of_find?_eq_some h, by
    have h2 := List.find?_some (p := fun f : Fl => f.w.eqB w) h
    exact (Wy.eqB_iff _ _).1 h2⟩
theorem atF_none {w : Wy} {L : List Fl} : atF w L = none ↔ ∀ f ∈ L, f.w ≠ w := by
  unfold atF
  rw [List.find?_eq_none]
  exact ⟨fun h f hf e => h f hf ((Wy.eqB_iff _ _).2 e), fun h f hf e => h f hf ((Wy.eqB_iff _ _).1 e)⟩
theorem order_self (a : Wy) : a.order a = 0 := Wy.order_zero.2 rfl
theorem order_lt_ne {a b : Wy} (h : a.order b < 0) : a ≠ b := fun e => by rw [e, order_self] at h; omega
theorem order_lt_tr {a b c : Wy} (h : a.order b < 0) (h' : b.order c < 0) : a.order c < 0 := by
  have h1 := Wy.order_tr (a := a) (b := b) (c := c) (by omega) (by omega)
  rcases Int.lt_or_eq_of_le h1 with h2 | h2
  · exact h2
  · have e := Wy.order_zero.1 h2
    subst e
    have := Wy.order_neg a b
    omega
theorem order_gt {a b : Wy} (h : ¬ a.order b < 0) (hn : a ≠ b) : b.order a < 0 := by
  have h1 := Wy.order_neg a b
  have h2 : a.order b ≠ 0 := fun e => hn (Wy.order_zero.1 e)
  omega
theorem sort_uniq {L : List Fl} (h : SortF L) {f g : Fl} (hf : f ∈ L) (hg : g ∈ L) (e : f.w = g.w) : f = g := by
  induction L with
  | nil => cases hf
  | cons a r ih =>
    obtain ⟨h1, h2⟩ := List.pairwise_cons.1 h
    rcases List.mem_cons.1 hf with ea | hf'
    · rcases List.mem_cons.1 hg with eb | hg'
      · rw [ea, eb]
      · have := h1 g hg'
        rw [← ea, e, order_self] at this
        omega
    · rcases List.mem_cons.1 hg with eb | hg'
      · have := h1 f hf'
        rw [← eb, ← e, order_self] at this
        omega
      · exact ih h2 hf' hg'
theorem atF_mem {w : Wy} {L : List Fl} (h : SortF L) {f : Fl} (hf : f ∈ L) (e : f.w = w) : atF w L = some f := by
  cases ha : atF w L with
  | none => exact absurd e (atF_none.1 ha f hf)
  | some g =>
    obtain ⟨h1, h2⟩ := atF_some ha
    rw [sort_uniq h h1 hf (h2.trans e.symm)]
theorem ins_permF (f : Fl) : ∀ L : List Fl, (insF f L).Perm (f :: L)
  | [] => .refl _
  | g :: r => by
    unfold insF
    split
    · exact ((ins_permF f r).cons g).trans (.swap f g r)
    · exact .refl _
theorem ins_sorted {f : Fl} : ∀ {L : List Fl}, SortF L → (∀ g ∈ L, g.w ≠ f.w) → SortF (insF f L)
  | [], _, _ => by simp [insF]
  | g :: r, h, hn => by
    obtain ⟨h1, h2⟩ := List.pairwise_cons.1 h
    unfold insF
    by_cases hg : g.w.order f.w < 0
    · rw [if_pos hg]
      refine List.pairwise_cons.2 ⟨fun x hx => ?_, ins_sorted h2 (fun y hy => hn y (by simp [hy]))⟩
      rcases List.mem_cons.1 ((ins_permF f r).mem_iff.1 hx) with rfl | hx
      · exact hg
      · exact h1 x hx
    · rw [if_neg hg]
      have hfg := order_gt hg (hn g (by simp))
      refine List.pairwise_cons.2 ⟨fun x hx => ?_, h⟩
      rcases List.mem_cons.1 hx with rfl | hx
      · exact hfg
      · exact order_lt_tr hfg (h1 x hx)
theorem set_way (f : Fl) (L : List Fl) : (setF f L).map (·.w) = L.map (·.w) := by
  unfold setF
  rw [List.map_map]
  refine List.map_congr_left fun g _ => ?_
  simp only [Function.comp]
  split
  · rename_i h; exact ((Wy.eqB_iff _ _).1 h).symm
  · rfl
theorem sort_map {L M : List Fl} (h : L.map (·.w) = M.map (·.w)) (hs : SortF L) : SortF M := by
  have h1 : (L.map (·.w)).Pairwise fun a b => a.order b < 0 := List.pairwise_map.2 hs
  rw [h] at h1
  exact List.pairwise_map.1 h1
theorem set_mem {f : Fl} {L : List Fl} {x : Fl} (h : x ∈ setF f L) : x = f ∨ (x ∈ L ∧ x.w ≠ f.w) := by
  unfold setF at h
  obtain ⟨g, hg, e⟩ := List.mem_map.1 h
  by_cases hw : g.w.eqB f.w = true
  · rw [if_pos hw] at e; exact .inl e.symm
  · rw [if_neg hw] at e
    rw [← e]
    exact .inr ⟨hg, fun hx => hw ((Wy.eqB_iff _ _).2 hx)⟩
theorem set_len (f : Fl) (L : List Fl) : (setF f L).length = L.length := by simp [setF]
theorem set_perm {f : Fl} : ∀ {L : List Fl}, SortF L → (atF f.w L).isSome = true → (setF f L).Perm (f :: delF f.w L)
  | [], _, h => by simp [atF] at h
  | g :: r, hs, h => by
    obtain ⟨h1, h2⟩ := List.pairwise_cons.1 hs
    by_cases hw : g.w.eqB f.w = true
    · have e := (Wy.eqB_iff _ _).1 hw
      have hr : ∀ x ∈ r, x.w.eqB f.w = false := fun x hx => eqB_false.2 (fun ex => by have := h1 x hx; rw [e, ex, order_self] at this; omega)
      have e1 : setF f (g :: r) = f :: r := by
        unfold setF
        rw [List.map_cons, if_pos hw]
        congr 1
        rw [List.map_congr_left (g := id) (fun x hx => by simp [hr x hx])]
        simp
      have e2 : delF f.w (g :: r) = r := by
        unfold delF
        rw [List.filter_cons, if_neg (by simp [hw])]
        exact List.filter_eq_self.2 (fun x hx => by simp [hr x hx])
      rw [e1, e2]
    · have hwf : g.w.eqB f.w = false := by simpa using hw
      have h' : (atF f.w r).isSome = true := by
        unfold atF at h ⊢
        rw [List.find?_cons, hwf] at h
        exact h
      have ih := set_perm h2 h'
      have e1 : setF f (g :: r) = g :: setF f r := by
        unfold setF
        rw [List.map_cons, if_neg hw]
      have e2 : delF f.w (g :: r) = g :: delF f.w r := by
        unfold delF
        rw [List.filter_cons, if_pos (by simp [hwf])]
      rw [e1, e2]
      exact (ih.cons g).trans (.swap f g _)
theorem new_ok {m : Int} (h : 0 ≤ m ∧ m ≤ 256) : FtOk ⟨m, 0, []⟩ := ⟨h, ⟨Int.le_refl 0, by show (0 : Int) ≤ 4611686018427387904; decide⟩, by simpa using h.1, by simp, by simp, by simp⟩
theorem Ft.put_ok {s : Ft} (h : FtOk s) {f : Fl} (hk : f.w.kf) : FtOk (s.put f).1 := by
  unfold Ft.put
  by_cases h1 : (!(f.right && decide (s.now < f.ends))) = true
  · rw [if_pos h1]; exact h
  rw [if_neg h1]
  have hr : f.right = true ∧ s.now < f.ends := by
    simp only [Bool.not_eq_true', Bool.not_eq_false, Bool.and_eq_true, decide_eq_true_eq] at h1; exact h1
  by_cases h2 : (atF f.w s.L).isSome = true
  · rw [if_pos h2]
    have hm : ∀ x ∈ setF f s.L, x = f ∨ x ∈ s.L := fun x hx => (set_mem hx).imp id And.left
    obtain ⟨g, hg⟩ := Option.isSome_iff_exists.1 h2
    obtain ⟨gm, gw⟩ := atF_some hg
    have hso : SortF (setF f s.L) := sort_map (set_way f s.L).symm h.sorted
    refine ⟨h.most, h.now, by show ((setF f s.L).length : Int) ≤ _; rw [set_len]; exact h.few, hso, fun x hx => ?_, fun x hx y hy e => ?_⟩
    · rcases hm x hx with rfl | hx
      · exact ⟨hr.1, hr.2, hk⟩
      · exact h.each x hx
    · rcases set_mem hx with rfl | ⟨hx', hxw⟩
      · rcases set_mem hy with rfl | ⟨hy', hyw⟩
        · rfl
        · have := h.apart g gm y hy' (by rw [e, gw])
          exact absurd (this ▸ gw) hyw
      · rcases set_mem hy with rfl | ⟨hy', hyw⟩
        · have := h.apart x hx' g gm (by rw [gw, e])
          exact absurd (this ▸ gw) hxw
        · exact h.apart x hx' y hy' e
  rw [if_neg h2]
  by_cases h3 : (atF f.w.rev s.L).isSome = true
  · rw [if_pos h3]; exact h
  rw [if_neg h3]
  by_cases h4 : s.most ≤ s.L.length
  · rw [if_pos h4]; exact h
  rw [if_neg h4]
  have n2 : ∀ g ∈ s.L, g.w ≠ f.w := atF_none.1 (by simpa using h2)
  have n3 : ∀ g ∈ s.L, g.w ≠ f.w.rev := atF_none.1 (by simpa using h3)
  have hp := ins_permF f s.L
  refine ⟨h.most, h.now, ?_, ins_sorted h.sorted n2, fun x hx => ?_, fun x hx y hy e => ?_⟩
  · show ((insF f s.L).length : Int) ≤ _
    rw [hp.length_eq, List.length_cons]
    simp only
    omega
  · rcases List.mem_cons.1 (hp.mem_iff.1 hx) with rfl | hx
    · exact ⟨hr.1, hr.2, hk⟩
    · exact h.each x hx
  · rcases List.mem_cons.1 (hp.mem_iff.1 hx) with ex | hx2
    · rcases List.mem_cons.1 (hp.mem_iff.1 hy) with ey | hy2
      · rw [ex, ey]
      · exact absurd (by rw [e, ex]) (n3 y hy2)
    · rcases List.mem_cons.1 (hp.mem_iff.1 hy) with ey | hy2
      · exact absurd (by rw [ey] at e; exact rev_iff.1 e.symm) (n3 x hx2)
      · exact h.apart x hx2 y hy2 e
theorem FtOk.filter {s : Ft} (h : FtOk s) (p : Fl → Bool) (now : Int) (hn : 0 ≤ now ∧ now ≤ 4611686018427387904) (hp : ∀ f ∈ s.L, p f = true → now < f.ends) : FtOk ⟨s.most, now, s.L.filter p⟩ :=
  ⟨h.most, hn, Int.le_trans (by show ((s.L.filter p).length : Int) ≤ s.L.length; exact Int.ofNat_le.2 (List.length_filter_le _ _)) h.few, h.sorted.filter _, fun f hf => by
    obtain ⟨h1, h2⟩ := List.mem_filter.1 hf
    exact ⟨(h.each f h1).1, hp f h1 h2, (h.each f h1).2.2⟩, fun x hx y hy e => h.apart x (List.mem_filter.1 hx).1 y (List.mem_filter.1 hy).1 e⟩
end Go.Proofs.Ytfiembbmgdmagaa
namespace Go.Proofs.Ytfiembbmgdmagaa
open Go.ChangeShapes Go.WideShapes Go.ChangeAt Go.RowKit Go.Joins
set_option linter.unusedVariables false
set_option linter.constructorNameAsVariable false
set_option maxRecDepth 100000
theorem ad_ok {f h l : Int} (w0 : (Lit.int .i64 f).wf = true) (w1 : (Lit.int .u64 h).wf = true) (w2 : (Lit.int .u64 l).wf = true) : Ad.ok ⟨f, h, l⟩ := by
  refine ⟨?_, ?_, ?_⟩
  · simpa [Lit.wf, IntKind.min, IntKind.max, IntKind.signed, IntKind.bits] using w0
  · simpa [Lit.wf, IntKind.min, IntKind.max, IntKind.signed, IntKind.bits] using w1
  · simpa [Lit.wf, IntKind.min, IntKind.max, IntKind.signed, IntKind.bits] using w2
theorem list3 {cs : List Value} (h : cs.length = 3) : ∃ a b c, cs = [a, b, c] := by
  match cs, h with
  | [a, b, c], _ => exact ⟨a, b, c, rfl⟩
theorem addr_cells {H : Type} {enc : TypeId × Value → H} {W : World} {n : Nat} {cs : List Value} {y : DataW H × List MemPlace}
    (h : DataW.trod enc Try.prog W 0 (fun _ => true) true n 24 cs = some y) : ∃ f h l, cs = [.int .i64 f, .int .u64 h, .int .u64 l] ∧ Ad.ok ⟨f, h, l⟩ := by
  obtain ⟨y0, y1, y2, k, _, hl, h0, h1, h2⟩ := Go.Deep.trod_struct3 Try.underlying24 h
  have c24 : Try.prog.cellsOf 24 = 3 := by kernel_rfl
  have c3 : Try.prog.cellsOf 3 = 1 := by kernel_rfl
  have c22 : Try.prog.cellsOf 22 = 1 := by kernel_rfl
  rw [c24] at hl
  obtain ⟨v0, v1, v2, rfl⟩ := list3 hl
  simp only [c3, c22] at h0 h1 h2
  obtain ⟨f, e0, _, w0⟩ := DataW.trod_int Try.underlying3 h0
  obtain ⟨h, e1, _, w1⟩ := DataW.trod_int Try.underlying22 h1
  obtain ⟨l, e2, _, w2⟩ := DataW.trod_int Try.underlying22 h2
  simp only [List.drop_zero, List.drop_succ_cons, List.take_succ_cons, List.take_zero, List.cons.injEq, and_true] at e0 e1 e2
  subst e0 e1 e2
  exact ⟨_, _, _, rfl, ad_ok w0 w1 w2⟩
end Go.Proofs.Ytfiembbmgdmagaa
namespace Go.Proofs.Ytfiembbmgdmagaa
open Go.RowKit Go.ChangeShapes Go.WideShapes Go.ChangeAt
set_option linter.unusedVariables false
set_option linter.unusedSimpArgs false
set_option linter.constructorNameAsVariable false
/-- All numbers of a flow lie in their kinds. -/
structure Fl.kf (f : Fl) : Prop where
  w : f.w.kf
  ends : -9223372036854775808 ≤ f.ends ∧ f.ends ≤ 9223372036854775807
structure Ac where
  kd : Int
  nw : Int
  f : Fl
abbrev Ac.v (q : Ac) : Array Value := #[.int .i64 q.kd, .int .i64 q.nw, .int .i64 q.f.w.fam, .int .i64 q.f.w.pr, .int .i64 q.f.w.s.fam, .int .u64 q.f.w.s.hi, .int .u64 q.f.w.s.lo, .int .i64 q.f.w.d.fam, .int .u64 q.f.w.d.hi, .int .u64 q.f.w.d.lo, .int .i64 q.f.w.sp, .int .i64 q.f.w.dp, .int .i64 q.f.c.st, .int .u32 q.f.c.n0, .int .u32 q.f.c.n1, .int .u32 q.f.c.e0, .int .u32 q.f.c.e1, .bool q.f.c.k0, .bool q.f.c.k1, .bool q.f.c.d0, .bool q.f.c.d1, .int .i64 q.f.ends, .int .i64 q.f.help, .bool q.f.both]
structure Ac.ok (q : Ac) : Prop where
  kd : -9223372036854775808 ≤ q.kd ∧ q.kd ≤ 9223372036854775807
  nw : -9223372036854775808 ≤ q.nw ∧ q.nw ≤ 9223372036854775807
  f : q.f.kf
theorem ls_wayK {cs : List Value} (h : cs.length = 10) : ∃ v0 v1 v2 v3 v4 v5 v6 v7 v8 v9, cs = [v0, v1, v2, v3, v4, v5, v6, v7, v8, v9] := by
  match cs, h with
  | [v0, v1, v2, v3, v4, v5, v6, v7, v8, v9], _ => exact ⟨v0, v1, v2, v3, v4, v5, v6, v7, v8, v9, rfl⟩
theorem ly_wayK {α : Type} {cs : List α} (h : cs.length = 6) : ∃ y0 y1 y2 y3 y4 y5, cs = [y0, y1, y2, y3, y4, y5] := by
  match cs, h with
  | [y0, y1, y2, y3, y4, y5], _ => exact ⟨y0, y1, y2, y3, y4, y5, rfl⟩
set_option maxRecDepth 100000 in
set_option maxHeartbeats 4000000 in
theorem wayK_cells {H : Type} {enc : TypeId × Value → H} {W : World} {fuel : Nat} {cs : List Value} {y : DataW H × List MemPlace} (hf0 : DataW.trod enc Try.prog W 0 (fun _ => true) true fuel 26 cs = some y) :
    ∃ q : Wy, cs = q.v.toList ∧ q.kf := by
  have cc : Try.prog.cellsOf 26 = 10 := by kernel_rfl
  have c_0 : Try.prog.cellsOf 3 = 1 := by kernel_rfl
  have c_1 : Try.prog.cellsOf 24 = 3 := by kernel_rfl
  obtain ⟨xs, n, _, hx, hl, hlen, hf⟩ := DataW.trod_struct Try.underlying26 hf0
  obtain ⟨v0, v1, v2, v3, v4, v5, v6, v7, v8, v9, rfl⟩ := ls_wayK (hl.trans cc)
  obtain ⟨y0, y1, y2, y3, y4, y5, rfl⟩ := ly_wayK hlen
  have h0 : DataW.trod enc Try.prog W 0 (fun _ => true) true n 3 ((([v0, v1, v2, v3, v4, v5, v6, v7, v8, v9] : List Value).drop 0).take (Try.prog.cellsOf 3)) = some y0 := hf 0 _ rfl
  have h1 : DataW.trod enc Try.prog W 0 (fun _ => true) true n 3 ((([v0, v1, v2, v3, v4, v5, v6, v7, v8, v9] : List Value).drop 1).take (Try.prog.cellsOf 3)) = some y1 := hf 1 _ rfl
  have h2 : DataW.trod enc Try.prog W 0 (fun _ => true) true n 24 ((([v0, v1, v2, v3, v4, v5, v6, v7, v8, v9] : List Value).drop 2).take (Try.prog.cellsOf 24)) = some y2 := hf 2 _ rfl
  have h3 : DataW.trod enc Try.prog W 0 (fun _ => true) true n 24 ((([v0, v1, v2, v3, v4, v5, v6, v7, v8, v9] : List Value).drop 5).take (Try.prog.cellsOf 24)) = some y3 := hf 3 _ rfl
  have h4 : DataW.trod enc Try.prog W 0 (fun _ => true) true n 3 ((([v0, v1, v2, v3, v4, v5, v6, v7, v8, v9] : List Value).drop 8).take (Try.prog.cellsOf 3)) = some y4 := hf 4 _ rfl
  have h5 : DataW.trod enc Try.prog W 0 (fun _ => true) true n 3 ((([v0, v1, v2, v3, v4, v5, v6, v7, v8, v9] : List Value).drop 9).take (Try.prog.cellsOf 3)) = some y5 := hf 5 _ rfl
  simp only [c_0, c_1, List.drop_zero, List.drop_succ_cons, List.take_succ_cons, List.take_zero] at h0 h1 h2 h3 h4 h5
  obtain ⟨a0, e0, _, w0⟩ := DataW.trod_int Try.underlying3 h0
  obtain rfl := one_tc e0
  obtain ⟨a1, e1, _, w1⟩ := DataW.trod_int Try.underlying3 h1
  obtain rfl := one_tc e1
  obtain ⟨f2, g2, l2, e2, k2⟩ := addr_cells h2
  simp only [List.cons.injEq, and_true] at e2
  obtain ⟨rfl, rfl, rfl⟩ := e2
  obtain ⟨f3, g3, l3, e3, k3⟩ := addr_cells h3
  simp only [List.cons.injEq, and_true] at e3
  obtain ⟨rfl, rfl, rfl⟩ := e3
  obtain ⟨a4, e4, _, w4⟩ := DataW.trod_int Try.underlying3 h4
  obtain rfl := one_tc e4
  obtain ⟨a5, e5, _, w5⟩ := DataW.trod_int Try.underlying3 h5
  obtain rfl := one_tc e5
  exact ⟨⟨a0, a1, ⟨f2, g2, l2⟩, ⟨f3, g3, l3⟩, a4, a5⟩, rfl, ⟨⟨k2, k3⟩, i64_tc w0, i64_tc w1, i64_tc w4, i64_tc w5⟩⟩
theorem ls_flow {cs : List Value} (h : cs.length = 22) : ∃ v0 v1 v2 v3 v4 v5 v6 v7 v8 v9 v10 v11 v12 v13 v14 v15 v16 v17 v18 v19 v20 v21, cs = [v0, v1, v2, v3, v4, v5, v6, v7, v8, v9, v10, v11, v12, v13, v14, v15, v16, v17, v18, v19, v20, v21] := by
  match cs, h with
  | [v0, v1, v2, v3, v4, v5, v6, v7, v8, v9, v10, v11, v12, v13, v14, v15, v16, v17, v18, v19, v20, v21], _ => exact ⟨v0, v1, v2, v3, v4, v5, v6, v7, v8, v9, v10, v11, v12, v13, v14, v15, v16, v17, v18, v19, v20, v21, rfl⟩
theorem ly_flow {α : Type} {cs : List α} (h : cs.length = 5) : ∃ y0 y1 y2 y3 y4, cs = [y0, y1, y2, y3, y4] := by
  match cs, h with
  | [y0, y1, y2, y3, y4], _ => exact ⟨y0, y1, y2, y3, y4, rfl⟩
set_option maxRecDepth 100000 in
set_option maxHeartbeats 4000000 in
theorem flow_cells {H : Type} {enc : TypeId × Value → H} {W : World} {fuel : Nat} {cs : List Value} {y : DataW H × List MemPlace} (hf0 : DataW.trod enc Try.prog W 0 (fun _ => true) true fuel 33 cs = some y) :
    ∃ q : Fl, cs = q.v.toList ∧ q.kf := by
  have cc : Try.prog.cellsOf 33 = 22 := by kernel_rfl
  have c_0 : Try.prog.cellsOf 26 = 10 := by kernel_rfl
  have c_1 : Try.prog.cellsOf 31 = 9 := by kernel_rfl
  have c_2 : Try.prog.cellsOf 3 = 1 := by kernel_rfl
  have c_3 : Try.prog.cellsOf 4 = 1 := by kernel_rfl
  obtain ⟨xs, n, _, hx, hl, hlen, hf⟩ := DataW.trod_struct Try.underlying33 hf0
  obtain ⟨v0, v1, v2, v3, v4, v5, v6, v7, v8, v9, v10, v11, v12, v13, v14, v15, v16, v17, v18, v19, v20, v21, rfl⟩ := ls_flow (hl.trans cc)
  obtain ⟨y0, y1, y2, y3, y4, rfl⟩ := ly_flow hlen
  have h0 : DataW.trod enc Try.prog W 0 (fun _ => true) true n 26 ((([v0, v1, v2, v3, v4, v5, v6, v7, v8, v9, v10, v11, v12, v13, v14, v15, v16, v17, v18, v19, v20, v21] : List Value).drop 0).take (Try.prog.cellsOf 26)) = some y0 := hf 0 _ rfl
  have h1 : DataW.trod enc Try.prog W 0 (fun _ => true) true n 31 ((([v0, v1, v2, v3, v4, v5, v6, v7, v8, v9, v10, v11, v12, v13, v14, v15, v16, v17, v18, v19, v20, v21] : List Value).drop 10).take (Try.prog.cellsOf 31)) = some y1 := hf 1 _ rfl
  have h2 : DataW.trod enc Try.prog W 0 (fun _ => true) true n 3 ((([v0, v1, v2, v3, v4, v5, v6, v7, v8, v9, v10, v11, v12, v13, v14, v15, v16, v17, v18, v19, v20, v21] : List Value).drop 19).take (Try.prog.cellsOf 3)) = some y2 := hf 2 _ rfl
  have h3 : DataW.trod enc Try.prog W 0 (fun _ => true) true n 3 ((([v0, v1, v2, v3, v4, v5, v6, v7, v8, v9, v10, v11, v12, v13, v14, v15, v16, v17, v18, v19, v20, v21] : List Value).drop 20).take (Try.prog.cellsOf 3)) = some y3 := hf 3 _ rfl
  have h4 : DataW.trod enc Try.prog W 0 (fun _ => true) true n 4 ((([v0, v1, v2, v3, v4, v5, v6, v7, v8, v9, v10, v11, v12, v13, v14, v15, v16, v17, v18, v19, v20, v21] : List Value).drop 21).take (Try.prog.cellsOf 4)) = some y4 := hf 4 _ rfl
  simp only [c_0, c_1, c_2, c_3, List.drop_zero, List.drop_succ_cons, List.take_succ_cons, List.take_zero] at h0 h1 h2 h3 h4
  obtain ⟨q0, e0, k0⟩ := wayK_cells h0
  simp only [List.cons.injEq, and_true] at e0
  obtain ⟨rfl, rfl, rfl, rfl, rfl, rfl, rfl, rfl, rfl, rfl⟩ := e0
  obtain ⟨q1, e1, k1⟩ := conn_cells h1
  simp only [List.cons.injEq, and_true] at e1
  obtain ⟨rfl, rfl, rfl, rfl, rfl, rfl, rfl, rfl, rfl⟩ := e1
  obtain ⟨a2, e2, _, w2⟩ := DataW.trod_int Try.underlying3 h2
  obtain rfl := one_tc e2
  obtain ⟨a3, e3, _, w3⟩ := DataW.trod_int Try.underlying3 h3
  obtain rfl := one_tc e3
  obtain ⟨a4, e4, _⟩ := DataW.trod_bool Try.underlying4 h4
  obtain rfl := one_tc e4
  exact ⟨⟨q0, q1, a2, a3, a4⟩, rfl, ⟨k0, i64_tc w2⟩⟩
theorem ls_act16 {cs : List Value} (h : cs.length = 24) : ∃ v0 v1 v2 v3 v4 v5 v6 v7 v8 v9 v10 v11 v12 v13 v14 v15 v16 v17 v18 v19 v20 v21 v22 v23, cs = [v0, v1, v2, v3, v4, v5, v6, v7, v8, v9, v10, v11, v12, v13, v14, v15, v16, v17, v18, v19, v20, v21, v22, v23] := by
  match cs, h with
  | [v0, v1, v2, v3, v4, v5, v6, v7, v8, v9, v10, v11, v12, v13, v14, v15, v16, v17, v18, v19, v20, v21, v22, v23], _ => exact ⟨v0, v1, v2, v3, v4, v5, v6, v7, v8, v9, v10, v11, v12, v13, v14, v15, v16, v17, v18, v19, v20, v21, v22, v23, rfl⟩
theorem ly_act16 {α : Type} {cs : List α} (h : cs.length = 3) : ∃ y0 y1 y2, cs = [y0, y1, y2] := by
  match cs, h with
  | [y0, y1, y2], _ => exact ⟨y0, y1, y2, rfl⟩
set_option maxRecDepth 100000 in
set_option maxHeartbeats 4000000 in
theorem act16_cells {H : Type} {enc : TypeId × Value → H} {W : World} {fuel : Nat} {cs : List Value} {y : DataW H × List MemPlace} (hf0 : DataW.trod enc Try.prog W 0 (fun _ => true) true fuel 59 cs = some y) :
    ∃ q : Ac, cs = q.v.toList ∧ q.ok := by
  have cc : Try.prog.cellsOf 59 = 24 := by kernel_rfl
  have c_0 : Try.prog.cellsOf 3 = 1 := by kernel_rfl
  have c_1 : Try.prog.cellsOf 33 = 22 := by kernel_rfl
  obtain ⟨xs, n, _, hx, hl, hlen, hf⟩ := DataW.trod_struct Try.underlying59 hf0
  obtain ⟨v0, v1, v2, v3, v4, v5, v6, v7, v8, v9, v10, v11, v12, v13, v14, v15, v16, v17, v18, v19, v20, v21, v22, v23, rfl⟩ := ls_act16 (hl.trans cc)
  obtain ⟨y0, y1, y2, rfl⟩ := ly_act16 hlen
  have h0 : DataW.trod enc Try.prog W 0 (fun _ => true) true n 3 ((([v0, v1, v2, v3, v4, v5, v6, v7, v8, v9, v10, v11, v12, v13, v14, v15, v16, v17, v18, v19, v20, v21, v22, v23] : List Value).drop 0).take (Try.prog.cellsOf 3)) = some y0 := hf 0 _ rfl
  have h1 : DataW.trod enc Try.prog W 0 (fun _ => true) true n 3 ((([v0, v1, v2, v3, v4, v5, v6, v7, v8, v9, v10, v11, v12, v13, v14, v15, v16, v17, v18, v19, v20, v21, v22, v23] : List Value).drop 1).take (Try.prog.cellsOf 3)) = some y1 := hf 1 _ rfl
  have h2 : DataW.trod enc Try.prog W 0 (fun _ => true) true n 33 ((([v0, v1, v2, v3, v4, v5, v6, v7, v8, v9, v10, v11, v12, v13, v14, v15, v16, v17, v18, v19, v20, v21, v22, v23] : List Value).drop 2).take (Try.prog.cellsOf 33)) = some y2 := hf 2 _ rfl
  simp only [c_0, c_1, List.drop_zero, List.drop_succ_cons, List.take_succ_cons, List.take_zero] at h0 h1 h2
  obtain ⟨a0, e0, _, w0⟩ := DataW.trod_int Try.underlying3 h0
  obtain rfl := one_tc e0
  obtain ⟨a1, e1, _, w1⟩ := DataW.trod_int Try.underlying3 h1
  obtain rfl := one_tc e1
  obtain ⟨q2, e2, k2⟩ := flow_cells h2
  simp only [List.cons.injEq, and_true] at e2
  obtain ⟨rfl, rfl, rfl, rfl, rfl, rfl, rfl, rfl, rfl, rfl, rfl, rfl, rfl, rfl, rfl, rfl, rfl, rfl, rfl, rfl, rfl, rfl⟩ := e2
  exact ⟨⟨a0, a1, q2⟩, rfl, ⟨i64_tc w0, i64_tc w1, k2⟩⟩
set_option maxRecDepth 100000 in
set_option maxHeartbeats 1000000 in
theorem open_acts16 {H : Type} {enc : TypeId × Value → H} {W : World} {base : Nat} {v : Value} {d : DataW H} {p : List MemPlace}
    (hv : Value.okWide Try.prog W .any base 49 v) (h : DataW.Trod enc Try.prog W 0 (fun _ => true) true 49 v d p) (hsz : ∀ n ∈ d.weights Try.prog 49, n ≤ reachBytes) :
    ∃ (a : Option Addr) (cap : Nat) (l : List Ac), v = .slice a l.length cap ∧ l.length ≤ cap ∧ (cap * 152 ≤ 140737488351232 ∧ (a = none → cap = 0)) ∧ RowN 24 Ac.v (fun _ q => q.ok) W a l := by
  obtain ⟨a0, len0, cap0, rfl⟩ := okWide_slice Try.underlying49 hv
  obtain ⟨fuel, hf⟩ := h
  rcases Deep.open_slice Try.underlying49 hf with ⟨hcs, _⟩ | ⟨x, l, c, m, n, D, Pl, hcs, _, hl, hm, hmm, hx, hcell⟩
  · simp [Value.cells] at hcs
    obtain ⟨rfl, rfl, rfl⟩ := hcs
    exact ⟨none, 0, [], rfl, Nat.le_refl _, ⟨by omega, fun _ => rfl⟩, by simp, fun i q h => by simp at h⟩
  · simp [Value.cells] at hcs
    obtain ⟨rfl, rfl, rfl⟩ := hcs
    simp only [if_true] at hmm
    subst hmm
    simp only [Prod.mk.injEq] at hx
    obtain ⟨rfl, _⟩ := hx
    have hbe : Program.bytesOf Try.prog 59 = 152 := by kernel_rfl
    have hce : Program.cellsOf Try.prog 59 = 24 := by kernel_rfl
    have hn := hsz ((((List.range len0).map D).length + ((List.range (m - len0)).map fun j => D (len0 + j)).length) * 152) (by simp only [DataW.weights, Try.underlying49, hbe]; exact List.mem_cons_self ..)
    simp only [List.length_map, List.length_range, reachBytes] at hn
    have each : ∀ i, i < len0 → ∃ q : Ac, (fun _ q => q.ok) W q ∧ ∀ j v, q.v[j]? = some v → W.cell? ((x.add (i * 24)).add j) = some v := by
      intro i hi
      obtain ⟨cs', h1, h2⟩ := hcell i (by omega)
      rw [hce] at h1
      obtain ⟨_, hlen, hc⟩ := World.cells?_some h1
      obtain ⟨q, e, hq⟩ := act16_cells h2
      refine ⟨q, hq, fun j v hj => ?_⟩
      have hj' : j < 24 := by
        have := (Array.getElem?_eq_some_iff.1 hj).1
        simpa using this
      have h3 := hc j (by omega)
      rw [h3, e]
      have : q.v.toList[j]? = some v := by simpa using hj
      exact this
    obtain ⟨l, hl1, hl2⟩ := list_of len0 each
    refine ⟨some x, m, l, by rw [hl1], by omega, ⟨by omega, fun h => by cases h⟩, fun q hq => ?_, fun i q hq => ?_⟩
    · obtain ⟨i, hi⟩ := List.mem_iff_getElem?.1 hq
      exact (hl2 i q hi).1
    · obtain ⟨_, c0⟩ := hl2 i q hq
      obtain ⟨b, off, spot⟩ := x
      have hil : i < l.length := (List.getElem?_eq_some_iff.1 hq).1
      obtain ⟨q0, hq0⟩ : ∃ q0, l[0]? = some q0 := ⟨_, List.getElem?_eq_getElem (by omega)⟩
      have hspot : spot = none := by simpa [Addr.add] using World.cell?_spot ((hl2 0 q0 hq0).2 0 _ rfl)
      subst hspot
      refine ⟨b, off, rfl, ?_, fun j v hj => ?_⟩
      · have := c0 0 _ rfl
        rw [Go.WideShapes.add_plain, Go.WideShapes.add_plain] at this
        exact World.block_lt_of_cell? W _ this
      · have := c0 j v hj
        rw [Go.WideShapes.add_plain, Go.WideShapes.add_plain] at this
        exact this
end Go.Proofs.Ytfiembbmgdmagaa
namespace Go.Proofs.Ytfiembbmgdmagaa
open Go.RowKit
set_option linter.unusedVariables false
set_option linter.unusedSimpArgs false
theorem retB_tu {a b : Bool} (h : a = b) : Ending.returned (.bool a) = Ending.returned (.bool b) := by rw [h]
theorem Blk.wy {W : World} {g : Nat} {t : TypeId} {r : Wy} (h : Blk W g t r.v) : W.cell? ⟨g, 0, none⟩ = some (.int .i64 r.fam) ∧ W.cell? ⟨g, 1, none⟩ = some (.int .i64 r.pr) ∧ W.cell? ⟨g, 2, none⟩ = some (.int .i64 r.s.fam) ∧ W.cell? ⟨g, 3, none⟩ = some (.int .u64 r.s.hi) ∧ W.cell? ⟨g, 4, none⟩ = some (.int .u64 r.s.lo) ∧ W.cell? ⟨g, 5, none⟩ = some (.int .i64 r.d.fam) ∧ W.cell? ⟨g, 6, none⟩ = some (.int .u64 r.d.hi) ∧ W.cell? ⟨g, 7, none⟩ = some (.int .u64 r.d.lo) ∧ W.cell? ⟨g, 8, none⟩ = some (.int .i64 r.sp) ∧ W.cell? ⟨g, 9, none⟩ = some (.int .i64 r.dp) :=
  ⟨h.cell 0 _ rfl, h.cell 1 _ rfl, h.cell 2 _ rfl, h.cell 3 _ rfl, h.cell 4 _ rfl, h.cell 5 _ rfl, h.cell 6 _ rfl, h.cell 7 _ rfl, h.cell 8 _ rfl, h.cell 9 _ rfl⟩
set_option maxRecDepth 100000 in
set_option maxHeartbeats 1000000 in
theorem rightSide_t (f p af ah al : Int) (w : World) :
    Calls Try.prog 58 #[.int .i64 f, .agg #[.int .i64 af, .int .u64 ah, .int .u64 al], .int .i64 p] w fun e w' => e = .returned (.bool (sideB f ⟨af, ah, al⟩ p)) ∧ Below w.heap.size w w' := by
  have K3 : ∀ W, Calls Try.prog 78 #[.agg #[.int .i64 af, .int .u64 ah, .int .u64 al]] W fun e w' => e = .returned (.bool (Ad.right ⟨af, ah, al⟩)) ∧ Below W.heap.size W w' := fun W => (right_any af ah al W).mono fun e w' h => ⟨h.1, by rw [h.2]; exact (Below.refl _ _).alloc (Nat.le_refl _) _⟩
  have E : Hid (sideB f ⟨af, ah, al⟩ p = ((af == f) && (Ad.right ⟨af, ah, al⟩ && (decide (0 ≤ p) && decide (p ≤ 65535))))) := rfl
  generalize Ad.right ⟨af, ah, al⟩ = R at *
  generalize sideB f ⟨af, ah, al⟩ p = T at *
  obtain ⟨W1, hW1⟩ : ∃ W1, w.alloc (.cells #[.int .i64 af, .int .u64 ah, .int .u64 al] 24) = W1 := ⟨_, rfl⟩
  have b1 := bel_nw hW1
  have A1 := blk_nw hW1
  have c0 := A1.cell 0 (.int .i64 af) rfl
  have c1 := A1.cell 1 (.int .u64 ah) rfl
  have c2 := A1.cell 2 (.int .u64 al) rfl
  go_enter Try.func58, Try.ntmps58
  by_cases hf : af = f
  · subst hf
    go_wp2_with fail
    refine (K3 _).mono ?_
    rintro e w2 ⟨rfl, bb⟩
    have b2 := bel_tr b1 bb
    cases R with
    | false =>
      go_wp2
      go_ret
      exact ⟨retB_tu (by rw [E.out]; simp), b2⟩
    | true =>
      by_cases h0 : 0 ≤ p
      · by_cases h1 : p ≤ 65535
        · go_wp2
          go_ret
          exact ⟨retB_tu (by rw [E.out]; simp [h0, h1]), b2⟩
        · go_wp2
          go_ret
          exact ⟨retB_tu (by rw [E.out]; simp [h0, h1]), b2⟩
      · go_wp2
        go_ret
        exact ⟨retB_tu (by rw [E.out]; simp; omega), b2⟩
  · have hf' : (af == f) = false := by simpa using hf
    go_wp2
    go_ret
    exact ⟨retB_tu (by rw [E.out]; simp [hf]), b1⟩
set_option maxRecDepth 100000 in
set_option maxHeartbeats 1000000 in
theorem protoName_t (t : Wy) (w : World) :
    Calls Try.prog 59 #[.agg t.v] w fun e w' => e = .returned (.string (ByteArray.mk (nameB t.fam t.pr).toArray)) ∧ Below w.heap.size w w' := by
  obtain ⟨W1, hW1⟩ : ∃ W1, w.alloc (.cells t.v 26) = W1 := ⟨_, rfl⟩
  have b1 := bel_nw hW1
  have A1 := blk_nw hW1
  obtain ⟨k0, k1, k2, k3, k4, k5, k6, k7, k8, k9⟩ := A1.wy
  have E : Hid (nameB t.fam t.pr = nameB t.fam t.pr) := rfl
  obtain ⟨T, hT⟩ : ∃ T, nameB t.fam t.pr = T := ⟨_, rfl⟩
  have HT : Hid (nameB t.fam t.pr = T) := hT
  rw [hT]
  clear hT E
  go_enter Try.func59, Try.ntmps59
  by_cases h1 : t.pr = 6
  · go_wp2
    go_ret
    exact ⟨by rw [← HT.out]; simp [nameB, h1], b1⟩
  by_cases h2 : t.pr = 17
  · go_wp2
    go_ret
    exact ⟨by rw [← HT.out]; simp [nameB, h2], b1⟩
  by_cases h3 : t.pr = 1
  · by_cases h4 : t.fam = 4
    · go_wp2
      go_ret
      exact ⟨by rw [← HT.out]; simp [nameB, h3, h4], b1⟩
    · go_wp2
      go_ret
      exact ⟨by rw [← HT.out]; simp [nameB, h3, h4], b1⟩
  by_cases h3' : t.pr = 58
  · by_cases h4 : t.fam = 6
    · go_wp2
      go_ret
      exact ⟨by rw [← HT.out]; simp [nameB, h3', h4], b1⟩
    · go_wp2
      go_ret
      exact ⟨by rw [← HT.out]; simp [nameB, h3', h4], b1⟩
  go_wp2
  go_ret
  exact ⟨by rw [← HT.out]; simp [nameB, h1, h2, h3, h3'], b1⟩
set_option maxRecDepth 100000 in
set_option maxHeartbeats 1000000 in
theorem right_t (t : Wy) (w : World) :
    Calls Try.prog 30 #[.agg t.v] w fun e w' => e = .returned (.bool t.right) ∧ Below w.heap.size w w' := by
  obtain ⟨f, pr, ⟨sf, sh, sl⟩, ⟨df, dh, dl⟩, sp, dp⟩ := t
  have K1 : Hid (∀ W, Calls Try.prog 58 _ W _) := fun W => rightSide_t f sp sf sh sl W
  have K2 : Hid (∀ W, Calls Try.prog 58 _ W _) := fun W => rightSide_t f dp df dh dl W
  have K3 : Hid (∀ W, Calls Try.prog 59 _ W _) := fun W => protoName_t ⟨f, pr, ⟨sf, sh, sl⟩, ⟨df, dh, dl⟩, sp, dp⟩ W
  have E : Hid (Wy.right ⟨f, pr, ⟨sf, sh, sl⟩, ⟨df, dh, dl⟩, sp, dp⟩ = (sideB f ⟨sf, sh, sl⟩ sp && (sideB f ⟨df, dh, dl⟩ dp && (nameB f pr != [])))) := rfl
  generalize Wy.right ⟨f, pr, ⟨sf, sh, sl⟩, ⟨df, dh, dl⟩, sp, dp⟩ = T at *
  have hn : nameB f pr = [] ∨ (ByteArray.mk (nameB f pr).toArray == ByteArray.mk #[]) = false := by
    unfold nameB
    (repeat' split) <;> first | exact .inl rfl | exact .inr (by decide)
  simp only at K3
  generalize sideB f ⟨sf, sh, sl⟩ sp = R1 at *
  generalize sideB f ⟨df, dh, dl⟩ dp = R2 at *
  generalize nameB f pr = NM at *
  obtain ⟨W1, hW1⟩ : ∃ W1, w.alloc (.cells (Wy.v ⟨f, pr, ⟨sf, sh, sl⟩, ⟨df, dh, dl⟩, sp, dp⟩) 26) = W1 := ⟨_, rfl⟩
  have b1 := bel_nw hW1
  have A1 := blk_nw hW1
  obtain ⟨k0, k1, k2, k3, k4, k5, k6, k7, k8, k9⟩ := A1.wy
  go_enter Try.func30, Try.ntmps30
  go_wp2_with fail
  refine (K1.out _).mono ?_
  rintro e w2 ⟨rfl, bb⟩
  have b2 := bel_tr b1 bb
  have A2 := A1.kept bb
  clear k0 k1 k2 k3 k4 k5 k6 k7 k8 k9 bb b1 A1 hW1 K1
  obtain ⟨k0, k1, k2, k3, k4, k5, k6, k7, k8, k9⟩ := A2.wy
  cases R1 with
  | false =>
    go_wp2
    go_ret
    exact ⟨retB_tu (by rw [E.out]; simp), b2⟩
  | true =>
    go_wp2_with fail
    refine (K2.out _).mono ?_
    rintro e w3 ⟨rfl, bb⟩
    have b3 := bel_tr b2 bb
    have A3 := A2.kept bb
    clear k0 k1 k2 k3 k4 k5 k6 k7 k8 k9 bb b2 A2 K2
    obtain ⟨k0, k1, k2, k3, k4, k5, k6, k7, k8, k9⟩ := A3.wy
    cases R2 with
    | false =>
      go_wp2
      go_ret
      exact ⟨retB_tu (by rw [E.out]; simp), b3⟩
    | true =>
      go_wp2_with fail
      refine (K3.out _).mono ?_
      rintro e w4 ⟨rfl, bb⟩
      have b4 := bel_tr b3 bb
      clear bb K3 k0 k1 k2 k3 k4 k5 k6 k7 k8 k9
      rcases hn with rfl | hn
      · have e0 : (ByteArray.mk ([] : List UInt8).toArray == ByteArray.mk #[]) = true := rfl
        go_wp2
        go_ret
        exact ⟨retB_tu (by rw [E.out]; simp), b4⟩
      · have e0 : NM ≠ [] := by rintro rfl; exact absurd hn (by decide)
        go_wp2
        go_ret
        have e1 : (NM != []) = true := by cases NM with | nil => exact absurd rfl e0 | cons x y => rfl
        exact ⟨retB_tu (by rw [E.out, e1]; simp; exact e0), b4⟩
theorem Ad.same_no {a b : Ad} (h : ¬ (a.fam = b.fam ∧ a.hi = b.hi ∧ a.lo = b.lo)) : ¬ a.same b = true := fun e => h ((Ad.same_eq _ _).1 e)
theorem Ad.same_yes (a : Ad) : a.same a = true := (Ad.same_eq _ _).2 ⟨rfl, rfl, rfl⟩
/-- Cells put one behind the other. -/
def setMany (cur : Array Value) (j : Nat) : List Value → Array Value
  | [] => cur
  | v :: vs => setMany (cur.setIfInBounds j v) (j + 1) vs
theorem setRow_self {W : World} {g : Nat} {t : TypeId} {cs : Array Value} (h : Blk W g t cs) : W.setRow g cs = W := by
  have hlt : g < W.heap.size := h.lt
  have hv : W.heap[g] = .cells cs t (0, 0) := (Array.getElem?_eq_some_iff.1 h).2
  unfold World.setRow
  cases W with
  | mk heap tape drawn os output =>
    congr 1
    apply Array.ext
    · simp
    · intro k h1 h2
      simp only [Array.getElem_modify]
      split
      · rename_i hk; subst hk; simp at hv; simp [hv]
      · rfl
theorem run_storeCells_off (g k : Nat) (t : TypeId) : ∀ (vs : List Value) (i : Nat) (cur : Array Value) (w : World), Blk w g t cur → k + i + vs.length ≤ cur.size → (∀ v ∈ vs, v.oneCell' = true) →
    (storeCells ⟨g, k, none⟩ vs i).run Try.prog w = .ok () (w.setRow g (setMany cur (k + i) vs))
  | [], i, cur, w, hg, hl, _ => by
    simp only [storeCells, setMany]
    rw [setRow_self hg]
    rfl
  | v :: rest, i, cur, w, hg, hl, h1 => by
    have hi : k + i < cur.size := by simp at hl; omega
    have hadd : (⟨g, k, none⟩ : Addr).add i = ⟨g, k + i, none⟩ := Go.WideShapes.add_plain ..
    have hcell : w.cell? ⟨g, k + i, none⟩ = some cur[k + i] := hg.cell (k + i) _ (by simp [hi])
    have hfro : w.frozen? ⟨g, k + i, none⟩ = false := hg.frozen _
    have hst : (store ((⟨g, k, none⟩ : Addr).add i) v).run Try.prog w = .ok () (w.setRow g (cur.setIfInBounds (k + i) v)) := by
      rw [hadd, run_store Try.prog w _ v _ (h1 v (by simp)), hcell]
      simp [hfro, setCell_eq_setRow w g (k + i) cur t (0, 0) v hg]
    have ih := run_storeCells_off g k t rest (i + 1) (cur.setIfInBounds (k + i) v) (w.setRow g (cur.setIfInBounds (k + i) v)) (hg.set _) (by simp at hl ⊢; omega) (fun x hx => h1 x (by simp [hx]))
    simp only [storeCells, Sem.run_bind, hst, Result.andThen_ok, ih, setRow_setRow, setMany]
    rfl
theorem run_storeVar_off {W : World} {g k : Nat} {t ty : TypeId} {cur cells : Array Value} (h : Blk W g t cur) (hi : (Try.prog.info? ty).map (·.size) = some cells.size) (hl : k + cells.size ≤ cur.size) (h1 : cells.all (·.oneCell') = true) :
    (storeVar ty ⟨g, k, none⟩ (.agg cells)).run Try.prog W = .ok () (W.setRow g (setMany cur k cells.toList)) := by
  have := run_storeCells_off g k t cells.toList 0 cur W h (by simp; omega) (fun v hv => (Array.all_eq_true_iff_forall_mem.1 h1) v (by simpa using hv))
  cases hq : Try.prog.info? ty with
  | none => simp [hq] at hi
  | some i =>
    have hs : cells.size = i.size := by simp [hq] at hi; omega
    simp [storeVar, sizeOf, typeInfo, hq, Value.cells, hs, this]
theorem wpList_store_off {ops : Array Oper} {rest : List Oper} {o : Oper} {ac : Act} {Q : Exit → Act → World → Prop} {w : World} (hgd : o.guard = none) (ty : TypeId) (p x : Operand) (ho : o.op = Op.store ty p x) (g k : Nat) (t : TypeId) (cs cur new : Array Value)
    (hp : ac.eval p = .pointer (some ⟨g, k, none⟩)) (hx : ac.eval x = .agg cs) (hb : Blk w g t cur) (hi : (Try.prog.info? ty).map (·.size) = some cs.size) (hl : k + cs.size ≤ cur.size) (h1 : cs.all (·.oneCell') = true) (hn : setMany cur k cs.toList = new) (h : wpList Try.prog ops Q rest (ac.put o.dst undef) (w.setRow g new)) : wpList Try.prog ops Q (o :: rest) ac w := by
  refine wpList_plain hgd fun K hK => ?_
  subst hn
  unfold Oper.wp execOp
  simp only [ho, hp, hx, Instr.storeAt, Instr.sureAddr, Sem.run_bind, Sem.run_pure, Result.andThen_ok, run_storeVar_off hb hi hl h1]
  exact hK _ _ h
/-- w' is w but for the blocks F, and new ones. -/
structure But (F : Nat → Prop) (w w' : World) : Prop where
  os : w'.os = w.os
  tape : w'.tape = w.tape
  output : w'.output = w.output
  size : w.heap.size ≤ w'.heap.size
  block : ∀ k, k < w.heap.size → ¬ F k → w'.heap[k]? = w.heap[k]?
theorem But.refl (F : Nat → Prop) (w : World) : But F w w := ⟨rfl, rfl, rfl, Nat.le_refl _, fun _ _ _ => rfl⟩
theorem But.trans {F F' : Nat → Prop} {a b c : World} (h : But F a b) (k : But F' b c) (hf : ∀ n, n < a.heap.size → F' n → F n) : But F a c :=
  ⟨k.os.trans h.os, k.tape.trans h.tape, k.output.trans h.output, Nat.le_trans h.size k.size, fun i hi hn => (k.block i (Nat.lt_of_lt_of_le hi h.size) (fun x => hn (hf i hi x))).trans (h.block i hi hn)⟩
theorem But.of_below {w w' : World} (h : Below w.heap.size w w') (F : Nat → Prop) : But F w w' := ⟨h.os, h.tape, h.output, h.size, fun k hk _ => h.block k hk⟩
theorem But.below {F : Nat → Prop} {a b c : World} (h : But F a b) (k : Below b.heap.size b c) : But F a c := h.trans (F' := fun _ => False) (But.of_below k _) (fun _ _ x => x.elim)
theorem But.setRow {F : Nat → Prop} {a b : World} (h : But F a b) (g : Nat) (hg : F g ∨ a.heap.size ≤ g) (cs : Array Value) : But F a (b.setRow g cs) :=
  h.trans (F' := fun k => k = g) ⟨rfl, rfl, rfl, by simp [World.setRow], fun k hk hn => setRow_heap_ne b g k cs hn⟩ (fun n hn e => by subst e; rcases hg with x | x; exact x; omega)
theorem But.setCell {F : Nat → Prop} {a b : World} (h : But F a b) (g i : Nat) (hg : F g ∨ a.heap.size ≤ g) (v : Value) : But F a (b.setCell ⟨g, i, none⟩ v) :=
  h.trans (F' := fun k => k = g) ⟨rfl, rfl, rfl, by simp [World.setCell], fun k hk hn => Below.heap_setCell _ _ _ _ hn⟩ (fun n hn e => by subst e; rcases hg with x | x; exact x; omega)
theorem But.grown {F : Nat → Prop} {a b c : World} {r : Option Nat} (h : But F a b) (k : b.grownBy c r) (hr : ∀ n, r = some n → F n ∨ a.heap.size ≤ n) : But F a c :=
  h.trans (F' := fun k => r = some k) ⟨k.os, k.tape, k.output, k.size, fun i hi hn => k.block i hi (fun e => hn e.symm)⟩ (fun n hn e => by rcases hr n e with x | x; exact x; omega)
theorem But.to_below {F : Nat → Prop} {w w' : World} (h : But F w w') {B : Nat} (hB : B ≤ w.heap.size) (hF : ∀ k, k < B → ¬ F k) : Below B w w' := ⟨h.os, h.tape, h.output, h.size, fun k hk => h.block k (by omega) (hF k hk)⟩
theorem But.cell {F : Nat → Prop} {w w' : World} (h : But F w w') {b i : Nat} {v : Value} (hn : ¬ F b) (hc : w.cell? ⟨b, i, none⟩ = some v) : w'.cell? ⟨b, i, none⟩ = some v :=
  (World.cell?_of_block (h.block b (World.block_lt_of_cell? w _ hc) hn)).trans hc
theorem Blk.but {F : Nat → Prop} {w w' : World} {g : Nat} {t : TypeId} {cs : Array Value} (h : Blk w g t cs) (hb : But F w w') (hn : ¬ F g) : Blk w' g t cs := (hb.block g h.lt hn).trans h
theorem But.turned {F : Nat → Prop} {a b c : World} {m : Nat} (h : But F a b) (k : b.mapTurned c m) (hm : F m ∨ a.heap.size ≤ m) : But F a c := h.grown k.grown (fun n hn => by cases hn; exact hm)
theorem Blk.turned {W W' : World} {g m : Nat} {t : TypeId} {cs : Array Value} (h : Blk W g t cs) (k : W.mapTurned W' m) (hn : g ≠ m) : Blk W' g t cs :=
  (k.grown.block g h.lt (fun e => hn (by injection e))).trans h
end Go.Proofs.Ytfiembbmgdmagaa
namespace Go.Proofs.Ytfiembbmgdmagaa
open Go.RowKit Go.Maps Go.WideMaps
set_option linter.unusedVariables false
set_option linter.unusedSimpArgs false
/-- An element is read as it is. -/
def heldElem (v : Value) : Option (DataW Value × List MemPlace) := some (.held v, [])
def ins {α : Type} (x : Lit × α) : List (Lit × α) → List (Lit × α)
  | [] => [x]
  | y :: r => if x.1.before y.1 then x :: y :: r else y :: ins x r
def strike {α : Type} (k : Lit) (E : List (Lit × α)) : List (Lit × α) := E.filter fun p => !p.1.sameKey k
def look {α : Type} (k : Lit) (E : List (Lit × α)) : Option α := (E.find? fun p => p.1.sameKey k).map (·.2)
theorem ins_perm {α : Type} (x : Lit × α) : ∀ l : List (Lit × α), (ins x l).Perm (x :: l)
  | [] => .refl _
  | y :: r => by
    unfold ins
    split
    · exact .refl _
    · exact ((ins_perm x r).cons y).trans (.swap x y r)
theorem ins_data {α : Type} (f : α → DataW Value) (x : Lit × α) : ∀ l : List (Lit × α), (ins x l).map (fun p => (p.1, f p.2)) = DataW.insert (x.1, f x.2) (l.map fun p => (p.1, f p.2))
  | [] => rfl
  | y :: r => by
    have ih := ins_data f x r
    unfold ins DataW.insert
    simp only [List.map_cons]
    cases h : x.1.before y.1
    · simp [ih]
    · simp
theorem strike_map {α β : Type} (f : α → β) (k : Lit) (l : List (Lit × α)) : (strike k l).map (fun p => (p.1, f p.2)) = strike k (l.map fun p => (p.1, f p.2)) := by
  unfold strike
  rw [List.filter_map]
  rfl
theorem look_mem {α : Type} {k : Lit} {l : List (Lit × α)} {x : α} (h : look k l = some x) : (k, x) ∈ l := by
  unfold look at h
  cases hf : l.find? (fun p => p.1.sameKey k) with
  | none => rw [hf] at h; cases h
  | some p =>
    rw [hf] at h
    have h1 := List.mem_of_find?_eq_some hf
    have h2 := List.find?_some hf
    have h3 : p.1 = k := WideAt.sameKey_eq h2
    obtain ⟨a, b⟩ := p
    cases h
    cases h3
    exact h1
theorem mem_strike {α : Type} {k : Lit} {l : List (Lit × α)} {p : Lit × α} (h : p ∈ strike k l) : p ∈ l := (List.mem_filter.1 h).1
theorem strike_ne {α : Type} {k : Lit} (hk : WideAt.IsKeyLit k) {l : List (Lit × α)} {p : Lit × α} (h : p ∈ strike k l) : p.1 ≠ k := fun e => by
  have := (List.mem_filter.1 h).2
  rw [e, WideAt.sameKey_self hk] at this
  cases this
abbrev Keys {α : Type} (E : List (Lit × α)) : Prop := E.Pairwise fun p q => p.1 ≠ q.1
theorem keys_ins {α : Type} {k : Lit} (hk : WideAt.IsKeyLit k) (x : α) {E : List (Lit × α)} (h : Keys E) : Keys (ins (k, x) (strike k E)) :=
  ((ins_perm (k, x) (strike k E)).pairwise_iff (fun {a b} (h : a.1 ≠ b.1) => h.symm)).2 (List.pairwise_cons.2 ⟨fun q hq e => strike_ne hk hq e.symm, h.filter _⟩)
theorem same_eq {a k : Lit} (h : a.sameKey k = true) : a = k := by
  have := look_mem (k := k) (l := [(a, ())]) (x := ()) (by simp [look, h])
  simp at this
  exact this.symm
theorem same_self' {k : Lit} (hk : WideAt.IsKeyLit k) : k.sameKey k = true := by
  cases h : k.sameKey k with
  | true => rfl
  | false =>
    have : (k, ()) ∈ strike k [(k, ())] := by simp [strike, h]
    exact absurd rfl (strike_ne hk this)
theorem look_iff {α : Type} {k : Lit} (hk : WideAt.IsKeyLit k) : ∀ {E : List (Lit × α)}, Keys E → ∀ {x : α}, (k, x) ∈ E → look k E = some x
  | [], _, _, h => by cases h
  | e :: E, hE, x, h => by
    have hE' := List.pairwise_cons.1 hE
    rcases List.mem_cons.1 h with h | h
    · rw [← h]
      simp [look, same_self' hk]
    · have hne : e.1.sameKey k = false := by
        cases hs : e.1.sameKey k with
        | false => rfl
        | true => exact absurd (same_eq hs) (hE'.1 (k, x) h)
      have := look_iff hk hE'.2 h
      unfold look at this ⊢
      rw [List.find?_cons, hne]
      exact this
theorem laidFw : laidOutB Try.prog = true := by kernel_rfl
theorem rowWay : (26 : TypeId) < Try.prog.types.size := of_decide_eq_true (by kernel_rfl)
theorem wideWay : (match Try.prog.underlying 26 with | some (.array _ _) | some (.struct _) => true | _ => false) = true := by kernel_rfl
set_option maxRecDepth 100000 in
theorem lawWay : WideMaps.KeyLaw Try.prog 26 := deep_law_laid laidFw (m := 3) (by omega) rowWay (by kernel_rfl) wideWay
theorem keyWay : Keyed Try.prog 26 := Keyed.of_law lawWay
abbrev OwnsF (w : World) (b n : Nat) (D : DataW Value) : Prop := w.ownsMap Try.prog 26 heldElem b n D
theorem zero_flow (w : World) : (zeroValue 33).run Try.prog w = .ok (.agg fl0.v) w := by kernel_rfl
abbrev toDF (G : List (Lit × Fl)) : DataW Value := .map (G.map fun p => (p.1, .held (.agg p.2.v)))
theorem toDF_put (G : List (Lit × Fl)) (k : Lit) (g : Fl) : ((toDF G).put k (.held (.agg g.v)) : DataW Value) = toDF (ins (k, g) (strike k G)) := by
  show DataW.map (DataW.insert (k, (.held (.agg g.v) : DataW Value)) ((G.map fun p => (p.1, (.held (.agg p.2.v) : DataW Value))).filter fun p => !p.1.sameKey k)) = toDF _
  have h1 := ins_data (fun g : Fl => (.held (.agg g.v) : DataW Value)) (k, g) (strike k G)
  have h2 := strike_map (fun g : Fl => (.held (.agg g.v) : DataW Value)) k G
  unfold strike at h2
  rw [← h2]
  exact congrArg DataW.map h1.symm
theorem toDF_del (G : List (Lit × Fl)) (k : Lit) : (toDF G).del k = toDF (strike k G) := by
  show DataW.map ((G.map fun p => (p.1, (.held (.agg p.2.v) : DataW Value))).filter fun p => !p.1.sameKey k) = toDF _
  have h2 := strike_map (fun g : Fl => (.held (.agg g.v) : DataW Value)) k G
  exact congrArg DataW.map h2.symm
theorem toDF_size (G : List (Lit × Fl)) : Maps.size (toDF G) = G.length := by simp [Maps.size_eq]
theorem toDF_has (k : Lit) : ∀ (G : List (Lit × Fl)), Maps.has (toDF G) k = (look k G).isSome
  | [] => rfl
  | y :: r => by
    have ih := toDF_has k r
    unfold look at ih ⊢
    rw [Maps.has_eq] at ih ⊢
    simp only [List.map_cons, List.any_cons, List.find?_cons]
    cases h : y.1.sameKey k
    · simpa using ih
    · simp
theorem toDF_at (k : Lit) : ∀ (G : List (Lit × Fl)), (toDF G).atKey k (.held (.agg fl0.v)) = .held (.agg ((look k G).getD fl0).v)
  | [] => rfl
  | y :: r => by
    have ih := toDF_at k r
    unfold look at ih ⊢
    simp only [DataW.atKey] at ih ⊢
    simp only [List.map_cons, List.find?_cons]
    cases h : y.1.sameKey k
    · simpa using ih
    · simp
theorem ownF_tight {w : World} {b n : Nat} {G : List (Lit × Fl)} (h : OwnsF w b n (toDF G)) : OwnsF w b G.length (toDF G) := by
  obtain ⟨es, ck, h1, h2, h3, h4⟩ := h
  refine ⟨es, ck, h1, h2, ?_, h4⟩
  have h5 := congrArg Maps.size h4
  rw [toDF_size, Maps.size_eq, length_sorted] at h5
  simp at h5
  omega
/-- The key of a way. -/
def keyW (w : Wy) : Lit := .string (keyBytes [.int .i64 w.fam, .int .i64 w.pr, .int .i64 w.s.fam, .int .u64 w.s.hi, .int .u64 w.s.lo, .int .i64 w.d.fam, .int .u64 w.d.hi, .int .u64 w.d.lo, .int .i64 w.sp, .int .i64 w.dp])
theorem keyLit_way (w : Wy) : WideAt.IsKeyLit (keyW w) := by simp [WideAt.IsKeyLit, keyW]
theorem wf_i64_fw {x : Int} (h : -9223372036854775808 ≤ x ∧ x ≤ 9223372036854775807) : (Lit.int .i64 x).wf = true := by
  simp [Lit.wf, IntKind.min, IntKind.max, IntKind.signed, IntKind.bits]; omega
theorem wf_u64_fw {x : Int} (h : 0 ≤ x ∧ x ≤ 18446744073709551615) : (Lit.int .u64 x).wf = true := by
  simp [Lit.wf, IntKind.min, IntKind.max, IntKind.signed, IntKind.bits]; omega
theorem cellsTup : Try.prog.cellsOf 26 = 10 := by kernel_rfl
theorem cellsAdr : Try.prog.cellsOf 24 = 3 := by kernel_rfl
theorem cellsI64 : Try.prog.cellsOf 3 = 1 := by kernel_rfl
theorem cellsU64w : Try.prog.cellsOf 22 = 1 := by kernel_rfl
set_option maxRecDepth 100000 in
theorem lits_way (m : Nat) (f p sf sh sl df dh dl sp dp : Int) (h0 : (Lit.int .i64 f).wf = true) (h0' : (Lit.int .i64 p).wf = true) (h1 : (Lit.int .i64 sf).wf = true) (h2 : (Lit.int .u64 sh).wf = true) (h3 : (Lit.int .u64 sl).wf = true) (h4 : (Lit.int .i64 df).wf = true) (h5 : (Lit.int .u64 dh).wf = true) (h6 : (Lit.int .u64 dl).wf = true) (h7 : (Lit.int .i64 sp).wf = true) (h8 : (Lit.int .i64 dp).wf = true) :
    Try.prog.keyLits (m + 3) 26 [.int .i64 f, .int .i64 p, .int .i64 sf, .int .u64 sh, .int .u64 sl, .int .i64 df, .int .u64 dh, .int .u64 dl, .int .i64 sp, .int .i64 dp] = some [.int .i64 f, .int .i64 p, .int .i64 sf, .int .u64 sh, .int .u64 sl, .int .i64 df, .int .u64 dh, .int .u64 dl, .int .i64 sp, .int .i64 dp] := by
  simp [-Array.all_eq_true, -List.all_eq_true, List.all_cons, List.all_nil, Program.keyLits, Try.underlying26, Try.underlying24, Try.underlying3, Try.underlying22, cellsTup, cellsAdr, cellsI64, cellsU64w, h0, h0', h1, h2, h3, h4, h5, h6, h7, h8]
theorem key_way (w : Wy) (h : w.kf) : keyOf Try.prog 26 (.agg w.v) = some (keyW w) := by
  have hkt : Try.prog.keyType 26 = true := by kernel_rfl
  have hsz : ∃ m, Try.prog.types.size + 1 = m + 3 := ⟨Try.prog.types.size - 2, by have : 3 ≤ Try.prog.types.size := of_decide_eq_true (by kernel_rfl); omega⟩
  obtain ⟨m, hm⟩ := hsz
  unfold keyOf
  rw [Try.underlying26]
  simp only [hkt, hm, Value.cells, Bool.true_and]
  rw [if_pos (by simp [Value.formed, Try.underlying26, cellsTup]), lits_way m w.fam w.pr w.s.fam w.s.hi w.s.lo w.d.fam w.d.hi w.d.lo w.sp w.dp (wf_i64_fw h.fam) (wf_i64_fw h.pr) (wf_i64_fw h.ok.s.1) (wf_u64_fw h.ok.s.2.1) (wf_u64_fw h.ok.s.2.2) (wf_i64_fw h.ok.d.1) (wf_u64_fw h.ok.d.2.1) (wf_u64_fw h.ok.d.2.2) (wf_i64_fw h.sp) (wf_i64_fw h.dp)]
  rfl
theorem wv_inj {a b : Wy} (h : a.v = b.v) : a = b := by
  obtain ⟨f, pr, ⟨sf, sh, sl⟩, ⟨df, dh, dl⟩, sp, dp⟩ := a
  obtain ⟨f', pr', ⟨sf', sh', sl'⟩, ⟨df', dh', dl'⟩, sp', dp'⟩ := b
  simp at h
  simp [h]
theorem keyW_inj {a b : Wy} (ha : a.kf) (hb : b.kf) (h : keyW a = keyW b) : a = b := by
  have h1 := key_way a ha
  rw [h] at h1
  have h2 := keyWay.inj h1 (key_way b hb)
  exact wv_inj (Value.agg.inj h2)
/-- The map of flows. -/
structure MapF (w : World) (mb : Nat) (G : List (Lit × Fl)) : Prop where
  own : OwnsF w mb G.length (toDF G)
theorem MapF.lt {w : World} {mb : Nat} {G : List (Lit × Fl)} (h : MapF w mb G) : mb < w.heap.size := World.ownsMap.lt h.own
theorem MapF.al {w w' : World} {mb : Nat} {G : List (Lit × Fl)} {o : Obj} (h : MapF w mb G) (e : w.alloc o = w') : MapF w' mb G := ⟨by rw [← e]; exact World.ownsMap.alloc h.own _⟩
theorem MapF.drew {w : World} {mb : Nat} {G : List (Lit × Fl)} (h : MapF w mb G) : MapF w.drew mb G := ⟨World.ownsMap.drew h.own⟩
theorem MapF.but {F : Nat → Prop} {w w' : World} {mb : Nat} {G : List (Lit × Fl)} (h : MapF w mb G) (b : But F w w') (hn : ¬ F mb) : MapF w' mb G := by
  obtain ⟨es, ck, h1, h2, h3, h4⟩ := h.own
  exact ⟨⟨es, ck, (b.block mb h.lt hn).trans h1, h2, h3, h4⟩⟩
theorem MapF.kept {w w' : World} {mb : Nat} {G : List (Lit × Fl)} (h : MapF w mb G) (b : Below w.heap.size w w') : MapF w' mb G := h.but (But.of_below b (fun _ => False)) (fun x => x)
theorem MapF.other {w : World} {mb g : Nat} {G : List (Lit × Fl)} (h : MapF w mb G) (hn : mb ≠ g) (cs : Array Value) : MapF (w.setRow g cs) mb G :=
  h.but ((But.refl (fun k => k = g) w).setRow g (.inl rfl) cs) hn
theorem MapF.put_other {w : World} {mb g : Nat} {G : List (Lit × Fl)} {t : TypeId} {cs : Array Value} (h : MapF w mb G) (_ : Blk w g t cs) (hn : mb ≠ g) (i : Nat) (v : Value) : MapF (w.setCell ⟨g, i, none⟩ v) mb G :=
  h.but ((But.refl (fun k => k = g) w).setCell g i (.inl rfl) v) hn
set_option maxRecDepth 100000 in
theorem look_F {w : World} {mb : Nat} {G : List (Lit × Fl)} (h : MapF w mb G) {q : Wy} (hq : q.kf) :
    (Instr.lookup 75 (.map (some mb)) (.agg q.v) true).run Try.prog w = .ok (.tuple #[.agg ((look (keyW q) G).getD fl0).v, .bool (look (keyW q) G).isSome]) w := by
  obtain ⟨v, ps, h1, h2⟩ := World.ownsMap.look_ok h.own keyWay Try.underlying75 (zero_flow w) (zd := .held (.agg fl0.v)) (zp := []) rfl (key_way q hq)
  simp only [heldElem, Option.some.injEq, Prod.mk.injEq] at h2
  rw [h1, toDF_has]
  have h3 := h2.1.symm
  rw [toDF_at] at h3
  injection h3 with h3
  rw [h3]
theorem len_F {w : World} {mb : Nat} {G : List (Lit × Fl)} (h : MapF w mb G) (ty : TypeId) : (Builtin.len_ #[75] ty #[.map (some mb)]).run Try.prog w = .ok (.int .i64 (G.length : Int)) w := by
  have h1 := World.ownsMap.len h.own Try.underlying75 ty
  rw [toDF_size] at h1
  exact h1
theorem step_updateF {ops : Array Oper} {o : Oper} {ac : Act} {K : Act → World → Prop} {Q : Exit → Act → World → Prop} {Z : Prop} {w : World} (hgd : o.guard = none) (m x y : Operand) (ho : o.op = Op.mapUpdate 75 m x y)
    (b : Nat) (G : List (Lit × Fl)) (q : Wy) (f : Fl) (hm : ac.eval m = .map (some b)) (hx : ac.eval x = .agg q.v) (hy : ac.eval y = .agg f.v) (hS : MapF w b G) (hn : G.length < maxLen) (hk : q.kf)
    (h : ∀ w', MapF w' b (ins (keyW q, f) (strike (keyW q) G)) → w.mapTurned w' b → K (ac.put o.dst undef) w') :
    if Region.wanted o (yielded ops ac.tmps) = true then Oper.wp Try.prog o ac w K Q else Z := by
  have hw : Region.wanted o (yielded ops ac.tmps) = true := by simp [Region.wanted, hgd]
  rw [if_pos hw]
  obtain ⟨w', h1, h2, h3⟩ := World.ownsMap.store hS.own keyWay Try.underlying75 (val := .agg f.v) hn (key_way q hk) (d := .held (.agg f.v)) (ps := []) rfl
  unfold Oper.wp execOp
  simp only [ho, Sem.run_bind, Sem.run_pure, Result.andThen_ok, hm, hx, hy, h1]
  rw [toDF_put] at h2
  exact h w' ⟨ownF_tight h2⟩ h3
/-! A table in memory. -/
abbrev tabV (s : Ft) (mb : Nat) : Array Value := #[.bool true, .int .i64 s.most, .int .i64 s.now, .map (some mb)]
structure TabF (w : World) (tb mb : Nat) (s : Ft) (G : List (Lit × Fl)) : Prop where
  tab : Blk w tb 77 (tabV s mb)
  map : MapF w mb G
  ne : tb ≠ mb
  ok : FtOk s
  keys : Keys G
  key : ∀ p ∈ G, p.1 = keyW p.2.w
  perm : (G.map (·.2)).Perm s.L
theorem TabF.but {F : Nat → Prop} {w w' : World} {tb mb : Nat} {s : Ft} {G : List (Lit × Fl)} (h : TabF w tb mb s G) (b : But F w w') (h1 : ¬ F tb) (h2 : ¬ F mb) : TabF w' tb mb s G := ⟨h.tab.but b h1, h.map.but b h2, h.ne, h.ok, h.keys, h.key, h.perm⟩
theorem TabF.kept {w w' : World} {tb mb : Nat} {s : Ft} {G : List (Lit × Fl)} (h : TabF w tb mb s G) (b : Below w.heap.size w w') : TabF w' tb mb s G := h.but (But.of_below b (fun _ => False)) (fun x => x) (fun x => x)
theorem TabF.kf {w : World} {tb mb : Nat} {s : Ft} {G : List (Lit × Fl)} (h : TabF w tb mb s G) {p : Lit × Fl} (hp : p ∈ G) : p.2.w.kf := (h.ok.each p.2 (h.perm.mem_iff.1 (List.mem_map.2 ⟨p, hp, rfl⟩))).2.2
theorem TabF.len {w : World} {tb mb : Nat} {s : Ft} {G : List (Lit × Fl)} (h : TabF w tb mb s G) : G.length = s.L.length := by
  have := h.perm.length_eq
  simpa using this
theorem TabF.look {w : World} {tb mb : Nat} {s : Ft} {G : List (Lit × Fl)} (h : TabF w tb mb s G) {q : Wy} (hq : q.kf) : Go.Proofs.Ytfiembbmgdmagaa.look (keyW q) G = atF q s.L := by
  cases hl : Go.Proofs.Ytfiembbmgdmagaa.look (keyW q) G with
  | some f =>
    have hm := look_mem hl
    have e := keyW_inj hq (h.kf hm) (h.key _ hm)
    exact (atF_mem h.ok.sorted (h.perm.mem_iff.1 (List.mem_map.2 ⟨_, hm, rfl⟩)) e.symm).symm
  | none =>
    refine (atF_none.2 fun f hf e => ?_).symm
    obtain ⟨p, hp, rfl⟩ := List.mem_map.1 (h.perm.mem_iff.2 hf)
    have := look_iff (keyLit_way q) h.keys (x := p.2) (by rw [← e, ← h.key p hp]; exact hp)
    rw [hl] at this
    cases this
theorem strike_snd {w : World} {tb mb : Nat} {s : Ft} {G : List (Lit × Fl)} (h : TabF w tb mb s G) {q : Wy} (hq : q.kf) : ((strike (keyW q) G).map (·.2)).Perm (delF q s.L) := by
  have e : (strike (keyW q) G).map (·.2) = (G.map (·.2)).filter (fun g => !g.w.eqB q) := by
    unfold strike
    rw [List.filter_map]
    congr 1
    refine List.filter_congr fun p hp => ?_
    simp only [Function.comp]
    congr 1
    rw [h.key p hp]
    cases he : p.2.w.eqB q with
    | true => rw [(Wy.eqB_iff _ _).1 he]; exact same_self' (keyLit_way q)
    | false =>
      cases hs : (keyW p.2.w).sameKey (keyW q) with
      | false => rfl
      | true =>
        have := keyW_inj (h.kf hp) hq (same_eq hs)
        exact absurd this (eqB_false.1 he)
  rw [e]
  exact h.perm.filter _
theorem TabF.laid {w w' : World} {tb mb : Nat} {s s' : Ft} {G : List (Lit × Fl)} (h : TabF w tb mb s G) {f : Fl} (hq : f.w.kf) (hs : FtOk s') (hL : s'.L.Perm (f :: delF f.w s.L)) (ht : Blk w' tb 77 (tabV s' mb)) (hm : MapF w' mb (ins (keyW f.w, f) (strike (keyW f.w) G))) : TabF w' tb mb s' (ins (keyW f.w, f) (strike (keyW f.w) G)) := by
  have hp := ins_perm (keyW f.w, f) (strike (keyW f.w) G)
  refine ⟨ht, hm, h.ne, hs, keys_ins (keyLit_way f.w) f h.keys, fun p hp' => ?_, ?_⟩
  · rcases List.mem_cons.1 (hp.mem_iff.1 hp') with rfl | hx
    · rfl
    · exact h.key p (mem_strike hx)
  · refine ((hp.map (·.2)).trans ?_).trans hL.symm
    exact (strike_snd h hq).cons f
theorem del_none {q : Wy} {L : List Fl} (h : atF q L = none) : delF q L = L := by
  unfold delF
  exact List.filter_eq_self.2 fun g hg => by
    have := atF_none.1 h g hg
    rw [eqB_false.2 this]
    rfl
theorem sort_eq : ∀ {L M : List Fl}, L.Perm M → SortF L → SortF M → L = M
  | [], M, h, _, _ => by simpa using h.symm
  | x :: L, [], h, _, _ => by simp at h
  | x :: L, y :: M, h, hl, hm => by
    obtain ⟨l1, l2⟩ := List.pairwise_cons.1 hl
    obtain ⟨m1, m2⟩ := List.pairwise_cons.1 hm
    have e : x = y := by
      have hx : x ∈ y :: M := h.mem_iff.1 (by simp)
      have hy : y ∈ x :: L := h.mem_iff.2 (by simp)
      rcases List.mem_cons.1 hx with e | hx
      · exact e
      · rcases List.mem_cons.1 hy with e | hy
        · exact e.symm
        · have a := l1 y hy
          have b := m1 x hx
          have := order_lt_tr a b
          rw [order_self] at this
          omega
    subst e
    rw [sort_eq (List.perm_cons x |>.1 h) l2 m2]
end Go.Proofs.Ytfiembbmgdmagaa
namespace Go.Proofs.Ytfiembbmgdmagaa
open Go.RowKit
set_option linter.unusedVariables false
set_option linter.unusedSimpArgs false
theorem retB_tc {a b : Bool} (h : a = b) : Ending.returned (.bool a) = Ending.returned (.bool b) := by rw [h]
theorem retN_tc {k : IntKind} {a b : Int} (h : a = b) : Ending.returned (.int k a) = Ending.returned (.int k b) := by rw [h]
theorem Blk.gt {W : World} {g : Nat} {t : TypeId} {r : Gt} (h : Blk W g t r.v) : W.cell? ⟨g, 0, none⟩ = some (.int .i64 r.fl) ∧ W.cell? ⟨g, 1, none⟩ = some (.int .i64 r.win) ∧ W.cell? ⟨g, 2, none⟩ = some (.int .i64 r.sz) ∧ W.cell? ⟨g, 3, none⟩ = some (.int .u32 r.sq) ∧ W.cell? ⟨g, 4, none⟩ = some (.int .u32 r.ak) :=
  ⟨h.cell 0 _ rfl, h.cell 1 _ rfl, h.cell 2 _ rfl, h.cell 3 _ rfl, h.cell 4 _ rfl⟩
theorem has_tc (g : Gt) (k : Int) (w : World) :
    Calls Try.prog 97 #[.agg g.v, .int .i64 k] w fun e w' => e = .returned (.bool (flB g.fl k)) ∧ Below w.heap.size w w' := by
  obtain ⟨W1, hW1⟩ : ∃ W1, w.alloc (.cells g.v 110) = W1 := ⟨_, rfl⟩
  have b1 := bel_nw hW1
  have A1 := blk_nw hW1
  have c0 := A1.cell 0 (.int .i64 g.fl) rfl
  go_enter Try.func97, Try.ntmps97
  go_wp2
  go_ret
  exact ⟨retB_tc (by simp [flB]), b1⟩
theorem from_tc (a b : Int) (w : World) :
    Calls Try.prog 111 #[.int .u32 a, .int .u32 b] w fun e w' => e = .returned (.bool (frB a b)) ∧ Below w.heap.size w w' := by
  go_enter Try.func111, Try.ntmps111
  go_wp2
  go_ret
  exact ⟨retB_tc (by simp [frB]), Below.refl _ _⟩
theorem size_tc (n : Int) (w : World) :
    Calls Try.prog 79 #[.int .i64 n] w fun e w' => e = .returned (.bool (inB15 n)) ∧ Below w.heap.size w w' := by
  go_enter Try.func79, Try.ntmps79
  by_cases h : 0 ≤ n
  · go_wp2
    all_goals (go_ret; exact ⟨retB_tc (by simp [inB15, h]), Below.refl _ _⟩)
  · go_wp2
    all_goals (go_ret; exact ⟨retB_tc (by simp [inB15]; omega), Below.refl _ _⟩)
theorem state_tc (a b : Bool) (w : World) :
    Calls Try.prog 82 #[.agg #[.bool a, .bool b]] w fun e w' => e = .returned (.int .i64 (stOf a b)) ∧ Below w.heap.size w w' := by
  obtain ⟨W1, hW1⟩ : ∃ W1, w.alloc (.cells #[.bool a, .bool b] 29) = W1 := ⟨_, rfl⟩
  have b1 := bel_nw hW1
  have A1 := blk_nw hW1
  have c0 := A1.cell 0 (.bool a) rfl
  have c1 := A1.cell 1 (.bool b) rfl
  go_enter Try.func82, Try.ntmps82
  cases a <;> cases b <;> (go_wp2; go_ret; exact ⟨rfl, b1⟩)
theorem limit_tc (g : Gt) (w : World) :
    Calls Try.prog 112 #[.agg g.v] w fun e w' => e = .returned (.int .u32 g.lim) ∧ Below w.heap.size w w' := by
  obtain ⟨W1, hW1⟩ : ∃ W1, w.alloc (.cells g.v 110) = W1 := ⟨_, rfl⟩
  have b1 := bel_nw hW1
  have A1 := blk_nw hW1
  obtain ⟨c0, c1, c2, c3, c4⟩ := A1.gt
  go_enter Try.func112, Try.ntmps112
  go_wp2
  go_ret
  exact ⟨retN_tc (by simp [Gt.lim]), b1⟩
set_option maxRecDepth 100000 in
set_option maxHeartbeats 1000000 in
theorem end_tc (g : Gt) (w : World) :
    Calls Try.prog 108 #[.agg g.v] w fun e w' => e = .returned (.int .u32 g.e) ∧ Below w.heap.size w w' := by
  obtain ⟨W1, hW1⟩ : ∃ W1, w.alloc (.cells g.v 110) = W1 := ⟨_, rfl⟩
  have b1 := bel_nw hW1
  have A1 := blk_nw hW1
  obtain ⟨c0, c1, c2, c3, c4⟩ := A1.gt
  have K2 : Hid (∀ W, Calls Try.prog 97 #[.agg g.v, .int .i64 2] W fun e w' => e = .returned (.bool (flB g.fl 2)) ∧ Below W.heap.size W w') := fun W => has_tc g 2 W
  have K1 : Hid (∀ W, Calls Try.prog 97 #[.agg g.v, .int .i64 1] W fun e w' => e = .returned (.bool (flB g.fl 1)) ∧ Below W.heap.size W w') := fun W => has_tc g 1 W
  obtain ⟨E, hE⟩ : ∃ E, g.e = E := ⟨_, rfl⟩
  have HE : Hid ((g.sq + g.sz + bN (flB g.fl 2) + bN (flB g.fl 1)) % 4294967296 = E) := hE
  rw [hE]
  clear hE
  generalize flB g.fl 2 = R2 at *
  generalize flB g.fl 1 = R1 at *
  go_enter Try.func108, Try.ntmps108
  go_wp2_with (refine wpList_load_row rfl _ _ rfl w.heap.size (by rfl) _ _ _ _ A1 Try.underlying110 rfl (by kernel_rfl) ?_)
  refine Calls.mono (K2.out _) ?_
  rintro e W2 ⟨rfl, bb⟩
  have A2 := A1.kept bb
  have b2 := bel_tr b1 bb
  clear bb c0 c1 c2 c3 c4 K2
  cases R2 <;> (
    go_wp2_with (refine wpList_load_row rfl _ _ rfl w.heap.size (by rfl) _ _ _ _ A2 Try.underlying110 rfl (by kernel_rfl) ?_)
    refine Calls.mono (K1.out _) ?_
    rintro e W3 ⟨rfl, bb⟩
    have b3 := bel_tr b2 bb
    cases R1 <;> (
      go_wp2
      go_ret
      exact ⟨retN_tc (by rw [← HE.out]; simp [bN]), b3⟩))
theorem within_tc (n x l : Int) (w : World) :
    Calls Try.prog 110 #[.int .u32 n, .int .u32 x, .int .u32 l] w fun e w' => e = .returned (.bool (wiB n x l)) ∧ Below w.heap.size w w' := by
  have K1 : Hid (∀ W, Calls Try.prog 111 #[.int .u32 n, .int .u32 ((x - 65535) % 4294967296)] W fun e w' => e = .returned (.bool (frB n ((x - 65535) % 4294967296))) ∧ Below W.heap.size W w') := fun W => from_tc _ _ W
  have K2 : Hid (∀ W, Calls Try.prog 111 #[.int .u32 l, .int .u32 n] W fun e w' => e = .returned (.bool (frB l n)) ∧ Below W.heap.size W w') := fun W => from_tc _ _ W
  show Calls _ _ _ w fun e w' => e = .returned (.bool (frB n ((x - 65535) % 4294967296) && frB l n)) ∧ Below w.heap.size w w'
  generalize frB n ((x - 65535) % 4294967296) = P at *
  generalize frB l n = Q at *
  go_enter Try.func110, Try.ntmps110
  go_wp2_with fail
  refine Calls.mono (K1.out _) ?_
  rintro e W2 ⟨rfl, bb⟩
  cases P
  · go_wp2
    go_ret
    exact ⟨rfl, bb⟩
  · go_wp2_with fail
    refine Calls.mono (K2.out _) ?_
    rintro e W3 ⟨rfl, bc⟩
    go_wp2
    go_ret
    exact ⟨retB_tc (by simp), bel_tr bb bc⟩
end Go.Proofs.Ytfiembbmgdmagaa
