/- Texts joined: TuP TuN FwA -/
import Derived.Test.YtmjjdbkipagkbaaFyp2
import Derived.Deep.RegionHeld3
namespace Go.Proofs.Ytmjjdbkipagkbaa
open Go.RowKit
set_option linter.unusedVariables false
set_option linter.unusedSimpArgs false
theorem blk_two (w : World) (X : Obj) (cs : Array Value) (t : TypeId) : Blk ((w.alloc X).alloc (.cells cs t)) (w.heap.size + 1) t cs := by
  have := blk_new (w.alloc X) cs t
  rwa [World.size_alloc] at this
theorem bel_two (w : World) (X Y : Obj) : Below w.heap.size w ((w.alloc X).alloc Y) := ((Below.refl _ _).alloc (Nat.le_refl _) _).alloc (by simp) _
/-- A way: its family, its protocol, its ends and their ports. -/
structure Wy where
  fam : Int
  pr : Int
  s : Ad
  d : Ad
  sp : Int
  dp : Int
abbrev Wy.v (t : Wy) : Array Value := #[.int .i64 t.fam, .int .i64 t.pr, .int .i64 t.s.fam, .int .u64 t.s.hi, .int .u64 t.s.lo, .int .i64 t.d.fam, .int .u64 t.d.hi, .int .u64 t.d.lo, .int .i64 t.sp, .int .i64 t.dp]
structure Wy.ok (t : Wy) : Prop where
  s : t.s.ok
  d : t.d.ok
def Wy.rev (t : Wy) : Wy := ⟨t.fam, t.pr, t.d, t.s, t.dp, t.sp⟩
theorem Wy.rev_rev (t : Wy) : t.rev.rev = t := rfl
theorem Wy.ok_rev {t : Wy} (h : t.ok) : t.rev.ok := ⟨h.d, h.s⟩
def sideB (f : Int) (a : Ad) (p : Int) : Bool := a.fam == f && (a.right && (decide (0 ≤ p) && decide (p ≤ 65535)))
/-- The name of a protocol. -/
def nameB (f p : Int) : List UInt8 := if p = 6 then [116, 99, 112] else if p = 17 then [117, 100, 112] else if p = 1 ∧ f = 4 then [105, 99, 109, 112] else if p = 58 ∧ f = 6 then [105, 99, 109, 112, 54] else []
def Wy.right (t : Wy) : Bool := sideB t.fam t.s t.sp && (sideB t.fam t.d t.dp && (nameB t.fam t.pr != []))
theorem sideB_iff {f : Int} {a : Ad} {p : Int} : sideB f a p = true ↔ a.fam = f ∧ a.right = true ∧ 0 ≤ p ∧ p ≤ 65535 := by simp [sideB]
theorem Wy.right_iff {t : Wy} : t.right = true ↔ sideB t.fam t.s t.sp = true ∧ sideB t.fam t.d t.dp = true ∧ nameB t.fam t.pr ≠ [] := by simp [Wy.right]
/-- The order of two ways. -/
def Wy.order (a b : Wy) : Int :=
  if a.fam = b.fam then (if a.pr = b.pr then (if a.s.same b.s then (if a.d.same b.d then (if a.sp = b.sp then cmp3 a.dp b.dp else cmp3 a.sp b.sp) else a.d.order b.d) else a.s.order b.s) else cmp3 a.pr b.pr) else cmp3 a.fam b.fam
def lexI : List Int → List Int → Int
  | x :: xs, y :: ys => if x = y then lexI xs ys else cmp3 x y
  | _, _ => 0
theorem cmp3_self (x : Int) : cmp3 x x = 0 := by unfold cmp3; rw [if_neg (by omega), if_neg (by omega)]
theorem cmp3_neg (x y : Int) : cmp3 y x = - cmp3 x y := by unfold cmp3; (repeat' split) <;> omega
theorem cmp3_zero {x y : Int} : cmp3 x y = 0 ↔ x = y := by unfold cmp3; (repeat' split) <;> omega
theorem cmp3_le {x y : Int} : cmp3 x y ≤ 0 ↔ x ≤ y := by unfold cmp3; (repeat' split) <;> omega
theorem lexI_neg : ∀ a b : List Int, lexI b a = - lexI a b
  | [], [] => rfl
  | [], _ :: _ => rfl
  | _ :: _, [] => rfl
  | x :: xs, y :: ys => by
    unfold lexI
    by_cases h : x = y
    · rw [if_pos h, if_pos h.symm, lexI_neg xs ys]
    · rw [if_neg h, if_neg (fun e => h e.symm), cmp3_neg]
theorem lexI_zero : ∀ a b : List Int, a.length = b.length → (lexI a b = 0 ↔ a = b)
  | [], [], _ => by simp [lexI]
  | x :: xs, y :: ys, h => by
    unfold lexI
    by_cases e : x = y
    · rw [if_pos e, lexI_zero xs ys (by simpa using h), e]; simp
    · rw [if_neg e, cmp3_zero]; simp [e]
theorem lexI_tr : ∀ a b c : List Int, a.length = b.length → b.length = c.length → lexI a b ≤ 0 → lexI b c ≤ 0 → lexI a c ≤ 0
  | [], [], [], _, _, _, _ => by simp [lexI]
  | x :: xs, y :: ys, z :: zs, h, h', p, q => by
    unfold lexI at p q ⊢
    by_cases e : x = y
    · by_cases e' : y = z
      · rw [if_pos e] at p
        rw [if_pos e'] at q
        rw [if_pos (e.trans e')]
        exact lexI_tr xs ys zs (by simpa using h) (by simpa using h') p q
      · rw [if_neg e', cmp3_le] at q
        subst e
        rw [if_neg e', cmp3_le]
        exact q
    · rw [if_neg e, cmp3_le] at p
      by_cases e' : y = z
      · subst e'
        rw [if_neg e, cmp3_le]
        exact p
      · rw [if_neg e', cmp3_le] at q
        by_cases e'' : x = z
        · omega
        · rw [if_neg e'', cmp3_le]; omega
def Wy.row (t : Wy) : List Int := [t.fam, t.pr, t.s.fam, t.s.hi, t.s.lo, t.d.fam, t.d.hi, t.d.lo, t.sp, t.dp]
theorem Ad.order_lex (a b : Ad) : a.order b = lexI [a.fam, a.hi, a.lo] [b.fam, b.hi, b.lo] := by
  unfold Ad.order lexI lexI lexI lexI
  by_cases h : a.fam = b.fam
  · rw [if_pos (cmp3_zero.2 h), if_pos h]
    by_cases h' : a.hi = b.hi
    · rw [if_pos (cmp3_zero.2 h'), if_pos h']
      by_cases h'' : a.lo = b.lo
      · rw [if_pos h'', h'', cmp3_self]
      · rw [if_neg h'']
    · rw [if_neg (fun e => h' (cmp3_zero.1 e)), if_neg h']
  · rw [if_neg (fun e => h (cmp3_zero.1 e)), if_neg h]
theorem lexI_three (x y z x' y' z' : Int) (u v : List Int) : lexI (x :: y :: z :: u) (x' :: y' :: z' :: v) = if x = x' ∧ y = y' ∧ z = z' then lexI u v else lexI [x, y, z] [x', y', z'] := by
  by_cases h : x = x'
  · by_cases h' : y = y'
    · by_cases h'' : z = z'
      · simp [lexI, h, h', h'']
      · simp [lexI, h, h', h'']
    · simp [lexI, h, h']
  · simp [lexI, h]
theorem Ad.same_eq (a b : Ad) : (a.same b = true) ↔ (a.fam = b.fam ∧ a.hi = b.hi ∧ a.lo = b.lo) := by simp [Ad.same]
theorem Wy.order_lex (a b : Wy) : a.order b = lexI a.row b.row := by
  unfold Wy.order Wy.row
  by_cases h : a.fam = b.fam
  · rw [if_pos h, lexI, if_pos h]
    by_cases h2 : a.pr = b.pr
    · rw [if_pos h2, lexI, if_pos h2, lexI_three, lexI_three, Ad.order_lex, Ad.order_lex]
      by_cases h3 : a.s.same b.s = true
      · rw [if_pos h3, if_pos ((Ad.same_eq _ _).1 h3)]
        by_cases h4 : a.d.same b.d = true
        · rw [if_pos h4, if_pos ((Ad.same_eq _ _).1 h4)]
          by_cases h5 : a.sp = b.sp
          · rw [if_pos h5, lexI, if_pos h5, lexI]
            by_cases h6 : a.dp = b.dp
            · rw [if_pos h6, h6, cmp3_self]; rfl
            · rw [if_neg h6]
          · rw [if_neg h5, lexI, if_neg h5]
        · rw [if_neg h4, if_neg (fun e => h4 ((Ad.same_eq _ _).2 e))]
      · rw [if_neg h3, if_neg (fun e => h3 ((Ad.same_eq _ _).2 e))]
    · rw [if_neg h2, lexI, if_neg h2]
  · rw [if_neg h, lexI, if_neg h]
theorem Wy.row_inj {a b : Wy} (h : a.row = b.row) : a = b := by
  obtain ⟨f, p, ⟨x, y, z⟩, ⟨x', y', z'⟩, u, v⟩ := a
  obtain ⟨f2, p2, ⟨x2, y2, z2⟩, ⟨x2', y2', z2'⟩, u2, v2⟩ := b
  simp [Wy.row] at h
  simp [h]
theorem Wy.order_neg (a b : Wy) : b.order a = - a.order b := by rw [Wy.order_lex, Wy.order_lex, lexI_neg]
theorem Wy.order_zero {a b : Wy} : a.order b = 0 ↔ a = b := by
  rw [Wy.order_lex, lexI_zero _ _ (by simp [Wy.row])]
  exact ⟨Wy.row_inj, fun e => by rw [e]⟩
theorem Wy.order_tr {a b c : Wy} (h : a.order b ≤ 0) (h' : b.order c ≤ 0) : a.order c ≤ 0 := by
  rw [Wy.order_lex] at *
  exact lexI_tr _ _ _ (by simp [Wy.row]) (by simp [Wy.row]) h h'
/-- The first of some numbers that is not zero. -/
def fst0 : List Int → Int
  | [] => 0
  | x :: r => if x = 0 then fst0 r else x
theorem Ad.order_zero {a b : Ad} : a.order b = 0 ↔ a.same b = true := by
  rw [Ad.order_lex, lexI_zero _ _ (by simp), Ad.same_eq]; simp
theorem Wy.order_fst (a b : Wy) : a.order b = fst0 [cmp3 a.fam b.fam, cmp3 a.pr b.pr, a.s.order b.s, a.d.order b.d, cmp3 a.sp b.sp, cmp3 a.dp b.dp] := by
  unfold Wy.order
  simp only [fst0, cmp3_zero, Ad.order_zero]
  (repeat' split) <;> first | rfl | (rw [cmp3_zero]; assumption)
def Wy.eqB (a b : Wy) : Bool := a.fam == b.fam && (a.pr == b.pr && ((a.s.fam == b.s.fam && (a.s.hi == b.s.hi && a.s.lo == b.s.lo)) && ((a.d.fam == b.d.fam && (a.d.hi == b.d.hi && a.d.lo == b.d.lo)) && (a.sp == b.sp && a.dp == b.dp))))
theorem Wy.eqB_iff (a b : Wy) : a.eqB b = true ↔ a = b := by
  obtain ⟨f, pr, ⟨sf, sh, sl⟩, ⟨df, dh, dl⟩, sp, dp⟩ := a
  obtain ⟨f', pr', ⟨sf', sh', sl'⟩, ⟨df', dh', dl'⟩, sp', dp'⟩ := b
  simp [Wy.eqB]
set_option maxRecDepth 100000 in
set_option maxHeartbeats 4000000 in
theorem eql_way (a b : Wy) (w : World) : (Go.binOp .eql 26 (.agg a.v) (.agg b.v)).run Try.prog w = Result.ok (.bool (a.eqB b)) w := by
  obtain ⟨f, pr, ⟨sf, sh, sl⟩, ⟨df, dh, dl⟩, sp, dp⟩ := a
  obtain ⟨f', pr', ⟨sf', sh', sl'⟩, ⟨df', dh', dl'⟩, sp', dp'⟩ := b
  unfold Wy.eqB
  simp only
  by_cases h1 : f = f'
  case neg => simp [go_sem, h1]
  subst h1
  by_cases h2 : pr = pr'
  case neg => simp [go_sem, h2]
  subst h2
  by_cases h3 : sf = sf'
  case neg => simp [go_sem, h3]
  subst h3
  by_cases h4 : sh = sh'
  case neg => simp [go_sem, h4]
  subst h4
  by_cases h5 : sl = sl'
  case neg => simp [go_sem, h5]
  subst h5
  by_cases h6 : df = df'
  case neg => simp [go_sem, h6]
  subst h6
  by_cases h7 : dh = dh'
  case neg => simp [go_sem, h7]
  subst h7
  by_cases h8 : dl = dl'
  case neg => simp [go_sem, h8]
  subst h8
  by_cases h9 : sp = sp'
  case neg => simp [go_sem, h9]
  subst h9
  by_cases h : dp = dp' <;> simp [go_sem, h]
/-- A flow. -/
structure Fl where
  w : Wy
  c : Cn
  ends : Int
  help : Int
  both : Bool
abbrev Fl.v (f : Fl) : Array Value := #[.int .i64 f.w.fam, .int .i64 f.w.pr, .int .i64 f.w.s.fam, .int .u64 f.w.s.hi, .int .u64 f.w.s.lo, .int .i64 f.w.d.fam, .int .u64 f.w.d.hi, .int .u64 f.w.d.lo, .int .i64 f.w.sp, .int .i64 f.w.dp, .int .i64 f.c.st, .int .u32 f.c.n0, .int .u32 f.c.n1, .int .u32 f.c.e0, .int .u32 f.c.e1, .bool f.c.k0, .bool f.c.k1, .bool f.c.d0, .bool f.c.d1, .int .i64 f.ends, .int .i64 f.help, .bool f.both]
/-- A segment. -/
structure Sm where
  w : Wy
  fl : Int
  sq : Int
  ak : Int
  win : Int
  ty : Int
  co : Int
  er : Bool
  inn : Wy
  da : Option Addr
  dn : Nat
  dc : Nat
abbrev Sm.v (s : Sm) : Array Value := #[.int .i64 s.w.fam, .int .i64 s.w.pr, .int .i64 s.w.s.fam, .int .u64 s.w.s.hi, .int .u64 s.w.s.lo, .int .i64 s.w.d.fam, .int .u64 s.w.d.hi, .int .u64 s.w.d.lo, .int .i64 s.w.sp, .int .i64 s.w.dp, .int .i64 s.fl, .int .u32 s.sq, .int .u32 s.ak, .int .i64 s.win, .int .i64 s.ty, .int .i64 s.co, .bool s.er, .int .i64 s.inn.fam, .int .i64 s.inn.pr, .int .i64 s.inn.s.fam, .int .u64 s.inn.s.hi, .int .u64 s.inn.s.lo, .int .i64 s.inn.d.fam, .int .u64 s.inn.d.hi, .int .u64 s.inn.d.lo, .int .i64 s.inn.sp, .int .i64 s.inn.dp, .slice s.da s.dn s.dc]
abbrev wy0 : Wy := ⟨0, 0, ⟨0, 0, 0⟩, ⟨0, 0, 0⟩, 0, 0⟩
def fl0 : Fl := ⟨wy0, cn0, 0, 0, false⟩
/-- What of a segment the stream asks for. -/
def Sm.g (s : Sm) : Gt := ⟨s.fl, s.win, s.dn, s.sq, s.ak⟩
def nowB (n : Int) : Bool := decide (0 ≤ n) && decide (n ≤ 4611686018427384304)
def hlpB (h : Int) : Bool := decide (0 ≤ h) && decide (h ≤ 3)
def endB (n : Int) : Bool := decide (0 ≤ n) && decide (n ≤ 4611686018427387904)
def Cn.zB (c : Cn) : Bool := c.st == 0 && ((c.n0 == 0 && c.n1 == 0) && ((c.e0 == 0 && c.e1 == 0) && ((c.k0 == false && c.k1 == false) && (c.d0 == false && c.d1 == false))))
def Fl.cnB (f : Fl) : Bool := if f.w.pr == 6 then f.c.right else f.c.zB
def Fl.right (f : Fl) : Bool := f.w.right && (endB f.ends && (hlpB f.help && f.cnB))
def Fl.life (f : Fl) : Int := if f.w.pr == 6 then f.c.life else if f.w.pr == 17 then (if f.both then 180 else 30) else 10
/-- The time of a flow behind a packet that came now. -/
def Fl.keep (f : Fl) (now : Int) : Fl := { f with ends := now + f.life }
/-- The type of an echo of a side. -/
def ecT (pr : Int) (side : Bool) : Int := if pr == 58 then (if side then 129 else 128) else (if side then 0 else 8)
def Sm.ec (s : Sm) (side : Bool) : Bool := s.ty == ecT s.w.pr side && s.co == 0
def Sm.beg (s : Sm) : Cn × Int := if s.w.pr == 6 then Go.Proofs.Ytmjjdbkipagkbaa.beg s.fl s.sq s.win s.dn else if s.w.pr == 17 || s.ec false then (cn0, 0) else (cn0, 23)
def startF (s : Sm) (now help : Int) : Fl × Int :=
  if s.w.right && (nowB now && hlpB help) then (if s.beg.2 == 0 then (Fl.keep ⟨s.w, s.beg.1, 0, help, false⟩ now, 0) else (fl0, s.beg.2)) else (fl0, 1)
def Fl.way (f : Fl) (side : Bool) : Wy := if side then f.w.rev else f.w
def Sm.stp (s : Sm) (c : Cn) (side : Bool) : Cn × Int := if s.w.pr == 6 then c.step (if side then 1 else 0) s.g else if s.w.pr == 17 || s.ec side then (c, 0) else (cn0, 23)
def Fl.goS (f : Fl) (side : Bool) (s : Sm) (now : Int) : Fl × Int :=
  if f.right && nowB now then
    (if s.w.eqB (f.way side) then (if (s.stp f.c side).2 == 0 then (Fl.keep ⟨f.w, (s.stp f.c side).1, f.ends, f.help, f.both || side⟩ now, 0) else (fl0, (s.stp f.c side).2)) else (fl0, 23))
  else (fl0, 1)
def Fl.go (f : Fl) (side : Int) (s : Sm) (now : Int) : Fl × Int := if side == 0 then f.goS false s now else if side == 1 then f.goS true s now else (fl0, 1)
theorem life_bd (f : Fl) (h : f.cnB = true) : 1 ≤ f.life ∧ f.life ≤ 3600 := by
  unfold Fl.cnB at h
  unfold Fl.life Cn.life
  cases h6 : (f.w.pr == 6)
  · simp only [Bool.false_eq_true, if_false]
    (repeat' split) <;> omega
  · rw [h6] at h
    simp only [if_true] at h
    rw [h]
    simp only [if_true]
    (repeat' split) <;> omega
theorem beg_right {fl sq win sz : Int} (h : (beg fl sq win sz).2 = 0) : (beg fl sq win sz).1.right = true := by
  unfold beg at h ⊢
  split
  · split
    · rfl
    · rename_i h1 h2; rw [if_pos h1, if_neg h2] at h; simp at h
  · rename_i h1; rw [if_neg h1] at h; simp at h
end Go.Proofs.Ytmjjdbkipagkbaa
