/- Texts joined: TuP TuN -/
import Derived.Test.YtmflogmocgbmhaaXpa3
import Derived.Deep.RegionHeld3
namespace Go.Proofs.Ytmflogmocgbmhaa
open Go.RowKit
set_option linter.unusedVariables false
set_option linter.unusedSimpArgs false
/-- A way: its family, its protocol, its ends and their ports. -/
structure Wy where
  fam : Int
  pr : Int
  s : Ad
  d : Ad
  sp : Int
  dp : Int
abbrev Wy.v (t : Wy) : Array Value := #[.int .i64 t.fam, .int .i64 t.pr, .int .i64 t.s.fam, .int .u64 t.s.hi, .int .u64 t.s.lo, .int .i64 t.d.fam, .int .u64 t.d.hi, .int .u64 t.d.lo, .int .i64 t.sp, .int .i64 t.dp]
structure Wy.ok (t : Wy) : Prop where
  s : t.s.ok
  d : t.d.ok
def sideB (f : Int) (a : Ad) (p : Int) : Bool := a.fam == f && (a.right && (decide (0 ≤ p) && decide (p ≤ 65535)))
/-- The name of a protocol. -/
def nameB (f p : Int) : List UInt8 := if p = 6 then [116, 99, 112] else if p = 17 then [117, 100, 112] else if p = 1 ∧ f = 4 then [105, 99, 109, 112] else if p = 58 ∧ f = 6 then [105, 99, 109, 112, 54] else []
def Wy.right (t : Wy) : Bool := sideB t.fam t.s t.sp && (sideB t.fam t.d t.dp && (nameB t.fam t.pr != []))
theorem sideB_iff {f : Int} {a : Ad} {p : Int} : sideB f a p = true ↔ a.fam = f ∧ a.right = true ∧ 0 ≤ p ∧ p ≤ 65535 := by simp [sideB]
theorem Wy.right_iff {t : Wy} : t.right = true ↔ sideB t.fam t.s t.sp = true ∧ sideB t.fam t.d t.dp = true ∧ nameB t.fam t.pr ≠ [] := by simp [Wy.right]
def Wy.row (t : Wy) : List Int := [t.fam, t.pr, t.s.fam, t.s.hi, t.s.lo, t.d.fam, t.d.hi, t.d.lo, t.sp, t.dp]
def Wy.eqB (a b : Wy) : Bool := a.fam == b.fam && (a.pr == b.pr && ((a.s.fam == b.s.fam && (a.s.hi == b.s.hi && a.s.lo == b.s.lo)) && ((a.d.fam == b.d.fam && (a.d.hi == b.d.hi && a.d.lo == b.d.lo)) && (a.sp == b.sp && a.dp == b.dp))))
theorem Wy.eqB_iff (a b : Wy) : a.eqB b = true ↔ a = b := by
  obtain ⟨f, pr, ⟨sf, sh, sl⟩, ⟨df, dh, dl⟩, sp, dp⟩ := a
  obtain ⟨f', pr', ⟨sf', sh', sl'⟩, ⟨df', dh', dl'⟩, sp', dp'⟩ := b
  simp [Wy.eqB]
set_option maxRecDepth 100000 in
set_option maxHeartbeats 4000000 in
theorem eql_way (a b : Wy) (w : World) : (Go.binOp .eql 26 (.agg a.v) (.agg b.v)).run Try.prog w = Result.ok (.bool (a.eqB b)) w := by
  obtain ⟨f, pr, ⟨sf, sh, sl⟩, ⟨df, dh, dl⟩, sp, dp⟩ := a
  obtain ⟨f', pr', ⟨sf', sh', sl'⟩, ⟨df', dh', dl'⟩, sp', dp'⟩ := b
  unfold Wy.eqB
  simp only
  by_cases h1 : f = f'
  case neg => simp [go_sem, h1]
  subst h1
  by_cases h2 : pr = pr'
  case neg => simp [go_sem, h2]
  subst h2
  by_cases h3 : sf = sf'
  case neg => simp [go_sem, h3]
  subst h3
  by_cases h4 : sh = sh'
  case neg => simp [go_sem, h4]
  subst h4
  by_cases h5 : sl = sl'
  case neg => simp [go_sem, h5]
  subst h5
  by_cases h6 : df = df'
  case neg => simp [go_sem, h6]
  subst h6
  by_cases h7 : dh = dh'
  case neg => simp [go_sem, h7]
  subst h7
  by_cases h8 : dl = dl'
  case neg => simp [go_sem, h8]
  subst h8
  by_cases h9 : sp = sp'
  case neg => simp [go_sem, h9]
  subst h9
  by_cases h : dp = dp' <;> simp [go_sem, h]
end Go.Proofs.Ytmflogmocgbmhaa
