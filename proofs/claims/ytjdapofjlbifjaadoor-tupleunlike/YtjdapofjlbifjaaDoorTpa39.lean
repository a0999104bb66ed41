/- Texts joined: TuN -/
import Derived.Test.YtjdapofjlbifjaaDoorTpa10
namespace Go.Proofs.YtjdapofjlbifjaaDoor
open Go.RowKit
set_option linter.unusedVariables false
set_option linter.unusedSimpArgs false
def Wy.eqB (a b : Wy) : Bool := a.fam == b.fam && (a.pr == b.pr && ((a.s.fam == b.s.fam && (a.s.hi == b.s.hi && a.s.lo == b.s.lo)) && ((a.d.fam == b.d.fam && (a.d.hi == b.d.hi && a.d.lo == b.d.lo)) && (a.sp == b.sp && a.dp == b.dp))))
theorem Wy.eqB_iff (a b : Wy) : a.eqB b = true ↔ a = b := by
  obtain ⟨f, pr, ⟨sf, sh, sl⟩, ⟨df, dh, dl⟩, sp, dp⟩ := a
  obtain ⟨f', pr', ⟨sf', sh', sl'⟩, ⟨df', dh', dl'⟩, sp', dp'⟩ := b
  simp [Wy.eqB]
set_option maxRecDepth 100000 in
set_option maxHeartbeats 4000000 in
theorem eql_way (a b : Wy) (w : World) : (Go.binOp .eql 26 (.agg a.v) (.agg b.v)).run Tryd.prog w = Result.ok (.bool (a.eqB b)) w := by
  obtain ⟨f, pr, ⟨sf, sh, sl⟩, ⟨df, dh, dl⟩, sp, dp⟩ := a
  obtain ⟨f', pr', ⟨sf', sh', sl'⟩, ⟨df', dh', dl'⟩, sp', dp'⟩ := b
  unfold Wy.eqB
  simp only
  by_cases h1 : f = f'
  case neg => simp [go_sem, h1]
  subst h1
  by_cases h2 : pr = pr'
  case neg => simp [go_sem, h2]
  subst h2
  by_cases h3 : sf = sf'
  case neg => simp [go_sem, h3]
  subst h3
  by_cases h4 : sh = sh'
  case neg => simp [go_sem, h4]
  subst h4
  by_cases h5 : sl = sl'
  case neg => simp [go_sem, h5]
  subst h5
  by_cases h6 : df = df'
  case neg => simp [go_sem, h6]
  subst h6
  by_cases h7 : dh = dh'
  case neg => simp [go_sem, h7]
  subst h7
  by_cases h8 : dl = dl'
  case neg => simp [go_sem, h8]
  subst h8
  by_cases h9 : sp = sp'
  case neg => simp [go_sem, h9]
  subst h9
  by_cases h : dp = dp' <;> simp [go_sem, h]
end Go.Proofs.YtjdapofjlbifjaaDoor
