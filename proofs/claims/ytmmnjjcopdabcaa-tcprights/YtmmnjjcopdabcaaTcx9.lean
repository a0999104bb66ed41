/- Texts joined: TcA -/
import Derived.Test.YtmmnjjcopdabcaaTcx8
namespace Go.Proofs.Ytmmnjjcopdabcaa
open Go.RowKit
set_option linter.unusedVariables false
set_option linter.unusedSimpArgs false
/-- A stream: its state, of each side what comes next, how far it may go, whether it is known, and has ended. -/
structure Cn where
 st : Int
 n0 : Int
 n1 : Int
 e0 : Int
 e1 : Int
 k0 : Bool
 k1 : Bool
 d0 : Bool
 d1 : Bool
abbrev Cn.v (c : Cn) : Array Value := #[.int .i64 c.st, .int .u32 c.n0, .int .u32 c.n1, .int .u32 c.e0, .int .u32 c.e1, .bool c.k0, .bool c.k1, .bool c.d0, .bool c.d1]
/-- A segment. -/
structure Gt where
 fl : Int
 win : Int
 sz : Int
 sq : Int
 ak : Int
abbrev Gt.v (g : Gt) : Array Value := #[.int .i64 g.fl, .int .i64 g.win, .int .i64 g.sz, .int .u32 g.sq, .int .u32 g.ak]
def cn0 : Cn := ⟨0, 0, 0, 0, 0, false, false, false, false⟩
def flB (f k : Int) : Bool := bits .and .i64 f k != 0
def frB (a b : Int) : Bool := decide ((a - b) % 4294967296 < 2147483648)
def inB15 (n : Int) : Bool := decide (0 ≤ n) && decide (n ≤ 65535)
def bN (b : Bool) : Int := if b then 1 else 0
def Gt.e (g : Gt) : Int := (g.sq + g.sz + bN (flB g.fl 2) + bN (flB g.fl 1)) % 4294967296
def Gt.lim (g : Gt) : Int := (g.ak + g.win) % 4294967296
def wiB (n x l : Int) : Bool := frB n ((x - 65535) % 4294967296) && frB l n
def stOf (a b : Bool) : Int := if a && b then 5 else if a || b then 4 else 3
def Cn.right (c : Cn) : Bool :=
 if c.st == 1 then c.k0 && (!c.k1 && (!c.d0 && !c.d1))
 else if c.st == 2 then c.k0 && (c.k1 && (!c.d0 && !c.d1))
 else if c.st == 3 || (c.st == 4 || c.st == 5) then c.k0 && (c.k1 && c.st == stOf c.d0 c.d1)
 else if c.st == 6 then c.k0 else false
/-- Of the two sides: false the one that began. -/
def Cn.nx (c : Cn) (s : Bool) : Int := if s then c.n1 else c.n0
def Cn.ed (c : Cn) (s : Bool) : Int := if s then c.e1 else c.e0
def Cn.kn (c : Cn) (s : Bool) : Bool := if s then c.k1 else c.k0
def sdI (s : Bool) : Int := if s then 1 else 0
def Cn.win (c : Cn) (s : Bool) (g : Gt) : Bool := c.kn s && wiB g.e (c.nx s) (c.ed s)
def Cn.rst (c : Cn) (s : Bool) (g : Gt) : Option Cn :=
 if c.win s g || (s && (c.st == 1 && (flB g.fl 16 && g.ak == c.n0))) then some { c with st := 6 } else none
def Cn.ans (c : Cn) (g : Gt) : Cn := { c with st := 2, k1 := true, n1 := g.e, e0 := g.lim, e1 := (g.e + c.e1) % 4294967296 }
def Cn.syn (c : Cn) (s : Bool) (g : Gt) : Option Cn :=
 if flB g.fl 1 || g.sz != 0 then none
 else if s = false then (if c.st == 1 && (!flB g.fl 16 && g.e == c.n0) then some c else none)
 else if !flB g.fl 16 || g.ak != c.n0 then none
 else if c.st == 1 then some (c.ans g)
 else if c.st == 2 && g.e == c.n1 then some c else none
/-- Behind bytes: E the end, L how far the other side may go; P, O: do they count? F: is it the last of this side? -/
def Cn.byR (c : Cn) (s : Bool) (E L : Int) (P O F : Bool) : Cn :=
 ⟨stOf (if !s && F then true else c.d0) (if s && F then true else c.d1), if !s && P then E else c.n0, if s && P then E else c.n1, if s && O then L else c.e0, if !s && O then L else c.e1, c.k0, c.k1, if !s && F then true else c.d0, if s && F then true else c.d1⟩
def Cn.byt (c : Cn) (s : Bool) (g : Gt) : Option Cn :=
 if c.win s g && wiB g.ak (c.nx (!s)) (c.nx (!s)) then some (c.byR s g.e g.lim (frB g.e (c.nx s)) (frB g.lim (c.ed (!s))) (flB g.fl 1)) else none
def Cn.take (c : Cn) (s : Bool) (g : Gt) : Option Cn :=
 if flB g.fl 4 then c.rst s g
 else if c.st == 6 then none
 else if flB g.fl 2 then c.syn s g
 else if !flB g.fl 16 || (c.st == 1 || (s && c.st == 2)) then none
 else c.byt s g
def Cn.stp (c : Cn) (s : Bool) (g : Gt) : Cn × Int := if c.right && (inB15 g.win && inB15 g.sz) then (match c.take s g with | some d => (d, 0) | none => (cn0, 23)) else (cn0, 1)
def Cn.step (c : Cn) (i : Int) (g : Gt) : Cn × Int := if i == 0 then c.stp false g else if i == 1 then c.stp true g else (cn0, 1)
def Cn.life (c : Cn) : Int := if c.right then (if c.st == 3 then 3600 else if c.st == 4 then 60 else if c.st == 6 then 1 else 30) else 0
def beg (f sq win sz : Int) : Cn × Int :=
 if inB15 win && inB15 sz then (if bits .and .i64 f 23 == 2 && sz == 0 then (⟨1, (sq + 1) % 4294967296, 0, (sq + 1) % 4294967296, win % 4294967296, true, false, false, false⟩, 0) else (cn0, 23)) else (cn0, 1)
end Go.Proofs.Ytmmnjjcopdabcaa
