/- Texts joined: FrA -/
import Derived.Test.YtmmnjjcopdabcaaTcx7
import Derived.Test.YtmmnjjcopdabcaaTcx11
import Derived.Deep.DeepCutAuto
import Derived.RegionTactic
import Derived.BigRegion
namespace Go.Proofs.Ytmmnjjcopdabcaa
open Go.RowKit
set_option linter.unusedVariables false
set_option linter.unusedSimpArgs false
/-- A rule, as its numbers. -/
structure Rl where
 fr : Int
 tz : Int
 s : Ad
 sn : Int
 d : Ad
 dn : Int
 pr : Int
 sl : Int
 sh : Int
 dl : Int
 dh : Int
 ac : Int
 he : Int
abbrev Rl.v (r : Rl) : Array Value := #[.int .i64 r.fr, .int .i64 r.tz, .int .i64 r.s.fam, .int .u64 r.s.hi, .int .u64 r.s.lo, .int .i64 r.sn, .int .i64 r.d.fam, .int .u64 r.d.hi, .int .u64 r.d.lo, .int .i64 r.dn, .int .i64 r.pr, .int .i64 r.sl, .int .i64 r.sh, .int .i64 r.dl, .int .i64 r.dh, .int .i64 r.ac, .int .i64 r.he]
structure Rl.ok (r : Rl) : Prop where
 s : r.s.ok
 d : r.d.ok
/-- A key, as its numbers. -/
structure Ky where
 fr : Int
 tz : Int
 s : Ad
 d : Ad
 pr : Int
 sp : Int
 dp : Int
abbrev Ky.v (k : Ky) : Array Value := #[.int .i64 k.fr, .int .i64 k.tz, .int .i64 k.s.fam, .int .u64 k.s.hi, .int .u64 k.s.lo, .int .i64 k.d.fam, .int .u64 k.d.hi, .int .u64 k.d.lo, .int .i64 k.pr, .int .i64 k.sp, .int .i64 k.dp]
structure Ky.ok (k : Ky) : Prop where
 s : k.s.ok
 d : k.d.ok
def inB (n lo hi : Int) : Bool := decide (lo ≤ n) && decide (n ≤ hi)
def zeroP (a : Ad) (n : Int) : Bool := a.fam == 0 && (a.hi == 0 && (a.lo == 0 && n == 0))
def netB (a : Ad) (n : Int) : Bool := zeroP a n || a.rightPrefix n
def portB (lo hi : Int) : Bool := decide (0 ≤ lo) && (decide (lo ≤ hi) && decide (hi ≤ 65535))
def Ky.right (k : Ky) : Bool := inB k.fr 0 15 && (inB k.tz 0 15 && (k.s.right && (k.d.right && ((k.s.fam == k.d.fam) && (inB k.pr 0 255 && (inB k.sp 0 65535 && inB k.dp 0 65535))))))
def Rl.right (r : Rl) : Bool := inB r.fr (-1) 15 && (inB r.tz (-1) 15 && (netB r.s r.sn && (netB r.d r.dn && (inB r.pr 0 255 && (portB r.sl r.sh && (portB r.dl r.dh && ((r.ac == 0 || r.ac == 1) && inB r.he 0 3)))))))
end Go.Proofs.Ytmmnjjcopdabcaa
