/- The law WireReads returns true. -/
import Derived.Test.YtpklhkoclcpjbaaAnys
import Derived.Test.YtpklhkoclcpjbaaAlive
namespace Go.Proofs.Ytpklhkoclcpjbaa
open Go.RowKit
set_option linter.unusedVariables false

set_option maxHeartbeats 1000000 in
theorem wireReads_walk (a : Option Addr) (c : Nat) (l : List Int) (x n : Int) (w : World) (hc : l.length ≤ c) (hm : c ≤ 140737488351232) (hnil : a = none → c = 0) (h : Row w a l)
    (hx : (Lit.int .i64 x).wf = true) (hn : (Lit.int .i64 n).wf = true) :
    Calls Try.prog 3 #[.slice a l.length c, .int .i64 x, .int .i64 n] w fun e w' => e = .returned (.bool true) ∧ Below w.heap.size w w' := by
  have hx' : -9223372036854775808 ≤ x ∧ x ≤ 9223372036854775807 := by simpa [Lit.wf, IntKind.min, IntKind.max, IntKind.signed, IntKind.bits] using hx
  clear hx hn
  go_enter Try.func3, Try.ntmps3
  go_wp2_with fail
  refine (u16_any _ _ l _ _ h hx').mono ?_
  rintro e w1 ⟨rfl, b1⟩
  have z1 := b1.size
  go_wp2_with fail
  refine (ru16_any _ _ l _ _ (h.below b1) hnil (by omega) hc (by omega) hx').mono ?_
  rintro e w2 ⟨rfl, b2'⟩
  have b2 : Below w.heap.size w w2 := b1.trans (b2'.mono z1)
  have z2 := b2.size
  clear b1 b2' z1
  go_wp2_with fail
  refine (u32_any _ _ l _ _ (h.below b2) hx').mono ?_
  rintro e w3 ⟨rfl, b3'⟩
  have b3 : Below w.heap.size w w3 := b2.trans (b3'.mono z2)
  have z3 := b3.size
  clear b2 b3' z2
  go_wp2_with fail
  refine (ru32_any _ _ l _ _ (h.below b3) hnil (by omega) hc (by omega) hx').mono ?_
  rintro e w4 ⟨rfl, b4'⟩
  have b4 : Below w.heap.size w w4 := b3.trans (b4'.mono z3)
  have z4 := b4.size
  clear b3 b4' z3
  go_wp2_with fail
  refine (part_any _ _ l _ n _ (h.below b4) hnil (by omega) hc (by omega) hx').mono ?_
  rintro e w5 ⟨a5, c5, rfl, f5⟩
  have b5 : Below w.heap.size w w5 := b4.trans (f5.below.mono z4)
  have z5 := b5.size
  have r5 := f5.row
  clear b4 z4 f5
  go_wp2_with fail
  refine (rpart_any _ _ l _ n _ (h.below b5) hnil (by omega) hc (by omega) hx').mono ?_
  rintro e w6 ⟨a6, c6, rfl, f6⟩
  have b6 : Below w.heap.size w w6 := b5.trans (f6.below.mono z5)
  have z6 := b6.size
  have r6 := f6.row
  replace r5 := r5.below f6.below
  clear b5 z5 f6
  generalize u16v l x = U at *
  generalize u32v l x = V at *
  generalize liesB l.length x 2 = B2 at *
  generalize liesB l.length x 4 = B4 at *
  generalize liesB l.length x n = Bn at *
  generalize partv l x n = p at *
  go_wp2_with (first
    | (go_at_call 15; refine (same_any _ _ _ _ p _ r5 r6).mono ?_; rintro e w' ⟨rfl, rfl⟩)
    | (go_at_call 16; refine (alive_any _).mono ?_; rintro e w' ⟨rfl, hb⟩))
  go_ret
  exact ⟨rfl, b6.trans (hb.mono z6)⟩
end Go.Proofs.Ytpklhkoclcpjbaa
