/- The law WirePuts returns true. -/
import Derived.Test.YtpklhkoclcpjbaaPuts
import Derived.Test.YtpklhkoclcpjbaaAnys
import Derived.Test.YtpklhkoclcpjbaaAlive
namespace Go.Proofs.Ytpklhkoclcpjbaa
open Go.RowKit
set_option linter.unusedVariables false

set_option maxHeartbeats 1000000 in
theorem wirePuts_walk (a : Option Addr) (c : Nat) (l : List Int) (n u : Int) (w : World) (hc : l.length ≤ c) (hm : c ≤ 140737488351232) (hnil : a = none → c = 0) (h : Row w a l)
    (hn : (Lit.int .i64 n).wf = true) (hu : (Lit.int .u32 u).wf = true) :
    Calls Try.prog 4 #[.slice a l.length c, .int .i64 n, .int .u32 u] w fun e w' => e = .returned (.bool true) ∧ Below w.heap.size w w' := by
  have hu' : 0 ≤ u ∧ u ≤ 4294967295 := by simpa [Lit.wf, IntKind.min, IntKind.max, IntKind.signed, IntKind.bits] using hu
  have hl : l.length ≤ 140737488351232 := by omega
  clear hn hu
  have e16 := u16_put l n
  have e32 := u32_put l u
  have l16 : (put16 l n).length ≤ l.length + 2 ∧ l.length + 2 ≤ (put16 l n).length := by rw [put16_length]; omega
  have l32 : (put32 l u).length ≤ l.length + 4 ∧ l.length + 4 ≤ (put32 l u).length := by rw [put32_length]; omega
  have ea := i64_and65535 n
  go_enter Try.func4, Try.ntmps4
  go_wp2_with fail
  refine (put16_any _ _ l _ _ h hnil hl).mono ?_
  rintro e w1 ⟨a1, c1, rfl, f1⟩
  have b1 := f1.below
  have z1 := b1.size
  have r1 := f1.row
  clear f1
  go_wp2_with fail
  refine (put32_any _ _ l _ _ (h.below b1) hnil hl hu').mono ?_
  rintro e w2 ⟨a2, c2, rfl, f2⟩
  have b2 : Below w.heap.size w w2 := b1.trans (f2.below.mono z1)
  replace r1 := r1.below f2.below
  have z2 := b2.size
  have r2 := f2.row
  clear f2 b1 z1
  go_wp2_with fail
  refine (rput16_any _ _ l _ _ (h.below b2) hnil hl).mono ?_
  rintro e w3 ⟨a3, c3, rfl, f3⟩
  have b3 : Below w.heap.size w w3 := b2.trans (f3.below.mono z2)
  replace r1 := r1.below f3.below
  replace r2 := r2.below f3.below
  have z3 := b3.size
  have r3 := f3.row
  clear f3 b2 z2
  go_wp2_with fail
  refine (same_any _ _ _ _ (put16 l n) _ r1 r3).mono ?_
  rintro e w' ⟨rfl, rfl⟩
  go_wp2_with fail
  refine (rput32_any _ _ l _ _ (h.below b3) hnil hl hu').mono ?_
  rintro e w4 ⟨a4, c4, rfl, f4⟩
  have b4 : Below w.heap.size w w4 := b3.trans (f4.below.mono z3)
  replace r1 := r1.below f4.below
  replace r2 := r2.below f4.below
  have z4 := b4.size
  have r4 := f4.row
  clear f4 b3 z3 r3
  go_wp2_with fail
  refine (same_any _ _ _ _ (put32 l u) _ r2 r4).mono ?_
  rintro e w' ⟨rfl, rfl⟩
  clear r4
  go_wp2_with fail
  refine (u16_yes _ _ (put16 l n) _ _ r1 (by omega) (by omega)).mono ?_
  rintro e w5 ⟨rfl, k5, rfl⟩
  go_wp2_with fail
  refine (u32_yes _ _ (put32 l u) _ _ (r2.drewN k5) (by omega) (by omega)).mono ?_
  rintro e w6 ⟨rfl, k6, rfl⟩
  go_wp2_with (first
    | (go_at_call 16; refine (alive_any _).mono ?_; rintro e w' ⟨rfl, hb⟩))
  go_ret
  exact ⟨rfl, (below_drewN b4 (k5 + k6)).trans (hb.mono (by simp; omega))⟩
end Go.Proofs.Ytpklhkoclcpjbaa
