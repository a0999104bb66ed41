/- The law Ip6Walks returns true. -/
import Derived.Test.YtihjdlndohljoaaIp6U
namespace Go.Proofs.Ytihjdlndohljoaa
open Go.RowKit
set_option linter.unusedVariables false
set_option linter.unusedSimpArgs false

set_option maxHeartbeats 2000000 in
theorem ip6Walks_walk (nx : Int) (a : Option Addr) (c : Nat) (l : List Int) (W : World) (hx : (Lit.int .i64 nx).wf = true) (hc : l.length ≤ c) (hcm : c ≤ 140737488351232) (hnil : a = none → c = 0) (hr : Row W a l) :
    Calls Try.prog 3 #[.int .i64 nx, .slice a l.length c] W fun e w' => e = .returned (.bool true) ∧ Below W.heap.size W w' := by
  have K1 := walk6_any nx a c l W hr hc (by omega) hnil
  have K2 : ∀ X, Row X a l → _ := fun X hX => rwalk_any nx a c l X hX hc (by omega) hnil
  obtain ⟨T, hT⟩ : ∃ T, wS nx l = T := ⟨_, rfl⟩
  obtain ⟨E, hE⟩ : ∃ E, wE nx l = E := ⟨_, rfl⟩
  rw [hT, hE] at K1
  simp only [hT, hE] at K2
  clear hT hE
  obtain ⟨n, tl, ex, met, cut, id, off, more⟩ := T
  simp only at K1 K2
  have HK1 : Hid _ := K1
  have HK2 : Hid _ := K2
  clear K1 K2
  go_enter Try.func3, Try.ntmps3
  go_wp2_with fail
  refine Calls.mono HK1.out ?_
  rintro e w1 ⟨xa, xc, a1, c1, rfl, f1, o1, l8⟩
  have b1 := f1.below
  have r1 := f1.row
  have HO1 : Hid (RowI w1 xa ex ∧ Row w1 a1 tl ∧ Row w1 a l) := ⟨o1.row (by omega), r1, hr.below b1⟩
  clear f1 o1 r1 HK1
  go_wp2_with fail
  refine Calls.mono (HK2.out w1 HO1.out.2.2) ?_
  rintro e w2 ⟨ya, yc, a2, c2, rfl, f2, o2, _⟩
  have b2 := f2.below
  have HO2 : Hid (RowI w2 xa ex ∧ Row w2 a1 tl ∧ RowI w2 ya ex ∧ Row w2 a2 tl) := ⟨HO1.out.1.below b2, HO1.out.2.1.below b2, o2.row (by omega), f2.row⟩
  have B2 : Hid (Below W.heap.size W w2) := b1.trans (b2.mono b1.size)
  have KI := sameInts_any xa ya xc yc ex ex w2 HO2.out.1 HO2.out.2.2.1
  rw [show decide (ex = ex) = true by simp] at KI
  have HKI : Hid _ := KI
  clear f2 o2 HK2 b1 b2 KI
  go_wp2_with fail
  refine Calls.mono HKI.out ?_
  rintro e w3 ⟨rfl, m, hw3⟩
  have b3 : Below w2.heap.size w2 w3 := by rw [hw3]; exact below_drewN (Below.refl _ _) m
  have HKS : Hid _ := same_any a1 a2 c1 c2 tl w3 (HO2.out.2.1.below b3) (HO2.out.2.2.2.below b3)
  have B3 : Hid (Below W.heap.size W w3) := B2.out.trans (b3.mono B2.out.size)
  clear hw3 HKI b3
  go_wp2_with fail
  refine Calls.mono HKS.out ?_
  rintro e w4 ⟨rfl, hw4⟩
  rw [hw4]
  clear hw4 HKS w4
  go_wp2_with fail
  refine (alive6_any w3).mono ?_
  rintro e w5 ⟨rfl, b5⟩
  have bc : Hid (Below W.heap.size W w5) := B3.out.trans (b5.mono B3.out.size)
  clear b5
  go_wp2
  go_ret
  exact ⟨rfl, bc.out⟩
end Go.Proofs.Ytihjdlndohljoaa
