/- The law FirstKeeps returns true. -/
import Derived.Test.YtmlddgmkbbaccaaFrP
import Derived.Test.YtmlddgmkbbaccaaFrQ
namespace Go.Proofs.Ytmlddgmkbbaccaa
open Go.RowKit
set_option linter.unusedVariables false
set_option linter.unusedSimpArgs false
set_option maxRecDepth 100000 in
set_option maxHeartbeats 4000000 in
theorem firstKeeps_walk (a : Option Addr) (c : Nat) (l : List Rl) (w : World) (lc : l.length ≤ c) (cm : c * 136 ≤ 140737488351232 ∧ (a = none → c = 0)) (hrow : RowR w a l) :
    Calls Try.prog 5 #[.slice a l.length c] w fun e w' => e = .returned (.bool true) ∧ Below w.heap.size w w' := by
  replace cm := cm.1
  have KA : Hid (∀ W, Calls Try.prog 15 #[] W fun e w' => e = .returned (.bool true) ∧ Below W.heap.size W w') := alive_any
  have HRow : Hid (RowR w a l) := hrow
  by_cases h5 : 500 < l.length
  · have i5 : (500 : Int) < (l.length : Int) := by omega
    go_enter Try.func5, Try.ntmps5
    go_wp2_with fail
    go_ret
    exact ⟨by simp, Below.refl _ _⟩
  have K1 : Hid (∀ W, RowR W a l → Calls Try.prog 19 #[.slice a l.length c] W fun e w' => ∃ a' c', e = .returned (.slice a' (keepL l).length c') ∧ RowI w' a' ((keepL l).map fun i : Nat => (i : Int)) ∧ Below W.heap.size W w') := fun W h => keep_any a c l W (by omega) h
  have K2 : Hid (∀ W, RowR W a l → Calls Try.prog 20 #[.slice a l.length c] W fun e w' => ∃ a' c', e = .returned (.slice a' (keepL l).length c') ∧ RowI w' a' ((keepL l).map fun i : Nat => (i : Int)) ∧ Below W.heap.size W w') := fun W h => rkeep_any a c l W (by omega) h
  have K3 : Hid (∀ (W : World) (a b : Option Addr) (c d : Nat), RowI W a ((keepL l).map fun i : Nat => (i : Int)) → RowI W b ((keepL l).map fun i : Nat => (i : Int)) → Calls Try.prog 18 #[.slice a (keepL l).length c, .slice b (keepL l).length d] W fun e w' => e = .returned (.bool true) ∧ Below W.heap.size W w') := fun W a b c d h h' => by
    have hh := sameI_any a b c d _ _ W h h'
    rw [List.length_map] at hh
    exact hh.mono (by rintro e w' ⟨rfl, n, rfl⟩; exact ⟨by simp, below_drewN (Below.refl _ _) n⟩)
  have i5 : ¬ (500 : Int) < (l.length : Int) := by omega
  have j5 : decide ((l.length : Int) > 500) = false := by simp; omega
  have i6 : (l.length : Int) ≤ 500 := by omega
  generalize (keepL l).length = M at *
  generalize (keepL l).map (fun i : Nat => (i : Int)) = Ls at *
  generalize l.length = N at *
  clear hrow lc cm h5
  go_enter Try.func5, Try.ntmps5
  go_wp2_with fail
  refine (K1.out _ HRow.out).mono ?_
  rintro e W1 ⟨a1, c1, rfl, r1, b1⟩
  go_wp2_with fail
  refine (K2.out _ (HRow.out.low b1)).mono ?_
  rintro e W2 ⟨a2, c2, rfl, r2, bb⟩
  have b2 := bel_tr b1 bb
  have r1' := r1.below bb
  clear r1 bb b1 K1 K2
  go_wp2_with fail
  refine (K3.out _ _ _ _ _ r1' r2).mono ?_
  rintro e W3 ⟨rfl, bb⟩
  have b3 := bel_tr b2 bb
  clear r1' r2 bb b2 K3
  go_wp2_with fail
  refine (KA.out _).mono ?_
  rintro e W4 ⟨rfl, bb⟩
  have b4 := bel_tr b3 bb
  clear bb b3 KA
  go_wp2_with fail
  go_ret
  exact ⟨by simp, b4⟩
end Go.Proofs.Ytmlddgmkbbaccaa
