/- The law FirstFinds returns true. -/
import Derived.Test.YtmlddgmkbbaccaaFrI
import Derived.Test.YtmlddgmkbbaccaaFrQ
namespace Go.Proofs.Ytmlddgmkbbaccaa
open Go.RowKit
set_option linter.unusedVariables false
set_option linter.unusedSimpArgs false
set_option maxRecDepth 100000 in
set_option maxHeartbeats 4000000 in
theorem firstFinds_walk (a : Option Addr) (c : Nat) (l : List Rl) (k : Ky) (w : World) (lc : l.length ≤ c) (cm : c * 136 ≤ 140737488351232 ∧ (a = none → c = 0)) (hrow : RowR w a l) (ko : k.ok) :
    Calls Try.prog 4 #[.slice a l.length c, .agg k.v] w fun e w' => e = .returned (.bool true) ∧ Below w.heap.size w w' := by
  replace cm := cm.1
  have hs2 := info_ky k
  have K1 : Hid (∀ W, RowR W a l → Calls Try.prog 16 #[.slice a l.length c, .agg k.v] W fun e w' => e = .returned (.tuple #[.int .i64 (fIdx (findL l k)), .bool (findL l k).isSome]) ∧ Below W.heap.size W w') := fun W h => find_any a c l k W (by omega) h ko
  have K2 : Hid (∀ W, RowR W a l → Calls Try.prog 17 #[.slice a l.length c, .agg k.v] W fun e w' => e = .returned (.tuple #[.int .i64 (fIdx (findL l k)), .bool (findL l k).isSome]) ∧ Below W.heap.size W w') := fun W h => rfind_any a c l k W (by omega) h ko
  have KA : Hid (∀ W, Calls Try.prog 15 #[] W fun e w' => e = .returned (.bool true) ∧ Below W.heap.size W w') := alive_any
  have HRow : Hid (RowR w a l) := hrow
  generalize fIdx (findL l k) = x at *
  generalize (findL l k).isSome = q at *
  generalize k.v = KV at *
  generalize l.length = N at K1 K2 ⊢
  clear hrow lc cm ko
  have ex : (x == x) = true := by simp
  have eq : (q == q) = true := by simp
  have hk := blk_new w KV 32
  have bel : Below w.heap.size w (w.alloc (.cells KV 32)) := bel_nw rfl
  go_enter Try.func4, Try.ntmps4
  go_wp2_with (refine wpList_load_at_w rfl _ _ rfl _ 0 (by rfl) _ hk.at_ Try.underlying32 hs2 ?_)
  refine (K1.out _ (HRow.out.low bel)).mono ?_
  rintro e W1 ⟨rfl, bb⟩
  have hk1 := hk.kept bb
  have bel1 := bel_tr bel bb
  clear hk bel bb K1
  go_wp2_with (refine wpList_load_at_w rfl _ _ rfl _ 0 (by rfl) _ hk1.at_ Try.underlying32 hs2 ?_)
  refine (K2.out _ (HRow.out.low bel1)).mono ?_
  rintro e W2 ⟨rfl, bb⟩
  have bel2 := bel_tr bel1 bb
  clear hk1 bel1 bb K2 hs2
  cases q
  all_goals (
    go_wp2_with fail
    refine (KA.out _).mono ?_
    rintro e W3 ⟨rfl, bb⟩
    have bel3 := bel_tr bel2 bb
    clear bel2 bb KA
    go_wp2_with fail
    go_ret
    exact ⟨by simp, bel3⟩)
end Go.Proofs.Ytmlddgmkbbaccaa
