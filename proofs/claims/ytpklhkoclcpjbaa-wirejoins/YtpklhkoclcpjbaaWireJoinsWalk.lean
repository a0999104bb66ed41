/- The law WireJoins returns true. -/
import Derived.Test.YtpklhkoclcpjbaaAlive
import Derived.Test.YtpklhkoclcpjbaaApp
import Derived.Deep.RegionWith
import Derived.Deep.RegionHeld3
import Derived.Deep.DeepCutAuto
namespace Go.Proofs.Ytpklhkoclcpjbaa
open Go.RowKit
set_option linter.unusedVariables false

set_option maxHeartbeats 1000000 in
theorem wireJoins_walk (a : Option Addr) (c : Nat) (l : List Int) (a1 : Option Addr) (c1 : Nat) (m : List Int) (x : Int) (w : World) (hc : l.length ≤ c) (hm : c ≤ 140737488351232) (hnil : a = none → c = 0) (h : Row w a l)
    (hc1 : m.length ≤ c1) (hm1 : c1 ≤ 140737488351232) (hnil1 : a1 = none → c1 = 0) (h1 : Row w a1 m) (hx : (Lit.int .i64 x).wf = true) :
    Calls Try.prog 6 #[.slice a l.length c, .slice a1 m.length c1, .int .i64 x] w fun e w' => e = .returned (.bool true) ∧ Below w.heap.size w w' := by
  have hx' : -9223372036854775808 ≤ x ∧ x ≤ 9223372036854775807 := by simpa [Lit.wf, IntKind.min, IntKind.max, IntKind.signed, IntKind.bits] using hx
  obtain ⟨l', e1, hle, hev, h2⟩ := even_part h (by omega)
  clear hx h
  go_enter Try.func6, Try.ntmps6
  go_wp2_with fail
  refine (sum_any _ _ [l', m] _ (rowss_two _ 22 _ rfl _ _ _ _ l' m h2 h1)).mono ?_
  rintro e w' ⟨rfl, rfl⟩
  go_wp2_with fail
  refine (sum_any _ _ [l'] _ (rowss_one _ 22 _ (by simp) _ _ l' (h2.alloc _))).mono ?_
  rintro e w' ⟨rfl, rfl⟩
  go_wp2_with fail
  refine (sum_any _ _ [m] _ (rowss_one _ 22 _ (by simp) _ _ m ((h1.alloc _).alloc _))).mono ?_
  rintro e w' ⟨rfl, rfl⟩
  have bs : 0 ≤ M.sumOf [l'] ∧ M.sumOf [l'] ≤ 65535 := M.nf_bd _
  have bt : 0 ≤ M.sumOf [m] ∧ M.sumOf [m] ≤ 65535 := M.nf_bd _
  have hb3 : Below w.heap.size w (((w.alloc (.cells #[.slice a l'.length c, .slice a1 m.length c1] 22)).alloc (.cells #[.slice a l'.length c] 22)).alloc (.cells #[.slice a1 m.length c1] 22)) :=
    (((Below.refl _ _).alloc (Nat.le_refl _) _).alloc (by simp) _).alloc (by simp; omega) _
  replace h2 := h2.below hb3
  replace h1 := h1.below hb3
  have HJ : Hid (∀ k, M.sumOf [l', m.take k, m.drop k] = M.sumOf [l', m]) := fun k => M.cut_parts l' m k
  have HN : Hid (M.sumOf [[M.sumOf [l'] / 256, M.sumOf [l'] % 256], [M.sumOf [m] / 256, M.sumOf [m] % 256]] = M.sumOf [l', m]) := M.join_parts l' m hev h2.bytes h1.bytes
  generalize M.sumOf [l'] = S at *
  generalize M.sumOf [m] = T at *
  generalize M.sumOf [l', m] = N at *
  generalize ((w.alloc (.cells #[.slice a l'.length c, .slice a1 m.length c1] 22)).alloc (.cells #[.slice a l'.length c] 22)).alloc (.cells #[.slice a1 m.length c1] 22) = w3 at *
  go_upto_region 6 with (fail)
  go_cut [10] (fun s w' => w' = w3 ∧ ∃ k : Nat, k ≤ m.length ∧ s = .int .i64 k)
  case first =>
    go_wp2
    all_goals go_meet
    · exact ⟨rfl, m.length, Nat.le_refl _, rfl⟩
    · exact ⟨rfl, 0, by omega, rfl⟩
    · exact ⟨rfl, x.toNat, by omega, int_eq (by omega)⟩
  case rest =>
    obtain ⟨rfl, k, hk, rfl⟩ := hcut
    have ik : (k : Int) ≤ (m.length : Int) := by omega
    have ik1 : (k : Int) ≤ (c1 : Int) := by omega
    have il1 : (m.length : Int) ≤ (c1 : Int) := by omega
    clear e1
    have hN : M.sumOf [[S / 256, S % 256], [T / 256, T % 256]] = N := HN.out
    have hJ : M.sumOf [l', m.take k, m.drop k] = N := HJ.out k
    have hz3 := hb3.size
    obtain ⟨a2, ha2⟩ : ∃ a2, (if c1 = k then a1 else Option.map (fun x => x.add k) a1) = a2 := ⟨_, rfl⟩
    have h3 : Row wc a2 (m.drop k) := by rw [← ha2]; exact h1.drop c1 k hc1
    have h4 : Row wc a1 (m.take k) := h1.take k
    have l3 : m.length - k = (m.drop k).length := by simp
    have l4 : k = (m.take k).length := by simp; omega
    have L3 : Hid (m.length - k = (m.drop k).length) := l3
    have L4 : Hid (k = (m.take k).length) := l4
    clear l3 l4
    go_wp2_with fail
    go_region_held3 (fun w' => True) (go_keep) (first
      | (go_at_call 22; (with_reducible show Calls _ _ #[Value.slice _ 2 _] _ _); refine (sum_any _ _ [[S / 256, S % 256], [T / 256, T % 256]] _ ?_).mono ?_; (focus (first
          | exact (rowss_two _ 22 _ (by simp) _ _ 2 2 [S / 256, S % 256] [T / 256, T % 256] ((word_row _ 5 _ S (by simp) bs.1 bs.2).alloc _) (word_row _ 5 _ T (by simp) bt.1 bt.2)).below (below_drew _)
          | exact (rowss_two _ 22 _ (by simp) _ _ 2 2 [S / 256, S % 256] [T / 256, T % 256] (word_row _ 5 _ S (by simp) bs.1 bs.2) ((word_row _ 5 _ T (by simp) bt.1 bt.2).alloc _)).below (below_drew _))); rintro e w' ⟨rfl, rfl⟩)
      | (go_at_call 22; (with_reducible show Calls _ _ #[Value.slice _ 3 _] _ _); refine (sum_any _ _ [l', m.take k, m.drop k] _ ?_).mono ?_; (focus
          exact (rowss_three' _ 22 _ (by simp) _ _ _ _ _ _ l' (m.take k) (m.drop k) _ _ _ rfl L4.out L3.out (((h2.alloc _).alloc _).alloc _) (((h4.alloc _).alloc _).alloc _) (((h3.alloc _).alloc _).alloc _)).below (below_drew _)); rintro e w' ⟨rfl, rfl⟩)
      | (go_at_call 16; refine (alive_any _).mono ?_; rintro e w' ⟨rfl, hbb⟩))
    all_goals go_wp2
    all_goals go_ret
    all_goals refine ⟨rfl, Below.trans ?_ (hbb.mono (by simp; omega))⟩
    all_goals repeat (first | exact hb3 | refine Below.drew ?_ | refine Below.alloc ?_ (by first | exact hz3 | (simp; omega)) _)
end Go.Proofs.Ytpklhkoclcpjbaa
