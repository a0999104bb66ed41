/- The law WireTurns returns true. -/
import Derived.Test.YtpklhkoclcpjbaaAlive
import Derived.Test.YtpklhkoclcpjbaaApp
import Derived.RegionTactic
import Derived.BigRegion
namespace Go.Proofs.Ytpklhkoclcpjbaa
open Go.RowKit
set_option linter.unusedVariables false

set_option maxHeartbeats 1000000 in
theorem wireTurns_walk (a : Option Addr) (c : Nat) (l : List Int) (x y : Int) (w : World) (hc : l.length ≤ c) (hm : c ≤ 140737488351232) (hnil : a = none → c = 0) (h : Row w a l)
    (hx : (Lit.int .i64 x).wf = true) (hy : (Lit.int .i64 y).wf = true) :
    Calls Try.prog 7 #[.slice a l.length c, .int .i64 x, .int .i64 y] w fun e w' => e = .returned (.bool true) ∧ Below w.heap.size w w' := by
  have hx' : -9223372036854775808 ≤ x ∧ x ≤ 9223372036854775807 := by simpa [Lit.wf, IntKind.min, IntKind.max, IntKind.signed, IntKind.bits] using hx
  have hy' : -9223372036854775808 ≤ y ∧ y ≤ 9223372036854775807 := by simpa [Lit.wf, IntKind.min, IntKind.max, IntKind.signed, IntKind.bits] using hy
  obtain ⟨l', e1, hle, hev, h2⟩ := even_part h (by omega)
  clear hx hy h
  go_enter Try.func7, Try.ntmps7
  go_wp2_with (at_builtin; refine wpList_app2 _ rfl _ _ rfl w.heap.size _ [] rfl (Owns.nil _ _) M.Bytes.nil a c l' rfl h2 hnil l' rfl ?c1 (Nat.le_refl _) ?_)
  case c1 => omega
  intro a1 c1 w1 ho1 hc1 hn1 hr1 hb1 _
  have hz1 := hb1.size
  go_wp2_with fail
  refine (sum_any _ _ [l'] _ (rowss_one _ 22 _ rfl _ _ l' hr1)).mono ?_
  rintro e w' ⟨rfl, rfl⟩
  replace ho1 := ho1.alloc (.cells #[.slice a1 l'.length c1] 22)
  replace hr1 := hr1.alloc (.cells #[.slice a1 l'.length c1] 22)
  replace hb1 := hb1.alloc hz1 (.cells #[.slice a1 l'.length c1] 22)
  clear hz1
  have hz1 := hb1.size
  generalize w1.alloc (.cells #[.slice a1 l'.length c1] 22) = w2 at *
  have hn := hr1.small
  by_cases hp : 0 < l'.length
  · obtain ⟨g, rfl, hg⟩ : ∃ g, a1 = some ⟨g, 0, none⟩ ∧ w.heap.size ≤ g := ho1.at hr1 hp
    obtain ⟨i, ei, hi2, hi⟩ := turn_word x l'.length hp hev hn
    obtain ⟨k, ek, hk2, hk⟩ := turn_word y l'.length hp hev hn
    have EI : Hid _ := ei
    have EK : Hid _ := ek
    clear ei ek
    have ci := hr1.cell i (by omega)
    have ck := hr1.cell k (by omega)
    have fi := ho1.frozen i
    have fk := ho1.frozen k
    obtain ⟨ho3, hr3, hb3⟩ := swap_step ho1 hn hr1.bytes hg hb1 i k
    have hs3 : M.sumOf [M.swap l' i k] = M.sumOf [l'] := by rw [M.sumOf_one, M.sumOf_one, M.swap_raw l' i k (by omega) (by omega) (M.par_pair i k (by omega))]
    have hl3 := M.swap_length l' i k
    have HL3 : Hid ((M.swap l' i k).length = l'.length) := hl3
    have HS3 : Hid (M.sumOf [M.swap l' i k] = M.sumOf [l']) := hs3
    clear hs3 hl3
    generalize l'.getD i 0 = vi at *
    generalize l'.getD k 0 = vk at *
    generalize M.swap l' i k = l3 at *
    go_wp2_with fail
    rw [EI.out, EK.out]
    have ii : (i : Int) < (l'.length : Int) := by omega
    have ik : (k : Int) < (l'.length : Int) := by omega
    clear EI EK
    have HO3 : Hid _ := ho3
    have HR3 : Hid _ := hr3
    have HB3 : Hid _ := hb3
    clear ho3 hr3 hb3
    by_cases hik : i = k
    · subst hik
      obtain rfl : vi = vk := by rw [ci] at ck; simpa using ck
      go_region
      go_wp2_with fail
      generalize ((w2.setCell ⟨g, i, none⟩ (.int .u8 vi)).setCell ⟨g, i, none⟩ (.int .u8 vi)).drew = w3 at *
      have ho3 : Owns w3 w.heap.size (.slice (some ⟨g, 0, none⟩) l3.length c1) l3 := HO3.out
      have hr3 : Row w3 (some ⟨g, 0, none⟩) l3 := HR3.out
      have hl3 : l3.length = l'.length := HL3.out
      have ci3 := hr3.cell (i + 1) (by omega)
      have ck3 := hr3.cell (i + 1) (by omega)
      have fi3 := ho3.frozen (i + 1)
      have fk3 := ho3.frozen (i + 1)
      obtain ⟨_, hr4, hb4⟩ := swap_stepp ho3 (by omega) hr3.bytes hg HB3.out (i + 1) (i + 1)
      have hs4 : M.sumOf [M.swap l3 (i + 1) (i + 1)] = M.sumOf [l'] := by rw [M.sumOf_one, M.swap_raw l3 (i + 1) (i + 1) (by omega) (by omega) (M.par_pair _ _ (by omega)), ← M.sumOf_one, HS3.out]
      have HL4 : Hid (l'.length = (M.swap l3 (i + 1) (i + 1)).length) := by rw [M.swap_length]; exact hl3.symm
      have HR4 : Hid _ := hr4
      have HB4 : Hid _ := hb4
      clear hr4 hb4 hl3 hr3 ho3 HO3 HR3 HB3 HL3 HS3 hr1 ho1 hb1 ci fi fk e1 h2 hev hi2 hk2
      generalize l3.getD (i + 1) 0 = ui at *
      generalize M.swap l3 (i + 1) (i + 1) = l4 at *
      have ii1 : (i : Int) + 1 < (l'.length : Int) := by omega
      have ik1 : (i : Int) + 1 < (l'.length : Int) := by omega
      go_region
      go_wp2_with fail
      have HZ : Hid ((World.heap ((w3.setCell ⟨g, i + 1, none⟩ (.int .u8 ui)).setCell ⟨g, i + 1, none⟩ (.int .u8 ui))).size = w3.heap.size) := by show Array.size _ = _; simp
      generalize (w3.setCell ⟨g, i + 1, none⟩ (.int .u8 ui)).setCell ⟨g, i + 1, none⟩ (.int .u8 ui) = w4 at *
      refine (sum_any _ _ [l4] _ ((rowss_one' _ 22 _ ?_ _ _ l4 _ HL4.out HR4.out).below (below_drew _))).mono ?_
      · exact HZ.out.symm
      rintro e w' ⟨rfl, rfl⟩
      have hb4 : Below w.heap.size w w4 := HB4.out
      have hz4 := hb4.size
      go_wp2_with (go_at_call 16; refine (alive_any _).mono ?_; rintro e w' ⟨rfl, hbb⟩)
      go_ret
      exact ⟨rfl, (hb4.alloc hz4 _).drew.trans (hbb.mono (by simp; omega))⟩
    · have hki : ¬ k = i := fun h => hik h.symm
      go_region
      go_wp2_with fail
      generalize ((w2.setCell ⟨g, i, none⟩ (.int .u8 vk)).setCell ⟨g, k, none⟩ (.int .u8 vi)).drew = w3 at *
      have ho3 : Owns w3 w.heap.size (.slice (some ⟨g, 0, none⟩) l3.length c1) l3 := HO3.out
      have hr3 : Row w3 (some ⟨g, 0, none⟩) l3 := HR3.out
      have hl3 : l3.length = l'.length := HL3.out
      have ci3 := hr3.cell (i + 1) (by omega)
      have ck3 := hr3.cell (k + 1) (by omega)
      have fi3 := ho3.frozen (i + 1)
      have fk3 := ho3.frozen (k + 1)
      obtain ⟨_, hr4, hb4⟩ := swap_stepp ho3 (by omega) hr3.bytes hg HB3.out (i + 1) (k + 1)
      have hs4 : M.sumOf [M.swap l3 (i + 1) (k + 1)] = M.sumOf [l'] := by rw [M.sumOf_one, M.swap_raw l3 (i + 1) (k + 1) (by omega) (by omega) (M.par_pair _ _ (by omega)), ← M.sumOf_one, HS3.out]
      have HL4 : Hid (l'.length = (M.swap l3 (i + 1) (k + 1)).length) := by rw [M.swap_length]; exact hl3.symm
      have HR4 : Hid _ := hr4
      have HB4 : Hid _ := hb4
      clear hr4 hb4 hl3 hr3 ho3 HO3 HR3 HB3 HL3 HS3 hr1 ho1 hb1 ci fi ck fk e1 h2 hev hi2 hk2
      generalize l3.getD (i + 1) 0 = ui at *
      generalize l3.getD (k + 1) 0 = uk at *
      generalize M.swap l3 (i + 1) (k + 1) = l4 at *
      have ii1 : (i : Int) + 1 < (l'.length : Int) := by omega
      have ik1 : (k : Int) + 1 < (l'.length : Int) := by omega
      go_region
      go_wp2_with fail
      have HZ : Hid ((World.heap ((w3.setCell ⟨g, i + 1, none⟩ (.int .u8 uk)).setCell ⟨g, k + 1, none⟩ (.int .u8 ui))).size = w3.heap.size) := by show Array.size _ = _; simp
      generalize (w3.setCell ⟨g, i + 1, none⟩ (.int .u8 uk)).setCell ⟨g, k + 1, none⟩ (.int .u8 ui) = w4 at *
      refine (sum_any _ _ [l4] _ ((rowss_one' _ 22 _ ?_ _ _ l4 _ HL4.out HR4.out).below (below_drew _))).mono ?_
      · exact HZ.out.symm
      rintro e w' ⟨rfl, rfl⟩
      have hb4 : Below w.heap.size w w4 := HB4.out
      have hz4 := hb4.size
      go_wp2_with (go_at_call 16; refine (alive_any _).mono ?_; rintro e w' ⟨rfl, hbb⟩)
      go_ret
      exact ⟨rfl, (hb4.alloc hz4 _).drew.trans (hbb.mono (by simp; omega))⟩
  · have hl0 : l' = [] := by cases l' with | nil => rfl | cons _ _ => simp at hp
    subst hl0
    go_wp2_with fail
    refine (sum_any _ _ [[]] _ (rowss_one _ 22 _ rfl _ _ [] hr1)).mono ?_
    rintro e w' ⟨rfl, rfl⟩
    go_wp2_with (go_at_call 16; refine (alive_any _).mono ?_; rintro e w' ⟨rfl, hbb⟩)
    go_ret
    exact ⟨rfl, (hb1.alloc hz1 _).trans (hbb.mono (by simp; omega))⟩
end Go.Proofs.Ytpklhkoclcpjbaa
