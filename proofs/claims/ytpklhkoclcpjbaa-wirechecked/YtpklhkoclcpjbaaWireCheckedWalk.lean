/- The law WireChecked returns true. -/
import Derived.Test.YtpklhkoclcpjbaaAlive
import Derived.Test.YtpklhkoclcpjbaaApp
import Derived.Deep.RegionWith
namespace Go.Proofs.Ytpklhkoclcpjbaa
open Go.RowKit
set_option linter.unusedVariables false

set_option maxHeartbeats 1000000 in
theorem wireChecked_walk (a : Option Addr) (c : Nat) (l : List Int) (x y : Int) (w : World) (hc : l.length ≤ c) (hm : c ≤ 140737488351232) (hnil : a = none → c = 0) (h : Row w a l)
    (hx : (Lit.int .i64 x).wf = true) (hy : (Lit.int .u8 y).wf = true) :
    Calls Try.prog 8 #[.slice a l.length c, .int .i64 x, .int .u8 y] w fun e w' => e = .returned (.bool true) ∧ Below w.heap.size w w' := by
  have hx' : -9223372036854775808 ≤ x ∧ x ≤ 9223372036854775807 := by simpa [Lit.wf, IntKind.min, IntKind.max, IntKind.signed, IntKind.bits] using hx
  have hy' : 0 ≤ y ∧ y ≤ 255 := by simpa [Lit.wf, IntKind.min, IntKind.max, IntKind.signed, IntKind.bits] using hy
  obtain ⟨l', e1, hle, hev, h2⟩ := even_part h (by omega)
  clear hx hy h
  go_enter Try.func8, Try.ntmps8
  go_wp2_with (at_builtin; refine wpList_app2 _ rfl _ _ rfl w.heap.size _ [] rfl (Owns.nil _ _) M.Bytes.nil a c l' rfl h2 hnil l' rfl ?c1 (Nat.le_refl _) ?_)
  case c1 => omega
  intro a1 c1 w1 ho1 hc1 hn1 hr1 hb1 _
  have hz1 := hb1.size
  go_wp2_with fail
  refine (check_any _ _ [l'] _ (rowss_one _ 22 _ rfl _ _ l' hr1)).mono ?_
  rintro e w' ⟨rfl, rfl⟩
  have hsb : 0 ≤ M.sumOf [l'] ∧ M.sumOf [l'] ≤ 65535 := M.nf_bd _
  have hC := M.checked l' hev hr1.bytes
  generalize M.sumOf [l'] = S at *
  obtain ⟨r, hr⟩ : ∃ r, l' ++ [(65535 - S) / 256, (65535 - S) % 256] = r := ⟨_, rfl⟩
  have hrl : 2 ≤ r.length ∧ r.length ≤ l'.length + 2 := by rw [← hr]; simp
  rw [hr] at hC
  have HR : Hid (l' ++ [(65535 - S) / 256, (65535 - S) % 256] = r) := hr
  have HC : Hid (M.raw true r % 65535 = 0 ∧ 0 < M.raw true r) := hC
  clear hr hC
  go_wp2_with (at_builtin; (refine wpList_app2 _ rfl _ _ rfl w.heap.size _ l' rfl ((ho1.alloc _).alloc _) hr1.bytes _ 2 [(65535 - S) / 256, (65535 - S) % 256] rfl ?row (fun hh => by cases hh) r HR.out ?c1 ?c2 ?_))
  case row =>
    refine row_at _ 5 [(65535 - S) / 256, (65535 - S) % 256] _ (by simp) (by simp) ?_
    intro z hz
    simp at hz
    omega
  case c1 => omega
  case c2 => simp; omega
  intro a2 c2 w2 ho2 hc2 hn2 hr2 hb2 _
  have hrl' : 2 ≤ r.length := hrl.1
  have hbw : Below w.heap.size w w2 := ((hb1.alloc hz1 _).alloc (by simp; omega) _).trans hb2
  obtain ⟨g, rfl, hg⟩ : ∃ g, a2 = some ⟨g, 0, none⟩ ∧ w.heap.size ≤ g := by
    obtain ⟨b, off, rfl, _⟩ := hr2.cells (by omega)
    obtain ⟨a', c', h1, _, _, h3, _⟩ := ho2.form
    cases h1
    have := h3 _ rfl
    simp at this
    exact ⟨b, by rw [this.2], this.1⟩
  have e2 : M.sumOf [r] = 65535 := by rw [M.sumOf_one]; exact M.nf_full HC.out.1 HC.out.2
  have hn : r.length ≤ 140737488355328 := hr2.small
  clear HR hb2 hb1 ho1 hc1 hn1 hr1 hsb hrl h2 hev e1
  have hrl : 2 ≤ r.length := hrl'
  clear hrl'
  obtain ⟨i, hi, ei⟩ := turn_place x r.length (by omega) hn
  have hg2 : g < w2.heap.size := by
    obtain ⟨b, off, hh, hcc⟩ := hr2.cells (by omega)
    cases hh
    exact World.block_lt_of_cell? w2 _ (hcc 0 (by omega))
  have hcell : w2.cell? ⟨g, i, none⟩ = some (.int .u8 (r.getD i 0)) := by
    obtain ⟨b, off, hh, hcc⟩ := hr2.cells (by omega)
    cases hh
    have := hcc i hi
    rwa [Nat.zero_add] at this
  have hfz := ho2.frozen i
  have hzb := hr2.bytes.get i
  have HZ : Hid (r.getD i 0 = r.getD i 0) := rfl
  generalize hz : r.getD i 0 = z at hcell hzb HZ
  have HZ' : Hid (r.getD i 0 = z) := hz
  clear hz HZ
  go_wp2_with fail
  refine (sum_any _ _ [r] _ (rowss_one _ 22 _ rfl _ _ r hr2)).mono ?_
  rintro e w' ⟨rfl, rfl⟩
  go_wp2_with fail
  have hxy : 0 ≤ bits .xor .u8 z y ∧ bits .xor .u8 z y ≤ 255 := u8_xor_bd z y
  generalize bits .xor .u8 z y = u at *
  have ho3 := (ho2.stored i u).alloc (.cells #[.slice (some ⟨g, 0, none⟩) r.length c2] 22)
  have hb3 : Below w.heap.size w ((w2.setCell ⟨g, i, none⟩ (.int .u8 u)).alloc (.cells #[.slice (some ⟨g, 0, none⟩) r.length c2] 22)) :=
    (hbw.setCell hg _).alloc (by simpa using hbw.size) _
  generalize (w2.setCell ⟨g, i, none⟩ (.int .u8 u)).alloc (.cells #[.slice (some ⟨g, 0, none⟩) r.length c2] 22) = w3 at *
  have hr3 : Row w3 (some ⟨g, 0, none⟩) (r.set i u) := Owns.row (c := c2) (by rw [List.length_set]; exact ho3) (by simpa using hn) (hr2.bytes.set i hxy)
  have hcell3 : w3.cell? ⟨g, i, none⟩ = some (.int .u8 u) := by
    obtain ⟨b, off, hh, hcc⟩ := hr3.cells (by simp; omega)
    cases hh
    have := hcc i (by simpa using hi)
    rw [Nat.zero_add] at this
    rw [this]; simp [hi]
  have hg3 : g < w3.heap.size := World.block_lt_of_cell? w3 _ hcell3
  have hi3 : (i : Int) < (r.length : Int) := by omega
  have hz3 := hb3.size
  obtain ⟨d, e3, e4⟩ : ∃ d, (M.sumOf [r.set i u] == 65535) = d ∧ (u == z) = d := by
    by_cases hne : u = z
    · subst hne
      have : r.set i u = r := by rw [← HZ'.out]; exact M.set_self r i hi
      rw [this, e2]
      exact ⟨true, by simp, by simp⟩
    · have := M.turned r i u HC.out.1 hi hxy (by rw [HZ'.out]; exact hzb) (by rw [HZ'.out]; exact hne)
      exact ⟨false, by simpa using this, by simpa using hne⟩
  clear hcell hfz ho2 hr2 hbw hg2 e2
  go_region_with (first
    | (go_at_call 22; refine (sum_any _ _ [r.set i u] _ ?_).mono ?_; exact (rowss_one' _ 22 _ (by simp) _ _ (r.set i u) _ (by simp) hr3).below (below_drew _); rintro e w' ⟨rfl, rfl⟩)
    | (go_at_call 16; refine (alive_any _).mono ?_; rintro e w' ⟨rfl, hbb⟩))
  all_goals go_wp2
  all_goals go_ret
  all_goals exact ⟨rfl, ((hb3.alloc hz3 _).drew).trans (hbb.mono (by simp; omega))⟩
end Go.Proofs.Ytpklhkoclcpjbaa
