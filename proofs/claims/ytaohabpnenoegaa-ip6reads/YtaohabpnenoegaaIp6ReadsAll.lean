/- At all bytes the law Ip6Reads returns true and leaves its argument as it was. -/
import Derived.Test.YtaohabpnenoegaaIp6ZB
import Derived.Deep.RegionHeld3
import Derived.Test.YtaohabpnenoegaaRows
import Derived.Test.YtaohabpnenoegaaArgs
import Derived.WalkKit
import Derived.ProofKit
import Derived.OpenShut
import Derived.ShutString
import Derived.ChangeOld
import Derived.Below
import Derived.SizedLaws
namespace Go.Proofs.Ytaohabpnenoegaa
open Go.RowKit
set_option linter.unusedVariables false
set_option linter.unusedSimpArgs false

set_option maxRecDepth 100000 in
set_option maxHeartbeats 4000000 in
theorem ip6Reads_walk (a : Option Addr) (c : Nat) (l : List Int) (W : World) (hc : l.length ≤ c) (hcm : c ≤ 140737488351232) (hnil : a = none → c = 0) (hr : Row W a l) :
    Calls Try.prog 4 #[.slice a l.length c] W fun e w' => e = .returned (.bool true) ∧ Below W.heap.size W w' := by
  obtain ⟨E, hE⟩ : ∃ E, perr6 l = E := ⟨_, rfl⟩
  obtain ⟨P, hP⟩ : ∃ P, parsed6 l = P := ⟨_, rfl⟩
  obtain ⟨X, hX⟩ : ∃ X, exts6 l = X := ⟨_, rfl⟩
  obtain ⟨f, ⟨sf, sh, sl⟩, ⟨df, dh, dl⟩, pr, ho, fg, id, of, mo, D⟩ := P
  have K1 : Hid (Calls Try.prog 15 #[.slice a l.length c] W fun e w' => ∃ a1 c1 xa xc, e = .returned (.tuple #[.agg #[.int .i64 f, .int .i64 sf, .int .u64 sh, .int .u64 sl, .int .i64 df, .int .u64 dh, .int .u64 dl, .int .i64 pr, .int .i64 ho, .bool fg, .int .u32 id, .int .i64 of, .bool mo, .slice xa X.length xc, .slice a1 D.length c1], .int .i64 E]) ∧ Fresh W w' a1 c1 D ∧ OwnsI w' W.heap.size (.slice xa X.length xc) X ∧ X.length ≤ 8) := by
    have := parse6_any a c l W hr hnil (by omega) hc (by omega)
    unfold Got6 at this
    rw [hE, hP, hX] at this
    exact this
  have K2 : Hid (∀ Y, Row Y a l → Calls Try.prog 16 #[.slice a l.length c] Y fun e w' => ∃ a3 c3 ya yc, e = .returned (.tuple #[.agg #[.int .i64 f, .int .i64 sf, .int .u64 sh, .int .u64 sl, .int .i64 df, .int .u64 dh, .int .u64 dl, .int .i64 pr, .int .i64 ho, .bool fg, .int .u32 id, .int .i64 of, .bool mo, .slice ya X.length yc, .slice a3 D.length c3], .int .i64 E]) ∧ Fresh Y w' a3 c3 D ∧ OwnsI w' Y.heap.size (.slice ya X.length yc) X ∧ X.length ≤ 8) := by
    intro Y hY
    have := rparse6_any a c l Y hY hnil (by omega) hc (by omega)
    unfold Got6 at this
    rw [hE, hP, hX] at this
    exact this
  clear hE hP hX
  go_enter Try.func4, Try.ntmps4
  go_wp2_with fail
  refine Calls.mono K1.out ?_
  rintro e W1 ⟨a1, c1, xa, xc, rfl, f1, o1, l8⟩
  obtain ⟨W2, hW2⟩ : ∃ W2, W1.alloc (.cells #[.int .i64 f, .int .i64 sf, .int .u64 sh, .int .u64 sl, .int .i64 df, .int .u64 dh, .int .u64 dl, .int .i64 pr, .int .i64 ho, .bool fg, .int .u32 id, .int .i64 of, .bool mo, .slice xa X.length xc, .slice a1 D.length c1] 38) = W2 := ⟨_, rfl⟩
  have b12 : Below W1.heap.size W1 W2 := by rw [← hW2]; exact (Below.refl _ _).alloc (Nat.le_refl _) _
  have b2 : Below W.heap.size W W2 := f1.below.trans (b12.mono f1.below.size)
  have z2 : W1.heap.size < W2.heap.size := by rw [← hW2]; simp
  have S2 : Hid (SIp W2 W1.heap.size (.int .i64 f) (.int .i64 sf) (.int .u64 sh) (.int .u64 sl) (.int .i64 df) (.int .u64 dh) (.int .u64 dl) (.int .i64 pr) (.int .i64 ho) (.bool fg) (.int .u32 id) (.int .i64 of) (.bool mo) (.slice xa X.length xc) (.slice a1 D.length c1)) := by rw [← hW2]; exact sIp_new W1 _ _ _ _ _ _ _ _ _ _ _ _ _ _ _
  have R2 : Hid (Row W2 a1 D ∧ Row W2 a l) := ⟨f1.row.below b12, hr.below b2⟩
  have B2 : Hid (Below W.heap.size W W2) := b2
  have RX : Hid (RowI W2 xa X) := (o1.row (by omega)).below b12
  clear f1 o1 b12 b2 hr K1
  go_wp2_with fail
  refine Calls.mono (K2.out W2 R2.out.2) ?_
  rintro e W3 ⟨a3, c3, ya, yc, rfl, f3, o3, _⟩
  obtain ⟨W4, hW4⟩ : ∃ W4, W3.alloc (.cells #[.int .i64 f, .int .i64 sf, .int .u64 sh, .int .u64 sl, .int .i64 df, .int .u64 dh, .int .u64 dl, .int .i64 pr, .int .i64 ho, .bool fg, .int .u32 id, .int .i64 of, .bool mo, .slice ya X.length yc, .slice a3 D.length c3] 38) = W4 := ⟨_, rfl⟩
  have b34 : Below W3.heap.size W3 W4 := by rw [← hW4]; exact (Below.refl _ _).alloc (Nat.le_refl _) _
  have b24 : Below W2.heap.size W2 W4 := f3.below.trans (b34.mono f3.below.size)
  obtain ⟨d0, d1, d2, d3, d4, d5, d6, d7, d8, d9, d10, d11, d12, d13, d14⟩ := S2.out.below z2 b24
  obtain ⟨e0, e1, e2, e3, e4, e5, e6, e7, e8, e9, e10, e11, e12, e13, e14⟩ : SIp W4 W3.heap.size (.int .i64 f) (.int .i64 sf) (.int .u64 sh) (.int .u64 sl) (.int .i64 df) (.int .u64 dh) (.int .u64 dl) (.int .i64 pr) (.int .i64 ho) (.bool fg) (.int .u32 id) (.int .i64 of) (.bool mo) (.slice ya X.length yc) (.slice a3 D.length c3) := by rw [← hW4]; exact sIp_new W3 _ _ _ _ _ _ _ _ _ _ _ _ _ _ _
  have K4 : Hid (Calls Try.prog 17 #[.agg #[.int .i64 f, .int .i64 sf, .int .u64 sh, .int .u64 sl, .int .i64 df, .int .u64 dh, .int .u64 dl, .int .i64 pr, .int .i64 ho, .bool fg, .int .u32 id, .int .i64 of, .bool mo, .slice xa X.length xc, .slice a1 D.length c1], .agg #[.int .i64 f, .int .i64 sf, .int .u64 sh, .int .u64 sl, .int .i64 df, .int .u64 dh, .int .u64 dl, .int .i64 pr, .int .i64 ho, .bool fg, .int .u32 id, .int .i64 of, .bool mo, .slice ya X.length yc, .slice a3 D.length c3]] W4 fun e w' => e = .returned (.bool true) ∧ Below W4.heap.size W4 w') := same_ip6 f sf sh sl df dh dl pr ho fg id of mo xa xc ya yc X a1 c1 a3 c3 D W4 (R2.out.1.below b24) (f3.row.below b34) (RX.out.below b24) ((o3.row (by omega)).below b34)
  have B4 : Hid (Below W.heap.size W W4) := B2.out.trans (b24.mono B2.out.size)
  clear f3 o3 b34 b24 K2
  go_wp2_with fail
  refine Calls.mono K4.out ?_
  rintro e W5 ⟨rfl, b5⟩
  have B5 : Hid (Below W.heap.size W W5) := B4.out.trans (b5.mono B4.out.size)
  clear b5 d0 d1 d2 d3 d4 d5 d6 d7 d8 d9 d10 d11 d12 d13 d14 e0 e1 e2 e3 e4 e5 e6 e7 e8 e9 e10 e11 e12 e13 e14
  go_wp2_with fail
  refine (alive6_any W5).mono ?_
  rintro e W6 ⟨rfl, b6⟩
  have bc : Hid (Below W.heap.size W W6) := B5.out.trans (b6.mono B5.out.size)
  clear b6
  go_wp2_with fail
  go_ret
  exact ⟨rfl, bc.out⟩
end Go.Proofs.Ytaohabpnenoegaa

namespace Go.Proofs.Ytaohabpnenoegaa.ip6Reads
open Go.ChangeShapes Go.WideShapes Go.ChangeAt Go.RowKit
open Go.ChangeMaps (open_string shut_string)
set_option linter.unusedVariables false

theorem own : ownKnob Try.prog.godebug = none := by kernel_rfl
theorem laidOut : laidOutB Try.prog = true := by kernel_rfl

set_option maxRecDepth 100000 in
theorem lifted (os : Os) (started : os.Started) (H : Type) (enc : TypeId × Value → H) :
    ReturnsInHanded {} Try.checked os 4 .any (Rows.ip6ReadsSpec.pre6 enc Try.prog Try.f4 Rows.ip6ReadsRow.domain false) (Rows.ip6ReadsSpec.post enc Try.prog Try.f4 false true false false) := by
  refine returnsInHanded_of_change_sized (C := Try.checked) own started (by kernel_rfl) Try.func4
    (ChangeSpec.witness6 (enc := enc) (C := Try.checked) false ⟨#[], #[.slice none 0 0], []⟩ 8 (by kernel_rfl) (by kernel_rfl) (by kernel_rfl) (by kernel_rfl)) ?_
  intro W base args ds gs before hval0 hW hcnd hsz0 _
  have hval : ∀ (j : Nat) t v, Try.f4.params[j]? = some t → args[j]? = some v → Value.okWide Try.prog W .any base t v := hval0
  have hW' := hW
  obtain ⟨p, q, hA0, hV, rfl, hfz, hnd⟩ := hW
  have hA : DataW.TrodAll enc Try.prog W 0 (fun _ => true) true Try.f4.params.toList args.toList ds p := hA0
  have hsz : (DataW.weightsEach Try.prog (Try.f4.params.toList ++ Rows.ip6ReadsSpec.plain.varTypes Try.prog) (ds ++ gs)).all (· ≤ reachBytes) = true := hsz0
  rw [Try.params4] at hA hval hsz
  obtain ⟨v0, vs0, d0, ds0, p0, q0, hargs, rfl, rfl, h0, r0⟩ := trodAll_cons hA
  obtain ⟨rfl, rfl, rfl⟩ := trodAll_nil r0
  obtain rfl : args = #[v0] := by cases args; simp_all
  obtain ⟨rfl, rfl⟩ := trodVars_none hV
  have lt0 : ∀ x ∈ p0, x.block < W.heap.size := by obtain ⟨m, hm⟩ := h0; exact DataW.trod_lt m _ _ _ hm
  have s0 : ∀ n ∈ d0.weights Try.prog 22, n ≤ reachBytes := fun n hn => by simpa using List.all_eq_true.1 hsz n (DataW.weights_mem_each (j := 0) (t := 22) rfl rfl n hn)
  obtain ⟨a0, c0, l0, rfl, lc0, cm0, nl0, w0⟩ := open_bytes Try.underlying22 Try.underlying5 (by kernel_rfl) (by kernel_rfl) (hval 0 22 v0 rfl rfl) h0 s0
  clear hA0 hval0 hsz0
  refine (ip6Reads_walk a0 c0 l0 W lc0 cm0 nl0 w0).mono fun e W' ⟨he, bel⟩ => ?_
  subst he
  exact ⟨_, rfl, _, _, _, [], _, [], hW', trodAll_mk1 (shut_bool Try.underlying4 _), (trodAll_cons_mk (Below.trod laidOut (by kernel_rfl) (of_decide_eq_true (by kernel_rfl)) h0 bel lt0) trodAll_mk0), rfl, bel.frame _, fun h => by cases h⟩

theorem over : Rows.ip6ReadsRow.holds Try.pinned (OpenSpec.ofChange Rows.ip6ReadsSpec) :=
  OpenClaim.holds_of_wide 4 Try.f4 rfl rfl rfl rfl rfl rfl rfl ⟨rfl, rfl, rfl, rfl, rfl⟩ rfl rfl rfl rfl rfl (by kernel_rfl) Try.func4 (by kernel_rfl)
    (of_decide_eq_true (by kernel_rfl)) (by unfold Func.isWrapper; first | (rw [if_pos (by decide +kernel)]; kernel_rfl) | (rw [if_neg (by decide +kernel)]; exact ⟨rfl, rfl⟩))
    (fun os started H enc _ => lifted os started H enc)
end Go.Proofs.Ytaohabpnenoegaa.ip6Reads
namespace Go.Proofs.Ytaohabpnenoegaa
theorem ip6Reads_holds : Rows.Ip6ReadsSaid := ip6Reads.over
end Go.Proofs.Ytaohabpnenoegaa
