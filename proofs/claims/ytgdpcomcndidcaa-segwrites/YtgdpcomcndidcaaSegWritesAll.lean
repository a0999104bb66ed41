/- For every input the law SegWrites returns true and leaves its arguments as they were. -/
import Derived.Test.YtgdpcomcndidcaaSguD
import Derived.Test.YtgdpcomcndidcaaSguC
import Derived.Test.YtgdpcomcndidcaaRows
import Derived.Test.YtgdpcomcndidcaaArgs
import Derived.WalkKit
import Derived.ProofKit
import Derived.OpenShut
import Derived.ShutString
import Derived.ChangeOld
import Derived.Below
import Derived.SizedLaws
namespace Go.Proofs.Ytgdpcomcndidcaa
open Go.RowKit
set_option linter.unusedVariables false
set_option linter.unusedSimpArgs false

set_option maxRecDepth 100000 in
set_option maxHeartbeats 4000000 in
theorem segWrites_walk (x : Sg) (a : Option Addr) (c : Nat)  (w : World) (ok : x.ok) (tk : x.t.ok) (lc : x.data.length ≤ c) (cm : c ≤ 140737488351232) (nl : a = none → c = 0) (h : Row w a x.data)  :
    Calls Try.prog 5 #[.agg #[.int .i64 x.t.fam, .int .i64 x.t.pr, .int .i64 x.t.s.fam, .int .u64 x.t.s.hi, .int .u64 x.t.s.lo, .int .i64 x.t.d.fam, .int .u64 x.t.d.hi, .int .u64 x.t.d.lo, .int .i64 x.t.sp, .int .i64 x.t.dp, .int .i64 x.fl, .int .u32 x.sq, .int .u32 x.ak, .int .i64 x.wn, .int .i64 x.ty, .int .i64 x.cd, .bool x.er, .int .i64 x.inn.fam, .int .i64 x.inn.pr, .int .i64 x.inn.s.fam, .int .u64 x.inn.s.hi, .int .u64 x.inn.s.lo, .int .i64 x.inn.d.fam, .int .u64 x.inn.d.hi, .int .u64 x.inn.d.lo, .int .i64 x.inn.sp, .int .i64 x.inn.dp, .slice a x.data.length c]] w fun e w' => e = .returned (.bool true) ∧ Below w.heap.size w w' := by
  obtain ⟨W1, hW1⟩ : ∃ W1, w.alloc (.cells #[.int .i64 x.t.fam, .int .i64 x.t.pr, .int .i64 x.t.s.fam, .int .u64 x.t.s.hi, .int .u64 x.t.s.lo, .int .i64 x.t.d.fam, .int .u64 x.t.d.hi, .int .u64 x.t.d.lo, .int .i64 x.t.sp, .int .i64 x.t.dp, .int .i64 x.fl, .int .u32 x.sq, .int .u32 x.ak, .int .i64 x.wn, .int .i64 x.ty, .int .i64 x.cd, .bool x.er, .int .i64 x.inn.fam, .int .i64 x.inn.pr, .int .i64 x.inn.s.fam, .int .u64 x.inn.s.hi, .int .u64 x.inn.s.lo, .int .i64 x.inn.d.fam, .int .u64 x.inn.d.hi, .int .u64 x.inn.d.lo, .int .i64 x.inn.sp, .int .i64 x.inn.dp, .slice a x.data.length c] 38) = W1 := ⟨_, rfl⟩
  have b1 : Below w.heap.size w W1 := by rw [← hW1]; exact (Below.refl _ _).alloc (Nat.le_refl _) _
  have B1 : Blk W1 w.heap.size 38 #[.int .i64 x.t.fam, .int .i64 x.t.pr, .int .i64 x.t.s.fam, .int .u64 x.t.s.hi, .int .u64 x.t.s.lo, .int .i64 x.t.d.fam, .int .u64 x.t.d.hi, .int .u64 x.t.d.lo, .int .i64 x.t.sp, .int .i64 x.t.dp, .int .i64 x.fl, .int .u32 x.sq, .int .u32 x.ak, .int .i64 x.wn, .int .i64 x.ty, .int .i64 x.cd, .bool x.er, .int .i64 x.inn.fam, .int .i64 x.inn.pr, .int .i64 x.inn.s.fam, .int .u64 x.inn.s.hi, .int .u64 x.inn.s.lo, .int .i64 x.inn.d.fam, .int .u64 x.inn.d.hi, .int .u64 x.inn.d.lo, .int .i64 x.inn.sp, .int .i64 x.inn.dp, .slice a x.data.length c] := by rw [← hW1]; exact blk_new _ _ _
  have r1 := h.below b1
  have KA : Hid _ := segAlive_any
  obtain ⟨L, hL⟩ : ∃ L, (if mayB x = true then madeB x else []) = L := ⟨_, rfl⟩
  obtain ⟨E, hE⟩ : ∃ E : Int, (if mayB x = true then 0 else 1) = E := ⟨_, rfl⟩
  have KB : Hid (Calls Try.prog 19 #[.agg #[.int .i64 x.t.fam, .int .i64 x.t.pr, .int .i64 x.t.s.fam, .int .u64 x.t.s.hi, .int .u64 x.t.s.lo, .int .i64 x.t.d.fam, .int .u64 x.t.d.hi, .int .u64 x.t.d.lo, .int .i64 x.t.sp, .int .i64 x.t.dp, .int .i64 x.fl, .int .u32 x.sq, .int .u32 x.ak, .int .i64 x.wn, .int .i64 x.ty, .int .i64 x.cd, .bool x.er, .int .i64 x.inn.fam, .int .i64 x.inn.pr, .int .i64 x.inn.s.fam, .int .u64 x.inn.s.hi, .int .u64 x.inn.s.lo, .int .i64 x.inn.d.fam, .int .u64 x.inn.d.hi, .int .u64 x.inn.d.lo, .int .i64 x.inn.sp, .int .i64 x.inn.dp, .slice a x.data.length c]] W1 fun e w' => ∃ a' c', e = .returned (.tuple #[.slice a' L.length c', .int .i64 E]) ∧ Fresh W1 w' a' c' L) := by
    have := build_any x a c W1 r1 nl ok
    rw [hL, hE] at this
    exact this
  have KRB : Hid (∀ W, Row W a x.data → Calls Try.prog 20 #[.agg #[.int .i64 x.t.fam, .int .i64 x.t.pr, .int .i64 x.t.s.fam, .int .u64 x.t.s.hi, .int .u64 x.t.s.lo, .int .i64 x.t.d.fam, .int .u64 x.t.d.hi, .int .u64 x.t.d.lo, .int .i64 x.t.sp, .int .i64 x.t.dp, .int .i64 x.fl, .int .u32 x.sq, .int .u32 x.ak, .int .i64 x.wn, .int .i64 x.ty, .int .i64 x.cd, .bool x.er, .int .i64 x.inn.fam, .int .i64 x.inn.pr, .int .i64 x.inn.s.fam, .int .u64 x.inn.s.hi, .int .u64 x.inn.s.lo, .int .i64 x.inn.d.fam, .int .u64 x.inn.d.hi, .int .u64 x.inn.d.lo, .int .i64 x.inn.sp, .int .i64 x.inn.dp, .slice a x.data.length c]] W fun e w' => ∃ a' c', e = .returned (.tuple #[.slice a' L.length c', .int .i64 E]) ∧ Fresh W w' a' c' L) := fun W hW => by
    cases hm : mayB x with
    | false =>
      rw [hm] at hL hE
      simp at hL hE
      subst hL hE
      refine Calls.mono (rbuild_no x a c W hW nl ok hm) ?_
      rintro e w' ⟨rfl, hb⟩
      exact ⟨none, 0, rfl, fresh_nil hb⟩
    | true =>
      rw [hm, if_pos rfl] at hL hE
      have := rbuild_any x a c W hW nl ok hm
      rw [hL] at this
      rw [← hE]
      exact this
  clear hL hE
  go_enter Try.func5, Try.ntmps5
  go_wp2_with (refine wpList_load_row rfl _ _ rfl w.heap.size (by rfl) _ _ _ _ B1 Try.underlying38 rfl (by kernel_rfl) ?_)
  refine Calls.mono KB.out ?_
  rintro e W2 ⟨a2, c2, rfl, f2⟩
  have b2 : Below w.heap.size w W2 := b1.trans (f2.below.mono b1.size)
  have B2 := B1.kept f2.below
  have r2 := f2.row
  clear KB f2 hW1 B1 b1 r1
  go_wp2_with (refine wpList_load_row rfl _ _ rfl w.heap.size (by rfl) _ _ _ _ B2 Try.underlying38 rfl (by kernel_rfl) ?_)
  refine Calls.mono (KRB.out _ (h.below b2)) ?_
  rintro e W3 ⟨a3, c3, rfl, f3⟩
  have b3 : Below w.heap.size w W3 := b2.trans (f3.below.mono b2.size)
  have KS : Hid _ := same_any a2 a3 c2 c3 L W3 (r2.below f3.below) f3.row
  clear KRB f3 B2 b2 r2
  go_wp2_with fail
  refine Calls.mono KS.out ?_
  rintro e W4 ⟨rfl, hW4⟩
  rw [hW4]
  clear hW4 W4 KS
  go_wp2_with fail
  refine Calls.mono (KA.out _) ?_
  rintro e W5 ⟨rfl, bb⟩
  have b5 : Below w.heap.size w W5 := b3.trans (bb.mono b3.size)
  clear bb KA
  go_wp2
  go_ret
  exact ⟨rfl, b5⟩

end Go.Proofs.Ytgdpcomcndidcaa

namespace Go.Proofs.Ytgdpcomcndidcaa.segWrites
open Go.ChangeShapes Go.WideShapes Go.ChangeAt Go.RowKit
open Go.ChangeMaps (open_string shut_string)
set_option linter.unusedVariables false

theorem own : ownKnob Try.prog.godebug = none := by kernel_rfl
theorem laidOut : laidOutB Try.prog = true := by kernel_rfl

set_option maxRecDepth 100000 in
theorem lifted (os : Os) (started : os.Started) (H : Type) (enc : TypeId × Value → H) :
    ReturnsInHanded {} Try.checked os 5 .any (Rows.segWritesSpec.pre6 enc Try.prog Try.f5 Rows.segWritesRow.domain false) (Rows.segWritesSpec.post enc Try.prog Try.f5 false true false false) := by
  refine returnsInHanded_of_change_sized (C := Try.checked) own started (by kernel_rfl) Try.func5
    (ChangeSpec.witness6 (enc := enc) (C := Try.checked) false ⟨#[], #[.agg #[.int .i64 0, .int .i64 0, .int .i64 0, .int .u64 0, .int .u64 0, .int .i64 0, .int .u64 0, .int .u64 0, .int .i64 0, .int .i64 0, .int .i64 0, .int .u32 0, .int .u32 0, .int .i64 0, .int .i64 0, .int .i64 0, .bool false, .int .i64 0, .int .i64 0, .int .i64 0, .int .u64 0, .int .u64 0, .int .i64 0, .int .u64 0, .int .u64 0, .int .i64 0, .int .i64 0, .slice none 0 0]], []⟩ 8 (by kernel_rfl) (by kernel_rfl) (by kernel_rfl) (by kernel_rfl)) ?_
  intro W base args ds gs before hval0 hW hcnd hsz0 _
  have hval : ∀ (j : Nat) t v, Try.f5.params[j]? = some t → args[j]? = some v → Value.okWide Try.prog W .any base t v := hval0
  have hW' := hW
  obtain ⟨p, q, hA0, hV, rfl, hfz, hnd⟩ := hW
  have hA : DataW.TrodAll enc Try.prog W 0 (fun _ => true) true Try.f5.params.toList args.toList ds p := hA0
  have hsz : (DataW.weightsEach Try.prog (Try.f5.params.toList ++ Rows.segWritesSpec.plain.varTypes Try.prog) (ds ++ gs)).all (· ≤ reachBytes) = true := hsz0
  rw [Try.params5] at hA hval hsz
  obtain ⟨v0, vs0, d0, ds0, p0, q0, hargs, rfl, rfl, h0, r0⟩ := trodAll_cons hA
  obtain ⟨rfl, rfl, rfl⟩ := trodAll_nil r0
  obtain rfl : args = #[v0] := by cases args; simp_all
  obtain ⟨rfl, rfl⟩ := trodVars_none hV
  have lt0 : ∀ x ∈ p0, x.block < W.heap.size := by obtain ⟨m, hm⟩ := h0; exact DataW.trod_lt m _ _ _ hm
  have s0 : ∀ n ∈ d0.weights Try.prog 38, n ≤ reachBytes := fun n hn => by simpa using List.all_eq_true.1 hsz n (DataW.weights_mem_each (j := 0) (t := 38) rfl rfl n hn)
  obtain ⟨q0, da0, dc0, rfl, ok0, tk0, lc0, cm0, nl0, w0⟩ := open_seg (hval 0 38 v0 rfl rfl) h0 s0
  clear hA0 hval0 hsz0
  refine (segWrites_walk q0 da0 dc0 W ok0 tk0 lc0 cm0 nl0 w0).mono fun e W' ⟨he, bel⟩ => ?_
  subst he
  exact ⟨_, rfl, _, _, _, [], _, [], hW', trodAll_mk1 (shut_bool Try.underlying4 _), (trodAll_cons_mk (Below.trod laidOut (by kernel_rfl) (of_decide_eq_true (by kernel_rfl)) h0 bel lt0) trodAll_mk0), rfl, bel.frame _, fun h => by cases h⟩

theorem over : Rows.segWritesRow.holds Try.pinned (OpenSpec.ofChange Rows.segWritesSpec) :=
  OpenClaim.holds_of_wide 5 Try.f5 rfl rfl rfl rfl rfl rfl rfl ⟨rfl, rfl, rfl, rfl, rfl⟩ rfl rfl rfl rfl rfl (by kernel_rfl) Try.func5 (by kernel_rfl)
    (of_decide_eq_true (by kernel_rfl)) (by unfold Func.isWrapper; first | (rw [if_pos (by decide +kernel)]; kernel_rfl) | (rw [if_neg (by decide +kernel)]; exact ⟨rfl, rfl⟩))
    (fun os started H enc _ => lifted os started H enc)
end Go.Proofs.Ytgdpcomcndidcaa.segWrites
namespace Go.Proofs.Ytgdpcomcndidcaa
theorem segWrites_holds : Rows.SegWritesSaid := segWrites.over
end Go.Proofs.Ytgdpcomcndidcaa
