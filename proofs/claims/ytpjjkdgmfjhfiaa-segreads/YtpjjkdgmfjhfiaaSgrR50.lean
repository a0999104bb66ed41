/- For every input the law SegReads returns true and leaves its arguments as they were. -/
import Derived.Test.YtpjjkdgmfjhfiaaSgrR49
import Derived.Test.YtpjjkdgmfjhfiaaRows
import Derived.WalkKit
import Derived.ProofKit
import Derived.OpenShut
import Derived.ShutString
import Derived.ChangeOld
import Derived.Below
import Derived.SizedLaws
namespace Go.Proofs.Ytpjjkdgmfjhfiaa
open Go.RowKit
set_option linter.unusedVariables false
set_option linter.unusedSimpArgs false
set_option maxRecDepth 100000 in
set_option maxHeartbeats 4000000 in
theorem segReads_walk (q : Pk) (xa : Option Addr) (xn xc : Nat) (da : Option Addr) (dc : Nat) (w : World) (ok : q.ok) (hdc : q.data.length ≤ dc) (hdm : dc ≤ 140737488351232) (hdn : da = none → dc = 0) (hr : Row w da q.data) :
    Calls Try.prog 4 #[q.v (.slice xa xn xc) (.slice da q.data.length dc)] w fun e w' => e = .returned (.bool true) ∧ Below w.heap.size w w' := by
  obtain ⟨f, ⟨sf, sh, sl⟩, ⟨df, dh, dl⟩, pr, ho, fg, id, of, mo, l⟩ := q
  simp only at hdc hr
  show Calls Try.prog 4 #[.agg (sRa f sf sh sl df dh dl pr ho fg id of mo xa xn xc da l.length dc)] w _
  obtain ⟨E, hE⟩ : ∃ E, segE f pr ⟨sf, sh, sl⟩ ⟨df, dh, dl⟩ l = E := ⟨_, rfl⟩
  obtain ⟨x, hx⟩ : ∃ x, segX f pr ⟨sf, sh, sl⟩ ⟨df, dh, dl⟩ l = x := ⟨_, rfl⟩
  have KA : Hid (∀ W, Row W da l → Calls Try.prog 16 #[.agg (sRa f sf sh sl df dh dl pr ho fg id of mo xa xn xc da l.length dc)] W fun e w' => ∃ a c, e = .returned (.tuple #[.agg (sRc x.t.fam x.t.pr x.t.s.fam x.t.s.hi x.t.s.lo x.t.d.fam x.t.d.hi x.t.d.lo x.t.sp x.t.dp x.fl x.sq x.ak x.wn x.ty x.cd x.er x.inn.fam x.inn.pr x.inn.s.fam x.inn.s.hi x.inn.s.lo x.inn.d.fam x.inn.d.hi x.inn.d.lo x.inn.sp x.inn.dp a x.data.length c), .int .i64 E]) ∧ Fresh W w' a c x.data) := fun W hW => by
    have := segParse_any f sf sh sl df dh dl pr ho fg id of mo xa xn xc da dc l W hW hdn hdc (by omega) (by omega) ok.src ok.dst
    rw [hE, hx] at this
    exact this
  have KB : Hid (∀ W, Row W da l → Calls Try.prog 17 #[.agg (sRa f sf sh sl df dh dl pr ho fg id of mo xa xn xc da l.length dc)] W fun e w' => ∃ a c, e = .returned (.tuple #[.agg (sRc x.t.fam x.t.pr x.t.s.fam x.t.s.hi x.t.s.lo x.t.d.fam x.t.d.hi x.t.d.lo x.t.sp x.t.dp x.fl x.sq x.ak x.wn x.ty x.cd x.er x.inn.fam x.inn.pr x.inn.s.fam x.inn.s.hi x.inn.s.lo x.inn.d.fam x.inn.d.hi x.inn.d.lo x.inn.sp x.inn.dp a x.data.length c), .int .i64 E]) ∧ Fresh W w' a c x.data) := fun W hW => by
    have := rparse_any f sf sh sl df dh dl pr ho fg id of mo xa xn xc da dc l W hW hdn hdc (by omega) (by omega) ok.src ok.dst
    rw [hE, hx] at this
    exact this
  have KL : Hid _ := segAlive_any
  obtain ⟨W1, hW1⟩ : ∃ W1, w.alloc (.cells (sRa f sf sh sl df dh dl pr ho fg id of mo xa xn xc da l.length dc) 36) = W1 := ⟨_, rfl⟩
  have b1 := bel_nw hW1
  have P1 := blk_nw hW1
  clear hE hx ok
  go_enter Try.func4, Try.ntmps4
  go_wp2_with (refine wpList_load_row rfl _ _ rfl w.heap.size (by rfl) _ _ _ _ P1 Try.underlying36 rfl (by kernel_rfl) ?_)
  refine Calls.mono (KA.out _ (hr.below b1)) ?_
  rintro e W2 ⟨a2, c2, rfl, f2⟩
  have P2 := P1.kept f2.below
  have O2 := f2.owns
  have b2 := bel_tr b1 f2.below
  have sm := f2.row.small
  have by_ := f2.row.bytes
  clear KA f2 P1 b1 hW1
  obtain ⟨W3, hW3⟩ : ∃ W, W2.alloc (.cells (sRc 0 0 0 0 0 0 0 0 0 0 0 0 0 0 0 0 false 0 0 0 0 0 0 0 0 0 0 none 0 0) 38) = W := ⟨_, rfl⟩
  have S3 := blk_nw hW3
  have b3 := bel_al b2 hW3
  have gw3 : w.heap.size ≤ W2.heap.size := b2.size
  have gP3 : w.heap.size < W2.heap.size := P2.lt
  have P3 := P2.alloc (.cells (sRc 0 0 0 0 0 0 0 0 0 0 0 0 0 0 0 0 false 0 0 0 0 0 0 0 0 0 0 none 0 0) 38)
  rw [hW3] at P3
  have O3 := O2.alloc (.cells (sRc 0 0 0 0 0 0 0 0 0 0 0 0 0 0 0 0 false 0 0 0 0 0 0 0 0 0 0 none 0 0) 38)
  rw [hW3] at O3
  have S4 := S3.set (sRc x.t.fam x.t.pr x.t.s.fam x.t.s.hi x.t.s.lo x.t.d.fam x.t.d.hi x.t.d.lo x.t.sp x.t.dp x.fl x.sq x.ak x.wn x.ty x.cd x.er x.inn.fam x.inn.pr x.inn.s.fam x.inn.s.hi x.inn.s.lo x.inn.d.fam x.inn.d.hi x.inn.d.lo x.inn.sp x.inn.dp a2 x.data.length c2)
  have b4 := below_setRow b3 gw3 (sRc x.t.fam x.t.pr x.t.s.fam x.t.s.hi x.t.s.lo x.t.d.fam x.t.d.hi x.t.d.lo x.t.sp x.t.dp x.fl x.sq x.ak x.wn x.ty x.cd x.er x.inn.fam x.inn.pr x.inn.s.fam x.inn.s.hi x.inn.s.lo x.inn.d.fam x.inn.d.hi x.inn.d.lo x.inn.sp x.inn.dp a2 x.data.length c2)
  have P4 := P3.other (show w.heap.size ≠ W2.heap.size by omega) (sRc x.t.fam x.t.pr x.t.s.fam x.t.s.hi x.t.s.lo x.t.d.fam x.t.d.hi x.t.d.lo x.t.sp x.t.dp x.fl x.sq x.ak x.wn x.ty x.cd x.er x.inn.fam x.inn.pr x.inn.s.fam x.inn.s.hi x.inn.s.lo x.inn.d.fam x.inn.d.hi x.inn.d.lo x.inn.sp x.inn.dp a2 x.data.length c2)
  have O4 := O3.blk_other S3 (by decide) (sRc x.t.fam x.t.pr x.t.s.fam x.t.s.hi x.t.s.lo x.t.d.fam x.t.d.hi x.t.d.lo x.t.sp x.t.dp x.fl x.sq x.ak x.wn x.ty x.cd x.er x.inn.fam x.inn.pr x.inn.s.fam x.inn.s.hi x.inn.s.lo x.inn.d.fam x.inn.d.hi x.inn.d.lo x.inn.sp x.inn.dp a2 x.data.length c2)
  obtain ⟨W4, hW4⟩ : ∃ W, W3.setRow W2.heap.size (sRc x.t.fam x.t.pr x.t.s.fam x.t.s.hi x.t.s.lo x.t.d.fam x.t.d.hi x.t.d.lo x.t.sp x.t.dp x.fl x.sq x.ak x.wn x.ty x.cd x.er x.inn.fam x.inn.pr x.inn.s.fam x.inn.s.hi x.inn.s.lo x.inn.d.fam x.inn.d.hi x.inn.d.lo x.inn.sp x.inn.dp a2 x.data.length c2) = W := ⟨_, rfl⟩
  rw [hW4] at S4 b4 P4 O4
  have HW4 : Hid _ := hW4
  clear hW4
  go_wp2_with (first
    | (refine wpList_store_row rfl _ _ _ rfl W2.heap.size (sRc x.t.fam x.t.pr x.t.s.fam x.t.s.hi x.t.s.lo x.t.d.fam x.t.d.hi x.t.d.lo x.t.sp x.t.dp x.fl x.sq x.ak x.wn x.ty x.cd x.er x.inn.fam x.inn.pr x.inn.s.fam x.inn.s.hi x.inn.s.lo x.inn.d.fam x.inn.d.hi x.inn.d.lo x.inn.sp x.inn.dp a2 x.data.length c2) (by rfl) (by rfl) _ _ S3 (by kernel_rfl) (by rfl) (by kernel_rfl) ?_; rw [HW4.out])
    | (refine wpList_load_row rfl _ _ rfl w.heap.size (by rfl) _ _ _ _ P4 Try.underlying36 rfl (by kernel_rfl) ?_))
  refine Calls.mono (KB.out _ (hr.below b4)) ?_
  rintro e W5 ⟨a5, c5, rfl, f5⟩
  have T5 := S4.kept f5.below
  have O5 := O4.below f5.below
  have Q5 := f5.owns
  have b5 := bel_tr b4 f5.below
  clear KB f5 P2 P3 P4 O2 O3 O4 S3 S4 b2 b3 b4 HW4 hW3
  obtain ⟨W6, hW6⟩ : ∃ W, W5.alloc (.cells (sRc 0 0 0 0 0 0 0 0 0 0 0 0 0 0 0 0 false 0 0 0 0 0 0 0 0 0 0 none 0 0) 38) = W := ⟨_, rfl⟩
  have S6 := blk_nw hW6
  have b6 := bel_al b5 hW6
  have gw6 : w.heap.size ≤ W5.heap.size := b5.size
  have gT6 : W2.heap.size < W5.heap.size := T5.lt
  have T6 := T5.alloc (.cells (sRc 0 0 0 0 0 0 0 0 0 0 0 0 0 0 0 0 false 0 0 0 0 0 0 0 0 0 0 none 0 0) 38)
  rw [hW6] at T6
  have O6 := O5.alloc (.cells (sRc 0 0 0 0 0 0 0 0 0 0 0 0 0 0 0 0 false 0 0 0 0 0 0 0 0 0 0 none 0 0) 38)
  rw [hW6] at O6
  have Q6 := Q5.alloc (.cells (sRc 0 0 0 0 0 0 0 0 0 0 0 0 0 0 0 0 false 0 0 0 0 0 0 0 0 0 0 none 0 0) 38)
  rw [hW6] at Q6
  have S7 := S6.set (sRc x.t.fam x.t.pr x.t.s.fam x.t.s.hi x.t.s.lo x.t.d.fam x.t.d.hi x.t.d.lo x.t.sp x.t.dp x.fl x.sq x.ak x.wn x.ty x.cd x.er x.inn.fam x.inn.pr x.inn.s.fam x.inn.s.hi x.inn.s.lo x.inn.d.fam x.inn.d.hi x.inn.d.lo x.inn.sp x.inn.dp a5 x.data.length c5)
  have b7 := below_setRow b6 gw6 (sRc x.t.fam x.t.pr x.t.s.fam x.t.s.hi x.t.s.lo x.t.d.fam x.t.d.hi x.t.d.lo x.t.sp x.t.dp x.fl x.sq x.ak x.wn x.ty x.cd x.er x.inn.fam x.inn.pr x.inn.s.fam x.inn.s.hi x.inn.s.lo x.inn.d.fam x.inn.d.hi x.inn.d.lo x.inn.sp x.inn.dp a5 x.data.length c5)
  have T7 := T6.other (show W2.heap.size ≠ W5.heap.size by omega) (sRc x.t.fam x.t.pr x.t.s.fam x.t.s.hi x.t.s.lo x.t.d.fam x.t.d.hi x.t.d.lo x.t.sp x.t.dp x.fl x.sq x.ak x.wn x.ty x.cd x.er x.inn.fam x.inn.pr x.inn.s.fam x.inn.s.hi x.inn.s.lo x.inn.d.fam x.inn.d.hi x.inn.d.lo x.inn.sp x.inn.dp a5 x.data.length c5)
  have O7 := O6.blk_other S6 (by decide) (sRc x.t.fam x.t.pr x.t.s.fam x.t.s.hi x.t.s.lo x.t.d.fam x.t.d.hi x.t.d.lo x.t.sp x.t.dp x.fl x.sq x.ak x.wn x.ty x.cd x.er x.inn.fam x.inn.pr x.inn.s.fam x.inn.s.hi x.inn.s.lo x.inn.d.fam x.inn.d.hi x.inn.d.lo x.inn.sp x.inn.dp a5 x.data.length c5)
  have Q7 := Q6.blk_other S6 (by decide) (sRc x.t.fam x.t.pr x.t.s.fam x.t.s.hi x.t.s.lo x.t.d.fam x.t.d.hi x.t.d.lo x.t.sp x.t.dp x.fl x.sq x.ak x.wn x.ty x.cd x.er x.inn.fam x.inn.pr x.inn.s.fam x.inn.s.hi x.inn.s.lo x.inn.d.fam x.inn.d.hi x.inn.d.lo x.inn.sp x.inn.dp a5 x.data.length c5)
  obtain ⟨W7, hW7⟩ : ∃ W, W6.setRow W5.heap.size (sRc x.t.fam x.t.pr x.t.s.fam x.t.s.hi x.t.s.lo x.t.d.fam x.t.d.hi x.t.d.lo x.t.sp x.t.dp x.fl x.sq x.ak x.wn x.ty x.cd x.er x.inn.fam x.inn.pr x.inn.s.fam x.inn.s.hi x.inn.s.lo x.inn.d.fam x.inn.d.hi x.inn.d.lo x.inn.sp x.inn.dp a5 x.data.length c5) = W := ⟨_, rfl⟩
  rw [hW7] at S7 b7 T7 O7 Q7
  have HW7 : Hid _ := hW7
  clear hW7
  have KS : Hid _ := same_seg x a2 a5 c2 c5 W7 (O7.row sm by_) (Q7.row sm by_)
  go_wp2_with (first
    | (refine wpList_store_row rfl _ _ _ rfl W5.heap.size (sRc x.t.fam x.t.pr x.t.s.fam x.t.s.hi x.t.s.lo x.t.d.fam x.t.d.hi x.t.d.lo x.t.sp x.t.dp x.fl x.sq x.ak x.wn x.ty x.cd x.er x.inn.fam x.inn.pr x.inn.s.fam x.inn.s.hi x.inn.s.lo x.inn.d.fam x.inn.d.hi x.inn.d.lo x.inn.sp x.inn.dp a5 x.data.length c5) (by rfl) (by rfl) _ _ S6 (by kernel_rfl) (by rfl) (by kernel_rfl) ?_; rw [HW7.out])
    | (refine wpList_load_row rfl _ _ rfl W2.heap.size (by rfl) _ _ _ _ T7 Try.underlying38 rfl (by kernel_rfl) ?_)
    | (refine wpList_load_row rfl _ _ rfl W5.heap.size (by rfl) _ _ _ _ S7 Try.underlying38 rfl (by kernel_rfl) ?_))
  refine Calls.mono KS.out ?_
  rintro e W8 ⟨rfl, bb⟩
  have b8 := bel_tr b7 bb
  clear KS bb T5 T6 T7 S6 S7 O5 O6 O7 Q5 Q6 Q7 b5 b6 b7 HW7 hW6
  go_wp2_with fail
  refine Calls.mono (KL.out _) ?_
  rintro e W9 ⟨rfl, bb⟩
  have b9 := bel_tr b8 bb
  clear bb KL
  go_wp2
  go_ret
  exact ⟨rfl, b9⟩
end Go.Proofs.Ytpjjkdgmfjhfiaa
namespace Go.Proofs.Ytpjjkdgmfjhfiaa.segReads
open Go.ChangeShapes Go.WideShapes Go.ChangeAt Go.RowKit
open Go.ChangeMaps (open_string shut_string)
set_option linter.unusedVariables false
theorem own : ownKnob Try.prog.godebug = none := by kernel_rfl
theorem laidOut : laidOutB Try.prog = true := by kernel_rfl
set_option maxRecDepth 100000 in
theorem lifted (os : Os) (started : os.Started) (H : Type) (enc : TypeId × Value → H) :
    ReturnsInHanded {} Try.checked os 4 .any (Rows.segReadsSpec.pre6 enc Try.prog Try.f4 Rows.segReadsRow.domain false) (Rows.segReadsSpec.post enc Try.prog Try.f4 false true false false) := by
  refine returnsInHanded_of_change_sized (C := Try.checked) own started (by kernel_rfl) Try.func4
    (ChangeSpec.witness6 (enc := enc) (C := Try.checked) false ⟨#[], #[.agg (sRa 0 0 0 0 0 0 0 0 0 false 0 0 false none 0 0 none 0 0)], []⟩ 8 (by kernel_rfl) (by kernel_rfl) (by kernel_rfl) (by kernel_rfl)) ?_
  intro W base args ds gs before hval0 hW hcnd hsz0 _
  have hval : ∀ (j : Nat) t v, Try.f4.params[j]? = some t → args[j]? = some v → Value.okWide Try.prog W .any base t v := hval0
  have hW' := hW
  obtain ⟨p, q, hA0, hV, rfl, hfz, hnd⟩ := hW
  have hA : DataW.TrodAll enc Try.prog W 0 (fun _ => true) true Try.f4.params.toList args.toList ds p := hA0
  have hsz : (DataW.weightsEach Try.prog (Try.f4.params.toList ++ Rows.segReadsSpec.plain.varTypes Try.prog) (ds ++ gs)).all (· ≤ reachBytes) = true := hsz0
  rw [Try.params4] at hA hval hsz
  obtain ⟨v0, vs0, d0, ds0, p0, q0, hargs, rfl, rfl, h0, r0⟩ := trodAll_cons hA
  obtain ⟨rfl, rfl, rfl⟩ := trodAll_nil r0
  obtain rfl : args = #[v0] := by cases args; simp_all
  obtain ⟨rfl, rfl⟩ := trodVars_none hV
  have lt0 : ∀ x ∈ p0, x.block < W.heap.size := by obtain ⟨m, hm⟩ := h0; exact DataW.trod_lt m _ _ _ hm
  have s0 : ∀ n ∈ d0.weights Try.prog 36, n ≤ reachBytes := fun n hn => by simpa using List.all_eq_true.1 hsz n (DataW.weights_mem_each (j := 0) (t := 36) rfl rfl n hn)
  obtain ⟨q0, xa0, xn0, xc0, da0, dc0, rfl, ok0, lc0, cm0, nl0, w0⟩ := open_ip (hval 0 36 v0 rfl rfl) h0 s0
  clear hA0 hval0 hsz0
  refine (segReads_walk q0 xa0 xn0 xc0 da0 dc0 W ok0 lc0 cm0 nl0 w0).mono fun e W' ⟨he, bel⟩ => ?_
  subst he
  exact ⟨_, rfl, _, _, _, [], _, [], hW', trodAll_mk1 (shut_bool Try.underlying4 _), (trodAll_cons_mk (Below.trod laidOut (by kernel_rfl) (of_decide_eq_true (by kernel_rfl)) h0 bel lt0) trodAll_mk0), rfl, bel.frame _, fun h => by cases h⟩
theorem over : Rows.segReadsRow.holds Try.pinned (OpenSpec.ofChange Rows.segReadsSpec) :=
  OpenClaim.holds_of_wide 4 Try.f4 rfl rfl rfl rfl rfl rfl rfl ⟨rfl, rfl, rfl, rfl, rfl⟩ rfl rfl rfl rfl rfl (by kernel_rfl) Try.func4 (by kernel_rfl)
    (of_decide_eq_true (by kernel_rfl)) (by unfold Func.isWrapper; first | (rw [if_pos (by decide +kernel)]; kernel_rfl) | (rw [if_neg (by decide +kernel)]; exact ⟨rfl, rfl⟩))
    (fun os started H enc _ => lifted os started H enc)
end Go.Proofs.Ytpjjkdgmfjhfiaa.segReads
namespace Go.Proofs.Ytpjjkdgmfjhfiaa
theorem segReads_holds : Rows.SegReadsSaid := segReads.over
end Go.Proofs.Ytpjjkdgmfjhfiaa
