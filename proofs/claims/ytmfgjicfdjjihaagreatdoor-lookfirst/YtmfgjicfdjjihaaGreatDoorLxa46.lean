/- For every input the law LookFirst returns true and leaves its arguments as they were; the variables that its row lists hold what they are listed with (the card ties them to the program's text). -/
import Derived.Test.YtmfgjicfdjjihaaGreatDoorLxa40
import Derived.Test.YtmfgjicfdjjihaaGreatDoorLxa43
import Derived.Test.YtmfgjicfdjjihaaGreatDoorCards
import Derived.Test.YtmfgjicfdjjihaaGreatDoorTie
import Derived.WalkKit
import Derived.ProofKit
import Derived.OpenShut
import Derived.ChangeOld
import Derived.Below
import Derived.Carry
import Derived.SizedLaws
import Derived.Deep.DeepHandedRow
import Derived.SevenTiedAt
namespace Go.Proofs.YtmfgjicfdjjihaaGreatDoor
open Go.RowKit
set_option linter.unusedVariables false
set_option linter.unusedSimpArgs false
set_option maxRecDepth 100000 in
set_option maxHeartbeats 16000000 in
theorem lookFirst_walk (a : Option Addr) (c : Nat) (l : List Rl) (k : Ky) (w : World) (lc : l.length ≤ c) (cm : c * 136 ≤ 140737488351232 ∧ (a = none → c = 0)) (hrow : RowR w a l) (ko : k.ok) (hT : Top w) (hDb : Deb w) (hSd : Sds w) (hL : Lks w) : Calls Tryz.prog 5 #[.slice a l.length c, .agg k.v] w fun e w' => e = .returned (.bool true) ∧ Below w.heap.size w w' := by
 have KA : Hid (∀ W, Below w.heap.size w W → Calls Tryz.prog 11 #[] W fun e w' => e = .returned (.bool true) ∧ Below W.heap.size W w') := fun W hb => alive_lk W (hT.below hb) (hDb.below hb) (hSd.below hb) (hL.below hb)
 have hn44 : l.length ≤ 17592186044416 := by omega
 obtain ⟨W1, hW1⟩ : ∃ W1, w.alloc (.cells k.v 33) = W1 := ⟨_, rfl⟩
 have b1 := bel_nw hW1
 have HBK : Hid (Blk W1 w.heap.size 33 k.v) := blk_nw hW1
 have K1 : Hid _ := compile_tr a c l 4096 W1 (hT.below b1) (hDb.below b1) (hSd.below b1) (hrow.low b1)
 have KR : Hid (∀ W, Calls Tryz.prog 15 #[.agg k.v] W fun e w' => e = .returned (.bool k.right) ∧ Below W.heap.size W w') := fun W => rrightKey_any k W ko
 have KF : Hid (∀ W, Below w.heap.size w W → Calls Tryz.prog 16 #[.slice a l.length c, .agg k.v] W fun e w' => e = .returned (.tuple #[.int .i64 (firstN (ofB l (·.takes k))), .bool (findL l k).isSome]) ∧ Below W.heap.size W w') := fun W hb => by rw [first_find]; exact rfind_any a c l k W hn44 (hrow.low hb) ko
 have HTAB : Hid (∀ t : TR, TabC l 0 t → errT l (errC l 0) 4096 = 0 → TabR t.D t.X t.F ∧ (k.right = true → findA t.D t.X t.F k = (firstN (ofB l (·.takes k)), 0)) ∧ (∀ j, szN t.D t.X j ≤ 2147483648) ∧ ∀ n ∈ t.F, n ≤ 9223372036854775807) := fun t htc he => by
  obtain ⟨g1, g2, _, _, g5⟩ := errT_ok he
  obtain ⟨_, _, _, _, g6⟩ := err_ok g1
  rcases htc with ⟨h0, _⟩ | ⟨_, D, X, hI, hD, hX⟩
  ·exact absurd rfl h0
  ·obtain ⟨t1, t2⟩ := tab_bounds hI g2 g5
   rw [hD, hX]
   refine ⟨tabR_of hI g2, fun hk => ?_, t1, t2⟩
   rw [findA_yes (tabR_of hI g2) hk, findT_of hI (fun r hr => ⟨hrow.each r hr, g6 r hr⟩) ko hk]
 have HLKS : Hid (Lks w) := hL
 have HKO : Hid k.ok := ko
 obtain ⟨N, hN⟩ : ∃ N, l.length = N := ⟨_, rfl⟩
 rw [hN] at K1 KF hn44 ⊢
 have hsk : (Tryz.prog.info? 33).map (·.size) = some k.v.size := by show _ = some 11; kernel_rfl
 obtain ⟨R, hR⟩ : ∃ R, k.right = R := ⟨_, rfl⟩
 have HKR : Hid (k.right = R) := hR
 rw [hR] at KR
 obtain ⟨E, hEE⟩ : ∃ E, errT l (errC l 0) 4096 = E := ⟨_, rfl⟩
 rw [hEE] at K1
 have HEE : Hid (errT l (errC l 0) 4096 = E) := hEE
 obtain ⟨Y, hY⟩ : ∃ Y, firstN (ofB l (·.takes k)) = Y := ⟨_, rfl⟩
 rw [hY] at KF HTAB
 generalize (findL l k).isSome = YB at KF
 have HKV : Hid (∃ KV, k.v = KV) := ⟨_, rfl⟩
 have KLOOK : Hid (∀ (t : TR) W, t.ok W → TabC l 0 t → errT l (errC l 0) 4096 = 0 → k.right = true → Lks W → Calls Tryz.prog 12 #[.agg t.v, .agg k.v] W fun e w' => e = .returned (.tuple #[.int .i64 Y, .int .i64 0]) ∧ Below W.heap.size W w') := fun t W h1 h2 h3 h4 h5 => by
  obtain ⟨u1, u2, u3, u4⟩ := HTAB.out t h2 h3
  have := lookup_lk t k W h1 h5 u3 u4 HKO.out
  rw [u2 h4] at this
  exact this
 have KCHK : Hid (∀ (t : TR) W, t.ok W → TabC l 0 t → errT l (errC l 0) 4096 = 0 → Lks W → Calls Tryz.prog 9 #[.agg t.v] W fun e w' => e = .returned (.bool true) ∧ Below W.heap.size W w') := fun t W h1 h2 h3 h5 => by
  obtain ⟨u1, u2, u3, u4⟩ := HTAB.out t h2 h3
  refine (check_lk t W h1 h5 u3 u4).mono ?_
  rintro e w' ⟨⟨r, rfl, hr⟩, hb⟩
  have := hr.2 u1
  subst this
  exact ⟨rfl, hb⟩
 obtain ⟨KV, hKV⟩ : ∃ KV, k.v = KV := ⟨_, rfl⟩
 rw [hKV] at KR KF KLOOK HBK hsk hW1 ⊢
 clear hN hrow hT hDb hSd cm lc ko hKV hR hEE hY HTAB HKV hL HKO
 go_enter Tryz.func5, Tryz.ntmps5
 go_wp2_with fail
 refine Calls.mono K1.out ?_
 rintro e W2 ⟨t, rfl, hok, htc, q2⟩
 have b2 := bel_tr b1 q2
 have HOK : Hid (t.ok W2) := hok
 have HTC : Hid (TabC l E t) := htc
 obtain ⟨W3, hW3⟩ : ∃ W3, W2.alloc (.cells t.v 26) = W3 := ⟨_, rfl⟩
 have q3 := bel_nw hW3
 have b3 := bel_tr b2 q3
 have HB3 : Hid (Blk W3 W2.heap.size 26 t.v) := blk_nw hW3
 have HBK3 : Hid (Blk W3 w.heap.size 33 KV) := HBK.out.kept (bel_tr q2 q3)
 clear hok htc K1
 by_cases hE : E = 0
 ·subst hE
  have KR' : Hid _ := KR.out W3
  have atk := HBK3.out.at_
  go_wp2_with (first | (refine wpList_load_at_w (by rfl) _ _ rfl w.heap.size 0 (by rfl) _ atk Tryz.underlying33 hsk ?_))
  refine Calls.mono KR'.out ?_
  rintro e W4 ⟨rfl, q4⟩
  have b4 := bel_tr b3 q4
  clear KR'
  cases R
  ·have KA' : Hid _ := KA.out W4 b4
   clear atk
   go_wp2_with fail
   refine Calls.mono KA'.out ?_
   rintro e W5 ⟨rfl, q5⟩
   have b5 := bel_tr b4 q5
   go_wp2
   go_ret
   exact ⟨rfl, b5⟩
  ·have HB4 : Hid (Blk W4 W2.heap.size 26 t.v) := HB3.out.kept q4
   have HBK4 : Hid (Blk W4 w.heap.size 33 KV) := HBK3.out.kept q4
   have KL' : Hid _ := KLOOK.out t W4 (HOK.out.low (bel_tr q3 q4)) HTC.out HEE.out HKR.out (HLKS.out.below b4)
   have hst : (Tryz.prog.info? 26).map (·.size) = some 3 := by kernel_rfl
   have at4 := HB4.out.at_
   have atk4 := HBK4.out.at_
   clear atk KLOOK
   go_wp2_with (first
    | (refine wpList_load_at rfl _ _ rfl W2.heap.size 0 (by rfl) _ at4 Tryz.underlying26 hst ?_)
    | (refine wpList_load_at rfl _ _ rfl w.heap.size 0 (by rfl) _ atk4 Tryz.underlying33 hsk ?_))
   refine Calls.mono KL'.out ?_
   rintro e W5 ⟨rfl, q5⟩
   have b5 := bel_tr b4 q5
   have atk5 := (HBK4.out.kept q5).at_
   have KF' : Hid _ := KF.out W5 b5
   clear KL' at4 atk4 KF
   go_wp2_with (first
    | (refine wpList_load_at rfl _ _ rfl w.heap.size 0 (by rfl) _ atk5 Tryz.underlying33 hsk ?_))
   refine Calls.mono KF'.out ?_
   rintro e W6 ⟨rfl, q6⟩
   have b6 := bel_tr b5 q6
   have q46 := bel_tr q5 q6
   have at6 := (HB4.out.kept q46).at_
   have KC' : Hid _ := KCHK.out t W6 (HOK.out.low (bel_tr q3 (bel_tr q4 q46))) HTC.out HEE.out (HLKS.out.below b6)
   clear KF' atk5 KCHK
   go_wp2_with (first
    | (refine wpList_load_at rfl _ _ rfl W2.heap.size 0 (by rfl) _ at6 Tryz.underlying26 hst ?_))
   refine Calls.mono KC'.out ?_
   rintro e W7 ⟨rfl, q7⟩
   have b7 := bel_tr b6 q7
   have KA' : Hid _ := KA.out W7 b7
   clear KC' at6
   go_wp2_with fail
   refine Calls.mono KA'.out ?_
   rintro e W8 ⟨rfl, q8⟩
   have b8 := bel_tr b7 q8
   go_wp2
   go_ret
   exact ⟨rfl, b8⟩
 ·have hne : (E != 0) = true := by simpa using hE
  have KA' : Hid _ := KA.out W3 b3
  go_wp2_with fail
  refine Calls.mono KA'.out ?_
  rintro e W5 ⟨rfl, q5⟩
  have b5 := bel_tr b3 q5
  go_wp2
  go_ret
  exact ⟨rfl, b5⟩
end Go.Proofs.YtmfgjicfdjjihaaGreatDoor
namespace Go.Proofs.YtmfgjicfdjjihaaGreatDoor.lookFirst
open Go.ChangeShapes Go.WideShapes Go.ChangeAt Go.RowKit
set_option linter.unusedVariables false
set_option linter.unusedSimpArgs false
theorem own : ownKnob Tryz.prog.godebug = none := by kernel_rfl
theorem laidOut : laidOutB Tryz.prog = true := by kernel_rfl
set_option maxRecDepth 100000 in
theorem contract (H : Type) (enc : TypeId × Value → H) (W : World) (base : Nat) (args : Array Value) (ds gs : List (DataW H)) (before : List MemPlace)
  (hval : ∀ (j : Nat) t v, Tryz.f5.params[j]? = some t → args[j]? = some v → Value.okWide Tryz.prog W .any base t v)
  (hW : DataW.Whole enc Tryz.prog Tryz.f5.params.toList Rows.lookFirstSpec.vars false W args.toList ds gs before)
  (hsz : (DataW.weightsEach Tryz.prog (Tryz.f5.params.toList ++ Rows.lookFirstSpec.plain.varTypes Tryz.prog) (ds ++ gs)).all (· ≤ reachBytes) = true)
  (hL : laidMetH Tryz.prog Rows.lookFirstRow.laid W) (hsh : W.ShapedOpen Tryz.prog) :
  Calls Tryz.prog 5 args W fun e W' => ∃ v, e = .returned v ∧ Rows.lookFirstSpec.post enc Tryz.prog Tryz.f5 false true false false W args v W' := by
 have hW' := hW
 obtain ⟨p, q, hA0, hV, rfl, hfz, hnd⟩ := hW
 have hA : DataW.TrodAll enc Tryz.prog W 0 (fun _ => true) true Tryz.f5.params.toList args.toList ds p := hA0
 rw [Tryz.params5] at hA hval hsz
 obtain ⟨v0, vs0, d0, ds0, p0, q0, hargs, rfl, rfl, h0, r0⟩ := trodAll_cons hA
 obtain ⟨v1, vs1, d1, ds1, p1, q1, rfl, rfl, rfl, h1, r1⟩ := trodAll_cons r0
 obtain ⟨rfl, rfl, rfl⟩ := trodAll_nil r1
 obtain rfl : args = #[v0, v1] := by cases args; simp_all
 obtain ⟨rfl, rfl⟩ := trodVars_none hV
 have lt0 : ∀ x ∈ p0, x.block < W.heap.size := by obtain ⟨m, hm⟩ := h0; exact DataW.trod_lt m _ _ _ hm
 have s0 : ∀ n ∈ d0.weights Tryz.prog 40, n ≤ reachBytes := fun n hn => by simpa using List.all_eq_true.1 hsz n (DataW.weights_mem_each (j := 0) (t := 40) rfl rfl n hn)
 obtain ⟨a0, c0, l0, rfl, lc0, cm0, w0⟩ := open_rules (hval 0 40 v0 rfl rfl) h0 s0
 have lt1 : ∀ x ∈ p1, x.block < W.heap.size := by obtain ⟨m, hm⟩ := h1; exact DataW.trod_lt m _ _ _ hm
 obtain ⟨k1, rfl, ok1⟩ := open_key (hval 1 33 v1 rfl rfl) h1
 obtain ⟨hT, hDb, hSd, hLk⟩ := four_of (show laidMet Tryz.prog Rows.lookFirstRow.laid W from hL)
 clear hA0 hval
 refine (lookFirst_walk a0 c0 l0 k1 W lc0 cm0 w0 ok1 hT hDb hSd hLk).mono fun e W' ⟨he, bel⟩ => ?_
 subst he
 exact ⟨_, rfl, _, _, _, [], _, [], hW', trodAll_mk1 (shut_bool Tryz.underlying4 _), (trodAll_cons_mk (Below.trod laidOut (by kernel_rfl) (of_decide_eq_true (by kernel_rfl)) h0 bel lt0) (trodAll_cons_mk (Below.trod laidOut (by kernel_rfl) (of_decide_eq_true (by kernel_rfl)) h1 bel lt1) trodAll_mk0)), rfl, bel.frame _, fun h => by cases h⟩
theorem laid_met (os : Os) : laidMet Tryz.prog Rows.lookFirstRow.laid (({ World.holding Tryz.prog os ⟨#[], #[], []⟩ with heap := ((((World.holding Tryz.prog os ⟨#[], #[], []⟩).heap.modify 2 (layOne (layA Rows.laid_stockade_chunk_greatest))).modify 3 (layOne (layA Rows.laid_math_bits_deBruijn64tab))).modify 1 (layOne (layB Rows.laid_stockade_rfc_sides))).modify 0 (layOne (layB Rows.laid_stockade_look_sides)) } : World).forCall (fun _ _ => 0) ⟨#[], #[.slice none 0 0, .agg #[.int .i64 0, .int .i64 0, .int .i64 0, .int .u64 0, .int .u64 0, .int .i64 0, .int .u64 0, .int .u64 0, .int .i64 0, .int .i64 0, .int .i64 0]], []⟩).memory :=
 laidMet_of_run' 8 (by kernel_rfl) (by kernel_rfl)
theorem reads (os : Os) {H : Type} (enc : TypeId × Value → H) : ∃ places, DataW.whole enc Tryz.prog (({ World.holding Tryz.prog os ⟨#[], #[], []⟩ with heap := ((((World.holding Tryz.prog os ⟨#[], #[], []⟩).heap.modify 2 (layOne (layA Rows.laid_stockade_chunk_greatest))).modify 3 (layOne (layA Rows.laid_math_bits_deBruijn64tab))).modify 1 (layOne (layB Rows.laid_stockade_rfc_sides))).modify 0 (layOne (layB Rows.laid_stockade_look_sides)) } : World).forCall (fun _ _ => 0) ⟨#[], #[.slice none 0 0, .agg #[.int .i64 0, .int .i64 0, .int .i64 0, .int .u64 0, .int .u64 0, .int .i64 0, .int .u64 0, .int .u64 0, .int .i64 0, .int .i64 0, .int .i64 0]], []⟩).memory Tryz.f5.params.toList Rows.lookFirstSpec.vars false (#[.slice none 0 0, .agg #[.int .i64 0, .int .i64 0, .int .i64 0, .int .u64 0, .int .u64 0, .int .i64 0, .int .u64 0, .int .u64 0, .int .i64 0, .int .i64 0, .int .i64 0]] : Array Value).toList 8 = some ([.nil, .agg [.lit (.int .i64 0), .lit (.int .i64 0), .agg [.lit (.int .i64 0), .lit (.int .u64 0), .lit (.int .u64 0)], .agg [.lit (.int .i64 0), .lit (.int .u64 0), .lit (.int .u64 0)], .lit (.int .i64 0), .lit (.int .i64 0), .lit (.int .i64 0)]], [], places) :=
 ⟨[], by kernel_rfl⟩
set_option maxRecDepth 100000 in
theorem lifted (os : Os) (started : os.Started) (H : Type) (enc : TypeId × Value → H) (F : Stop.Interp) :
  ReturnsInHanded {} Tryz.checked os 5 .any ((OpenSpec.ofChange Rows.lookFirstSpec).preRow enc Tryz.prog Tryz.f5 Rows.lookFirstRow.domain false Rows.lookFirstRow.laid) (((OpenSpec.ofChange Rows.lookFirstSpec).at F).post enc Tryz.prog Tryz.f5 false true false false) := by
 obtain ⟨places, hx⟩ := reads os enc
 refine returnsInHanded_of_row (C := Tryz.checked) (s := (OpenSpec.ofChange Rows.lookFirstSpec)) own started (by kernel_rfl) Tryz.func5
  (witness_row_at (enc := enc) (C := Tryz.checked) false ({ World.holding Tryz.prog os ⟨#[], #[], []⟩ with heap := ((((World.holding Tryz.prog os ⟨#[], #[], []⟩).heap.modify 2 (layOne (layA Rows.laid_stockade_chunk_greatest))).modify 3 (layOne (layA Rows.laid_math_bits_deBruijn64tab))).modify 1 (layOne (layB Rows.laid_stockade_rfc_sides))).modify 0 (layOne (layB Rows.laid_stockade_look_sides)) } : World) #[.slice none 0 0, .agg #[.int .i64 0, .int .i64 0, .int .i64 0, .int .u64 0, .int .u64 0, .int .i64 0, .int .u64 0, .int .u64 0, .int .i64 0, .int .i64 0, .int .i64 0]] rfl (by kernel_rfl) (by kernel_rfl) (by kernel_rfl)
   (OpenSpec.preRow_of_cond 8 hx (by kernel_rfl) (fun k hk => by cases hk) (by kernel_rfl) (laid_met os))) ?_
 intro W base args ds gs before hval hW _ _ hsz hL hsh _
 exact contract H enc W base args ds gs before hval hW hsz hL hsh
theorem said : Rows.LookFirstSaid :=
 OpenClaim.holds_of_cond 5 Tryz.f5 rfl rfl rfl rfl rfl rfl rfl ⟨rfl, rfl, rfl, rfl, rfl⟩ rfl rfl rfl rfl rfl (by kernel_rfl) Tryz.func5 (by kernel_rfl)
  (of_decide_eq_true (by kernel_rfl)) (by unfold Func.isWrapper; first | (rw [if_pos (by decide +kernel)]; kernel_rfl) | (rw [if_neg (by decide +kernel)]; exact ⟨rfl, rfl⟩))
  (fun os started H enc _ F => by rw [OpenClaim.pre_eq_preRow]; exact lifted os started H enc F)
theorem plain (f : FuncId) (fn : Func) (hf : Tryz.pinned.checked.prog.funcNamed "stockade/stockadelaw13.LookFirst" = some f) (hfn : Tryz.pinned.checked.prog.funcs[f]? = some fn) :
  false = Tryz.pinned.checked.prog.looks [] ∧ ∀ (j : Nat) t, fn.params[j]? = some t → Tryz.pinned.checked.prog.wantsStandIn t = false := by
 obtain rfl : f = 5 := Option.some.inj ((show Tryz.prog.funcNamed "stockade/stockadelaw13.LookFirst" = some 5 by kernel_rfl).symm.trans hf) |>.symm
 obtain rfl : fn = Tryz.f5 := (Option.some.inj (Tryz.func5.symm.trans hfn)).symm
 refine ⟨by kernel_rfl, fun j t ht => ?_⟩
 rw [Tryz.params5] at ht
 have hm : t ∈ [40, 33] := by simpa using Array.mem_of_getElem? ht
 have hall : ([40, 33].all fun u => !Tryz.prog.wantsStandIn u) = true := by kernel_rfl
 exact (show Tryz.prog.wantsStandIn t = false by simpa using List.all_eq_true.1 hall t hm)
end Go.Proofs.YtmfgjicfdjjihaaGreatDoor.lookFirst
namespace Go.Proofs.YtmfgjicfdjjihaaGreatDoor
theorem lookFirst_holds : Rows.LookFirstCardSaid :=
 Claim7.holds_tied_plain_at .later [] _ _ _ _ lookFirst.said (fun _ h => by cases h) (by kernel_rfl) (fun _ h => by cases h) lookFirst_row_tie rfl ⟨rfl, rfl⟩ (by kernel_rfl) rfl lookFirst.plain (by kernel_rfl)
end Go.Proofs.YtmfgjicfdjjihaaGreatDoor
