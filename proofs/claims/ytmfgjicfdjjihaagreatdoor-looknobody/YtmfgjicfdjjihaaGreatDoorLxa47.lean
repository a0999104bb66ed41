/- For every input the law LookNobody returns true and leaves its arguments as they were; the variables that its row lists hold what they are listed with (the card ties them to the program's text). -/
import Derived.Test.YtmfgjicfdjjihaaGreatDoorLxa40
import Derived.Test.YtmfgjicfdjjihaaGreatDoorCards
import Derived.Test.YtmfgjicfdjjihaaGreatDoorTie
import Derived.WalkKit
import Derived.ProofKit
import Derived.OpenShut
import Derived.ChangeOld
import Derived.Below
import Derived.Carry
import Derived.SizedLaws
import Derived.Deep.DeepHandedRow
import Derived.SevenTiedAt
namespace Go.Proofs.YtmfgjicfdjjihaaGreatDoor
open Go.RowKit
set_option linter.unusedVariables false
set_option linter.unusedSimpArgs false
set_option maxRecDepth 100000 in
set_option maxHeartbeats 16000000 in
theorem hfind_not (p : Value) (KV : Array Value) (w : World) (hm : ∀ W, Below w.heap.size w W → Calls Tryz.prog 47 #[p] W fun e w' => e = .returned (.bool false) ∧ Below W.heap.size W w') :
  Calls Tryz.prog 20 #[p, .agg KV] w fun e w' => e = .returned (.tuple #[.int .i64 0, .int .i64 13]) ∧ Below w.heap.size w w' := by
 obtain ⟨W1, hW1⟩ : ∃ W1, w.alloc (.cells KV 33) = W1 := ⟨_, rfl⟩
 have b1 := bel_nw hW1
 have K1 : Hid _ := hm W1 b1
 clear hm
 go_enter Tryz.func20, Tryz.ntmps20
 go_wp2_with fail
 refine Calls.mono K1.out ?_
 rintro e W2 ⟨rfl, q2⟩
 have b2 := bel_tr b1 q2
 go_wp2
 exact bodyPost_ret (results_tmp2 Tryz.results20 _ _ _) rfl ⟨rfl, b2⟩
set_option maxRecDepth 100000 in
set_option maxHeartbeats 16000000 in
theorem swap_not (p : Value) (TV : Array Value) (w : World) (hm : ∀ W, Below w.heap.size w W → Calls Tryz.prog 47 #[p] W fun e w' => e = .returned (.bool false) ∧ Below W.heap.size W w') :
  Calls Tryz.prog 19 #[p, .agg TV] w fun e w' => e = .returned (.int .i64 13) ∧ Below w.heap.size w w' := by
 obtain ⟨W1, hW1⟩ : ∃ W1, w.alloc (.cells TV 26) = W1 := ⟨_, rfl⟩
 have b1 := bel_nw hW1
 have K1 : Hid _ := hm W1 b1
 clear hm
 go_enter Tryz.func19, Tryz.ntmps19
 go_wp2_with fail
 refine Calls.mono K1.out ?_
 rintro e W2 ⟨rfl, q2⟩
 have b2 := bel_tr b1 q2
 go_wp2
 go_ret
 exact ⟨rfl, b2⟩
set_option maxRecDepth 100000 in
set_option maxHeartbeats 16000000 in
theorem turns_not (p : Value)  (w : World) (hm : ∀ W, Below w.heap.size w W → Calls Tryz.prog 47 #[p] W fun e w' => e = .returned (.bool false) ∧ Below W.heap.size W w') :
  Calls Tryz.prog 21 #[p] w fun e w' => e = .returned (.int .i64 0) ∧ Below w.heap.size w w' := by
 have b1 : Below w.heap.size w w := Below.refl _ _
 have K1 : Hid _ := hm w b1
 clear hm
 go_enter Tryz.func21, Tryz.ntmps21
 go_wp2_with fail
 refine Calls.mono K1.out ?_
 rintro e W2 ⟨rfl, q2⟩
 have b2 := bel_tr b1 q2
 go_wp2
 go_ret
 exact ⟨rfl, b2⟩
set_option maxRecDepth 100000 in
set_option maxHeartbeats 16000000 in
theorem lookNobody_walk (k : Ky) (w : World) (ko : k.ok) (hT : Top w) (hDb : Deb w) (hSd : Sds w) (hL : Lks w) : Calls Tryz.prog 8 #[.agg k.v] w fun e w' => e = .returned (.bool true) ∧ Below w.heap.size w w' := by
 have KA : Hid (∀ W, Below w.heap.size w W → Calls Tryz.prog 11 #[] W fun e w' => e = .returned (.bool true) ∧ Below W.heap.size W w') := fun W hb => alive_lk W (hT.below hb) (hDb.below hb) (hSd.below hb) (hL.below hb)
 have hsk : (Tryz.prog.info? 33).map (·.size) = some k.v.size := by show _ = some 11; kernel_rfl
 obtain ⟨KV, hKV⟩ : ∃ KV, k.v = KV := ⟨_, rfl⟩
 rw [hKV] at hsk ⊢
 obtain ⟨W1, hW1⟩ : ∃ W1, w.alloc (.cells KV 33) = W1 := ⟨_, rfl⟩
 have b1 := bel_nw hW1
 have HBK : Hid (Blk W1 w.heap.size 33 KV) := blk_nw hW1
 have K1 : Hid (Calls Tryz.prog 18 #[.slice none 0 0, .int .i64 13] W1 fun e w' => ∃ t : TR, e = .returned (.tuple #[.agg t.v, .int .i64 0]) ∧ Below W1.heap.size W1 w') := by
  refine (rcompile_tr none 0 [] 13 W1 ⟨fun q hq => (by cases hq), fun i q hq => (by simp at hq)⟩).mono ?_
  rintro e w' ⟨t, rfl, _, _, hb⟩
  rw [errT_13]
  exact ⟨t, rfl, hb⟩
 clear hT hDb hSd hL ko hKV
 go_enter Tryz.func8, Tryz.ntmps8
 go_wp2_with fail
 refine Calls.mono K1.out ?_
 rintro e W2 ⟨t, rfl, q2⟩
 have hst : (Tryz.prog.info? 26).map (·.size) = some 3 := by kernel_rfl
 obtain ⟨W3, hW3⟩ : ∃ W3, W2.alloc (.cells t.v 26) = W3 := ⟨_, rfl⟩
 have q3 := bel_al q2 hW3
 have HBT : Hid (Blk W3 W2.heap.size 26 t.v) := blk_nw hW3
 obtain ⟨W4, hW4⟩ : ∃ W4, W3.alloc (.cells #[.bool false, .slice none 0 0, .slice none 0 0, .slice none 0 0, .int .i64 0] 66) = W4 := ⟨_, rfl⟩
 obtain ⟨W5, hW5⟩ : ∃ W5, W4.alloc (.cells #[.pointer none, .pointer (some ⟨W3.heap.size, 0, none⟩)] 48) = W5 := ⟨_, rfl⟩
 have q4 := bel_nw hW4
 have q5 := bel_al q4 hW5
 have q15 := bel_tr q3 q5
 have HH5 : Hid (Blk W5 W3.heap.size 66 #[.bool false, .slice none 0 0, .slice none 0 0, .slice none 0 0, .int .i64 0]) := (blk_nw hW4).al hW5
 have HP5 : Hid (Blk W5 W4.heap.size 48 #[.pointer none, .pointer (some ⟨W3.heap.size, 0, none⟩)]) := blk_nw hW5
 have HT5 : Hid (Blk W5 W2.heap.size 26 t.v) := HBT.out.kept q5
 have HK5 : Hid (Blk W5 w.heap.size 33 KV) := HBK.out.kept q15
 have b5 := bel_tr b1 q15
 clear K1 q2
 go_wp2_with fail
 go_loopw [17] (fun i wr => ∃ (n : Nat), n ≤ 2 ∧ i = .int .i64 n ∧ Below W5.heap.size W5 wr) (fun i _ => 2 - (intOf i).toNat)
 case atStart => exact ⟨0, by omega, rfl, Below.refl _ _⟩
 case round =>
  obtain ⟨n, hn, rfl, qw⟩ := hrel
  by_cases hlt : n < 2
  ·have ik : (n : Int) < 2 := by omega
   have in0 : (0 : Int) ≤ (n : Int) := by omega
   have hw1 : IntKind.i64.wrap ((n : Int) + 1) = ((n + 1 : Nat) : Int) := by simp [IntKind.wrap, IntKind.bits, IntKind.signed]; omega
   obtain ⟨p, hp, hm⟩ : ∃ p : Option Addr, wr.cell? ⟨W4.heap.size, n, none⟩ = some (.pointer p) ∧ ∀ W, Below wr.heap.size wr W → Calls Tryz.prog 47 #[.pointer p] W fun e w' => e = .returned (.bool false) ∧ Below W.heap.size W w' := by
    match n, hlt with
    | 0, _ => exact ⟨none, (HP5.out.kept qw).cell 0 _ rfl, fun W _ => isMade_nil W⟩
    | 1, _ => exact ⟨some ⟨W3.heap.size, 0, none⟩, (HP5.out.kept qw).cell 1 _ rfl, fun W hb => isMade_lk W3.heap.size false W ((HH5.out.kept (bel_tr qw hb)).cell 0 _ rfl)⟩
   have HM : Hid (∀ W, Below wr.heap.size wr W → Calls Tryz.prog 47 #[.pointer p] W fun e w' => e = .returned (.bool false) ∧ Below W.heap.size W w') := hm
   have K1 : Hid _ := hfind_not (.pointer p) KV wr hm
   have atk := (HK5.out.kept qw).at_
   clear hm
   go_wp2_with (first | (refine wpList_load_at rfl _ _ rfl w.heap.size 0 (by rfl) _ atk Tryz.underlying33 hsk ?_))
   refine Calls.mono K1.out ?_
   rintro e V1 ⟨rfl, q1⟩
   have qw1 := bel_tr qw q1
   have att := (HT5.out.kept qw1).at_
   have K2 : Hid _ := swap_not (.pointer p) t.v V1 (fun W hb => HM.out W (bel_tr q1 hb))
   clear K1 hp atk
   go_wp2_with (first | (refine wpList_load_at_w (by rfl) _ _ rfl W2.heap.size 0 (by rfl) _ att Tryz.underlying26 hst ?_))
   refine Calls.mono K2.out ?_
   rintro e V2 ⟨rfl, q2⟩
   have qw2 := bel_tr qw1 q2
   have K3 : Hid _ := turns_not (.pointer p) V2 (fun W hb => HM.out W (bel_tr (bel_tr q1 q2) hb))
   clear K2 att
   go_wp2_with fail
   refine Calls.mono K3.out ?_
   rintro e V3 ⟨rfl, q3'⟩
   have qw3 := bel_tr qw2 q3'
   clear K3
   go_wp2
   exact ⟨⟨n + 1, by omega, by first | rfl | (congr 1), qw3⟩, by simp only [intOf]; omega⟩
  ·have hn2 : n = 2 := by omega
   subst hn2
   rw [show ((2 : Nat) : Int) = 2 from rfl]
   have b6 := bel_tr b5 qw
   have KA' : Hid _ := KA.out wr b6
   go_wp2_with fail
   refine Calls.mono KA'.out ?_
   rintro e W7 ⟨rfl, q7⟩
   have b7 := bel_tr b6 q7
   go_wp2
   go_ret
   exact ⟨rfl, b7⟩
end Go.Proofs.YtmfgjicfdjjihaaGreatDoor
namespace Go.Proofs.YtmfgjicfdjjihaaGreatDoor.lookNobody
open Go.ChangeShapes Go.WideShapes Go.ChangeAt Go.RowKit
set_option linter.unusedVariables false
set_option linter.unusedSimpArgs false
theorem own : ownKnob Tryz.prog.godebug = none := by kernel_rfl
theorem laidOut : laidOutB Tryz.prog = true := by kernel_rfl
set_option maxRecDepth 100000 in
theorem contract (H : Type) (enc : TypeId × Value → H) (W : World) (base : Nat) (args : Array Value) (ds gs : List (DataW H)) (before : List MemPlace)
  (hval : ∀ (j : Nat) t v, Tryz.f8.params[j]? = some t → args[j]? = some v → Value.okWide Tryz.prog W .any base t v)
  (hW : DataW.Whole enc Tryz.prog Tryz.f8.params.toList Rows.lookNobodySpec.vars false W args.toList ds gs before)
  (hsz : (DataW.weightsEach Tryz.prog (Tryz.f8.params.toList ++ Rows.lookNobodySpec.plain.varTypes Tryz.prog) (ds ++ gs)).all (· ≤ reachBytes) = true)
  (hL : laidMetH Tryz.prog Rows.lookNobodyRow.laid W) (hsh : W.ShapedOpen Tryz.prog) :
  Calls Tryz.prog 8 args W fun e W' => ∃ v, e = .returned v ∧ Rows.lookNobodySpec.post enc Tryz.prog Tryz.f8 false true false false W args v W' := by
 have hW' := hW
 obtain ⟨p, q, hA0, hV, rfl, hfz, hnd⟩ := hW
 have hA : DataW.TrodAll enc Tryz.prog W 0 (fun _ => true) true Tryz.f8.params.toList args.toList ds p := hA0
 rw [Tryz.params8] at hA hval hsz
 obtain ⟨v0, vs0, d0, ds0, p0, q0, hargs, rfl, rfl, h0, r0⟩ := trodAll_cons hA
 obtain ⟨rfl, rfl, rfl⟩ := trodAll_nil r0
 obtain rfl : args = #[v0] := by cases args; simp_all
 obtain ⟨rfl, rfl⟩ := trodVars_none hV
 have lt0 : ∀ x ∈ p0, x.block < W.heap.size := by obtain ⟨m, hm⟩ := h0; exact DataW.trod_lt m _ _ _ hm
 obtain ⟨k0, rfl, ok0⟩ := open_key (hval 0 33 v0 rfl rfl) h0
 obtain ⟨hT, hDb, hSd, hLk⟩ := four_of (show laidMet Tryz.prog Rows.lookNobodyRow.laid W from hL)
 clear hA0 hval
 refine (lookNobody_walk k0 W ok0 hT hDb hSd hLk).mono fun e W' ⟨he, bel⟩ => ?_
 subst he
 exact ⟨_, rfl, _, _, _, [], _, [], hW', trodAll_mk1 (shut_bool Tryz.underlying4 _), (trodAll_cons_mk (Below.trod laidOut (by kernel_rfl) (of_decide_eq_true (by kernel_rfl)) h0 bel lt0) trodAll_mk0), rfl, bel.frame _, fun h => by cases h⟩
theorem laid_met (os : Os) : laidMet Tryz.prog Rows.lookNobodyRow.laid (({ World.holding Tryz.prog os ⟨#[], #[], []⟩ with heap := ((((World.holding Tryz.prog os ⟨#[], #[], []⟩).heap.modify 2 (layOne (layA Rows.laid_stockade_chunk_greatest))).modify 3 (layOne (layA Rows.laid_math_bits_deBruijn64tab))).modify 1 (layOne (layB Rows.laid_stockade_rfc_sides))).modify 0 (layOne (layB Rows.laid_stockade_look_sides)) } : World).forCall (fun _ _ => 0) ⟨#[], #[.agg #[.int .i64 0, .int .i64 0, .int .i64 0, .int .u64 0, .int .u64 0, .int .i64 0, .int .u64 0, .int .u64 0, .int .i64 0, .int .i64 0, .int .i64 0]], []⟩).memory :=
 laidMet_of_run' 8 (by kernel_rfl) (by kernel_rfl)
theorem reads (os : Os) {H : Type} (enc : TypeId × Value → H) : ∃ places, DataW.whole enc Tryz.prog (({ World.holding Tryz.prog os ⟨#[], #[], []⟩ with heap := ((((World.holding Tryz.prog os ⟨#[], #[], []⟩).heap.modify 2 (layOne (layA Rows.laid_stockade_chunk_greatest))).modify 3 (layOne (layA Rows.laid_math_bits_deBruijn64tab))).modify 1 (layOne (layB Rows.laid_stockade_rfc_sides))).modify 0 (layOne (layB Rows.laid_stockade_look_sides)) } : World).forCall (fun _ _ => 0) ⟨#[], #[.agg #[.int .i64 0, .int .i64 0, .int .i64 0, .int .u64 0, .int .u64 0, .int .i64 0, .int .u64 0, .int .u64 0, .int .i64 0, .int .i64 0, .int .i64 0]], []⟩).memory Tryz.f8.params.toList Rows.lookNobodySpec.vars false (#[.agg #[.int .i64 0, .int .i64 0, .int .i64 0, .int .u64 0, .int .u64 0, .int .i64 0, .int .u64 0, .int .u64 0, .int .i64 0, .int .i64 0, .int .i64 0]] : Array Value).toList 8 = some ([.agg [.lit (.int .i64 0), .lit (.int .i64 0), .agg [.lit (.int .i64 0), .lit (.int .u64 0), .lit (.int .u64 0)], .agg [.lit (.int .i64 0), .lit (.int .u64 0), .lit (.int .u64 0)], .lit (.int .i64 0), .lit (.int .i64 0), .lit (.int .i64 0)]], [], places) :=
 ⟨[], by kernel_rfl⟩
set_option maxRecDepth 100000 in
theorem lifted (os : Os) (started : os.Started) (H : Type) (enc : TypeId × Value → H) (F : Stop.Interp) :
  ReturnsInHanded {} Tryz.checked os 8 .any ((OpenSpec.ofChange Rows.lookNobodySpec).preRow enc Tryz.prog Tryz.f8 Rows.lookNobodyRow.domain false Rows.lookNobodyRow.laid) (((OpenSpec.ofChange Rows.lookNobodySpec).at F).post enc Tryz.prog Tryz.f8 false true false false) := by
 obtain ⟨places, hx⟩ := reads os enc
 refine returnsInHanded_of_row (C := Tryz.checked) (s := (OpenSpec.ofChange Rows.lookNobodySpec)) own started (by kernel_rfl) Tryz.func8
  (witness_row_at (enc := enc) (C := Tryz.checked) false ({ World.holding Tryz.prog os ⟨#[], #[], []⟩ with heap := ((((World.holding Tryz.prog os ⟨#[], #[], []⟩).heap.modify 2 (layOne (layA Rows.laid_stockade_chunk_greatest))).modify 3 (layOne (layA Rows.laid_math_bits_deBruijn64tab))).modify 1 (layOne (layB Rows.laid_stockade_rfc_sides))).modify 0 (layOne (layB Rows.laid_stockade_look_sides)) } : World) #[.agg #[.int .i64 0, .int .i64 0, .int .i64 0, .int .u64 0, .int .u64 0, .int .i64 0, .int .u64 0, .int .u64 0, .int .i64 0, .int .i64 0, .int .i64 0]] rfl (by kernel_rfl) (by kernel_rfl) (by kernel_rfl)
   (OpenSpec.preRow_of_cond 8 hx (by kernel_rfl) (fun k hk => by cases hk) (by kernel_rfl) (laid_met os))) ?_
 intro W base args ds gs before hval hW _ _ hsz hL hsh _
 exact contract H enc W base args ds gs before hval hW hsz hL hsh
theorem said : Rows.LookNobodySaid :=
 OpenClaim.holds_of_cond 8 Tryz.f8 rfl rfl rfl rfl rfl rfl rfl ⟨rfl, rfl, rfl, rfl, rfl⟩ rfl rfl rfl rfl rfl (by kernel_rfl) Tryz.func8 (by kernel_rfl)
  (of_decide_eq_true (by kernel_rfl)) (by unfold Func.isWrapper; first | (rw [if_pos (by decide +kernel)]; kernel_rfl) | (rw [if_neg (by decide +kernel)]; exact ⟨rfl, rfl⟩))
  (fun os started H enc _ F => by rw [OpenClaim.pre_eq_preRow]; exact lifted os started H enc F)
theorem plain (f : FuncId) (fn : Func) (hf : Tryz.pinned.checked.prog.funcNamed "stockade/stockadelaw13.LookNobody" = some f) (hfn : Tryz.pinned.checked.prog.funcs[f]? = some fn) :
  false = Tryz.pinned.checked.prog.looks [] ∧ ∀ (j : Nat) t, fn.params[j]? = some t → Tryz.pinned.checked.prog.wantsStandIn t = false := by
 obtain rfl : f = 8 := Option.some.inj ((show Tryz.prog.funcNamed "stockade/stockadelaw13.LookNobody" = some 8 by kernel_rfl).symm.trans hf) |>.symm
 obtain rfl : fn = Tryz.f8 := (Option.some.inj (Tryz.func8.symm.trans hfn)).symm
 refine ⟨by kernel_rfl, fun j t ht => ?_⟩
 rw [Tryz.params8] at ht
 have hm : t ∈ [33] := by simpa using Array.mem_of_getElem? ht
 have hall : ([33].all fun u => !Tryz.prog.wantsStandIn u) = true := by kernel_rfl
 exact (show Tryz.prog.wantsStandIn t = false by simpa using List.all_eq_true.1 hall t hm)
end Go.Proofs.YtmfgjicfdjjihaaGreatDoor.lookNobody
namespace Go.Proofs.YtmfgjicfdjjihaaGreatDoor
theorem lookNobody_holds : Rows.LookNobodyCardSaid :=
 Claim7.holds_tied_plain_at .later [] _ _ _ _ lookNobody.said (fun _ h => by cases h) (by kernel_rfl) (fun _ h => by cases h) lookNobody_row_tie rfl ⟨rfl, rfl⟩ (by kernel_rfl) rfl lookNobody.plain (by kernel_rfl)
end Go.Proofs.YtmfgjicfdjjihaaGreatDoor
