/- Where what it reads is of bulk at most 1048576 the law LookFinds returns true and leaves its arguments as they were; the variables that its row lists hold what they are listed with (the card ties them to the program's text). -/
import Derived.Test.YtmfgjicfdjjihaaGreatDoorLxa40
import Derived.Test.YtmfgjicfdjjihaaGreatDoorLxa42
import Derived.Test.YtmfgjicfdjjihaaGreatDoorCards
import Derived.Test.YtmfgjicfdjjihaaGreatDoorTie
import Derived.WalkKit
import Derived.ProofKit
import Derived.OpenShut
import Derived.ChangeOld
import Derived.Below
import Derived.Carry
import Derived.SizedLaws
import Derived.Deep.DeepHandedRow
import Derived.SevenTiedAt
namespace Go.Proofs.YtmfgjicfdjjihaaGreatDoor
open Go.RowKit
set_option linter.unusedVariables false
set_option linter.unusedSimpArgs false
set_option maxRecDepth 100000 in
set_option maxHeartbeats 16000000 in
theorem lookFinds_walk (t : TR) (k : Ky) (w : World) (hok : t.ok w) (hsz : ∀ j, szN t.D t.X j ≤ 2147483648) (htop : ∀ n ∈ t.F, n ≤ 9223372036854775807) (ko : k.ok) (hT : Top w) (hDb : Deb w) (hSd : Sds w) (hL : Lks w) : Calls Tryz.prog 4 #[.agg t.v, .agg k.v] w fun e w' => e = .returned (.bool true) ∧ Below w.heap.size w w' := by
 have KA : Hid (∀ W, Below w.heap.size w W → Calls Tryz.prog 11 #[] W fun e w' => e = .returned (.bool true) ∧ Below W.heap.size W w') := fun W hb => alive_lk W (hT.below hb) (hDb.below hb) (hSd.below hb) (hL.below hb)
 have K1 : Hid (∀ W, Below w.heap.size w W → Calls Tryz.prog 12 #[.agg t.v, .agg k.v] W fun e w' => e = .returned (.tuple #[.int .i64 (findA t.D t.X t.F k).1, .int .i64 (findA t.D t.X t.F k).2]) ∧ Below W.heap.size W w') := fun W hb => lookup_lk t k W (hok.low hb) (hL.below hb) hsz htop ko
 have K2 : Hid (∀ W, Below w.heap.size w W → Calls Tryz.prog 13 #[.agg t.v, .agg k.v] W fun e w' => e = .returned (.tuple #[.int .i64 (findA t.D t.X t.F k).1, .int .i64 (findA t.D t.X t.F k).2]) ∧ Below W.heap.size W w') := fun W hb => rlookup_lk t k W (hok.low hb) ko
 generalize (findA t.D t.X t.F k).1 = R1 at K1 K2
 generalize (findA t.D t.X t.F k).2 = R2 at K1 K2
 have hst : (Tryz.prog.info? 26).map (·.size) = some t.v.size := by show _ = some 3; kernel_rfl
 obtain ⟨TV, hTV⟩ : ∃ TV, t.v = TV := ⟨_, rfl⟩
 obtain ⟨KV, hKV⟩ : ∃ KV, k.v = KV := ⟨_, rfl⟩
 have hsk : (Tryz.prog.info? 33).map (·.size) = some KV.size := by rw [← hKV]; show _ = some 11; kernel_rfl
 rw [hTV] at K1 K2 hst ⊢
 rw [hKV] at K1 K2 ⊢
 obtain ⟨W1, hW1⟩ : ∃ W1, w.alloc (.cells TV 26) = W1 := ⟨_, rfl⟩
 obtain ⟨W2, hW2⟩ : ∃ W2, W1.alloc (.cells KV 33) = W2 := ⟨_, rfl⟩
 have b2 := bel_al (bel_nw hW1) hW2
 have HB : Hid (Blk W2 w.heap.size 26 TV) := (blk_nw hW1).al hW2
 have HK : Hid (Blk W2 W1.heap.size 33 KV) := blk_nw hW2
 have at1 := HB.out.at_
 have at2 := HK.out.at_
 have K1' : Hid _ := K1.out W2 b2
 clear hok hsz htop hT hDb hSd hL hTV hKV ko K1
 go_enter Tryz.func4, Tryz.ntmps4
 go_wp2_with (first
  | (refine wpList_load_at rfl _ _ rfl w.heap.size 0 (by rfl) _ at1 Tryz.underlying26 hst ?_)
  | (refine wpList_load_at rfl _ _ rfl W1.heap.size 0 (by rfl) _ at2 Tryz.underlying33 hsk ?_))
 refine Calls.mono K1'.out ?_
 rintro e W3 ⟨rfl, q3⟩
 have b3 := bel_tr b2 q3
 have at3 := (HB.out.kept q3).at_
 have at4 := (HK.out.kept q3).at_
 have K2' : Hid _ := K2.out W3 b3
 clear at1 at2 K1' hW1 hW2 K2
 go_wp2_with (first
  | (refine wpList_load_at rfl _ _ rfl w.heap.size 0 (by rfl) _ at3 Tryz.underlying26 hst ?_)
  | (refine wpList_load_at rfl _ _ rfl W1.heap.size 0 (by rfl) _ at4 Tryz.underlying33 hsk ?_))
 refine Calls.mono K2'.out ?_
 rintro e W4 ⟨rfl, q4⟩
 have b4 := bel_tr b3 q4
 have KA' : Hid _ := KA.out W4 b4
 clear at3 at4 K2' KA
 go_wp2_with fail
 refine Calls.mono KA'.out ?_
 rintro e W5 ⟨rfl, q5⟩
 have b5 := bel_tr b4 q5
 go_wp2
 go_ret
 exact ⟨rfl, b5⟩
end Go.Proofs.YtmfgjicfdjjihaaGreatDoor
namespace Go.Proofs.YtmfgjicfdjjihaaGreatDoor.lookFinds
open Go.ChangeShapes Go.WideShapes Go.ChangeAt Go.RowKit
set_option linter.unusedVariables false
set_option linter.unusedSimpArgs false
theorem own : ownKnob Tryz.prog.godebug = none := by kernel_rfl
theorem laidOut : laidOutB Tryz.prog = true := by kernel_rfl
set_option maxRecDepth 100000 in
theorem contract (H : Type) (enc : TypeId × Value → H) (W : World) (base : Nat) (args : Array Value) (ds gs : List (DataW H)) (before : List MemPlace)
  (hval : ∀ (j : Nat) t v, Tryz.f4.params[j]? = some t → args[j]? = some v → Value.okWide Tryz.prog W .any base t v)
  (hW : DataW.Whole enc Tryz.prog Tryz.f4.params.toList Rows.lookFindsSpec.vars false W args.toList ds gs before)
  (hk : Rows.uptoSmall H (ds ++ gs) = true) (hsz : (DataW.weightsEach Tryz.prog (Tryz.f4.params.toList ++ Rows.lookFindsSpec.plain.varTypes Tryz.prog) (ds ++ gs)).all (· ≤ reachBytes) = true)
  (hL : laidMetH Tryz.prog Rows.lookFindsUptoRow.laid W) (hsh : W.ShapedOpen Tryz.prog) :
  Calls Tryz.prog 4 args W fun e W' => ∃ v, e = .returned v ∧ Rows.lookFindsSpec.post enc Tryz.prog Tryz.f4 false true false false W args v W' := by
 have hW' := hW
 obtain ⟨p, q, hA0, hV, rfl, hfz, hnd⟩ := hW
 have hA : DataW.TrodAll enc Tryz.prog W 0 (fun _ => true) true Tryz.f4.params.toList args.toList ds p := hA0
 rw [Tryz.params4] at hA hval hsz
 obtain ⟨v0, vs0, d0, ds0, p0, q0, hargs, rfl, rfl, h0, r0⟩ := trodAll_cons hA
 obtain ⟨v1, vs1, d1, ds1, p1, q1, rfl, rfl, rfl, h1, r1⟩ := trodAll_cons r0
 obtain ⟨rfl, rfl, rfl⟩ := trodAll_nil r1
 obtain rfl : args = #[v0, v1] := by cases args; simp_all
 obtain ⟨rfl, rfl⟩ := trodVars_none hV
 have lt0 : ∀ x ∈ p0, x.block < W.heap.size := by obtain ⟨m, hm⟩ := h0; exact DataW.trod_lt m _ _ _ hm
 have s0 : ∀ n ∈ d0.weights Tryz.prog 26, n ≤ reachBytes := fun n hn => by simpa using List.all_eq_true.1 hsz n (DataW.weights_mem_each (j := 0) (t := 26) rfl rfl n hn)
 obtain ⟨t0, rfl, ok0, bz0, tp0⟩ := open_tables_u (hval 0 26 v0 rfl rfl) h0 s0
 have bl0 : ∀ j, szN t0.D t0.X j ≤ 2147483648 := fun j => by
  have hh := of_decide_eq_true hk
  have hj := bz0 j
  simp only [List.append_nil, List.cons_append, List.nil_append, Rows.uptoBulkAll] at hh
  omega
 have lt1 : ∀ x ∈ p1, x.block < W.heap.size := by obtain ⟨m, hm⟩ := h1; exact DataW.trod_lt m _ _ _ hm
 obtain ⟨k1, rfl, ok1⟩ := open_key (hval 1 33 v1 rfl rfl) h1
 obtain ⟨hT, hDb, hSd, hLk⟩ := four_of (show laidMet Tryz.prog Rows.lookFindsUptoRow.laid W from hL)
 clear hA0 hval
 refine (lookFinds_walk t0 k1 W ok0 bl0 tp0 ok1 hT hDb hSd hLk).mono fun e W' ⟨he, bel⟩ => ?_
 subst he
 exact ⟨_, rfl, _, _, _, [], _, [], hW', trodAll_mk1 (shut_bool Tryz.underlying4 _), (trodAll_cons_mk (Below.trod laidOut (by kernel_rfl) (of_decide_eq_true (by kernel_rfl)) h0 bel lt0) (trodAll_cons_mk (Below.trod laidOut (by kernel_rfl) (of_decide_eq_true (by kernel_rfl)) h1 bel lt1) trodAll_mk0)), rfl, bel.frame _, fun h => by cases h⟩
theorem laid_met (os : Os) : laidMet Tryz.prog Rows.lookFindsUptoRow.laid (({ World.holding Tryz.prog os ⟨#[], #[], []⟩ with heap := ((((World.holding Tryz.prog os ⟨#[], #[], []⟩).heap.modify 2 (layOne (layA Rows.laid_stockade_chunk_greatest))).modify 3 (layOne (layA Rows.laid_math_bits_deBruijn64tab))).modify 1 (layOne (layB Rows.laid_stockade_rfc_sides))).modify 0 (layOne (layB Rows.laid_stockade_look_sides)) } : World).forCall (fun _ _ => 0) ⟨#[], #[.agg #[.slice none 0 0, .slice none 0 0, .slice none 0 0], .agg #[.int .i64 0, .int .i64 0, .int .i64 0, .int .u64 0, .int .u64 0, .int .i64 0, .int .u64 0, .int .u64 0, .int .i64 0, .int .i64 0, .int .i64 0]], []⟩).memory :=
 laidMet_of_run' 8 (by kernel_rfl) (by kernel_rfl)
theorem reads (os : Os) {H : Type} (enc : TypeId × Value → H) : ∃ places, DataW.whole enc Tryz.prog (({ World.holding Tryz.prog os ⟨#[], #[], []⟩ with heap := ((((World.holding Tryz.prog os ⟨#[], #[], []⟩).heap.modify 2 (layOne (layA Rows.laid_stockade_chunk_greatest))).modify 3 (layOne (layA Rows.laid_math_bits_deBruijn64tab))).modify 1 (layOne (layB Rows.laid_stockade_rfc_sides))).modify 0 (layOne (layB Rows.laid_stockade_look_sides)) } : World).forCall (fun _ _ => 0) ⟨#[], #[.agg #[.slice none 0 0, .slice none 0 0, .slice none 0 0], .agg #[.int .i64 0, .int .i64 0, .int .i64 0, .int .u64 0, .int .u64 0, .int .i64 0, .int .u64 0, .int .u64 0, .int .i64 0, .int .i64 0, .int .i64 0]], []⟩).memory Tryz.f4.params.toList Rows.lookFindsSpec.vars false (#[.agg #[.slice none 0 0, .slice none 0 0, .slice none 0 0], .agg #[.int .i64 0, .int .i64 0, .int .i64 0, .int .u64 0, .int .u64 0, .int .i64 0, .int .u64 0, .int .u64 0, .int .i64 0, .int .i64 0, .int .i64 0]] : Array Value).toList 8 = some ([.agg [.nil, .nil, .nil], .agg [.lit (.int .i64 0), .lit (.int .i64 0), .agg [.lit (.int .i64 0), .lit (.int .u64 0), .lit (.int .u64 0)], .agg [.lit (.int .i64 0), .lit (.int .u64 0), .lit (.int .u64 0)], .lit (.int .i64 0), .lit (.int .i64 0), .lit (.int .i64 0)]], [], places) :=
 ⟨[], by kernel_rfl⟩
set_option maxRecDepth 100000 in
theorem lifted (os : Os) (started : os.Started) (H : Type) (enc : TypeId × Value → H) (F : Stop.Interp) :
  ReturnsInHanded {} Tryz.checked os 4 .any ((Rows.OpenSpec.upto Rows.lookFindsSpec).preRow enc Tryz.prog Tryz.f4 Rows.lookFindsUptoRow.domain false Rows.lookFindsUptoRow.laid) (((Rows.OpenSpec.upto Rows.lookFindsSpec).at F).post enc Tryz.prog Tryz.f4 false true false false) := by
 obtain ⟨places, hx⟩ := reads os enc
 refine returnsInHanded_of_row (C := Tryz.checked) (s := (Rows.OpenSpec.upto Rows.lookFindsSpec)) own started (by kernel_rfl) Tryz.func4
  (witness_row_at (enc := enc) (C := Tryz.checked) false ({ World.holding Tryz.prog os ⟨#[], #[], []⟩ with heap := ((((World.holding Tryz.prog os ⟨#[], #[], []⟩).heap.modify 2 (layOne (layA Rows.laid_stockade_chunk_greatest))).modify 3 (layOne (layA Rows.laid_math_bits_deBruijn64tab))).modify 1 (layOne (layB Rows.laid_stockade_rfc_sides))).modify 0 (layOne (layB Rows.laid_stockade_look_sides)) } : World) #[.agg #[.slice none 0 0, .slice none 0 0, .slice none 0 0], .agg #[.int .i64 0, .int .i64 0, .int .i64 0, .int .u64 0, .int .u64 0, .int .i64 0, .int .u64 0, .int .u64 0, .int .i64 0, .int .i64 0, .int .i64 0]] rfl (by kernel_rfl) (by kernel_rfl) (by kernel_rfl)
   (OpenSpec.preRow_of_cond 8 hx (by kernel_rfl) (fun k hk => by cases hk; kernel_rfl) (by kernel_rfl) (laid_met os))) ?_
 intro W base args ds gs before hval hW _ hcond hsz hL hsh _
 exact contract H enc W base args ds gs before hval hW (hcond _ rfl) hsz hL hsh
theorem said : Rows.LookFindsUptoSaid :=
 OpenClaim.holds_of_cond 4 Tryz.f4 rfl rfl rfl rfl rfl rfl rfl ⟨rfl, rfl, rfl, rfl, rfl⟩ rfl rfl rfl rfl rfl (by kernel_rfl) Tryz.func4 (by kernel_rfl)
  (of_decide_eq_true (by kernel_rfl)) (by unfold Func.isWrapper; first | (rw [if_pos (by decide +kernel)]; kernel_rfl) | (rw [if_neg (by decide +kernel)]; exact ⟨rfl, rfl⟩))
  (fun os started H enc _ F => by rw [OpenClaim.pre_eq_preRow]; exact lifted os started H enc F)
theorem plain (f : FuncId) (fn : Func) (hf : Tryz.pinned.checked.prog.funcNamed "stockade/stockadelaw13.LookFinds" = some f) (hfn : Tryz.pinned.checked.prog.funcs[f]? = some fn) :
  false = Tryz.pinned.checked.prog.looks [] ∧ ∀ (j : Nat) t, fn.params[j]? = some t → Tryz.pinned.checked.prog.wantsStandIn t = false := by
 obtain rfl : f = 4 := Option.some.inj ((show Tryz.prog.funcNamed "stockade/stockadelaw13.LookFinds" = some 4 by kernel_rfl).symm.trans hf) |>.symm
 obtain rfl : fn = Tryz.f4 := (Option.some.inj (Tryz.func4.symm.trans hfn)).symm
 refine ⟨by kernel_rfl, fun j t ht => ?_⟩
 rw [Tryz.params4] at ht
 have hm : t ∈ [26, 33] := by simpa using Array.mem_of_getElem? ht
 have hall : ([26, 33].all fun u => !Tryz.prog.wantsStandIn u) = true := by kernel_rfl
 exact (show Tryz.prog.wantsStandIn t = false by simpa using List.all_eq_true.1 hall t hm)
end Go.Proofs.YtmfgjicfdjjihaaGreatDoor.lookFinds
namespace Go.Proofs.YtmfgjicfdjjihaaGreatDoor
theorem lookFinds_holds : Rows.LookFindsUptoCardSaid :=
 Claim7.holds_tied_plain_at .later [] _ _ _ _ lookFinds.said (fun _ h => by cases h) (by kernel_rfl) (fun _ h => by cases h) lookFindsUpto_row_tie rfl ⟨rfl, rfl⟩ (by kernel_rfl) rfl lookFinds.plain (by kernel_rfl)
end Go.Proofs.YtmfgjicfdjjihaaGreatDoor
