/- For every input the law ChunkSpots returns true and leaves its arguments as they were; the variable that its row lists holds what it is listed with (the card ties it to the program's text). -/
import Derived.Test.YtgppfkbapieneaaDoorCsx15
import Derived.Test.YtgppfkbapieneaaDoorCsx32
import Derived.Test.YtgppfkbapieneaaDoorCsx38
import Derived.Test.YtgppfkbapieneaaDoorCards
import Derived.Test.YtgppfkbapieneaaDoorTie
import Derived.WalkKit
import Derived.ProofKit
import Derived.OpenShut
import Derived.ChangeOld
import Derived.Below
import Derived.Carry
import Derived.SizedLaws
import Derived.Deep.DeepHandedRow
import Derived.SevenTiedAt
namespace Go.Proofs.YtgppfkbapieneaaDoor
open Go.RowKit
set_option linter.unusedVariables false
set_option linter.unusedSimpArgs false
set_option maxRecDepth 100000 in
set_option maxHeartbeats 8000000 in
theorem chunkSpots_walk (k : Ky) (dim : Int) (w : World) (ho : k.ok) (hT : Top w) : Calls Tryd.prog 4 #[.agg k.v, .int .i64 dim] w fun e w' => e = .returned (.bool true) ∧ Below w.heap.size w w' := by
  have K1 := hidW (fun W => spot_ck k dim W ho)
  have K2 := hidW (fun W => rspot_ck k dim W ho)
  have KA : Hid (∀ W, Top W → Calls Tryd.prog 13 #[] W fun e w' => e = .returned (.bool true) ∧ Below W.heap.size W w') := alive_ck
  have hs2 : (Tryd.prog.info? 40).map (·.size) = some k.v.size := info_ky k
  have HT : Hid (Top w) := hT
  generalize spotR k dim = R at *
  obtain ⟨⟨ra, rb, rc⟩, r⟩ := R
  simp only at K1 K2
  obtain ⟨W1, hW1⟩ : ∃ W1, w.alloc (.cells k.v 40) = W1 := ⟨_, rfl⟩
  have b1 := bel_nw hW1
  have HB1 : Hid (Blk W1 w.heap.size 40 k.v) := blk_nw hW1
  obtain ⟨KV, hKV⟩ : ∃ KV, k.v = KV := ⟨_, rfl⟩
  rw [hKV] at hs2 hW1 HB1 K1 K2 ⊢
  clear hKV hT
  have hk1 := HB1.out.at_
  go_enter Tryd.func4, Tryd.ntmps4
  go_wp2_with (refine wpList_load_at_w rfl _ _ rfl _ 0 (by rfl) _ hk1 Tryd.underlying40 hs2 ?_)
  refine Calls.mono (K1.out _) ?_
  rintro e W2 ⟨rfl, b12⟩
  have b2 := bel_tr b1 b12
  have HB2 : Hid (Blk W2 w.heap.size 40 KV) := HB1.out.kept b12
  clear hk1 b12 b1 K1 hW1 HB1
  obtain ⟨W3, hW3⟩ : ∃ W3, W2.alloc (.cells #[.int .u64 ra, .int .u64 rb, .int .u64 rc] 42) = W3 := ⟨_, rfl⟩
  have b23 := bel_nw hW3
  have b3 := bel_tr b2 b23
  have HB3 : Hid (Blk W3 w.heap.size 40 KV) := HB2.out.kept b23
  have HP3 : Hid (Blk W3 W2.heap.size 42 #[.int .u64 ra, .int .u64 rb, .int .u64 rc]) := blk_nw hW3
  have hk3 := HB3.out.at_
  clear b2 b23 HB2
  go_wp2_with (refine wpList_load_at_w rfl _ _ rfl _ 0 (by rfl) _ hk3 Tryd.underlying40 hs2 ?_)
  refine Calls.mono (K2.out _) ?_
  rintro e W4 ⟨rfl, b34⟩
  have b4 := bel_tr b3 b34
  have HP4 : Hid (Blk W4 W2.heap.size 42 #[.int .u64 ra, .int .u64 rb, .int .u64 rc]) := HP3.out.kept b34
  clear hk3 b34 b3 K2 hW3 HB3
  obtain ⟨W5, hW5⟩ : ∃ W5, W4.alloc (.cells #[.int .u64 ra, .int .u64 rb, .int .u64 rc] 42) = W5 := ⟨_, rfl⟩
  have b45 := bel_nw hW5
  have b5 := bel_tr b4 b45
  have HP5 : Hid (Blk W5 W2.heap.size 42 #[.int .u64 ra, .int .u64 rb, .int .u64 rc]) := HP4.out.kept b45
  have HQ5 : Hid (Blk W5 W4.heap.size 42 #[.int .u64 ra, .int .u64 rb, .int .u64 rc]) := blk_nw hW5
  have p0 := HP5.out.cell 0 _ rfl
  have p1 := HP5.out.cell 1 _ rfl
  have p2 := HP5.out.cell 2 _ rfl
  have q0 := HQ5.out.cell 0 _ rfl
  have q1 := HQ5.out.cell 1 _ rfl
  have q2 := HQ5.out.cell 2 _ rfl
  have KA' : Hid _ := KA.out W5 (HT.out.below b5)
  clear b45 b4
  go_wp2_with fail
  refine Calls.mono KA'.out ?_
  rintro e W6 ⟨rfl, b56⟩
  have b6 := bel_tr b5 b56
  go_wp2
  go_ret
  exact ⟨rfl, b6⟩
end Go.Proofs.YtgppfkbapieneaaDoor
namespace Go.Proofs.YtgppfkbapieneaaDoor.chunkSpots
open Go.ChangeShapes Go.WideShapes Go.ChangeAt Go.RowKit
set_option linter.unusedVariables false
set_option linter.unusedSimpArgs false
theorem own : ownKnob Tryd.prog.godebug = none := by kernel_rfl
theorem laidOut : laidOutB Tryd.prog = true := by kernel_rfl
set_option maxRecDepth 100000 in
theorem contract (H : Type) (enc : TypeId × Value → H) (W : World) (base : Nat) (args : Array Value) (ds gs : List (DataW H)) (before : List MemPlace)
    (hval : ∀ (j : Nat) t v, Tryd.f4.params[j]? = some t → args[j]? = some v → Value.okWide Tryd.prog W .any base t v)
    (hW : DataW.Whole enc Tryd.prog Tryd.f4.params.toList Rows.chunkSpotsSpec.vars false W args.toList ds gs before)
    (hsz : (DataW.weightsEach Tryd.prog (Tryd.f4.params.toList ++ Rows.chunkSpotsSpec.plain.varTypes Tryd.prog) (ds ++ gs)).all (· ≤ reachBytes) = true)
    (hL : laidMetH Tryd.prog Rows.chunkSpotsRow.laid W) (hsh : W.ShapedOpen Tryd.prog) :
    Calls Tryd.prog 4 args W fun e W' => ∃ v, e = .returned v ∧ Rows.chunkSpotsSpec.post enc Tryd.prog Tryd.f4 false true false false W args v W' := by
  have hW' := hW
  obtain ⟨p, q, hA0, hV, rfl, hfz, hnd⟩ := hW
  have hA : DataW.TrodAll enc Tryd.prog W 0 (fun _ => true) true Tryd.f4.params.toList args.toList ds p := hA0
  rw [Tryd.params4] at hA hval hsz
  obtain ⟨v0, vs0, d0, ds0, p0, q0, hargs, rfl, rfl, h0, r0⟩ := trodAll_cons hA
  obtain ⟨v1, vs1, d1, ds1, p1, q1, rfl, rfl, rfl, h1, r1⟩ := trodAll_cons r0
  obtain ⟨rfl, rfl, rfl⟩ := trodAll_nil r1
  obtain rfl : args = #[v0, v1] := by cases args; simp_all
  obtain ⟨rfl, rfl⟩ := trodVars_none hV
  have lt0 : ∀ x ∈ p0, x.block < W.heap.size := by obtain ⟨m, hm⟩ := h0; exact DataW.trod_lt m _ _ _ hm
  obtain ⟨k0, rfl, ok0⟩ := open_key (hval 0 40 v0 rfl rfl) h0
  have lt1 : ∀ x ∈ p1, x.block < W.heap.size := by obtain ⟨m, hm⟩ := h1; exact DataW.trod_lt m _ _ _ hm
  obtain ⟨x1, rfl, rfl, rfl, w1⟩ := open_int Tryd.underlying3 (hval 1 3 v1 rfl rfl) h1
  have hT : Top W := top_of (show laidMet Tryd.prog Rows.chunkSpotsRow.laid W from hL)
  clear hA0 hval
  refine (chunkSpots_walk k0 x1 W ok0 hT).mono fun e W' ⟨he, bel⟩ => ?_
  subst he
  exact ⟨_, rfl, _, _, _, [], _, [], hW', trodAll_mk1 (shut_bool Tryd.underlying4 _), (trodAll_cons_mk (Below.trod laidOut (by kernel_rfl) (of_decide_eq_true (by kernel_rfl)) h0 bel lt0) (trodAll_cons_mk (Below.trod laidOut (by kernel_rfl) (of_decide_eq_true (by kernel_rfl)) h1 bel lt1) trodAll_mk0)), rfl, bel.frame _, fun h => by cases h⟩
theorem laid_met (os : Os) : laidMet Tryd.prog Rows.chunkSpotsRow.laid (({ World.holding Tryd.prog os ⟨#[], #[], []⟩ with heap := (World.holding Tryd.prog os ⟨#[], #[], []⟩).heap.modify 0 (layOne (layA Rows.laid_stockade_chunk_greatest)) } : World).forCall (fun _ _ => 0) ⟨#[], #[.agg #[.int .i64 0, .int .i64 0, .int .i64 0, .int .u64 0, .int .u64 0, .int .i64 0, .int .u64 0, .int .u64 0, .int .i64 0, .int .i64 0, .int .i64 0], .int .i64 0], []⟩).memory :=
  laidMet_of_run' 8 (by kernel_rfl) (by kernel_rfl)
theorem reads (os : Os) {H : Type} (enc : TypeId × Value → H) : ∃ places, DataW.whole enc Tryd.prog (({ World.holding Tryd.prog os ⟨#[], #[], []⟩ with heap := (World.holding Tryd.prog os ⟨#[], #[], []⟩).heap.modify 0 (layOne (layA Rows.laid_stockade_chunk_greatest)) } : World).forCall (fun _ _ => 0) ⟨#[], #[.agg #[.int .i64 0, .int .i64 0, .int .i64 0, .int .u64 0, .int .u64 0, .int .i64 0, .int .u64 0, .int .u64 0, .int .i64 0, .int .i64 0, .int .i64 0], .int .i64 0], []⟩).memory Tryd.f4.params.toList Rows.chunkSpotsSpec.vars false (#[.agg #[.int .i64 0, .int .i64 0, .int .i64 0, .int .u64 0, .int .u64 0, .int .i64 0, .int .u64 0, .int .u64 0, .int .i64 0, .int .i64 0, .int .i64 0], .int .i64 0] : Array Value).toList 8 = some ([.agg [.lit (.int .i64 0), .lit (.int .i64 0), .agg [.lit (.int .i64 0), .lit (.int .u64 0), .lit (.int .u64 0)], .agg [.lit (.int .i64 0), .lit (.int .u64 0), .lit (.int .u64 0)], .lit (.int .i64 0), .lit (.int .i64 0), .lit (.int .i64 0)], .lit (.int .i64 0)], [], places) :=
  ⟨[], by kernel_rfl⟩
set_option maxRecDepth 100000 in
theorem lifted (os : Os) (started : os.Started) (H : Type) (enc : TypeId × Value → H) (F : Stop.Interp) :
    ReturnsInHanded {} Tryd.checked os 4 .any ((OpenSpec.ofChange Rows.chunkSpotsSpec).preRow enc Tryd.prog Tryd.f4 Rows.chunkSpotsRow.domain false Rows.chunkSpotsRow.laid) (((OpenSpec.ofChange Rows.chunkSpotsSpec).at F).post enc Tryd.prog Tryd.f4 false true false false) := by
  obtain ⟨places, hx⟩ := reads os enc
  refine returnsInHanded_of_row (C := Tryd.checked) (s := (OpenSpec.ofChange Rows.chunkSpotsSpec)) own started (by kernel_rfl) Tryd.func4
    (witness_row_at (enc := enc) (C := Tryd.checked) false ({ World.holding Tryd.prog os ⟨#[], #[], []⟩ with heap := (World.holding Tryd.prog os ⟨#[], #[], []⟩).heap.modify 0 (layOne (layA Rows.laid_stockade_chunk_greatest)) } : World) #[.agg #[.int .i64 0, .int .i64 0, .int .i64 0, .int .u64 0, .int .u64 0, .int .i64 0, .int .u64 0, .int .u64 0, .int .i64 0, .int .i64 0, .int .i64 0], .int .i64 0] rfl (by kernel_rfl) (by kernel_rfl) (by kernel_rfl)
      (OpenSpec.preRow_of_cond 8 hx (by kernel_rfl) (fun k hk => by cases hk) (by kernel_rfl) (laid_met os))) ?_
  intro W base args ds gs before hval hW _ _ hsz hL hsh _
  exact contract H enc W base args ds gs before hval hW hsz hL hsh
theorem said : Rows.ChunkSpotsSaid :=
  OpenClaim.holds_of_cond 4 Tryd.f4 rfl rfl rfl rfl rfl rfl rfl ⟨rfl, rfl, rfl, rfl, rfl⟩ rfl rfl rfl rfl rfl (by kernel_rfl) Tryd.func4 (by kernel_rfl)
    (of_decide_eq_true (by kernel_rfl)) (by unfold Func.isWrapper; first | (rw [if_pos (by decide +kernel)]; kernel_rfl) | (rw [if_neg (by decide +kernel)]; exact ⟨rfl, rfl⟩))
    (fun os started H enc _ F => by rw [OpenClaim.pre_eq_preRow]; exact lifted os started H enc F)
theorem plain (f : FuncId) (fn : Func) (hf : Tryd.pinned.checked.prog.funcNamed "stockade/stockadelaw11.ChunkSpots" = some f) (hfn : Tryd.pinned.checked.prog.funcs[f]? = some fn) :
    false = Tryd.pinned.checked.prog.looks [] ∧ ∀ (j : Nat) t, fn.params[j]? = some t → Tryd.pinned.checked.prog.wantsStandIn t = false := by
  obtain rfl : f = 4 := Option.some.inj ((show Tryd.prog.funcNamed "stockade/stockadelaw11.ChunkSpots" = some 4 by kernel_rfl).symm.trans hf) |>.symm
  obtain rfl : fn = Tryd.f4 := (Option.some.inj (Tryd.func4.symm.trans hfn)).symm
  refine ⟨by kernel_rfl, fun j t ht => ?_⟩
  rw [Tryd.params4] at ht
  have hm : t ∈ [40, 3] := by simpa using Array.mem_of_getElem? ht
  have hall : ([40, 3].all fun u => !Tryd.prog.wantsStandIn u) = true := by kernel_rfl
  exact (show Tryd.prog.wantsStandIn t = false by simpa using List.all_eq_true.1 hall t hm)
end Go.Proofs.YtgppfkbapieneaaDoor.chunkSpots
namespace Go.Proofs.YtgppfkbapieneaaDoor
theorem chunkSpots_holds : Rows.ChunkSpotsCardSaid :=
  Claim7.holds_tied_plain_at .later [] _ _ _ _ chunkSpots.said (fun _ h => by cases h) (by kernel_rfl) (fun _ h => by cases h) chunkSpots_row_tie rfl ⟨rfl, rfl⟩ (by kernel_rfl) rfl chunkSpots.plain (by kernel_rfl)
end Go.Proofs.YtgppfkbapieneaaDoor
