/- Where what it reads is of bulk at most 1048576 the law LookChecks returns true and leaves its arguments as they were; the variables that its row lists hold what they are listed with (the card ties them to the program's text). -/
import Derived.Test.YtmfgjicfdjjihaaGreatDoorLxa40
import Derived.Test.YtmfgjicfdjjihaaGreatDoorLxa41
import Derived.Test.YtmfgjicfdjjihaaGreatDoorCards
import Derived.Test.YtmfgjicfdjjihaaGreatDoorTie
import Derived.WalkKit
import Derived.ProofKit
import Derived.OpenShut
import Derived.ChangeOld
import Derived.Below
import Derived.Carry
import Derived.SizedLaws
import Derived.Deep.DeepHandedRow
import Derived.SevenTiedAt
namespace Go.Proofs.YtmfgjicfdjjihaaGreatDoor
open Go.RowKit
set_option linter.unusedVariables false
set_option linter.unusedSimpArgs false
set_option maxRecDepth 100000 in
set_option maxHeartbeats 16000000 in
theorem lookChecks_walk (t : TR) (w : World) (hok : t.ok w) (hsz : ∀ j, szN t.D t.X j ≤ 2147483648) (htop : ∀ n ∈ t.F, n ≤ 9223372036854775807) (hT : Top w) (hDb : Deb w) (hSd : Sds w) (hL : Lks w) : Calls Tryz.prog 3 #[.agg t.v] w fun e w' => e = .returned (.bool true) ∧ Below w.heap.size w w' := by
 have KA : Hid (∀ W, Below w.heap.size w W → Calls Tryz.prog 11 #[] W fun e w' => e = .returned (.bool true) ∧ Below W.heap.size W w') := fun W hb => alive_lk W (hT.below hb) (hDb.below hb) (hSd.below hb) (hL.below hb)
 have K1 : Hid (∀ W, Below w.heap.size w W → Calls Tryz.prog 9 #[.agg t.v] W fun e w' => Tells e (TabR t.D t.X t.F) ∧ Below W.heap.size W w') := fun W hb => check_lk t W (hok.low hb) (hL.below hb) hsz htop
 have K2 : Hid (∀ W, Below w.heap.size w W → Calls Tryz.prog 10 #[.agg t.v] W fun e w' => Tells e (TabR t.D t.X t.F) ∧ Below W.heap.size W w') := fun W hb => rcheck_lk t W (hok.low hb)
 generalize TabR t.D t.X t.F = Q at K1 K2
 have hst : (Tryz.prog.info? 26).map (·.size) = some t.v.size := by show _ = some 3; kernel_rfl
 obtain ⟨TV, hTV⟩ : ∃ TV, t.v = TV := ⟨_, rfl⟩
 rw [hTV] at K1 K2 hst ⊢
 obtain ⟨W1, hW1⟩ : ∃ W1, w.alloc (.cells TV 26) = W1 := ⟨_, rfl⟩
 have b1 := bel_nw hW1
 have HB : Hid (Blk W1 w.heap.size 26 TV) := blk_nw hW1
 clear hok hsz htop hT hDb hSd hL hTV
 go_enter Tryz.func3, Tryz.ntmps3
 go_wp2_with fail
 have hBc := below_drew W1
 refine wp_region_noPanic ?_
 refine wp_region_held_drew (S := fun w'' => Below W1.heap.size W1 w'') (by kernel_rfl) hBc (fun hHeld => ?_)
 refine qty (i := 0) (oi := { dst := some 3, op := Op.load 26 (.tmp 1), type := 26, pos := "law.go:36", after := #[], guard := none }) (v := (.agg TV)) (yieldsIf_at (by rfl) _ _ rfl w.heap.size 0 (by rfl) _ (fun _ h => (HB.out.kept h).at_) Tryz.underlying26 hst) hHeld ?_
 try simp only [qpu]
 refine qty (i := 2) (oi := { dst := some 5, op := Op.load 26 (.tmp 1), type := 26, pos := "law.go:36", after := #[], guard := none }) (v := (.agg TV)) (yieldsIf_at (by rfl) _ _ rfl w.heap.size 0 (by rfl) _ (fun _ h => (HB.out.kept h).at_) Tryz.underlying26 hst) hHeld ?_
 try simp only [qpu]
 refine wpAnyH_ready (rs := [1]) (by kernel_rfl) (by simp) ?_
 refine AllReadyH.cons (o := { dst := some 4, op := Op.call { callee := Callee.value (.func 9), args := #[.tmp 3], argTypes := #[26] }, type := 4, pos := "law.go:36", after := #[{ on := 0, ground := Ground.data }], guard := none }) rfl (fun K hK => ?_) AllReadyH.nil
 go_simp
 refine Calls.mono (K1.out _ (bel_tr b1 hBc)) ?_
 rintro e Wa ⟨⟨r, rfl, hr⟩, qa⟩
 replace hBc := bel_tr hBc qa
 refine hK.out _ _ hBc (fun hHeld => ?_)
 clear hK K
 try simp only [qpu]
 refine wpAnyH_ready (rs := [3]) (by kernel_rfl) (by simp) ?_
 refine AllReadyH.cons (o := { dst := some 6, op := Op.call { callee := Callee.value (.func 10), args := #[.tmp 5], argTypes := #[26] }, type := 4, pos := "law.go:36", after := #[{ on := 2, ground := Ground.data }, { on := 1, ground := Ground.chain }], guard := none }) rfl (fun K hK => ?_) AllReadyH.nil
 go_simp
 refine Calls.mono (K2.out _ (bel_tr b1 hBc)) ?_
 rintro e Wb ⟨⟨r', rfl, hr'⟩, qb⟩
 have hrr : r' = r := by rw [Bool.eq_iff_iff, hr, hr']
 subst hrr
 replace hBc := bel_tr hBc qb
 clear hr hr'
 refine hK.out _ _ hBc (fun hHeld => ?_)
 clear hK K
 try simp only [qpu]
 refine qtk (i := 4) (oi := { dst := some 7, op := Op.binOp BinOp.eql 4 (.tmp 4) (.tmp 6) 4, type := 4, pos := "law.go:36", after := #[{ on := 1, ground := Ground.data }, { on := 3, ground := Ground.data }], guard := none }) (v := (.bool true)) hHeld ?_ ?_
 ·intro w9 hSw
  try dsimp only at hSw
  go_simp
 try simp only [qpu]
 refine qtk (i := 5) (oi := { dst := some 8, op := Op.move (.tmp 7), type := 4, pos := "law.go:36", after := #[{ on := 4, ground := Ground.data }, { on := 3, ground := Ground.chain }], guard := none }) (v := (.bool true)) hHeld ?_ ?_
 ·intro w9 hSw
  try dsimp only at hSw
  go_simp
 try simp only [qpu]
 refine wpAnyH_ready (rs := [6]) (by kernel_rfl) (by simp) ?_
 refine AllReadyH.cons (o := { dst := some 9, op := Op.call { callee := Callee.value (.func 11), args := #[], argTypes := #[] }, type := 4, pos := "law.go:36", after := #[{ on := 5, ground := Ground.chain }, { on := 5, ground := Ground.guard }], guard := some (5, true) }) rfl (fun K hK => ?_) AllReadyH.nil
 go_simp
 refine Calls.mono (KA.out _ (bel_tr b1 hBc)) ?_
 rintro e Wc ⟨rfl, qc⟩
 replace hBc := bel_tr hBc qc
 refine hK.out _ _ hBc (fun hHeld => ?_)
 clear hK K
 try simp only [qpu]
 refine qtk (i := 7) (oi := { dst := some 10, op := Op.pick (.tmp 8) (.tmp 9) (.const (.bool false)), type := 4, pos := "law.go:36", after := #[{ on := 5, ground := Ground.data }, { on := 6, ground := Ground.data }], guard := none }) (v := (.bool true)) hHeld ?_ ?_
 ·intro w9 hSw
  try dsimp only at hSw
  go_simp
 try simp only [qpu]
 refine qtk (i := 8) (oi := { dst := some 2, op := Op.assign (.tmp 10), type := 4, pos := "law.go:36", after := #[{ on := 7, ground := Ground.data }, { on := 6, ground := Ground.chain }, { on := 0, ground := Ground.phase }, { on := 1, ground := Ground.phase }, { on := 2, ground := Ground.phase }, { on := 3, ground := Ground.phase }, { on := 4, ground := Ground.phase }, { on := 5, ground := Ground.phase }, { on := 6, ground := Ground.phase }, { on := 7, ground := Ground.phase }], guard := none }) (v := (.bool true)) hHeld ?_ ?_
 ·intro w9 hSw
  try dsimp only at hSw
  go_simp
 try simp only [qpu]
 refine wpAnyH_done (by kernel_rfl) ?_ _
 refine NoPanic.normal ?_
 have b2 := bel_tr b1 hBc
 go_wp2
 go_ret
 exact ⟨rfl, b2⟩
end Go.Proofs.YtmfgjicfdjjihaaGreatDoor
namespace Go.Proofs.YtmfgjicfdjjihaaGreatDoor.lookChecks
open Go.ChangeShapes Go.WideShapes Go.ChangeAt Go.RowKit
set_option linter.unusedVariables false
set_option linter.unusedSimpArgs false
theorem own : ownKnob Tryz.prog.godebug = none := by kernel_rfl
theorem laidOut : laidOutB Tryz.prog = true := by kernel_rfl
set_option maxRecDepth 100000 in
theorem contract (H : Type) (enc : TypeId × Value → H) (W : World) (base : Nat) (args : Array Value) (ds gs : List (DataW H)) (before : List MemPlace)
  (hval : ∀ (j : Nat) t v, Tryz.f3.params[j]? = some t → args[j]? = some v → Value.okWide Tryz.prog W .any base t v)
  (hW : DataW.Whole enc Tryz.prog Tryz.f3.params.toList Rows.lookChecksSpec.vars false W args.toList ds gs before)
  (hk : Rows.uptoSmall H (ds ++ gs) = true) (hsz : (DataW.weightsEach Tryz.prog (Tryz.f3.params.toList ++ Rows.lookChecksSpec.plain.varTypes Tryz.prog) (ds ++ gs)).all (· ≤ reachBytes) = true)
  (hL : laidMetH Tryz.prog Rows.lookChecksUptoRow.laid W) (hsh : W.ShapedOpen Tryz.prog) :
  Calls Tryz.prog 3 args W fun e W' => ∃ v, e = .returned v ∧ Rows.lookChecksSpec.post enc Tryz.prog Tryz.f3 false true false false W args v W' := by
 have hW' := hW
 obtain ⟨p, q, hA0, hV, rfl, hfz, hnd⟩ := hW
 have hA : DataW.TrodAll enc Tryz.prog W 0 (fun _ => true) true Tryz.f3.params.toList args.toList ds p := hA0
 rw [Tryz.params3] at hA hval hsz
 obtain ⟨v0, vs0, d0, ds0, p0, q0, hargs, rfl, rfl, h0, r0⟩ := trodAll_cons hA
 obtain ⟨rfl, rfl, rfl⟩ := trodAll_nil r0
 obtain rfl : args = #[v0] := by cases args; simp_all
 obtain ⟨rfl, rfl⟩ := trodVars_none hV
 have lt0 : ∀ x ∈ p0, x.block < W.heap.size := by obtain ⟨m, hm⟩ := h0; exact DataW.trod_lt m _ _ _ hm
 have s0 : ∀ n ∈ d0.weights Tryz.prog 26, n ≤ reachBytes := fun n hn => by simpa using List.all_eq_true.1 hsz n (DataW.weights_mem_each (j := 0) (t := 26) rfl rfl n hn)
 obtain ⟨t0, rfl, ok0, bz0, tp0⟩ := open_tables_u (hval 0 26 v0 rfl rfl) h0 s0
 have bl0 : ∀ j, szN t0.D t0.X j ≤ 2147483648 := fun j => by
  have hh := of_decide_eq_true hk
  have hj := bz0 j
  simp only [List.append_nil, List.cons_append, List.nil_append, Rows.uptoBulkAll] at hh
  omega
 obtain ⟨hT, hDb, hSd, hLk⟩ := four_of (show laidMet Tryz.prog Rows.lookChecksUptoRow.laid W from hL)
 clear hA0 hval
 refine (lookChecks_walk t0 W ok0 bl0 tp0 hT hDb hSd hLk).mono fun e W' ⟨he, bel⟩ => ?_
 subst he
 exact ⟨_, rfl, _, _, _, [], _, [], hW', trodAll_mk1 (shut_bool Tryz.underlying4 _), (trodAll_cons_mk (Below.trod laidOut (by kernel_rfl) (of_decide_eq_true (by kernel_rfl)) h0 bel lt0) trodAll_mk0), rfl, bel.frame _, fun h => by cases h⟩
theorem laid_met (os : Os) : laidMet Tryz.prog Rows.lookChecksUptoRow.laid (({ World.holding Tryz.prog os ⟨#[], #[], []⟩ with heap := ((((World.holding Tryz.prog os ⟨#[], #[], []⟩).heap.modify 2 (layOne (layA Rows.laid_stockade_chunk_greatest))).modify 3 (layOne (layA Rows.laid_math_bits_deBruijn64tab))).modify 1 (layOne (layB Rows.laid_stockade_rfc_sides))).modify 0 (layOne (layB Rows.laid_stockade_look_sides)) } : World).forCall (fun _ _ => 0) ⟨#[], #[.agg #[.slice none 0 0, .slice none 0 0, .slice none 0 0]], []⟩).memory :=
 laidMet_of_run' 8 (by kernel_rfl) (by kernel_rfl)
theorem reads (os : Os) {H : Type} (enc : TypeId × Value → H) : ∃ places, DataW.whole enc Tryz.prog (({ World.holding Tryz.prog os ⟨#[], #[], []⟩ with heap := ((((World.holding Tryz.prog os ⟨#[], #[], []⟩).heap.modify 2 (layOne (layA Rows.laid_stockade_chunk_greatest))).modify 3 (layOne (layA Rows.laid_math_bits_deBruijn64tab))).modify 1 (layOne (layB Rows.laid_stockade_rfc_sides))).modify 0 (layOne (layB Rows.laid_stockade_look_sides)) } : World).forCall (fun _ _ => 0) ⟨#[], #[.agg #[.slice none 0 0, .slice none 0 0, .slice none 0 0]], []⟩).memory Tryz.f3.params.toList Rows.lookChecksSpec.vars false (#[.agg #[.slice none 0 0, .slice none 0 0, .slice none 0 0]] : Array Value).toList 8 = some ([.agg [.nil, .nil, .nil]], [], places) :=
 ⟨[], by kernel_rfl⟩
set_option maxRecDepth 100000 in
theorem lifted (os : Os) (started : os.Started) (H : Type) (enc : TypeId × Value → H) (F : Stop.Interp) :
  ReturnsInHanded {} Tryz.checked os 3 .any ((Rows.OpenSpec.upto Rows.lookChecksSpec).preRow enc Tryz.prog Tryz.f3 Rows.lookChecksUptoRow.domain false Rows.lookChecksUptoRow.laid) (((Rows.OpenSpec.upto Rows.lookChecksSpec).at F).post enc Tryz.prog Tryz.f3 false true false false) := by
 obtain ⟨places, hx⟩ := reads os enc
 refine returnsInHanded_of_row (C := Tryz.checked) (s := (Rows.OpenSpec.upto Rows.lookChecksSpec)) own started (by kernel_rfl) Tryz.func3
  (witness_row_at (enc := enc) (C := Tryz.checked) false ({ World.holding Tryz.prog os ⟨#[], #[], []⟩ with heap := ((((World.holding Tryz.prog os ⟨#[], #[], []⟩).heap.modify 2 (layOne (layA Rows.laid_stockade_chunk_greatest))).modify 3 (layOne (layA Rows.laid_math_bits_deBruijn64tab))).modify 1 (layOne (layB Rows.laid_stockade_rfc_sides))).modify 0 (layOne (layB Rows.laid_stockade_look_sides)) } : World) #[.agg #[.slice none 0 0, .slice none 0 0, .slice none 0 0]] rfl (by kernel_rfl) (by kernel_rfl) (by kernel_rfl)
   (OpenSpec.preRow_of_cond 8 hx (by kernel_rfl) (fun k hk => by cases hk; kernel_rfl) (by kernel_rfl) (laid_met os))) ?_
 intro W base args ds gs before hval hW _ hcond hsz hL hsh _
 exact contract H enc W base args ds gs before hval hW (hcond _ rfl) hsz hL hsh
theorem said : Rows.LookChecksUptoSaid :=
 OpenClaim.holds_of_cond 3 Tryz.f3 rfl rfl rfl rfl rfl rfl rfl ⟨rfl, rfl, rfl, rfl, rfl⟩ rfl rfl rfl rfl rfl (by kernel_rfl) Tryz.func3 (by kernel_rfl)
  (of_decide_eq_true (by kernel_rfl)) (by unfold Func.isWrapper; first | (rw [if_pos (by decide +kernel)]; kernel_rfl) | (rw [if_neg (by decide +kernel)]; exact ⟨rfl, rfl⟩))
  (fun os started H enc _ F => by rw [OpenClaim.pre_eq_preRow]; exact lifted os started H enc F)
theorem plain (f : FuncId) (fn : Func) (hf : Tryz.pinned.checked.prog.funcNamed "stockade/stockadelaw13.LookChecks" = some f) (hfn : Tryz.pinned.checked.prog.funcs[f]? = some fn) :
  false = Tryz.pinned.checked.prog.looks [] ∧ ∀ (j : Nat) t, fn.params[j]? = some t → Tryz.pinned.checked.prog.wantsStandIn t = false := by
 obtain rfl : f = 3 := Option.some.inj ((show Tryz.prog.funcNamed "stockade/stockadelaw13.LookChecks" = some 3 by kernel_rfl).symm.trans hf) |>.symm
 obtain rfl : fn = Tryz.f3 := (Option.some.inj (Tryz.func3.symm.trans hfn)).symm
 refine ⟨by kernel_rfl, fun j t ht => ?_⟩
 rw [Tryz.params3] at ht
 have hm : t ∈ [26] := by simpa using Array.mem_of_getElem? ht
 have hall : ([26].all fun u => !Tryz.prog.wantsStandIn u) = true := by kernel_rfl
 exact (show Tryz.prog.wantsStandIn t = false by simpa using List.all_eq_true.1 hall t hm)
end Go.Proofs.YtmfgjicfdjjihaaGreatDoor.lookChecks
namespace Go.Proofs.YtmfgjicfdjjihaaGreatDoor
theorem lookChecks_holds : Rows.LookChecksUptoCardSaid :=
 Claim7.holds_tied_plain_at .later [] _ _ _ _ lookChecks.said (fun _ h => by cases h) (by kernel_rfl) (fun _ h => by cases h) lookChecksUpto_row_tie rfl ⟨rfl, rfl⟩ (by kernel_rfl) rfl lookChecks.plain (by kernel_rfl)
end Go.Proofs.YtmfgjicfdjjihaaGreatDoor
