/- For every input the law FtpPlaces returns true and leaves its arguments as they were; the tables of Go's library that its row lists hold what they are listed with (the card ties them). -/
import Derived.Test.YtnadfacbfcdkgaaDoorFsa34
import Derived.Test.YtnadfacbfcdkgaaDoorCards
import Derived.Test.YtnadfacbfcdkgaaDoorTie
import Derived.WalkKit
import Derived.ProofKit
import Derived.OpenShut
import Derived.ChangeOld
import Derived.Below
import Derived.Carry
import Derived.SizedLaws
import Derived.Deep.DeepHandedRow
import Derived.SevenTiedAt
import Derived.ChangeMaps5
namespace Go.Proofs.YtnadfacbfcdkgaaDoor
open Go.RowKit
set_option linter.unusedVariables false
set_option linter.unusedSimpArgs false
set_option maxRecDepth 100000 in
set_option maxHeartbeats 4000000 in
theorem ftpPlaces_m (fam side : Int) (s : ByteArray) (m : Int) (w : World) (M : Mx m w) :
    Calls Tryd.prog 4 #[.int .i64 fam, .int .i64 side, .string s] w fun e w' => e = .returned (.bool true) ∧ Below w.heap.size w w' := by
  obtain ⟨⟨P0, k0⟩, hP0⟩ : ∃ p, askT (plF fam side s.data.toList) = p := ⟨_, rfl⟩
  have K0 : Hid (∀ W, Mx m W → Calls Tryd.prog 14 #[.int .i64 fam, .int .i64 side, .string s] W fun e w' => e = .returned (.tuple #[.agg P0.v, .bool k0]) ∧ Below W.heap.size W w') := fun W hW => by have h := place_any fam side s.data.toList m W hW; rw [ba_eta, hP0] at h; exact h
  have K1 : Hid (∀ W, Calls Tryd.prog 15 #[.int .i64 fam, .int .i64 side, .string s] W fun e w' => e = .returned (.tuple #[.agg P0.v, .bool k0]) ∧ Below W.heap.size W w') := fun W => by have h := rplace_ft fam side s W; rw [hP0] at h; exact h
  clear hP0
  obtain ⟨R, hR⟩ : ∃ R, true = R := ⟨_, rfl⟩
  have HR : Hid (true = R) := hR
  try rw [hR]
  clear hR
  have b := Below.refl w.heap.size w
  go_enter Tryd.func4, Tryd.ntmps4
  go_wp2_with fail
  refine Calls.mono (K0.out _ M) ?_
  rintro e Wm1 ⟨rfl, bb⟩
  have Mm1 := M.kept bb
  have bm1 := bel_tr b bb
  clear bb
  obtain ⟨Wm2, hWm2⟩ : ∃ W, Wm1.alloc (.cells #[.int .i64 0, .int .i64 0, .int .u64 0, .int .u64 0, .int .i64 0] 32) = W := ⟨_, rfl⟩
  have bm2 := bel_al bm1 hWm2
  have Mm2 := Mm1.al hWm2
  have Am2 := blk_nw hWm2
  have gA : w.heap.size ≤ Wm1.heap.size := bm1.size
  have nMA : 0 ≠ Wm1.heap.size := fun e => by have := Mm1.lt; omega
  obtain ⟨Wm3, hWm3⟩ : ∃ W, Wm2.setRow Wm1.heap.size P0.v = W := ⟨_, rfl⟩
  have Am3 : Blk Wm3 Wm1.heap.size 32 P0.v := hWm3 ▸ Am2.set P0.v
  have Mm3 := hWm3 ▸ Mm2.other nMA P0.v
  have bm3 := hWm3 ▸ below_setRow bm2 gA P0.v
  rename_i Kr hkr Kc hkc
  have HK : Hid _ := hkr
  clear hkr
  go_wp2_with (guard_target =~ wpList _ _ _ ({ dst := none, op := Op.store _ _ _, type := _, pos := _, after := _, guard := none } :: _) _ _; refine wpList_store_row rfl _ _ _ rfl Wm1.heap.size P0.v (by rfl) (by rfl) _ _ Am2 (by kernel_rfl) (by rfl) (by kernel_rfl) ?_; rw [hWm3])
  refine HK.out _ _ ?_
  clear HK
  go_wp2_with fail
  refine Calls.mono (K1.out _) ?_
  rintro e Wm4 ⟨rfl, bb⟩
  have Mm4 := Mm3.kept bb
  have Am4 := Am3.kept bb
  have bm4 := bel_tr bm3 bb
  clear bb
  clear Mm3 Am3 bm3
  obtain ⟨Wm5, hWm5⟩ : ∃ W, Wm4.alloc (.cells #[.int .i64 0, .int .i64 0, .int .u64 0, .int .u64 0, .int .i64 0] 32) = W := ⟨_, rfl⟩
  have bm5 := bel_al bm4 hWm5
  have Mm5 := Mm4.al hWm5
  have Am5 := Am4.al hWm5
  have Bm5 := blk_nw hWm5
  have gB : w.heap.size ≤ Wm4.heap.size := bm4.size
  have nMB : 0 ≠ Wm4.heap.size := fun e => by have := Mm4.lt; omega
  have nAB : Wm1.heap.size ≠ Wm4.heap.size := by have := Am4.lt; omega
  have nBA : Wm4.heap.size ≠ Wm1.heap.size := fun e => nAB e.symm
  obtain ⟨Wm6, hWm6⟩ : ∃ W, Wm5.setRow Wm4.heap.size P0.v = W := ⟨_, rfl⟩
  have Bm6 : Blk Wm6 Wm4.heap.size 32 P0.v := hWm6 ▸ Bm5.set P0.v
  have Mm6 := hWm6 ▸ Mm5.other nMB P0.v
  have Am6 := hWm6 ▸ Am5.other nAB P0.v
  have bm6 := hWm6 ▸ below_setRow bm5 gB P0.v
  rename_i Kr hkr Kc hkc
  have HK : Hid _ := hkr
  clear hkr
  go_wp2_with (guard_target =~ wpList _ _ _ ({ dst := none, op := Op.store _ _ _, type := _, pos := _, after := _, guard := none } :: _) _ _; refine wpList_store_row rfl _ _ _ rfl Wm4.heap.size P0.v (by rfl) (by rfl) _ _ Bm5 (by kernel_rfl) (by rfl) (by kernel_rfl) ?_; rw [hWm6])
  refine HK.out _ _ ?_
  clear HK
  go_wp2_with (first | (refine wpList_load_blk_w (by rfl) _ _ rfl Wm1.heap.size (by rfl) _ Am6 Tryd.underlying32 (by kernel_rfl) ?_) | (refine wpList_load_blk_w (by rfl) _ _ rfl Wm4.heap.size (by rfl) _ Bm6 Tryd.underlying32 (by kernel_rfl) ?_))
  refine Calls.mono (alive_ft m _ Mm6) ?_
  rintro e Wm7 ⟨rfl, bb⟩
  have Mm7 := Mm6.kept bb
  have Am7 := Am6.kept bb
  have Bm7 := Bm6.kept bb
  have bm7 := bel_tr bm6 bb
  clear bb
  clear Mm6 Am6 Bm6 bm6
  go_wp2_with fail
  go_ret
  exact ⟨retB_fw (by rw [← HR.out]), bm7⟩
theorem ftpPlaces_walk (fam side : Int) (s : ByteArray) (w : World) (m : Int) (hm : w.cell? ⟨0, 0, none⟩ = some (.int .i64 m)) :
    Calls Tryd.prog 4 #[.int .i64 fam, .int .i64 side, .string s] w fun e w' => e = .returned (.bool true) ∧ Below w.heap.size w w' := ftpPlaces_m fam side s m w ⟨hm⟩
end Go.Proofs.YtnadfacbfcdkgaaDoor
namespace Go.Proofs.YtnadfacbfcdkgaaDoor.ftpPlaces
open Go.ChangeShapes Go.WideShapes Go.ChangeAt Go.RowKit
set_option linter.unusedVariables false
set_option linter.unusedSimpArgs false
theorem own : ownKnob Tryd.prog.godebug = none := by kernel_rfl
theorem laidOut : laidOutB Tryd.prog = true := by kernel_rfl
set_option maxRecDepth 100000 in
theorem contract (H : Type) (enc : TypeId × Value → H) (W : World) (base : Nat) (args : Array Value) (ds gs : List (DataW H)) (before : List MemPlace)
    (hval : ∀ (j : Nat) t v, Tryd.f4.params[j]? = some t → args[j]? = some v → Value.okWide Tryd.prog W .any base t v)
    (hW : DataW.Whole enc Tryd.prog Tryd.f4.params.toList Rows.ftpPlacesSpec.vars false W args.toList ds gs before)
    (hsz : (DataW.weightsEach Tryd.prog (Tryd.f4.params.toList ++ Rows.ftpPlacesSpec.plain.varTypes Tryd.prog) (ds ++ gs)).all (· ≤ reachBytes) = true)
    (hL : laidMetH Tryd.prog Rows.ftpPlacesRow.laid W) (hsh : W.ShapedOpen Tryd.prog) :
    Calls Tryd.prog 4 args W fun e W' => ∃ v, e = .returned v ∧ Rows.ftpPlacesSpec.post enc Tryd.prog Tryd.f4 false true false false W args v W' := by
  have hW' := hW
  obtain ⟨p, q, hA0, hV, rfl, hfz, hnd⟩ := hW
  have hA : DataW.TrodAll enc Tryd.prog W 0 (fun _ => true) true Tryd.f4.params.toList args.toList ds p := hA0
  rw [Tryd.params4] at hA hval hsz
  obtain ⟨v0, vs0, d0, ds0, p0, q0, hargs, rfl, rfl, h0, r0⟩ := trodAll_cons hA
  obtain ⟨v1, vs1, d1, ds1, p1, q1, rfl, rfl, rfl, h1, r1⟩ := trodAll_cons r0
  obtain ⟨v2, vs2, d2, ds2, p2, q2, rfl, rfl, rfl, h2, r2⟩ := trodAll_cons r1
  obtain ⟨rfl, rfl, rfl⟩ := trodAll_nil r2
  obtain rfl : args = #[v0, v1, v2] := by cases args; simp_all
  obtain ⟨rfl, rfl⟩ := trodVars_none hV
  have lt0 : ∀ x ∈ p0, x.block < W.heap.size := by obtain ⟨m, hm⟩ := h0; exact DataW.trod_lt m _ _ _ hm
  obtain ⟨x0, rfl, rfl, rfl, w0⟩ := open_int Tryd.underlying3 (hval 0 3 v0 rfl rfl) h0
  have lt1 : ∀ x ∈ p1, x.block < W.heap.size := by obtain ⟨m, hm⟩ := h1; exact DataW.trod_lt m _ _ _ hm
  obtain ⟨x1, rfl, rfl, rfl, w1⟩ := open_int Tryd.underlying3 (hval 1 3 v1 rfl rfl) h1
  have lt2 : ∀ x ∈ p2, x.block < W.heap.size := by obtain ⟨m, hm⟩ := h2; exact DataW.trod_lt m _ _ _ hm
  obtain ⟨s2, rfl, rfl, rfl, w2⟩ := Go.ChangeMaps.open_string Tryd.underlying9 (hval 2 9 v2 rfl rfl) h2
  obtain ⟨m, hm⟩ := maxLen_cell hsh
  clear hA0 hval
  refine (ftpPlaces_walk x0 x1 s2 W m  hm).mono fun e W' ⟨he, bel⟩ => ?_
  subst he
  exact ⟨_, rfl, _, _, _, [], _, [], hW', trodAll_mk1 (shut_bool Tryd.underlying4 _), (trodAll_cons_mk (Below.trod laidOut (by kernel_rfl) (of_decide_eq_true (by kernel_rfl)) h0 bel lt0) (trodAll_cons_mk (Below.trod laidOut (by kernel_rfl) (of_decide_eq_true (by kernel_rfl)) h1 bel lt1) (trodAll_cons_mk (Below.trod laidOut (by kernel_rfl) (of_decide_eq_true (by kernel_rfl)) h2 bel lt2) trodAll_mk0))), rfl, bel.frame _, fun h => by cases h⟩
theorem laid_met (os : Os) : laidMet Tryd.prog Rows.ftpPlacesRow.laid (({ World.holding Tryd.prog os ⟨#[], #[], []⟩ with heap := (((World.holding Tryd.prog os ⟨#[], #[], []⟩).heap.modify 1 (laidOne (cellsA Rows.laid_unicode_utf8_first))).modify 2 (laidOne (cellsB Rows.laid_unicode_utf8_acceptRanges))) } : World).forCall (fun _ _ => 0) ⟨#[], #[.int .i64 0, .int .i64 0, .string ByteArray.empty], []⟩).memory :=
  laidMet_of_run' 8 (by kernel_rfl) (by kernel_rfl)
theorem reads (os : Os) {H : Type} (enc : TypeId × Value → H) : ∃ places, DataW.whole enc Tryd.prog (({ World.holding Tryd.prog os ⟨#[], #[], []⟩ with heap := (((World.holding Tryd.prog os ⟨#[], #[], []⟩).heap.modify 1 (laidOne (cellsA Rows.laid_unicode_utf8_first))).modify 2 (laidOne (cellsB Rows.laid_unicode_utf8_acceptRanges))) } : World).forCall (fun _ _ => 0) ⟨#[], #[.int .i64 0, .int .i64 0, .string ByteArray.empty], []⟩).memory Tryd.f4.params.toList Rows.ftpPlacesSpec.vars false (#[.int .i64 0, .int .i64 0, .string ByteArray.empty] : Array Value).toList 8 = some ([.lit (.int .i64 0), .lit (.int .i64 0), .lit (.string [])], [], places) :=
  ⟨[], by kernel_rfl⟩
set_option maxRecDepth 100000 in
theorem lifted (os : Os) (started : os.Started) (H : Type) (enc : TypeId × Value → H) (F : Stop.Interp) :
    ReturnsInHanded {} Tryd.checked os 4 .any ((OpenSpec.ofChange Rows.ftpPlacesSpec).preRow enc Tryd.prog Tryd.f4 Rows.ftpPlacesRow.domain false Rows.ftpPlacesRow.laid) (((OpenSpec.ofChange Rows.ftpPlacesSpec).at F).post enc Tryd.prog Tryd.f4 false true false false) := by
  obtain ⟨places, hx⟩ := reads os enc
  refine returnsInHanded_of_row (C := Tryd.checked) (s := (OpenSpec.ofChange Rows.ftpPlacesSpec)) own started (by kernel_rfl) Tryd.func4
    (witness_row_at (enc := enc) (C := Tryd.checked) false ({ World.holding Tryd.prog os ⟨#[], #[], []⟩ with heap := (((World.holding Tryd.prog os ⟨#[], #[], []⟩).heap.modify 1 (laidOne (cellsA Rows.laid_unicode_utf8_first))).modify 2 (laidOne (cellsB Rows.laid_unicode_utf8_acceptRanges))) } : World) #[.int .i64 0, .int .i64 0, .string ByteArray.empty] rfl (by kernel_rfl) (by kernel_rfl) (by kernel_rfl)
      (OpenSpec.preRow_of_cond 8 hx (by kernel_rfl) (fun k hk => by cases hk) (by kernel_rfl) (laid_met os))) ?_
  intro W base args ds gs before hval hW _ _ hsz hL hsh _
  exact contract H enc W base args ds gs before hval hW hsz hL hsh
theorem said : Rows.FtpPlacesSaid :=
  OpenClaim.holds_of_cond 4 Tryd.f4 rfl rfl rfl rfl rfl rfl rfl ⟨rfl, rfl, rfl, rfl, rfl⟩ rfl rfl rfl rfl rfl (by kernel_rfl) Tryd.func4 (by kernel_rfl)
    (of_decide_eq_true (by kernel_rfl)) (by unfold Func.isWrapper; first | (rw [if_pos (by decide +kernel)]; kernel_rfl) | (rw [if_neg (by decide +kernel)]; exact ⟨rfl, rfl⟩))
    (fun os started H enc _ F => by rw [OpenClaim.pre_eq_preRow]; exact lifted os started H enc F)
theorem plain (f : FuncId) (fn : Func) (hf : Tryd.pinned.checked.prog.funcNamed "stockade/stockadelaw18.FtpPlaces" = some f) (hfn : Tryd.pinned.checked.prog.funcs[f]? = some fn) :
    false = Tryd.pinned.checked.prog.looks [] ∧ ∀ (j : Nat) t, fn.params[j]? = some t → Tryd.pinned.checked.prog.wantsStandIn t = false := by
  obtain rfl : f = 4 := Option.some.inj ((show Tryd.prog.funcNamed "stockade/stockadelaw18.FtpPlaces" = some 4 by kernel_rfl).symm.trans hf) |>.symm
  obtain rfl : fn = Tryd.f4 := (Option.some.inj (Tryd.func4.symm.trans hfn)).symm
  refine ⟨by kernel_rfl, fun j t ht => ?_⟩
  rw [Tryd.params4] at ht
  have hm : t ∈ [3, 3, 9] := by simpa using Array.mem_of_getElem? ht
  have hall : ([3, 3, 9].all fun u => !Tryd.prog.wantsStandIn u) = true := by kernel_rfl
  exact (show Tryd.prog.wantsStandIn t = false by simpa using List.all_eq_true.1 hall t hm)
end Go.Proofs.YtnadfacbfcdkgaaDoor.ftpPlaces
namespace Go.Proofs.YtnadfacbfcdkgaaDoor
theorem ftpPlaces_holds : Rows.FtpPlacesCardSaid :=
  Claim7.holds_tied_plain_at .later [] _ _ _ _ ftpPlaces.said (fun _ h => by cases h) (by kernel_rfl) (fun _ h => by cases h) ftpPlaces_row_tie rfl ⟨rfl, rfl⟩ (by kernel_rfl) rfl ftpPlaces.plain (by kernel_rfl)
end Go.Proofs.YtnadfacbfcdkgaaDoor
