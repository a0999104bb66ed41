/- For every input the law RfcTakes returns true and leaves its arguments as they were; the variables that its row lists hold what they are listed with (the card ties them to the program's text). -/
import Derived.Test.YtcoldgpnkdallaaDoorRxa0
import Derived.Test.YtcoldgpnkdallaaDoorRxa1
import Derived.Test.YtcoldgpnkdallaaDoorRxa2
import Derived.Test.YtcoldgpnkdallaaDoorRxa3
import Derived.Test.YtcoldgpnkdallaaDoorRxa4
import Derived.Test.YtcoldgpnkdallaaDoorRxa5
import Derived.Test.YtcoldgpnkdallaaDoorRxa6
import Derived.Test.YtcoldgpnkdallaaDoorRxa7
import Derived.Test.YtcoldgpnkdallaaDoorRxa8
import Derived.Test.YtcoldgpnkdallaaDoorRxa9
import Derived.Test.YtcoldgpnkdallaaDoorRxa10
import Derived.Test.YtcoldgpnkdallaaDoorRxa11
import Derived.Test.YtcoldgpnkdallaaDoorRxa12
import Derived.Test.YtcoldgpnkdallaaDoorRxa13
import Derived.Test.YtcoldgpnkdallaaDoorRxa14
import Derived.Test.YtcoldgpnkdallaaDoorRxa15
import Derived.Test.YtcoldgpnkdallaaDoorRxa16
import Derived.Test.YtcoldgpnkdallaaDoorRxa17
import Derived.Test.YtcoldgpnkdallaaDoorRxa18
import Derived.Test.YtcoldgpnkdallaaDoorRxa19
import Derived.Test.YtcoldgpnkdallaaDoorRxa20
import Derived.Test.YtcoldgpnkdallaaDoorRxa21
import Derived.Test.YtcoldgpnkdallaaDoorRxa22
import Derived.Test.YtcoldgpnkdallaaDoorRxa23
import Derived.Test.YtcoldgpnkdallaaDoorRxa24
import Derived.Test.YtcoldgpnkdallaaDoorRxa25
import Derived.Test.YtcoldgpnkdallaaDoorRxa26
import Derived.Test.YtcoldgpnkdallaaDoorRxa27
import Derived.Test.YtcoldgpnkdallaaDoorRxa28
import Derived.Test.YtcoldgpnkdallaaDoorRxa29
import Derived.Test.YtcoldgpnkdallaaDoorRxa30
import Derived.Test.YtcoldgpnkdallaaDoorRxa31
import Derived.Test.YtcoldgpnkdallaaDoorRxa32
import Derived.Test.YtcoldgpnkdallaaDoorRxa33
import Derived.Test.YtcoldgpnkdallaaDoorRxa34
import Derived.Test.YtcoldgpnkdallaaDoorRxa35
import Derived.Test.YtcoldgpnkdallaaDoorRxa36
import Derived.Test.YtcoldgpnkdallaaDoorRxa37
import Derived.Test.YtcoldgpnkdallaaDoorRxa39
import Derived.Test.YtcoldgpnkdallaaDoorRxa41
import Derived.Test.YtcoldgpnkdallaaDoorRxc6
import Derived.Test.YtcoldgpnkdallaaDoorCards
import Derived.Test.YtcoldgpnkdallaaDoorTie
import Derived.WalkKit
import Derived.ProofKit
import Derived.OpenShut
import Derived.ChangeOld
import Derived.Below
import Derived.Carry
import Derived.SizedLaws
import Derived.Deep.DeepHandedRow
import Derived.SevenTiedAt
import Derived.Lib.SmallJoins
import Derived.Deep.Slices
import Derived.Deep.Strs
import Derived.ChangeSame
import Derived.Deep.QuietTactic
import Derived.BigQuiet
import Derived.BigRegion
import Derived.Deep.RegionWith
import Derived.Deep.RegionHeld3
import Derived.Stop.LaidErr
import Derived.Test.YtcoldgpnkdallaaDoorRows
import Derived.Lib.LaidTab
import Derived.Laws.BitsAllLaws
import Derived.Laws.BitsLemmas
import Derived.Laws.Bits128
import Derived.Laws.Shifts
import Derived.Laws.ShiftsVarLaws
import Derived.Laws.StructEq
import Derived.Deep.DeepCutAuto
import Derived.Deep.Draws
import Derived.Laws.World
import Derived.Sort.Grow
import Derived.Laws.OwnMore
import Derived.Laws.BytesArg
import Derived.Laws.MakeOwn
import Derived.Laws.AppendOwn
import Derived.Laws.AppendOwnNone
import Derived.OwnWalk
import Derived.KernelRfl
import Derived.RegionTactic
namespace Go.Proofs.YtcoldgpnkdallaaDoor.rfcTakes
open Go.ChangeShapes Go.WideShapes Go.ChangeAt Go.RowKit
set_option linter.unusedVariables false
set_option linter.unusedSimpArgs false
theorem own : ownKnob Tryd.prog.godebug = none := by kernel_rfl
theorem laidOut : laidOutB Tryd.prog = true := by kernel_rfl
set_option maxRecDepth 100000 in
theorem contract (H : Type) (enc : TypeId × Value → H) (W : World) (base : Nat) (args : Array Value) (ds gs : List (DataW H)) (before : List MemPlace)
    (hval : ∀ (j : Nat) t v, Tryd.f5.params[j]? = some t → args[j]? = some v → Value.okWide Tryd.prog W .any base t v)
    (hW : DataW.Whole enc Tryd.prog Tryd.f5.params.toList Rows.rfcTakesSpec.vars false W args.toList ds gs before)
    (hsz : (DataW.weightsEach Tryd.prog (Tryd.f5.params.toList ++ Rows.rfcTakesSpec.plain.varTypes Tryd.prog) (ds ++ gs)).all (· ≤ reachBytes) = true)
    (hL : laidMetH Tryd.prog Rows.rfcTakesRow.laid W) (hsh : W.ShapedOpen Tryd.prog) :
    Calls Tryd.prog 5 args W fun e W' => ∃ v, e = .returned v ∧ Rows.rfcTakesSpec.post enc Tryd.prog Tryd.f5 false true false false W args v W' := by
  have hW' := hW
  obtain ⟨p, q, hA0, hV, rfl, hfz, hnd⟩ := hW
  have hA : DataW.TrodAll enc Tryd.prog W 0 (fun _ => true) true Tryd.f5.params.toList args.toList ds p := hA0
  rw [Tryd.params5] at hA hval hsz
  obtain ⟨v0, vs0, d0, ds0, p0, q0, hargs, rfl, rfl, h0, r0⟩ := trodAll_cons hA
  obtain ⟨v1, vs1, d1, ds1, p1, q1, rfl, rfl, rfl, h1, r1⟩ := trodAll_cons r0
  obtain ⟨rfl, rfl, rfl⟩ := trodAll_nil r1
  obtain rfl : args = #[v0, v1] := by cases args; simp_all
  obtain ⟨rfl, rfl⟩ := trodVars_none hV
  have lt0 : ∀ x ∈ p0, x.block < W.heap.size := by obtain ⟨m, hm⟩ := h0; exact DataW.trod_lt m _ _ _ hm
  have s0 : ∀ n ∈ d0.weights Tryd.prog 22, n ≤ reachBytes := fun n hn => by simpa using List.all_eq_true.1 hsz n (DataW.weights_mem_each (j := 0) (t := 22) rfl rfl n hn)
  obtain ⟨a0, c0, l0, rfl, lc0, cm0, w0⟩ := open_rules (hval 0 22 v0 rfl rfl) h0 s0
  have lt1 : ∀ x ∈ p1, x.block < W.heap.size := by obtain ⟨m, hm⟩ := h1; exact DataW.trod_lt m _ _ _ hm
  obtain ⟨k1, rfl, ok1⟩ := open_key (hval 1 41 v1 rfl rfl) h1
  obtain ⟨hT, hDb, hSd⟩ := three_of (show laidMet Tryd.prog Rows.rfcTakesRow.laid W from hL)
  clear hA0 hval
  refine (rfcTakes_walk a0 c0 l0 k1 W lc0 cm0 w0 ok1 hT hDb hSd).mono fun e W' ⟨he, bel⟩ => ?_
  subst he
  exact ⟨_, rfl, _, _, _, [], _, [], hW', trodAll_mk1 (shut_bool Tryd.underlying4 _), (trodAll_cons_mk (Below.trod laidOut (by kernel_rfl) (of_decide_eq_true (by kernel_rfl)) h0 bel lt0) (trodAll_cons_mk (Below.trod laidOut (by kernel_rfl) (of_decide_eq_true (by kernel_rfl)) h1 bel lt1) trodAll_mk0)), rfl, bel.frame _, fun h => by cases h⟩
theorem laid_met (os : Os) : laidMet Tryd.prog Rows.rfcTakesRow.laid (({ World.holding Tryd.prog os ⟨#[], #[], []⟩ with heap := (((World.holding Tryd.prog os ⟨#[], #[], []⟩).heap.modify 1 (layOne (layA Rows.laid_stockade_chunk_greatest))).modify 2 (layOne (layA Rows.laid_math_bits_deBruijn64tab))).modify 0 (layOne (layB Rows.laid_stockade_rfc_sides)) } : World).forCall (fun _ _ => 0) ⟨#[], #[.slice none 0 0, .agg #[.int .i64 0, .int .i64 0, .int .i64 0, .int .u64 0, .int .u64 0, .int .i64 0, .int .u64 0, .int .u64 0, .int .i64 0, .int .i64 0, .int .i64 0]], []⟩).memory :=
  laidMet_of_run' 8 (by kernel_rfl) (by kernel_rfl)
theorem reads (os : Os) {H : Type} (enc : TypeId × Value → H) : ∃ places, DataW.whole enc Tryd.prog (({ World.holding Tryd.prog os ⟨#[], #[], []⟩ with heap := (((World.holding Tryd.prog os ⟨#[], #[], []⟩).heap.modify 1 (layOne (layA Rows.laid_stockade_chunk_greatest))).modify 2 (layOne (layA Rows.laid_math_bits_deBruijn64tab))).modify 0 (layOne (layB Rows.laid_stockade_rfc_sides)) } : World).forCall (fun _ _ => 0) ⟨#[], #[.slice none 0 0, .agg #[.int .i64 0, .int .i64 0, .int .i64 0, .int .u64 0, .int .u64 0, .int .i64 0, .int .u64 0, .int .u64 0, .int .i64 0, .int .i64 0, .int .i64 0]], []⟩).memory Tryd.f5.params.toList Rows.rfcTakesSpec.vars false (#[.slice none 0 0, .agg #[.int .i64 0, .int .i64 0, .int .i64 0, .int .u64 0, .int .u64 0, .int .i64 0, .int .u64 0, .int .u64 0, .int .i64 0, .int .i64 0, .int .i64 0]] : Array Value).toList 8 = some ([.nil, .agg [.lit (.int .i64 0), .lit (.int .i64 0), .agg [.lit (.int .i64 0), .lit (.int .u64 0), .lit (.int .u64 0)], .agg [.lit (.int .i64 0), .lit (.int .u64 0), .lit (.int .u64 0)], .lit (.int .i64 0), .lit (.int .i64 0), .lit (.int .i64 0)]], [], places) :=
  ⟨[], by kernel_rfl⟩
set_option maxRecDepth 100000 in
theorem lifted (os : Os) (started : os.Started) (H : Type) (enc : TypeId × Value → H) (F : Stop.Interp) :
    ReturnsInHanded {} Tryd.checked os 5 .any ((OpenSpec.ofChange Rows.rfcTakesSpec).preRow enc Tryd.prog Tryd.f5 Rows.rfcTakesRow.domain false Rows.rfcTakesRow.laid) (((OpenSpec.ofChange Rows.rfcTakesSpec).at F).post enc Tryd.prog Tryd.f5 false true false false) := by
  obtain ⟨places, hx⟩ := reads os enc
  refine returnsInHanded_of_row (C := Tryd.checked) (s := (OpenSpec.ofChange Rows.rfcTakesSpec)) own started (by kernel_rfl) Tryd.func5
    (witness_row_at (enc := enc) (C := Tryd.checked) false ({ World.holding Tryd.prog os ⟨#[], #[], []⟩ with heap := (((World.holding Tryd.prog os ⟨#[], #[], []⟩).heap.modify 1 (layOne (layA Rows.laid_stockade_chunk_greatest))).modify 2 (layOne (layA Rows.laid_math_bits_deBruijn64tab))).modify 0 (layOne (layB Rows.laid_stockade_rfc_sides)) } : World) #[.slice none 0 0, .agg #[.int .i64 0, .int .i64 0, .int .i64 0, .int .u64 0, .int .u64 0, .int .i64 0, .int .u64 0, .int .u64 0, .int .i64 0, .int .i64 0, .int .i64 0]] rfl (by kernel_rfl) (by kernel_rfl) (by kernel_rfl)
      (OpenSpec.preRow_of_cond 8 hx (by kernel_rfl) (fun k hk => by cases hk) (by kernel_rfl) (laid_met os))) ?_
  intro W base args ds gs before hval hW _ _ hsz hL hsh _
  exact contract H enc W base args ds gs before hval hW hsz hL hsh
theorem said : Rows.RfcTakesSaid :=
  OpenClaim.holds_of_cond 5 Tryd.f5 rfl rfl rfl rfl rfl rfl rfl ⟨rfl, rfl, rfl, rfl, rfl⟩ rfl rfl rfl rfl rfl (by kernel_rfl) Tryd.func5 (by kernel_rfl)
    (of_decide_eq_true (by kernel_rfl)) (by unfold Func.isWrapper; first | (rw [if_pos (by decide +kernel)]; kernel_rfl) | (rw [if_neg (by decide +kernel)]; exact ⟨rfl, rfl⟩))
    (fun os started H enc _ F => by rw [OpenClaim.pre_eq_preRow]; exact lifted os started H enc F)
theorem plain (f : FuncId) (fn : Func) (hf : Tryd.pinned.checked.prog.funcNamed "stockade/stockadelaw12.RfcTakes" = some f) (hfn : Tryd.pinned.checked.prog.funcs[f]? = some fn) :
    false = Tryd.pinned.checked.prog.looks [] ∧ ∀ (j : Nat) t, fn.params[j]? = some t → Tryd.pinned.checked.prog.wantsStandIn t = false := by
  obtain rfl : f = 5 := Option.some.inj ((show Tryd.prog.funcNamed "stockade/stockadelaw12.RfcTakes" = some 5 by kernel_rfl).symm.trans hf) |>.symm
  obtain rfl : fn = Tryd.f5 := (Option.some.inj (Tryd.func5.symm.trans hfn)).symm
  refine ⟨by kernel_rfl, fun j t ht => ?_⟩
  rw [Tryd.params5] at ht
  have hm : t ∈ [22, 41] := by simpa using Array.mem_of_getElem? ht
  have hall : ([22, 41].all fun u => !Tryd.prog.wantsStandIn u) = true := by kernel_rfl
  exact (show Tryd.prog.wantsStandIn t = false by simpa using List.all_eq_true.1 hall t hm)
end Go.Proofs.YtcoldgpnkdallaaDoor.rfcTakes
namespace Go.Proofs.YtcoldgpnkdallaaDoor
theorem rfcTakes_holds : Rows.RfcTakesCardSaid :=
  Claim7.holds_tied_plain_at .later [] _ _ _ _ rfcTakes.said (fun _ h => by cases h) (by kernel_rfl) (fun _ h => by cases h) rfcTakes_row_tie rfl ⟨rfl, rfl⟩ (by kernel_rfl) rfl rfcTakes.plain (by kernel_rfl)
end Go.Proofs.YtcoldgpnkdallaaDoor
