/- For every input the law RfcBudget returns true and leaves its arguments as they were; the variables that its row lists hold what they are listed with (the card ties them to the program's text). -/
import Derived.Test.YtcoldgpnkdallaaDoorRxa0
import Derived.Test.YtcoldgpnkdallaaDoorRxa1
import Derived.Test.YtcoldgpnkdallaaDoorRxa2
import Derived.Test.YtcoldgpnkdallaaDoorRxa3
import Derived.Test.YtcoldgpnkdallaaDoorRxa4
import Derived.Test.YtcoldgpnkdallaaDoorRxa5
import Derived.Test.YtcoldgpnkdallaaDoorRxa6
import Derived.Test.YtcoldgpnkdallaaDoorRxa7
import Derived.Test.YtcoldgpnkdallaaDoorRxa8
import Derived.Test.YtcoldgpnkdallaaDoorRxa9
import Derived.Test.YtcoldgpnkdallaaDoorRxa10
import Derived.Test.YtcoldgpnkdallaaDoorRxa11
import Derived.Test.YtcoldgpnkdallaaDoorRxa12
import Derived.Test.YtcoldgpnkdallaaDoorRxa13
import Derived.Test.YtcoldgpnkdallaaDoorRxa14
import Derived.Test.YtcoldgpnkdallaaDoorRxa15
import Derived.Test.YtcoldgpnkdallaaDoorRxa16
import Derived.Test.YtcoldgpnkdallaaDoorRxa17
import Derived.Test.YtcoldgpnkdallaaDoorRxa18
import Derived.Test.YtcoldgpnkdallaaDoorRxa19
import Derived.Test.YtcoldgpnkdallaaDoorRxa20
import Derived.Test.YtcoldgpnkdallaaDoorRxa21
import Derived.Test.YtcoldgpnkdallaaDoorRxa22
import Derived.Test.YtcoldgpnkdallaaDoorRxa23
import Derived.Test.YtcoldgpnkdallaaDoorRxa24
import Derived.Test.YtcoldgpnkdallaaDoorRxa25
import Derived.Test.YtcoldgpnkdallaaDoorRxa26
import Derived.Test.YtcoldgpnkdallaaDoorRxa27
import Derived.Test.YtcoldgpnkdallaaDoorRxa28
import Derived.Test.YtcoldgpnkdallaaDoorRxa29
import Derived.Test.YtcoldgpnkdallaaDoorRxa30
import Derived.Test.YtcoldgpnkdallaaDoorRxa31
import Derived.Test.YtcoldgpnkdallaaDoorRxa32
import Derived.Test.YtcoldgpnkdallaaDoorRxa33
import Derived.Test.YtcoldgpnkdallaaDoorRxa34
import Derived.Test.YtcoldgpnkdallaaDoorRxa35
import Derived.Test.YtcoldgpnkdallaaDoorRxa36
import Derived.Test.YtcoldgpnkdallaaDoorRxa37
import Derived.Test.YtcoldgpnkdallaaDoorRxa39
import Derived.Test.YtcoldgpnkdallaaDoorRxa41
import Derived.Test.YtcoldgpnkdallaaDoorRxc3
import Derived.Test.YtcoldgpnkdallaaDoorCards
import Derived.Test.YtcoldgpnkdallaaDoorTie
import Derived.WalkKit
import Derived.ProofKit
import Derived.OpenShut
import Derived.ChangeOld
import Derived.Below
import Derived.Carry
import Derived.SizedLaws
import Derived.Deep.DeepHandedRow
import Derived.SevenTiedAt
import Derived.Lib.SmallJoins
import Derived.Deep.Slices
import Derived.Deep.Strs
import Derived.ChangeSame
import Derived.Deep.QuietTactic
import Derived.BigQuiet
import Derived.BigRegion
import Derived.Deep.RegionWith
import Derived.Deep.RegionHeld3
import Derived.Stop.LaidErr
import Derived.Test.YtcoldgpnkdallaaDoorRows
import Derived.Lib.LaidTab
import Derived.Laws.BitsAllLaws
import Derived.Laws.BitsLemmas
import Derived.Laws.Bits128
import Derived.Laws.Shifts
import Derived.Laws.ShiftsVarLaws
import Derived.Laws.StructEq
import Derived.Deep.DeepCutAuto
import Derived.Deep.Draws
import Derived.Laws.World
import Derived.Sort.Grow
import Derived.Laws.OwnMore
import Derived.Laws.BytesArg
import Derived.Laws.MakeOwn
import Derived.Laws.AppendOwn
import Derived.Laws.AppendOwnNone
import Derived.OwnWalk
import Derived.KernelRfl
import Derived.RegionTactic
namespace Go.Proofs.YtcoldgpnkdallaaDoor
open Go.RowKit
set_option linter.unusedVariables false
set_option linter.unusedSimpArgs false
theorem cost_pos (l : List Rl) : 7 ≤ costN l 6 := by
  have h : ∀ d, d ≤ costD l d := by
    intro d
    induction d with
    | zero => exact Nat.zero_le _
    | succ d ih =>
      have := starts_pos (spns l d)
      show d + 1 ≤ costD l d + lenD l d
      unfold lenD
      omega
  have h1 := h 7
  have h2 := cost_le l 0 6 (by omega)
  have h3 : costN l 0 = costD l 7 := rfl
  omega
set_option maxRecDepth 100000 in
set_option maxHeartbeats 16000000 in
theorem rfcBudget_walk (a : Option Addr) (c : Nat) (l : List Rl) (w : World) (lc : l.length ≤ c) (cm : c * 136 ≤ 140737488351232 ∧ (a = none → c = 0)) (hrow : RowR w a l) (hT : Top w) (hDb : Deb w) (hSd : Sds w) : Calls Tryd.prog 6 #[.slice a l.length c] w fun e w' => e = .returned (.bool true) ∧ Below w.heap.size w w' := by
  have KA : Hid (∀ W, Below w.heap.size w W → Calls Tryd.prog 12 #[] W fun e w' => e = .returned (.bool true) ∧ Below W.heap.size W w') := fun W hb => alive_rf W (hT.below hb) (hDb.below hb) (hSd.below hb)
  have KC : Hid (∀ (budget : Int) W, Below w.heap.size w W → Calls Tryd.prog 9 #[.slice a l.length c, .int .i64 budget] W fun e w' => ∃ t : TR, e = .returned (.tuple #[.agg t.v, .int .i64 (errT l (errC l 0) budget)]) ∧ t.ok w' ∧ TabC l (errT l (errC l 0) budget) t ∧ Below W.heap.size W w') := fun b W hb => compile_tr a c l b W (hT.below hb) (hDb.below hb) (hSd.below hb) (hrow.low hb)
  have K1 : Hid _ := KC.out 4096 w (Below.refl _ _)
  obtain ⟨N, hN⟩ : ∃ N, l.length = N := ⟨_, rfl⟩
  rw [hN] at K1 KC ⊢
  clear hN hrow hT hDb hSd cm lc
  by_cases hE : errT l (errC l 0) 4096 = 0
  · obtain ⟨h0, hl, _, _, hc4⟩ := errT_ok hE
    have hpos := cost_pos l
    have hok : errT l (errC l 0) (costN l 6 : Int) = 0 := by
      unfold errT
      rw [if_pos (by omega), if_neg (by simpa using h0), if_neg (by omega)]
    have hno : errT l (errC l 0) ((costN l 6 : Int) - 1) = 18 := by
      unfold errT
      rw [if_pos (by omega), if_neg (by simpa using h0), if_pos (by omega)]
    have K2 := KC.out (costN l 6 : Int)
    have K3 := KC.out ((costN l 6 : Int) - 1)
    rw [hE] at K1
    rw [hok] at K2
    rw [hno] at K3
    have HCO : Hid (∀ (t : TR), TabC l 0 t → wsum (t.D.map (·.L.length) ++ t.X.map (·.K.length)) = (costN l 6 : Int)) := fun t ht => by
      rcases ht with ⟨h0, _⟩ | ⟨_, D, X, hI, hD, hX⟩
      · exact absurd rfl h0
      · rw [hD, hX]; exact tab_cost hl hc4 hI
    obtain ⟨C, hC⟩ : ∃ C, costN l 6 = C := ⟨_, rfl⟩
    rw [hC] at K2 K3 HCO hpos hc4
    have HK2 : Hid _ := K2
    have HK3 : Hid _ := K3
    clear hok hno hC K2 K3 KC hE h0 hl
    go_enter Tryd.func6, Tryd.ntmps6
    go_wp2_with fail
    refine Calls.mono K1.out ?_
    rintro e W2 ⟨t, rfl, hok, htc, b2⟩
    have HOK : Hid (t.ok W2) := hok
    have HTC : Hid (TabC l 0 t) := htc
    obtain ⟨W3, hW3⟩ : ∃ W3, W2.alloc (.cells t.v 27) = W3 := ⟨_, rfl⟩
    have q3 := bel_nw hW3
    have b3 := bel_tr b2 q3
    have HB3 : Hid (Blk W3 W2.heap.size 27 t.v) := blk_nw hW3
    have KO : Hid (Calls Tryd.prog 13 #[.agg t.v] W3 fun e w' => e = .returned (.int .i64 (C : Int)) ∧ Below W3.heap.size W3 w') := by
      have hok3 := hok.low q3
      have := cost_any t.da t.xa t.fa t.dc t.xc t.fc t.F.length t.D t.X W3 hok3.dn hok3.xn hok3.d hok3.x
      rw [HCO.out t htc] at this
      exact this
    have at3 := HB3.out.at_
    have hst : (Tryd.prog.info? 27).map (·.size) = some 3 := by kernel_rfl
    clear hok htc K1
    go_wp2_with (first | (refine wpList_load_at rfl _ _ rfl W2.heap.size 0 (by rfl) _ at3 Tryd.underlying27 hst ?_))
    refine Calls.mono KO.out ?_
    rintro e W4 ⟨rfl, q4⟩
    have b4 := bel_tr b3 q4
    have K2' : Hid _ := HK2.out W4 b4
    clear KO at3
    go_wp2_with fail
    refine Calls.mono K2'.out ?_
    rintro e W5 ⟨u, rfl, hok5, htc5, q5⟩
    have HOK5 : Hid (u.ok W5) := hok5
    have HTC5 : Hid (TabC l 0 u) := htc5
    obtain ⟨W6, hW6⟩ : ∃ W6, W5.alloc (.cells u.v 27) = W6 := ⟨_, rfl⟩
    have q6 := bel_nw hW6
    have q56 := bel_tr q5 q6
    have b6 := bel_tr b4 q56
    have HB6 : Hid (Blk W6 W5.heap.size 27 u.v) := blk_nw hW6
    have K3' : Hid _ := HK3.out W6 b6
    have hc0 : (1 : Int) ≤ (C : Int) := by omega
    have hc1 : (C : Int) ≤ 4096 := by omega
    clear hok5 htc5 K2'
    go_wp2_with fail
    refine Calls.mono K3'.out ?_
    rintro e W7 ⟨z, rfl, _, _, q7⟩
    obtain ⟨W8, hW8⟩ : ∃ W8, W7.alloc (.cells z.v 27) = W8 := ⟨_, rfl⟩
    have q8 := bel_nw hW8
    have q68 := bel_tr q7 q8
    have b8 := bel_tr b6 q68
    have at3 := (HB3.out.kept (bel_tr q4 (bel_tr q56 q68))).at_
    have at6 := (HB6.out.kept q68).at_
    have KS : Hid _ := rsame_tr t u W8 (HOK.out.low (bel_tr q3 (bel_tr q4 (bel_tr q56 q68)))) (HOK5.out.low (bel_tr q6 q68)) HTC.out HTC5.out
    clear K3'
    go_wp2_with (first
      | (refine wpList_load_at_w (by rfl) _ _ rfl W2.heap.size 0 (by rfl) _ at3 Tryd.underlying27 hst ?_)
      | (refine wpList_load_at_w (by rfl) _ _ rfl W5.heap.size 0 (by rfl) _ at6 Tryd.underlying27 hst ?_))
    refine Calls.mono KS.out ?_
    rintro e W9 ⟨rfl, q9⟩
    have b9 := bel_tr b8 q9
    have KA' : Hid _ := KA.out W9 b9
    clear KS at3 at6
    go_wp2_with fail
    refine Calls.mono KA'.out ?_
    rintro e W10 ⟨rfl, q10⟩
    have b10 := bel_tr b9 q10
    go_wp2
    go_ret
    exact ⟨rfl, b10⟩
  · obtain ⟨E, hEE⟩ : ∃ E, errT l (errC l 0) 4096 = E := ⟨_, rfl⟩
    rw [hEE] at K1 hE
    have hne : (E != 0) = true := by simpa using hE
    clear hEE hE KC
    go_enter Tryd.func6, Tryd.ntmps6
    go_wp2_with fail
    refine Calls.mono K1.out ?_
    rintro e W2 ⟨t, rfl, _, _, b2⟩
    obtain ⟨W3, hW3⟩ : ∃ W3, W2.alloc (.cells t.v 27) = W3 := ⟨_, rfl⟩
    have b3 := bel_al b2 hW3
    have KA' : Hid _ := KA.out W3 b3
    clear K1
    go_wp2_with fail
    refine Calls.mono KA'.out ?_
    rintro e W4 ⟨rfl, q4⟩
    have b4 := bel_tr b3 q4
    go_wp2
    go_ret
    exact ⟨rfl, b4⟩
end Go.Proofs.YtcoldgpnkdallaaDoor
namespace Go.Proofs.YtcoldgpnkdallaaDoor.rfcBudget
open Go.ChangeShapes Go.WideShapes Go.ChangeAt Go.RowKit
set_option linter.unusedVariables false
set_option linter.unusedSimpArgs false
theorem own : ownKnob Tryd.prog.godebug = none := by kernel_rfl
theorem laidOut : laidOutB Tryd.prog = true := by kernel_rfl
set_option maxRecDepth 100000 in
theorem contract (H : Type) (enc : TypeId × Value → H) (W : World) (base : Nat) (args : Array Value) (ds gs : List (DataW H)) (before : List MemPlace)
    (hval : ∀ (j : Nat) t v, Tryd.f6.params[j]? = some t → args[j]? = some v → Value.okWide Tryd.prog W .any base t v)
    (hW : DataW.Whole enc Tryd.prog Tryd.f6.params.toList Rows.rfcBudgetSpec.vars false W args.toList ds gs before)
    (hsz : (DataW.weightsEach Tryd.prog (Tryd.f6.params.toList ++ Rows.rfcBudgetSpec.plain.varTypes Tryd.prog) (ds ++ gs)).all (· ≤ reachBytes) = true)
    (hL : laidMetH Tryd.prog Rows.rfcBudgetRow.laid W) (hsh : W.ShapedOpen Tryd.prog) :
    Calls Tryd.prog 6 args W fun e W' => ∃ v, e = .returned v ∧ Rows.rfcBudgetSpec.post enc Tryd.prog Tryd.f6 false true false false W args v W' := by
  have hW' := hW
  obtain ⟨p, q, hA0, hV, rfl, hfz, hnd⟩ := hW
  have hA : DataW.TrodAll enc Tryd.prog W 0 (fun _ => true) true Tryd.f6.params.toList args.toList ds p := hA0
  rw [Tryd.params6] at hA hval hsz
  obtain ⟨v0, vs0, d0, ds0, p0, q0, hargs, rfl, rfl, h0, r0⟩ := trodAll_cons hA
  obtain ⟨rfl, rfl, rfl⟩ := trodAll_nil r0
  obtain rfl : args = #[v0] := by cases args; simp_all
  obtain ⟨rfl, rfl⟩ := trodVars_none hV
  have lt0 : ∀ x ∈ p0, x.block < W.heap.size := by obtain ⟨m, hm⟩ := h0; exact DataW.trod_lt m _ _ _ hm
  have s0 : ∀ n ∈ d0.weights Tryd.prog 22, n ≤ reachBytes := fun n hn => by simpa using List.all_eq_true.1 hsz n (DataW.weights_mem_each (j := 0) (t := 22) rfl rfl n hn)
  obtain ⟨a0, c0, l0, rfl, lc0, cm0, w0⟩ := open_rules (hval 0 22 v0 rfl rfl) h0 s0
  obtain ⟨hT, hDb, hSd⟩ := three_of (show laidMet Tryd.prog Rows.rfcBudgetRow.laid W from hL)
  clear hA0 hval
  refine (rfcBudget_walk a0 c0 l0 W lc0 cm0 w0 hT hDb hSd).mono fun e W' ⟨he, bel⟩ => ?_
  subst he
  exact ⟨_, rfl, _, _, _, [], _, [], hW', trodAll_mk1 (shut_bool Tryd.underlying4 _), (trodAll_cons_mk (Below.trod laidOut (by kernel_rfl) (of_decide_eq_true (by kernel_rfl)) h0 bel lt0) trodAll_mk0), rfl, bel.frame _, fun h => by cases h⟩
theorem laid_met (os : Os) : laidMet Tryd.prog Rows.rfcBudgetRow.laid (({ World.holding Tryd.prog os ⟨#[], #[], []⟩ with heap := (((World.holding Tryd.prog os ⟨#[], #[], []⟩).heap.modify 1 (layOne (layA Rows.laid_stockade_chunk_greatest))).modify 2 (layOne (layA Rows.laid_math_bits_deBruijn64tab))).modify 0 (layOne (layB Rows.laid_stockade_rfc_sides)) } : World).forCall (fun _ _ => 0) ⟨#[], #[.slice none 0 0], []⟩).memory :=
  laidMet_of_run' 8 (by kernel_rfl) (by kernel_rfl)
theorem reads (os : Os) {H : Type} (enc : TypeId × Value → H) : ∃ places, DataW.whole enc Tryd.prog (({ World.holding Tryd.prog os ⟨#[], #[], []⟩ with heap := (((World.holding Tryd.prog os ⟨#[], #[], []⟩).heap.modify 1 (layOne (layA Rows.laid_stockade_chunk_greatest))).modify 2 (layOne (layA Rows.laid_math_bits_deBruijn64tab))).modify 0 (layOne (layB Rows.laid_stockade_rfc_sides)) } : World).forCall (fun _ _ => 0) ⟨#[], #[.slice none 0 0], []⟩).memory Tryd.f6.params.toList Rows.rfcBudgetSpec.vars false (#[.slice none 0 0] : Array Value).toList 8 = some ([.nil], [], places) :=
  ⟨[], by kernel_rfl⟩
set_option maxRecDepth 100000 in
theorem lifted (os : Os) (started : os.Started) (H : Type) (enc : TypeId × Value → H) (F : Stop.Interp) :
    ReturnsInHanded {} Tryd.checked os 6 .any ((OpenSpec.ofChange Rows.rfcBudgetSpec).preRow enc Tryd.prog Tryd.f6 Rows.rfcBudgetRow.domain false Rows.rfcBudgetRow.laid) (((OpenSpec.ofChange Rows.rfcBudgetSpec).at F).post enc Tryd.prog Tryd.f6 false true false false) := by
  obtain ⟨places, hx⟩ := reads os enc
  refine returnsInHanded_of_row (C := Tryd.checked) (s := (OpenSpec.ofChange Rows.rfcBudgetSpec)) own started (by kernel_rfl) Tryd.func6
    (witness_row_at (enc := enc) (C := Tryd.checked) false ({ World.holding Tryd.prog os ⟨#[], #[], []⟩ with heap := (((World.holding Tryd.prog os ⟨#[], #[], []⟩).heap.modify 1 (layOne (layA Rows.laid_stockade_chunk_greatest))).modify 2 (layOne (layA Rows.laid_math_bits_deBruijn64tab))).modify 0 (layOne (layB Rows.laid_stockade_rfc_sides)) } : World) #[.slice none 0 0] rfl (by kernel_rfl) (by kernel_rfl) (by kernel_rfl)
      (OpenSpec.preRow_of_cond 8 hx (by kernel_rfl) (fun k hk => by cases hk) (by kernel_rfl) (laid_met os))) ?_
  intro W base args ds gs before hval hW _ _ hsz hL hsh _
  exact contract H enc W base args ds gs before hval hW hsz hL hsh
theorem said : Rows.RfcBudgetSaid :=
  OpenClaim.holds_of_cond 6 Tryd.f6 rfl rfl rfl rfl rfl rfl rfl ⟨rfl, rfl, rfl, rfl, rfl⟩ rfl rfl rfl rfl rfl (by kernel_rfl) Tryd.func6 (by kernel_rfl)
    (of_decide_eq_true (by kernel_rfl)) (by unfold Func.isWrapper; first | (rw [if_pos (by decide +kernel)]; kernel_rfl) | (rw [if_neg (by decide +kernel)]; exact ⟨rfl, rfl⟩))
    (fun os started H enc _ F => by rw [OpenClaim.pre_eq_preRow]; exact lifted os started H enc F)
theorem plain (f : FuncId) (fn : Func) (hf : Tryd.pinned.checked.prog.funcNamed "stockade/stockadelaw12.RfcBudget" = some f) (hfn : Tryd.pinned.checked.prog.funcs[f]? = some fn) :
    false = Tryd.pinned.checked.prog.looks [] ∧ ∀ (j : Nat) t, fn.params[j]? = some t → Tryd.pinned.checked.prog.wantsStandIn t = false := by
  obtain rfl : f = 6 := Option.some.inj ((show Tryd.prog.funcNamed "stockade/stockadelaw12.RfcBudget" = some 6 by kernel_rfl).symm.trans hf) |>.symm
  obtain rfl : fn = Tryd.f6 := (Option.some.inj (Tryd.func6.symm.trans hfn)).symm
  refine ⟨by kernel_rfl, fun j t ht => ?_⟩
  rw [Tryd.params6] at ht
  have hm : t ∈ [22] := by simpa using Array.mem_of_getElem? ht
  have hall : ([22].all fun u => !Tryd.prog.wantsStandIn u) = true := by kernel_rfl
  exact (show Tryd.prog.wantsStandIn t = false by simpa using List.all_eq_true.1 hall t hm)
end Go.Proofs.YtcoldgpnkdallaaDoor.rfcBudget
namespace Go.Proofs.YtcoldgpnkdallaaDoor
theorem rfcBudget_holds : Rows.RfcBudgetCardSaid :=
  Claim7.holds_tied_plain_at .later [] _ _ _ _ rfcBudget.said (fun _ h => by cases h) (by kernel_rfl) (fun _ h => by cases h) rfcBudget_row_tie rfl ⟨rfl, rfl⟩ (by kernel_rfl) rfl rfcBudget.plain (by kernel_rfl)
end Go.Proofs.YtcoldgpnkdallaaDoor
