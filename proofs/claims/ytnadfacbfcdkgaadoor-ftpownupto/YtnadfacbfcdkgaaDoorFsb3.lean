/- Where what it reads is of bulk at most 1048576 the law FtpOwn returns true and leaves its arguments as they were; the tables of Go's library that its row lists hold what they are listed with (the card ties them). -/
import Derived.Test.YtnadfacbfcdkgaaDoorFsa0
import Derived.Test.YtnadfacbfcdkgaaDoorFsa1
import Derived.Test.YtnadfacbfcdkgaaDoorFsa2
import Derived.Test.YtnadfacbfcdkgaaDoorFsa3
import Derived.Test.YtnadfacbfcdkgaaDoorFsa4
import Derived.Test.YtnadfacbfcdkgaaDoorFsa5
import Derived.Test.YtnadfacbfcdkgaaDoorFsa6
import Derived.Test.YtnadfacbfcdkgaaDoorFsa7
import Derived.Test.YtnadfacbfcdkgaaDoorFsa8
import Derived.Test.YtnadfacbfcdkgaaDoorFsa9
import Derived.Test.YtnadfacbfcdkgaaDoorFsa10
import Derived.Test.YtnadfacbfcdkgaaDoorFsa11
import Derived.Test.YtnadfacbfcdkgaaDoorFsa12
import Derived.Test.YtnadfacbfcdkgaaDoorFsa13
import Derived.Test.YtnadfacbfcdkgaaDoorFsa14
import Derived.Test.YtnadfacbfcdkgaaDoorFsa15
import Derived.Test.YtnadfacbfcdkgaaDoorFsa16
import Derived.Test.YtnadfacbfcdkgaaDoorFsa17
import Derived.Test.YtnadfacbfcdkgaaDoorFsa18
import Derived.Test.YtnadfacbfcdkgaaDoorFsa19
import Derived.Test.YtnadfacbfcdkgaaDoorFsa20
import Derived.Test.YtnadfacbfcdkgaaDoorFsa21
import Derived.Test.YtnadfacbfcdkgaaDoorFsa22
import Derived.Test.YtnadfacbfcdkgaaDoorFsa23
import Derived.Test.YtnadfacbfcdkgaaDoorFsa24
import Derived.Test.YtnadfacbfcdkgaaDoorFsa25
import Derived.Test.YtnadfacbfcdkgaaDoorFsa26
import Derived.Test.YtnadfacbfcdkgaaDoorFsa27
import Derived.Test.YtnadfacbfcdkgaaDoorFsa28
import Derived.Test.YtnadfacbfcdkgaaDoorFsa29
import Derived.Test.YtnadfacbfcdkgaaDoorFsa30
import Derived.Test.YtnadfacbfcdkgaaDoorFsa31
import Derived.Test.YtnadfacbfcdkgaaDoorFsa32
import Derived.Test.YtnadfacbfcdkgaaDoorFsa33
import Derived.Test.YtnadfacbfcdkgaaDoorFsa34
import Derived.Test.YtnadfacbfcdkgaaDoorFsa35
import Derived.Test.YtnadfacbfcdkgaaDoorFsa36
import Derived.Test.YtnadfacbfcdkgaaDoorFsa37
import Derived.Test.YtnadfacbfcdkgaaDoorFsa38
import Derived.Test.YtnadfacbfcdkgaaDoorFsa39
import Derived.Test.YtnadfacbfcdkgaaDoorFsb2
import Derived.Test.YtnadfacbfcdkgaaDoorCards
import Derived.Test.YtnadfacbfcdkgaaDoorTie
import Derived.WalkKit
import Derived.ProofKit
import Derived.OpenShut
import Derived.ChangeOld
import Derived.Below
import Derived.Carry
import Derived.SizedLaws
import Derived.Deep.DeepHandedRow
import Derived.SevenTiedAt
import Derived.Test.YtnadfacbfcdkgaaDoorRows
import Derived.Deep.Matrix
import Derived.Deep.Draws
import Derived.Laws.World
import Derived.Laws.BitsAllLaws
import Derived.Laws.BitsLemmas
import Derived.Laws.Bits128
import Derived.Lib.SmallJoins
import Derived.Lib.LaidTab
import Derived.Stop.LaidErr
import Derived.Deep.Strs
import Derived.ChangeSame
import Derived.Shelf.LaysM
import Derived.Laws.Shifts
import Derived.Laws.ShiftsVarLaws
import Derived.Laws.StructEq
import Derived.Deep.QuietTactic
import Derived.BigQuiet
import Derived.Deep.RegionWith
import Derived.Deep.DeepCutAuto
namespace Go.Proofs.YtnadfacbfcdkgaaDoor.ftpOwn
open Go.ChangeShapes Go.WideShapes Go.ChangeAt Go.RowKit
set_option linter.unusedVariables false
set_option linter.unusedSimpArgs false
theorem own : ownKnob Tryd.prog.godebug = none := by kernel_rfl
theorem laidOut : laidOutB Tryd.prog = true := by kernel_rfl
set_option maxRecDepth 100000 in
theorem contract (H : Type) (enc : TypeId × Value → H) (W : World) (base : Nat) (args : Array Value) (ds gs : List (DataW H)) (before : List MemPlace)
    (hval : ∀ (j : Nat) t v, Tryd.f9.params[j]? = some t → args[j]? = some v → Value.okWide Tryd.prog W .any base t v)
    (hW : DataW.Whole enc Tryd.prog Tryd.f9.params.toList Rows.ftpOwnSpec.vars false W args.toList ds gs before)
    (hk : Rows.uptoSmall H (ds ++ gs) = true) (hsz : (DataW.weightsEach Tryd.prog (Tryd.f9.params.toList ++ Rows.ftpOwnSpec.plain.varTypes Tryd.prog) (ds ++ gs)).all (· ≤ reachBytes) = true)
    (hL : laidMetH Tryd.prog Rows.ftpOwnUptoRow.laid W) (hsh : W.ShapedOpen Tryd.prog) :
    Calls Tryd.prog 9 args W fun e W' => ∃ v, e = .returned v ∧ Rows.ftpOwnSpec.post enc Tryd.prog Tryd.f9 false true false false W args v W' := by
  have hW' := hW
  obtain ⟨p, q, hA0, hV, rfl, hfz, hnd⟩ := hW
  have hA : DataW.TrodAll enc Tryd.prog W 0 (fun _ => true) true Tryd.f9.params.toList args.toList ds p := hA0
  rw [Tryd.params9] at hA hval hsz
  obtain ⟨v0, vs0, d0, ds0, p0, q0, hargs, rfl, rfl, h0, r0⟩ := trodAll_cons hA
  obtain ⟨rfl, rfl, rfl⟩ := trodAll_nil r0
  obtain rfl : args = #[v0] := by cases args; simp_all
  obtain ⟨rfl, rfl⟩ := trodVars_none hV
  have lt0 : ∀ x ∈ p0, x.block < W.heap.size := by obtain ⟨m, hm⟩ := h0; exact DataW.trod_lt m _ _ _ hm
  have s0 : ∀ n ∈ d0.weights Tryd.prog 22, n ≤ reachBytes := fun n hn => by simpa using List.all_eq_true.1 hsz n (DataW.weights_mem_each (j := 0) (t := 22) rfl rfl n hn)
  obtain ⟨a0, c0, y0, rfl, lc0, cm0, nl0, w0, u0⟩ := open_upto (hval 0 22 v0 rfl rfl) h0 s0
  have hb0 : y0.length ≤ 1048576 := by
    have h := of_decide_eq_true hk
    simp only [List.append_nil, List.cons_append, List.nil_append, Rows.uptoBulkAll] at h
    omega
  obtain ⟨m, hm⟩ := maxLen_cell hsh
  clear hA0 hval
  refine (ftpOwn_walk a0 c0 y0 W m lc0 w0 hb0 hm).mono fun e W' ⟨he, bel⟩ => ?_
  subst he
  exact ⟨_, rfl, _, _, _, [], _, [], hW', trodAll_mk1 (shut_bool Tryd.underlying4 _), (trodAll_cons_mk (Below.trod laidOut (by kernel_rfl) (of_decide_eq_true (by kernel_rfl)) h0 bel lt0) trodAll_mk0), rfl, bel.frame _, fun h => by cases h⟩
theorem laid_met (os : Os) : laidMet Tryd.prog Rows.ftpOwnUptoRow.laid (({ World.holding Tryd.prog os ⟨#[], #[], []⟩ with heap := (((World.holding Tryd.prog os ⟨#[], #[], []⟩).heap.modify 1 (laidOne (cellsA Rows.laid_unicode_utf8_first))).modify 2 (laidOne (cellsB Rows.laid_unicode_utf8_acceptRanges))) } : World).forCall (fun _ _ => 0) ⟨#[], #[.slice none 0 0], []⟩).memory :=
  laidMet_of_run' 8 (by kernel_rfl) (by kernel_rfl)
theorem reads (os : Os) {H : Type} (enc : TypeId × Value → H) : ∃ places, DataW.whole enc Tryd.prog (({ World.holding Tryd.prog os ⟨#[], #[], []⟩ with heap := (((World.holding Tryd.prog os ⟨#[], #[], []⟩).heap.modify 1 (laidOne (cellsA Rows.laid_unicode_utf8_first))).modify 2 (laidOne (cellsB Rows.laid_unicode_utf8_acceptRanges))) } : World).forCall (fun _ _ => 0) ⟨#[], #[.slice none 0 0], []⟩).memory Tryd.f9.params.toList Rows.ftpOwnSpec.vars false (#[.slice none 0 0] : Array Value).toList 8 = some ([.nil], [], places) :=
  ⟨[], by kernel_rfl⟩
set_option maxRecDepth 100000 in
theorem lifted (os : Os) (started : os.Started) (H : Type) (enc : TypeId × Value → H) (F : Stop.Interp) :
    ReturnsInHanded {} Tryd.checked os 9 .any ((Rows.OpenSpec.upto Rows.ftpOwnSpec).preRow enc Tryd.prog Tryd.f9 Rows.ftpOwnUptoRow.domain false Rows.ftpOwnUptoRow.laid) (((Rows.OpenSpec.upto Rows.ftpOwnSpec).at F).post enc Tryd.prog Tryd.f9 false true false false) := by
  obtain ⟨places, hx⟩ := reads os enc
  refine returnsInHanded_of_row (C := Tryd.checked) (s := (Rows.OpenSpec.upto Rows.ftpOwnSpec)) own started (by kernel_rfl) Tryd.func9
    (witness_row_at (enc := enc) (C := Tryd.checked) false ({ World.holding Tryd.prog os ⟨#[], #[], []⟩ with heap := (((World.holding Tryd.prog os ⟨#[], #[], []⟩).heap.modify 1 (laidOne (cellsA Rows.laid_unicode_utf8_first))).modify 2 (laidOne (cellsB Rows.laid_unicode_utf8_acceptRanges))) } : World) #[.slice none 0 0] rfl (by kernel_rfl) (by kernel_rfl) (by kernel_rfl)
      (OpenSpec.preRow_of_cond 8 hx (by kernel_rfl) (fun k hk => by cases hk; kernel_rfl) (by kernel_rfl) (laid_met os))) ?_
  intro W base args ds gs before hval hW _ hcond hsz hL hsh _
  exact contract H enc W base args ds gs before hval hW (hcond _ rfl) hsz hL hsh
theorem said : Rows.FtpOwnUptoSaid :=
  OpenClaim.holds_of_cond 9 Tryd.f9 rfl rfl rfl rfl rfl rfl rfl ⟨rfl, rfl, rfl, rfl, rfl⟩ rfl rfl rfl rfl rfl (by kernel_rfl) Tryd.func9 (by kernel_rfl)
    (of_decide_eq_true (by kernel_rfl)) (by unfold Func.isWrapper; first | (rw [if_pos (by decide +kernel)]; kernel_rfl) | (rw [if_neg (by decide +kernel)]; exact ⟨rfl, rfl⟩))
    (fun os started H enc _ F => by rw [OpenClaim.pre_eq_preRow]; exact lifted os started H enc F)
theorem plain (f : FuncId) (fn : Func) (hf : Tryd.pinned.checked.prog.funcNamed "stockade/stockadelaw18.FtpOwn" = some f) (hfn : Tryd.pinned.checked.prog.funcs[f]? = some fn) :
    false = Tryd.pinned.checked.prog.looks [] ∧ ∀ (j : Nat) t, fn.params[j]? = some t → Tryd.pinned.checked.prog.wantsStandIn t = false := by
  obtain rfl : f = 9 := Option.some.inj ((show Tryd.prog.funcNamed "stockade/stockadelaw18.FtpOwn" = some 9 by kernel_rfl).symm.trans hf) |>.symm
  obtain rfl : fn = Tryd.f9 := (Option.some.inj (Tryd.func9.symm.trans hfn)).symm
  refine ⟨by kernel_rfl, fun j t ht => ?_⟩
  rw [Tryd.params9] at ht
  have hm : t ∈ [22] := by simpa using Array.mem_of_getElem? ht
  have hall : ([22].all fun u => !Tryd.prog.wantsStandIn u) = true := by kernel_rfl
  exact (show Tryd.prog.wantsStandIn t = false by simpa using List.all_eq_true.1 hall t hm)
end Go.Proofs.YtnadfacbfcdkgaaDoor.ftpOwn
namespace Go.Proofs.YtnadfacbfcdkgaaDoor
theorem ftpOwn_holds : Rows.FtpOwnUptoCardSaid :=
  Claim7.holds_tied_plain_at .later [] _ _ _ _ ftpOwn.said (fun _ h => by cases h) (by kernel_rfl) (fun _ h => by cases h) ftpOwnUpto_row_tie rfl ⟨rfl, rfl⟩ (by kernel_rfl) rfl ftpOwn.plain (by kernel_rfl)
end Go.Proofs.YtnadfacbfcdkgaaDoor
