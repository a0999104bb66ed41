/- For every input the law TcpStrays returns true and leaves its arguments as they were. -/
import Derived.Test.YtmmnjjcopdabcaaTcx14
import Derived.Test.YtmmnjjcopdabcaaTcx43
import Derived.Test.YtmmnjjcopdabcaaRows
import Derived.WalkKit
import Derived.ProofKit
import Derived.OpenShut
import Derived.ShutString
import Derived.ChangeOld
import Derived.Below
import Derived.SizedLaws
namespace Go.Proofs.Ytmmnjjcopdabcaa
open Go.RowKit
set_option linter.unusedVariables false
set_option linter.unusedSimpArgs false
set_option maxRecDepth 100000 in
set_option maxHeartbeats 4000000 in
theorem tcpStrays_walk (a b x f : Int) (w : World) (ha : 0 ≤ a ∧ a < 4294967296) (hb : 0 ≤ b ∧ b < 4294967296) (hx : 0 ≤ x ∧ x < 4294967296) :
  Calls Try.prog 9 #[.agg #[.int .u32 a, .int .u32 b, .int .u32 x], .int .i64 f] w fun e w' => e = .returned (.bool true) ∧ Below w.heap.size w w' := by
 have KO : Hid (∀ W, Calls Try.prog 20 #[.int .u32 a, .int .u32 b, .agg #[.int .i64 100, .int .i64 100]] W fun e w' => e = .returned (.tuple #[.agg (opn a b 100 100).v, .bool true]) ∧ Below W.heap.size W w') := fun W => opened_tc a b 100 100 W (by decide) (by decide)
 have KL : Hid (∀ W, Calls Try.prog 12 #[] W fun e w' => e = .returned (.bool true) ∧ Below W.heap.size W w') := fun W => alive_tc W
 have ht : 70000 ≤ 70000 + x % 1000000 ∧ 70000 + x % 1000000 < 1070000 := by omega
 have K0 : Hid (∀ W, Calls Try.prog 17 #[.agg (opn a b 100 100).v, .int .i64 0, .agg (Gt.v ⟨(bits .or .i64 f 16), 0, 0, (a + 1 + (70000 + x % 1000000)) % 4294967296, (b + 1) % 4294967296⟩)] W fun e w' => e = .returned (.tuple #[.agg cn0.v, .int .i64 23]) ∧ Below W.heap.size W w') := fun W => strayC_0 a b _ _ ht W
 have K1 : Hid (∀ W, Calls Try.prog 17 #[.agg (opn a b 100 100).v, .int .i64 1, .agg (Gt.v ⟨(bits .or .i64 f 16), 0, 0, (b + 1 - (70000 + x % 1000000) - 2) % 4294967296, (a + 1) % 4294967296⟩)] W fun e w' => e = .returned (.tuple #[.agg cn0.v, .int .i64 23]) ∧ Below W.heap.size W w') := fun W => strayC_1 a b _ _ ht W
 have K2 : Hid (∀ W, Calls Try.prog 17 #[.agg (opn a b 100 100).v, .int .i64 0, .agg (Gt.v ⟨16, 0, 0, (a + 1) % 4294967296, (b + 1 + (70000 + x % 1000000)) % 4294967296⟩)] W fun e w' => e = .returned (.tuple #[.agg cn0.v, .int .i64 23]) ∧ Below W.heap.size W w') := fun W => strayC_2 a b _ ht W
 generalize opn a b 100 100 = c at *
 obtain ⟨Wk1, hWk1⟩ : ∃ W, w.alloc (.cells #[.int .u32 a, .int .u32 b, .int .u32 x] 55) = W := ⟨_, rfl⟩
 have bk1 := bel_nw hWk1
 have Uk1 := blk_nw hWk1
 go_enter Try.func9, Try.ntmps9
 go_wp2_with fail
 have Ud := Uk1.drew
 have bd := bk1.drew
 refine wp_region_noPanic ?_
 refine wp_region_held_drew (S := fun w' => Blk w' w.heap.size 55 #[.int .u32 a, .int .u32 b, .int .u32 x]) (by kernel_rfl) (by exact Ud) (fun hHeld => ?_)
 refine qtk (i := 0) (oi := { dst := some 16, op := Op.indexAddr 55 (.tmp 2) (.const (.int .i64 0)), type := 0, pos := "law.go:136", after := #[], guard := none }) (v := (.pointer (some ⟨w.heap.size, 0, none⟩))) hHeld ?_ ?_
 ·intro w9 hSw
  try dsimp only at hSw
  go_simp
 try simp only [qpu]
 refine qtk (i := 1) (oi := { dst := some 17, op := Op.load 22 (.tmp 16), type := 22, pos := "law.go:136", after := #[{ on := 0, ground := Ground.data }], guard := none }) (v := (.int .u32 a)) hHeld ?_ ?_
 ·intro w9 hSw
  try dsimp only at hSw
  have hcc := hSw.cell 0 (.int .u32 a) rfl
  go_simp
 try simp only [qpu]
 refine qtk (i := 2) (oi := { dst := some 18, op := Op.indexAddr 55 (.tmp 2) (.const (.int .i64 1)), type := 0, pos := "law.go:136", after := #[{ on := 6, ground := Ground.gcOnly Departure.lateStores }], guard := none }) (v := (.pointer (some ⟨w.heap.size, 1, none⟩))) hHeld ?_ ?_
 ·intro w9 hSw
  try dsimp only at hSw
  go_simp
 try simp only [qpu]
 refine qtk (i := 3) (oi := { dst := some 19, op := Op.load 22 (.tmp 18), type := 22, pos := "law.go:136", after := #[{ on := 2, ground := Ground.data }, { on := 6, ground := Ground.gcOnly Departure.lateStores }], guard := none }) (v := (.int .u32 b)) hHeld ?_ ?_
 ·intro w9 hSw
  try dsimp only at hSw
  have hcc := hSw.cell 1 (.int .u32 b) rfl
  go_simp
 try simp only [qpu]
 refine qtk (i := 4) (oi := { dst := some 20, op := Op.indexAddr 55 (.tmp 2) (.const (.int .i64 2)), type := 0, pos := "law.go:136", after := #[{ on := 7, ground := Ground.gcOnly Departure.lateStores }], guard := none }) (v := (.pointer (some ⟨w.heap.size, 2, none⟩))) hHeld ?_ ?_
 ·intro w9 hSw
  try dsimp only at hSw
  go_simp
 try simp only [qpu]
 refine qtk (i := 5) (oi := { dst := some 21, op := Op.load 22 (.tmp 20), type := 22, pos := "law.go:136", after := #[{ on := 4, ground := Ground.data }, { on := 7, ground := Ground.gcOnly Departure.lateStores }], guard := none }) (v := (.int .u32 x)) hHeld ?_ ?_
 ·intro w9 hSw
  try dsimp only at hSw
  have hcc := hSw.cell 2 (.int .u32 x) rfl
  go_simp
 try simp only [qpu]
 refine qtk (i := 6) (oi := { dst := some 5, op := Op.assign (.tmp 17), type := 22, pos := "law.go:136", after := #[{ on := 1, ground := Ground.data }, { on := 0, ground := Ground.phase }, { on := 1, ground := Ground.phase }, { on := 2, ground := Ground.textOnly Departure.lateStores }, { on := 3, ground := Ground.textOnly Departure.lateStores }, { on := 4, ground := Ground.textOnly Departure.lateStores }, { on := 5, ground := Ground.textOnly Departure.lateStores }], guard := none }) (v := (.int .u32 a)) hHeld ?_ ?_
 ·intro w9 hSw
  try dsimp only at hSw
  go_simp
 try simp only [qpu]
 refine qtk (i := 7) (oi := { dst := some 6, op := Op.assign (.tmp 19), type := 22, pos := "law.go:136", after := #[{ on := 3, ground := Ground.data }, { on := 6, ground := Ground.chain }, { on := 0, ground := Ground.phase }, { on := 1, ground := Ground.phase }, { on := 2, ground := Ground.phase }, { on := 3, ground := Ground.phase }, { on := 4, ground := Ground.textOnly Departure.lateStores }, { on := 5, ground := Ground.textOnly Departure.lateStores }, { on := 6, ground := Ground.phase }], guard := none }) (v := (.int .u32 b)) hHeld ?_ ?_
 ·intro w9 hSw
  try dsimp only at hSw
  go_simp
 try simp only [qpu]
 refine qtk (i := 8) (oi := { dst := some 7, op := Op.assign (.tmp 21), type := 22, pos := "law.go:136", after := #[{ on := 5, ground := Ground.data }, { on := 7, ground := Ground.chain }, { on := 0, ground := Ground.phase }, { on := 1, ground := Ground.phase }, { on := 2, ground := Ground.phase }, { on := 3, ground := Ground.phase }, { on := 4, ground := Ground.phase }, { on := 5, ground := Ground.phase }, { on := 6, ground := Ground.phase }, { on := 7, ground := Ground.phase }], guard := none }) (v := (.int .u32 x)) hHeld ?_ ?_
 ·intro w9 hSw
  try dsimp only at hSw
  go_simp
 try simp only [qpu]
 refine wpAnyH_done (by kernel_rfl) ?_ _
 refine NoPanic.normal ?_
 go_wp2_with fail
 refine Calls.mono (KO.out _) ?_
 rintro e Wm1 ⟨rfl, bb⟩
 have Um1 := Ud.kept bb
 have bm1 := bel_tr bd bb
 clear bb
 clear Ud bd
 obtain ⟨Wym2, hWym2⟩ : ∃ W, Wm1.alloc (.cells #[.int .i64 0, .int .u32 0, .int .u32 0, .int .u32 0, .int .u32 0, .bool false, .bool false, .bool false, .bool false] 28) = W := ⟨_, rfl⟩
 have Bbym2 := blk_nw hWym2
 have Uym2 := Um1.al hWym2
 have bym2 := bel_al bm1 hWym2
 have gC : w.heap.size ≤ Wm1.heap.size := bm1.size
 have nUC : w.heap.size ≠ Wm1.heap.size := by have := Um1.lt; omega
 have nCU : Wm1.heap.size ≠ w.heap.size := fun e => nUC e.symm
 obtain ⟨Wm2, hWm2⟩ : ∃ W, Wym2.setRow Wm1.heap.size c.v = W := ⟨_, rfl⟩
 have Cm2 : Blk Wm2 Wm1.heap.size 28 c.v := hWm2 ▸ Bbym2.set _
 have Um2 := hWm2 ▸ Uym2.other nUC c.v
 have bm2 := hWm2 ▸ below_setRow bym2 gC c.v
 clear Uym2 bym2
 clear Um1 bm1
 go_wp2_with (first | (refine wpList_load_suba_w (by rfl) _ _ rfl w.heap.size 0 _ (by rfl) _ #[.int .u32 a, .int .u32 b, .int .u32 x] Um2 (by rfl) Try.underlying55 (by kernel_rfl) ?_) | (refine wpList_load_blk_w (by rfl) _ _ rfl Wm1.heap.size (by rfl) _ Cm2 Try.underlying28 (by kernel_rfl) ?_) | (refine wpList_store_row rfl _ _ _ rfl Wm1.heap.size c.v (by rfl) (by rfl) _ _ Bbym2 (by kernel_rfl) (by rfl) (by kernel_rfl) ?_; rw [hWm2]))
 refine Calls.mono (KL.out _) ?_
 rintro e Wm3 ⟨rfl, bb⟩
 have Um3 := Um2.kept bb
 have Cm3 := Cm2.kept bb
 have bm3 := bel_tr bm2 bb
 clear bb
 clear Um2 Cm2 bm2
 go_wp2_with (first | (refine wpList_load_suba_w (by rfl) _ _ rfl w.heap.size 0 _ (by rfl) _ #[.int .u32 a, .int .u32 b, .int .u32 x] Um3 (by rfl) Try.underlying55 (by kernel_rfl) ?_) | (refine wpList_load_blk_w (by rfl) _ _ rfl Wm1.heap.size (by rfl) _ Cm3 Try.underlying28 (by kernel_rfl) ?_))
 refine Calls.mono (K0.out _) ?_
 rintro e Wm4 ⟨rfl, bb⟩
 have Um4 := Um3.kept bb
 have Cm4 := Cm3.kept bb
 have bm4 := bel_tr bm3 bb
 clear bb
 clear Um3 Cm3 bm3
 obtain ⟨Wym5, hWym5⟩ : ∃ W, Wm4.alloc (.cells #[.int .i64 0, .int .u32 0, .int .u32 0, .int .u32 0, .int .u32 0, .bool false, .bool false, .bool false, .bool false] 28) = W := ⟨_, rfl⟩
 have Bbym5 := blk_nw hWym5
 have Uym5 := Um4.al hWym5
 have Cym5 := Cm4.al hWym5
 have bym5 := bel_al bm4 hWym5
 have gP : w.heap.size ≤ Wm4.heap.size := bm4.size
 have nUP : w.heap.size ≠ Wm4.heap.size := by have := Um4.lt; omega
 have nPU : Wm4.heap.size ≠ w.heap.size := fun e => nUP e.symm
 have nCP : Wm1.heap.size ≠ Wm4.heap.size := by have := Cm4.lt; omega
 have nPC : Wm4.heap.size ≠ Wm1.heap.size := fun e => nCP e.symm
 obtain ⟨Wm5, hWm5⟩ : ∃ W, Wym5.setRow Wm4.heap.size cn0.v = W := ⟨_, rfl⟩
 have Pm5 : Blk Wm5 Wm4.heap.size 28 cn0.v := hWm5 ▸ Bbym5.set _
 have Um5 := hWm5 ▸ Uym5.other nUP cn0.v
 have Cm5 := hWm5 ▸ Cym5.other nCP cn0.v
 have bm5 := hWm5 ▸ below_setRow bym5 gP cn0.v
 clear Uym5 Cym5 bym5
 clear Um4 Cm4 bm4
 go_wp2_with (first | (refine wpList_load_suba_w (by rfl) _ _ rfl w.heap.size 0 _ (by rfl) _ #[.int .u32 a, .int .u32 b, .int .u32 x] Um5 (by rfl) Try.underlying55 (by kernel_rfl) ?_) | (refine wpList_load_blk_w (by rfl) _ _ rfl Wm1.heap.size (by rfl) _ Cm5 Try.underlying28 (by kernel_rfl) ?_) | (refine wpList_load_blk_w (by rfl) _ _ rfl Wm4.heap.size (by rfl) _ Pm5 Try.underlying28 (by kernel_rfl) ?_) | (refine wpList_store_row rfl _ _ _ rfl Wm4.heap.size cn0.v (by rfl) (by rfl) _ _ Bbym5 (by kernel_rfl) (by rfl) (by kernel_rfl) ?_; rw [hWm5]))
 refine Calls.mono (K1.out _) ?_
 rintro e Wm6 ⟨rfl, bb⟩
 have Um6 := Um5.kept bb
 have Cm6 := Cm5.kept bb
 have Pm6 := Pm5.kept bb
 have bm6 := bel_tr bm5 bb
 clear bb
 clear Um5 Cm5 Pm5 bm5
 obtain ⟨Wym7, hWym7⟩ : ∃ W, Wm6.alloc (.cells #[.int .i64 0, .int .u32 0, .int .u32 0, .int .u32 0, .int .u32 0, .bool false, .bool false, .bool false, .bool false] 28) = W := ⟨_, rfl⟩
 have Bbym7 := blk_nw hWym7
 have Uym7 := Um6.al hWym7
 have Cym7 := Cm6.al hWym7
 have Pym7 := Pm6.al hWym7
 have bym7 := bel_al bm6 hWym7
 have gQ : w.heap.size ≤ Wm6.heap.size := bm6.size
 have nUQ : w.heap.size ≠ Wm6.heap.size := by have := Um6.lt; omega
 have nQU : Wm6.heap.size ≠ w.heap.size := fun e => nUQ e.symm
 have nCQ : Wm1.heap.size ≠ Wm6.heap.size := by have := Cm6.lt; omega
 have nQC : Wm6.heap.size ≠ Wm1.heap.size := fun e => nCQ e.symm
 have nPQ : Wm4.heap.size ≠ Wm6.heap.size := by have := Pm6.lt; omega
 have nQP : Wm6.heap.size ≠ Wm4.heap.size := fun e => nPQ e.symm
 obtain ⟨Wm7, hWm7⟩ : ∃ W, Wym7.setRow Wm6.heap.size cn0.v = W := ⟨_, rfl⟩
 have Qm7 : Blk Wm7 Wm6.heap.size 28 cn0.v := hWm7 ▸ Bbym7.set _
 have Um7 := hWm7 ▸ Uym7.other nUQ cn0.v
 have Cm7 := hWm7 ▸ Cym7.other nCQ cn0.v
 have Pm7 := hWm7 ▸ Pym7.other nPQ cn0.v
 have bm7 := hWm7 ▸ below_setRow bym7 gQ cn0.v
 clear Uym7 Cym7 Pym7 bym7
 clear Um6 Cm6 Pm6 bm6
 go_wp2_with (first | (refine wpList_load_suba_w (by rfl) _ _ rfl w.heap.size 0 _ (by rfl) _ #[.int .u32 a, .int .u32 b, .int .u32 x] Um7 (by rfl) Try.underlying55 (by kernel_rfl) ?_) | (refine wpList_load_blk_w (by rfl) _ _ rfl Wm1.heap.size (by rfl) _ Cm7 Try.underlying28 (by kernel_rfl) ?_) | (refine wpList_load_blk_w (by rfl) _ _ rfl Wm4.heap.size (by rfl) _ Pm7 Try.underlying28 (by kernel_rfl) ?_) | (refine wpList_load_blk_w (by rfl) _ _ rfl Wm6.heap.size (by rfl) _ Qm7 Try.underlying28 (by kernel_rfl) ?_) | (refine wpList_store_row rfl _ _ _ rfl Wm6.heap.size cn0.v (by rfl) (by rfl) _ _ Bbym7 (by kernel_rfl) (by rfl) (by kernel_rfl) ?_; rw [hWm7]))
 refine Calls.mono (K2.out _) ?_
 rintro e Wm8 ⟨rfl, bb⟩
 have Um8 := Um7.kept bb
 have Cm8 := Cm7.kept bb
 have Pm8 := Pm7.kept bb
 have Qm8 := Qm7.kept bb
 have bm8 := bel_tr bm7 bb
 clear bb
 clear Um7 Cm7 Pm7 Qm7 bm7
 obtain ⟨Wym9, hWym9⟩ : ∃ W, Wm8.alloc (.cells #[.int .i64 0, .int .u32 0, .int .u32 0, .int .u32 0, .int .u32 0, .bool false, .bool false, .bool false, .bool false] 28) = W := ⟨_, rfl⟩
 have Bbym9 := blk_nw hWym9
 have Uym9 := Um8.al hWym9
 have Cym9 := Cm8.al hWym9
 have Pym9 := Pm8.al hWym9
 have Qym9 := Qm8.al hWym9
 have bym9 := bel_al bm8 hWym9
 have gR : w.heap.size ≤ Wm8.heap.size := bm8.size
 have nUR : w.heap.size ≠ Wm8.heap.size := by have := Um8.lt; omega
 have nRU : Wm8.heap.size ≠ w.heap.size := fun e => nUR e.symm
 have nCR : Wm1.heap.size ≠ Wm8.heap.size := by have := Cm8.lt; omega
 have nRC : Wm8.heap.size ≠ Wm1.heap.size := fun e => nCR e.symm
 have nPR : Wm4.heap.size ≠ Wm8.heap.size := by have := Pm8.lt; omega
 have nRP : Wm8.heap.size ≠ Wm4.heap.size := fun e => nPR e.symm
 have nQR : Wm6.heap.size ≠ Wm8.heap.size := by have := Qm8.lt; omega
 have nRQ : Wm8.heap.size ≠ Wm6.heap.size := fun e => nQR e.symm
 obtain ⟨Wm9, hWm9⟩ : ∃ W, Wym9.setRow Wm8.heap.size cn0.v = W := ⟨_, rfl⟩
 have Rm9 : Blk Wm9 Wm8.heap.size 28 cn0.v := hWm9 ▸ Bbym9.set _
 have Um9 := hWm9 ▸ Uym9.other nUR cn0.v
 have Cm9 := hWm9 ▸ Cym9.other nCR cn0.v
 have Pm9 := hWm9 ▸ Pym9.other nPR cn0.v
 have Qm9 := hWm9 ▸ Qym9.other nQR cn0.v
 have bm9 := hWm9 ▸ below_setRow bym9 gR cn0.v
 clear Uym9 Cym9 Pym9 Qym9 bym9
 clear Um8 Cm8 Pm8 Qm8 bm8
 go_wp2_with (refine wpList_store_row rfl _ _ _ rfl Wm8.heap.size cn0.v (by rfl) (by rfl) _ _ Bbym9 (by kernel_rfl) (by rfl) (by kernel_rfl) ?_; rw [hWm9])
 go_ret
 exact ⟨rfl, bm9⟩
end Go.Proofs.Ytmmnjjcopdabcaa
namespace Go.Proofs.Ytmmnjjcopdabcaa.tcpStrays
open Go.ChangeShapes Go.WideShapes Go.ChangeAt Go.RowKit
open Go.ChangeMaps (open_string shut_string)
set_option linter.unusedVariables false
theorem own : ownKnob Try.prog.godebug = none := by kernel_rfl
theorem laidOut : laidOutB Try.prog = true := by kernel_rfl
set_option maxRecDepth 100000 in
theorem lifted (os : Os) (started : os.Started) (H : Type) (enc : TypeId × Value → H) :
  ReturnsInHanded {} Try.checked os 9 .any (Rows.tcpStraysSpec.pre6 enc Try.prog Try.f9 Rows.tcpStraysRow.domain false) (Rows.tcpStraysSpec.post enc Try.prog Try.f9 false true false false) := by
 refine returnsInHanded_of_change_sized (C := Try.checked) own started (by kernel_rfl) Try.func9
  (ChangeSpec.witness6 (enc := enc) (C := Try.checked) false ⟨#[], #[.agg #[.int .u32 0, .int .u32 0, .int .u32 0], .int .i64 0], []⟩ 8 (by kernel_rfl) (by kernel_rfl) (by kernel_rfl) (by kernel_rfl)) ?_
 intro W base args ds gs before hval0 hW hcnd hsz0 _
 have hval : ∀ (j : Nat) t v, Try.f9.params[j]? = some t → args[j]? = some v → Value.okWide Try.prog W .any base t v := hval0
 have hW' := hW
 obtain ⟨p, q, hA0, hV, rfl, hfz, hnd⟩ := hW
 have hA : DataW.TrodAll enc Try.prog W 0 (fun _ => true) true Try.f9.params.toList args.toList ds p := hA0
 have hsz : (DataW.weightsEach Try.prog (Try.f9.params.toList ++ Rows.tcpStraysSpec.plain.varTypes Try.prog) (ds ++ gs)).all (· ≤ reachBytes) = true := hsz0
 rw [Try.params9] at hA hval hsz
 obtain ⟨v0, vs0, d0, ds0, p0, q0, hargs, rfl, rfl, h0, r0⟩ := trodAll_cons hA
 obtain ⟨v1, vs1, d1, ds1, p1, q1, rfl, rfl, rfl, h1, r1⟩ := trodAll_cons r0
 obtain ⟨rfl, rfl, rfl⟩ := trodAll_nil r1
 obtain rfl : args = #[v0, v1] := by cases args; simp_all
 obtain ⟨rfl, rfl⟩ := trodVars_none hV
 have lt0 : ∀ x ∈ p0, x.block < W.heap.size := by obtain ⟨m, hm⟩ := h0; exact DataW.trod_lt m _ _ _ hm
 have s0 : ∀ n ∈ d0.weights Try.prog 55, n ≤ reachBytes := fun n hn => by simpa using List.all_eq_true.1 hsz n (DataW.weights_mem_each (j := 0) (t := 55) rfl rfl n hn)
 obtain ⟨xa0, xb0, xc0, rfl, ra0, rb0, rc0⟩ := open_u3 (hval 0 55 v0 rfl rfl) h0
 obtain ⟨x1, rfl, rfl, rfl, w1⟩ := open_int Try.underlying3 (hval 1 3 v1 rfl rfl) h1
 clear hA0 hval0 hsz0
 refine (tcpStrays_walk xa0 xb0 xc0 x1 W ra0 rb0 rc0).mono fun e W' ⟨he, bel⟩ => ?_
 subst he
 exact ⟨_, rfl, _, _, _, [], _, [], hW', trodAll_mk1 (shut_bool Try.underlying4 _), (trodAll_cons_mk (Below.trod laidOut (by kernel_rfl) (of_decide_eq_true (by kernel_rfl)) h0 bel lt0) (trodAll_cons_mk (shut_int Try.underlying3 w1) trodAll_mk0)), rfl, bel.frame _, fun h => by cases h⟩
theorem over : Rows.tcpStraysRow.holds Try.pinned (OpenSpec.ofChange Rows.tcpStraysSpec) :=
 OpenClaim.holds_of_wide 9 Try.f9 rfl rfl rfl rfl rfl rfl rfl ⟨rfl, rfl, rfl, rfl, rfl⟩ rfl rfl rfl rfl rfl (by kernel_rfl) Try.func9 (by kernel_rfl)
  (of_decide_eq_true (by kernel_rfl)) (by unfold Func.isWrapper; first | (rw [if_pos (by decide +kernel)]; kernel_rfl) | (rw [if_neg (by decide +kernel)]; exact ⟨rfl, rfl⟩))
  (fun os started H enc _ => lifted os started H enc)
end Go.Proofs.Ytmmnjjcopdabcaa.tcpStrays
namespace Go.Proofs.Ytmmnjjcopdabcaa
theorem tcpStrays_holds : Rows.TcpStraysSaid := tcpStrays.over
end Go.Proofs.Ytmmnjjcopdabcaa
