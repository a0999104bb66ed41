/- For every input the law TcpMoved returns true and leaves its arguments as they were. -/
import Derived.Test.YtmmnjjcopdabcaaTcx14
import Derived.Test.YtmmnjjcopdabcaaTcx43
import Derived.Test.YtmmnjjcopdabcaaRows
import Derived.WalkKit
import Derived.ProofKit
import Derived.OpenShut
import Derived.ShutString
import Derived.ChangeOld
import Derived.Below
import Derived.SizedLaws
namespace Go.Proofs.Ytmmnjjcopdabcaa
abbrev tcx49o0 : Oper := { dst := none, op := Op.store 28 (.tmp 15) (.tmp 70), type := 0, pos := "law.go:119", after := #[{ on := 9, ground := Ground.data }, { on := 7, ground := Ground.data }, { on := 5, ground := Ground.chain }, { on := 0, ground := Ground.phase }, { on := 1, ground := Ground.phase }, { on := 2, ground := Ground.phase }, { on := 3, ground := Ground.phase }, { on := 4, ground := Ground.phase }, { on := 5, ground := Ground.phase }, { on := 6, ground := Ground.phase }, { on := 7, ground := Ground.phase }, { on := 8, ground := Ground.textOnly Departure.lateStores }, { on := 9, ground := Ground.phase }], guard := none }
abbrev tcx49o1 : Oper := { dst := none, op := Op.store 28 (.tmp 17) (.tmp 79), type := 0, pos := "law.go:120", after := #[{ on := 9, ground := Ground.data }, { on := 7, ground := Ground.data }, { on := 5, ground := Ground.chain }, { on := 0, ground := Ground.phase }, { on := 1, ground := Ground.phase }, { on := 2, ground := Ground.phase }, { on := 3, ground := Ground.phase }, { on := 4, ground := Ground.phase }, { on := 5, ground := Ground.phase }, { on := 6, ground := Ground.phase }, { on := 7, ground := Ground.phase }, { on := 8, ground := Ground.textOnly Departure.lateStores }, { on := 9, ground := Ground.phase }], guard := none }
abbrev tcx49o2 : Oper := { dst := some 16, op := Op.assign (.tmp 71), type := 29, pos := "law.go:119", after := #[{ on := 8, ground := Ground.data }, { on := 10, ground := Ground.chain }, { on := 0, ground := Ground.phase }, { on := 1, ground := Ground.phase }, { on := 2, ground := Ground.phase }, { on := 3, ground := Ground.phase }, { on := 4, ground := Ground.phase }, { on := 5, ground := Ground.phase }, { on := 6, ground := Ground.phase }, { on := 7, ground := Ground.phase }, { on := 8, ground := Ground.phase }, { on := 9, ground := Ground.phase }, { on := 10, ground := Ground.phase }], guard := none }
abbrev tcx49o3 : Oper := { dst := some 18, op := Op.assign (.tmp 80), type := 29, pos := "law.go:120", after := #[{ on := 8, ground := Ground.data }, { on := 10, ground := Ground.chain }, { on := 0, ground := Ground.phase }, { on := 1, ground := Ground.phase }, { on := 2, ground := Ground.phase }, { on := 3, ground := Ground.phase }, { on := 4, ground := Ground.phase }, { on := 5, ground := Ground.phase }, { on := 6, ground := Ground.phase }, { on := 7, ground := Ground.phase }, { on := 8, ground := Ground.phase }, { on := 9, ground := Ground.phase }, { on := 10, ground := Ground.phase }], guard := none }
abbrev tcx49o4 : Oper := { dst := some 69, op := Op.call { callee := Callee.value (.func 17), args := #[.tmp 64, .tmp 66, .tmp 68], argTypes := #[28, 3, 39] }, type := 30, pos := "law.go:119", after := #[{ on := 0, ground := Ground.data }, { on := 2, ground := Ground.data }, { on := 4, ground := Ground.data }, { on := 4, ground := Ground.chain }], guard := none }
abbrev tcx49o5 : Oper := { dst := some 78, op := Op.call { callee := Callee.value (.func 17), args := #[.tmp 73, .tmp 75, .tmp 77], argTypes := #[28, 3, 39] }, type := 30, pos := "law.go:120", after := #[{ on := 0, ground := Ground.data }, { on := 2, ground := Ground.data }, { on := 4, ground := Ground.data }, { on := 4, ground := Ground.chain }], guard := none }
abbrev tcx49o6 : Oper := { dst := some 71, op := Op.extract (.tmp 63) 1, type := 29, pos := "law.go:119", after := #[{ on := 6, ground := Ground.data }, { on := 10, ground := Ground.gcOnly Departure.lateStores }], guard := none }
abbrev tcx49o7 : Oper := { dst := some 80, op := Op.extract (.tmp 72) 1, type := 29, pos := "law.go:120", after := #[{ on := 6, ground := Ground.data }, { on := 10, ground := Ground.gcOnly Departure.lateStores }], guard := none }
abbrev tcx49o8 : Oper := { dst := some 68, op := Op.call { callee := Callee.value (.func 18), args := #[.tmp 67], argTypes := #[24] }, type := 39, pos := "law.go:119", after := #[{ on := 3, ground := Ground.data }], guard := none }
abbrev tcx49o9 : Oper := { dst := some 77, op := Op.call { callee := Callee.value (.func 18), args := #[.tmp 76], argTypes := #[24] }, type := 39, pos := "law.go:120", after := #[{ on := 3, ground := Ground.data }], guard := none }
abbrev tcx49o10 : Oper := { dst := some 63, op := Op.move (.tmp 69), type := 30, pos := "law.go:119", after := #[{ on := 5, ground := Ground.data }], guard := none }
abbrev tcx49o11 : Oper := { dst := some 72, op := Op.move (.tmp 78), type := 30, pos := "law.go:120", after := #[{ on := 5, ground := Ground.data }], guard := none }
abbrev tcx49o12 : Oper := { dst := some 70, op := Op.extract (.tmp 63) 0, type := 28, pos := "law.go:119", after := #[{ on := 6, ground := Ground.data }], guard := none }
abbrev tcx49o13 : Oper := { dst := some 79, op := Op.extract (.tmp 72) 0, type := 28, pos := "law.go:120", after := #[{ on := 6, ground := Ground.data }], guard := none }
abbrev tcx49o14 : Oper := { dst := some 15, op := Op.alloc 28, type := 0, pos := "law.go:119", after := #[], guard := none }
abbrev tcx49o15 : Oper := { dst := some 17, op := Op.alloc 28, type := 0, pos := "law.go:120", after := #[], guard := none }
abbrev tcx49o16 : Oper := { dst := none, op := Op.store 28 (.tmp 9) (.tmp 87), type := 0, pos := "law.go:125", after := #[{ on := 1, ground := Ground.data }, { on := 2, ground := Ground.chain }, { on := 0, ground := Ground.phase }, { on := 1, ground := Ground.phase }, { on := 2, ground := Ground.phase }], guard := none }
abbrev tcx49o17 : Oper := { dst := none, op := Op.store 28 (.tmp 7) (.tmp 86), type := 0, pos := "law.go:125", after := #[{ on := 0, ground := Ground.data }, { on := 0, ground := Ground.phase }, { on := 1, ground := Ground.textOnly Departure.lateStores }], guard := none }
abbrev tcx49o18 : Oper := { dst := some 87, op := Op.load 28 (.tmp 17), type := 28, pos := "law.go:125", after := #[{ on := 2, ground := Ground.gcOnly Departure.lateStores }], guard := none }
abbrev tcx49o19 : Oper := { dst := some 67, op := Op.load 24 (.tmp 13), type := 24, pos := "law.go:119", after := #[], guard := none }
abbrev tcx49o20 : Oper := { dst := some 76, op := Op.load 24 (.tmp 14), type := 24, pos := "law.go:120", after := #[], guard := none }
abbrev tcx49o21 : Oper := { dst := some 66, op := Op.load 3 (.tmp 65), type := 3, pos := "law.go:119", after := #[{ on := 1, ground := Ground.data }], guard := none }
abbrev tcx49o22 : Oper := { dst := some 75, op := Op.load 3 (.tmp 74), type := 3, pos := "law.go:120", after := #[{ on := 1, ground := Ground.data }], guard := none }
abbrev tcx49o23 : Oper := { dst := some 65, op := Op.fieldAddr 45 (.tmp 12) 0, type := 0, pos := "law.go:119", after := #[], guard := none }
abbrev tcx49o24 : Oper := { dst := some 74, op := Op.fieldAddr 45 (.tmp 12) 0, type := 0, pos := "law.go:120", after := #[], guard := none }
abbrev tcx49o25 : Oper := { dst := some 86, op := Op.load 28 (.tmp 15), type := 28, pos := "law.go:125", after := #[], guard := none }
abbrev tcx49o26 : Oper := { dst := some 64, op := Op.load 28 (.tmp 7), type := 28, pos := "law.go:119", after := #[], guard := none }
abbrev tcx49o27 : Oper := { dst := some 73, op := Op.load 28 (.tmp 9), type := 28, pos := "law.go:120", after := #[], guard := none }
end Go.Proofs.Ytmmnjjcopdabcaa
namespace Go.Proofs.Ytmmnjjcopdabcaa
open Go.RowKit
set_option linter.unusedVariables false
set_option linter.unusedSimpArgs false
set_option maxRecDepth 100000 in
set_option maxHeartbeats 4000000 in
theorem tcpMoved_walk (sq by_ : Int) (la : Option Addr) (lc : Nat) (l : List Tlk) (w : World) (hsq : 0 ≤ sq ∧ sq < 4294967296) (hby : 0 ≤ by_ ∧ by_ < 4294967296) (hlc : l.length ≤ lc) (hcm : lc * 40 ≤ 140737488351232 ∧ (la = none → lc = 0)) (hrow : RowT w la l) :
  Calls Try.prog 8 #[.int .u32 sq, .int .u32 by_, .slice la l.length lc] w fun e w' => e = .returned (.bool true) ∧ Below w.heap.size w w' := by
 have K1 : Hid (∀ W, Calls Try.prog 10 #[.int .i64 2, .int .u32 sq, .int .i64 1000, .int .i64 0] W fun e w' => e = .returned (.tuple #[.agg (opn1 sq 1000).v, .int .i64 0]) ∧ Below W.heap.size W w') := fun W => by have h := begin_tc 2 sq 1000 0 W; rw [opn_1 (by decide)] at h; exact h
 have eM : opn1 ((sq + by_) % 4294967296) 1000 = (opn1 sq 1000).mv by_ := cn_eq rfl (by show ((sq + by_) % 4294967296 + 1) % 4294967296 = ((sq + 1) % 4294967296 + by_) % 4294967296; omega) rfl (by show ((sq + by_) % 4294967296 + 1) % 4294967296 = ((sq + 1) % 4294967296 + by_) % 4294967296; omega) rfl rfl rfl rfl rfl
 have K2 : Hid (∀ W, Calls Try.prog 10 #[.int .i64 2, .int .u32 ((sq + by_) % 4294967296), .int .i64 1000, .int .i64 0] W fun e w' => e = .returned (.tuple #[.agg ((opn1 sq 1000).mv by_).v, .int .i64 0]) ∧ Below W.heap.size W w') := fun W => by have h := begin_tc 2 ((sq + by_) % 4294967296) 1000 0 W; rw [opn_1 (by decide), eM] at h; exact h
 clear eM
 have KL : Hid (∀ W, Calls Try.prog 12 #[] W fun e w' => e = .returned (.bool true) ∧ Below W.heap.size W w') := fun W => alive_tc W
 have KST : Hid (∀ (c : Cn) (i : Int) (g : Gt) W, Calls Try.prog 17 #[.agg c.v, .int .i64 i, .agg g.v] W fun e w' => e = .returned (.tuple #[.agg (c.step i g).1.v, .int .i64 (c.step i g).2]) ∧ Below W.heap.size W w') := fun c i g W => step_tc c i g W
 have KSG : Hid (∀ (g : Gt) W, Calls Try.prog 18 #[.agg g.v] W fun e w' => e = .returned (.agg g.v) ∧ Below W.heap.size W w') := fun g W => seg_tc g W
 have HRow : Hid (RowT w la l) := hrow
 have HLx : l.length * 40 ≤ 140737488351232 := by have := hcm.1; omega
 have HL : Hid (l.length * 40 ≤ 140737488351232) := HLx
 clear HLx
 obtain ⟨N, hN⟩ : ∃ N, l.length = N := ⟨_, rfl⟩
 have HN : Hid (l.length = N) := hN
 rw [hN] at HL ⊢
 clear hN hrow hlc hcm
 have hNl := HL.out
 have HI : Hid ((opn1 sq 1000).in32) := ⟨md32 _, (by show (0 : Int) ≤ 0 ∧ (0 : Int) < 4294967296; omega), md32 _, md32 _⟩
 generalize opn1 sq 1000 = c at *
 go_enter Try.func8, Try.ntmps8
 go_wp2_with fail
 refine Calls.mono (K1.out _) ?_
 rintro e Wk1 ⟨rfl, bb⟩
 have bk1 := bb
 obtain ⟨Wyk2, hWyk2⟩ : ∃ W, Wk1.alloc (.cells #[.int .i64 0, .int .u32 0, .int .u32 0, .int .u32 0, .int .u32 0, .bool false, .bool false, .bool false, .bool false] 28) = W := ⟨_, rfl⟩
 have Bbyk2 := blk_nw hWyk2
 have byk2 := bel_al bk1 hWyk2
 have gC : w.heap.size ≤ Wk1.heap.size := bk1.size
 obtain ⟨Wk2, hWk2⟩ : ∃ W, Wyk2.setRow Wk1.heap.size c.v = W := ⟨_, rfl⟩
 have Ck2 : Blk Wk2 Wk1.heap.size 28 c.v := hWk2 ▸ Bbyk2.set _
 have bk2 := hWk2 ▸ below_setRow byk2 gC c.v
 clear byk2
 clear  bk1
 go_wp2_with (first | (refine wpList_load_blk_w (by rfl) _ _ rfl Wk1.heap.size (by rfl) _ Ck2 Try.underlying28 (by kernel_rfl) ?_) | (refine wpList_store_row rfl _ _ _ rfl Wk1.heap.size c.v (by rfl) (by rfl) _ _ Bbyk2 (by kernel_rfl) (by rfl) (by kernel_rfl) ?_; rw [hWk2]))
 refine Calls.mono (K2.out _) ?_
 rintro e Wk3 ⟨rfl, bb⟩
 have Ck3 := Ck2.kept bb
 have bk3 := bel_tr bk2 bb
 clear bb
 clear Ck2 bk2
 obtain ⟨Wyk4, hWyk4⟩ : ∃ W, Wk3.alloc (.cells #[.int .i64 0, .int .u32 0, .int .u32 0, .int .u32 0, .int .u32 0, .bool false, .bool false, .bool false, .bool false] 28) = W := ⟨_, rfl⟩
 have Bbyk4 := blk_nw hWyk4
 have Cyk4 := Ck3.al hWyk4
 have byk4 := bel_al bk3 hWyk4
 have gD : w.heap.size ≤ Wk3.heap.size := bk3.size
 have nCD : Wk1.heap.size ≠ Wk3.heap.size := by have := Ck3.lt; omega
 have nDC : Wk3.heap.size ≠ Wk1.heap.size := fun e => nCD e.symm
 obtain ⟨Wk4, hWk4⟩ : ∃ W, Wyk4.setRow Wk3.heap.size ((c.mv by_).v) = W := ⟨_, rfl⟩
 have Dk4 : Blk Wk4 Wk3.heap.size 28 ((c.mv by_).v) := hWk4 ▸ Bbyk4.set _
 have Ck4 := hWk4 ▸ Cyk4.other nCD ((c.mv by_).v)
 have bk4 := hWk4 ▸ below_setRow byk4 gD ((c.mv by_).v)
 clear Cyk4 byk4
 clear Ck3 bk3
 go_wp2_with (first | (refine wpList_load_blk_w (by rfl) _ _ rfl Wk1.heap.size (by rfl) _ Ck4 Try.underlying28 (by kernel_rfl) ?_) | (refine wpList_load_blk_w (by rfl) _ _ rfl Wk3.heap.size (by rfl) _ Dk4 Try.underlying28 (by kernel_rfl) ?_) | (refine wpList_store_row rfl _ _ _ rfl Wk3.heap.size ((c.mv by_).v) (by rfl) (by rfl) _ _ Bbyk4 (by kernel_rfl) (by rfl) (by kernel_rfl) ?_; rw [hWk4]))
 refine Calls.mono (KL.out _) ?_
 rintro e Wk5 ⟨rfl, bb⟩
 have Ck5 := Ck4.kept bb
 have Dk5 := Dk4.kept bb
 have bk5 := bel_tr bk4 bb
 clear bb
 clear Ck4 Dk4 bk4
 go_wp2_with fail
 go_loopw [43] (fun i wr => ∃ (j : Nat) (d : Cn), j ≤ N ∧ i = .int .i64 j ∧ Hid (d.in32) ∧ Blk wr Wk1.heap.size 28 d.v ∧ Blk wr Wk3.heap.size 28 (d.mv by_).v ∧ Below w.heap.size w wr) (fun i _ => N - (intOf i).toNat)
 case atStart => exact ⟨0, c, Nat.zero_le _, rfl, HI, Ck5, Dk5, bk5⟩
 case round =>
  obtain ⟨j, c, hj, rfl, hI, Cr, Dr, br⟩ := hrel
  obtain ⟨Wr, rfl⟩ : ∃ W, W = wr := ⟨_, rfl⟩
  clear HI
  by_cases hlt : j < N
  ·have ik : (j : Int) < (N : Int) := by omega
   have in0 : (0 : Int) ≤ (j : Int) := by omega
   obtain ⟨q, hq⟩ : ∃ q, l[j]? = some q := ⟨_, List.getElem?_eq_getElem (by rw [HN.out]; exact hlt)⟩
   obtain ⟨p, off, ha, hcx⟩ := (HRow.out.low br).cells j q hq
   have hqg := (HRow.out.each q (List.mem_of_getElem? hq)).g
   subst ha
   clear hq
   have HMV : Hid ((c.mv by_).step q.i (q.g.mv (!(q.i == 0)) by_) = (if (c.step q.i q.g).2 = 0 then ((c.step q.i q.g).1.mv by_, 0) else (cn0, (c.step q.i q.g).2))) := step_mv hI.out hqg q.i by_
   have HIN : Hid ((c.step q.i q.g).2 = 0 → (c.step q.i q.g).1.in32) := fun h => step_in hI.out (i := q.i) (g := q.g) (by rw [← h])
   have KS := KST.out c q.i q.g
   have KS2 := KST.out (c.mv by_) q.i (q.g.mv (!(q.i == 0)) by_)
   rw [HMV.out] at KS2
   clear HMV
   obtain ⟨R, hR⟩ : ∃ R, c.step q.i q.g = R := ⟨_, rfl⟩
   rw [hR] at HIN KS KS2
   clear hR hqg
   obtain ⟨d, e⟩ := R
   dsimp only at HIN KS KS2
   have KG : Hid _ := KSG.out q.g
   cases hS : (q.i == 0) with
   | true =>
    have eS : (q.i == 0) = true := hS
    rw [eS] at KS2
    have KS : Hid _ := KS
    have KS2 : Hid (∀ W, Calls Try.prog 17 #[.agg (c.mv by_).v, .int .i64 q.i, .agg (q.g.mv false by_).v] W _) := KS2
    have KG2 : Hid _ := KSG.out (q.g.mv false by_)
    clear hS
    obtain ⟨Wym1, hWym1⟩ : ∃ W, Wr.alloc (.cells #[.int .i64 0, .int .i64 0, .int .i64 0, .int .i64 0, .int .u32 0, .int .u32 0] 45) = W := ⟨_, rfl⟩
    have Bbym1 := blk_nw hWym1
    have Cym1 := Cr.al hWym1
    have Dym1 := Dr.al hWym1
    have bym1 := bel_al br hWym1
    have gT : w.heap.size ≤ Wr.heap.size := br.size
    have nCT : Wk1.heap.size ≠ Wr.heap.size := by have := Cr.lt; omega
    have nTC : Wr.heap.size ≠ Wk1.heap.size := fun e => nCT e.symm
    have nDT : Wk3.heap.size ≠ Wr.heap.size := by have := Dr.lt; omega
    have nTD : Wr.heap.size ≠ Wk3.heap.size := fun e => nDT e.symm
    obtain ⟨Wm1, hWm1⟩ : ∃ W, Wym1.setRow Wr.heap.size q.v = W := ⟨_, rfl⟩
    have Tm1 : Blk Wm1 Wr.heap.size 45 q.v := hWm1 ▸ Bbym1.set _
    have Cm1 := hWm1 ▸ Cym1.other nCT q.v
    have Dm1 := hWm1 ▸ Dym1.other nDT q.v
    have bm1 := hWm1 ▸ below_setRow bym1 gT q.v
    clear Cym1 Dym1 bym1
    clear Cr Dr br
    go_upto_region 8 with (first | (refine wpList_store_row rfl _ _ _ rfl Wr.heap.size q.v (by rfl) (by rfl) _ _ Bbym1 (by kernel_rfl) (by rfl) (by kernel_rfl) ?_; rw [hWm1]) | (refine wpList_load_at_w (by rfl) _ _ rfl p (off + j * 6) (by rfl) _ hcx Try.underlying45 (info_tlk q) ?_))
    clear hcx
    have TT := Tm1
    obtain ⟨Wym2, hWym2⟩ : ∃ W, Wm1.alloc (.cells #[.int .i64 0, .int .i64 0, .int .i64 0, .int .u32 0, .int .u32 0] 24) = W := ⟨_, rfl⟩
    have Bbym2 := blk_nw hWym2
    have Cym2 := Cm1.al hWym2
    have Dym2 := Dm1.al hWym2
    have Tym2 := Tm1.al hWym2
    have bym2 := bel_al bm1 hWym2
    have gG : w.heap.size ≤ Wm1.heap.size := bm1.size
    have nCG : Wk1.heap.size ≠ Wm1.heap.size := by have := Cm1.lt; omega
    have nGC : Wm1.heap.size ≠ Wk1.heap.size := fun e => nCG e.symm
    have nDG : Wk3.heap.size ≠ Wm1.heap.size := by have := Dm1.lt; omega
    have nGD : Wm1.heap.size ≠ Wk3.heap.size := fun e => nDG e.symm
    have nTG : Wr.heap.size ≠ Wm1.heap.size := by have := Tm1.lt; omega
    have nGT : Wm1.heap.size ≠ Wr.heap.size := fun e => nTG e.symm
    obtain ⟨Wm2, hWm2⟩ : ∃ W, Wym2.setRow Wm1.heap.size q.g.v = W := ⟨_, rfl⟩
    have Gm2 : Blk Wm2 Wm1.heap.size 24 q.g.v := hWm2 ▸ Bbym2.set _
    have Cm2 := hWm2 ▸ Cym2.other nCG q.g.v
    have Dm2 := hWm2 ▸ Dym2.other nDG q.g.v
    have Tm2 := hWm2 ▸ Tym2.other nTG q.g.v
    have bm2 := hWm2 ▸ below_setRow bym2 gG q.g.v
    clear Cym2 Dym2 Tym2 bym2
    clear Cm1 Dm1 Tm1 bm1
    go_upto_region 9 with (first | (refine wpList_store_row rfl _ _ _ rfl Wm1.heap.size q.g.v (by rfl) (by rfl) _ _ Bbym2 (by kernel_rfl) (by rfl) (by kernel_rfl) ?_; rw [hWm2]) | (refine wpList_load_sub_w (by rfl) _ _ rfl Wr.heap.size 1 _ (by rfl) _ q.g.v TT (by rfl) Try.underlying24 (by kernel_rfl) ?_))
    clear TT
    have GG := Gm2
    obtain ⟨Wym3, hWym3⟩ : ∃ W, Wm2.alloc (.cells #[.int .i64 0, .int .i64 0, .int .i64 0, .int .u32 0, .int .u32 0] 24) = W := ⟨_, rfl⟩
    have Bbym3 := blk_nw hWym3
    have Cym3 := Cm2.al hWym3
    have Dym3 := Dm2.al hWym3
    have Tym3 := Tm2.al hWym3
    have Gym3 := Gm2.al hWym3
    have bym3 := bel_al bm2 hWym3
    have gH : w.heap.size ≤ Wm2.heap.size := bm2.size
    have nCH : Wk1.heap.size ≠ Wm2.heap.size := by have := Cm2.lt; omega
    have nHC : Wm2.heap.size ≠ Wk1.heap.size := fun e => nCH e.symm
    have nDH : Wk3.heap.size ≠ Wm2.heap.size := by have := Dm2.lt; omega
    have nHD : Wm2.heap.size ≠ Wk3.heap.size := fun e => nDH e.symm
    have nTH : Wr.heap.size ≠ Wm2.heap.size := by have := Tm2.lt; omega
    have nHT : Wm2.heap.size ≠ Wr.heap.size := fun e => nTH e.symm
    have nGH : Wm1.heap.size ≠ Wm2.heap.size := by have := Gm2.lt; omega
    have nHG : Wm2.heap.size ≠ Wm1.heap.size := fun e => nGH e.symm
    obtain ⟨Wm3, hWm3⟩ : ∃ W, Wym3.setRow Wm2.heap.size q.g.v = W := ⟨_, rfl⟩
    have Hm3 : Blk Wm3 Wm2.heap.size 24 q.g.v := hWm3 ▸ Bbym3.set _
    have Cm3 := hWm3 ▸ Cym3.other nCH q.g.v
    have Dm3 := hWm3 ▸ Dym3.other nDH q.g.v
    have Tm3 := hWm3 ▸ Tym3.other nTH q.g.v
    have Gm3 := hWm3 ▸ Gym3.other nGH q.g.v
    have bm3 := hWm3 ▸ below_setRow bym3 gH q.g.v
    clear Cym3 Dym3 Tym3 Gym3 bym3
    clear Cm2 Dm2 Tm2 Gm2 bm2
    go_upto_region 10 with (first | (refine wpList_store_row rfl _ _ _ rfl Wm2.heap.size q.g.v (by rfl) (by rfl) _ _ Bbym3 (by kernel_rfl) (by rfl) (by kernel_rfl) ?_; rw [hWm3]) | (refine wpList_load_blk_w (by rfl) _ _ rfl Wm1.heap.size (by rfl) _ GG Try.underlying24 (by kernel_rfl) ?_))
    clear GG
    have t0 := Tm3.cell 0 (.int .i64 q.i) rfl
    have s3 := Hm3.cell 3 (.int .u32 q.g.sq) rfl
    have s4 := Hm3.cell 4 (.int .u32 q.g.ak) rfl
    have f3 := Hm3.frozen 3
    obtain ⟨Wm3s, hWm3s⟩ : ∃ W, Wm3.setCell ⟨Wm2.heap.size, 3, none⟩ (.int .u32 ((q.g.sq + by_) % 4294967296)) = W := ⟨_, rfl⟩
    have Hm3s : Blk Wm3s Wm2.heap.size 24 (q.g.mv false by_).v := hWm3s ▸ Hm3.put 3 (.int .u32 ((q.g.sq + by_) % 4294967296))
    have Cm3s := hWm3s ▸ Cm3.put_other Hm3 nCH 3 (.int .u32 ((q.g.sq + by_) % 4294967296))
    have Dm3s := hWm3s ▸ Dm3.put_other Hm3 nDH 3 (.int .u32 ((q.g.sq + by_) % 4294967296))
    have Tm3s := hWm3s ▸ Tm3.put_other Hm3 nTH 3 (.int .u32 ((q.g.sq + by_) % 4294967296))
    have Gm3s := hWm3s ▸ Gm3.put_other Hm3 nGH 3 (.int .u32 ((q.g.sq + by_) % 4294967296))
    have bm3s := hWm3s ▸ bm3.setCell (p := ⟨Wm2.heap.size, 3, none⟩) gH (.int .u32 ((q.g.sq + by_) % 4294967296))
    clear Cm3 Dm3 Tm3 Gm3 Hm3 bm3
    go_wp2_with fail
    go_cut [15, 16] (fun y fv w'' => ∃ g, y = .pointer (some ⟨g, 0, none⟩) ∧ fv = .int .i64 e ∧ Blk w'' Wk1.heap.size 28 (c.v) ∧ Blk w'' Wk3.heap.size 28 ((c.mv by_).v) ∧ Blk w'' Wr.heap.size 45 (q.v) ∧ Blk w'' Wm1.heap.size 24 (q.g.v) ∧ Blk w'' Wm2.heap.size 24 ((q.g.mv false by_).v) ∧ Blk w'' g 28 d.v ∧ Wk1.heap.size ≠ g ∧ Wk3.heap.size ≠ g ∧ Wr.heap.size ≠ g ∧ Wm1.heap.size ≠ g ∧ Wm2.heap.size ≠ g ∧ Below w.heap.size w w'')
    case first =>
     have Cd := Cm3s.drew
     have Dd := Dm3s.drew
     have Td := Tm3s.drew
     have Gd := Gm3s.drew
     have Hd := Hm3s.drew
     have bd := bm3s.drew
     refine wp_region_noPanic ?_
     refine wp_region_held_drew (S := fun w' => Blk w' Wk1.heap.size 28 c.v ∧ Blk w' Wk3.heap.size 28 ((c.mv by_).v) ∧ Blk w' Wr.heap.size 45 q.v ∧ Blk w' Wm1.heap.size 24 q.g.v ∧ Blk w' Wm2.heap.size 24 ((q.g.mv false by_).v)) (by kernel_rfl) (by exact ⟨Cd, Dd, Td, Gd, Hd⟩) (fun hHeld => ?_)
     obtain ⟨Wdm3s, hWdm3s⟩ : ∃ W, Wm3s.drew = W := ⟨_, rfl⟩
     rw [hWdm3s] at hHeld Cd Dd Td Gd Hd bd ⊢
     refine qty (i := 0) (oi := tcx49o26) (v := (.agg c.v)) (yieldsIf_blk_w (by kernel_rfl) _ _ rfl Wk1.heap.size (by rfl) _ (fun _ hSw => hSw.1) Try.underlying28 (by kernel_rfl)) hHeld ?_
     try simp only [qpu]
     refine qtk (i := 1) (oi := tcx49o23) (v := (.pointer (some ⟨Wr.heap.size, 0, none⟩))) hHeld ?_ ?_
     ·intro w9 hSw
      try dsimp only at hSw
      go_simp
     try simp only [qpu]
     refine qtk (i := 2) (oi := tcx49o21) (v := (.int .i64 q.i)) hHeld ?_ ?_
     ·intro w9 hSw
      try dsimp only at hSw
      have hcc := hSw.2.2.1.cell 0 (.int .i64 q.i) rfl
      go_simp
     try simp only [qpu]
     refine qty (i := 3) (oi := tcx49o19) (v := (.agg q.g.v)) (yieldsIf_blk_w (by kernel_rfl) _ _ rfl Wm1.heap.size (by rfl) _ (fun _ hSw => hSw.2.2.2.1) Try.underlying24 (by kernel_rfl)) hHeld ?_
     try simp only [qpu]
     refine wpAnyH_ready (rs := [4, 9]) (by kernel_rfl) (by simp) ?_
     refine AllReadyH.cons (o := tcx49o8) rfl (fun K hK => ?_) (AllReadyH.cons (o := tcx49o14) rfl (fun K hK => ?_) AllReadyH.nil)
     ·go_simp
      refine Calls.mono (KG.out _) ?_
      rintro e Wx101 ⟨rfl, bb⟩
      have Cx101 := Cd.kept bb
      have Dx101 := Dd.kept bb
      have Tx101 := Td.kept bb
      have Gx101 := Gd.kept bb
      have Hx101 := Hd.kept bb
      have bx101 := bel_tr bd bb
      clear bb
      refine hK.out _ _ (by exact ⟨Cx101, Dx101, Tx101, Gx101, Hx101⟩) (fun hHeld => ?_)
      clear hK K
      try simp only [qpu]
      refine wpAnyH_ready (rs := [5, 9]) (by kernel_rfl) (by simp) ?_
      refine AllReadyH.cons (o := tcx49o4) rfl (fun K hK => ?_) (AllReadyH.cons (o := tcx49o14) rfl (fun K hK => ?_) AllReadyH.nil)
      ·go_simp
       refine Calls.mono (KS.out _) ?_
       rintro e Wx102 ⟨rfl, bb⟩
       have Cx102 := Cx101.kept bb
       have Dx102 := Dx101.kept bb
       have Tx102 := Tx101.kept bb
       have Gx102 := Gx101.kept bb
       have Hx102 := Hx101.kept bb
       have bx102 := bel_tr bx101 bb
       clear bb
       refine hK.out _ _ (by exact ⟨Cx102, Dx102, Tx102, Gx102, Hx102⟩) (fun hHeld => ?_)
       clear hK K
       try simp only [qpu]
       refine qtk (i := 6) (oi := tcx49o10) (v := (.tuple #[.agg d.v, .int .i64 e])) hHeld ?_ ?_
       ·intro w9 hSw
        try dsimp only at hSw
        go_simp
       try simp only [qpu]
       refine qtk (i := 7) (oi := tcx49o12) (v := (.agg d.v)) hHeld ?_ ?_
       ·intro w9 hSw
        try dsimp only at hSw
        go_simp
       try simp only [qpu]
       refine qtk (i := 8) (oi := tcx49o6) (v := (.int .i64 e)) hHeld ?_ ?_
       ·intro w9 hSw
        try dsimp only at hSw
        go_simp
       try simp only [qpu]
       refine wpAnyH_ready (rs := [9]) (by kernel_rfl) (by simp) ?_
       refine AllReadyH.cons (o := tcx49o14) rfl (fun K hK => ?_) AllReadyH.nil
       go_simp
       obtain ⟨Wx103, hWx103⟩ : ∃ W, Wx102.alloc (.cells #[.int .i64 0, .int .u32 0, .int .u32 0, .int .u32 0, .int .u32 0, .bool false, .bool false, .bool false, .bool false] 28) = W := ⟨_, rfl⟩
       rw [hWx103]
       have Cx103 := Cx102.al hWx103
       have Dx103 := Dx102.al hWx103
       have Tx103 := Tx102.al hWx103
       have Gx103 := Gx102.al hWx103
       have Hx103 := Hx102.al hWx103
       have Yx103 := blk_nw hWx103
       have bx103 := bel_al bx102 hWx103
       have gY : w.heap.size ≤ Wx102.heap.size := bx102.size
       have nCY : Wk1.heap.size ≠ Wx102.heap.size := by have := Cx102.lt; omega
       have nDY : Wk3.heap.size ≠ Wx102.heap.size := by have := Dx102.lt; omega
       have nTY : Wr.heap.size ≠ Wx102.heap.size := by have := Tx102.lt; omega
       have nGY : Wm1.heap.size ≠ Wx102.heap.size := by have := Gx102.lt; omega
       have nHY : Wm2.heap.size ≠ Wx102.heap.size := by have := Hx102.lt; omega
       refine hK.out _ _ (by exact ⟨Cx103, Dx103, Tx103, Gx103, Hx103⟩) (fun hHeld => ?_)
       clear hK K
       try simp only [qpu]
       refine wpAnyH_ready (rs := [10]) (by kernel_rfl) (by simp) ?_
       refine AllReadyH.cons (o := tcx49o0) rfl (fun K hK => ?_) AllReadyH.nil
       refine step_store_blk rfl _ _ _ rfl Wx102.heap.size d.v _ (by rfl) (by rfl) Yx103 (by kernel_rfl) (by rfl) (by kernel_rfl) ?_
       obtain ⟨Wx104, hWx104⟩ : ∃ W, Wx103.setRow Wx102.heap.size d.v = W := ⟨_, rfl⟩
       rw [hWx104]
       have Cx104 := hWx104 ▸ Cx103.other nCY d.v
       have Dx104 := hWx104 ▸ Dx103.other nDY d.v
       have Tx104 := hWx104 ▸ Tx103.other nTY d.v
       have Gx104 := hWx104 ▸ Gx103.other nGY d.v
       have Hx104 := hWx104 ▸ Hx103.other nHY d.v
       have Yx104 : Blk Wx104 Wx102.heap.size 28 d.v := hWx104 ▸ Yx103.set d.v
       have bx104 := hWx104 ▸ below_setRow bx103 gY d.v
       refine hK.out _ _ (by exact ⟨Cx104, Dx104, Tx104, Gx104, Hx104⟩) (fun hHeld => ?_)
       clear hK K
       try simp only [qpu]
       refine qtk (i := 11) (oi := tcx49o2) (v := (.int .i64 e)) hHeld ?_ ?_
       ·intro w9 hSw
        try dsimp only at hSw
        go_simp
       try simp only [qpu]
       refine wpAnyH_done (by kernel_rfl) ?_ _
       refine NoPanic.normal ?_
       go_wp2_with fail
       go_meet
       exact ⟨_, rfl, rfl, Cx104, Dx104, Tx104, Gx104, Hx104, Yx104, nCY, nDY, nTY, nGY, nHY, bx104⟩
      ·go_simp
       obtain ⟨Wx105, hWx105⟩ : ∃ W, Wx101.alloc (.cells #[.int .i64 0, .int .u32 0, .int .u32 0, .int .u32 0, .int .u32 0, .bool false, .bool false, .bool false, .bool false] 28) = W := ⟨_, rfl⟩
       rw [hWx105]
       have Cx105 := Cx101.al hWx105
       have Dx105 := Dx101.al hWx105
       have Tx105 := Tx101.al hWx105
       have Gx105 := Gx101.al hWx105
       have Hx105 := Hx101.al hWx105
       have Y2_x105 := blk_nw hWx105
       have bx105 := bel_al bx101 hWx105
       have gY2_ : w.heap.size ≤ Wx101.heap.size := bx101.size
       have nCY2_ : Wk1.heap.size ≠ Wx101.heap.size := by have := Cx101.lt; omega
       have nDY2_ : Wk3.heap.size ≠ Wx101.heap.size := by have := Dx101.lt; omega
       have nTY2_ : Wr.heap.size ≠ Wx101.heap.size := by have := Tx101.lt; omega
       have nGY2_ : Wm1.heap.size ≠ Wx101.heap.size := by have := Gx101.lt; omega
       have nHY2_ : Wm2.heap.size ≠ Wx101.heap.size := by have := Hx101.lt; omega
       refine hK.out _ _ (by exact ⟨Cx105, Dx105, Tx105, Gx105, Hx105⟩) (fun hHeld => ?_)
       clear hK K
       try simp only [qpu]
       refine wpAnyH_ready (rs := [5]) (by kernel_rfl) (by simp) ?_
       refine AllReadyH.cons (o := tcx49o4) rfl (fun K hK => ?_) AllReadyH.nil
       go_simp
       refine Calls.mono (KS.out _) ?_
       rintro e Wx106 ⟨rfl, bb⟩
       have Cx106 := Cx105.kept bb
       have Dx106 := Dx105.kept bb
       have Tx106 := Tx105.kept bb
       have Gx106 := Gx105.kept bb
       have Hx106 := Hx105.kept bb
       have Y2_x106 := Y2_x105.kept bb
       have bx106 := bel_tr bx105 bb
       clear bb
       refine hK.out _ _ (by exact ⟨Cx106, Dx106, Tx106, Gx106, Hx106⟩) (fun hHeld => ?_)
       clear hK K
       try simp only [qpu]
       refine qtk (i := 6) (oi := tcx49o10) (v := (.tuple #[.agg d.v, .int .i64 e])) hHeld ?_ ?_
       ·intro w9 hSw
        try dsimp only at hSw
        go_simp
       try simp only [qpu]
       refine qtk (i := 7) (oi := tcx49o12) (v := (.agg d.v)) hHeld ?_ ?_
       ·intro w9 hSw
        try dsimp only at hSw
        go_simp
       try simp only [qpu]
       refine qtk (i := 8) (oi := tcx49o6) (v := (.int .i64 e)) hHeld ?_ ?_
       ·intro w9 hSw
        try dsimp only at hSw
        go_simp
       try simp only [qpu]
       refine wpAnyH_ready (rs := [10]) (by kernel_rfl) (by simp) ?_
       refine AllReadyH.cons (o := tcx49o0) rfl (fun K hK => ?_) AllReadyH.nil
       refine step_store_blk rfl _ _ _ rfl Wx101.heap.size d.v _ (by rfl) (by rfl) Y2_x106 (by kernel_rfl) (by rfl) (by kernel_rfl) ?_
       obtain ⟨Wx107, hWx107⟩ : ∃ W, Wx106.setRow Wx101.heap.size d.v = W := ⟨_, rfl⟩
       rw [hWx107]
       have Cx107 := hWx107 ▸ Cx106.other nCY2_ d.v
       have Dx107 := hWx107 ▸ Dx106.other nDY2_ d.v
       have Tx107 := hWx107 ▸ Tx106.other nTY2_ d.v
       have Gx107 := hWx107 ▸ Gx106.other nGY2_ d.v
       have Hx107 := hWx107 ▸ Hx106.other nHY2_ d.v
       have Y2_x107 : Blk Wx107 Wx101.heap.size 28 d.v := hWx107 ▸ Y2_x106.set d.v
       have bx107 := hWx107 ▸ below_setRow bx106 gY2_ d.v
       refine hK.out _ _ (by exact ⟨Cx107, Dx107, Tx107, Gx107, Hx107⟩) (fun hHeld => ?_)
       clear hK K
       try simp only [qpu]
       refine qtk (i := 11) (oi := tcx49o2) (v := (.int .i64 e)) hHeld ?_ ?_
       ·intro w9 hSw
        try dsimp only at hSw
        go_simp
       try simp only [qpu]
       refine wpAnyH_done (by kernel_rfl) ?_ _
       refine NoPanic.normal ?_
       go_wp2_with fail
       go_meet
       exact ⟨_, rfl, rfl, Cx107, Dx107, Tx107, Gx107, Hx107, Y2_x107, nCY2_, nDY2_, nTY2_, nGY2_, nHY2_, bx107⟩
     ·go_simp
      obtain ⟨Wx108, hWx108⟩ : ∃ W, Wdm3s.alloc (.cells #[.int .i64 0, .int .u32 0, .int .u32 0, .int .u32 0, .int .u32 0, .bool false, .bool false, .bool false, .bool false] 28) = W := ⟨_, rfl⟩
      rw [hWx108]
      have Cx108 := Cd.al hWx108
      have Dx108 := Dd.al hWx108
      have Tx108 := Td.al hWx108
      have Gx108 := Gd.al hWx108
      have Hx108 := Hd.al hWx108
      have Y3_x108 := blk_nw hWx108
      have bx108 := bel_al bd hWx108
      have gY3_ : w.heap.size ≤ Wdm3s.heap.size := bd.size
      have nCY3_ : Wk1.heap.size ≠ Wdm3s.heap.size := by have := Cd.lt; omega
      have nDY3_ : Wk3.heap.size ≠ Wdm3s.heap.size := by have := Dd.lt; omega
      have nTY3_ : Wr.heap.size ≠ Wdm3s.heap.size := by have := Td.lt; omega
      have nGY3_ : Wm1.heap.size ≠ Wdm3s.heap.size := by have := Gd.lt; omega
      have nHY3_ : Wm2.heap.size ≠ Wdm3s.heap.size := by have := Hd.lt; omega
      refine hK.out _ _ (by exact ⟨Cx108, Dx108, Tx108, Gx108, Hx108⟩) (fun hHeld => ?_)
      clear hK K
      try simp only [qpu]
      refine wpAnyH_ready (rs := [4]) (by kernel_rfl) (by simp) ?_
      refine AllReadyH.cons (o := tcx49o8) rfl (fun K hK => ?_) AllReadyH.nil
      go_simp
      refine Calls.mono (KG.out _) ?_
      rintro e Wx109 ⟨rfl, bb⟩
      have Cx109 := Cx108.kept bb
      have Dx109 := Dx108.kept bb
      have Tx109 := Tx108.kept bb
      have Gx109 := Gx108.kept bb
      have Hx109 := Hx108.kept bb
      have Y3_x109 := Y3_x108.kept bb
      have bx109 := bel_tr bx108 bb
      clear bb
      refine hK.out _ _ (by exact ⟨Cx109, Dx109, Tx109, Gx109, Hx109⟩) (fun hHeld => ?_)
      clear hK K
      try simp only [qpu]
      refine wpAnyH_ready (rs := [5]) (by kernel_rfl) (by simp) ?_
      refine AllReadyH.cons (o := tcx49o4) rfl (fun K hK => ?_) AllReadyH.nil
      go_simp
      refine Calls.mono (KS.out _) ?_
      rintro e Wx110 ⟨rfl, bb⟩
      have Cx110 := Cx109.kept bb
      have Dx110 := Dx109.kept bb
      have Tx110 := Tx109.kept bb
      have Gx110 := Gx109.kept bb
      have Hx110 := Hx109.kept bb
      have Y3_x110 := Y3_x109.kept bb
      have bx110 := bel_tr bx109 bb
      clear bb
      refine hK.out _ _ (by exact ⟨Cx110, Dx110, Tx110, Gx110, Hx110⟩) (fun hHeld => ?_)
      clear hK K
      try simp only [qpu]
      refine qtk (i := 6) (oi := tcx49o10) (v := (.tuple #[.agg d.v, .int .i64 e])) hHeld ?_ ?_
      ·intro w9 hSw
       try dsimp only at hSw
       go_simp
      try simp only [qpu]
      refine qtk (i := 7) (oi := tcx49o12) (v := (.agg d.v)) hHeld ?_ ?_
      ·intro w9 hSw
       try dsimp only at hSw
       go_simp
      try simp only [qpu]
      refine qtk (i := 8) (oi := tcx49o6) (v := (.int .i64 e)) hHeld ?_ ?_
      ·intro w9 hSw
       try dsimp only at hSw
       go_simp
      try simp only [qpu]
      refine wpAnyH_ready (rs := [10]) (by kernel_rfl) (by simp) ?_
      refine AllReadyH.cons (o := tcx49o0) rfl (fun K hK => ?_) AllReadyH.nil
      refine step_store_blk rfl _ _ _ rfl Wdm3s.heap.size d.v _ (by rfl) (by rfl) Y3_x110 (by kernel_rfl) (by rfl) (by kernel_rfl) ?_
      obtain ⟨Wx111, hWx111⟩ : ∃ W, Wx110.setRow Wdm3s.heap.size d.v = W := ⟨_, rfl⟩
      rw [hWx111]
      have Cx111 := hWx111 ▸ Cx110.other nCY3_ d.v
      have Dx111 := hWx111 ▸ Dx110.other nDY3_ d.v
      have Tx111 := hWx111 ▸ Tx110.other nTY3_ d.v
      have Gx111 := hWx111 ▸ Gx110.other nGY3_ d.v
      have Hx111 := hWx111 ▸ Hx110.other nHY3_ d.v
      have Y3_x111 : Blk Wx111 Wdm3s.heap.size 28 d.v := hWx111 ▸ Y3_x110.set d.v
      have bx111 := hWx111 ▸ below_setRow bx110 gY3_ d.v
      refine hK.out _ _ (by exact ⟨Cx111, Dx111, Tx111, Gx111, Hx111⟩) (fun hHeld => ?_)
      clear hK K
      try simp only [qpu]
      refine qtk (i := 11) (oi := tcx49o2) (v := (.int .i64 e)) hHeld ?_ ?_
      ·intro w9 hSw
       try dsimp only at hSw
       go_simp
      try simp only [qpu]
      refine wpAnyH_done (by kernel_rfl) ?_ _
      refine NoPanic.normal ?_
      go_wp2_with fail
      go_meet
      exact ⟨_, rfl, rfl, Cx111, Dx111, Tx111, Gx111, Hx111, Y3_x111, nCY3_, nDY3_, nTY3_, nGY3_, nHY3_, bx111⟩

    case rest =>
     obtain ⟨gy, rfl, rfl, Cv1, Dv1, Tv1, Gv1, Hv1, Yv1, nCY, nDY, nTY, nGY, nHY, bv1⟩ := hcut
     obtain ⟨Wv1, rfl⟩ : ∃ W, W = wc := ⟨_, rfl⟩
     go_wp2_with fail
     obtain ⟨X, f, hX⟩ : ∃ X f, (if e = 0 then (d.mv by_, 0) else (cn0, e)) = ((X, f) : Cn × Int) := ⟨_, _, rfl⟩
     have KS2 := KS2.out
     rw [hX] at KS2
     dsimp only at KS2
     have KS2 : Hid _ := KS2
     have HX : Hid ((if e = 0 then (d.mv by_, 0) else (cn0, e)) = ((X, f) : Cn × Int)) := hX
     clear hX
     go_cut [17, 18] (fun y fv w'' => ∃ g, y = .pointer (some ⟨g, 0, none⟩) ∧ fv = .int .i64 f ∧ Blk w'' Wk1.heap.size 28 (c.v) ∧ Blk w'' Wk3.heap.size 28 ((c.mv by_).v) ∧ Blk w'' Wr.heap.size 45 (q.v) ∧ Blk w'' Wm1.heap.size 24 (q.g.v) ∧ Blk w'' Wm2.heap.size 24 ((q.g.mv false by_).v) ∧ Blk w'' gy 28 (d.v) ∧ Blk w'' g 28 X.v ∧ Wk1.heap.size ≠ g ∧ Wk3.heap.size ≠ g ∧ Wr.heap.size ≠ g ∧ Wm1.heap.size ≠ g ∧ Wm2.heap.size ≠ g ∧ gy ≠ g ∧ Below w.heap.size w w'')
     case first =>
      have Cd := Cv1.drew
      have Dd := Dv1.drew
      have Td := Tv1.drew
      have Gd := Gv1.drew
      have Hd := Hv1.drew
      have Yd := Yv1.drew
      have bd := bv1.drew
      refine wp_region_noPanic ?_
      refine wp_region_held_drew (S := fun w' => Blk w' Wk1.heap.size 28 c.v ∧ Blk w' Wk3.heap.size 28 ((c.mv by_).v) ∧ Blk w' Wr.heap.size 45 q.v ∧ Blk w' Wm1.heap.size 24 q.g.v ∧ Blk w' Wm2.heap.size 24 ((q.g.mv false by_).v) ∧ Blk w' gy 28 d.v) (by kernel_rfl) (by exact ⟨Cd, Dd, Td, Gd, Hd, Yd⟩) (fun hHeld => ?_)
      obtain ⟨Wdv1, hWdv1⟩ : ∃ W, Wv1.drew = W := ⟨_, rfl⟩
      rw [hWdv1] at hHeld Cd Dd Td Gd Hd Yd bd ⊢
      refine qty (i := 0) (oi := tcx49o27) (v := (.agg ((c.mv by_).v))) (yieldsIf_blk_w (by kernel_rfl) _ _ rfl Wk3.heap.size (by rfl) _ (fun _ hSw => hSw.2.1) Try.underlying28 (by kernel_rfl)) hHeld ?_
      try simp only [qpu]
      refine qtk (i := 1) (oi := tcx49o24) (v := (.pointer (some ⟨Wr.heap.size, 0, none⟩))) hHeld ?_ ?_
      ·intro w9 hSw
       try dsimp only at hSw
       go_simp
      try simp only [qpu]
      refine qtk (i := 2) (oi := tcx49o22) (v := (.int .i64 q.i)) hHeld ?_ ?_
      ·intro w9 hSw
       try dsimp only at hSw
       have hcc := hSw.2.2.1.cell 0 (.int .i64 q.i) rfl
       go_simp
      try simp only [qpu]
      refine qty (i := 3) (oi := tcx49o20) (v := (.agg ((q.g.mv false by_).v))) (yieldsIf_blk_w (by kernel_rfl) _ _ rfl Wm2.heap.size (by rfl) _ (fun _ hSw => hSw.2.2.2.2.1) Try.underlying24 (by kernel_rfl)) hHeld ?_
      try simp only [qpu]
      refine wpAnyH_ready (rs := [4, 9]) (by kernel_rfl) (by simp) ?_
      refine AllReadyH.cons (o := tcx49o9) rfl (fun K hK => ?_) (AllReadyH.cons (o := tcx49o15) rfl (fun K hK => ?_) AllReadyH.nil)
      ·go_simp
       refine Calls.mono (KG2.out _) ?_
       rintro e Wx201 ⟨rfl, bb⟩
       have Cx201 := Cd.kept bb
       have Dx201 := Dd.kept bb
       have Tx201 := Td.kept bb
       have Gx201 := Gd.kept bb
       have Hx201 := Hd.kept bb
       have Yx201 := Yd.kept bb
       have bx201 := bel_tr bd bb
       clear bb
       refine hK.out _ _ (by exact ⟨Cx201, Dx201, Tx201, Gx201, Hx201, Yx201⟩) (fun hHeld => ?_)
       clear hK K
       try simp only [qpu]
       refine wpAnyH_ready (rs := [5, 9]) (by kernel_rfl) (by simp) ?_
       refine AllReadyH.cons (o := tcx49o5) rfl (fun K hK => ?_) (AllReadyH.cons (o := tcx49o15) rfl (fun K hK => ?_) AllReadyH.nil)
       ·go_simp
        refine Calls.mono (KS2.out _) ?_
        rintro e Wx202 ⟨rfl, bb⟩
        have Cx202 := Cx201.kept bb
        have Dx202 := Dx201.kept bb
        have Tx202 := Tx201.kept bb
        have Gx202 := Gx201.kept bb
        have Hx202 := Hx201.kept bb
        have Yx202 := Yx201.kept bb
        have bx202 := bel_tr bx201 bb
        clear bb
        refine hK.out _ _ (by exact ⟨Cx202, Dx202, Tx202, Gx202, Hx202, Yx202⟩) (fun hHeld => ?_)
        clear hK K
        try simp only [qpu]
        refine qtk (i := 6) (oi := tcx49o11) (v := (.tuple #[.agg X.v, .int .i64 f])) hHeld ?_ ?_
        ·intro w9 hSw
         try dsimp only at hSw
         go_simp
        try simp only [qpu]
        refine qtk (i := 7) (oi := tcx49o13) (v := (.agg X.v)) hHeld ?_ ?_
        ·intro w9 hSw
         try dsimp only at hSw
         go_simp
        try simp only [qpu]
        refine qtk (i := 8) (oi := tcx49o7) (v := (.int .i64 f)) hHeld ?_ ?_
        ·intro w9 hSw
         try dsimp only at hSw
         go_simp
        try simp only [qpu]
        refine wpAnyH_ready (rs := [9]) (by kernel_rfl) (by simp) ?_
        refine AllReadyH.cons (o := tcx49o15) rfl (fun K hK => ?_) AllReadyH.nil
        go_simp
        obtain ⟨Wx203, hWx203⟩ : ∃ W, Wx202.alloc (.cells #[.int .i64 0, .int .u32 0, .int .u32 0, .int .u32 0, .int .u32 0, .bool false, .bool false, .bool false, .bool false] 28) = W := ⟨_, rfl⟩
        rw [hWx203]
        have Cx203 := Cx202.al hWx203
        have Dx203 := Dx202.al hWx203
        have Tx203 := Tx202.al hWx203
        have Gx203 := Gx202.al hWx203
        have Hx203 := Hx202.al hWx203
        have Yx203 := Yx202.al hWx203
        have Y1_x203 := blk_nw hWx203
        have bx203 := bel_al bx202 hWx203
        have gY1_ : w.heap.size ≤ Wx202.heap.size := bx202.size
        have nCY1_ : Wk1.heap.size ≠ Wx202.heap.size := by have := Cx202.lt; omega
        have nDY1_ : Wk3.heap.size ≠ Wx202.heap.size := by have := Dx202.lt; omega
        have nTY1_ : Wr.heap.size ≠ Wx202.heap.size := by have := Tx202.lt; omega
        have nGY1_ : Wm1.heap.size ≠ Wx202.heap.size := by have := Gx202.lt; omega
        have nHY1_ : Wm2.heap.size ≠ Wx202.heap.size := by have := Hx202.lt; omega
        have nYY1_ : gy ≠ Wx202.heap.size := by have := Yx202.lt; omega
        refine hK.out _ _ (by exact ⟨Cx203, Dx203, Tx203, Gx203, Hx203, Yx203⟩) (fun hHeld => ?_)
        clear hK K
        try simp only [qpu]
        refine wpAnyH_ready (rs := [10]) (by kernel_rfl) (by simp) ?_
        refine AllReadyH.cons (o := tcx49o1) rfl (fun K hK => ?_) AllReadyH.nil
        refine step_store_blk rfl _ _ _ rfl Wx202.heap.size X.v _ (by rfl) (by rfl) Y1_x203 (by kernel_rfl) (by rfl) (by kernel_rfl) ?_
        obtain ⟨Wx204, hWx204⟩ : ∃ W, Wx203.setRow Wx202.heap.size X.v = W := ⟨_, rfl⟩
        rw [hWx204]
        have Cx204 := hWx204 ▸ Cx203.other nCY1_ X.v
        have Dx204 := hWx204 ▸ Dx203.other nDY1_ X.v
        have Tx204 := hWx204 ▸ Tx203.other nTY1_ X.v
        have Gx204 := hWx204 ▸ Gx203.other nGY1_ X.v
        have Hx204 := hWx204 ▸ Hx203.other nHY1_ X.v
        have Yx204 := hWx204 ▸ Yx203.other nYY1_ X.v
        have Y1_x204 : Blk Wx204 Wx202.heap.size 28 X.v := hWx204 ▸ Y1_x203.set X.v
        have bx204 := hWx204 ▸ below_setRow bx203 gY1_ X.v
        refine hK.out _ _ (by exact ⟨Cx204, Dx204, Tx204, Gx204, Hx204, Yx204⟩) (fun hHeld => ?_)
        clear hK K
        try simp only [qpu]
        refine qtk (i := 11) (oi := tcx49o3) (v := (.int .i64 f)) hHeld ?_ ?_
        ·intro w9 hSw
         try dsimp only at hSw
         go_simp
        try simp only [qpu]
        refine wpAnyH_done (by kernel_rfl) ?_ _
        refine NoPanic.normal ?_
        go_wp2_with fail
        go_meet
        exact ⟨_, rfl, rfl, Cx204, Dx204, Tx204, Gx204, Hx204, Yx204, Y1_x204, nCY1_, nDY1_, nTY1_, nGY1_, nHY1_, nYY1_, bx204⟩
       ·go_simp
        obtain ⟨Wx205, hWx205⟩ : ∃ W, Wx201.alloc (.cells #[.int .i64 0, .int .u32 0, .int .u32 0, .int .u32 0, .int .u32 0, .bool false, .bool false, .bool false, .bool false] 28) = W := ⟨_, rfl⟩
        rw [hWx205]
        have Cx205 := Cx201.al hWx205
        have Dx205 := Dx201.al hWx205
        have Tx205 := Tx201.al hWx205
        have Gx205 := Gx201.al hWx205
        have Hx205 := Hx201.al hWx205
        have Yx205 := Yx201.al hWx205
        have Y2_x205 := blk_nw hWx205
        have bx205 := bel_al bx201 hWx205
        have gY2_ : w.heap.size ≤ Wx201.heap.size := bx201.size
        have nCY2_ : Wk1.heap.size ≠ Wx201.heap.size := by have := Cx201.lt; omega
        have nDY2_ : Wk3.heap.size ≠ Wx201.heap.size := by have := Dx201.lt; omega
        have nTY2_ : Wr.heap.size ≠ Wx201.heap.size := by have := Tx201.lt; omega
        have nGY2_ : Wm1.heap.size ≠ Wx201.heap.size := by have := Gx201.lt; omega
        have nHY2_ : Wm2.heap.size ≠ Wx201.heap.size := by have := Hx201.lt; omega
        have nYY2_ : gy ≠ Wx201.heap.size := by have := Yx201.lt; omega
        refine hK.out _ _ (by exact ⟨Cx205, Dx205, Tx205, Gx205, Hx205, Yx205⟩) (fun hHeld => ?_)
        clear hK K
        try simp only [qpu]
        refine wpAnyH_ready (rs := [5]) (by kernel_rfl) (by simp) ?_
        refine AllReadyH.cons (o := tcx49o5) rfl (fun K hK => ?_) AllReadyH.nil
        go_simp
        refine Calls.mono (KS2.out _) ?_
        rintro e Wx206 ⟨rfl, bb⟩
        have Cx206 := Cx205.kept bb
        have Dx206 := Dx205.kept bb
        have Tx206 := Tx205.kept bb
        have Gx206 := Gx205.kept bb
        have Hx206 := Hx205.kept bb
        have Yx206 := Yx205.kept bb
        have Y2_x206 := Y2_x205.kept bb
        have bx206 := bel_tr bx205 bb
        clear bb
        refine hK.out _ _ (by exact ⟨Cx206, Dx206, Tx206, Gx206, Hx206, Yx206⟩) (fun hHeld => ?_)
        clear hK K
        try simp only [qpu]
        refine qtk (i := 6) (oi := tcx49o11) (v := (.tuple #[.agg X.v, .int .i64 f])) hHeld ?_ ?_
        ·intro w9 hSw
         try dsimp only at hSw
         go_simp
        try simp only [qpu]
        refine qtk (i := 7) (oi := tcx49o13) (v := (.agg X.v)) hHeld ?_ ?_
        ·intro w9 hSw
         try dsimp only at hSw
         go_simp
        try simp only [qpu]
        refine qtk (i := 8) (oi := tcx49o7) (v := (.int .i64 f)) hHeld ?_ ?_
        ·intro w9 hSw
         try dsimp only at hSw
         go_simp
        try simp only [qpu]
        refine wpAnyH_ready (rs := [10]) (by kernel_rfl) (by simp) ?_
        refine AllReadyH.cons (o := tcx49o1) rfl (fun K hK => ?_) AllReadyH.nil
        refine step_store_blk rfl _ _ _ rfl Wx201.heap.size X.v _ (by rfl) (by rfl) Y2_x206 (by kernel_rfl) (by rfl) (by kernel_rfl) ?_
        obtain ⟨Wx207, hWx207⟩ : ∃ W, Wx206.setRow Wx201.heap.size X.v = W := ⟨_, rfl⟩
        rw [hWx207]
        have Cx207 := hWx207 ▸ Cx206.other nCY2_ X.v
        have Dx207 := hWx207 ▸ Dx206.other nDY2_ X.v
        have Tx207 := hWx207 ▸ Tx206.other nTY2_ X.v
        have Gx207 := hWx207 ▸ Gx206.other nGY2_ X.v
        have Hx207 := hWx207 ▸ Hx206.other nHY2_ X.v
        have Yx207 := hWx207 ▸ Yx206.other nYY2_ X.v
        have Y2_x207 : Blk Wx207 Wx201.heap.size 28 X.v := hWx207 ▸ Y2_x206.set X.v
        have bx207 := hWx207 ▸ below_setRow bx206 gY2_ X.v
        refine hK.out _ _ (by exact ⟨Cx207, Dx207, Tx207, Gx207, Hx207, Yx207⟩) (fun hHeld => ?_)
        clear hK K
        try simp only [qpu]
        refine qtk (i := 11) (oi := tcx49o3) (v := (.int .i64 f)) hHeld ?_ ?_
        ·intro w9 hSw
         try dsimp only at hSw
         go_simp
        try simp only [qpu]
        refine wpAnyH_done (by kernel_rfl) ?_ _
        refine NoPanic.normal ?_
        go_wp2_with fail
        go_meet
        exact ⟨_, rfl, rfl, Cx207, Dx207, Tx207, Gx207, Hx207, Yx207, Y2_x207, nCY2_, nDY2_, nTY2_, nGY2_, nHY2_, nYY2_, bx207⟩
      ·go_simp
       obtain ⟨Wx208, hWx208⟩ : ∃ W, Wdv1.alloc (.cells #[.int .i64 0, .int .u32 0, .int .u32 0, .int .u32 0, .int .u32 0, .bool false, .bool false, .bool false, .bool false] 28) = W := ⟨_, rfl⟩
       rw [hWx208]
       have Cx208 := Cd.al hWx208
       have Dx208 := Dd.al hWx208
       have Tx208 := Td.al hWx208
       have Gx208 := Gd.al hWx208
       have Hx208 := Hd.al hWx208
       have Yx208 := Yd.al hWx208
       have Y3_x208 := blk_nw hWx208
       have bx208 := bel_al bd hWx208
       have gY3_ : w.heap.size ≤ Wdv1.heap.size := bd.size
       have nCY3_ : Wk1.heap.size ≠ Wdv1.heap.size := by have := Cd.lt; omega
       have nDY3_ : Wk3.heap.size ≠ Wdv1.heap.size := by have := Dd.lt; omega
       have nTY3_ : Wr.heap.size ≠ Wdv1.heap.size := by have := Td.lt; omega
       have nGY3_ : Wm1.heap.size ≠ Wdv1.heap.size := by have := Gd.lt; omega
       have nHY3_ : Wm2.heap.size ≠ Wdv1.heap.size := by have := Hd.lt; omega
       have nYY3_ : gy ≠ Wdv1.heap.size := by have := Yd.lt; omega
       refine hK.out _ _ (by exact ⟨Cx208, Dx208, Tx208, Gx208, Hx208, Yx208⟩) (fun hHeld => ?_)
       clear hK K
       try simp only [qpu]
       refine wpAnyH_ready (rs := [4]) (by kernel_rfl) (by simp) ?_
       refine AllReadyH.cons (o := tcx49o9) rfl (fun K hK => ?_) AllReadyH.nil
       go_simp
       refine Calls.mono (KG2.out _) ?_
       rintro e Wx209 ⟨rfl, bb⟩
       have Cx209 := Cx208.kept bb
       have Dx209 := Dx208.kept bb
       have Tx209 := Tx208.kept bb
       have Gx209 := Gx208.kept bb
       have Hx209 := Hx208.kept bb
       have Yx209 := Yx208.kept bb
       have Y3_x209 := Y3_x208.kept bb
       have bx209 := bel_tr bx208 bb
       clear bb
       refine hK.out _ _ (by exact ⟨Cx209, Dx209, Tx209, Gx209, Hx209, Yx209⟩) (fun hHeld => ?_)
       clear hK K
       try simp only [qpu]
       refine wpAnyH_ready (rs := [5]) (by kernel_rfl) (by simp) ?_
       refine AllReadyH.cons (o := tcx49o5) rfl (fun K hK => ?_) AllReadyH.nil
       go_simp
       refine Calls.mono (KS2.out _) ?_
       rintro e Wx210 ⟨rfl, bb⟩
       have Cx210 := Cx209.kept bb
       have Dx210 := Dx209.kept bb
       have Tx210 := Tx209.kept bb
       have Gx210 := Gx209.kept bb
       have Hx210 := Hx209.kept bb
       have Yx210 := Yx209.kept bb
       have Y3_x210 := Y3_x209.kept bb
       have bx210 := bel_tr bx209 bb
       clear bb
       refine hK.out _ _ (by exact ⟨Cx210, Dx210, Tx210, Gx210, Hx210, Yx210⟩) (fun hHeld => ?_)
       clear hK K
       try simp only [qpu]
       refine qtk (i := 6) (oi := tcx49o11) (v := (.tuple #[.agg X.v, .int .i64 f])) hHeld ?_ ?_
       ·intro w9 hSw
        try dsimp only at hSw
        go_simp
       try simp only [qpu]
       refine qtk (i := 7) (oi := tcx49o13) (v := (.agg X.v)) hHeld ?_ ?_
       ·intro w9 hSw
        try dsimp only at hSw
        go_simp
       try simp only [qpu]
       refine qtk (i := 8) (oi := tcx49o7) (v := (.int .i64 f)) hHeld ?_ ?_
       ·intro w9 hSw
        try dsimp only at hSw
        go_simp
       try simp only [qpu]
       refine wpAnyH_ready (rs := [10]) (by kernel_rfl) (by simp) ?_
       refine AllReadyH.cons (o := tcx49o1) rfl (fun K hK => ?_) AllReadyH.nil
       refine step_store_blk rfl _ _ _ rfl Wdv1.heap.size X.v _ (by rfl) (by rfl) Y3_x210 (by kernel_rfl) (by rfl) (by kernel_rfl) ?_
       obtain ⟨Wx211, hWx211⟩ : ∃ W, Wx210.setRow Wdv1.heap.size X.v = W := ⟨_, rfl⟩
       rw [hWx211]
       have Cx211 := hWx211 ▸ Cx210.other nCY3_ X.v
       have Dx211 := hWx211 ▸ Dx210.other nDY3_ X.v
       have Tx211 := hWx211 ▸ Tx210.other nTY3_ X.v
       have Gx211 := hWx211 ▸ Gx210.other nGY3_ X.v
       have Hx211 := hWx211 ▸ Hx210.other nHY3_ X.v
       have Yx211 := hWx211 ▸ Yx210.other nYY3_ X.v
       have Y3_x211 : Blk Wx211 Wdv1.heap.size 28 X.v := hWx211 ▸ Y3_x210.set X.v
       have bx211 := hWx211 ▸ below_setRow bx210 gY3_ X.v
       refine hK.out _ _ (by exact ⟨Cx211, Dx211, Tx211, Gx211, Hx211, Yx211⟩) (fun hHeld => ?_)
       clear hK K
       try simp only [qpu]
       refine qtk (i := 11) (oi := tcx49o3) (v := (.int .i64 f)) hHeld ?_ ?_
       ·intro w9 hSw
        try dsimp only at hSw
        go_simp
       try simp only [qpu]
       refine wpAnyH_done (by kernel_rfl) ?_ _
       refine NoPanic.normal ?_
       go_wp2_with fail
       go_meet
       exact ⟨_, rfl, rfl, Cx211, Dx211, Tx211, Gx211, Hx211, Yx211, Y3_x211, nCY3_, nDY3_, nTY3_, nGY3_, nHY3_, nYY3_, bx211⟩

     case rest =>
      obtain ⟨gz, rfl, rfl, Cv2, Dv2, Tv2, Gv2, Hv2, Yv2, Zv2, nCZ, nDZ, nTZ, nGZ, nHZ, nYZ, bv2⟩ := hcut
      obtain ⟨Wv2, rfl⟩ : ∃ W, W = wc := ⟨_, rfl⟩
      by_cases he : e = 0
      ·subst he
       obtain ⟨rfl, rfl⟩ : d.mv by_ = X ∧ (0 : Int) = f := by have h := HX.out; simpa using h
       have HI2 : Hid d.in32 := HIN.out rfl
       clear HX HIN
       go_upto_region 18 with (fail)
       have nYC : gy ≠ Wk1.heap.size := fun e => nCY e.symm
       have nZC : gz ≠ Wk1.heap.size := fun e => nCZ e.symm
       have nDC : Wk3.heap.size ≠ Wk1.heap.size := fun e => nCD e.symm
       have nYD : gy ≠ Wk3.heap.size := fun e => nDY e.symm
       have nZD : gz ≠ Wk3.heap.size := fun e => nDZ e.symm
       have Yd := Yv2.drew
       have Zd := Zv2.drew
       have Cd := Cv2.drew
       have Dd := Dv2.drew
       have bd := bv2.drew
       refine wp_region_noPanic ?_
       refine wp_region_held_drew (S := fun w' => Blk w' gy 28 d.v ∧ Blk w' gz 28 ((d.mv by_).v)) (by kernel_rfl) (by exact ⟨Yd, Zd⟩) (fun hHeld => ?_)
       obtain ⟨Wdv2, hWdv2⟩ : ∃ W, Wv2.drew = W := ⟨_, rfl⟩
       rw [hWdv2] at hHeld Yd Zd Cd Dd bd ⊢
       refine qty (i := 0) (oi := tcx49o25) (v := (.agg d.v)) (yieldsIf_blk_w (by kernel_rfl) _ _ rfl gy (by rfl) _ (fun _ hSw => hSw.1) Try.underlying28 (by kernel_rfl)) hHeld ?_
       try simp only [qpu]
       refine qty (i := 1) (oi := tcx49o18) (v := (.agg ((d.mv by_).v))) (yieldsIf_blk_w (by kernel_rfl) _ _ rfl gz (by rfl) _ (fun _ hSw => hSw.2) Try.underlying28 (by kernel_rfl)) hHeld ?_
       try simp only [qpu]
       refine wpAnyH_ready (rs := [2]) (by kernel_rfl) (by simp) ?_
       refine AllReadyH.cons (o := tcx49o17) rfl (fun K hK => ?_) AllReadyH.nil
       refine step_store_blk rfl _ _ _ rfl Wk1.heap.size d.v _ (by rfl) (by rfl) Cd (by kernel_rfl) (by rfl) (by kernel_rfl) ?_
       obtain ⟨Wx301, hWx301⟩ : ∃ W, Wdv2.setRow Wk1.heap.size d.v = W := ⟨_, rfl⟩
       rw [hWx301]
       have Yx301 := hWx301 ▸ Yd.other nYC d.v
       have Zx301 := hWx301 ▸ Zd.other nZC d.v
       have Dx301 := hWx301 ▸ Dd.other nDC d.v
       have Cx301 : Blk Wx301 Wk1.heap.size 28 d.v := hWx301 ▸ Cd.set d.v
       have bx301 := hWx301 ▸ below_setRow bd gC d.v
       refine hK.out _ _ (by exact ⟨Yx301, Zx301⟩) (fun hHeld => ?_)
       clear hK K
       try simp only [qpu]
       refine wpAnyH_ready (rs := [3]) (by kernel_rfl) (by simp) ?_
       refine AllReadyH.cons (o := tcx49o16) rfl (fun K hK => ?_) AllReadyH.nil
       refine step_store_blk rfl _ _ _ rfl Wk3.heap.size ((d.mv by_).v) _ (by rfl) (by rfl) Dx301 (by kernel_rfl) (by rfl) (by kernel_rfl) ?_
       obtain ⟨Wx302, hWx302⟩ : ∃ W, Wx301.setRow Wk3.heap.size ((d.mv by_).v) = W := ⟨_, rfl⟩
       rw [hWx302]
       have Yx302 := hWx302 ▸ Yx301.other nYD ((d.mv by_).v)
       have Zx302 := hWx302 ▸ Zx301.other nZD ((d.mv by_).v)
       have Cx302 := hWx302 ▸ Cx301.other nCD ((d.mv by_).v)
       have Dx302 : Blk Wx302 Wk3.heap.size 28 ((d.mv by_).v) := hWx302 ▸ Dx301.set ((d.mv by_).v)
       have bx302 := hWx302 ▸ below_setRow bx301 gD ((d.mv by_).v)
       refine hK.out _ _ (by exact ⟨Yx302, Zx302⟩) (fun hHeld => ?_)
       clear hK K
       try simp only [qpu]
       refine wpAnyH_done (by kernel_rfl) ?_ _
       refine NoPanic.normal ?_
       have p0 := Cx302.cell 0 (.int .i64 d.st) rfl
       have r0 := Dx302.cell 0 (.int .i64 d.st) rfl
       have p1 := Cx302.cell 1 (.int .u32 d.n0) rfl
       have r1 := Dx302.cell 1 (.int .u32 ((d.n0 + by_) % 4294967296)) rfl
       have p2 := Cx302.cell 2 (.int .u32 d.n1) rfl
       have r2 := Dx302.cell 2 (.int .u32 d.n1) rfl
       have p3 := Cx302.cell 3 (.int .u32 d.e0) rfl
       have r3 := Dx302.cell 3 (.int .u32 ((d.e0 + by_) % 4294967296)) rfl
       have p4 := Cx302.cell 4 (.int .u32 d.e1) rfl
       have r4 := Dx302.cell 4 (.int .u32 d.e1) rfl
       have hne : ∀ W, (Op.equalIn 10000 26 (.agg #[.bool d.d0, .bool d.d1]) (.agg #[.bool d.d0, .bool d.d1])).run Try.prog W = .ok true W := fun W => by rw [eqL_tc 9998]; simp
       go_wp2_with (first | (refine wpList_load_suba_w (by rfl) _ _ rfl Wk1.heap.size 7 _ (by rfl) _ #[.bool d.d0, .bool d.d1] Cx302 (by rfl) Try.underlying26 (by kernel_rfl) ?_) | (refine wpList_load_suba_w (by rfl) _ _ rfl Wk3.heap.size 7 _ (by rfl) _ #[.bool d.d0, .bool d.d1] Dx302 (by rfl) Try.underlying26 (by kernel_rfl) ?_))
       exact ⟨⟨j + 1, d, by omega, by go_num, HI2, Cx302, Dx302, bx302⟩, by simp [intOf]; omega⟩
      ·obtain ⟨rfl, rfl⟩ : cn0 = X ∧ e = f := by have h := HX.out; rw [if_neg he] at h; simpa using h
       clear HX HIN
       have he1 : (e == 0) = false := by simpa using he
       have he2 : (e != e) = false := by simp
       clear he
       have p0 := Cv2.cell 0 (.int .i64 c.st) rfl
       have r0 := Dv2.cell 0 (.int .i64 c.st) rfl
       have p1 := Cv2.cell 1 (.int .u32 c.n0) rfl
       have r1 := Dv2.cell 1 (.int .u32 ((c.n0 + by_) % 4294967296)) rfl
       have p2 := Cv2.cell 2 (.int .u32 c.n1) rfl
       have r2 := Dv2.cell 2 (.int .u32 c.n1) rfl
       have p3 := Cv2.cell 3 (.int .u32 c.e0) rfl
       have r3 := Dv2.cell 3 (.int .u32 ((c.e0 + by_) % 4294967296)) rfl
       have p4 := Cv2.cell 4 (.int .u32 c.e1) rfl
       have r4 := Dv2.cell 4 (.int .u32 c.e1) rfl
       have hne : ∀ W, (Op.equalIn 10000 26 (.agg #[.bool c.d0, .bool c.d1]) (.agg #[.bool c.d0, .bool c.d1])).run Try.prog W = .ok true W := fun W => by rw [eqL_tc 9998]; simp
       go_wp2_with (first | (refine wpList_load_suba_w (by rfl) _ _ rfl Wk1.heap.size 7 _ (by rfl) _ #[.bool c.d0, .bool c.d1] Cv2 (by rfl) Try.underlying26 (by kernel_rfl) ?_) | (refine wpList_load_suba_w (by rfl) _ _ rfl Wk3.heap.size 7 _ (by rfl) _ #[.bool c.d0, .bool c.d1] Dv2 (by rfl) Try.underlying26 (by kernel_rfl) ?_))
       exact ⟨⟨j + 1, c, by omega, by go_num, hI, Cv2, Dv2, bv2⟩, by simp [intOf]; omega⟩

   | false =>
    have eS : (q.i == 0) = false := hS
    rw [eS] at KS2
    have KS : Hid _ := KS
    have KS2 : Hid (∀ W, Calls Try.prog 17 #[.agg (c.mv by_).v, .int .i64 q.i, .agg (q.g.mv true by_).v] W _) := KS2
    have KG2 : Hid _ := KSG.out (q.g.mv true by_)
    clear hS
    obtain ⟨Wym1, hWym1⟩ : ∃ W, Wr.alloc (.cells #[.int .i64 0, .int .i64 0, .int .i64 0, .int .i64 0, .int .u32 0, .int .u32 0] 45) = W := ⟨_, rfl⟩
    have Bbym1 := blk_nw hWym1
    have Cym1 := Cr.al hWym1
    have Dym1 := Dr.al hWym1
    have bym1 := bel_al br hWym1
    have gT : w.heap.size ≤ Wr.heap.size := br.size
    have nCT : Wk1.heap.size ≠ Wr.heap.size := by have := Cr.lt; omega
    have nTC : Wr.heap.size ≠ Wk1.heap.size := fun e => nCT e.symm
    have nDT : Wk3.heap.size ≠ Wr.heap.size := by have := Dr.lt; omega
    have nTD : Wr.heap.size ≠ Wk3.heap.size := fun e => nDT e.symm
    obtain ⟨Wm1, hWm1⟩ : ∃ W, Wym1.setRow Wr.heap.size q.v = W := ⟨_, rfl⟩
    have Tm1 : Blk Wm1 Wr.heap.size 45 q.v := hWm1 ▸ Bbym1.set _
    have Cm1 := hWm1 ▸ Cym1.other nCT q.v
    have Dm1 := hWm1 ▸ Dym1.other nDT q.v
    have bm1 := hWm1 ▸ below_setRow bym1 gT q.v
    clear Cym1 Dym1 bym1
    clear Cr Dr br
    go_upto_region 8 with (first | (refine wpList_store_row rfl _ _ _ rfl Wr.heap.size q.v (by rfl) (by rfl) _ _ Bbym1 (by kernel_rfl) (by rfl) (by kernel_rfl) ?_; rw [hWm1]) | (refine wpList_load_at_w (by rfl) _ _ rfl p (off + j * 6) (by rfl) _ hcx Try.underlying45 (info_tlk q) ?_))
    clear hcx
    have TT := Tm1
    obtain ⟨Wym2, hWym2⟩ : ∃ W, Wm1.alloc (.cells #[.int .i64 0, .int .i64 0, .int .i64 0, .int .u32 0, .int .u32 0] 24) = W := ⟨_, rfl⟩
    have Bbym2 := blk_nw hWym2
    have Cym2 := Cm1.al hWym2
    have Dym2 := Dm1.al hWym2
    have Tym2 := Tm1.al hWym2
    have bym2 := bel_al bm1 hWym2
    have gG : w.heap.size ≤ Wm1.heap.size := bm1.size
    have nCG : Wk1.heap.size ≠ Wm1.heap.size := by have := Cm1.lt; omega
    have nGC : Wm1.heap.size ≠ Wk1.heap.size := fun e => nCG e.symm
    have nDG : Wk3.heap.size ≠ Wm1.heap.size := by have := Dm1.lt; omega
    have nGD : Wm1.heap.size ≠ Wk3.heap.size := fun e => nDG e.symm
    have nTG : Wr.heap.size ≠ Wm1.heap.size := by have := Tm1.lt; omega
    have nGT : Wm1.heap.size ≠ Wr.heap.size := fun e => nTG e.symm
    obtain ⟨Wm2, hWm2⟩ : ∃ W, Wym2.setRow Wm1.heap.size q.g.v = W := ⟨_, rfl⟩
    have Gm2 : Blk Wm2 Wm1.heap.size 24 q.g.v := hWm2 ▸ Bbym2.set _
    have Cm2 := hWm2 ▸ Cym2.other nCG q.g.v
    have Dm2 := hWm2 ▸ Dym2.other nDG q.g.v
    have Tm2 := hWm2 ▸ Tym2.other nTG q.g.v
    have bm2 := hWm2 ▸ below_setRow bym2 gG q.g.v
    clear Cym2 Dym2 Tym2 bym2
    clear Cm1 Dm1 Tm1 bm1
    go_upto_region 9 with (first | (refine wpList_store_row rfl _ _ _ rfl Wm1.heap.size q.g.v (by rfl) (by rfl) _ _ Bbym2 (by kernel_rfl) (by rfl) (by kernel_rfl) ?_; rw [hWm2]) | (refine wpList_load_sub_w (by rfl) _ _ rfl Wr.heap.size 1 _ (by rfl) _ q.g.v TT (by rfl) Try.underlying24 (by kernel_rfl) ?_))
    clear TT
    have GG := Gm2
    obtain ⟨Wym3, hWym3⟩ : ∃ W, Wm2.alloc (.cells #[.int .i64 0, .int .i64 0, .int .i64 0, .int .u32 0, .int .u32 0] 24) = W := ⟨_, rfl⟩
    have Bbym3 := blk_nw hWym3
    have Cym3 := Cm2.al hWym3
    have Dym3 := Dm2.al hWym3
    have Tym3 := Tm2.al hWym3
    have Gym3 := Gm2.al hWym3
    have bym3 := bel_al bm2 hWym3
    have gH : w.heap.size ≤ Wm2.heap.size := bm2.size
    have nCH : Wk1.heap.size ≠ Wm2.heap.size := by have := Cm2.lt; omega
    have nHC : Wm2.heap.size ≠ Wk1.heap.size := fun e => nCH e.symm
    have nDH : Wk3.heap.size ≠ Wm2.heap.size := by have := Dm2.lt; omega
    have nHD : Wm2.heap.size ≠ Wk3.heap.size := fun e => nDH e.symm
    have nTH : Wr.heap.size ≠ Wm2.heap.size := by have := Tm2.lt; omega
    have nHT : Wm2.heap.size ≠ Wr.heap.size := fun e => nTH e.symm
    have nGH : Wm1.heap.size ≠ Wm2.heap.size := by have := Gm2.lt; omega
    have nHG : Wm2.heap.size ≠ Wm1.heap.size := fun e => nGH e.symm
    obtain ⟨Wm3, hWm3⟩ : ∃ W, Wym3.setRow Wm2.heap.size q.g.v = W := ⟨_, rfl⟩
    have Hm3 : Blk Wm3 Wm2.heap.size 24 q.g.v := hWm3 ▸ Bbym3.set _
    have Cm3 := hWm3 ▸ Cym3.other nCH q.g.v
    have Dm3 := hWm3 ▸ Dym3.other nDH q.g.v
    have Tm3 := hWm3 ▸ Tym3.other nTH q.g.v
    have Gm3 := hWm3 ▸ Gym3.other nGH q.g.v
    have bm3 := hWm3 ▸ below_setRow bym3 gH q.g.v
    clear Cym3 Dym3 Tym3 Gym3 bym3
    clear Cm2 Dm2 Tm2 Gm2 bm2
    go_upto_region 10 with (first | (refine wpList_store_row rfl _ _ _ rfl Wm2.heap.size q.g.v (by rfl) (by rfl) _ _ Bbym3 (by kernel_rfl) (by rfl) (by kernel_rfl) ?_; rw [hWm3]) | (refine wpList_load_blk_w (by rfl) _ _ rfl Wm1.heap.size (by rfl) _ GG Try.underlying24 (by kernel_rfl) ?_))
    clear GG
    have t0 := Tm3.cell 0 (.int .i64 q.i) rfl
    have s3 := Hm3.cell 3 (.int .u32 q.g.sq) rfl
    have s4 := Hm3.cell 4 (.int .u32 q.g.ak) rfl
    have f4 := Hm3.frozen 4
    obtain ⟨Wm3s, hWm3s⟩ : ∃ W, Wm3.setCell ⟨Wm2.heap.size, 4, none⟩ (.int .u32 ((q.g.ak + by_) % 4294967296)) = W := ⟨_, rfl⟩
    have Hm3s : Blk Wm3s Wm2.heap.size 24 (q.g.mv true by_).v := hWm3s ▸ Hm3.put 4 (.int .u32 ((q.g.ak + by_) % 4294967296))
    have Cm3s := hWm3s ▸ Cm3.put_other Hm3 nCH 4 (.int .u32 ((q.g.ak + by_) % 4294967296))
    have Dm3s := hWm3s ▸ Dm3.put_other Hm3 nDH 4 (.int .u32 ((q.g.ak + by_) % 4294967296))
    have Tm3s := hWm3s ▸ Tm3.put_other Hm3 nTH 4 (.int .u32 ((q.g.ak + by_) % 4294967296))
    have Gm3s := hWm3s ▸ Gm3.put_other Hm3 nGH 4 (.int .u32 ((q.g.ak + by_) % 4294967296))
    have bm3s := hWm3s ▸ bm3.setCell (p := ⟨Wm2.heap.size, 4, none⟩) gH (.int .u32 ((q.g.ak + by_) % 4294967296))
    clear Cm3 Dm3 Tm3 Gm3 Hm3 bm3
    go_wp2_with fail
    go_cut [15, 16] (fun y fv w'' => ∃ g, y = .pointer (some ⟨g, 0, none⟩) ∧ fv = .int .i64 e ∧ Blk w'' Wk1.heap.size 28 (c.v) ∧ Blk w'' Wk3.heap.size 28 ((c.mv by_).v) ∧ Blk w'' Wr.heap.size 45 (q.v) ∧ Blk w'' Wm1.heap.size 24 (q.g.v) ∧ Blk w'' Wm2.heap.size 24 ((q.g.mv true by_).v) ∧ Blk w'' g 28 d.v ∧ Wk1.heap.size ≠ g ∧ Wk3.heap.size ≠ g ∧ Wr.heap.size ≠ g ∧ Wm1.heap.size ≠ g ∧ Wm2.heap.size ≠ g ∧ Below w.heap.size w w'')
    case first =>
     have Cd := Cm3s.drew
     have Dd := Dm3s.drew
     have Td := Tm3s.drew
     have Gd := Gm3s.drew
     have Hd := Hm3s.drew
     have bd := bm3s.drew
     refine wp_region_noPanic ?_
     refine wp_region_held_drew (S := fun w' => Blk w' Wk1.heap.size 28 c.v ∧ Blk w' Wk3.heap.size 28 ((c.mv by_).v) ∧ Blk w' Wr.heap.size 45 q.v ∧ Blk w' Wm1.heap.size 24 q.g.v ∧ Blk w' Wm2.heap.size 24 ((q.g.mv true by_).v)) (by kernel_rfl) (by exact ⟨Cd, Dd, Td, Gd, Hd⟩) (fun hHeld => ?_)
     obtain ⟨Wdm3s, hWdm3s⟩ : ∃ W, Wm3s.drew = W := ⟨_, rfl⟩
     rw [hWdm3s] at hHeld Cd Dd Td Gd Hd bd ⊢
     refine qty (i := 0) (oi := tcx49o26) (v := (.agg c.v)) (yieldsIf_blk_w (by kernel_rfl) _ _ rfl Wk1.heap.size (by rfl) _ (fun _ hSw => hSw.1) Try.underlying28 (by kernel_rfl)) hHeld ?_
     try simp only [qpu]
     refine qtk (i := 1) (oi := tcx49o23) (v := (.pointer (some ⟨Wr.heap.size, 0, none⟩))) hHeld ?_ ?_
     ·intro w9 hSw
      try dsimp only at hSw
      go_simp
     try simp only [qpu]
     refine qtk (i := 2) (oi := tcx49o21) (v := (.int .i64 q.i)) hHeld ?_ ?_
     ·intro w9 hSw
      try dsimp only at hSw
      have hcc := hSw.2.2.1.cell 0 (.int .i64 q.i) rfl
      go_simp
     try simp only [qpu]
     refine qty (i := 3) (oi := tcx49o19) (v := (.agg q.g.v)) (yieldsIf_blk_w (by kernel_rfl) _ _ rfl Wm1.heap.size (by rfl) _ (fun _ hSw => hSw.2.2.2.1) Try.underlying24 (by kernel_rfl)) hHeld ?_
     try simp only [qpu]
     refine wpAnyH_ready (rs := [4, 9]) (by kernel_rfl) (by simp) ?_
     refine AllReadyH.cons (o := tcx49o8) rfl (fun K hK => ?_) (AllReadyH.cons (o := tcx49o14) rfl (fun K hK => ?_) AllReadyH.nil)
     ·go_simp
      refine Calls.mono (KG.out _) ?_
      rintro e Wx101 ⟨rfl, bb⟩
      have Cx101 := Cd.kept bb
      have Dx101 := Dd.kept bb
      have Tx101 := Td.kept bb
      have Gx101 := Gd.kept bb
      have Hx101 := Hd.kept bb
      have bx101 := bel_tr bd bb
      clear bb
      refine hK.out _ _ (by exact ⟨Cx101, Dx101, Tx101, Gx101, Hx101⟩) (fun hHeld => ?_)
      clear hK K
      try simp only [qpu]
      refine wpAnyH_ready (rs := [5, 9]) (by kernel_rfl) (by simp) ?_
      refine AllReadyH.cons (o := tcx49o4) rfl (fun K hK => ?_) (AllReadyH.cons (o := tcx49o14) rfl (fun K hK => ?_) AllReadyH.nil)
      ·go_simp
       refine Calls.mono (KS.out _) ?_
       rintro e Wx102 ⟨rfl, bb⟩
       have Cx102 := Cx101.kept bb
       have Dx102 := Dx101.kept bb
       have Tx102 := Tx101.kept bb
       have Gx102 := Gx101.kept bb
       have Hx102 := Hx101.kept bb
       have bx102 := bel_tr bx101 bb
       clear bb
       refine hK.out _ _ (by exact ⟨Cx102, Dx102, Tx102, Gx102, Hx102⟩) (fun hHeld => ?_)
       clear hK K
       try simp only [qpu]
       refine qtk (i := 6) (oi := tcx49o10) (v := (.tuple #[.agg d.v, .int .i64 e])) hHeld ?_ ?_
       ·intro w9 hSw
        try dsimp only at hSw
        go_simp
       try simp only [qpu]
       refine qtk (i := 7) (oi := tcx49o12) (v := (.agg d.v)) hHeld ?_ ?_
       ·intro w9 hSw
        try dsimp only at hSw
        go_simp
       try simp only [qpu]
       refine qtk (i := 8) (oi := tcx49o6) (v := (.int .i64 e)) hHeld ?_ ?_
       ·intro w9 hSw
        try dsimp only at hSw
        go_simp
       try simp only [qpu]
       refine wpAnyH_ready (rs := [9]) (by kernel_rfl) (by simp) ?_
       refine AllReadyH.cons (o := tcx49o14) rfl (fun K hK => ?_) AllReadyH.nil
       go_simp
       obtain ⟨Wx103, hWx103⟩ : ∃ W, Wx102.alloc (.cells #[.int .i64 0, .int .u32 0, .int .u32 0, .int .u32 0, .int .u32 0, .bool false, .bool false, .bool false, .bool false] 28) = W := ⟨_, rfl⟩
       rw [hWx103]
       have Cx103 := Cx102.al hWx103
       have Dx103 := Dx102.al hWx103
       have Tx103 := Tx102.al hWx103
       have Gx103 := Gx102.al hWx103
       have Hx103 := Hx102.al hWx103
       have Yx103 := blk_nw hWx103
       have bx103 := bel_al bx102 hWx103
       have gY : w.heap.size ≤ Wx102.heap.size := bx102.size
       have nCY : Wk1.heap.size ≠ Wx102.heap.size := by have := Cx102.lt; omega
       have nDY : Wk3.heap.size ≠ Wx102.heap.size := by have := Dx102.lt; omega
       have nTY : Wr.heap.size ≠ Wx102.heap.size := by have := Tx102.lt; omega
       have nGY : Wm1.heap.size ≠ Wx102.heap.size := by have := Gx102.lt; omega
       have nHY : Wm2.heap.size ≠ Wx102.heap.size := by have := Hx102.lt; omega
       refine hK.out _ _ (by exact ⟨Cx103, Dx103, Tx103, Gx103, Hx103⟩) (fun hHeld => ?_)
       clear hK K
       try simp only [qpu]
       refine wpAnyH_ready (rs := [10]) (by kernel_rfl) (by simp) ?_
       refine AllReadyH.cons (o := tcx49o0) rfl (fun K hK => ?_) AllReadyH.nil
       refine step_store_blk rfl _ _ _ rfl Wx102.heap.size d.v _ (by rfl) (by rfl) Yx103 (by kernel_rfl) (by rfl) (by kernel_rfl) ?_
       obtain ⟨Wx104, hWx104⟩ : ∃ W, Wx103.setRow Wx102.heap.size d.v = W := ⟨_, rfl⟩
       rw [hWx104]
       have Cx104 := hWx104 ▸ Cx103.other nCY d.v
       have Dx104 := hWx104 ▸ Dx103.other nDY d.v
       have Tx104 := hWx104 ▸ Tx103.other nTY d.v
       have Gx104 := hWx104 ▸ Gx103.other nGY d.v
       have Hx104 := hWx104 ▸ Hx103.other nHY d.v
       have Yx104 : Blk Wx104 Wx102.heap.size 28 d.v := hWx104 ▸ Yx103.set d.v
       have bx104 := hWx104 ▸ below_setRow bx103 gY d.v
       refine hK.out _ _ (by exact ⟨Cx104, Dx104, Tx104, Gx104, Hx104⟩) (fun hHeld => ?_)
       clear hK K
       try simp only [qpu]
       refine qtk (i := 11) (oi := tcx49o2) (v := (.int .i64 e)) hHeld ?_ ?_
       ·intro w9 hSw
        try dsimp only at hSw
        go_simp
       try simp only [qpu]
       refine wpAnyH_done (by kernel_rfl) ?_ _
       refine NoPanic.normal ?_
       go_wp2_with fail
       go_meet
       exact ⟨_, rfl, rfl, Cx104, Dx104, Tx104, Gx104, Hx104, Yx104, nCY, nDY, nTY, nGY, nHY, bx104⟩
      ·go_simp
       obtain ⟨Wx105, hWx105⟩ : ∃ W, Wx101.alloc (.cells #[.int .i64 0, .int .u32 0, .int .u32 0, .int .u32 0, .int .u32 0, .bool false, .bool false, .bool false, .bool false] 28) = W := ⟨_, rfl⟩
       rw [hWx105]
       have Cx105 := Cx101.al hWx105
       have Dx105 := Dx101.al hWx105
       have Tx105 := Tx101.al hWx105
       have Gx105 := Gx101.al hWx105
       have Hx105 := Hx101.al hWx105
       have Y2_x105 := blk_nw hWx105
       have bx105 := bel_al bx101 hWx105
       have gY2_ : w.heap.size ≤ Wx101.heap.size := bx101.size
       have nCY2_ : Wk1.heap.size ≠ Wx101.heap.size := by have := Cx101.lt; omega
       have nDY2_ : Wk3.heap.size ≠ Wx101.heap.size := by have := Dx101.lt; omega
       have nTY2_ : Wr.heap.size ≠ Wx101.heap.size := by have := Tx101.lt; omega
       have nGY2_ : Wm1.heap.size ≠ Wx101.heap.size := by have := Gx101.lt; omega
       have nHY2_ : Wm2.heap.size ≠ Wx101.heap.size := by have := Hx101.lt; omega
       refine hK.out _ _ (by exact ⟨Cx105, Dx105, Tx105, Gx105, Hx105⟩) (fun hHeld => ?_)
       clear hK K
       try simp only [qpu]
       refine wpAnyH_ready (rs := [5]) (by kernel_rfl) (by simp) ?_
       refine AllReadyH.cons (o := tcx49o4) rfl (fun K hK => ?_) AllReadyH.nil
       go_simp
       refine Calls.mono (KS.out _) ?_
       rintro e Wx106 ⟨rfl, bb⟩
       have Cx106 := Cx105.kept bb
       have Dx106 := Dx105.kept bb
       have Tx106 := Tx105.kept bb
       have Gx106 := Gx105.kept bb
       have Hx106 := Hx105.kept bb
       have Y2_x106 := Y2_x105.kept bb
       have bx106 := bel_tr bx105 bb
       clear bb
       refine hK.out _ _ (by exact ⟨Cx106, Dx106, Tx106, Gx106, Hx106⟩) (fun hHeld => ?_)
       clear hK K
       try simp only [qpu]
       refine qtk (i := 6) (oi := tcx49o10) (v := (.tuple #[.agg d.v, .int .i64 e])) hHeld ?_ ?_
       ·intro w9 hSw
        try dsimp only at hSw
        go_simp
       try simp only [qpu]
       refine qtk (i := 7) (oi := tcx49o12) (v := (.agg d.v)) hHeld ?_ ?_
       ·intro w9 hSw
        try dsimp only at hSw
        go_simp
       try simp only [qpu]
       refine qtk (i := 8) (oi := tcx49o6) (v := (.int .i64 e)) hHeld ?_ ?_
       ·intro w9 hSw
        try dsimp only at hSw
        go_simp
       try simp only [qpu]
       refine wpAnyH_ready (rs := [10]) (by kernel_rfl) (by simp) ?_
       refine AllReadyH.cons (o := tcx49o0) rfl (fun K hK => ?_) AllReadyH.nil
       refine step_store_blk rfl _ _ _ rfl Wx101.heap.size d.v _ (by rfl) (by rfl) Y2_x106 (by kernel_rfl) (by rfl) (by kernel_rfl) ?_
       obtain ⟨Wx107, hWx107⟩ : ∃ W, Wx106.setRow Wx101.heap.size d.v = W := ⟨_, rfl⟩
       rw [hWx107]
       have Cx107 := hWx107 ▸ Cx106.other nCY2_ d.v
       have Dx107 := hWx107 ▸ Dx106.other nDY2_ d.v
       have Tx107 := hWx107 ▸ Tx106.other nTY2_ d.v
       have Gx107 := hWx107 ▸ Gx106.other nGY2_ d.v
       have Hx107 := hWx107 ▸ Hx106.other nHY2_ d.v
       have Y2_x107 : Blk Wx107 Wx101.heap.size 28 d.v := hWx107 ▸ Y2_x106.set d.v
       have bx107 := hWx107 ▸ below_setRow bx106 gY2_ d.v
       refine hK.out _ _ (by exact ⟨Cx107, Dx107, Tx107, Gx107, Hx107⟩) (fun hHeld => ?_)
       clear hK K
       try simp only [qpu]
       refine qtk (i := 11) (oi := tcx49o2) (v := (.int .i64 e)) hHeld ?_ ?_
       ·intro w9 hSw
        try dsimp only at hSw
        go_simp
       try simp only [qpu]
       refine wpAnyH_done (by kernel_rfl) ?_ _
       refine NoPanic.normal ?_
       go_wp2_with fail
       go_meet
       exact ⟨_, rfl, rfl, Cx107, Dx107, Tx107, Gx107, Hx107, Y2_x107, nCY2_, nDY2_, nTY2_, nGY2_, nHY2_, bx107⟩
     ·go_simp
      obtain ⟨Wx108, hWx108⟩ : ∃ W, Wdm3s.alloc (.cells #[.int .i64 0, .int .u32 0, .int .u32 0, .int .u32 0, .int .u32 0, .bool false, .bool false, .bool false, .bool false] 28) = W := ⟨_, rfl⟩
      rw [hWx108]
      have Cx108 := Cd.al hWx108
      have Dx108 := Dd.al hWx108
      have Tx108 := Td.al hWx108
      have Gx108 := Gd.al hWx108
      have Hx108 := Hd.al hWx108
      have Y3_x108 := blk_nw hWx108
      have bx108 := bel_al bd hWx108
      have gY3_ : w.heap.size ≤ Wdm3s.heap.size := bd.size
      have nCY3_ : Wk1.heap.size ≠ Wdm3s.heap.size := by have := Cd.lt; omega
      have nDY3_ : Wk3.heap.size ≠ Wdm3s.heap.size := by have := Dd.lt; omega
      have nTY3_ : Wr.heap.size ≠ Wdm3s.heap.size := by have := Td.lt; omega
      have nGY3_ : Wm1.heap.size ≠ Wdm3s.heap.size := by have := Gd.lt; omega
      have nHY3_ : Wm2.heap.size ≠ Wdm3s.heap.size := by have := Hd.lt; omega
      refine hK.out _ _ (by exact ⟨Cx108, Dx108, Tx108, Gx108, Hx108⟩) (fun hHeld => ?_)
      clear hK K
      try simp only [qpu]
      refine wpAnyH_ready (rs := [4]) (by kernel_rfl) (by simp) ?_
      refine AllReadyH.cons (o := tcx49o8) rfl (fun K hK => ?_) AllReadyH.nil
      go_simp
      refine Calls.mono (KG.out _) ?_
      rintro e Wx109 ⟨rfl, bb⟩
      have Cx109 := Cx108.kept bb
      have Dx109 := Dx108.kept bb
      have Tx109 := Tx108.kept bb
      have Gx109 := Gx108.kept bb
      have Hx109 := Hx108.kept bb
      have Y3_x109 := Y3_x108.kept bb
      have bx109 := bel_tr bx108 bb
      clear bb
      refine hK.out _ _ (by exact ⟨Cx109, Dx109, Tx109, Gx109, Hx109⟩) (fun hHeld => ?_)
      clear hK K
      try simp only [qpu]
      refine wpAnyH_ready (rs := [5]) (by kernel_rfl) (by simp) ?_
      refine AllReadyH.cons (o := tcx49o4) rfl (fun K hK => ?_) AllReadyH.nil
      go_simp
      refine Calls.mono (KS.out _) ?_
      rintro e Wx110 ⟨rfl, bb⟩
      have Cx110 := Cx109.kept bb
      have Dx110 := Dx109.kept bb
      have Tx110 := Tx109.kept bb
      have Gx110 := Gx109.kept bb
      have Hx110 := Hx109.kept bb
      have Y3_x110 := Y3_x109.kept bb
      have bx110 := bel_tr bx109 bb
      clear bb
      refine hK.out _ _ (by exact ⟨Cx110, Dx110, Tx110, Gx110, Hx110⟩) (fun hHeld => ?_)
      clear hK K
      try simp only [qpu]
      refine qtk (i := 6) (oi := tcx49o10) (v := (.tuple #[.agg d.v, .int .i64 e])) hHeld ?_ ?_
      ·intro w9 hSw
       try dsimp only at hSw
       go_simp
      try simp only [qpu]
      refine qtk (i := 7) (oi := tcx49o12) (v := (.agg d.v)) hHeld ?_ ?_
      ·intro w9 hSw
       try dsimp only at hSw
       go_simp
      try simp only [qpu]
      refine qtk (i := 8) (oi := tcx49o6) (v := (.int .i64 e)) hHeld ?_ ?_
      ·intro w9 hSw
       try dsimp only at hSw
       go_simp
      try simp only [qpu]
      refine wpAnyH_ready (rs := [10]) (by kernel_rfl) (by simp) ?_
      refine AllReadyH.cons (o := tcx49o0) rfl (fun K hK => ?_) AllReadyH.nil
      refine step_store_blk rfl _ _ _ rfl Wdm3s.heap.size d.v _ (by rfl) (by rfl) Y3_x110 (by kernel_rfl) (by rfl) (by kernel_rfl) ?_
      obtain ⟨Wx111, hWx111⟩ : ∃ W, Wx110.setRow Wdm3s.heap.size d.v = W := ⟨_, rfl⟩
      rw [hWx111]
      have Cx111 := hWx111 ▸ Cx110.other nCY3_ d.v
      have Dx111 := hWx111 ▸ Dx110.other nDY3_ d.v
      have Tx111 := hWx111 ▸ Tx110.other nTY3_ d.v
      have Gx111 := hWx111 ▸ Gx110.other nGY3_ d.v
      have Hx111 := hWx111 ▸ Hx110.other nHY3_ d.v
      have Y3_x111 : Blk Wx111 Wdm3s.heap.size 28 d.v := hWx111 ▸ Y3_x110.set d.v
      have bx111 := hWx111 ▸ below_setRow bx110 gY3_ d.v
      refine hK.out _ _ (by exact ⟨Cx111, Dx111, Tx111, Gx111, Hx111⟩) (fun hHeld => ?_)
      clear hK K
      try simp only [qpu]
      refine qtk (i := 11) (oi := tcx49o2) (v := (.int .i64 e)) hHeld ?_ ?_
      ·intro w9 hSw
       try dsimp only at hSw
       go_simp
      try simp only [qpu]
      refine wpAnyH_done (by kernel_rfl) ?_ _
      refine NoPanic.normal ?_
      go_wp2_with fail
      go_meet
      exact ⟨_, rfl, rfl, Cx111, Dx111, Tx111, Gx111, Hx111, Y3_x111, nCY3_, nDY3_, nTY3_, nGY3_, nHY3_, bx111⟩

    case rest =>
     obtain ⟨gy, rfl, rfl, Cv1, Dv1, Tv1, Gv1, Hv1, Yv1, nCY, nDY, nTY, nGY, nHY, bv1⟩ := hcut
     obtain ⟨Wv1, rfl⟩ : ∃ W, W = wc := ⟨_, rfl⟩
     go_wp2_with fail
     obtain ⟨X, f, hX⟩ : ∃ X f, (if e = 0 then (d.mv by_, 0) else (cn0, e)) = ((X, f) : Cn × Int) := ⟨_, _, rfl⟩
     have KS2 := KS2.out
     rw [hX] at KS2
     dsimp only at KS2
     have KS2 : Hid _ := KS2
     have HX : Hid ((if e = 0 then (d.mv by_, 0) else (cn0, e)) = ((X, f) : Cn × Int)) := hX
     clear hX
     go_cut [17, 18] (fun y fv w'' => ∃ g, y = .pointer (some ⟨g, 0, none⟩) ∧ fv = .int .i64 f ∧ Blk w'' Wk1.heap.size 28 (c.v) ∧ Blk w'' Wk3.heap.size 28 ((c.mv by_).v) ∧ Blk w'' Wr.heap.size 45 (q.v) ∧ Blk w'' Wm1.heap.size 24 (q.g.v) ∧ Blk w'' Wm2.heap.size 24 ((q.g.mv true by_).v) ∧ Blk w'' gy 28 (d.v) ∧ Blk w'' g 28 X.v ∧ Wk1.heap.size ≠ g ∧ Wk3.heap.size ≠ g ∧ Wr.heap.size ≠ g ∧ Wm1.heap.size ≠ g ∧ Wm2.heap.size ≠ g ∧ gy ≠ g ∧ Below w.heap.size w w'')
     case first =>
      have Cd := Cv1.drew
      have Dd := Dv1.drew
      have Td := Tv1.drew
      have Gd := Gv1.drew
      have Hd := Hv1.drew
      have Yd := Yv1.drew
      have bd := bv1.drew
      refine wp_region_noPanic ?_
      refine wp_region_held_drew (S := fun w' => Blk w' Wk1.heap.size 28 c.v ∧ Blk w' Wk3.heap.size 28 ((c.mv by_).v) ∧ Blk w' Wr.heap.size 45 q.v ∧ Blk w' Wm1.heap.size 24 q.g.v ∧ Blk w' Wm2.heap.size 24 ((q.g.mv true by_).v) ∧ Blk w' gy 28 d.v) (by kernel_rfl) (by exact ⟨Cd, Dd, Td, Gd, Hd, Yd⟩) (fun hHeld => ?_)
      obtain ⟨Wdv1, hWdv1⟩ : ∃ W, Wv1.drew = W := ⟨_, rfl⟩
      rw [hWdv1] at hHeld Cd Dd Td Gd Hd Yd bd ⊢
      refine qty (i := 0) (oi := tcx49o27) (v := (.agg ((c.mv by_).v))) (yieldsIf_blk_w (by kernel_rfl) _ _ rfl Wk3.heap.size (by rfl) _ (fun _ hSw => hSw.2.1) Try.underlying28 (by kernel_rfl)) hHeld ?_
      try simp only [qpu]
      refine qtk (i := 1) (oi := tcx49o24) (v := (.pointer (some ⟨Wr.heap.size, 0, none⟩))) hHeld ?_ ?_
      ·intro w9 hSw
       try dsimp only at hSw
       go_simp
      try simp only [qpu]
      refine qtk (i := 2) (oi := tcx49o22) (v := (.int .i64 q.i)) hHeld ?_ ?_
      ·intro w9 hSw
       try dsimp only at hSw
       have hcc := hSw.2.2.1.cell 0 (.int .i64 q.i) rfl
       go_simp
      try simp only [qpu]
      refine qty (i := 3) (oi := tcx49o20) (v := (.agg ((q.g.mv true by_).v))) (yieldsIf_blk_w (by kernel_rfl) _ _ rfl Wm2.heap.size (by rfl) _ (fun _ hSw => hSw.2.2.2.2.1) Try.underlying24 (by kernel_rfl)) hHeld ?_
      try simp only [qpu]
      refine wpAnyH_ready (rs := [4, 9]) (by kernel_rfl) (by simp) ?_
      refine AllReadyH.cons (o := tcx49o9) rfl (fun K hK => ?_) (AllReadyH.cons (o := tcx49o15) rfl (fun K hK => ?_) AllReadyH.nil)
      ·go_simp
       refine Calls.mono (KG2.out _) ?_
       rintro e Wx201 ⟨rfl, bb⟩
       have Cx201 := Cd.kept bb
       have Dx201 := Dd.kept bb
       have Tx201 := Td.kept bb
       have Gx201 := Gd.kept bb
       have Hx201 := Hd.kept bb
       have Yx201 := Yd.kept bb
       have bx201 := bel_tr bd bb
       clear bb
       refine hK.out _ _ (by exact ⟨Cx201, Dx201, Tx201, Gx201, Hx201, Yx201⟩) (fun hHeld => ?_)
       clear hK K
       try simp only [qpu]
       refine wpAnyH_ready (rs := [5, 9]) (by kernel_rfl) (by simp) ?_
       refine AllReadyH.cons (o := tcx49o5) rfl (fun K hK => ?_) (AllReadyH.cons (o := tcx49o15) rfl (fun K hK => ?_) AllReadyH.nil)
       ·go_simp
        refine Calls.mono (KS2.out _) ?_
        rintro e Wx202 ⟨rfl, bb⟩
        have Cx202 := Cx201.kept bb
        have Dx202 := Dx201.kept bb
        have Tx202 := Tx201.kept bb
        have Gx202 := Gx201.kept bb
        have Hx202 := Hx201.kept bb
        have Yx202 := Yx201.kept bb
        have bx202 := bel_tr bx201 bb
        clear bb
        refine hK.out _ _ (by exact ⟨Cx202, Dx202, Tx202, Gx202, Hx202, Yx202⟩) (fun hHeld => ?_)
        clear hK K
        try simp only [qpu]
        refine qtk (i := 6) (oi := tcx49o11) (v := (.tuple #[.agg X.v, .int .i64 f])) hHeld ?_ ?_
        ·intro w9 hSw
         try dsimp only at hSw
         go_simp
        try simp only [qpu]
        refine qtk (i := 7) (oi := tcx49o13) (v := (.agg X.v)) hHeld ?_ ?_
        ·intro w9 hSw
         try dsimp only at hSw
         go_simp
        try simp only [qpu]
        refine qtk (i := 8) (oi := tcx49o7) (v := (.int .i64 f)) hHeld ?_ ?_
        ·intro w9 hSw
         try dsimp only at hSw
         go_simp
        try simp only [qpu]
        refine wpAnyH_ready (rs := [9]) (by kernel_rfl) (by simp) ?_
        refine AllReadyH.cons (o := tcx49o15) rfl (fun K hK => ?_) AllReadyH.nil
        go_simp
        obtain ⟨Wx203, hWx203⟩ : ∃ W, Wx202.alloc (.cells #[.int .i64 0, .int .u32 0, .int .u32 0, .int .u32 0, .int .u32 0, .bool false, .bool false, .bool false, .bool false] 28) = W := ⟨_, rfl⟩
        rw [hWx203]
        have Cx203 := Cx202.al hWx203
        have Dx203 := Dx202.al hWx203
        have Tx203 := Tx202.al hWx203
        have Gx203 := Gx202.al hWx203
        have Hx203 := Hx202.al hWx203
        have Yx203 := Yx202.al hWx203
        have Y1_x203 := blk_nw hWx203
        have bx203 := bel_al bx202 hWx203
        have gY1_ : w.heap.size ≤ Wx202.heap.size := bx202.size
        have nCY1_ : Wk1.heap.size ≠ Wx202.heap.size := by have := Cx202.lt; omega
        have nDY1_ : Wk3.heap.size ≠ Wx202.heap.size := by have := Dx202.lt; omega
        have nTY1_ : Wr.heap.size ≠ Wx202.heap.size := by have := Tx202.lt; omega
        have nGY1_ : Wm1.heap.size ≠ Wx202.heap.size := by have := Gx202.lt; omega
        have nHY1_ : Wm2.heap.size ≠ Wx202.heap.size := by have := Hx202.lt; omega
        have nYY1_ : gy ≠ Wx202.heap.size := by have := Yx202.lt; omega
        refine hK.out _ _ (by exact ⟨Cx203, Dx203, Tx203, Gx203, Hx203, Yx203⟩) (fun hHeld => ?_)
        clear hK K
        try simp only [qpu]
        refine wpAnyH_ready (rs := [10]) (by kernel_rfl) (by simp) ?_
        refine AllReadyH.cons (o := tcx49o1) rfl (fun K hK => ?_) AllReadyH.nil
        refine step_store_blk rfl _ _ _ rfl Wx202.heap.size X.v _ (by rfl) (by rfl) Y1_x203 (by kernel_rfl) (by rfl) (by kernel_rfl) ?_
        obtain ⟨Wx204, hWx204⟩ : ∃ W, Wx203.setRow Wx202.heap.size X.v = W := ⟨_, rfl⟩
        rw [hWx204]
        have Cx204 := hWx204 ▸ Cx203.other nCY1_ X.v
        have Dx204 := hWx204 ▸ Dx203.other nDY1_ X.v
        have Tx204 := hWx204 ▸ Tx203.other nTY1_ X.v
        have Gx204 := hWx204 ▸ Gx203.other nGY1_ X.v
        have Hx204 := hWx204 ▸ Hx203.other nHY1_ X.v
        have Yx204 := hWx204 ▸ Yx203.other nYY1_ X.v
        have Y1_x204 : Blk Wx204 Wx202.heap.size 28 X.v := hWx204 ▸ Y1_x203.set X.v
        have bx204 := hWx204 ▸ below_setRow bx203 gY1_ X.v
        refine hK.out _ _ (by exact ⟨Cx204, Dx204, Tx204, Gx204, Hx204, Yx204⟩) (fun hHeld => ?_)
        clear hK K
        try simp only [qpu]
        refine qtk (i := 11) (oi := tcx49o3) (v := (.int .i64 f)) hHeld ?_ ?_
        ·intro w9 hSw
         try dsimp only at hSw
         go_simp
        try simp only [qpu]
        refine wpAnyH_done (by kernel_rfl) ?_ _
        refine NoPanic.normal ?_
        go_wp2_with fail
        go_meet
        exact ⟨_, rfl, rfl, Cx204, Dx204, Tx204, Gx204, Hx204, Yx204, Y1_x204, nCY1_, nDY1_, nTY1_, nGY1_, nHY1_, nYY1_, bx204⟩
       ·go_simp
        obtain ⟨Wx205, hWx205⟩ : ∃ W, Wx201.alloc (.cells #[.int .i64 0, .int .u32 0, .int .u32 0, .int .u32 0, .int .u32 0, .bool false, .bool false, .bool false, .bool false] 28) = W := ⟨_, rfl⟩
        rw [hWx205]
        have Cx205 := Cx201.al hWx205
        have Dx205 := Dx201.al hWx205
        have Tx205 := Tx201.al hWx205
        have Gx205 := Gx201.al hWx205
        have Hx205 := Hx201.al hWx205
        have Yx205 := Yx201.al hWx205
        have Y2_x205 := blk_nw hWx205
        have bx205 := bel_al bx201 hWx205
        have gY2_ : w.heap.size ≤ Wx201.heap.size := bx201.size
        have nCY2_ : Wk1.heap.size ≠ Wx201.heap.size := by have := Cx201.lt; omega
        have nDY2_ : Wk3.heap.size ≠ Wx201.heap.size := by have := Dx201.lt; omega
        have nTY2_ : Wr.heap.size ≠ Wx201.heap.size := by have := Tx201.lt; omega
        have nGY2_ : Wm1.heap.size ≠ Wx201.heap.size := by have := Gx201.lt; omega
        have nHY2_ : Wm2.heap.size ≠ Wx201.heap.size := by have := Hx201.lt; omega
        have nYY2_ : gy ≠ Wx201.heap.size := by have := Yx201.lt; omega
        refine hK.out _ _ (by exact ⟨Cx205, Dx205, Tx205, Gx205, Hx205, Yx205⟩) (fun hHeld => ?_)
        clear hK K
        try simp only [qpu]
        refine wpAnyH_ready (rs := [5]) (by kernel_rfl) (by simp) ?_
        refine AllReadyH.cons (o := tcx49o5) rfl (fun K hK => ?_) AllReadyH.nil
        go_simp
        refine Calls.mono (KS2.out _) ?_
        rintro e Wx206 ⟨rfl, bb⟩
        have Cx206 := Cx205.kept bb
        have Dx206 := Dx205.kept bb
        have Tx206 := Tx205.kept bb
        have Gx206 := Gx205.kept bb
        have Hx206 := Hx205.kept bb
        have Yx206 := Yx205.kept bb
        have Y2_x206 := Y2_x205.kept bb
        have bx206 := bel_tr bx205 bb
        clear bb
        refine hK.out _ _ (by exact ⟨Cx206, Dx206, Tx206, Gx206, Hx206, Yx206⟩) (fun hHeld => ?_)
        clear hK K
        try simp only [qpu]
        refine qtk (i := 6) (oi := tcx49o11) (v := (.tuple #[.agg X.v, .int .i64 f])) hHeld ?_ ?_
        ·intro w9 hSw
         try dsimp only at hSw
         go_simp
        try simp only [qpu]
        refine qtk (i := 7) (oi := tcx49o13) (v := (.agg X.v)) hHeld ?_ ?_
        ·intro w9 hSw
         try dsimp only at hSw
         go_simp
        try simp only [qpu]
        refine qtk (i := 8) (oi := tcx49o7) (v := (.int .i64 f)) hHeld ?_ ?_
        ·intro w9 hSw
         try dsimp only at hSw
         go_simp
        try simp only [qpu]
        refine wpAnyH_ready (rs := [10]) (by kernel_rfl) (by simp) ?_
        refine AllReadyH.cons (o := tcx49o1) rfl (fun K hK => ?_) AllReadyH.nil
        refine step_store_blk rfl _ _ _ rfl Wx201.heap.size X.v _ (by rfl) (by rfl) Y2_x206 (by kernel_rfl) (by rfl) (by kernel_rfl) ?_
        obtain ⟨Wx207, hWx207⟩ : ∃ W, Wx206.setRow Wx201.heap.size X.v = W := ⟨_, rfl⟩
        rw [hWx207]
        have Cx207 := hWx207 ▸ Cx206.other nCY2_ X.v
        have Dx207 := hWx207 ▸ Dx206.other nDY2_ X.v
        have Tx207 := hWx207 ▸ Tx206.other nTY2_ X.v
        have Gx207 := hWx207 ▸ Gx206.other nGY2_ X.v
        have Hx207 := hWx207 ▸ Hx206.other nHY2_ X.v
        have Yx207 := hWx207 ▸ Yx206.other nYY2_ X.v
        have Y2_x207 : Blk Wx207 Wx201.heap.size 28 X.v := hWx207 ▸ Y2_x206.set X.v
        have bx207 := hWx207 ▸ below_setRow bx206 gY2_ X.v
        refine hK.out _ _ (by exact ⟨Cx207, Dx207, Tx207, Gx207, Hx207, Yx207⟩) (fun hHeld => ?_)
        clear hK K
        try simp only [qpu]
        refine qtk (i := 11) (oi := tcx49o3) (v := (.int .i64 f)) hHeld ?_ ?_
        ·intro w9 hSw
         try dsimp only at hSw
         go_simp
        try simp only [qpu]
        refine wpAnyH_done (by kernel_rfl) ?_ _
        refine NoPanic.normal ?_
        go_wp2_with fail
        go_meet
        exact ⟨_, rfl, rfl, Cx207, Dx207, Tx207, Gx207, Hx207, Yx207, Y2_x207, nCY2_, nDY2_, nTY2_, nGY2_, nHY2_, nYY2_, bx207⟩
      ·go_simp
       obtain ⟨Wx208, hWx208⟩ : ∃ W, Wdv1.alloc (.cells #[.int .i64 0, .int .u32 0, .int .u32 0, .int .u32 0, .int .u32 0, .bool false, .bool false, .bool false, .bool false] 28) = W := ⟨_, rfl⟩
       rw [hWx208]
       have Cx208 := Cd.al hWx208
       have Dx208 := Dd.al hWx208
       have Tx208 := Td.al hWx208
       have Gx208 := Gd.al hWx208
       have Hx208 := Hd.al hWx208
       have Yx208 := Yd.al hWx208
       have Y3_x208 := blk_nw hWx208
       have bx208 := bel_al bd hWx208
       have gY3_ : w.heap.size ≤ Wdv1.heap.size := bd.size
       have nCY3_ : Wk1.heap.size ≠ Wdv1.heap.size := by have := Cd.lt; omega
       have nDY3_ : Wk3.heap.size ≠ Wdv1.heap.size := by have := Dd.lt; omega
       have nTY3_ : Wr.heap.size ≠ Wdv1.heap.size := by have := Td.lt; omega
       have nGY3_ : Wm1.heap.size ≠ Wdv1.heap.size := by have := Gd.lt; omega
       have nHY3_ : Wm2.heap.size ≠ Wdv1.heap.size := by have := Hd.lt; omega
       have nYY3_ : gy ≠ Wdv1.heap.size := by have := Yd.lt; omega
       refine hK.out _ _ (by exact ⟨Cx208, Dx208, Tx208, Gx208, Hx208, Yx208⟩) (fun hHeld => ?_)
       clear hK K
       try simp only [qpu]
       refine wpAnyH_ready (rs := [4]) (by kernel_rfl) (by simp) ?_
       refine AllReadyH.cons (o := tcx49o9) rfl (fun K hK => ?_) AllReadyH.nil
       go_simp
       refine Calls.mono (KG2.out _) ?_
       rintro e Wx209 ⟨rfl, bb⟩
       have Cx209 := Cx208.kept bb
       have Dx209 := Dx208.kept bb
       have Tx209 := Tx208.kept bb
       have Gx209 := Gx208.kept bb
       have Hx209 := Hx208.kept bb
       have Yx209 := Yx208.kept bb
       have Y3_x209 := Y3_x208.kept bb
       have bx209 := bel_tr bx208 bb
       clear bb
       refine hK.out _ _ (by exact ⟨Cx209, Dx209, Tx209, Gx209, Hx209, Yx209⟩) (fun hHeld => ?_)
       clear hK K
       try simp only [qpu]
       refine wpAnyH_ready (rs := [5]) (by kernel_rfl) (by simp) ?_
       refine AllReadyH.cons (o := tcx49o5) rfl (fun K hK => ?_) AllReadyH.nil
       go_simp
       refine Calls.mono (KS2.out _) ?_
       rintro e Wx210 ⟨rfl, bb⟩
       have Cx210 := Cx209.kept bb
       have Dx210 := Dx209.kept bb
       have Tx210 := Tx209.kept bb
       have Gx210 := Gx209.kept bb
       have Hx210 := Hx209.kept bb
       have Yx210 := Yx209.kept bb
       have Y3_x210 := Y3_x209.kept bb
       have bx210 := bel_tr bx209 bb
       clear bb
       refine hK.out _ _ (by exact ⟨Cx210, Dx210, Tx210, Gx210, Hx210, Yx210⟩) (fun hHeld => ?_)
       clear hK K
       try simp only [qpu]
       refine qtk (i := 6) (oi := tcx49o11) (v := (.tuple #[.agg X.v, .int .i64 f])) hHeld ?_ ?_
       ·intro w9 hSw
        try dsimp only at hSw
        go_simp
       try simp only [qpu]
       refine qtk (i := 7) (oi := tcx49o13) (v := (.agg X.v)) hHeld ?_ ?_
       ·intro w9 hSw
        try dsimp only at hSw
        go_simp
       try simp only [qpu]
       refine qtk (i := 8) (oi := tcx49o7) (v := (.int .i64 f)) hHeld ?_ ?_
       ·intro w9 hSw
        try dsimp only at hSw
        go_simp
       try simp only [qpu]
       refine wpAnyH_ready (rs := [10]) (by kernel_rfl) (by simp) ?_
       refine AllReadyH.cons (o := tcx49o1) rfl (fun K hK => ?_) AllReadyH.nil
       refine step_store_blk rfl _ _ _ rfl Wdv1.heap.size X.v _ (by rfl) (by rfl) Y3_x210 (by kernel_rfl) (by rfl) (by kernel_rfl) ?_
       obtain ⟨Wx211, hWx211⟩ : ∃ W, Wx210.setRow Wdv1.heap.size X.v = W := ⟨_, rfl⟩
       rw [hWx211]
       have Cx211 := hWx211 ▸ Cx210.other nCY3_ X.v
       have Dx211 := hWx211 ▸ Dx210.other nDY3_ X.v
       have Tx211 := hWx211 ▸ Tx210.other nTY3_ X.v
       have Gx211 := hWx211 ▸ Gx210.other nGY3_ X.v
       have Hx211 := hWx211 ▸ Hx210.other nHY3_ X.v
       have Yx211 := hWx211 ▸ Yx210.other nYY3_ X.v
       have Y3_x211 : Blk Wx211 Wdv1.heap.size 28 X.v := hWx211 ▸ Y3_x210.set X.v
       have bx211 := hWx211 ▸ below_setRow bx210 gY3_ X.v
       refine hK.out _ _ (by exact ⟨Cx211, Dx211, Tx211, Gx211, Hx211, Yx211⟩) (fun hHeld => ?_)
       clear hK K
       try simp only [qpu]
       refine qtk (i := 11) (oi := tcx49o3) (v := (.int .i64 f)) hHeld ?_ ?_
       ·intro w9 hSw
        try dsimp only at hSw
        go_simp
       try simp only [qpu]
       refine wpAnyH_done (by kernel_rfl) ?_ _
       refine NoPanic.normal ?_
       go_wp2_with fail
       go_meet
       exact ⟨_, rfl, rfl, Cx211, Dx211, Tx211, Gx211, Hx211, Yx211, Y3_x211, nCY3_, nDY3_, nTY3_, nGY3_, nHY3_, nYY3_, bx211⟩

     case rest =>
      obtain ⟨gz, rfl, rfl, Cv2, Dv2, Tv2, Gv2, Hv2, Yv2, Zv2, nCZ, nDZ, nTZ, nGZ, nHZ, nYZ, bv2⟩ := hcut
      obtain ⟨Wv2, rfl⟩ : ∃ W, W = wc := ⟨_, rfl⟩
      by_cases he : e = 0
      ·subst he
       obtain ⟨rfl, rfl⟩ : d.mv by_ = X ∧ (0 : Int) = f := by have h := HX.out; simpa using h
       have HI2 : Hid d.in32 := HIN.out rfl
       clear HX HIN
       go_upto_region 18 with (fail)
       have nYC : gy ≠ Wk1.heap.size := fun e => nCY e.symm
       have nZC : gz ≠ Wk1.heap.size := fun e => nCZ e.symm
       have nDC : Wk3.heap.size ≠ Wk1.heap.size := fun e => nCD e.symm
       have nYD : gy ≠ Wk3.heap.size := fun e => nDY e.symm
       have nZD : gz ≠ Wk3.heap.size := fun e => nDZ e.symm
       have Yd := Yv2.drew
       have Zd := Zv2.drew
       have Cd := Cv2.drew
       have Dd := Dv2.drew
       have bd := bv2.drew
       refine wp_region_noPanic ?_
       refine wp_region_held_drew (S := fun w' => Blk w' gy 28 d.v ∧ Blk w' gz 28 ((d.mv by_).v)) (by kernel_rfl) (by exact ⟨Yd, Zd⟩) (fun hHeld => ?_)
       obtain ⟨Wdv2, hWdv2⟩ : ∃ W, Wv2.drew = W := ⟨_, rfl⟩
       rw [hWdv2] at hHeld Yd Zd Cd Dd bd ⊢
       refine qty (i := 0) (oi := tcx49o25) (v := (.agg d.v)) (yieldsIf_blk_w (by kernel_rfl) _ _ rfl gy (by rfl) _ (fun _ hSw => hSw.1) Try.underlying28 (by kernel_rfl)) hHeld ?_
       try simp only [qpu]
       refine qty (i := 1) (oi := tcx49o18) (v := (.agg ((d.mv by_).v))) (yieldsIf_blk_w (by kernel_rfl) _ _ rfl gz (by rfl) _ (fun _ hSw => hSw.2) Try.underlying28 (by kernel_rfl)) hHeld ?_
       try simp only [qpu]
       refine wpAnyH_ready (rs := [2]) (by kernel_rfl) (by simp) ?_
       refine AllReadyH.cons (o := tcx49o17) rfl (fun K hK => ?_) AllReadyH.nil
       refine step_store_blk rfl _ _ _ rfl Wk1.heap.size d.v _ (by rfl) (by rfl) Cd (by kernel_rfl) (by rfl) (by kernel_rfl) ?_
       obtain ⟨Wx301, hWx301⟩ : ∃ W, Wdv2.setRow Wk1.heap.size d.v = W := ⟨_, rfl⟩
       rw [hWx301]
       have Yx301 := hWx301 ▸ Yd.other nYC d.v
       have Zx301 := hWx301 ▸ Zd.other nZC d.v
       have Dx301 := hWx301 ▸ Dd.other nDC d.v
       have Cx301 : Blk Wx301 Wk1.heap.size 28 d.v := hWx301 ▸ Cd.set d.v
       have bx301 := hWx301 ▸ below_setRow bd gC d.v
       refine hK.out _ _ (by exact ⟨Yx301, Zx301⟩) (fun hHeld => ?_)
       clear hK K
       try simp only [qpu]
       refine wpAnyH_ready (rs := [3]) (by kernel_rfl) (by simp) ?_
       refine AllReadyH.cons (o := tcx49o16) rfl (fun K hK => ?_) AllReadyH.nil
       refine step_store_blk rfl _ _ _ rfl Wk3.heap.size ((d.mv by_).v) _ (by rfl) (by rfl) Dx301 (by kernel_rfl) (by rfl) (by kernel_rfl) ?_
       obtain ⟨Wx302, hWx302⟩ : ∃ W, Wx301.setRow Wk3.heap.size ((d.mv by_).v) = W := ⟨_, rfl⟩
       rw [hWx302]
       have Yx302 := hWx302 ▸ Yx301.other nYD ((d.mv by_).v)
       have Zx302 := hWx302 ▸ Zx301.other nZD ((d.mv by_).v)
       have Cx302 := hWx302 ▸ Cx301.other nCD ((d.mv by_).v)
       have Dx302 : Blk Wx302 Wk3.heap.size 28 ((d.mv by_).v) := hWx302 ▸ Dx301.set ((d.mv by_).v)
       have bx302 := hWx302 ▸ below_setRow bx301 gD ((d.mv by_).v)
       refine hK.out _ _ (by exact ⟨Yx302, Zx302⟩) (fun hHeld => ?_)
       clear hK K
       try simp only [qpu]
       refine wpAnyH_done (by kernel_rfl) ?_ _
       refine NoPanic.normal ?_
       have p0 := Cx302.cell 0 (.int .i64 d.st) rfl
       have r0 := Dx302.cell 0 (.int .i64 d.st) rfl
       have p1 := Cx302.cell 1 (.int .u32 d.n0) rfl
       have r1 := Dx302.cell 1 (.int .u32 ((d.n0 + by_) % 4294967296)) rfl
       have p2 := Cx302.cell 2 (.int .u32 d.n1) rfl
       have r2 := Dx302.cell 2 (.int .u32 d.n1) rfl
       have p3 := Cx302.cell 3 (.int .u32 d.e0) rfl
       have r3 := Dx302.cell 3 (.int .u32 ((d.e0 + by_) % 4294967296)) rfl
       have p4 := Cx302.cell 4 (.int .u32 d.e1) rfl
       have r4 := Dx302.cell 4 (.int .u32 d.e1) rfl
       have hne : ∀ W, (Op.equalIn 10000 26 (.agg #[.bool d.d0, .bool d.d1]) (.agg #[.bool d.d0, .bool d.d1])).run Try.prog W = .ok true W := fun W => by rw [eqL_tc 9998]; simp
       go_wp2_with (first | (refine wpList_load_suba_w (by rfl) _ _ rfl Wk1.heap.size 7 _ (by rfl) _ #[.bool d.d0, .bool d.d1] Cx302 (by rfl) Try.underlying26 (by kernel_rfl) ?_) | (refine wpList_load_suba_w (by rfl) _ _ rfl Wk3.heap.size 7 _ (by rfl) _ #[.bool d.d0, .bool d.d1] Dx302 (by rfl) Try.underlying26 (by kernel_rfl) ?_))
       exact ⟨⟨j + 1, d, by omega, by go_num, HI2, Cx302, Dx302, bx302⟩, by simp [intOf]; omega⟩
      ·obtain ⟨rfl, rfl⟩ : cn0 = X ∧ e = f := by have h := HX.out; rw [if_neg he] at h; simpa using h
       clear HX HIN
       have he1 : (e == 0) = false := by simpa using he
       have he2 : (e != e) = false := by simp
       clear he
       have p0 := Cv2.cell 0 (.int .i64 c.st) rfl
       have r0 := Dv2.cell 0 (.int .i64 c.st) rfl
       have p1 := Cv2.cell 1 (.int .u32 c.n0) rfl
       have r1 := Dv2.cell 1 (.int .u32 ((c.n0 + by_) % 4294967296)) rfl
       have p2 := Cv2.cell 2 (.int .u32 c.n1) rfl
       have r2 := Dv2.cell 2 (.int .u32 c.n1) rfl
       have p3 := Cv2.cell 3 (.int .u32 c.e0) rfl
       have r3 := Dv2.cell 3 (.int .u32 ((c.e0 + by_) % 4294967296)) rfl
       have p4 := Cv2.cell 4 (.int .u32 c.e1) rfl
       have r4 := Dv2.cell 4 (.int .u32 c.e1) rfl
       have hne : ∀ W, (Op.equalIn 10000 26 (.agg #[.bool c.d0, .bool c.d1]) (.agg #[.bool c.d0, .bool c.d1])).run Try.prog W = .ok true W := fun W => by rw [eqL_tc 9998]; simp
       go_wp2_with (first | (refine wpList_load_suba_w (by rfl) _ _ rfl Wk1.heap.size 7 _ (by rfl) _ #[.bool c.d0, .bool c.d1] Cv2 (by rfl) Try.underlying26 (by kernel_rfl) ?_) | (refine wpList_load_suba_w (by rfl) _ _ rfl Wk3.heap.size 7 _ (by rfl) _ #[.bool c.d0, .bool c.d1] Dv2 (by rfl) Try.underlying26 (by kernel_rfl) ?_))
       exact ⟨⟨j + 1, c, by omega, by go_num, hI, Cv2, Dv2, bv2⟩, by simp [intOf]; omega⟩

  ·have ik : ¬ (j : Int) < (N : Int) := by omega
   go_wp2_with fail
   go_ret
   exact ⟨rfl, br⟩
end Go.Proofs.Ytmmnjjcopdabcaa
namespace Go.Proofs.Ytmmnjjcopdabcaa.tcpMoved
open Go.ChangeShapes Go.WideShapes Go.ChangeAt Go.RowKit
open Go.ChangeMaps (open_string shut_string)
set_option linter.unusedVariables false
theorem own : ownKnob Try.prog.godebug = none := by kernel_rfl
theorem laidOut : laidOutB Try.prog = true := by kernel_rfl
set_option maxRecDepth 100000 in
theorem lifted (os : Os) (started : os.Started) (H : Type) (enc : TypeId × Value → H) :
  ReturnsInHanded {} Try.checked os 8 .any (Rows.tcpMovedSpec.pre6 enc Try.prog Try.f8 Rows.tcpMovedRow.domain false) (Rows.tcpMovedSpec.post enc Try.prog Try.f8 false true false false) := by
 refine returnsInHanded_of_change_sized (C := Try.checked) own started (by kernel_rfl) Try.func8
  (ChangeSpec.witness6 (enc := enc) (C := Try.checked) false ⟨#[], #[.int .u32 0, .int .u32 0, .slice none 0 0], []⟩ 8 (by kernel_rfl) (by kernel_rfl) (by kernel_rfl) (by kernel_rfl)) ?_
 intro W base args ds gs before hval0 hW hcnd hsz0 _
 have hval : ∀ (j : Nat) t v, Try.f8.params[j]? = some t → args[j]? = some v → Value.okWide Try.prog W .any base t v := hval0
 have hW' := hW
 obtain ⟨p, q, hA0, hV, rfl, hfz, hnd⟩ := hW
 have hA : DataW.TrodAll enc Try.prog W 0 (fun _ => true) true Try.f8.params.toList args.toList ds p := hA0
 have hsz : (DataW.weightsEach Try.prog (Try.f8.params.toList ++ Rows.tcpMovedSpec.plain.varTypes Try.prog) (ds ++ gs)).all (· ≤ reachBytes) = true := hsz0
 rw [Try.params8] at hA hval hsz
 obtain ⟨v0, vs0, d0, ds0, p0, q0, hargs, rfl, rfl, h0, r0⟩ := trodAll_cons hA
 obtain ⟨v1, vs1, d1, ds1, p1, q1, rfl, rfl, rfl, h1, r1⟩ := trodAll_cons r0
 obtain ⟨v2, vs2, d2, ds2, p2, q2, rfl, rfl, rfl, h2, r2⟩ := trodAll_cons r1
 obtain ⟨rfl, rfl, rfl⟩ := trodAll_nil r2
 obtain rfl : args = #[v0, v1, v2] := by cases args; simp_all
 obtain ⟨rfl, rfl⟩ := trodVars_none hV
 obtain ⟨x0, rfl, rfl, rfl, w0⟩ := open_int Try.underlying22 (hval 0 22 v0 rfl rfl) h0
 obtain ⟨x1, rfl, rfl, rfl, w1⟩ := open_int Try.underlying22 (hval 1 22 v1 rfl rfl) h1
 have lt2 : ∀ x ∈ p2, x.block < W.heap.size := by obtain ⟨m, hm⟩ := h2; exact DataW.trod_lt m _ _ _ hm
 have s2 : ∀ n ∈ d2.weights Try.prog 43, n ≤ reachBytes := fun n hn => by simpa using List.all_eq_true.1 hsz n (DataW.weights_mem_each (j := 2) (t := 43) rfl rfl n hn)
 obtain ⟨a2, c2, l2, rfl, lc2, cm2, w2⟩ := open_talks (hval 2 43 v2 rfl rfl) h2 s2
 clear hA0 hval0 hsz0
 refine (tcpMoved_walk x0 x1 a2 c2 l2 W (u32_tc w0) (u32_tc w1) lc2 cm2 w2).mono fun e W' ⟨he, bel⟩ => ?_
 subst he
 exact ⟨_, rfl, _, _, _, [], _, [], hW', trodAll_mk1 (shut_bool Try.underlying4 _), (trodAll_cons_mk (shut_int Try.underlying22 w0) (trodAll_cons_mk (shut_int Try.underlying22 w1) (trodAll_cons_mk (Below.trod laidOut (by kernel_rfl) (of_decide_eq_true (by kernel_rfl)) h2 bel lt2) trodAll_mk0))), rfl, bel.frame _, fun h => by cases h⟩
theorem over : Rows.tcpMovedRow.holds Try.pinned (OpenSpec.ofChange Rows.tcpMovedSpec) :=
 OpenClaim.holds_of_wide 8 Try.f8 rfl rfl rfl rfl rfl rfl rfl ⟨rfl, rfl, rfl, rfl, rfl⟩ rfl rfl rfl rfl rfl (by kernel_rfl) Try.func8 (by kernel_rfl)
  (of_decide_eq_true (by kernel_rfl)) (by unfold Func.isWrapper; first | (rw [if_pos (by decide +kernel)]; kernel_rfl) | (rw [if_neg (by decide +kernel)]; exact ⟨rfl, rfl⟩))
  (fun os started H enc _ => lifted os started H enc)
end Go.Proofs.Ytmmnjjcopdabcaa.tcpMoved
namespace Go.Proofs.Ytmmnjjcopdabcaa
theorem tcpMoved_holds : Rows.TcpMovedSaid := tcpMoved.over
end Go.Proofs.Ytmmnjjcopdabcaa
