/- For every input the law TcpTalks returns true and leaves its arguments as they were. -/
import Derived.Test.YtmmnjjcopdabcaaTcx14
import Derived.Test.YtmmnjjcopdabcaaTcx43
import Derived.Test.YtmmnjjcopdabcaaRows
import Derived.WalkKit
import Derived.ProofKit
import Derived.OpenShut
import Derived.ShutString
import Derived.ChangeOld
import Derived.Below
import Derived.SizedLaws
namespace Go.Proofs.Ytmmnjjcopdabcaa
abbrev tcx48o0 : Oper := { dst := none, op := Op.store 28 (.tmp 15) (.tmp 68), type := 0, pos := "law.go:89", after := #[{ on := 18, ground := Ground.data }, { on := 16, ground := Ground.data }, { on := 14, ground := Ground.chain }, { on := 0, ground := Ground.phase }, { on := 1, ground := Ground.phase }, { on := 2, ground := Ground.phase }, { on := 3, ground := Ground.phase }, { on := 4, ground := Ground.phase }, { on := 5, ground := Ground.phase }, { on := 6, ground := Ground.phase }, { on := 7, ground := Ground.phase }, { on := 8, ground := Ground.phase }, { on := 9, ground := Ground.phase }, { on := 10, ground := Ground.phase }, { on := 11, ground := Ground.phase }, { on := 12, ground := Ground.phase }, { on := 13, ground := Ground.phase }, { on := 14, ground := Ground.phase }, { on := 15, ground := Ground.phase }, { on := 16, ground := Ground.phase }, { on := 17, ground := Ground.textOnly Departure.lateStores }, { on := 18, ground := Ground.phase }], guard := none }
abbrev tcx48o1 : Oper := { dst := some 16, op := Op.assign (.tmp 69), type := 29, pos := "law.go:89", after := #[{ on := 17, ground := Ground.data }, { on := 19, ground := Ground.chain }, { on := 0, ground := Ground.phase }, { on := 1, ground := Ground.phase }, { on := 2, ground := Ground.phase }, { on := 3, ground := Ground.phase }, { on := 4, ground := Ground.phase }, { on := 5, ground := Ground.phase }, { on := 6, ground := Ground.phase }, { on := 7, ground := Ground.phase }, { on := 8, ground := Ground.phase }, { on := 9, ground := Ground.phase }, { on := 10, ground := Ground.phase }, { on := 11, ground := Ground.phase }, { on := 12, ground := Ground.phase }, { on := 13, ground := Ground.phase }, { on := 14, ground := Ground.phase }, { on := 15, ground := Ground.phase }, { on := 16, ground := Ground.phase }, { on := 17, ground := Ground.phase }, { on := 18, ground := Ground.phase }, { on := 19, ground := Ground.phase }], guard := none }
abbrev tcx48o2 : Oper := { dst := some 67, op := Op.call { callee := Callee.value (.func 17), args := #[.tmp 53, .tmp 54, .tmp 66], argTypes := #[28, 3, 39] }, type := 30, pos := "law.go:89", after := #[{ on := 0, ground := Ground.data }, { on := 1, ground := Ground.data }, { on := 13, ground := Ground.data }], guard := none }
abbrev tcx48o3 : Oper := { dst := some 69, op := Op.extract (.tmp 52) 1, type := 29, pos := "law.go:89", after := #[{ on := 15, ground := Ground.data }, { on := 19, ground := Ground.gcOnly Departure.lateStores }], guard := none }
abbrev tcx48o4 : Oper := { dst := some 66, op := Op.build 39 #[(0, .const (.int .i64 16)), (3, .tmp 57), (4, .tmp 61), (1, .tmp 64), (2, .tmp 65)], type := 39, pos := "law.go:89", after := #[{ on := 4, ground := Ground.data }, { on := 8, ground := Ground.data }, { on := 11, ground := Ground.data }, { on := 12, ground := Ground.data }], guard := none }
abbrev tcx48o5 : Oper := { dst := some 52, op := Op.move (.tmp 67), type := 30, pos := "law.go:89", after := #[{ on := 14, ground := Ground.data }], guard := none }
abbrev tcx48o6 : Oper := { dst := some 68, op := Op.extract (.tmp 52) 0, type := 28, pos := "law.go:89", after := #[{ on := 15, ground := Ground.data }], guard := none }
abbrev tcx48o7 : Oper := { dst := some 15, op := Op.alloc 28, type := 0, pos := "law.go:89", after := #[], guard := none }
abbrev tcx48o8 : Oper := { dst := some 59, op := Op.binOp BinOp.sub 3 (.const (.int .i64 1)) (.tmp 58) 3, type := 3, pos := "law.go:89", after := #[{ on := 5, ground := Ground.data }], guard := none }
abbrev tcx48o9 : Oper := { dst := some 56, op := Op.indexAddr 25 (.tmp 10) (.tmp 55), type := 0, pos := "law.go:89", after := #[{ on := 2, ground := Ground.data }], guard := none }
abbrev tcx48o10 : Oper := { dst := some 60, op := Op.indexAddr 25 (.tmp 10) (.tmp 59), type := 0, pos := "law.go:89", after := #[{ on := 6, ground := Ground.data }], guard := none }
abbrev tcx48o11 : Oper := { dst := some 63, op := Op.indexAddr 49 (.tmp 7) (.tmp 62), type := 0, pos := "law.go:89", after := #[{ on := 9, ground := Ground.data }], guard := none }
abbrev tcx48o12 : Oper := { dst := some 57, op := Op.load 22 (.tmp 56), type := 22, pos := "law.go:89", after := #[{ on := 3, ground := Ground.data }], guard := none }
abbrev tcx48o13 : Oper := { dst := some 61, op := Op.load 22 (.tmp 60), type := 22, pos := "law.go:89", after := #[{ on := 7, ground := Ground.data }], guard := none }
abbrev tcx48o14 : Oper := { dst := some 64, op := Op.load 3 (.tmp 63), type := 3, pos := "law.go:89", after := #[{ on := 10, ground := Ground.data }], guard := none }
abbrev tcx48o15 : Oper := { dst := some 53, op := Op.load 28 (.tmp 8), type := 28, pos := "law.go:89", after := #[], guard := none }
abbrev tcx48o16 : Oper := { dst := some 54, op := Op.move (.tmp 13), type := 3, pos := "law.go:89", after := #[], guard := none }
abbrev tcx48o17 : Oper := { dst := some 55, op := Op.move (.tmp 13), type := 3, pos := "law.go:89", after := #[], guard := none }
abbrev tcx48o18 : Oper := { dst := some 58, op := Op.move (.tmp 13), type := 3, pos := "law.go:89", after := #[], guard := none }
abbrev tcx48o19 : Oper := { dst := some 62, op := Op.move (.tmp 13), type := 3, pos := "law.go:89", after := #[], guard := none }
abbrev tcx48o20 : Oper := { dst := some 65, op := Op.move (.tmp 14), type := 3, pos := "law.go:89", after := #[], guard := none }
end Go.Proofs.Ytmmnjjcopdabcaa
namespace Go.Proofs.Ytmmnjjcopdabcaa
open Go.RowKit
set_option linter.unusedVariables false
set_option linter.unusedSimpArgs false
set_option maxRecDepth 100000 in
set_option maxHeartbeats 4000000 in
theorem tcpTalks_walk (a b : Int) (la : Option Addr) (lc : Nat) (l : List Int) (w : World) (ha : 0 ≤ a ∧ a < 4294967296) (hb : 0 ≤ b ∧ b < 4294967296) (hlc : l.length ≤ lc) (hcm : lc ≤ 140737488355328 ∧ l.length ≤ 140737488351232) (hrow : RowH w la l) :
  Calls Try.prog 7 #[.int .u32 a, .int .u32 b, .slice la l.length lc] w fun e w' => e = .returned (.bool true) ∧ Below w.heap.size w w' := by
 have KO : Hid (∀ W, Calls Try.prog 20 #[.int .u32 a, .int .u32 b, .agg #[.int .i64 20000, .int .i64 30000]] W fun e w' => e = .returned (.tuple #[.agg (opn a b 20000 30000).v, .bool true]) ∧ Below W.heap.size W w') := fun W => opened_tc a b 20000 30000 W (by decide) (by decide)
 have KL : Hid (∀ W, Calls Try.prog 12 #[] W fun e w' => e = .returned (.bool true) ∧ Below W.heap.size W w') := fun W => alive_tc W
 have KST : Hid (∀ (c : Cn) (i : Int) (g : Gt) (d : Cn), c.step i g = (d, 0) → ∀ W, Calls Try.prog 17 #[.agg c.v, .int .i64 i, .agg g.v] W fun e w' => e = .returned (.tuple #[.agg d.v, .int .i64 0]) ∧ Below W.heap.size W w') := fun c i g d h W => by have k := step_tc c i g W; rw [h] at k; exact k
 have HI : Hid (TalkI (opn a b 20000 30000) false) := talk_opn a b
 have HN0 : Hid ((opn a b 20000 30000).n0 = (a + 1) % 4294967296 ∧ (opn a b 20000 30000).n1 = (b + 1) % 4294967296) := ⟨rfl, rfl⟩
 have HRow : Hid (RowH w la l) := hrow
 have HL : Hid (l.length ≤ 140737488351232) := hcm.2
 obtain ⟨N, hN⟩ : ∃ N, l.length = N := ⟨_, rfl⟩
 have HN : Hid (l.length = N) := hN
 rw [hN] at HL ⊢
 clear hN hrow hlc hcm
 have hNl := HL.out
 generalize opn a b 20000 30000 = c at *
 have bw0 : Below w.heap.size w w := Below.refl _ _
 go_enter Try.func7, Try.ntmps7
 obtain ⟨Wk0, hWk0⟩ : ∃ W, w.alloc (.cells #[.int .i64 0, .int .i64 0] 49) = W := ⟨_, rfl⟩
 have Bbk0 := blk_nw hWk0
 have bk0 := bel_nw hWk0
 obtain ⟨Wk00, hWk00⟩ : ∃ W, Wk0.setRow w.heap.size #[.int .i64 20000, .int .i64 30000] = W := ⟨_, rfl⟩
 have Vk00 : Blk Wk00 w.heap.size 49 #[.int .i64 20000, .int .i64 30000] := hWk00 ▸ Bbk0.set _
 have bk00 := hWk00 ▸ below_setRow bk0 (Nat.le_refl _) #[.int .i64 20000, .int .i64 30000]
 go_wp2_with (first | (refine wpList_load_suba_w (by rfl) _ _ rfl w.heap.size 0 _ (by rfl) _ #[.int .i64 20000, .int .i64 30000] Vk00 (by rfl) Try.underlying49 (by kernel_rfl) ?_) | (refine wpList_store_row rfl _ _ _ rfl w.heap.size #[.int .i64 20000, .int .i64 30000] (by rfl) (by rfl) _ _ Bbk0 (by kernel_rfl) (by rfl) (by kernel_rfl) ?_; rw [hWk00]))
 refine Calls.mono (KO.out _) ?_
 rintro e Wk1 ⟨rfl, bb⟩
 have Vk1 := Vk00.kept bb
 have bk1 := bel_tr bk00 bb
 clear bb
 clear Vk00 bk00
 obtain ⟨Wyk2, hWyk2⟩ : ∃ W, Wk1.alloc (.cells #[.int .i64 0, .int .u32 0, .int .u32 0, .int .u32 0, .int .u32 0, .bool false, .bool false, .bool false, .bool false] 28) = W := ⟨_, rfl⟩
 have Bbyk2 := blk_nw hWyk2
 have Vyk2 := Vk1.al hWyk2
 have byk2 := bel_al bk1 hWyk2
 have gC : w.heap.size ≤ Wk1.heap.size := bk1.size
 have nVC : w.heap.size ≠ Wk1.heap.size := by have := Vk1.lt; omega
 have nCV : Wk1.heap.size ≠ w.heap.size := fun e => nVC e.symm
 obtain ⟨Wk2, hWk2⟩ : ∃ W, Wyk2.setRow Wk1.heap.size c.v = W := ⟨_, rfl⟩
 have Ck2 : Blk Wk2 Wk1.heap.size 28 c.v := hWk2 ▸ Bbyk2.set _
 have Vk2 := hWk2 ▸ Vyk2.other nVC c.v
 have bk2 := hWk2 ▸ below_setRow byk2 gC c.v
 clear Vyk2 byk2
 clear Vk1 bk1
 go_wp2_with (first | (refine wpList_load_suba_w (by rfl) _ _ rfl w.heap.size 0 _ (by rfl) _ #[.int .i64 20000, .int .i64 30000] Vk2 (by rfl) Try.underlying49 (by kernel_rfl) ?_) | (refine wpList_load_blk_w (by rfl) _ _ rfl Wk1.heap.size (by rfl) _ Ck2 Try.underlying28 (by kernel_rfl) ?_) | (refine wpList_store_row rfl _ _ _ rfl Wk1.heap.size c.v (by rfl) (by rfl) _ _ Bbyk2 (by kernel_rfl) (by rfl) (by kernel_rfl) ?_; rw [hWk2]))
 refine Calls.mono (KL.out _) ?_
 rintro e Wk3 ⟨rfl, bb⟩
 have Vk3 := Vk2.kept bb
 have Ck3 := Ck2.kept bb
 have bk3 := bel_tr bk2 bb
 clear bb
 clear Vk2 Ck2 bk2
 obtain ⟨Wyk4, hWyk4⟩ : ∃ W, Wk3.alloc (.cells #[.int .u32 0, .int .u32 0] 25) = W := ⟨_, rfl⟩
 have Bbyk4 := blk_nw hWyk4
 have Vyk4 := Vk3.al hWyk4
 have Cyk4 := Ck3.al hWyk4
 have byk4 := bel_al bk3 hWyk4
 have gN : w.heap.size ≤ Wk3.heap.size := bk3.size
 have nVN : w.heap.size ≠ Wk3.heap.size := by have := Vk3.lt; omega
 have nNV : Wk3.heap.size ≠ w.heap.size := fun e => nVN e.symm
 have nCN : Wk1.heap.size ≠ Wk3.heap.size := by have := Ck3.lt; omega
 have nNC : Wk3.heap.size ≠ Wk1.heap.size := fun e => nCN e.symm
 obtain ⟨Wk4, hWk4⟩ : ∃ W, Wyk4.setRow Wk3.heap.size #[.int .u32 ((a + 1) % 4294967296), .int .u32 ((b + 1) % 4294967296)] = W := ⟨_, rfl⟩
 have Nk4 : Blk Wk4 Wk3.heap.size 25 #[.int .u32 ((a + 1) % 4294967296), .int .u32 ((b + 1) % 4294967296)] := hWk4 ▸ Bbyk4.set _
 have Vk4 := hWk4 ▸ Vyk4.other nVN #[.int .u32 ((a + 1) % 4294967296), .int .u32 ((b + 1) % 4294967296)]
 have Ck4 := hWk4 ▸ Cyk4.other nCN #[.int .u32 ((a + 1) % 4294967296), .int .u32 ((b + 1) % 4294967296)]
 have bk4 := hWk4 ▸ below_setRow byk4 gN #[.int .u32 ((a + 1) % 4294967296), .int .u32 ((b + 1) % 4294967296)]
 clear Vyk4 Cyk4 byk4
 clear Vk3 Ck3 bk3
 go_wp2_with (first | (refine wpList_load_suba_w (by rfl) _ _ rfl w.heap.size 0 _ (by rfl) _ #[.int .i64 20000, .int .i64 30000] Vk4 (by rfl) Try.underlying49 (by kernel_rfl) ?_) | (refine wpList_load_blk_w (by rfl) _ _ rfl Wk1.heap.size (by rfl) _ Ck4 Try.underlying28 (by kernel_rfl) ?_) | (refine wpList_load_suba_w (by rfl) _ _ rfl Wk3.heap.size 0 _ (by rfl) _ #[.int .u32 ((a + 1) % 4294967296), .int .u32 ((b + 1) % 4294967296)] Nk4 (by rfl) Try.underlying25 (by kernel_rfl) ?_) | (refine wpList_store_row rfl _ _ _ rfl Wk3.heap.size #[.int .u32 ((a + 1) % 4294967296), .int .u32 ((b + 1) % 4294967296)] (by rfl) (by rfl) _ _ Bbyk4 (by kernel_rfl) (by rfl) (by kernel_rfl) ?_; rw [hWk4]))
 have Nk4 : Blk Wk4 Wk3.heap.size 25 #[.int .u32 c.n0, .int .u32 c.n1] := by rw [HN0.out.1, HN0.out.2]; exact Nk4
 clear HN0
 go_loopw [42] (fun i wr => ∃ (j : Nat) (d : Cn) (s : Bool), j ≤ N ∧ i = .int .i64 j ∧ Hid (TalkI d s) ∧ Hid (s = (j % 2 == 1)) ∧ Blk wr w.heap.size 49 #[.int .i64 20000, .int .i64 30000] ∧ Blk wr Wk1.heap.size 28 d.v ∧ Blk wr Wk3.heap.size 25 #[.int .u32 d.n0, .int .u32 d.n1] ∧ Below w.heap.size w wr) (fun i _ => N - (intOf i).toNat)
 case atStart => exact ⟨0, c, false, Nat.zero_le _, rfl, HI, rfl, Vk4, Ck4, Nk4, bk4⟩
 case round =>
  obtain ⟨j, c, s, hj, rfl, hI, hs, Vr, Cr, Nr, br⟩ := hrel
  obtain ⟨Wr, rfl⟩ : ∃ W, W = wr := ⟨_, rfl⟩
  clear HI
  by_cases hlt : j < N
  ·have ik : (j : Int) < (N : Int) := by omega
   have in0 : (0 : Int) ≤ (j : Int) := by omega
   obtain ⟨p, off, rfl, hcx⟩ := (HRow.out.low br).cells j (by rw [HN.out]; exact hlt)
   have hx : 0 ≤ l.getD j 0 ∧ l.getD j 0 < 65536 := by
    have hm : l.getD j 0 ∈ l := by
     have : j < l.length := by rw [HN.out]; exact hlt
     simp [List.getD_eq_getElem?_getD, List.getElem?_eq_getElem this]
    exact HRow.out.each _ hm
   generalize l.getD j 0 = x at *
   have hy : 0 ≤ x % 10000 ∧ x % 10000 < 10000 := by omega
   cases s with
   | false =>
    have hA : bits .and .i64 (j : Int) 1 = 0 := by rw [i64_and1t]; have := hs.out; simp at this; omega
    obtain ⟨d, hd, hI2, q0, q1⟩ := talk_0 hI.out hy
    have HI2 : Hid (TalkI d true) := hI2
    have KS : Hid _ := KST.out c 0 ⟨16, 20000, x % 10000, c.n0, c.n1⟩ d hd
    have e3 : (d.st != 3) = false := by rw [hI2.st]; rfl
    have HQ : Hid (d.n0 = (c.n0 + x % 10000) % 4294967296 ∧ d.n1 = c.n1) := ⟨q0, q1⟩
    clear hd hI2 q0 q1 hI
    go_wp2_with fail
    have Vd := Vr.drew
    have Cd := Cr.drew
    have Nd := Nr.drew
    have bd := br.drew
    refine wp_region_noPanic ?_
    refine wp_region_held_drew (S := fun w' => Blk w' w.heap.size 49 #[.int .i64 20000, .int .i64 30000] ∧ Blk w' Wk1.heap.size 28 c.v ∧ Blk w' Wk3.heap.size 25 #[.int .u32 c.n0, .int .u32 c.n1]) (by kernel_rfl) (by exact ⟨Vd, Cd, Nd⟩) (fun hHeld => ?_)
    obtain ⟨Wdr, hWdr⟩ : ∃ W, Wr.drew = W := ⟨_, rfl⟩
    rw [hWdr] at hHeld Vd Cd Nd bd ⊢
    refine qty (i := 0) (oi := tcx48o15) (v := (.agg c.v)) (yieldsIf_blk_w (by kernel_rfl) _ _ rfl Wk1.heap.size (by rfl) _ (fun _ hSw => hSw.2.1) Try.underlying28 (by kernel_rfl)) hHeld ?_
    try simp only [qpu]
    refine qtk (i := 1) (oi := tcx48o16) (v := (.int .i64 0)) hHeld ?_ ?_
    ·intro w9 hSw
     try dsimp only at hSw
     go_simp
    try simp only [qpu]
    refine qtk (i := 2) (oi := tcx48o17) (v := (.int .i64 0)) hHeld ?_ ?_
    ·intro w9 hSw
     try dsimp only at hSw
     go_simp
    try simp only [qpu]
    refine qtk (i := 3) (oi := tcx48o9) (v := (.pointer (some ⟨Wk3.heap.size, 0, none⟩))) hHeld ?_ ?_
    ·intro w9 hSw
     try dsimp only at hSw
     go_simp
    try simp only [qpu]
    refine qtk (i := 4) (oi := tcx48o12) (v := (.int .u32 c.n0)) hHeld ?_ ?_
    ·intro w9 hSw
     try dsimp only at hSw
     have hcc := hSw.2.2.cell 0 (.int .u32 c.n0) rfl
     go_simp
    try simp only [qpu]
    refine qtk (i := 5) (oi := tcx48o18) (v := (.int .i64 0)) hHeld ?_ ?_
    ·intro w9 hSw
     try dsimp only at hSw
     go_simp
    try simp only [qpu]
    refine qtk (i := 6) (oi := tcx48o8) (v := (.int .i64 1)) hHeld ?_ ?_
    ·intro w9 hSw
     try dsimp only at hSw
     go_simp
     try decide
    try simp only [qpu]
    refine qtk (i := 7) (oi := tcx48o10) (v := (.pointer (some ⟨Wk3.heap.size, 1, none⟩))) hHeld ?_ ?_
    ·intro w9 hSw
     try dsimp only at hSw
     go_simp
    try simp only [qpu]
    refine qtk (i := 8) (oi := tcx48o13) (v := (.int .u32 c.n1)) hHeld ?_ ?_
    ·intro w9 hSw
     try dsimp only at hSw
     have hcc := hSw.2.2.cell 1 (.int .u32 c.n1) rfl
     go_simp
    try simp only [qpu]
    refine qtk (i := 9) (oi := tcx48o19) (v := (.int .i64 0)) hHeld ?_ ?_
    ·intro w9 hSw
     try dsimp only at hSw
     go_simp
    try simp only [qpu]
    refine qtk (i := 10) (oi := tcx48o11) (v := (.pointer (some ⟨w.heap.size, 0, none⟩))) hHeld ?_ ?_
    ·intro w9 hSw
     try dsimp only at hSw
     go_simp
    try simp only [qpu]
    refine qtk (i := 11) (oi := tcx48o14) (v := (.int .i64 20000)) hHeld ?_ ?_
    ·intro w9 hSw
     try dsimp only at hSw
     have hcc := hSw.1.cell 0 (.int .i64 20000) rfl
     go_simp
    try simp only [qpu]
    refine qtk (i := 12) (oi := tcx48o20) (v := (.int .i64 (x % 10000))) hHeld ?_ ?_
    ·intro w9 hSw
     try dsimp only at hSw
     go_simp
    try simp only [qpu]
    refine qtk (i := 13) (oi := tcx48o4) (v := (.agg (Gt.v ⟨16, 20000, x % 10000, c.n0, c.n1⟩))) hHeld ?_ ?_
    ·intro w9 hSw
     try dsimp only at hSw
     go_simp
    try simp only [qpu]
    refine wpAnyH_ready (rs := [14, 18]) (by kernel_rfl) (by simp) ?_
    refine AllReadyH.cons (o := tcx48o2) rfl (fun K hK => ?_) (AllReadyH.cons (o := tcx48o7) rfl (fun K hK => ?_) AllReadyH.nil)
    ·go_simp
     refine Calls.mono (KS.out _) ?_
     rintro e Wx1 ⟨rfl, bb⟩
     have Vx1 := Vd.kept bb
     have Cx1 := Cd.kept bb
     have Nx1 := Nd.kept bb
     have bx1 := bel_tr bd bb
     clear bb
     refine hK.out _ _ (by exact ⟨Vx1, Cx1, Nx1⟩) (fun hHeld => ?_)
     clear hK K
     try simp only [qpu]
     refine qtk (i := 15) (oi := tcx48o5) (v := (.tuple #[.agg d.v, .int .i64 0])) hHeld ?_ ?_
     ·intro w9 hSw
      try dsimp only at hSw
      go_simp
     try simp only [qpu]
     refine qtk (i := 16) (oi := tcx48o6) (v := (.agg d.v)) hHeld ?_ ?_
     ·intro w9 hSw
      try dsimp only at hSw
      go_simp
     try simp only [qpu]
     refine qtk (i := 17) (oi := tcx48o3) (v := (.int .i64 0)) hHeld ?_ ?_
     ·intro w9 hSw
      try dsimp only at hSw
      go_simp
     try simp only [qpu]
     refine wpAnyH_ready (rs := [18]) (by kernel_rfl) (by simp) ?_
     refine AllReadyH.cons (o := tcx48o7) rfl (fun K hK => ?_) AllReadyH.nil
     go_simp
     obtain ⟨Wx2, hWx2⟩ : ∃ W, Wx1.alloc (.cells #[.int .i64 0, .int .u32 0, .int .u32 0, .int .u32 0, .int .u32 0, .bool false, .bool false, .bool false, .bool false] 28) = W := ⟨_, rfl⟩
     rw [hWx2]
     have Vx2 := Vx1.al hWx2
     have Cx2 := Cx1.al hWx2
     have Nx2 := Nx1.al hWx2
     have Yx2 := blk_nw hWx2
     have bx2 := bel_al bx1 hWx2
     have gY : w.heap.size ≤ Wx1.heap.size := bx1.size
     have nVY : w.heap.size ≠ Wx1.heap.size := by have := Vx1.lt; omega
     have nCY : Wk1.heap.size ≠ Wx1.heap.size := by have := Cx1.lt; omega
     have nNY : Wk3.heap.size ≠ Wx1.heap.size := by have := Nx1.lt; omega
     refine hK.out _ _ (by exact ⟨Vx2, Cx2, Nx2⟩) (fun hHeld => ?_)
     clear hK K
     try simp only [qpu]
     refine wpAnyH_ready (rs := [19]) (by kernel_rfl) (by simp) ?_
     refine AllReadyH.cons (o := tcx48o0) rfl (fun K hK => ?_) AllReadyH.nil
     refine step_store_blk rfl _ _ _ rfl Wx1.heap.size d.v _ (by rfl) (by rfl) Yx2 (by kernel_rfl) (by rfl) (by kernel_rfl) ?_
     obtain ⟨Wx3, hWx3⟩ : ∃ W, Wx2.setRow Wx1.heap.size d.v = W := ⟨_, rfl⟩
     rw [hWx3]
     have Vx3 := hWx3 ▸ Vx2.other nVY d.v
     have Cx3 := hWx3 ▸ Cx2.other nCY d.v
     have Nx3 := hWx3 ▸ Nx2.other nNY d.v
     have Yx3 : Blk Wx3 Wx1.heap.size 28 d.v := hWx3 ▸ Yx2.set d.v
     have bx3 := hWx3 ▸ below_setRow bx2 gY d.v
     refine hK.out _ _ (by exact ⟨Vx3, Cx3, Nx3⟩) (fun hHeld => ?_)
     clear hK K
     try simp only [qpu]
     refine qtk (i := 20) (oi := tcx48o1) (v := (.int .i64 0)) hHeld ?_ ?_
     ·intro w9 hSw
      try dsimp only at hSw
      go_simp
     try simp only [qpu]
     refine wpAnyH_done (by kernel_rfl) ?_ _
     refine NoPanic.normal ?_
     have y0 := Yx3.cell 0 (.int .i64 d.st) rfl
     have i0 := Nx3.cell 0 (.int .u32 c.n0) rfl
     have i1 := Nx3.cell 1 (.int .u32 c.n1) rfl
     have f0 := Nx3.frozen 0
     obtain ⟨Wx3s, hWx3s⟩ : ∃ W, Wx3.setCell ⟨Wk3.heap.size, 0, none⟩ (.int .u32 ((c.n0 + x % 10000) % 4294967296)) = W := ⟨_, rfl⟩
     have Nx3s : Blk Wx3s Wk3.heap.size 25 #[.int .u32 d.n0, .int .u32 d.n1] := by rw [HQ.out.1, HQ.out.2]; exact hWx3s ▸ Nx3.put 0 (.int .u32 ((c.n0 + x % 10000) % 4294967296))
     have Vx3s := hWx3s ▸ Vx3.put_other Nx3 nVN 0 (.int .u32 ((c.n0 + x % 10000) % 4294967296))
     have Cx3s := hWx3s ▸ Cx3.put_other Nx3 nCN 0 (.int .u32 ((c.n0 + x % 10000) % 4294967296))
     have Yx3s := hWx3s ▸ Yx3.put_other Nx3 (fun e => nNY e.symm) 0 (.int .u32 ((c.n0 + x % 10000) % 4294967296))
     have bx3s := hWx3s ▸ bx3.setCell (p := ⟨Wk3.heap.size, 0, none⟩) gN (.int .u32 ((c.n0 + x % 10000) % 4294967296))
     clear HQ
     have hne : ∀ W, (Op.equalIn 10000 25 (.agg #[.int .u32 d.n0, .int .u32 d.n1]) (.agg #[.int .u32 d.n0, .int .u32 d.n1])).run Try.prog W = .ok true W := fun W => by rw [eqU_tc 9998]; simp
     have Cf := Cx3s.set d.v
     have Vf := Vx3s.other nVC d.v
     have Nf := Nx3s.other (fun e => nCN e.symm) d.v
     have bf := below_setRow bx3s gC d.v
     go_wp2_with (first | (refine wpList_load_suba_w (by rfl) _ _ rfl Wx1.heap.size 1 _ (by rfl) _ #[.int .u32 d.n0, .int .u32 d.n1] Yx3s (by rfl) Try.underlying25 (by kernel_rfl) ?_) | (refine wpList_load_suba_w (by rfl) _ _ rfl Wk3.heap.size 0 _ (by rfl) _ #[.int .u32 d.n0, .int .u32 d.n1] Nx3s (by rfl) Try.underlying25 (by kernel_rfl) ?_) | (refine wpList_load_blk_w (by rfl) _ _ rfl Wx1.heap.size (by rfl) _ Yx3s Try.underlying28 (by kernel_rfl) ?_) | (refine wpList_store_row rfl _ _ _ rfl Wk1.heap.size d.v (by rfl) (by rfl) _ _ Cx3s (by kernel_rfl) (by rfl) (by kernel_rfl) ?_))
     exact ⟨⟨j + 1, d, true, by omega, by go_num, HI2, by have := hs.out; show _ = _; simp at this ⊢; omega, Vf, Cf, Nf, bf⟩, by simp [intOf]; omega⟩
    ·go_simp
     obtain ⟨Wx4, hWx4⟩ : ∃ W, Wdr.alloc (.cells #[.int .i64 0, .int .u32 0, .int .u32 0, .int .u32 0, .int .u32 0, .bool false, .bool false, .bool false, .bool false] 28) = W := ⟨_, rfl⟩
     rw [hWx4]
     have Vx4 := Vd.al hWx4
     have Cx4 := Cd.al hWx4
     have Nx4 := Nd.al hWx4
     have Y2_x4 := blk_nw hWx4
     have bx4 := bel_al bd hWx4
     have gY2_ : w.heap.size ≤ Wdr.heap.size := bd.size
     have nVY2_ : w.heap.size ≠ Wdr.heap.size := by have := Vd.lt; omega
     have nCY2_ : Wk1.heap.size ≠ Wdr.heap.size := by have := Cd.lt; omega
     have nNY2_ : Wk3.heap.size ≠ Wdr.heap.size := by have := Nd.lt; omega
     refine hK.out _ _ (by exact ⟨Vx4, Cx4, Nx4⟩) (fun hHeld => ?_)
     clear hK K
     try simp only [qpu]
     refine wpAnyH_ready (rs := [14]) (by kernel_rfl) (by simp) ?_
     refine AllReadyH.cons (o := tcx48o2) rfl (fun K hK => ?_) AllReadyH.nil
     go_simp
     refine Calls.mono (KS.out _) ?_
     rintro e Wx5 ⟨rfl, bb⟩
     have Vx5 := Vx4.kept bb
     have Cx5 := Cx4.kept bb
     have Nx5 := Nx4.kept bb
     have Y2_x5 := Y2_x4.kept bb
     have bx5 := bel_tr bx4 bb
     clear bb
     refine hK.out _ _ (by exact ⟨Vx5, Cx5, Nx5⟩) (fun hHeld => ?_)
     clear hK K
     try simp only [qpu]
     refine qtk (i := 15) (oi := tcx48o5) (v := (.tuple #[.agg d.v, .int .i64 0])) hHeld ?_ ?_
     ·intro w9 hSw
      try dsimp only at hSw
      go_simp
     try simp only [qpu]
     refine qtk (i := 16) (oi := tcx48o6) (v := (.agg d.v)) hHeld ?_ ?_
     ·intro w9 hSw
      try dsimp only at hSw
      go_simp
     try simp only [qpu]
     refine qtk (i := 17) (oi := tcx48o3) (v := (.int .i64 0)) hHeld ?_ ?_
     ·intro w9 hSw
      try dsimp only at hSw
      go_simp
     try simp only [qpu]
     refine wpAnyH_ready (rs := [19]) (by kernel_rfl) (by simp) ?_
     refine AllReadyH.cons (o := tcx48o0) rfl (fun K hK => ?_) AllReadyH.nil
     refine step_store_blk rfl _ _ _ rfl Wdr.heap.size d.v _ (by rfl) (by rfl) Y2_x5 (by kernel_rfl) (by rfl) (by kernel_rfl) ?_
     obtain ⟨Wx6, hWx6⟩ : ∃ W, Wx5.setRow Wdr.heap.size d.v = W := ⟨_, rfl⟩
     rw [hWx6]
     have Vx6 := hWx6 ▸ Vx5.other nVY2_ d.v
     have Cx6 := hWx6 ▸ Cx5.other nCY2_ d.v
     have Nx6 := hWx6 ▸ Nx5.other nNY2_ d.v
     have Y2_x6 : Blk Wx6 Wdr.heap.size 28 d.v := hWx6 ▸ Y2_x5.set d.v
     have bx6 := hWx6 ▸ below_setRow bx5 gY2_ d.v
     refine hK.out _ _ (by exact ⟨Vx6, Cx6, Nx6⟩) (fun hHeld => ?_)
     clear hK K
     try simp only [qpu]
     refine qtk (i := 20) (oi := tcx48o1) (v := (.int .i64 0)) hHeld ?_ ?_
     ·intro w9 hSw
      try dsimp only at hSw
      go_simp
     try simp only [qpu]
     refine wpAnyH_done (by kernel_rfl) ?_ _
     refine NoPanic.normal ?_
     have y0 := Y2_x6.cell 0 (.int .i64 d.st) rfl
     have i0 := Nx6.cell 0 (.int .u32 c.n0) rfl
     have i1 := Nx6.cell 1 (.int .u32 c.n1) rfl
     have f0 := Nx6.frozen 0
     obtain ⟨Wx6s, hWx6s⟩ : ∃ W, Wx6.setCell ⟨Wk3.heap.size, 0, none⟩ (.int .u32 ((c.n0 + x % 10000) % 4294967296)) = W := ⟨_, rfl⟩
     have Nx6s : Blk Wx6s Wk3.heap.size 25 #[.int .u32 d.n0, .int .u32 d.n1] := by rw [HQ.out.1, HQ.out.2]; exact hWx6s ▸ Nx6.put 0 (.int .u32 ((c.n0 + x % 10000) % 4294967296))
     have Vx6s := hWx6s ▸ Vx6.put_other Nx6 nVN 0 (.int .u32 ((c.n0 + x % 10000) % 4294967296))
     have Cx6s := hWx6s ▸ Cx6.put_other Nx6 nCN 0 (.int .u32 ((c.n0 + x % 10000) % 4294967296))
     have Y2_x6s := hWx6s ▸ Y2_x6.put_other Nx6 (fun e => nNY2_ e.symm) 0 (.int .u32 ((c.n0 + x % 10000) % 4294967296))
     have bx6s := hWx6s ▸ bx6.setCell (p := ⟨Wk3.heap.size, 0, none⟩) gN (.int .u32 ((c.n0 + x % 10000) % 4294967296))
     clear HQ
     have hne : ∀ W, (Op.equalIn 10000 25 (.agg #[.int .u32 d.n0, .int .u32 d.n1]) (.agg #[.int .u32 d.n0, .int .u32 d.n1])).run Try.prog W = .ok true W := fun W => by rw [eqU_tc 9998]; simp
     have Cf := Cx6s.set d.v
     have Vf := Vx6s.other nVC d.v
     have Nf := Nx6s.other (fun e => nCN e.symm) d.v
     have bf := below_setRow bx6s gC d.v
     go_wp2_with (first | (refine wpList_load_suba_w (by rfl) _ _ rfl Wdr.heap.size 1 _ (by rfl) _ #[.int .u32 d.n0, .int .u32 d.n1] Y2_x6s (by rfl) Try.underlying25 (by kernel_rfl) ?_) | (refine wpList_load_suba_w (by rfl) _ _ rfl Wk3.heap.size 0 _ (by rfl) _ #[.int .u32 d.n0, .int .u32 d.n1] Nx6s (by rfl) Try.underlying25 (by kernel_rfl) ?_) | (refine wpList_load_blk_w (by rfl) _ _ rfl Wdr.heap.size (by rfl) _ Y2_x6s Try.underlying28 (by kernel_rfl) ?_) | (refine wpList_store_row rfl _ _ _ rfl Wk1.heap.size d.v (by rfl) (by rfl) _ _ Cx6s (by kernel_rfl) (by rfl) (by kernel_rfl) ?_))
     exact ⟨⟨j + 1, d, true, by omega, by go_num, HI2, by have := hs.out; show _ = _; simp at this ⊢; omega, Vf, Cf, Nf, bf⟩, by simp [intOf]; omega⟩

   | true =>
    have hA : bits .and .i64 (j : Int) 1 = 1 := by rw [i64_and1t]; have := hs.out; simp at this; omega
    obtain ⟨d, hd, hI2, q0, q1⟩ := talk_1 hI.out hy
    have HI2 : Hid (TalkI d false) := hI2
    have KS : Hid _ := KST.out c 1 ⟨16, 30000, x % 10000, c.n1, c.n0⟩ d hd
    have e3 : (d.st != 3) = false := by rw [hI2.st]; rfl
    have HQ : Hid (d.n0 = c.n0 ∧ d.n1 = (c.n1 + x % 10000) % 4294967296) := ⟨q0, q1⟩
    clear hd hI2 q0 q1 hI
    go_wp2_with fail
    have Vd := Vr.drew
    have Cd := Cr.drew
    have Nd := Nr.drew
    have bd := br.drew
    refine wp_region_noPanic ?_
    refine wp_region_held_drew (S := fun w' => Blk w' w.heap.size 49 #[.int .i64 20000, .int .i64 30000] ∧ Blk w' Wk1.heap.size 28 c.v ∧ Blk w' Wk3.heap.size 25 #[.int .u32 c.n0, .int .u32 c.n1]) (by kernel_rfl) (by exact ⟨Vd, Cd, Nd⟩) (fun hHeld => ?_)
    obtain ⟨Wdr, hWdr⟩ : ∃ W, Wr.drew = W := ⟨_, rfl⟩
    rw [hWdr] at hHeld Vd Cd Nd bd ⊢
    refine qty (i := 0) (oi := tcx48o15) (v := (.agg c.v)) (yieldsIf_blk_w (by kernel_rfl) _ _ rfl Wk1.heap.size (by rfl) _ (fun _ hSw => hSw.2.1) Try.underlying28 (by kernel_rfl)) hHeld ?_
    try simp only [qpu]
    refine qtk (i := 1) (oi := tcx48o16) (v := (.int .i64 1)) hHeld ?_ ?_
    ·intro w9 hSw
     try dsimp only at hSw
     go_simp
    try simp only [qpu]
    refine qtk (i := 2) (oi := tcx48o17) (v := (.int .i64 1)) hHeld ?_ ?_
    ·intro w9 hSw
     try dsimp only at hSw
     go_simp
    try simp only [qpu]
    refine qtk (i := 3) (oi := tcx48o9) (v := (.pointer (some ⟨Wk3.heap.size, 1, none⟩))) hHeld ?_ ?_
    ·intro w9 hSw
     try dsimp only at hSw
     go_simp
    try simp only [qpu]
    refine qtk (i := 4) (oi := tcx48o12) (v := (.int .u32 c.n1)) hHeld ?_ ?_
    ·intro w9 hSw
     try dsimp only at hSw
     have hcc := hSw.2.2.cell 1 (.int .u32 c.n1) rfl
     go_simp
    try simp only [qpu]
    refine qtk (i := 5) (oi := tcx48o18) (v := (.int .i64 1)) hHeld ?_ ?_
    ·intro w9 hSw
     try dsimp only at hSw
     go_simp
    try simp only [qpu]
    refine qtk (i := 6) (oi := tcx48o8) (v := (.int .i64 0)) hHeld ?_ ?_
    ·intro w9 hSw
     try dsimp only at hSw
     go_simp
     try decide
    try simp only [qpu]
    refine qtk (i := 7) (oi := tcx48o10) (v := (.pointer (some ⟨Wk3.heap.size, 0, none⟩))) hHeld ?_ ?_
    ·intro w9 hSw
     try dsimp only at hSw
     go_simp
    try simp only [qpu]
    refine qtk (i := 8) (oi := tcx48o13) (v := (.int .u32 c.n0)) hHeld ?_ ?_
    ·intro w9 hSw
     try dsimp only at hSw
     have hcc := hSw.2.2.cell 0 (.int .u32 c.n0) rfl
     go_simp
    try simp only [qpu]
    refine qtk (i := 9) (oi := tcx48o19) (v := (.int .i64 1)) hHeld ?_ ?_
    ·intro w9 hSw
     try dsimp only at hSw
     go_simp
    try simp only [qpu]
    refine qtk (i := 10) (oi := tcx48o11) (v := (.pointer (some ⟨w.heap.size, 1, none⟩))) hHeld ?_ ?_
    ·intro w9 hSw
     try dsimp only at hSw
     go_simp
    try simp only [qpu]
    refine qtk (i := 11) (oi := tcx48o14) (v := (.int .i64 30000)) hHeld ?_ ?_
    ·intro w9 hSw
     try dsimp only at hSw
     have hcc := hSw.1.cell 1 (.int .i64 30000) rfl
     go_simp
    try simp only [qpu]
    refine qtk (i := 12) (oi := tcx48o20) (v := (.int .i64 (x % 10000))) hHeld ?_ ?_
    ·intro w9 hSw
     try dsimp only at hSw
     go_simp
    try simp only [qpu]
    refine qtk (i := 13) (oi := tcx48o4) (v := (.agg (Gt.v ⟨16, 30000, x % 10000, c.n1, c.n0⟩))) hHeld ?_ ?_
    ·intro w9 hSw
     try dsimp only at hSw
     go_simp
    try simp only [qpu]
    refine wpAnyH_ready (rs := [14, 18]) (by kernel_rfl) (by simp) ?_
    refine AllReadyH.cons (o := tcx48o2) rfl (fun K hK => ?_) (AllReadyH.cons (o := tcx48o7) rfl (fun K hK => ?_) AllReadyH.nil)
    ·go_simp
     refine Calls.mono (KS.out _) ?_
     rintro e Wx1 ⟨rfl, bb⟩
     have Vx1 := Vd.kept bb
     have Cx1 := Cd.kept bb
     have Nx1 := Nd.kept bb
     have bx1 := bel_tr bd bb
     clear bb
     refine hK.out _ _ (by exact ⟨Vx1, Cx1, Nx1⟩) (fun hHeld => ?_)
     clear hK K
     try simp only [qpu]
     refine qtk (i := 15) (oi := tcx48o5) (v := (.tuple #[.agg d.v, .int .i64 0])) hHeld ?_ ?_
     ·intro w9 hSw
      try dsimp only at hSw
      go_simp
     try simp only [qpu]
     refine qtk (i := 16) (oi := tcx48o6) (v := (.agg d.v)) hHeld ?_ ?_
     ·intro w9 hSw
      try dsimp only at hSw
      go_simp
     try simp only [qpu]
     refine qtk (i := 17) (oi := tcx48o3) (v := (.int .i64 0)) hHeld ?_ ?_
     ·intro w9 hSw
      try dsimp only at hSw
      go_simp
     try simp only [qpu]
     refine wpAnyH_ready (rs := [18]) (by kernel_rfl) (by simp) ?_
     refine AllReadyH.cons (o := tcx48o7) rfl (fun K hK => ?_) AllReadyH.nil
     go_simp
     obtain ⟨Wx2, hWx2⟩ : ∃ W, Wx1.alloc (.cells #[.int .i64 0, .int .u32 0, .int .u32 0, .int .u32 0, .int .u32 0, .bool false, .bool false, .bool false, .bool false] 28) = W := ⟨_, rfl⟩
     rw [hWx2]
     have Vx2 := Vx1.al hWx2
     have Cx2 := Cx1.al hWx2
     have Nx2 := Nx1.al hWx2
     have Yx2 := blk_nw hWx2
     have bx2 := bel_al bx1 hWx2
     have gY : w.heap.size ≤ Wx1.heap.size := bx1.size
     have nVY : w.heap.size ≠ Wx1.heap.size := by have := Vx1.lt; omega
     have nCY : Wk1.heap.size ≠ Wx1.heap.size := by have := Cx1.lt; omega
     have nNY : Wk3.heap.size ≠ Wx1.heap.size := by have := Nx1.lt; omega
     refine hK.out _ _ (by exact ⟨Vx2, Cx2, Nx2⟩) (fun hHeld => ?_)
     clear hK K
     try simp only [qpu]
     refine wpAnyH_ready (rs := [19]) (by kernel_rfl) (by simp) ?_
     refine AllReadyH.cons (o := tcx48o0) rfl (fun K hK => ?_) AllReadyH.nil
     refine step_store_blk rfl _ _ _ rfl Wx1.heap.size d.v _ (by rfl) (by rfl) Yx2 (by kernel_rfl) (by rfl) (by kernel_rfl) ?_
     obtain ⟨Wx3, hWx3⟩ : ∃ W, Wx2.setRow Wx1.heap.size d.v = W := ⟨_, rfl⟩
     rw [hWx3]
     have Vx3 := hWx3 ▸ Vx2.other nVY d.v
     have Cx3 := hWx3 ▸ Cx2.other nCY d.v
     have Nx3 := hWx3 ▸ Nx2.other nNY d.v
     have Yx3 : Blk Wx3 Wx1.heap.size 28 d.v := hWx3 ▸ Yx2.set d.v
     have bx3 := hWx3 ▸ below_setRow bx2 gY d.v
     refine hK.out _ _ (by exact ⟨Vx3, Cx3, Nx3⟩) (fun hHeld => ?_)
     clear hK K
     try simp only [qpu]
     refine qtk (i := 20) (oi := tcx48o1) (v := (.int .i64 0)) hHeld ?_ ?_
     ·intro w9 hSw
      try dsimp only at hSw
      go_simp
     try simp only [qpu]
     refine wpAnyH_done (by kernel_rfl) ?_ _
     refine NoPanic.normal ?_
     have y0 := Yx3.cell 0 (.int .i64 d.st) rfl
     have i0 := Nx3.cell 0 (.int .u32 c.n0) rfl
     have i1 := Nx3.cell 1 (.int .u32 c.n1) rfl
     have f1 := Nx3.frozen 1
     obtain ⟨Wx3s, hWx3s⟩ : ∃ W, Wx3.setCell ⟨Wk3.heap.size, 1, none⟩ (.int .u32 ((c.n1 + x % 10000) % 4294967296)) = W := ⟨_, rfl⟩
     have Nx3s : Blk Wx3s Wk3.heap.size 25 #[.int .u32 d.n0, .int .u32 d.n1] := by rw [HQ.out.1, HQ.out.2]; exact hWx3s ▸ Nx3.put 1 (.int .u32 ((c.n1 + x % 10000) % 4294967296))
     have Vx3s := hWx3s ▸ Vx3.put_other Nx3 nVN 1 (.int .u32 ((c.n1 + x % 10000) % 4294967296))
     have Cx3s := hWx3s ▸ Cx3.put_other Nx3 nCN 1 (.int .u32 ((c.n1 + x % 10000) % 4294967296))
     have Yx3s := hWx3s ▸ Yx3.put_other Nx3 (fun e => nNY e.symm) 1 (.int .u32 ((c.n1 + x % 10000) % 4294967296))
     have bx3s := hWx3s ▸ bx3.setCell (p := ⟨Wk3.heap.size, 1, none⟩) gN (.int .u32 ((c.n1 + x % 10000) % 4294967296))
     clear HQ
     have hne : ∀ W, (Op.equalIn 10000 25 (.agg #[.int .u32 d.n0, .int .u32 d.n1]) (.agg #[.int .u32 d.n0, .int .u32 d.n1])).run Try.prog W = .ok true W := fun W => by rw [eqU_tc 9998]; simp
     have Cf := Cx3s.set d.v
     have Vf := Vx3s.other nVC d.v
     have Nf := Nx3s.other (fun e => nCN e.symm) d.v
     have bf := below_setRow bx3s gC d.v
     go_wp2_with (first | (refine wpList_load_suba_w (by rfl) _ _ rfl Wx1.heap.size 1 _ (by rfl) _ #[.int .u32 d.n0, .int .u32 d.n1] Yx3s (by rfl) Try.underlying25 (by kernel_rfl) ?_) | (refine wpList_load_suba_w (by rfl) _ _ rfl Wk3.heap.size 0 _ (by rfl) _ #[.int .u32 d.n0, .int .u32 d.n1] Nx3s (by rfl) Try.underlying25 (by kernel_rfl) ?_) | (refine wpList_load_blk_w (by rfl) _ _ rfl Wx1.heap.size (by rfl) _ Yx3s Try.underlying28 (by kernel_rfl) ?_) | (refine wpList_store_row rfl _ _ _ rfl Wk1.heap.size d.v (by rfl) (by rfl) _ _ Cx3s (by kernel_rfl) (by rfl) (by kernel_rfl) ?_))
     exact ⟨⟨j + 1, d, false, by omega, by go_num, HI2, by have := hs.out; show _ = _; simp at this ⊢; omega, Vf, Cf, Nf, bf⟩, by simp [intOf]; omega⟩
    ·go_simp
     obtain ⟨Wx4, hWx4⟩ : ∃ W, Wdr.alloc (.cells #[.int .i64 0, .int .u32 0, .int .u32 0, .int .u32 0, .int .u32 0, .bool false, .bool false, .bool false, .bool false] 28) = W := ⟨_, rfl⟩
     rw [hWx4]
     have Vx4 := Vd.al hWx4
     have Cx4 := Cd.al hWx4
     have Nx4 := Nd.al hWx4
     have Y2_x4 := blk_nw hWx4
     have bx4 := bel_al bd hWx4
     have gY2_ : w.heap.size ≤ Wdr.heap.size := bd.size
     have nVY2_ : w.heap.size ≠ Wdr.heap.size := by have := Vd.lt; omega
     have nCY2_ : Wk1.heap.size ≠ Wdr.heap.size := by have := Cd.lt; omega
     have nNY2_ : Wk3.heap.size ≠ Wdr.heap.size := by have := Nd.lt; omega
     refine hK.out _ _ (by exact ⟨Vx4, Cx4, Nx4⟩) (fun hHeld => ?_)
     clear hK K
     try simp only [qpu]
     refine wpAnyH_ready (rs := [14]) (by kernel_rfl) (by simp) ?_
     refine AllReadyH.cons (o := tcx48o2) rfl (fun K hK => ?_) AllReadyH.nil
     go_simp
     refine Calls.mono (KS.out _) ?_
     rintro e Wx5 ⟨rfl, bb⟩
     have Vx5 := Vx4.kept bb
     have Cx5 := Cx4.kept bb
     have Nx5 := Nx4.kept bb
     have Y2_x5 := Y2_x4.kept bb
     have bx5 := bel_tr bx4 bb
     clear bb
     refine hK.out _ _ (by exact ⟨Vx5, Cx5, Nx5⟩) (fun hHeld => ?_)
     clear hK K
     try simp only [qpu]
     refine qtk (i := 15) (oi := tcx48o5) (v := (.tuple #[.agg d.v, .int .i64 0])) hHeld ?_ ?_
     ·intro w9 hSw
      try dsimp only at hSw
      go_simp
     try simp only [qpu]
     refine qtk (i := 16) (oi := tcx48o6) (v := (.agg d.v)) hHeld ?_ ?_
     ·intro w9 hSw
      try dsimp only at hSw
      go_simp
     try simp only [qpu]
     refine qtk (i := 17) (oi := tcx48o3) (v := (.int .i64 0)) hHeld ?_ ?_
     ·intro w9 hSw
      try dsimp only at hSw
      go_simp
     try simp only [qpu]
     refine wpAnyH_ready (rs := [19]) (by kernel_rfl) (by simp) ?_
     refine AllReadyH.cons (o := tcx48o0) rfl (fun K hK => ?_) AllReadyH.nil
     refine step_store_blk rfl _ _ _ rfl Wdr.heap.size d.v _ (by rfl) (by rfl) Y2_x5 (by kernel_rfl) (by rfl) (by kernel_rfl) ?_
     obtain ⟨Wx6, hWx6⟩ : ∃ W, Wx5.setRow Wdr.heap.size d.v = W := ⟨_, rfl⟩
     rw [hWx6]
     have Vx6 := hWx6 ▸ Vx5.other nVY2_ d.v
     have Cx6 := hWx6 ▸ Cx5.other nCY2_ d.v
     have Nx6 := hWx6 ▸ Nx5.other nNY2_ d.v
     have Y2_x6 : Blk Wx6 Wdr.heap.size 28 d.v := hWx6 ▸ Y2_x5.set d.v
     have bx6 := hWx6 ▸ below_setRow bx5 gY2_ d.v
     refine hK.out _ _ (by exact ⟨Vx6, Cx6, Nx6⟩) (fun hHeld => ?_)
     clear hK K
     try simp only [qpu]
     refine qtk (i := 20) (oi := tcx48o1) (v := (.int .i64 0)) hHeld ?_ ?_
     ·intro w9 hSw
      try dsimp only at hSw
      go_simp
     try simp only [qpu]
     refine wpAnyH_done (by kernel_rfl) ?_ _
     refine NoPanic.normal ?_
     have y0 := Y2_x6.cell 0 (.int .i64 d.st) rfl
     have i0 := Nx6.cell 0 (.int .u32 c.n0) rfl
     have i1 := Nx6.cell 1 (.int .u32 c.n1) rfl
     have f1 := Nx6.frozen 1
     obtain ⟨Wx6s, hWx6s⟩ : ∃ W, Wx6.setCell ⟨Wk3.heap.size, 1, none⟩ (.int .u32 ((c.n1 + x % 10000) % 4294967296)) = W := ⟨_, rfl⟩
     have Nx6s : Blk Wx6s Wk3.heap.size 25 #[.int .u32 d.n0, .int .u32 d.n1] := by rw [HQ.out.1, HQ.out.2]; exact hWx6s ▸ Nx6.put 1 (.int .u32 ((c.n1 + x % 10000) % 4294967296))
     have Vx6s := hWx6s ▸ Vx6.put_other Nx6 nVN 1 (.int .u32 ((c.n1 + x % 10000) % 4294967296))
     have Cx6s := hWx6s ▸ Cx6.put_other Nx6 nCN 1 (.int .u32 ((c.n1 + x % 10000) % 4294967296))
     have Y2_x6s := hWx6s ▸ Y2_x6.put_other Nx6 (fun e => nNY2_ e.symm) 1 (.int .u32 ((c.n1 + x % 10000) % 4294967296))
     have bx6s := hWx6s ▸ bx6.setCell (p := ⟨Wk3.heap.size, 1, none⟩) gN (.int .u32 ((c.n1 + x % 10000) % 4294967296))
     clear HQ
     have hne : ∀ W, (Op.equalIn 10000 25 (.agg #[.int .u32 d.n0, .int .u32 d.n1]) (.agg #[.int .u32 d.n0, .int .u32 d.n1])).run Try.prog W = .ok true W := fun W => by rw [eqU_tc 9998]; simp
     have Cf := Cx6s.set d.v
     have Vf := Vx6s.other nVC d.v
     have Nf := Nx6s.other (fun e => nCN e.symm) d.v
     have bf := below_setRow bx6s gC d.v
     go_wp2_with (first | (refine wpList_load_suba_w (by rfl) _ _ rfl Wdr.heap.size 1 _ (by rfl) _ #[.int .u32 d.n0, .int .u32 d.n1] Y2_x6s (by rfl) Try.underlying25 (by kernel_rfl) ?_) | (refine wpList_load_suba_w (by rfl) _ _ rfl Wk3.heap.size 0 _ (by rfl) _ #[.int .u32 d.n0, .int .u32 d.n1] Nx6s (by rfl) Try.underlying25 (by kernel_rfl) ?_) | (refine wpList_load_blk_w (by rfl) _ _ rfl Wdr.heap.size (by rfl) _ Y2_x6s Try.underlying28 (by kernel_rfl) ?_) | (refine wpList_store_row rfl _ _ _ rfl Wk1.heap.size d.v (by rfl) (by rfl) _ _ Cx6s (by kernel_rfl) (by rfl) (by kernel_rfl) ?_))
     exact ⟨⟨j + 1, d, false, by omega, by go_num, HI2, by have := hs.out; show _ = _; simp at this ⊢; omega, Vf, Cf, Nf, bf⟩, by simp [intOf]; omega⟩

  ·have ik : ¬ (j : Int) < (N : Int) := by omega
   obtain ⟨d, e, hd, h4, he, h5⟩ := talk_end hI.out
   have K1 : Hid _ := KST.out c 0 ⟨17, 20000, 0, c.n0, c.n1⟩ d hd
   have K2 : Hid _ := KST.out d 1 ⟨17, 30000, 0, c.n1, (c.n0 + 1) % 4294967296⟩ e he
   have h4' : (d.st == 4) = true := by rw [h4]; rfl
   have h5' : (e.st == 5) = true := by rw [h5]; rfl
   clear hd h4 he h5 hI
   have v0 := Vr.cell 0 (.int .i64 20000) rfl
   have v1 := Vr.cell 1 (.int .i64 30000) rfl
   have i0 := Nr.cell 0 (.int .u32 c.n0) rfl
   have i1 := Nr.cell 1 (.int .u32 c.n1) rfl
   go_wp2_with (first | (refine wpList_load_suba_w (by rfl) _ _ rfl w.heap.size 0 _ (by rfl) _ #[.int .i64 20000, .int .i64 30000] Vr (by rfl) Try.underlying49 (by kernel_rfl) ?_) | (refine wpList_load_blk_w (by rfl) _ _ rfl Wk1.heap.size (by rfl) _ Cr Try.underlying28 (by kernel_rfl) ?_) | (refine wpList_load_suba_w (by rfl) _ _ rfl Wk3.heap.size 0 _ (by rfl) _ #[.int .u32 c.n0, .int .u32 c.n1] Nr (by rfl) Try.underlying25 (by kernel_rfl) ?_))
   refine Calls.mono (K1.out _) ?_
   rintro e Wm1 ⟨rfl, bb⟩
   have Vm1 := Vr.kept bb
   have Cm1 := Cr.kept bb
   have Nm1 := Nr.kept bb
   have bm1 := bel_tr br bb
   clear bb
   clear Vr Cr Nr br
   obtain ⟨Wym2, hWym2⟩ : ∃ W, Wm1.alloc (.cells #[.int .i64 0, .int .u32 0, .int .u32 0, .int .u32 0, .int .u32 0, .bool false, .bool false, .bool false, .bool false] 28) = W := ⟨_, rfl⟩
   have Bbym2 := blk_nw hWym2
   have Vym2 := Vm1.al hWym2
   have Cym2 := Cm1.al hWym2
   have Nym2 := Nm1.al hWym2
   have bym2 := bel_al bm1 hWym2
   have gD : w.heap.size ≤ Wm1.heap.size := bm1.size
   have nVD : w.heap.size ≠ Wm1.heap.size := by have := Vm1.lt; omega
   have nDV : Wm1.heap.size ≠ w.heap.size := fun e => nVD e.symm
   have nCD : Wk1.heap.size ≠ Wm1.heap.size := by have := Cm1.lt; omega
   have nDC : Wm1.heap.size ≠ Wk1.heap.size := fun e => nCD e.symm
   have nND : Wk3.heap.size ≠ Wm1.heap.size := by have := Nm1.lt; omega
   have nDN : Wm1.heap.size ≠ Wk3.heap.size := fun e => nND e.symm
   obtain ⟨Wm2, hWm2⟩ : ∃ W, Wym2.setRow Wm1.heap.size d.v = W := ⟨_, rfl⟩
   have Dm2 : Blk Wm2 Wm1.heap.size 28 d.v := hWm2 ▸ Bbym2.set _
   have Vm2 := hWm2 ▸ Vym2.other nVD d.v
   have Cm2 := hWm2 ▸ Cym2.other nCD d.v
   have Nm2 := hWm2 ▸ Nym2.other nND d.v
   have bm2 := hWm2 ▸ below_setRow bym2 gD d.v
   clear Vym2 Cym2 Nym2 bym2
   clear Vm1 Cm1 Nm1 bm1
   have v0 := Vm2.cell 0 (.int .i64 20000) rfl
   have v1 := Vm2.cell 1 (.int .i64 30000) rfl
   have i0 := Nm2.cell 0 (.int .u32 c.n0) rfl
   have i1 := Nm2.cell 1 (.int .u32 c.n1) rfl
   go_wp2_with (first | (refine wpList_load_suba_w (by rfl) _ _ rfl w.heap.size 0 _ (by rfl) _ #[.int .i64 20000, .int .i64 30000] Vm2 (by rfl) Try.underlying49 (by kernel_rfl) ?_) | (refine wpList_load_blk_w (by rfl) _ _ rfl Wk1.heap.size (by rfl) _ Cm2 Try.underlying28 (by kernel_rfl) ?_) | (refine wpList_load_suba_w (by rfl) _ _ rfl Wk3.heap.size 0 _ (by rfl) _ #[.int .u32 c.n0, .int .u32 c.n1] Nm2 (by rfl) Try.underlying25 (by kernel_rfl) ?_) | (refine wpList_load_blk_w (by rfl) _ _ rfl Wm1.heap.size (by rfl) _ Dm2 Try.underlying28 (by kernel_rfl) ?_) | (refine wpList_store_row rfl _ _ _ rfl Wm1.heap.size d.v (by rfl) (by rfl) _ _ Bbym2 (by kernel_rfl) (by rfl) (by kernel_rfl) ?_; rw [hWm2]))
   refine Calls.mono (K2.out _) ?_
   rintro e Wm3 ⟨rfl, bb⟩
   have Vm3 := Vm2.kept bb
   have Cm3 := Cm2.kept bb
   have Nm3 := Nm2.kept bb
   have Dm3 := Dm2.kept bb
   have bm3 := bel_tr bm2 bb
   clear bb
   clear Vm2 Cm2 Nm2 Dm2 bm2
   obtain ⟨Wym4, hWym4⟩ : ∃ W, Wm3.alloc (.cells #[.int .i64 0, .int .u32 0, .int .u32 0, .int .u32 0, .int .u32 0, .bool false, .bool false, .bool false, .bool false] 28) = W := ⟨_, rfl⟩
   have Bbym4 := blk_nw hWym4
   have Vym4 := Vm3.al hWym4
   have Cym4 := Cm3.al hWym4
   have Nym4 := Nm3.al hWym4
   have Dym4 := Dm3.al hWym4
   have bym4 := bel_al bm3 hWym4
   have gE : w.heap.size ≤ Wm3.heap.size := bm3.size
   have nVE : w.heap.size ≠ Wm3.heap.size := by have := Vm3.lt; omega
   have nEV : Wm3.heap.size ≠ w.heap.size := fun e => nVE e.symm
   have nCE : Wk1.heap.size ≠ Wm3.heap.size := by have := Cm3.lt; omega
   have nEC : Wm3.heap.size ≠ Wk1.heap.size := fun e => nCE e.symm
   have nNE : Wk3.heap.size ≠ Wm3.heap.size := by have := Nm3.lt; omega
   have nEN : Wm3.heap.size ≠ Wk3.heap.size := fun e => nNE e.symm
   have nDE : Wm1.heap.size ≠ Wm3.heap.size := by have := Dm3.lt; omega
   have nED : Wm3.heap.size ≠ Wm1.heap.size := fun e => nDE e.symm
   obtain ⟨Wm4, hWm4⟩ : ∃ W, Wym4.setRow Wm3.heap.size e.v = W := ⟨_, rfl⟩
   have Em4 : Blk Wm4 Wm3.heap.size 28 e.v := hWm4 ▸ Bbym4.set _
   have Vm4 := hWm4 ▸ Vym4.other nVE e.v
   have Cm4 := hWm4 ▸ Cym4.other nCE e.v
   have Nm4 := hWm4 ▸ Nym4.other nNE e.v
   have Dm4 := hWm4 ▸ Dym4.other nDE e.v
   have bm4 := hWm4 ▸ below_setRow bym4 gE e.v
   clear Vym4 Cym4 Nym4 Dym4 bym4
   clear Vm3 Cm3 Nm3 Dm3 bm3
   have x0 := Dm4.cell 0 (.int .i64 d.st) rfl
   have y0 := Em4.cell 0 (.int .i64 e.st) rfl
   go_wp2_with (refine wpList_store_row rfl _ _ _ rfl Wm3.heap.size e.v (by rfl) (by rfl) _ _ Bbym4 (by kernel_rfl) (by rfl) (by kernel_rfl) ?_; rw [hWm4])
   go_ret
   exact ⟨rfl, bm4⟩
end Go.Proofs.Ytmmnjjcopdabcaa
namespace Go.Proofs.Ytmmnjjcopdabcaa.tcpTalks
open Go.ChangeShapes Go.WideShapes Go.ChangeAt Go.RowKit
open Go.ChangeMaps (open_string shut_string)
set_option linter.unusedVariables false
theorem own : ownKnob Try.prog.godebug = none := by kernel_rfl
theorem laidOut : laidOutB Try.prog = true := by kernel_rfl
set_option maxRecDepth 100000 in
theorem lifted (os : Os) (started : os.Started) (H : Type) (enc : TypeId × Value → H) :
  ReturnsInHanded {} Try.checked os 7 .any (Rows.tcpTalksSpec.pre6 enc Try.prog Try.f7 Rows.tcpTalksRow.domain false) (Rows.tcpTalksSpec.post enc Try.prog Try.f7 false true false false) := by
 refine returnsInHanded_of_change_sized (C := Try.checked) own started (by kernel_rfl) Try.func7
  (ChangeSpec.witness6 (enc := enc) (C := Try.checked) false ⟨#[], #[.int .u32 0, .int .u32 0, .slice none 0 0], []⟩ 8 (by kernel_rfl) (by kernel_rfl) (by kernel_rfl) (by kernel_rfl)) ?_
 intro W base args ds gs before hval0 hW hcnd hsz0 _
 have hval : ∀ (j : Nat) t v, Try.f7.params[j]? = some t → args[j]? = some v → Value.okWide Try.prog W .any base t v := hval0
 have hW' := hW
 obtain ⟨p, q, hA0, hV, rfl, hfz, hnd⟩ := hW
 have hA : DataW.TrodAll enc Try.prog W 0 (fun _ => true) true Try.f7.params.toList args.toList ds p := hA0
 have hsz : (DataW.weightsEach Try.prog (Try.f7.params.toList ++ Rows.tcpTalksSpec.plain.varTypes Try.prog) (ds ++ gs)).all (· ≤ reachBytes) = true := hsz0
 rw [Try.params7] at hA hval hsz
 obtain ⟨v0, vs0, d0, ds0, p0, q0, hargs, rfl, rfl, h0, r0⟩ := trodAll_cons hA
 obtain ⟨v1, vs1, d1, ds1, p1, q1, rfl, rfl, rfl, h1, r1⟩ := trodAll_cons r0
 obtain ⟨v2, vs2, d2, ds2, p2, q2, rfl, rfl, rfl, h2, r2⟩ := trodAll_cons r1
 obtain ⟨rfl, rfl, rfl⟩ := trodAll_nil r2
 obtain rfl : args = #[v0, v1, v2] := by cases args; simp_all
 obtain ⟨rfl, rfl⟩ := trodVars_none hV
 obtain ⟨x0, rfl, rfl, rfl, w0⟩ := open_int Try.underlying22 (hval 0 22 v0 rfl rfl) h0
 obtain ⟨x1, rfl, rfl, rfl, w1⟩ := open_int Try.underlying22 (hval 1 22 v1 rfl rfl) h1
 have lt2 : ∀ x ∈ p2, x.block < W.heap.size := by obtain ⟨m, hm⟩ := h2; exact DataW.trod_lt m _ _ _ hm
 have s2 : ∀ n ∈ d2.weights Try.prog 48, n ≤ reachBytes := fun n hn => by simpa using List.all_eq_true.1 hsz n (DataW.weights_mem_each (j := 2) (t := 48) rfl rfl n hn)
 obtain ⟨a2, c2, l2, rfl, lc2, cm2, w2⟩ := open_u16s (hval 2 48 v2 rfl rfl) h2 s2
 clear hA0 hval0 hsz0
 refine (tcpTalks_walk x0 x1 a2 c2 l2 W (u32_tc w0) (u32_tc w1) lc2 cm2 w2).mono fun e W' ⟨he, bel⟩ => ?_
 subst he
 exact ⟨_, rfl, _, _, _, [], _, [], hW', trodAll_mk1 (shut_bool Try.underlying4 _), (trodAll_cons_mk (shut_int Try.underlying22 w0) (trodAll_cons_mk (shut_int Try.underlying22 w1) (trodAll_cons_mk (Below.trod laidOut (by kernel_rfl) (of_decide_eq_true (by kernel_rfl)) h2 bel lt2) trodAll_mk0))), rfl, bel.frame _, fun h => by cases h⟩
theorem over : Rows.tcpTalksRow.holds Try.pinned (OpenSpec.ofChange Rows.tcpTalksSpec) :=
 OpenClaim.holds_of_wide 7 Try.f7 rfl rfl rfl rfl rfl rfl rfl ⟨rfl, rfl, rfl, rfl, rfl⟩ rfl rfl rfl rfl rfl (by kernel_rfl) Try.func7 (by kernel_rfl)
  (of_decide_eq_true (by kernel_rfl)) (by unfold Func.isWrapper; first | (rw [if_pos (by decide +kernel)]; kernel_rfl) | (rw [if_neg (by decide +kernel)]; exact ⟨rfl, rfl⟩))
  (fun os started H enc _ => lifted os started H enc)
end Go.Proofs.Ytmmnjjcopdabcaa.tcpTalks
namespace Go.Proofs.Ytmmnjjcopdabcaa
theorem tcpTalks_holds : Rows.TcpTalksSaid := tcpTalks.over
end Go.Proofs.Ytmmnjjcopdabcaa
