/- Texts joined: FhA FgC -/
import Derived.Test.YtkeeidfpgfdldaaFpz8
import Derived.Test.YtkeeidfpgfdldaaFpz9
namespace Go.Proofs.Ytkeeidfpgfdldaa
open Go.RowKit
set_option linter.unusedVariables false
set_option linter.unusedSimpArgs false
set_option maxRecDepth 100000 in
set_option maxHeartbeats 4000000 in
theorem put_wrong (tb : Nat) (f sf sh sl df dh dl pr ho : Int) (fg : Bool) (id of : Int) (mo : Bool) (xa : Option Addr) (xc : Nat) (X : List Int) (da : Option Addr) (dc : Nat) (dat : List Int) (w : World) (hm : w.cell? ⟨tb, 0, none⟩ = some (.bool true)) (hdn : dat.length ≤ 140737488355328) (hfg : fg = true) (hwr : wrongF f ⟨sf, sh, sl⟩ ⟨df, dh, dl⟩ of mo dat.length ≠ 0) :
  Calls Try.prog 17 #[.pointer (some ⟨tb, 0, none⟩), .agg #[.int .i64 f, .int .i64 sf, .int .u64 sh, .int .u64 sl, .int .i64 df, .int .u64 dh, .int .u64 dl, .int .i64 pr, .int .i64 ho, .bool fg, .int .u32 id, .int .i64 of, .bool mo, .slice xa X.length xc, .slice da dat.length dc]] w fun e w' => e = .returned (.tuple #[.agg #[.int .i64 0, .int .i64 0, .int .u64 0, .int .u64 0, .int .i64 0, .int .u64 0, .int .u64 0, .int .i64 0, .int .i64 0, .bool false, .int .u32 0, .int .i64 0, .bool false, .slice none 0 0, .slice none 0 0], .int .i64 (wrongF f ⟨sf, sh, sl⟩ ⟨df, dh, dl⟩ of mo dat.length)]) ∧ Below w.heap.size w w' := by
 obtain ⟨W1, hW1⟩ : ∃ W, w.alloc (.cells #[.int .i64 f, .int .i64 sf, .int .u64 sh, .int .u64 sl, .int .i64 df, .int .u64 dh, .int .u64 dl, .int .i64 pr, .int .i64 ho, .bool fg, .int .u32 id, .int .i64 of, .bool mo, .slice xa X.length xc, .slice da dat.length dc] 42) = W := ⟨_, rfl⟩
 obtain ⟨W2, hW2⟩ : ∃ W, W1.alloc (.cells #[.int .i64 0, .int .i64 0, .int .u64 0, .int .u64 0, .int .i64 0, .int .u64 0, .int .u64 0, .int .i64 0, .int .i64 0, .bool false, .int .u32 0, .int .i64 0, .bool false, .slice none 0 0, .slice none 0 0] 42) = W := ⟨_, rfl⟩
 have b1 := bel_nw hW1
 have b2 := bel_al b1 hW2
 have B1 := blk_nw hW1
 have B2 := B1.al hW2
 have R2 := blk_nw hW2
 have n1 : w.heap.size < W1.heap.size := B1.lt
 have hm2 : W2.cell? ⟨tb, 0, none⟩ = some (.bool true) := kept b2 hm
 have K : Hid _ := isMade_at tb true W2 hm2
 have q9 := B2.cell 9 (.bool fg) rfl
 rw [hfg] at q9
 clear hfg
 have KW : Hid _ := wrong_any f sf sh sl df dh dl pr ho fg id of mo xa X.length xc da dat.length dc W2 hdn
 clear b1 B1 hm hm2
 generalize wrongF f ⟨sf, sh, sl⟩ ⟨df, dh, dl⟩ of mo dat.length = wr at hwr KW ⊢
 have hwb : (wr != 0) = true := by simpa using hwr
 go_enter Try.func17, Try.ntmps17
 go_wp2_with fail
 refine Calls.mono K.out ?_
 rintro e w' ⟨rfl, rfl⟩
 clear K
 go_wp2_with (refine wpList_load_row rfl _ _ rfl w.heap.size (by rfl) _ _ _ _ B2 Try.underlying42 rfl (by kernel_rfl) ?_)
 refine Calls.mono KW.out ?_
 rintro e W3 ⟨rfl, k3⟩
 have R3 := R2.kept k3
 have b3 := bel_tr b2 k3
 have hbz : (Instr.build 42 #[]).run Try.prog W3 = .ok (.agg #[.int .i64 0, .int .i64 0, .int .u64 0, .int .u64 0, .int .i64 0, .int .u64 0, .int .u64 0, .int .i64 0, .int .i64 0, .bool false, .int .u32 0, .int .i64 0, .bool false, .slice none 0 0, .slice none 0 0]) W3 := by kernel_rfl
 have Rf := R3.set #[.int .i64 0, .int .i64 0, .int .u64 0, .int .u64 0, .int .i64 0, .int .u64 0, .int .u64 0, .int .i64 0, .int .i64 0, .bool false, .int .u32 0, .int .i64 0, .bool false, .slice none 0 0, .slice none 0 0]
 have bf := below_setRow b3 (Nat.le_of_lt n1) #[.int .i64 0, .int .i64 0, .int .u64 0, .int .u64 0, .int .i64 0, .int .u64 0, .int .u64 0, .int .i64 0, .int .i64 0, .bool false, .int .u32 0, .int .i64 0, .bool false, .slice none 0 0, .slice none 0 0]
 clear KW k3 R2 B2 q9
 go_wp2_with (first
  | (refine wpList_buildF _ rfl _ _ rfl _ (by rfl) _ hbz ?_)
  | (refine wpList_store_row rfl _ _ _ rfl W1.heap.size #[.int .i64 0, .int .i64 0, .int .u64 0, .int .u64 0, .int .i64 0, .int .u64 0, .int .u64 0, .int .i64 0, .int .i64 0, .bool false, .int .u32 0, .int .i64 0, .bool false, .slice none 0 0, .slice none 0 0] (by rfl) (by rfl) _ _ R3 (by kernel_rfl) (by rfl) (by kernel_rfl) ?_))
 exact ret_cell_tmp (k := 4) (j := 5) Try.f17 (by kernel_rfl) Rf Try.underlying42 (by kernel_rfl) (by rfl) (by rfl) rfl ⟨rfl, bf⟩
set_option maxRecDepth 100000 in
set_option maxHeartbeats 4000000 in
theorem put_take (tb : Nat) (f sf sh sl df dh dl pr ho : Int) (fg : Bool) (id of : Int) (mo : Bool) (xa : Option Addr) (xc : Nat) (X : List Int) (da : Option Addr) (dc : Nat) (dat : List Int) (w : World) (hm : w.cell? ⟨tb, 0, none⟩ = some (.bool true)) (hdn : dat.length ≤ 140737488355328) (hfg : fg = true) (hwr : wrongF f ⟨sf, sh, sl⟩ ⟨df, dh, dl⟩ of mo dat.length = 0) (QT : World → Array Value → Int → World → Prop)
  (hT : ∀ W, Below w.heap.size w W → Calls Try.prog 34 #[.pointer (some ⟨tb, 0, none⟩), .agg #[.int .i64 f, .int .i64 sf, .int .u64 sh, .int .u64 sl, .int .i64 df, .int .u64 dh, .int .u64 dl, .int .i64 pr, .int .i64 ho, .bool fg, .int .u32 id, .int .i64 of, .bool mo, .slice xa X.length xc, .slice da dat.length dc]] W fun e w' => ∃ RV c, e = .returned (.tuple #[.agg RV, .int .i64 c]) ∧ RV.size = 15 ∧ RV.all (·.oneCell') = true ∧ QT W RV c w')
  (hQ : ∀ W RV c W', Below w.heap.size w W → QT W RV c W' → But (fun k => k < w.heap.size) W W') :
  Calls Try.prog 17 #[.pointer (some ⟨tb, 0, none⟩), .agg #[.int .i64 f, .int .i64 sf, .int .u64 sh, .int .u64 sl, .int .i64 df, .int .u64 dh, .int .u64 dl, .int .i64 pr, .int .i64 ho, .bool fg, .int .u32 id, .int .i64 of, .bool mo, .slice xa X.length xc, .slice da dat.length dc]] w fun e w' => ∃ RV c W W' g, e = .returned (.tuple #[.agg RV, .int .i64 c]) ∧ Below w.heap.size w W ∧ w.heap.size ≤ g ∧ g < W.heap.size ∧ Blk W' g 42 #[.int .i64 0, .int .i64 0, .int .u64 0, .int .u64 0, .int .i64 0, .int .u64 0, .int .u64 0, .int .i64 0, .int .i64 0, .bool false, .int .u32 0, .int .i64 0, .bool false, .slice none 0 0, .slice none 0 0] ∧ QT W RV c W' ∧ w' = W'.setRow g RV := by
 obtain ⟨W1, hW1⟩ : ∃ W, w.alloc (.cells #[.int .i64 f, .int .i64 sf, .int .u64 sh, .int .u64 sl, .int .i64 df, .int .u64 dh, .int .u64 dl, .int .i64 pr, .int .i64 ho, .bool fg, .int .u32 id, .int .i64 of, .bool mo, .slice xa X.length xc, .slice da dat.length dc] 42) = W := ⟨_, rfl⟩
 obtain ⟨W2, hW2⟩ : ∃ W, W1.alloc (.cells #[.int .i64 0, .int .i64 0, .int .u64 0, .int .u64 0, .int .i64 0, .int .u64 0, .int .u64 0, .int .i64 0, .int .i64 0, .bool false, .int .u32 0, .int .i64 0, .bool false, .slice none 0 0, .slice none 0 0] 42) = W := ⟨_, rfl⟩
 have b1 := bel_nw hW1
 have b2 := bel_al b1 hW2
 have B1 := blk_nw hW1
 have B2 := B1.al hW2
 have R2 := blk_nw hW2
 have n1 : w.heap.size < W1.heap.size := B1.lt
 have hm2 : W2.cell? ⟨tb, 0, none⟩ = some (.bool true) := kept b2 hm
 have K : Hid _ := isMade_at tb true W2 hm2
 have q9 := B2.cell 9 (.bool fg) rfl
 rw [hfg] at q9
 clear hfg
 have KW : Hid _ := wrong_any f sf sh sl df dh dl pr ho fg id of mo xa X.length xc da dat.length dc W2 hdn
 clear b1 B1 hm hm2
 rw [hwr] at KW
 clear hwr
 have HT : Hid _ := hT
 have HQ : Hid _ := hQ
 clear hT hQ
 go_enter Try.func17, Try.ntmps17
 go_wp2_with fail
 refine Calls.mono K.out ?_
 rintro e w' ⟨rfl, rfl⟩
 clear K
 go_wp2_with (refine wpList_load_row rfl _ _ rfl w.heap.size (by rfl) _ _ _ _ B2 Try.underlying42 rfl (by kernel_rfl) ?_)
 refine Calls.mono KW.out ?_
 rintro e W3 ⟨rfl, k3⟩
 have R3 := R2.kept k3
 have B3 := B2.kept k3
 have b3 := bel_tr b2 k3
 clear KW k3 R2 B2 q9
 go_wp2_with (refine wpList_load_row rfl _ _ rfl w.heap.size (by rfl) _ _ _ _ B3 Try.underlying42 rfl (by kernel_rfl) ?_)
 refine Calls.mono (HT.out W3 b3) ?_
 rintro e W4 ⟨RV, c, rfl, hs, h1, hq⟩
 have l3 : W1.heap.size < W3.heap.size := R3.lt
 have R4 := R3.but (HQ.out W3 RV c W4 b3 hq) (by omega)
 have Rf := R4.set RV
 clear HT HQ B3
 go_wp2_with (refine wpList_store_row rfl _ _ _ rfl W1.heap.size RV (by rfl) (by rfl) _ _ R4 (by rw [hs]; kernel_rfl) (by simp [hs]) h1 ?_)
 exact ret_cell_tmp (k := 4) (j := 5) Try.f17 (by kernel_rfl) Rf Try.underlying42 (by rw [hs]; kernel_rfl) (by rfl) (by rfl) rfl ⟨RV, c, W3, W4, W1.heap.size, rfl, b3, by omega, l3, R4, hq, rfl⟩
set_option maxRecDepth 100000 in
set_option maxHeartbeats 4000000 in
theorem nameOf_6 (f sf sh sl df dh dl pr ho : Int) (fg : Bool) (id of : Int) (mo : Bool) (xa : Option Addr) (xc : Nat) (X : List Int) (da : Option Addr) (dc : Nat) (dat : List Int) (w : World) (h6 : f = 6) :
  Calls Try.prog 44 #[.agg #[.int .i64 f, .int .i64 sf, .int .u64 sh, .int .u64 sl, .int .i64 df, .int .u64 dh, .int .u64 dl, .int .i64 pr, .int .i64 ho, .bool fg, .int .u32 id, .int .i64 of, .bool mo, .slice xa X.length xc, .slice da dat.length dc]] w fun e w' => e = .returned (.agg #[.int .i64 sf, .int .u64 sh, .int .u64 sl, .int .i64 df, .int .u64 dh, .int .u64 dl, .int .i64 0, .int .u32 id]) ∧ Below w.heap.size w w' := by
 obtain ⟨W1, hW1⟩ : ∃ W, w.alloc (.cells #[.int .i64 f, .int .i64 sf, .int .u64 sh, .int .u64 sl, .int .i64 df, .int .u64 dh, .int .u64 dl, .int .i64 pr, .int .i64 ho, .bool fg, .int .u32 id, .int .i64 of, .bool mo, .slice xa X.length xc, .slice da dat.length dc] 42) = W := ⟨_, rfl⟩
 have b1 := bel_nw hW1
 have P1 := blk_nw hW1
 obtain ⟨W2, hW2⟩ : ∃ W, W1.alloc (.cells #[.int .i64 0, .int .u64 0, .int .u64 0, .int .i64 0, .int .u64 0, .int .u64 0, .int .i64 0, .int .u32 0] 72) = W := ⟨_, rfl⟩
 have b2 := bel_al b1 hW2
 have P2 := P1.al hW2
 have R2 := blk_nw hW2
 have hbN : (Instr.build 72 #[(0, .agg #[.int .i64 sf, .int .u64 sh, .int .u64 sl]), (1, .agg #[.int .i64 df, .int .u64 dh, .int .u64 dl]), (2, .int .i64 pr), (3, .int .u32 id)]).run Try.prog W2 = .ok (.agg #[.int .i64 sf, .int .u64 sh, .int .u64 sl, .int .i64 df, .int .u64 dh, .int .u64 dl, .int .i64 pr, .int .u32 id]) W2 := by kernel_rfl
 have g1 : w.heap.size < W1.heap.size := P1.lt
 have g2 : w.heap.size < W2.heap.size := P2.lt
 have g3 : W1.heap.size < W2.heap.size := R2.lt
 obtain ⟨W3, hW3⟩ : ∃ W, W2.alloc (.cells #[.int .i64 0, .int .u64 0, .int .u64 0, .int .i64 0, .int .u64 0, .int .u64 0, .int .i64 0, .int .u32 0] 72) = W := ⟨_, rfl⟩
 have b3 := bel_al b2 hW3
 have P3 := P2.al hW3
 have R3 := R2.al hW3
 have N3 := blk_nw hW3
 have P4 := P3.other (show w.heap.size ≠ W2.heap.size by omega) #[.int .i64 sf, .int .u64 sh, .int .u64 sl, .int .i64 df, .int .u64 dh, .int .u64 dl, .int .i64 pr, .int .u32 id]
 have R4 := R3.other (show W1.heap.size ≠ W2.heap.size by omega) #[.int .i64 sf, .int .u64 sh, .int .u64 sl, .int .i64 df, .int .u64 dh, .int .u64 dl, .int .i64 pr, .int .u32 id]
 have N4 := N3.set #[.int .i64 sf, .int .u64 sh, .int .u64 sl, .int .i64 df, .int .u64 dh, .int .u64 dl, .int .i64 pr, .int .u32 id]
 have b4 := below_setRow b3 (show w.heap.size ≤ W2.heap.size by omega) #[.int .i64 sf, .int .u64 sh, .int .u64 sl, .int .i64 df, .int .u64 dh, .int .u64 dl, .int .i64 pr, .int .u32 id]
 obtain ⟨W4, hW4⟩ : ∃ W, W3.setRow W2.heap.size #[.int .i64 sf, .int .u64 sh, .int .u64 sl, .int .i64 df, .int .u64 dh, .int .u64 dl, .int .i64 pr, .int .u32 id] = W := ⟨_, rfl⟩
 rw [hW4] at P4 R4 N4 b4
 have HW4 : Hid _ := hW4
 clear hW4
 have d1 := P2.cell 1 (.int .i64 sf) rfl
 have d2 := P2.cell 2 (.int .u64 sh) rfl
 have d3 := P2.cell 3 (.int .u64 sl) rfl
 have d4 := P2.cell 4 (.int .i64 df) rfl
 have d5 := P2.cell 5 (.int .u64 dh) rfl
 have d6 := P2.cell 6 (.int .u64 dl) rfl
 have d7 := P2.cell 7 (.int .i64 pr) rfl
 have d10 := P2.cell 10 (.int .u32 id) rfl
 have e0 := P4.cell 0 (.int .i64 f) rfl
 have h6' : (f == 6) = true := by simpa using h6
 clear h6 P1 b1
 have v_5 := N4.cell 6 (.int .i64 pr) rfl
 have z_5 := N4.frozen 6
 have N5 : Blk (W4.setCell ⟨W2.heap.size, 6, none⟩ (.int .i64 0)) W2.heap.size 72 #[.int .i64 sf, .int .u64 sh, .int .u64 sl, .int .i64 df, .int .u64 dh, .int .u64 dl, .int .i64 0, .int .u32 id] := N4.put 6 (.int .i64 0)
 have R5 := R4.put_other N4 (show W1.heap.size ≠ W2.heap.size by omega) 6 (.int .i64 0)
 have b5 := b4.setCell (p := ⟨W2.heap.size, 6, none⟩) (show w.heap.size ≤ W2.heap.size by omega) (.int .i64 0)
 obtain ⟨W5, hW5⟩ : ∃ W, W4.setCell ⟨W2.heap.size, 6, none⟩ (.int .i64 0) = W := ⟨_, rfl⟩
 rw [hW5] at N5 R5 b5
 have Rf := R5.set #[.int .i64 sf, .int .u64 sh, .int .u64 sl, .int .i64 df, .int .u64 dh, .int .u64 dl, .int .i64 0, .int .u32 id]
 have bf := below_setRow b5 (Nat.le_of_lt g1) #[.int .i64 sf, .int .u64 sh, .int .u64 sl, .int .i64 df, .int .u64 dh, .int .u64 dl, .int .i64 0, .int .u32 id]
 go_enter Try.func44, Try.ntmps44
 go_wp2_with (first
  | (refine wpList_buildF _ rfl _ _ rfl _ (by rfl) _ hbN ?_)
  | (refine wpList_store_row rfl _ _ _ rfl W2.heap.size #[.int .i64 sf, .int .u64 sh, .int .u64 sl, .int .i64 df, .int .u64 dh, .int .u64 dl, .int .i64 pr, .int .u32 id] (by rfl) (by rfl) _ _ N3 (by kernel_rfl) (by rfl) (by kernel_rfl) ?_; rw [HW4.out])
  | (refine wpList_load_row rfl _ _ rfl W2.heap.size (by rfl) _ _ _ _ N5 Try.underlying72 rfl (by kernel_rfl) ?_)
  | (refine wpList_store_row rfl _ _ _ rfl W1.heap.size #[.int .i64 sf, .int .u64 sh, .int .u64 sl, .int .i64 df, .int .u64 dh, .int .u64 dl, .int .i64 0, .int .u32 id] (by rfl) (by rfl) _ _ R5 (by kernel_rfl) (by rfl) (by kernel_rfl) ?_))
 exact ret_cell (k := 2) Try.f44 (by kernel_rfl) Rf Try.underlying72 (by kernel_rfl) (by rfl) rfl ⟨rfl, bf⟩
set_option maxRecDepth 100000 in
set_option maxHeartbeats 4000000 in
theorem nameOf_4 (f sf sh sl df dh dl pr ho : Int) (fg : Bool) (id of : Int) (mo : Bool) (xa : Option Addr) (xc : Nat) (X : List Int) (da : Option Addr) (dc : Nat) (dat : List Int) (w : World) (h6 : ¬ f = 6) :
  Calls Try.prog 44 #[.agg #[.int .i64 f, .int .i64 sf, .int .u64 sh, .int .u64 sl, .int .i64 df, .int .u64 dh, .int .u64 dl, .int .i64 pr, .int .i64 ho, .bool fg, .int .u32 id, .int .i64 of, .bool mo, .slice xa X.length xc, .slice da dat.length dc]] w fun e w' => e = .returned (.agg #[.int .i64 sf, .int .u64 sh, .int .u64 sl, .int .i64 df, .int .u64 dh, .int .u64 dl, .int .i64 pr, .int .u32 id]) ∧ Below w.heap.size w w' := by
 obtain ⟨W1, hW1⟩ : ∃ W, w.alloc (.cells #[.int .i64 f, .int .i64 sf, .int .u64 sh, .int .u64 sl, .int .i64 df, .int .u64 dh, .int .u64 dl, .int .i64 pr, .int .i64 ho, .bool fg, .int .u32 id, .int .i64 of, .bool mo, .slice xa X.length xc, .slice da dat.length dc] 42) = W := ⟨_, rfl⟩
 have b1 := bel_nw hW1
 have P1 := blk_nw hW1
 obtain ⟨W2, hW2⟩ : ∃ W, W1.alloc (.cells #[.int .i64 0, .int .u64 0, .int .u64 0, .int .i64 0, .int .u64 0, .int .u64 0, .int .i64 0, .int .u32 0] 72) = W := ⟨_, rfl⟩
 have b2 := bel_al b1 hW2
 have P2 := P1.al hW2
 have R2 := blk_nw hW2
 have hbN : (Instr.build 72 #[(0, .agg #[.int .i64 sf, .int .u64 sh, .int .u64 sl]), (1, .agg #[.int .i64 df, .int .u64 dh, .int .u64 dl]), (2, .int .i64 pr), (3, .int .u32 id)]).run Try.prog W2 = .ok (.agg #[.int .i64 sf, .int .u64 sh, .int .u64 sl, .int .i64 df, .int .u64 dh, .int .u64 dl, .int .i64 pr, .int .u32 id]) W2 := by kernel_rfl
 have g1 : w.heap.size < W1.heap.size := P1.lt
 have g2 : w.heap.size < W2.heap.size := P2.lt
 have g3 : W1.heap.size < W2.heap.size := R2.lt
 obtain ⟨W3, hW3⟩ : ∃ W, W2.alloc (.cells #[.int .i64 0, .int .u64 0, .int .u64 0, .int .i64 0, .int .u64 0, .int .u64 0, .int .i64 0, .int .u32 0] 72) = W := ⟨_, rfl⟩
 have b3 := bel_al b2 hW3
 have P3 := P2.al hW3
 have R3 := R2.al hW3
 have N3 := blk_nw hW3
 have P4 := P3.other (show w.heap.size ≠ W2.heap.size by omega) #[.int .i64 sf, .int .u64 sh, .int .u64 sl, .int .i64 df, .int .u64 dh, .int .u64 dl, .int .i64 pr, .int .u32 id]
 have R4 := R3.other (show W1.heap.size ≠ W2.heap.size by omega) #[.int .i64 sf, .int .u64 sh, .int .u64 sl, .int .i64 df, .int .u64 dh, .int .u64 dl, .int .i64 pr, .int .u32 id]
 have N4 := N3.set #[.int .i64 sf, .int .u64 sh, .int .u64 sl, .int .i64 df, .int .u64 dh, .int .u64 dl, .int .i64 pr, .int .u32 id]
 have b4 := below_setRow b3 (show w.heap.size ≤ W2.heap.size by omega) #[.int .i64 sf, .int .u64 sh, .int .u64 sl, .int .i64 df, .int .u64 dh, .int .u64 dl, .int .i64 pr, .int .u32 id]
 obtain ⟨W4, hW4⟩ : ∃ W, W3.setRow W2.heap.size #[.int .i64 sf, .int .u64 sh, .int .u64 sl, .int .i64 df, .int .u64 dh, .int .u64 dl, .int .i64 pr, .int .u32 id] = W := ⟨_, rfl⟩
 rw [hW4] at P4 R4 N4 b4
 have HW4 : Hid _ := hW4
 clear hW4
 have d1 := P2.cell 1 (.int .i64 sf) rfl
 have d2 := P2.cell 2 (.int .u64 sh) rfl
 have d3 := P2.cell 3 (.int .u64 sl) rfl
 have d4 := P2.cell 4 (.int .i64 df) rfl
 have d5 := P2.cell 5 (.int .u64 dh) rfl
 have d6 := P2.cell 6 (.int .u64 dl) rfl
 have d7 := P2.cell 7 (.int .i64 pr) rfl
 have d10 := P2.cell 10 (.int .u32 id) rfl
 have e0 := P4.cell 0 (.int .i64 f) rfl
 have h6' : (f == 6) = false := by simpa using h6
 clear h6 P1 b1
 have Rf := R4.set #[.int .i64 sf, .int .u64 sh, .int .u64 sl, .int .i64 df, .int .u64 dh, .int .u64 dl, .int .i64 pr, .int .u32 id]
 have bf := below_setRow b4 (Nat.le_of_lt g1) #[.int .i64 sf, .int .u64 sh, .int .u64 sl, .int .i64 df, .int .u64 dh, .int .u64 dl, .int .i64 pr, .int .u32 id]
 go_enter Try.func44, Try.ntmps44
 go_wp2_with (first
  | (refine wpList_buildF _ rfl _ _ rfl _ (by rfl) _ hbN ?_)
  | (refine wpList_store_row rfl _ _ _ rfl W2.heap.size #[.int .i64 sf, .int .u64 sh, .int .u64 sl, .int .i64 df, .int .u64 dh, .int .u64 dl, .int .i64 pr, .int .u32 id] (by rfl) (by rfl) _ _ N3 (by kernel_rfl) (by rfl) (by kernel_rfl) ?_; rw [HW4.out])
  | (refine wpList_load_row rfl _ _ rfl W2.heap.size (by rfl) _ _ _ _ N4 Try.underlying72 rfl (by kernel_rfl) ?_)
  | (refine wpList_store_row rfl _ _ _ rfl W1.heap.size #[.int .i64 sf, .int .u64 sh, .int .u64 sl, .int .i64 df, .int .u64 dh, .int .u64 dl, .int .i64 pr, .int .u32 id] (by rfl) (by rfl) _ _ R4 (by kernel_rfl) (by rfl) (by kernel_rfl) ?_))
 exact ret_cell (k := 2) Try.f44 (by kernel_rfl) Rf Try.underlying72 (by kernel_rfl) (by rfl) rfl ⟨rfl, bf⟩
end Go.Proofs.Ytkeeidfpgfdldaa
