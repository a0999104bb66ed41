/- Texts joined: SgRvb -/
import Derived.Test.YtpjjkdgmfjhfiaaSgrR31
namespace Go.Proofs.Ytpjjkdgmfjhfiaa
open Go.RowKit
set_option linter.unusedVariables false
set_option linter.unusedSimpArgs false
set_option maxRecDepth 100000 in
set_option maxHeartbeats 4000000 in
theorem rparse_Eu (f sf sh sl df dh dl pr ho : Int) (fg : Bool) (id of : Int) (mo : Bool) (xa : Option Addr) (xn xc : Nat) (da : Option Addr) (dc : Nat) (l : List Int) (w : World) (h : Row w da l) (hnil : da = none → dc = 0) (hc : l.length ≤ dc) (hcm : dc ≤ 9223372036854775807) (hll : l.length ≤ 140737488351232) (hs : Ad.ok ⟨sf, sh, sl⟩) (hd : Ad.ok ⟨df, dh, dl⟩) (hE : endsB f ⟨sf, sh, sl⟩ ⟨df, dh, dl⟩ = true) (hp : pr = 17) (E : Int) (hne : E ≠ 0) (KR : ∀ W, Row W da l → Calls Try.prog 35 #[.agg (sRa f sf sh sl df dh dl pr ho fg id of mo xa xn xc da l.length dc), .agg (sRc f pr sf sh sl df dh dl 0 0 0 0 0 0 0 0 false 0 0 0 0 0 0 0 0 0 0 none 0 0)] W fun e w' => ∃ Y a c, e = .returned (.tuple #[.agg (sgv Y a c), .int .i64 E]) ∧ Below W.heap.size W w') :
    Calls Try.prog 17 #[.agg (sRa f sf sh sl df dh dl pr ho fg id of mo xa xn xc da l.length dc)] w (GotS w E zSg) := by
  have HK : Hid _ := KR
  have hE' : (E != 0) = true := by simpa using hne
  clear KR hne
  obtain ⟨W1, hW1⟩ : ∃ W1, w.alloc (.cells (sRa f sf sh sl df dh dl pr ho fg id of mo xa xn xc da l.length dc) 36) = W1 := ⟨_, rfl⟩
  obtain ⟨W2, hW2⟩ : ∃ W2, W1.alloc (.cells (sRc 0 0 0 0 0 0 0 0 0 0 0 0 0 0 0 0 false 0 0 0 0 0 0 0 0 0 0 none 0 0) 38) = W2 := ⟨_, rfl⟩
  have b1 := bel_nw hW1
  have b2 := bel_al b1 hW2
  have B1' := blk_nw hW1
  have B1 := B1'.al hW2
  have B2 := blk_nw hW2
  have g1 : w.heap.size < W1.heap.size := B1'.lt
  clear B1'
  have KE : Hid (∀ W, Calls Try.prog 28 #[.int .i64 f, .agg #[.int .i64 sf, .int .u64 sh, .int .u64 sl], .agg #[.int .i64 df, .int .u64 dh, .int .u64 dl]] W fun e w' => e = .returned (.bool true) ∧ Below W.heap.size W w') := fun W => by
    have := rEnds_any f sf sh sl df dh dl W hs.2.2.1 hd.2.2.1
    rw [hE] at this
    exact this
  have d0 := B1.cell 0 (.int .i64 f) rfl
  have d1 := B1.cell 1 (.int .i64 sf) rfl
  have d2 := B1.cell 2 (.int .u64 sh) rfl
  have d3 := B1.cell 3 (.int .u64 sl) rfl
  have d4 := B1.cell 4 (.int .i64 df) rfl
  have d5 := B1.cell 5 (.int .u64 dh) rfl
  have d6 := B1.cell 6 (.int .u64 dl) rfl
  have p6 : (pr == 6) = false := by rw [hp]; rfl
  have p17 : (pr == 17) = true := by rw [hp]; rfl
  clear hp
  clear hE
  go_enter Try.func17, Try.ntmps17
  go_wp2_with fail
  refine Calls.mono (KE.out _) ?_
  rintro e W3 ⟨rfl, bb⟩
  have P3 := B1.kept bb
  have R3 := B2.kept bb
  have b3 := bel_tr b2 bb
  clear KE bb B1 B2 b1 b2 hW1 hW2 d0 d1 d2 d3 d4 d5 d6
  have hbT : (Instr.build 26 #[(0, .int .i64 f), (1, .int .i64 pr), (2, .agg #[.int .i64 sf, .int .u64 sh, .int .u64 sl]), (3, .agg #[.int .i64 df, .int .u64 dh, .int .u64 dl])]).run Try.prog W3 = .ok (.agg (sRb f pr sf sh sl df dh dl 0 0)) W3 := by kernel_rfl
  have hbS : (Instr.build 38 #[(0, .agg (sRb f pr sf sh sl df dh dl 0 0))]).run Try.prog W3 = .ok (.agg (sRc f pr sf sh sl df dh dl 0 0 0 0 0 0 0 0 false 0 0 0 0 0 0 0 0 0 0 none 0 0)) W3 := by kernel_rfl
  have g3 : w.heap.size < W3.heap.size := P3.lt
  have g3' : W1.heap.size < W3.heap.size := R3.lt
  obtain ⟨W4, hW4⟩ : ∃ W, W3.alloc (.cells (sRc 0 0 0 0 0 0 0 0 0 0 0 0 0 0 0 0 false 0 0 0 0 0 0 0 0 0 0 none 0 0) 38) = W := ⟨_, rfl⟩
  have P4 := P3.al hW4
  have R4 := R3.al hW4
  have S4 := blk_nw hW4
  have b4 := bel_al b3 hW4
  have P5 := P4.other (show w.heap.size ≠ W3.heap.size by omega) (sRc f pr sf sh sl df dh dl 0 0 0 0 0 0 0 0 false 0 0 0 0 0 0 0 0 0 0 none 0 0)
  have R5 := R4.other (show W1.heap.size ≠ W3.heap.size by omega) (sRc f pr sf sh sl df dh dl 0 0 0 0 0 0 0 0 false 0 0 0 0 0 0 0 0 0 0 none 0 0)
  have S5 := S4.set (sRc f pr sf sh sl df dh dl 0 0 0 0 0 0 0 0 false 0 0 0 0 0 0 0 0 0 0 none 0 0)
  have b5 := below_setRow b4 (show w.heap.size ≤ W3.heap.size by omega) (sRc f pr sf sh sl df dh dl 0 0 0 0 0 0 0 0 false 0 0 0 0 0 0 0 0 0 0 none 0 0)
  obtain ⟨W5, hW5⟩ : ∃ W, W4.setRow W3.heap.size (sRc f pr sf sh sl df dh dl 0 0 0 0 0 0 0 0 false 0 0 0 0 0 0 0 0 0 0 none 0 0) = W := ⟨_, rfl⟩
  rw [hW5] at P5 R5 S5 b5
  have HW5 : Hid _ := hW5
  clear hW5
  have d0 := P3.cell 0 (.int .i64 f) rfl
  have d1 := P3.cell 1 (.int .i64 sf) rfl
  have d2 := P3.cell 2 (.int .u64 sh) rfl
  have d3 := P3.cell 3 (.int .u64 sl) rfl
  have d4 := P3.cell 4 (.int .i64 df) rfl
  have d5 := P3.cell 5 (.int .u64 dh) rfl
  have d6 := P3.cell 6 (.int .u64 dl) rfl
  have d7 := P3.cell 7 (.int .i64 pr) rfl
  have k0 := P5.cell 0 (.int .i64 f) rfl
  have k7 := P5.cell 7 (.int .i64 pr) rfl
  have k14 := P5.cell 14 (.slice da l.length dc) rfl
  go_wp2_with (first
    | (refine wpList_build _ rfl _ _ rfl _ (by rfl) _ hbT ?_)
    | (refine wpList_build _ rfl _ _ rfl _ (by rfl) _ hbS ?_)
    | (refine wpList_store_row rfl _ _ _ rfl W3.heap.size (sRc f pr sf sh sl df dh dl 0 0 0 0 0 0 0 0 false 0 0 0 0 0 0 0 0 0 0 none 0 0) (by rfl) (by rfl) _ _ S4 (by kernel_rfl) (by rfl) (by kernel_rfl) ?_; rw [HW5.out])
    | (refine wpList_load_row rfl _ _ rfl w.heap.size (by rfl) _ _ _ _ P5 Try.underlying36 rfl (by kernel_rfl) ?_)
    | (refine wpList_load_row rfl _ _ rfl W3.heap.size (by rfl) _ _ _ _ S5 Try.underlying38 rfl (by kernel_rfl) ?_))
  refine Calls.mono (HK.out _ (h.below b5)) ?_
  rintro e W6 ⟨Y, a6, c6, rfl, bb⟩
  have R6 := R5.kept bb
  have S6 := S5.kept bb
  have b6 := bel_tr b5 bb
  clear HK bb P5 R5 S5 b5 k0 k7 k14
  clear hbT hbS P4 R4 S4 b4 HW5 hW4 P3 R3 b3 d0 d1 d2 d3 d4 d5 d6 d7
  have R7 := R6.other (show W1.heap.size ≠ W3.heap.size by omega) (sgv Y a6 c6)
  have b7 := below_setRow b6 (show w.heap.size ≤ W3.heap.size by omega) (sgv Y a6 c6)
  obtain ⟨W7, hW7⟩ : ∃ W, W6.setRow W3.heap.size (sgv Y a6 c6) = W := ⟨_, rfl⟩
  rw [hW7] at R7 b7
  have HW7 : Hid _ := hW7
  clear hW7
  have hbz : (Instr.build 38 #[]).run Try.prog W7 = .ok (.agg (sRc 0 0 0 0 0 0 0 0 0 0 0 0 0 0 0 0 false 0 0 0 0 0 0 0 0 0 0 none 0 0)) W7 := by kernel_rfl
  have Rf := R7.set (sRc 0 0 0 0 0 0 0 0 0 0 0 0 0 0 0 0 false 0 0 0 0 0 0 0 0 0 0 none 0 0)
  have bf := below_setRow b7 (Nat.le_of_lt g1) (sRc 0 0 0 0 0 0 0 0 0 0 0 0 0 0 0 0 false 0 0 0 0 0 0 0 0 0 0 none 0 0)
  go_wp2_with (first
    | (refine wpList_store_row rfl _ _ _ rfl W3.heap.size (sgv Y a6 c6) (by rfl) (by rfl) _ _ S6 (by kernel_rfl) (by rfl) (by kernel_rfl) ?_; rw [HW7.out])
    | (refine wpList_build _ rfl _ _ rfl _ (by rfl) _ hbz ?_)
    | (refine wpList_store_row rfl _ _ _ rfl W1.heap.size (sRc 0 0 0 0 0 0 0 0 0 0 0 0 0 0 0 0 false 0 0 0 0 0 0 0 0 0 0 none 0 0) (by rfl) (by rfl) _ _ R7 (by kernel_rfl) (by rfl) (by kernel_rfl) ?_))
  exact ret_cell_tmp (k := 2) (j := 3) Try.f17 (by kernel_rfl) Rf Try.underlying38 (by kernel_rfl) (by rfl) (by rfl) rfl ⟨none, 0, rfl, fresh_nil bf⟩
set_option maxRecDepth 100000 in
set_option maxHeartbeats 4000000 in
theorem rparse_Yu (f sf sh sl df dh dl pr ho : Int) (fg : Bool) (id of : Int) (mo : Bool) (xa : Option Addr) (xn xc : Nat) (da : Option Addr) (dc : Nat) (l : List Int) (w : World) (h : Row w da l) (hnil : da = none → dc = 0) (hc : l.length ≤ dc) (hcm : dc ≤ 9223372036854775807) (hll : l.length ≤ 140737488351232) (hs : Ad.ok ⟨sf, sh, sl⟩) (hd : Ad.ok ⟨df, dh, dl⟩) (hE : endsB f ⟨sf, sh, sl⟩ ⟨df, dh, dl⟩ = true) (hp : pr = 17) (h8 : 8 ≤ l.length) (yf ys ya yw yt yc : Int) (ye : Bool) (tf tp tsf tsh tsl tdf tdh tdl tsp tdp : Int) (D : List Int) (KR : ∀ W, Row W da l → Calls Try.prog 35 #[.agg (sRa f sf sh sl df dh dl pr ho fg id of mo xa xn xc da l.length dc), .agg (sRc f pr sf sh sl df dh dl 0 0 0 0 0 0 0 0 false 0 0 0 0 0 0 0 0 0 0 none 0 0)] W fun e w' => ∃ aD cD, e = .returned (.tuple #[.agg (sRc f pr sf sh sl df dh dl 0 0 yf ys ya yw yt yc ye tf tp tsf tsh tsl tdf tdh tdl tsp tdp aD D.length cD), .int .i64 0]) ∧ Fresh W w' aD cD D) :
    Calls Try.prog 17 #[.agg (sRa f sf sh sl df dh dl pr ho fg id of mo xa xn xc da l.length dc)] w (GotS w 0 ⟨⟨f, pr, ⟨sf, sh, sl⟩, ⟨df, dh, dl⟩, (portsOf f pr l).1, (portsOf f pr l).2⟩, yf, ys, ya, yw, yt, yc, ye, ⟨tf, tp, ⟨tsf, tsh, tsl⟩, ⟨tdf, tdh, tdl⟩, tsp, tdp⟩, D⟩) := by
  have HK : Hid _ := KR
  have hf46 : f = 4 ∨ f = 6 := ends46 hE
  obtain ⟨⟨p1, p2⟩, hV⟩ : ∃ V, portsOf f pr l = V := ⟨_, rfl⟩
  have KP : Hid (∀ W, Row W da l → Calls Try.prog 38 #[.int .i64 f, .int .i64 pr, .slice da l.length dc] W fun e w' => e = .returned (.tuple #[.int .i64 p1, .int .i64 p2]) ∧ Below W.heap.size W w') := fun W hW => by
    have := rports_any f pr da dc l W hW hnil hll hc hcm h8 hf46
    rw [hV] at this
    exact this
  rw [hV]
  clear KR hV hf46 h8
  obtain ⟨W1, hW1⟩ : ∃ W1, w.alloc (.cells (sRa f sf sh sl df dh dl pr ho fg id of mo xa xn xc da l.length dc) 36) = W1 := ⟨_, rfl⟩
  obtain ⟨W2, hW2⟩ : ∃ W2, W1.alloc (.cells (sRc 0 0 0 0 0 0 0 0 0 0 0 0 0 0 0 0 false 0 0 0 0 0 0 0 0 0 0 none 0 0) 38) = W2 := ⟨_, rfl⟩
  have b1 := bel_nw hW1
  have b2 := bel_al b1 hW2
  have B1' := blk_nw hW1
  have B1 := B1'.al hW2
  have B2 := blk_nw hW2
  have g1 : w.heap.size < W1.heap.size := B1'.lt
  clear B1'
  have KE : Hid (∀ W, Calls Try.prog 28 #[.int .i64 f, .agg #[.int .i64 sf, .int .u64 sh, .int .u64 sl], .agg #[.int .i64 df, .int .u64 dh, .int .u64 dl]] W fun e w' => e = .returned (.bool true) ∧ Below W.heap.size W w') := fun W => by
    have := rEnds_any f sf sh sl df dh dl W hs.2.2.1 hd.2.2.1
    rw [hE] at this
    exact this
  have d0 := B1.cell 0 (.int .i64 f) rfl
  have d1 := B1.cell 1 (.int .i64 sf) rfl
  have d2 := B1.cell 2 (.int .u64 sh) rfl
  have d3 := B1.cell 3 (.int .u64 sl) rfl
  have d4 := B1.cell 4 (.int .i64 df) rfl
  have d5 := B1.cell 5 (.int .u64 dh) rfl
  have d6 := B1.cell 6 (.int .u64 dl) rfl
  have p6 : (pr == 6) = false := by rw [hp]; rfl
  have p17 : (pr == 17) = true := by rw [hp]; rfl
  clear hp
  clear hE
  go_enter Try.func17, Try.ntmps17
  go_wp2_with fail
  refine Calls.mono (KE.out _) ?_
  rintro e W3 ⟨rfl, bb⟩
  have P3 := B1.kept bb
  have R3 := B2.kept bb
  have b3 := bel_tr b2 bb
  clear KE bb B1 B2 b1 b2 hW1 hW2 d0 d1 d2 d3 d4 d5 d6
  have hbT : (Instr.build 26 #[(0, .int .i64 f), (1, .int .i64 pr), (2, .agg #[.int .i64 sf, .int .u64 sh, .int .u64 sl]), (3, .agg #[.int .i64 df, .int .u64 dh, .int .u64 dl])]).run Try.prog W3 = .ok (.agg (sRb f pr sf sh sl df dh dl 0 0)) W3 := by kernel_rfl
  have hbS : (Instr.build 38 #[(0, .agg (sRb f pr sf sh sl df dh dl 0 0))]).run Try.prog W3 = .ok (.agg (sRc f pr sf sh sl df dh dl 0 0 0 0 0 0 0 0 false 0 0 0 0 0 0 0 0 0 0 none 0 0)) W3 := by kernel_rfl
  have g3 : w.heap.size < W3.heap.size := P3.lt
  have g3' : W1.heap.size < W3.heap.size := R3.lt
  obtain ⟨W4, hW4⟩ : ∃ W, W3.alloc (.cells (sRc 0 0 0 0 0 0 0 0 0 0 0 0 0 0 0 0 false 0 0 0 0 0 0 0 0 0 0 none 0 0) 38) = W := ⟨_, rfl⟩
  have P4 := P3.al hW4
  have R4 := R3.al hW4
  have S4 := blk_nw hW4
  have b4 := bel_al b3 hW4
  have P5 := P4.other (show w.heap.size ≠ W3.heap.size by omega) (sRc f pr sf sh sl df dh dl 0 0 0 0 0 0 0 0 false 0 0 0 0 0 0 0 0 0 0 none 0 0)
  have R5 := R4.other (show W1.heap.size ≠ W3.heap.size by omega) (sRc f pr sf sh sl df dh dl 0 0 0 0 0 0 0 0 false 0 0 0 0 0 0 0 0 0 0 none 0 0)
  have S5 := S4.set (sRc f pr sf sh sl df dh dl 0 0 0 0 0 0 0 0 false 0 0 0 0 0 0 0 0 0 0 none 0 0)
  have b5 := below_setRow b4 (show w.heap.size ≤ W3.heap.size by omega) (sRc f pr sf sh sl df dh dl 0 0 0 0 0 0 0 0 false 0 0 0 0 0 0 0 0 0 0 none 0 0)
  obtain ⟨W5, hW5⟩ : ∃ W, W4.setRow W3.heap.size (sRc f pr sf sh sl df dh dl 0 0 0 0 0 0 0 0 false 0 0 0 0 0 0 0 0 0 0 none 0 0) = W := ⟨_, rfl⟩
  rw [hW5] at P5 R5 S5 b5
  have HW5 : Hid _ := hW5
  clear hW5
  have d0 := P3.cell 0 (.int .i64 f) rfl
  have d1 := P3.cell 1 (.int .i64 sf) rfl
  have d2 := P3.cell 2 (.int .u64 sh) rfl
  have d3 := P3.cell 3 (.int .u64 sl) rfl
  have d4 := P3.cell 4 (.int .i64 df) rfl
  have d5 := P3.cell 5 (.int .u64 dh) rfl
  have d6 := P3.cell 6 (.int .u64 dl) rfl
  have d7 := P3.cell 7 (.int .i64 pr) rfl
  have k0 := P5.cell 0 (.int .i64 f) rfl
  have k7 := P5.cell 7 (.int .i64 pr) rfl
  have k14 := P5.cell 14 (.slice da l.length dc) rfl
  go_wp2_with (first
    | (refine wpList_build _ rfl _ _ rfl _ (by rfl) _ hbT ?_)
    | (refine wpList_build _ rfl _ _ rfl _ (by rfl) _ hbS ?_)
    | (refine wpList_store_row rfl _ _ _ rfl W3.heap.size (sRc f pr sf sh sl df dh dl 0 0 0 0 0 0 0 0 false 0 0 0 0 0 0 0 0 0 0 none 0 0) (by rfl) (by rfl) _ _ S4 (by kernel_rfl) (by rfl) (by kernel_rfl) ?_; rw [HW5.out])
    | (refine wpList_load_row rfl _ _ rfl w.heap.size (by rfl) _ _ _ _ P5 Try.underlying36 rfl (by kernel_rfl) ?_)
    | (refine wpList_load_row rfl _ _ rfl W3.heap.size (by rfl) _ _ _ _ S5 Try.underlying38 rfl (by kernel_rfl) ?_))
  refine Calls.mono (HK.out _ (h.below b5)) ?_
  rintro e W6 ⟨aD, cD, rfl, fD⟩
  have P6 := P5.kept fD.below
  have R6 := R5.kept fD.below
  have S6 := S5.kept fD.below
  have O6 := fD.owns
  have rmD := fD.room
  have nlD := fD.nil
  have smD := fD.row.small
  have byD := fD.row.bytes
  have lw : w.heap.size ≤ W5.heap.size := b5.size
  have b6 := bel_tr b5 fD.below
  clear HK fD P5 R5 S5 b5 k0 k7 k14
  clear hbT hbS P4 R4 S4 b4 HW5 hW4 P3 R3 b3 d0 d1 d2 d3 d4 d5 d6 d7
  have P7 := P6.other (show w.heap.size ≠ W3.heap.size by omega) (sRc f pr sf sh sl df dh dl 0 0 yf ys ya yw yt yc ye tf tp tsf tsh tsl tdf tdh tdl tsp tdp aD D.length cD)
  have R7 := R6.other (show W1.heap.size ≠ W3.heap.size by omega) (sRc f pr sf sh sl df dh dl 0 0 yf ys ya yw yt yc ye tf tp tsf tsh tsl tdf tdh tdl tsp tdp aD D.length cD)
  have O7 := O6.blk_other S6 (by decide) (sRc f pr sf sh sl df dh dl 0 0 yf ys ya yw yt yc ye tf tp tsf tsh tsl tdf tdh tdl tsp tdp aD D.length cD)
  have S7 := S6.set (sRc f pr sf sh sl df dh dl 0 0 yf ys ya yw yt yc ye tf tp tsf tsh tsl tdf tdh tdl tsp tdp aD D.length cD)
  have b7 := below_setRow b6 (show w.heap.size ≤ W3.heap.size by omega) (sRc f pr sf sh sl df dh dl 0 0 yf ys ya yw yt yc ye tf tp tsf tsh tsl tdf tdh tdl tsp tdp aD D.length cD)
  obtain ⟨W7, hW7⟩ : ∃ W, W6.setRow W3.heap.size (sRc f pr sf sh sl df dh dl 0 0 yf ys ya yw yt yc ye tf tp tsf tsh tsl tdf tdh tdl tsp tdp aD D.length cD) = W := ⟨_, rfl⟩
  rw [hW7] at P7 R7 O7 S7 b7
  have HW7 : Hid _ := hW7
  clear hW7
  have k0 := P7.cell 0 (.int .i64 f) rfl
  have k7 := P7.cell 7 (.int .i64 pr) rfl
  have k14 := P7.cell 14 (.slice da l.length dc) rfl
  go_wp2_with (refine wpList_store_row rfl _ _ _ rfl W3.heap.size (sRc f pr sf sh sl df dh dl 0 0 yf ys ya yw yt yc ye tf tp tsf tsh tsl tdf tdh tdl tsp tdp aD D.length cD) (by rfl) (by rfl) _ _ S6 (by kernel_rfl) (by rfl) (by kernel_rfl) ?_; rw [HW7.out])
  refine Calls.mono (KP.out _ (h.below b7)) ?_
  rintro e W8 ⟨rfl, bb⟩
  have R8 := R7.kept bb
  have S8 := S7.kept bb
  have O8 := O7.below bb
  have b8 := bel_tr b7 bb
  clear KP bb P7 R7 S7 O7 b7 P6 R6 S6 O6 b6 HW7 k0 k7 k14
  have v_9 := S8.cell 8 (.int .i64 0) rfl
  have z_9 := S8.frozen 8
  have S9 : Blk (W8.setCell ⟨W3.heap.size, 8, none⟩ (.int .i64 p1)) W3.heap.size 38 (sRc f pr sf sh sl df dh dl p1 0 yf ys ya yw yt yc ye tf tp tsf tsh tsl tdf tdh tdl tsp tdp aD D.length cD) := S8.put 8 (.int .i64 p1)
  have R9 := R8.put_other S8 (show W1.heap.size ≠ W3.heap.size by omega) 8 (.int .i64 p1)
  have O9 := O8.blk_put S8 (by decide) 8 (.int .i64 p1)
  have b9 := b8.setCell (p := ⟨W3.heap.size, 8, none⟩) (show w.heap.size ≤ W3.heap.size by omega) (.int .i64 p1)
  obtain ⟨W9, hW9⟩ : ∃ W, W8.setCell ⟨W3.heap.size, 8, none⟩ (.int .i64 p1) = W := ⟨_, rfl⟩
  rw [hW9] at S9 R9 O9 b9
  have v_10 := S9.cell 9 (.int .i64 0) rfl
  have z_10 := S9.frozen 9
  have S10 : Blk (W9.setCell ⟨W3.heap.size, 9, none⟩ (.int .i64 p2)) W3.heap.size 38 (sRc f pr sf sh sl df dh dl p1 p2 yf ys ya yw yt yc ye tf tp tsf tsh tsl tdf tdh tdl tsp tdp aD D.length cD) := S9.put 9 (.int .i64 p2)
  have R10 := R9.put_other S9 (show W1.heap.size ≠ W3.heap.size by omega) 9 (.int .i64 p2)
  have O10 := O9.blk_put S9 (by decide) 9 (.int .i64 p2)
  have b10 := b9.setCell (p := ⟨W3.heap.size, 9, none⟩) (show w.heap.size ≤ W3.heap.size by omega) (.int .i64 p2)
  obtain ⟨W10, hW10⟩ : ∃ W, W9.setCell ⟨W3.heap.size, 9, none⟩ (.int .i64 p2) = W := ⟨_, rfl⟩
  rw [hW10] at S10 R10 O10 b10
  have Rf := R10.set (sRc f pr sf sh sl df dh dl p1 p2 yf ys ya yw yt yc ye tf tp tsf tsh tsl tdf tdh tdl tsp tdp aD D.length cD)
  have bf := below_setRow b10 (Nat.le_of_lt g1) (sRc f pr sf sh sl df dh dl p1 p2 yf ys ya yw yt yc ye tf tp tsf tsh tsl tdf tdh tdl tsp tdp aD D.length cD)
  have Of := O10.blk_other R10 (by decide) (sRc f pr sf sh sl df dh dl p1 p2 yf ys ya yw yt yc ye tf tp tsf tsh tsl tdf tdh tdl tsp tdp aD D.length cD)
  go_wp2_with (first
    | (refine wpList_load_row rfl _ _ rfl W3.heap.size (by rfl) _ _ _ _ S10 Try.underlying38 rfl (by kernel_rfl) ?_)
    | (refine wpList_store_row rfl _ _ _ rfl W1.heap.size (sRc f pr sf sh sl df dh dl p1 p2 yf ys ya yw yt yc ye tf tp tsf tsh tsl tdf tdh tdl tsp tdp aD D.length cD) (by rfl) (by rfl) _ _ R10 (by kernel_rfl) (by rfl) (by kernel_rfl) ?_))
  refine ret_cell_tmp (k := 2) (j := 3) Try.f17 (by kernel_rfl) Rf Try.underlying38 (by kernel_rfl) (by rfl) (by rfl) rfl ?_
  exact ⟨aD, cD, rfl, owns_le lw Of, rmD, nlD, Of.row smD byD, bf⟩
end Go.Proofs.Ytpjjkdgmfjhfiaa
