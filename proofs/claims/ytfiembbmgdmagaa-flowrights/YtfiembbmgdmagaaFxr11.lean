/- Texts joined: FwF FwE0 FwG -/
import Derived.Test.YtfiembbmgdmagaaFxr8
import Derived.Test.YtfiembbmgdmagaaFxr10
namespace Go.Proofs.Ytfiembbmgdmagaa
abbrev fxr11o0 : Oper := { dst := some 43, op := Op.binOp BinOp.neq 3 (.tmp 42) (.const (.int .i64 0)) 3, type := 4, pos := "ref.go:80", after := #[{ on := 9, ground := Ground.data }, { on := 7, ground := Ground.guard }], guard := some (7, false) }
abbrev fxr11o1 : Oper := { dst := some 44, op := Op.pick (.tmp 40) (.const (.bool true)) (.tmp 43), type := 4, pos := "ref.go:80", after := #[{ on := 7, ground := Ground.data }, { on := 10, ground := Ground.data }], guard := none }
abbrev fxr11o2 : Oper := { dst := some 42, op := Op.load 3 (.tmp 41), type := 3, pos := "ref.go:80", after := #[{ on := 8, ground := Ground.data }, { on := 7, ground := Ground.guard }], guard := some (7, false) }
abbrev fxr11o3 : Oper := { dst := some 41, op := Op.fieldAddr 36 (.tmp 3) 6, type := 0, pos := "ref.go:80", after := #[{ on := 7, ground := Ground.guard }], guard := some (7, false) }
end Go.Proofs.Ytfiembbmgdmagaa
namespace Go.Proofs.Ytfiembbmgdmagaa
open Go.RowKit
set_option linter.unusedVariables false
set_option linter.unusedSimpArgs false
def quT (fam : Int) : Int := if fam == 4 then 8 else 128
def anT (fam : Int) : Int := if fam == 4 then 0 else 129
theorem now_bd {n : Int} (h : nowB n = true) : 0 ≤ n ∧ n ≤ 4611686018427384304 := by simpa [nowB] using h
theorem life_bd0 (f : Fl) : 0 ≤ f.life ∧ f.life ≤ 3600 := by
 unfold Fl.life Cn.life
 (repeat' split) <;> omega
theorem ec_q {t : Wy} (h : t.right = true) (h6 : (t.pr == 6) = false) (h17 : (t.pr == 17) = false) : ecT t.pr false = quT t.fam ∧ ecT t.pr true = anT t.fam := by
 rcases right_pr h with x | x | ⟨x, y⟩ | ⟨x, y⟩
 ·rw [x] at h6; cases h6
 ·rw [x] at h17; cases h17
 ·rw [x, y]; exact ⟨rfl, rfl⟩
 ·rw [x, y]; exact ⟨rfl, rfl⟩
set_option maxRecDepth 100000 in
set_option maxHeartbeats 4000000 in
theorem rin_end (n : Int) (w : World) :
  Calls Try.prog 36 #[.int .i64 n, .int .i64 0, .int .i64 4611686018427387904] w fun e w' => e = .returned (.bool (endB n)) ∧ Below w.heap.size w w' := by
 obtain ⟨R, hR⟩ : ∃ R, endB n = R := ⟨_, rfl⟩
 have HR : Hid (endB n = R) := hR
 rw [hR]
 clear hR
 have b := Below.refl w.heap.size w
 go_enter Try.func36, Try.ntmps36
 cases hq1 : (decide (0 ≤ n)) with
 | false =>
  go_wp2_with fail
  go_ret
  exact ⟨retB_fw (by rw [← HR.out]; first | rfl | (simp [endB, hq1]; done) | (simp [endB, hq1]; rfl)), b⟩

 | true =>
  go_wp2_with fail
  go_ret
  exact ⟨retB_fw (by rw [← HR.out]; first | rfl | (simp [endB, hq1]; done) | (simp [endB, hq1]; rfl)), b⟩
set_option maxRecDepth 100000 in
set_option maxHeartbeats 4000000 in
theorem rin_hlp (n : Int) (w : World) :
  Calls Try.prog 36 #[.int .i64 n, .int .i64 0, .int .i64 3] w fun e w' => e = .returned (.bool (hlpB n)) ∧ Below w.heap.size w w' := by
 obtain ⟨R, hR⟩ : ∃ R, hlpB n = R := ⟨_, rfl⟩
 have HR : Hid (hlpB n = R) := hR
 rw [hR]
 clear hR
 have b := Below.refl w.heap.size w
 go_enter Try.func36, Try.ntmps36
 cases hq1 : (decide (0 ≤ n)) with
 | false =>
  go_wp2_with fail
  go_ret
  exact ⟨retB_fw (by rw [← HR.out]; first | rfl | (simp [hlpB, hq1]; done) | (simp [hlpB, hq1]; rfl)), b⟩

 | true =>
  go_wp2_with fail
  go_ret
  exact ⟨retB_fw (by rw [← HR.out]; first | rfl | (simp [hlpB, hq1]; done) | (simp [hlpB, hq1]; rfl)), b⟩
set_option maxRecDepth 100000 in
set_option maxHeartbeats 4000000 in
theorem rin_now (n : Int) (w : World) :
  Calls Try.prog 36 #[.int .i64 n, .int .i64 0, .int .i64 4611686018427384304] w fun e w' => e = .returned (.bool (nowB n)) ∧ Below w.heap.size w w' := by
 obtain ⟨R, hR⟩ : ∃ R, nowB n = R := ⟨_, rfl⟩
 have HR : Hid (nowB n = R) := hR
 rw [hR]
 clear hR
 have b := Below.refl w.heap.size w
 go_enter Try.func36, Try.ntmps36
 cases hq1 : (decide (0 ≤ n)) with
 | false =>
  go_wp2_with fail
  go_ret
  exact ⟨retB_fw (by rw [← HR.out]; first | rfl | (simp [nowB, hq1]; done) | (simp [nowB, hq1]; rfl)), b⟩

 | true =>
  go_wp2_with fail
  go_ret
  exact ⟨retB_fw (by rw [← HR.out]; first | rfl | (simp [nowB, hq1]; done) | (simp [nowB, hq1]; rfl)), b⟩
set_option maxRecDepth 100000 in
set_option maxHeartbeats 4000000 in
theorem quest_fw (n : Int) (w : World) :
  Calls Try.prog 38 #[.int .i64 n] w fun e w' => e = .returned (.int .i64 (quT n)) ∧ Below w.heap.size w w' := by
 obtain ⟨R, hR⟩ : ∃ R, quT n = R := ⟨_, rfl⟩
 have HR : Hid (quT n = R) := hR
 rw [hR]
 clear hR
 have b := Below.refl w.heap.size w
 go_enter Try.func38, Try.ntmps38
 cases hq1 : (n == 4) with
 | false =>
  go_wp2_with fail
  go_ret
  exact ⟨retN_fw (by rw [← HR.out]; first | rfl | (simp [quT, hq1]; done) | (simp [quT, hq1]; rfl)), b⟩

 | true =>
  go_wp2_with fail
  go_ret
  exact ⟨retN_fw (by rw [← HR.out]; first | rfl | (simp [quT, hq1]; done) | (simp [quT, hq1]; rfl)), b⟩
set_option maxRecDepth 100000 in
set_option maxHeartbeats 4000000 in
theorem rlife_fw (f : Fl) (w : World) :
  Calls Try.prog 39 #[.agg f.v] w fun e w' => e = .returned (.int .i64 f.life) ∧ Below w.heap.size w w' := by
 obtain ⟨R, hR⟩ : ∃ R, f.life = R := ⟨_, rfl⟩
 have HR : Hid (f.life = R) := hR
 rw [hR]
 clear hR
 have b := Below.refl w.heap.size w
 go_enter Try.func39, Try.ntmps39
 cases hq3 : (f.w.pr == 6) with
 | false =>
  cases hq6 : (f.w.pr == 17) with
  | false =>
   obtain ⟨Wm7, hWm7⟩ : ∃ W, w.alloc (.cells f.v 33) = W := ⟨_, rfl⟩
   have bm7 := bel_nw hWm7
   have Am7 := blk_nw hWm7
   have gA : w.heap.size ≤ w.heap.size := Nat.le_refl _
   have c8 := Am7.cell 1 (.int .i64 f.w.pr) rfl
   go_wp2_with fail
   go_ret
   exact ⟨retN_fw (by rw [← HR.out]; first | rfl | (simp [Fl.life, hq3, hq6]; done) | (simp [Fl.life, hq3, hq6]; rfl)), bm7⟩

  | true =>
   cases hq12 : f.both with
   | false =>
    obtain ⟨Wm13, hWm13⟩ : ∃ W, w.alloc (.cells f.v 33) = W := ⟨_, rfl⟩
    have bm13 := bel_nw hWm13
    have Am13 := blk_nw hWm13
    have gA : w.heap.size ≤ w.heap.size := Nat.le_refl _
    have c14 := Am13.cell 1 (.int .i64 f.w.pr) rfl
    have c15 := Am13.cell 21 (.bool f.both) rfl
    go_wp2_with fail
    go_ret
    exact ⟨retN_fw (by rw [← HR.out]; first | rfl | (simp [Fl.life, hq3, hq6, hq12]; done) | (simp [Fl.life, hq3, hq6, hq12]; rfl)), bm13⟩

   | true =>
    obtain ⟨Wm16, hWm16⟩ : ∃ W, w.alloc (.cells f.v 33) = W := ⟨_, rfl⟩
    have bm16 := bel_nw hWm16
    have Am16 := blk_nw hWm16
    have gA : w.heap.size ≤ w.heap.size := Nat.le_refl _
    have c17 := Am16.cell 1 (.int .i64 f.w.pr) rfl
    have c18 := Am16.cell 21 (.bool f.both) rfl
    go_wp2_with fail
    go_ret
    exact ⟨retN_fw (by rw [← HR.out]; first | rfl | (simp [Fl.life, hq3, hq6, hq12]; done) | (simp [Fl.life, hq3, hq6, hq12]; rfl)), bm16⟩



 | true =>
  obtain ⟨Wm19, hWm19⟩ : ∃ W, w.alloc (.cells f.v 33) = W := ⟨_, rfl⟩
  have bm19 := bel_nw hWm19
  have Am19 := blk_nw hWm19
  have gA : w.heap.size ≤ w.heap.size := Nat.le_refl _
  have c20 := Am19.cell 1 (.int .i64 f.w.pr) rfl
  go_wp2_with (refine wpList_load_sub_w (by rfl) _ _ rfl w.heap.size 10 _ (by rfl) _ f.c.v Am19 (by rfl) Try.underlying31 (by kernel_rfl) ?_)
  clear c20
  refine Calls.mono (rlife_tc f.c _) ?_
  rintro e Wm21 ⟨rfl, bb⟩
  have Am21 := Am19.kept bb
  have bm21 := bel_tr bm19 bb
  clear bb
  clear Am19 bm19
  go_wp2_with fail
  go_ret
  exact ⟨retN_fw (by rw [← HR.out]; first | rfl | (simp [Fl.life, hq3]; done) | (simp [Fl.life, hq3]; rfl)), bm21⟩
set_option maxRecDepth 100000 in
set_option maxHeartbeats 4000000 in
theorem rright_fw (f : Fl) (w : World) (hok : f.w.ok) :
  Calls Try.prog 13 #[.agg f.v] w fun e w' => e = .returned (.bool f.right) ∧ Below w.heap.size w w' := by
 obtain ⟨R, hR⟩ : ∃ R, f.right = R := ⟨_, rfl⟩
 have HR : Hid (f.right = R) := hR
 rw [hR]
 clear hR
 have b := Below.refl w.heap.size w
 go_enter Try.func13, Try.ntmps13
 obtain ⟨Wm1, hWm1⟩ : ∃ W, w.alloc (.cells f.v 33) = W := ⟨_, rfl⟩
 have bm1 := bel_nw hWm1
 have Am1 := blk_nw hWm1
 have gA : w.heap.size ≤ w.heap.size := Nat.le_refl _
 go_wp2_with (refine wpList_load_sub_w (by rfl) _ _ rfl w.heap.size 0 _ (by rfl) _ f.w.v Am1 (by rfl) Try.underlying26 (by kernel_rfl) ?_)
 refine Calls.mono (rright_t f.w _ (by first | assumption | exact Wy.ok_rev (by assumption))) ?_
 rintro e Wm2 ⟨rfl, bb⟩
 have Am2 := Am1.kept bb
 have bm2 := bel_tr bm1 bb
 clear bb
 clear Am1 bm1
 cases hq3 : (Wy.right f.w) with
 | false =>
  go_wp2_with fail
  go_ret
  exact ⟨retB_fw (by rw [← HR.out]; first | rfl | (simp [Fl.right, Fl.cnB, hq3]; done) | (simp [Fl.right, Fl.cnB, hq3]; rfl)), bm2⟩

 | true =>
  have c4 := Am2.cell 19 (.int .i64 f.ends) rfl
  go_wp2_with fail
  clear c4
  refine Calls.mono (rin_end f.ends _) ?_
  rintro e Wm5 ⟨rfl, bb⟩
  have Am5 := Am2.kept bb
  have bm5 := bel_tr bm2 bb
  clear bb
  clear Am2 bm2
  cases hq6 : (endB f.ends) with
  | false =>
   go_wp2_with fail
   go_ret
   exact ⟨retB_fw (by rw [← HR.out]; first | rfl | (simp [Fl.right, Fl.cnB, hq3, hq6]; done) | (simp [Fl.right, Fl.cnB, hq3, hq6]; rfl)), bm5⟩

  | true =>
   have c7 := Am5.cell 20 (.int .i64 f.help) rfl
   go_wp2_with fail
   clear c7
   refine Calls.mono (rin_hlp f.help _) ?_
   rintro e Wm8 ⟨rfl, bb⟩
   have Am8 := Am5.kept bb
   have bm8 := bel_tr bm5 bb
   clear bb
   clear Am5 bm5
   cases hq9 : (hlpB f.help) with
   | false =>
    go_wp2_with fail
    go_ret
    exact ⟨retB_fw (by rw [← HR.out]; first | rfl | (simp [Fl.right, Fl.cnB, hq3, hq6, hq9]; done) | (simp [Fl.right, Fl.cnB, hq3, hq6, hq9]; rfl)), bm8⟩

   | true =>
    cases hq11 : (f.w.pr == 6) with
    | false =>
     have c12 := Am8.cell 1 (.int .i64 f.w.pr) rfl
     have hE13 := eqz_cn f.c
     go_wp2_with (refine wpList_load_sub_w (by rfl) _ _ rfl w.heap.size 10 _ (by rfl) _ f.c.v Am8 (by rfl) Try.underlying31 (by kernel_rfl) ?_)
     go_ret
     exact ⟨retB_fw (by rw [← HR.out]; first | rfl | (simp [Fl.right, Fl.cnB, hq3, hq6, hq9, hq11]; done) | (simp [Fl.right, Fl.cnB, hq3, hq6, hq9, hq11]; rfl)), bm8⟩

    | true =>
     have c14 := Am8.cell 1 (.int .i64 f.w.pr) rfl
     go_wp2_with (refine wpList_load_sub_w (by rfl) _ _ rfl w.heap.size 10 _ (by rfl) _ f.c.v Am8 (by rfl) Try.underlying31 (by kernel_rfl) ?_)
     clear c14
     refine Calls.mono (rright_tc f.c _) ?_
     rintro e Wm15 ⟨rfl, bb⟩
     have Am15 := Am8.kept bb
     have bm15 := bel_tr bm8 bb
     clear bb
     clear Am8 bm8
     go_wp2_with fail
     go_ret
     exact ⟨retB_fw (by rw [← HR.out]; first | rfl | (simp [Fl.right, Fl.cnB, hq3, hq6, hq9, hq11]; done) | (simp [Fl.right, Fl.cnB, hq3, hq6, hq9, hq11]; rfl)), bm15⟩
theorem setConn_fw (f : Fl) (c : Cn) : setMany f.v 10 c.v.toList = Fl.v ⟨f.w, c, f.ends, f.help, f.both⟩ := by kernel_rfl
set_option maxRecDepth 100000 in
set_option maxHeartbeats 16000000 in
theorem rstart_fw (s : Sm) (now help : Int) (w : World) (hok : s.w.ok) :
  Calls Try.prog 11 #[.agg s.v, .int .i64 now, .int .i64 help] w fun e w' => e = .returned (.tuple #[.agg (startF s now help).1.v, .int .i64 (startF s now help).2]) ∧ Below w.heap.size w w' := by
 obtain ⟨R, hR⟩ : ∃ R, startF s now help = R := ⟨_, rfl⟩
 have HR : Hid (startF s now help = R) := hR
 rw [hR]
 clear hR
 have b := Below.refl w.heap.size w
 go_enter Try.func11, Try.ntmps11
 obtain ⟨Wm1, hWm1⟩ : ∃ W, w.alloc (.cells s.v 36) = W := ⟨_, rfl⟩
 have bm1 := bel_nw hWm1
 have Am1 := blk_nw hWm1
 have gA : w.heap.size ≤ w.heap.size := Nat.le_refl _
 obtain ⟨Wm2, hWm2⟩ : ∃ W, Wm1.alloc (.cells #[.int .i64 0, .int .i64 0, .int .i64 0, .int .u64 0, .int .u64 0, .int .i64 0, .int .u64 0, .int .u64 0, .int .i64 0, .int .i64 0, .int .i64 0, .int .u32 0, .int .u32 0, .int .u32 0, .int .u32 0, .bool false, .bool false, .bool false, .bool false, .int .i64 0, .int .i64 0, .bool false] 33) = W := ⟨_, rfl⟩
 have bm2 := bel_al bm1 hWm2
 have Am2 := Am1.al hWm2
 have Bm2 := blk_nw hWm2
 have gB : w.heap.size ≤ Wm1.heap.size := bm1.size
 have nAB : w.heap.size ≠ Wm1.heap.size := by have := Am1.lt; omega
 have nBA : Wm1.heap.size ≠ w.heap.size := fun e => nAB e.symm
 go_wp2_with (refine wpList_load_sub_w (by rfl) _ _ rfl w.heap.size 0 _ (by rfl) _ s.w.v Am2 (by rfl) Try.underlying26 (by kernel_rfl) ?_)
 refine Calls.mono (rright_t s.w _ (by first | assumption | exact Wy.ok_rev (by assumption))) ?_
 rintro e Wm3 ⟨rfl, bb⟩
 have Am3 := Am2.kept bb
 have Bm3 := Bm2.kept bb
 have bm3 := bel_tr bm2 bb
 clear bb
 clear Am2 Bm2 bm2
 cases hq4 : (Wy.right s.w) with
 | false =>
  obtain ⟨Wm5, hWm5⟩ : ∃ W, Wm3.setRow Wm1.heap.size fl0.v = W := ⟨_, rfl⟩
  have Bm5 : Blk Wm5 Wm1.heap.size 33 fl0.v := hWm5 ▸ Bm3.set fl0.v
  have Am5 := hWm5 ▸ Am3.other nAB fl0.v
  have bm5 := hWm5 ▸ below_setRow bm3 gB fl0.v
  go_wp2_with (refine wpList_store_row rfl _ _ _ rfl Wm1.heap.size fl0.v (by rfl) (by rfl) _ _ Bm3 (by kernel_rfl) (by rfl) (by kernel_rfl) ?_; rw [hWm5])
  have hR2 : R = ((fl0 : Fl), (1 : Int)) := by rw [← HR.out]; first | rfl | (simp [startF, Sm.beg, Sm.ec, Fl.keep, cn0, hq4]; done) | (simp [startF, Sm.beg, Sm.ec, Fl.keep, cn0, hq4]; rfl) | (simp [startF, Sm.beg, Sm.ec, Fl.keep, cn0, hq4, (ec_q (by assumption) (by assumption) (by assumption)).1]; done)
  subst hR2
  exact ret_cell_tmp (k := 6) (j := 7) Try.f11 (by kernel_rfl) Bm5 Try.underlying33 (by kernel_rfl) (by rfl) (by rfl) rfl ⟨rfl, bm5⟩

 | true =>
  go_wp2_with fail
  refine Calls.mono (rin_now now _) ?_
  rintro e Wm6 ⟨rfl, bb⟩
  have Am6 := Am3.kept bb
  have Bm6 := Bm3.kept bb
  have bm6 := bel_tr bm3 bb
  clear bb
  clear Am3 Bm3 bm3
  cases hq7 : (nowB now) with
  | false =>
   obtain ⟨Wm8, hWm8⟩ : ∃ W, Wm6.setRow Wm1.heap.size fl0.v = W := ⟨_, rfl⟩
   have Bm8 : Blk Wm8 Wm1.heap.size 33 fl0.v := hWm8 ▸ Bm6.set fl0.v
   have Am8 := hWm8 ▸ Am6.other nAB fl0.v
   have bm8 := hWm8 ▸ below_setRow bm6 gB fl0.v
   go_wp2_with (refine wpList_store_row rfl _ _ _ rfl Wm1.heap.size fl0.v (by rfl) (by rfl) _ _ Bm6 (by kernel_rfl) (by rfl) (by kernel_rfl) ?_; rw [hWm8])
   have hR2 : R = ((fl0 : Fl), (1 : Int)) := by rw [← HR.out]; first | rfl | (simp [startF, Sm.beg, Sm.ec, Fl.keep, cn0, hq4, hq7]; done) | (simp [startF, Sm.beg, Sm.ec, Fl.keep, cn0, hq4, hq7]; rfl) | (simp [startF, Sm.beg, Sm.ec, Fl.keep, cn0, hq4, hq7, (ec_q (by assumption) (by assumption) (by assumption)).1]; done)
   subst hR2
   exact ret_cell_tmp (k := 6) (j := 7) Try.f11 (by kernel_rfl) Bm8 Try.underlying33 (by kernel_rfl) (by rfl) (by rfl) rfl ⟨rfl, bm8⟩

  | true =>
   go_wp2_with fail
   refine Calls.mono (rin_hlp help _) ?_
   rintro e Wm9 ⟨rfl, bb⟩
   have Am9 := Am6.kept bb
   have Bm9 := Bm6.kept bb
   have bm9 := bel_tr bm6 bb
   clear bb
   clear Am6 Bm6 bm6
   cases hq10 : (hlpB help) with
   | false =>
    obtain ⟨Wm11, hWm11⟩ : ∃ W, Wm9.setRow Wm1.heap.size fl0.v = W := ⟨_, rfl⟩
    have Bm11 : Blk Wm11 Wm1.heap.size 33 fl0.v := hWm11 ▸ Bm9.set fl0.v
    have Am11 := hWm11 ▸ Am9.other nAB fl0.v
    have bm11 := hWm11 ▸ below_setRow bm9 gB fl0.v
    go_wp2_with (refine wpList_store_row rfl _ _ _ rfl Wm1.heap.size fl0.v (by rfl) (by rfl) _ _ Bm9 (by kernel_rfl) (by rfl) (by kernel_rfl) ?_; rw [hWm11])
    have hR2 : R = ((fl0 : Fl), (1 : Int)) := by rw [← HR.out]; first | rfl | (simp [startF, Sm.beg, Sm.ec, Fl.keep, cn0, hq4, hq7, hq10]; done) | (simp [startF, Sm.beg, Sm.ec, Fl.keep, cn0, hq4, hq7, hq10]; rfl) | (simp [startF, Sm.beg, Sm.ec, Fl.keep, cn0, hq4, hq7, hq10, (ec_q (by assumption) (by assumption) (by assumption)).1]; done)
    subst hR2
    exact ret_cell_tmp (k := 6) (j := 7) Try.f11 (by kernel_rfl) Bm11 Try.underlying33 (by kernel_rfl) (by rfl) (by rfl) rfl ⟨rfl, bm11⟩

   | true =>
    cases hq15 : (s.w.pr == 6) with
    | false =>
     cases hq19 : (s.w.pr == 17) with
     | false =>
      obtain ⟨Wm20, hWm20⟩ : ∃ W, Wm9.alloc (.cells #[.int .i64 0, .int .i64 0, .int .i64 0, .int .u64 0, .int .u64 0, .int .i64 0, .int .u64 0, .int .u64 0, .int .i64 0, .int .i64 0, .int .i64 0, .int .u32 0, .int .u32 0, .int .u32 0, .int .u32 0, .bool false, .bool false, .bool false, .bool false, .int .i64 0, .int .i64 0, .bool false] 33) = W := ⟨_, rfl⟩
      have bm20 := bel_al bm9 hWm20
      have Am20 := Am9.al hWm20
      have Bm20 := Bm9.al hWm20
      have Cm20 := blk_nw hWm20
      have gC : w.heap.size ≤ Wm9.heap.size := bm9.size
      have nAC : w.heap.size ≠ Wm9.heap.size := by have := Am9.lt; omega
      have nCA : Wm9.heap.size ≠ w.heap.size := fun e => nAC e.symm
      have nBC : Wm1.heap.size ≠ Wm9.heap.size := by have := Bm9.lt; omega
      have nCB : Wm9.heap.size ≠ Wm1.heap.size := fun e => nBC e.symm
      obtain ⟨Wm21, hWm21⟩ : ∃ W, Wm20.setRow Wm9.heap.size (Fl.v ⟨s.w, ⟨0, 0, 0, 0, 0, false, false, false, false⟩, 0, help, false⟩) = W := ⟨_, rfl⟩
      have Cm21 : Blk Wm21 Wm9.heap.size 33 (Fl.v ⟨s.w, ⟨0, 0, 0, 0, 0, false, false, false, false⟩, 0, help, false⟩) := hWm21 ▸ Cm20.set (Fl.v ⟨s.w, ⟨0, 0, 0, 0, 0, false, false, false, false⟩, 0, help, false⟩)
      have Am21 := hWm21 ▸ Am20.other nAC (Fl.v ⟨s.w, ⟨0, 0, 0, 0, 0, false, false, false, false⟩, 0, help, false⟩)
      have Bm21 := hWm21 ▸ Bm20.other nBC (Fl.v ⟨s.w, ⟨0, 0, 0, 0, 0, false, false, false, false⟩, 0, help, false⟩)
      have bm21 := hWm21 ▸ below_setRow bm20 gC (Fl.v ⟨s.w, ⟨0, 0, 0, 0, 0, false, false, false, false⟩, 0, help, false⟩)
      have c22 := Am21.cell 1 (.int .i64 s.w.pr) rfl
      go_wp2_with (first | (refine wpList_load_sub_w (by rfl) _ _ rfl w.heap.size 0 _ (by rfl) _ s.w.v Am9 (by rfl) Try.underlying26 (by kernel_rfl) ?_) | (refine wpList_store_row rfl _ _ _ rfl Wm9.heap.size (Fl.v ⟨s.w, ⟨0, 0, 0, 0, 0, false, false, false, false⟩, 0, help, false⟩) (by rfl) (by rfl) _ _ Cm20 (by kernel_rfl) (by rfl) (by kernel_rfl) ?_; rw [hWm21]))
      clear c22
      obtain ⟨Wdq23, hWdq23⟩ : ∃ W, Wm21.drew = W := ⟨_, rfl⟩
      have Adq23 := hWdq23 ▸ Am21.drew
      have Bdq23 := hWdq23 ▸ Bm21.drew
      have Cdq23 := hWdq23 ▸ Cm21.drew
      have bdq23 := hWdq23 ▸ bm21.drew
      refine wp_region_noPanic ?_
      refine wp_region_held_drew (S := fun w' => Blk w' w.heap.size 36 s.v ∧ Blk w' Wm1.heap.size 33 #[.int .i64 0, .int .i64 0, .int .i64 0, .int .u64 0, .int .u64 0, .int .i64 0, .int .u64 0, .int .u64 0, .int .i64 0, .int .i64 0, .int .i64 0, .int .u32 0, .int .u32 0, .int .u32 0, .int .u32 0, .bool false, .bool false, .bool false, .bool false, .int .i64 0, .int .i64 0, .bool false] ∧ Blk w' Wm9.heap.size 33 (Fl.v ⟨s.w, ⟨0, 0, 0, 0, 0, false, false, false, false⟩, 0, help, false⟩)) (by kernel_rfl) (by rw [hWdq23]; exact ⟨Adq23, Bdq23, Cdq23⟩) (fun hHeld => ?_)
      rw [hWdq23] at hHeld ⊢
      refine qtk (i := 0) (oi := { dst := some 33, op := Op.fieldAddr 36 (.tmp 3) 5, type := 0, pos := "ref.go:80", after := #[], guard := none }) (v := (.pointer (some ⟨w.heap.size, 14, none⟩))) hHeld ?_ ?_
      ·intro w9 hSw
       try dsimp only at hSw
       go_simp
      try simp only [qpu]
      refine qtk (i := 1) (oi := { dst := some 34, op := Op.load 3 (.tmp 33), type := 3, pos := "ref.go:80", after := #[{ on := 0, ground := Ground.data }], guard := none }) (v := (.int .i64 s.ty)) hHeld ?_ ?_
      ·intro w9 hSw
       try dsimp only at hSw
       have hcc := hSw.1.cell 14 (.int .i64 s.ty) rfl
       go_simp
      try simp only [qpu]
      refine qtk (i := 2) (oi := { dst := some 35, op := Op.fieldAddr 36 (.tmp 3) 0, type := 0, pos := "ref.go:80", after := #[], guard := none }) (v := (.pointer (some ⟨w.heap.size, 0, none⟩))) hHeld ?_ ?_
      ·intro w9 hSw
       try dsimp only at hSw
       go_simp
      try simp only [qpu]
      refine qtk (i := 3) (oi := { dst := some 36, op := Op.fieldAddr 26 (.tmp 35) 0, type := 0, pos := "ref.go:80", after := #[{ on := 2, ground := Ground.data }], guard := none }) (v := (.pointer (some ⟨w.heap.size, 0, none⟩))) hHeld ?_ ?_
      ·intro w9 hSw
       try dsimp only at hSw
       go_simp
      try simp only [qpu]
      refine qtk (i := 4) (oi := { dst := some 37, op := Op.load 3 (.tmp 36), type := 3, pos := "ref.go:80", after := #[{ on := 3, ground := Ground.data }], guard := none }) (v := (.int .i64 s.w.fam)) hHeld ?_ ?_
      ·intro w9 hSw
       try dsimp only at hSw
       have hcc := hSw.1.cell 0 (.int .i64 s.w.fam) rfl
       go_simp
      try simp only [qpu]
      refine wpAnyH_ready (rs := [5]) (by kernel_rfl) (by simp) ?_
      refine AllReadyH.cons (o := { dst := some 38, op := Op.call { callee := Callee.value (.func 38), args := #[.tmp 37], argTypes := #[3] }, type := 3, pos := "ref.go:80", after := #[{ on := 4, ground := Ground.data }], guard := none }) rfl (fun K hK => ?_) AllReadyH.nil
      go_simp
      refine Calls.mono (quest_fw s.w.fam _) ?_
      rintro e Wx24 ⟨rfl, bb⟩
      have Ax24 := Adq23.kept bb
      have Bx24 := Bdq23.kept bb
      have Cx24 := Cdq23.kept bb
      have bx24 := bel_tr bdq23 bb
      clear bb
      refine hK.out _ _ (by exact ⟨Ax24, Bx24, Cx24⟩) (fun hHeld => ?_)
      clear hK K
      try simp only [qpu]
      refine qtk (i := 6) (oi := { dst := some 39, op := Op.binOp BinOp.neq 3 (.tmp 34) (.tmp 38) 3, type := 4, pos := "ref.go:80", after := #[{ on := 1, ground := Ground.data }, { on := 5, ground := Ground.data }], guard := none }) (v := (.bool (s.ty != (quT s.w.fam)))) hHeld ?_ ?_
      ·intro w9 hSw
       try dsimp only at hSw
       go_simp
      try simp only [qpu]
      refine qtk (i := 7) (oi := { dst := some 40, op := Op.move (.tmp 39), type := 4, pos := "ref.go:80", after := #[{ on := 6, ground := Ground.data }, { on := 5, ground := Ground.chain }], guard := none }) (v := (.bool (s.ty != (quT s.w.fam)))) hHeld ?_ ?_
      ·intro w9 hSw
       try dsimp only at hSw
       go_simp
      try simp only [qpu]
      cases hq25 : (s.ty != (quT s.w.fam)) with
      | false =>
       refine qtk (i := 8) (oi := fxr11o3) (v := (.pointer (some ⟨w.heap.size, 15, none⟩))) hHeld ?_ ?_
       ·intro w9 hSw
        try dsimp only at hSw
        go_simp
       try simp only [qpu]
       refine qtk (i := 9) (oi := fxr11o2) (v := (.int .i64 s.co)) hHeld ?_ ?_
       ·intro w9 hSw
        try dsimp only at hSw
        have hcc := hSw.1.cell 15 (.int .i64 s.co) rfl
        go_simp
       try simp only [qpu]
       refine qtk (i := 10) (oi := fxr11o0) (v := (.bool (s.co != 0))) hHeld ?_ ?_
       ·intro w9 hSw
        try dsimp only at hSw
        go_simp
       try simp only [qpu]
       refine qtk (i := 11) (oi := fxr11o1) (v := (.bool (s.co != 0))) hHeld ?_ ?_
       ·intro w9 hSw
        try dsimp only at hSw
        go_simp
       try simp only [qpu]
       refine wpAnyH_done (by kernel_rfl) ?_ _
       refine NoPanic.normal ?_
       cases hq26 : (s.co != 0) with
       | false =>
        go_wp2_with (refine wpList_load_blk_w (by rfl) _ _ rfl Wm9.heap.size (by rfl) _ Cx24 Try.underlying33 (by kernel_rfl) ?_)
        refine Calls.mono (rlife_fw (⟨s.w, ⟨0, 0, 0, 0, 0, false, false, false, false⟩, 0, help, false⟩) _) ?_
        rintro e Wm27 ⟨rfl, bb⟩
        have Am27 := Ax24.kept bb
        have Bm27 := Bx24.kept bb
        have Cm27 := Cx24.kept bb
        have bm27 := bel_tr bx24 bb
        clear bb
        have hlf := life_bd0 (⟨s.w, ⟨0, 0, 0, 0, 0, false, false, false, false⟩, 0, help, false⟩)
        have hnw := now_bd (n := now) (by assumption)
        clear Ax24 Bx24 Cx24 bx24
        have y29 := Cm27.cell 19 (.int .i64 0) rfl
        have z30 := Cm27.frozen 19
        obtain ⟨Wm28, hWm28⟩ : ∃ W, Wm27.setCell ⟨Wm9.heap.size, 19, none⟩ (.int .i64 (now + (Fl.life (⟨s.w, ⟨0, 0, 0, 0, 0, false, false, false, false⟩, 0, help, false⟩)))) = W := ⟨_, rfl⟩
        have Cm28 : Blk Wm28 Wm9.heap.size 33 (Fl.v ⟨s.w, ⟨0, 0, 0, 0, 0, false, false, false, false⟩, now + (Fl.life (⟨s.w, ⟨0, 0, 0, 0, 0, false, false, false, false⟩, 0, help, false⟩)), help, false⟩) := hWm28 ▸ Cm27.put 19 (.int .i64 (now + (Fl.life (⟨s.w, ⟨0, 0, 0, 0, 0, false, false, false, false⟩, 0, help, false⟩))))
        have Am28 := hWm28 ▸ Am27.put_other Cm27 nAC 19 (.int .i64 (now + (Fl.life (⟨s.w, ⟨0, 0, 0, 0, 0, false, false, false, false⟩, 0, help, false⟩))))
        have Bm28 := hWm28 ▸ Bm27.put_other Cm27 nBC 19 (.int .i64 (now + (Fl.life (⟨s.w, ⟨0, 0, 0, 0, 0, false, false, false, false⟩, 0, help, false⟩))))
        have bm28 := hWm28 ▸ bm27.setCell (p := ⟨Wm9.heap.size, 19, none⟩) gC (.int .i64 (now + (Fl.life (⟨s.w, ⟨0, 0, 0, 0, 0, false, false, false, false⟩, 0, help, false⟩))))
        obtain ⟨Wm31, hWm31⟩ : ∃ W, Wm28.setRow Wm1.heap.size (Fl.v ⟨s.w, ⟨0, 0, 0, 0, 0, false, false, false, false⟩, now + (Fl.life (⟨s.w, ⟨0, 0, 0, 0, 0, false, false, false, false⟩, 0, help, false⟩)), help, false⟩) = W := ⟨_, rfl⟩
        have Bm31 : Blk Wm31 Wm1.heap.size 33 (Fl.v ⟨s.w, ⟨0, 0, 0, 0, 0, false, false, false, false⟩, now + (Fl.life (⟨s.w, ⟨0, 0, 0, 0, 0, false, false, false, false⟩, 0, help, false⟩)), help, false⟩) := hWm31 ▸ Bm28.set (Fl.v ⟨s.w, ⟨0, 0, 0, 0, 0, false, false, false, false⟩, now + (Fl.life (⟨s.w, ⟨0, 0, 0, 0, 0, false, false, false, false⟩, 0, help, false⟩)), help, false⟩)
        have Am31 := hWm31 ▸ Am28.other nAB (Fl.v ⟨s.w, ⟨0, 0, 0, 0, 0, false, false, false, false⟩, now + (Fl.life (⟨s.w, ⟨0, 0, 0, 0, 0, false, false, false, false⟩, 0, help, false⟩)), help, false⟩)
        have Cm31 := hWm31 ▸ Cm28.other nCB (Fl.v ⟨s.w, ⟨0, 0, 0, 0, 0, false, false, false, false⟩, now + (Fl.life (⟨s.w, ⟨0, 0, 0, 0, 0, false, false, false, false⟩, 0, help, false⟩)), help, false⟩)
        have bm31 := hWm31 ▸ below_setRow bm28 gB (Fl.v ⟨s.w, ⟨0, 0, 0, 0, 0, false, false, false, false⟩, now + (Fl.life (⟨s.w, ⟨0, 0, 0, 0, 0, false, false, false, false⟩, 0, help, false⟩)), help, false⟩)
        go_wp2_with (first | (refine wpList_load_blk_w (by rfl) _ _ rfl Wm9.heap.size (by rfl) _ Cm28 Try.underlying33 (by kernel_rfl) ?_) | (refine wpList_store_row rfl _ _ _ rfl Wm1.heap.size (Fl.v ⟨s.w, ⟨0, 0, 0, 0, 0, false, false, false, false⟩, now + (Fl.life (⟨s.w, ⟨0, 0, 0, 0, 0, false, false, false, false⟩, 0, help, false⟩)), help, false⟩) (by rfl) (by rfl) _ _ Bm28 (by kernel_rfl) (by rfl) (by kernel_rfl) ?_; rw [hWm31]))
        have hR2 : R = ((⟨s.w, ⟨0, 0, 0, 0, 0, false, false, false, false⟩, now + (Fl.life (⟨s.w, ⟨0, 0, 0, 0, 0, false, false, false, false⟩, 0, help, false⟩)), help, false⟩ : Fl), (0 : Int)) := by rw [← HR.out]; first | rfl | (simp [startF, Sm.beg, Sm.ec, Fl.keep, cn0, hq4, hq7, hq10, hq15, hq19, bne_f_fw hq25, bne_f_fw hq26]; done) | (simp [startF, Sm.beg, Sm.ec, Fl.keep, cn0, hq4, hq7, hq10, hq15, hq19, bne_f_fw hq25, bne_f_fw hq26]; rfl) | (simp [startF, Sm.beg, Sm.ec, Fl.keep, cn0, hq4, hq7, hq10, hq15, hq19, bne_f_fw hq25, bne_f_fw hq26, (ec_q (by assumption) (by assumption) (by assumption)).1]; done)
        subst hR2
        exact ret_cell_tmp (k := 6) (j := 7) Try.f11 (by kernel_rfl) Bm31 Try.underlying33 (by kernel_rfl) (by rfl) (by rfl) rfl ⟨rfl, bm31⟩

       | true =>
        obtain ⟨Wm32, hWm32⟩ : ∃ W, Wx24.setRow Wm1.heap.size fl0.v = W := ⟨_, rfl⟩
        have Bm32 : Blk Wm32 Wm1.heap.size 33 fl0.v := hWm32 ▸ Bx24.set fl0.v
        have Am32 := hWm32 ▸ Ax24.other nAB fl0.v
        have Cm32 := hWm32 ▸ Cx24.other nCB fl0.v
        have bm32 := hWm32 ▸ below_setRow bx24 gB fl0.v
        go_wp2_with (refine wpList_store_row rfl _ _ _ rfl Wm1.heap.size fl0.v (by rfl) (by rfl) _ _ Bx24 (by kernel_rfl) (by rfl) (by kernel_rfl) ?_; rw [hWm32])
        have hR2 : R = ((fl0 : Fl), (23 : Int)) := by rw [← HR.out]; first | rfl | (simp [startF, Sm.beg, Sm.ec, Fl.keep, cn0, hq4, hq7, hq10, hq15, hq19, bne_f_fw hq25, bne_t_fw hq26]; done) | (simp [startF, Sm.beg, Sm.ec, Fl.keep, cn0, hq4, hq7, hq10, hq15, hq19, bne_f_fw hq25, bne_t_fw hq26]; rfl) | (simp [startF, Sm.beg, Sm.ec, Fl.keep, cn0, hq4, hq7, hq10, hq15, hq19, bne_f_fw hq25, bne_t_fw hq26, (ec_q (by assumption) (by assumption) (by assumption)).1]; done)
        subst hR2
        exact ret_cell_tmp (k := 6) (j := 7) Try.f11 (by kernel_rfl) Bm32 Try.underlying33 (by kernel_rfl) (by rfl) (by rfl) rfl ⟨rfl, bm32⟩


      | true =>
       refine qtn (i := 8) (oi := fxr11o3) hHeld ?_
       try simp only [qpu]
       refine qtn (i := 9) (oi := fxr11o2) hHeld ?_
       try simp only [qpu]
       refine qtn (i := 10) (oi := fxr11o0) hHeld ?_
       try simp only [qpu]
       refine qtk (i := 11) (oi := fxr11o1) (v := (.bool true)) hHeld ?_ ?_
       ·intro w9 hSw
        try dsimp only at hSw
        go_simp
       try simp only [qpu]
       refine wpAnyH_done (by kernel_rfl) ?_ _
       refine NoPanic.normal ?_
       obtain ⟨Wm33, hWm33⟩ : ∃ W, Wx24.setRow Wm1.heap.size fl0.v = W := ⟨_, rfl⟩
       have Bm33 : Blk Wm33 Wm1.heap.size 33 fl0.v := hWm33 ▸ Bx24.set fl0.v
       have Am33 := hWm33 ▸ Ax24.other nAB fl0.v
       have Cm33 := hWm33 ▸ Cx24.other nCB fl0.v
       have bm33 := hWm33 ▸ below_setRow bx24 gB fl0.v
       go_wp2_with (refine wpList_store_row rfl _ _ _ rfl Wm1.heap.size fl0.v (by rfl) (by rfl) _ _ Bx24 (by kernel_rfl) (by rfl) (by kernel_rfl) ?_; rw [hWm33])
       have hR2 : R = ((fl0 : Fl), (23 : Int)) := by rw [← HR.out]; first | rfl | (simp [startF, Sm.beg, Sm.ec, Fl.keep, cn0, hq4, hq7, hq10, hq15, hq19, bne_t_fw hq25]; done) | (simp [startF, Sm.beg, Sm.ec, Fl.keep, cn0, hq4, hq7, hq10, hq15, hq19, bne_t_fw hq25]; rfl) | (simp [startF, Sm.beg, Sm.ec, Fl.keep, cn0, hq4, hq7, hq10, hq15, hq19, bne_t_fw hq25, (ec_q (by assumption) (by assumption) (by assumption)).1]; done)
       subst hR2
       exact ret_cell_tmp (k := 6) (j := 7) Try.f11 (by kernel_rfl) Bm33 Try.underlying33 (by kernel_rfl) (by rfl) (by rfl) rfl ⟨rfl, bm33⟩


     | true =>
      obtain ⟨Wm34, hWm34⟩ : ∃ W, Wm9.alloc (.cells #[.int .i64 0, .int .i64 0, .int .i64 0, .int .u64 0, .int .u64 0, .int .i64 0, .int .u64 0, .int .u64 0, .int .i64 0, .int .i64 0, .int .i64 0, .int .u32 0, .int .u32 0, .int .u32 0, .int .u32 0, .bool false, .bool false, .bool false, .bool false, .int .i64 0, .int .i64 0, .bool false] 33) = W := ⟨_, rfl⟩
      have bm34 := bel_al bm9 hWm34
      have Am34 := Am9.al hWm34
      have Bm34 := Bm9.al hWm34
      have Cm34 := blk_nw hWm34
      have gC : w.heap.size ≤ Wm9.heap.size := bm9.size
      have nAC : w.heap.size ≠ Wm9.heap.size := by have := Am9.lt; omega
      have nCA : Wm9.heap.size ≠ w.heap.size := fun e => nAC e.symm
      have nBC : Wm1.heap.size ≠ Wm9.heap.size := by have := Bm9.lt; omega
      have nCB : Wm9.heap.size ≠ Wm1.heap.size := fun e => nBC e.symm
      obtain ⟨Wm35, hWm35⟩ : ∃ W, Wm34.setRow Wm9.heap.size (Fl.v ⟨s.w, ⟨0, 0, 0, 0, 0, false, false, false, false⟩, 0, help, false⟩) = W := ⟨_, rfl⟩
      have Cm35 : Blk Wm35 Wm9.heap.size 33 (Fl.v ⟨s.w, ⟨0, 0, 0, 0, 0, false, false, false, false⟩, 0, help, false⟩) := hWm35 ▸ Cm34.set (Fl.v ⟨s.w, ⟨0, 0, 0, 0, 0, false, false, false, false⟩, 0, help, false⟩)
      have Am35 := hWm35 ▸ Am34.other nAC (Fl.v ⟨s.w, ⟨0, 0, 0, 0, 0, false, false, false, false⟩, 0, help, false⟩)
      have Bm35 := hWm35 ▸ Bm34.other nBC (Fl.v ⟨s.w, ⟨0, 0, 0, 0, 0, false, false, false, false⟩, 0, help, false⟩)
      have bm35 := hWm35 ▸ below_setRow bm34 gC (Fl.v ⟨s.w, ⟨0, 0, 0, 0, 0, false, false, false, false⟩, 0, help, false⟩)
      have c36 := Am35.cell 1 (.int .i64 s.w.pr) rfl
      go_wp2_with (first | (refine wpList_load_sub_w (by rfl) _ _ rfl w.heap.size 0 _ (by rfl) _ s.w.v Am9 (by rfl) Try.underlying26 (by kernel_rfl) ?_) | (refine wpList_store_row rfl _ _ _ rfl Wm9.heap.size (Fl.v ⟨s.w, ⟨0, 0, 0, 0, 0, false, false, false, false⟩, 0, help, false⟩) (by rfl) (by rfl) _ _ Cm34 (by kernel_rfl) (by rfl) (by kernel_rfl) ?_; rw [hWm35]) | (refine wpList_load_blk_w (by rfl) _ _ rfl Wm9.heap.size (by rfl) _ Cm35 Try.underlying33 (by kernel_rfl) ?_))
      clear c36
      refine Calls.mono (rlife_fw (⟨s.w, ⟨0, 0, 0, 0, 0, false, false, false, false⟩, 0, help, false⟩) _) ?_
      rintro e Wm37 ⟨rfl, bb⟩
      have Am37 := Am35.kept bb
      have Bm37 := Bm35.kept bb
      have Cm37 := Cm35.kept bb
      have bm37 := bel_tr bm35 bb
      clear bb
      have hlf := life_bd0 (⟨s.w, ⟨0, 0, 0, 0, 0, false, false, false, false⟩, 0, help, false⟩)
      have hnw := now_bd (n := now) (by assumption)
      clear Am35 Bm35 Cm35 bm35
      have y39 := Cm37.cell 19 (.int .i64 0) rfl
      have z40 := Cm37.frozen 19
      obtain ⟨Wm38, hWm38⟩ : ∃ W, Wm37.setCell ⟨Wm9.heap.size, 19, none⟩ (.int .i64 (now + (Fl.life (⟨s.w, ⟨0, 0, 0, 0, 0, false, false, false, false⟩, 0, help, false⟩)))) = W := ⟨_, rfl⟩
      have Cm38 : Blk Wm38 Wm9.heap.size 33 (Fl.v ⟨s.w, ⟨0, 0, 0, 0, 0, false, false, false, false⟩, now + (Fl.life (⟨s.w, ⟨0, 0, 0, 0, 0, false, false, false, false⟩, 0, help, false⟩)), help, false⟩) := hWm38 ▸ Cm37.put 19 (.int .i64 (now + (Fl.life (⟨s.w, ⟨0, 0, 0, 0, 0, false, false, false, false⟩, 0, help, false⟩))))
      have Am38 := hWm38 ▸ Am37.put_other Cm37 nAC 19 (.int .i64 (now + (Fl.life (⟨s.w, ⟨0, 0, 0, 0, 0, false, false, false, false⟩, 0, help, false⟩))))
      have Bm38 := hWm38 ▸ Bm37.put_other Cm37 nBC 19 (.int .i64 (now + (Fl.life (⟨s.w, ⟨0, 0, 0, 0, 0, false, false, false, false⟩, 0, help, false⟩))))
      have bm38 := hWm38 ▸ bm37.setCell (p := ⟨Wm9.heap.size, 19, none⟩) gC (.int .i64 (now + (Fl.life (⟨s.w, ⟨0, 0, 0, 0, 0, false, false, false, false⟩, 0, help, false⟩))))
      obtain ⟨Wm41, hWm41⟩ : ∃ W, Wm38.setRow Wm1.heap.size (Fl.v ⟨s.w, ⟨0, 0, 0, 0, 0, false, false, false, false⟩, now + (Fl.life (⟨s.w, ⟨0, 0, 0, 0, 0, false, false, false, false⟩, 0, help, false⟩)), help, false⟩) = W := ⟨_, rfl⟩
      have Bm41 : Blk Wm41 Wm1.heap.size 33 (Fl.v ⟨s.w, ⟨0, 0, 0, 0, 0, false, false, false, false⟩, now + (Fl.life (⟨s.w, ⟨0, 0, 0, 0, 0, false, false, false, false⟩, 0, help, false⟩)), help, false⟩) := hWm41 ▸ Bm38.set (Fl.v ⟨s.w, ⟨0, 0, 0, 0, 0, false, false, false, false⟩, now + (Fl.life (⟨s.w, ⟨0, 0, 0, 0, 0, false, false, false, false⟩, 0, help, false⟩)), help, false⟩)
      have Am41 := hWm41 ▸ Am38.other nAB (Fl.v ⟨s.w, ⟨0, 0, 0, 0, 0, false, false, false, false⟩, now + (Fl.life (⟨s.w, ⟨0, 0, 0, 0, 0, false, false, false, false⟩, 0, help, false⟩)), help, false⟩)
      have Cm41 := hWm41 ▸ Cm38.other nCB (Fl.v ⟨s.w, ⟨0, 0, 0, 0, 0, false, false, false, false⟩, now + (Fl.life (⟨s.w, ⟨0, 0, 0, 0, 0, false, false, false, false⟩, 0, help, false⟩)), help, false⟩)
      have bm41 := hWm41 ▸ below_setRow bm38 gB (Fl.v ⟨s.w, ⟨0, 0, 0, 0, 0, false, false, false, false⟩, now + (Fl.life (⟨s.w, ⟨0, 0, 0, 0, 0, false, false, false, false⟩, 0, help, false⟩)), help, false⟩)
      go_wp2_with (first | (refine wpList_load_blk_w (by rfl) _ _ rfl Wm9.heap.size (by rfl) _ Cm38 Try.underlying33 (by kernel_rfl) ?_) | (refine wpList_store_row rfl _ _ _ rfl Wm1.heap.size (Fl.v ⟨s.w, ⟨0, 0, 0, 0, 0, false, false, false, false⟩, now + (Fl.life (⟨s.w, ⟨0, 0, 0, 0, 0, false, false, false, false⟩, 0, help, false⟩)), help, false⟩) (by rfl) (by rfl) _ _ Bm38 (by kernel_rfl) (by rfl) (by kernel_rfl) ?_; rw [hWm41]))
      have hR2 : R = ((⟨s.w, ⟨0, 0, 0, 0, 0, false, false, false, false⟩, now + (Fl.life (⟨s.w, ⟨0, 0, 0, 0, 0, false, false, false, false⟩, 0, help, false⟩)), help, false⟩ : Fl), (0 : Int)) := by rw [← HR.out]; first | rfl | (simp [startF, Sm.beg, Sm.ec, Fl.keep, cn0, hq4, hq7, hq10, hq15, hq19]; done) | (simp [startF, Sm.beg, Sm.ec, Fl.keep, cn0, hq4, hq7, hq10, hq15, hq19]; rfl) | (simp [startF, Sm.beg, Sm.ec, Fl.keep, cn0, hq4, hq7, hq10, hq15, hq19, (ec_q (by assumption) (by assumption) (by assumption)).1]; done)
      subst hR2
      exact ret_cell_tmp (k := 6) (j := 7) Try.f11 (by kernel_rfl) Bm41 Try.underlying33 (by kernel_rfl) (by rfl) (by rfl) rfl ⟨rfl, bm41⟩


    | true =>
     obtain ⟨Wm42, hWm42⟩ : ∃ W, Wm9.alloc (.cells #[.int .i64 0, .int .i64 0, .int .i64 0, .int .u64 0, .int .u64 0, .int .i64 0, .int .u64 0, .int .u64 0, .int .i64 0, .int .i64 0, .int .i64 0, .int .u32 0, .int .u32 0, .int .u32 0, .int .u32 0, .bool false, .bool false, .bool false, .bool false, .int .i64 0, .int .i64 0, .bool false] 33) = W := ⟨_, rfl⟩
     have bm42 := bel_al bm9 hWm42
     have Am42 := Am9.al hWm42
     have Bm42 := Bm9.al hWm42
     have Cm42 := blk_nw hWm42
     have gC : w.heap.size ≤ Wm9.heap.size := bm9.size
     have nAC : w.heap.size ≠ Wm9.heap.size := by have := Am9.lt; omega
     have nCA : Wm9.heap.size ≠ w.heap.size := fun e => nAC e.symm
     have nBC : Wm1.heap.size ≠ Wm9.heap.size := by have := Bm9.lt; omega
     have nCB : Wm9.heap.size ≠ Wm1.heap.size := fun e => nBC e.symm
     obtain ⟨Wm43, hWm43⟩ : ∃ W, Wm42.setRow Wm9.heap.size (Fl.v ⟨s.w, ⟨0, 0, 0, 0, 0, false, false, false, false⟩, 0, help, false⟩) = W := ⟨_, rfl⟩
     have Cm43 : Blk Wm43 Wm9.heap.size 33 (Fl.v ⟨s.w, ⟨0, 0, 0, 0, 0, false, false, false, false⟩, 0, help, false⟩) := hWm43 ▸ Cm42.set (Fl.v ⟨s.w, ⟨0, 0, 0, 0, 0, false, false, false, false⟩, 0, help, false⟩)
     have Am43 := hWm43 ▸ Am42.other nAC (Fl.v ⟨s.w, ⟨0, 0, 0, 0, 0, false, false, false, false⟩, 0, help, false⟩)
     have Bm43 := hWm43 ▸ Bm42.other nBC (Fl.v ⟨s.w, ⟨0, 0, 0, 0, 0, false, false, false, false⟩, 0, help, false⟩)
     have bm43 := hWm43 ▸ below_setRow bm42 gC (Fl.v ⟨s.w, ⟨0, 0, 0, 0, 0, false, false, false, false⟩, 0, help, false⟩)
     have c44 := Am43.cell 1 (.int .i64 s.w.pr) rfl
     have c45 := Am43.cell 10 (.int .i64 s.fl) rfl
     have c46 := Am43.cell 11 (.int .u32 s.sq) rfl
     have c47 := Am43.cell 13 (.int .i64 s.win) rfl
     have c48 := Am43.cell 27 (.slice s.da s.dn s.dc) rfl
     go_wp2_with (first | (refine wpList_load_sub_w (by rfl) _ _ rfl w.heap.size 0 _ (by rfl) _ s.w.v Am9 (by rfl) Try.underlying26 (by kernel_rfl) ?_) | (refine wpList_store_row rfl _ _ _ rfl Wm9.heap.size (Fl.v ⟨s.w, ⟨0, 0, 0, 0, 0, false, false, false, false⟩, 0, help, false⟩) (by rfl) (by rfl) _ _ Cm42 (by kernel_rfl) (by rfl) (by kernel_rfl) ?_; rw [hWm43]))
     clear c44 c45 c46 c47 c48
     refine Calls.mono (rbegin_tc s.fl s.sq s.win (s.dn : Int) _) ?_
     rintro e Wm49 ⟨rfl, bb⟩
     have Am49 := Am43.kept bb
     have Bm49 := Bm43.kept bb
     have Cm49 := Cm43.kept bb
     have bm49 := bel_tr bm43 bb
     clear bb
     clear Am43 Bm43 Cm43 bm43
     cases hq52 : ((beg s.fl s.sq s.win (s.dn : Int)).2 != 0) with
     | false =>
      obtain ⟨Wm53, hWm53⟩ : ∃ W, Wm49.alloc (.cells #[.int .i64 0, .int .u32 0, .int .u32 0, .int .u32 0, .int .u32 0, .bool false, .bool false, .bool false, .bool false] 31) = W := ⟨_, rfl⟩
      have bm53 := bel_al bm49 hWm53
      have Am53 := Am49.al hWm53
      have Bm53 := Bm49.al hWm53
      have Cm53 := Cm49.al hWm53
      have Dm53 := blk_nw hWm53
      have gD : w.heap.size ≤ Wm49.heap.size := bm49.size
      have nAD : w.heap.size ≠ Wm49.heap.size := by have := Am49.lt; omega
      have nDA : Wm49.heap.size ≠ w.heap.size := fun e => nAD e.symm
      have nBD : Wm1.heap.size ≠ Wm49.heap.size := by have := Bm49.lt; omega
      have nDB : Wm49.heap.size ≠ Wm1.heap.size := fun e => nBD e.symm
      have nCD : Wm9.heap.size ≠ Wm49.heap.size := by have := Cm49.lt; omega
      have nDC : Wm49.heap.size ≠ Wm9.heap.size := fun e => nCD e.symm
      obtain ⟨Wm54, hWm54⟩ : ∃ W, Wm53.setRow Wm49.heap.size (beg s.fl s.sq s.win (s.dn : Int)).1.v = W := ⟨_, rfl⟩
      have Dm54 : Blk Wm54 Wm49.heap.size 31 (beg s.fl s.sq s.win (s.dn : Int)).1.v := hWm54 ▸ Dm53.set (beg s.fl s.sq s.win (s.dn : Int)).1.v
      have Am54 := hWm54 ▸ Am53.other nAD (beg s.fl s.sq s.win (s.dn : Int)).1.v
      have Bm54 := hWm54 ▸ Bm53.other nBD (beg s.fl s.sq s.win (s.dn : Int)).1.v
      have Cm54 := hWm54 ▸ Cm53.other nCD (beg s.fl s.sq s.win (s.dn : Int)).1.v
      have bm54 := hWm54 ▸ below_setRow bm53 gD (beg s.fl s.sq s.win (s.dn : Int)).1.v
      obtain ⟨Wm55, hWm55⟩ : ∃ W, Wm54.setRow Wm9.heap.size (Fl.v ⟨s.w, (beg s.fl s.sq s.win (s.dn : Int)).1, 0, help, false⟩) = W := ⟨_, rfl⟩
      have Cm55 : Blk Wm55 Wm9.heap.size 33 (Fl.v ⟨s.w, (beg s.fl s.sq s.win (s.dn : Int)).1, 0, help, false⟩) := hWm55 ▸ Cm54.set (Fl.v ⟨s.w, (beg s.fl s.sq s.win (s.dn : Int)).1, 0, help, false⟩)
      have Am55 := hWm55 ▸ Am54.other nAC (Fl.v ⟨s.w, (beg s.fl s.sq s.win (s.dn : Int)).1, 0, help, false⟩)
      have Bm55 := hWm55 ▸ Bm54.other nBC (Fl.v ⟨s.w, (beg s.fl s.sq s.win (s.dn : Int)).1, 0, help, false⟩)
      have Dm55 := hWm55 ▸ Dm54.other nDC (Fl.v ⟨s.w, (beg s.fl s.sq s.win (s.dn : Int)).1, 0, help, false⟩)
      have bm55 := hWm55 ▸ below_setRow bm54 gC (Fl.v ⟨s.w, (beg s.fl s.sq s.win (s.dn : Int)).1, 0, help, false⟩)
      go_wp2_with (first | (refine wpList_store_row rfl _ _ _ rfl Wm49.heap.size (beg s.fl s.sq s.win (s.dn : Int)).1.v (by rfl) (by rfl) _ _ Dm53 (by kernel_rfl) (by rfl) (by kernel_rfl) ?_; rw [hWm54]) | (refine wpList_load_blk_w (by rfl) _ _ rfl Wm49.heap.size (by rfl) _ Dm54 Try.underlying31 (by kernel_rfl) ?_) | (refine wpList_store_off rfl _ _ _ rfl Wm9.heap.size 10 _ (beg s.fl s.sq s.win (s.dn : Int)).1.v _ (Fl.v ⟨s.w, (beg s.fl s.sq s.win (s.dn : Int)).1, 0, help, false⟩) (by rfl) (by rfl) Cm54 (by kernel_rfl) (Nat.le_of_ble_eq_true (by kernel_rfl)) (by kernel_rfl) (setConn_fw (⟨s.w, ⟨0, 0, 0, 0, 0, false, false, false, false⟩, 0, help, false⟩) (beg s.fl s.sq s.win (s.dn : Int)).1) ?_; rw [hWm55]) | (refine wpList_load_blk_w (by rfl) _ _ rfl Wm9.heap.size (by rfl) _ Cm55 Try.underlying33 (by kernel_rfl) ?_))
      refine Calls.mono (rlife_fw (⟨s.w, (beg s.fl s.sq s.win (s.dn : Int)).1, 0, help, false⟩) _) ?_
      rintro e Wm56 ⟨rfl, bb⟩
      have Am56 := Am55.kept bb
      have Bm56 := Bm55.kept bb
      have Cm56 := Cm55.kept bb
      have Dm56 := Dm55.kept bb
      have bm56 := bel_tr bm55 bb
      clear bb
      have hlf := life_bd0 (⟨s.w, (beg s.fl s.sq s.win (s.dn : Int)).1, 0, help, false⟩)
      have hnw := now_bd (n := now) (by assumption)
      clear Am55 Bm55 Cm55 Dm55 bm55
      have y58 := Cm56.cell 19 (.int .i64 0) rfl
      have z59 := Cm56.frozen 19
      obtain ⟨Wm57, hWm57⟩ : ∃ W, Wm56.setCell ⟨Wm9.heap.size, 19, none⟩ (.int .i64 (now + (Fl.life (⟨s.w, (beg s.fl s.sq s.win (s.dn : Int)).1, 0, help, false⟩)))) = W := ⟨_, rfl⟩
      have Cm57 : Blk Wm57 Wm9.heap.size 33 (Fl.v ⟨s.w, (beg s.fl s.sq s.win (s.dn : Int)).1, now + (Fl.life (⟨s.w, (beg s.fl s.sq s.win (s.dn : Int)).1, 0, help, false⟩)), help, false⟩) := hWm57 ▸ Cm56.put 19 (.int .i64 (now + (Fl.life (⟨s.w, (beg s.fl s.sq s.win (s.dn : Int)).1, 0, help, false⟩))))
      have Am57 := hWm57 ▸ Am56.put_other Cm56 nAC 19 (.int .i64 (now + (Fl.life (⟨s.w, (beg s.fl s.sq s.win (s.dn : Int)).1, 0, help, false⟩))))
      have Bm57 := hWm57 ▸ Bm56.put_other Cm56 nBC 19 (.int .i64 (now + (Fl.life (⟨s.w, (beg s.fl s.sq s.win (s.dn : Int)).1, 0, help, false⟩))))
      have Dm57 := hWm57 ▸ Dm56.put_other Cm56 nDC 19 (.int .i64 (now + (Fl.life (⟨s.w, (beg s.fl s.sq s.win (s.dn : Int)).1, 0, help, false⟩))))
      have bm57 := hWm57 ▸ bm56.setCell (p := ⟨Wm9.heap.size, 19, none⟩) gC (.int .i64 (now + (Fl.life (⟨s.w, (beg s.fl s.sq s.win (s.dn : Int)).1, 0, help, false⟩))))
      obtain ⟨Wm60, hWm60⟩ : ∃ W, Wm57.setRow Wm1.heap.size (Fl.v ⟨s.w, (beg s.fl s.sq s.win (s.dn : Int)).1, now + (Fl.life (⟨s.w, (beg s.fl s.sq s.win (s.dn : Int)).1, 0, help, false⟩)), help, false⟩) = W := ⟨_, rfl⟩
      have Bm60 : Blk Wm60 Wm1.heap.size 33 (Fl.v ⟨s.w, (beg s.fl s.sq s.win (s.dn : Int)).1, now + (Fl.life (⟨s.w, (beg s.fl s.sq s.win (s.dn : Int)).1, 0, help, false⟩)), help, false⟩) := hWm60 ▸ Bm57.set (Fl.v ⟨s.w, (beg s.fl s.sq s.win (s.dn : Int)).1, now + (Fl.life (⟨s.w, (beg s.fl s.sq s.win (s.dn : Int)).1, 0, help, false⟩)), help, false⟩)
      have Am60 := hWm60 ▸ Am57.other nAB (Fl.v ⟨s.w, (beg s.fl s.sq s.win (s.dn : Int)).1, now + (Fl.life (⟨s.w, (beg s.fl s.sq s.win (s.dn : Int)).1, 0, help, false⟩)), help, false⟩)
      have Cm60 := hWm60 ▸ Cm57.other nCB (Fl.v ⟨s.w, (beg s.fl s.sq s.win (s.dn : Int)).1, now + (Fl.life (⟨s.w, (beg s.fl s.sq s.win (s.dn : Int)).1, 0, help, false⟩)), help, false⟩)
      have Dm60 := hWm60 ▸ Dm57.other nDB (Fl.v ⟨s.w, (beg s.fl s.sq s.win (s.dn : Int)).1, now + (Fl.life (⟨s.w, (beg s.fl s.sq s.win (s.dn : Int)).1, 0, help, false⟩)), help, false⟩)
      have bm60 := hWm60 ▸ below_setRow bm57 gB (Fl.v ⟨s.w, (beg s.fl s.sq s.win (s.dn : Int)).1, now + (Fl.life (⟨s.w, (beg s.fl s.sq s.win (s.dn : Int)).1, 0, help, false⟩)), help, false⟩)
      go_wp2_with (first | (refine wpList_load_blk_w (by rfl) _ _ rfl Wm9.heap.size (by rfl) _ Cm57 Try.underlying33 (by kernel_rfl) ?_) | (refine wpList_store_row rfl _ _ _ rfl Wm1.heap.size (Fl.v ⟨s.w, (beg s.fl s.sq s.win (s.dn : Int)).1, now + (Fl.life (⟨s.w, (beg s.fl s.sq s.win (s.dn : Int)).1, 0, help, false⟩)), help, false⟩) (by rfl) (by rfl) _ _ Bm57 (by kernel_rfl) (by rfl) (by kernel_rfl) ?_; rw [hWm60]))
      have hR2 : R = ((⟨s.w, (beg s.fl s.sq s.win (s.dn : Int)).1, now + (Fl.life (⟨s.w, (beg s.fl s.sq s.win (s.dn : Int)).1, 0, help, false⟩)), help, false⟩ : Fl), (0 : Int)) := by rw [← HR.out]; first | rfl | (simp [startF, Sm.beg, Sm.ec, Fl.keep, cn0, hq4, hq7, hq10, hq15, bne_f_fw hq52]; done) | (simp [startF, Sm.beg, Sm.ec, Fl.keep, cn0, hq4, hq7, hq10, hq15, bne_f_fw hq52]; rfl) | (simp [startF, Sm.beg, Sm.ec, Fl.keep, cn0, hq4, hq7, hq10, hq15, bne_f_fw hq52, (ec_q (by assumption) (by assumption) (by assumption)).1]; done)
      subst hR2
      exact ret_cell_tmp (k := 6) (j := 7) Try.f11 (by kernel_rfl) Bm60 Try.underlying33 (by kernel_rfl) (by rfl) (by rfl) rfl ⟨rfl, bm60⟩

     | true =>
      obtain ⟨Wm61, hWm61⟩ : ∃ W, Wm49.alloc (.cells #[.int .i64 0, .int .u32 0, .int .u32 0, .int .u32 0, .int .u32 0, .bool false, .bool false, .bool false, .bool false] 31) = W := ⟨_, rfl⟩
      have bm61 := bel_al bm49 hWm61
      have Am61 := Am49.al hWm61
      have Bm61 := Bm49.al hWm61
      have Cm61 := Cm49.al hWm61
      have Dm61 := blk_nw hWm61
      have gD : w.heap.size ≤ Wm49.heap.size := bm49.size
      have nAD : w.heap.size ≠ Wm49.heap.size := by have := Am49.lt; omega
      have nDA : Wm49.heap.size ≠ w.heap.size := fun e => nAD e.symm
      have nBD : Wm1.heap.size ≠ Wm49.heap.size := by have := Bm49.lt; omega
      have nDB : Wm49.heap.size ≠ Wm1.heap.size := fun e => nBD e.symm
      have nCD : Wm9.heap.size ≠ Wm49.heap.size := by have := Cm49.lt; omega
      have nDC : Wm49.heap.size ≠ Wm9.heap.size := fun e => nCD e.symm
      obtain ⟨Wm62, hWm62⟩ : ∃ W, Wm61.setRow Wm49.heap.size (beg s.fl s.sq s.win (s.dn : Int)).1.v = W := ⟨_, rfl⟩
      have Dm62 : Blk Wm62 Wm49.heap.size 31 (beg s.fl s.sq s.win (s.dn : Int)).1.v := hWm62 ▸ Dm61.set (beg s.fl s.sq s.win (s.dn : Int)).1.v
      have Am62 := hWm62 ▸ Am61.other nAD (beg s.fl s.sq s.win (s.dn : Int)).1.v
      have Bm62 := hWm62 ▸ Bm61.other nBD (beg s.fl s.sq s.win (s.dn : Int)).1.v
      have Cm62 := hWm62 ▸ Cm61.other nCD (beg s.fl s.sq s.win (s.dn : Int)).1.v
      have bm62 := hWm62 ▸ below_setRow bm61 gD (beg s.fl s.sq s.win (s.dn : Int)).1.v
      obtain ⟨Wm63, hWm63⟩ : ∃ W, Wm62.setRow Wm1.heap.size fl0.v = W := ⟨_, rfl⟩
      have Bm63 : Blk Wm63 Wm1.heap.size 33 fl0.v := hWm63 ▸ Bm62.set fl0.v
      have Am63 := hWm63 ▸ Am62.other nAB fl0.v
      have Cm63 := hWm63 ▸ Cm62.other nCB fl0.v
      have Dm63 := hWm63 ▸ Dm62.other nDB fl0.v
      have bm63 := hWm63 ▸ below_setRow bm62 gB fl0.v
      go_wp2_with (first | (refine wpList_store_row rfl _ _ _ rfl Wm49.heap.size (beg s.fl s.sq s.win (s.dn : Int)).1.v (by rfl) (by rfl) _ _ Dm61 (by kernel_rfl) (by rfl) (by kernel_rfl) ?_; rw [hWm62]) | (refine wpList_store_row rfl _ _ _ rfl Wm1.heap.size fl0.v (by rfl) (by rfl) _ _ Bm62 (by kernel_rfl) (by rfl) (by kernel_rfl) ?_; rw [hWm63]))
      have hR2 : R = ((fl0 : Fl), ((beg s.fl s.sq s.win (s.dn : Int)).2 : Int)) := by rw [← HR.out]; first | rfl | (simp [startF, Sm.beg, Sm.ec, Fl.keep, cn0, hq4, hq7, hq10, hq15, bne_t_fw hq52]; done) | (simp [startF, Sm.beg, Sm.ec, Fl.keep, cn0, hq4, hq7, hq10, hq15, bne_t_fw hq52]; rfl) | (simp [startF, Sm.beg, Sm.ec, Fl.keep, cn0, hq4, hq7, hq10, hq15, bne_t_fw hq52, (ec_q (by assumption) (by assumption) (by assumption)).1]; done)
      subst hR2
      exact ret_cell_tmp (k := 6) (j := 7) Try.f11 (by kernel_rfl) Bm63 Try.underlying33 (by kernel_rfl) (by rfl) (by rfl) rfl ⟨rfl, bm63⟩
end Go.Proofs.Ytfiembbmgdmagaa
