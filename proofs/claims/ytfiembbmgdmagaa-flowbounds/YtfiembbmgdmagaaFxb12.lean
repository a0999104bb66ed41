/- Texts joined: FlowBoundsWalk -/
import Derived.Test.YtfiembbmgdmagaaFxb11
namespace Go.Proofs.Ytfiembbmgdmagaa
abbrev fxb12o0 : Oper := { dst := some 85, op := Op.call { callee := Callee.value (.func 28), args := #[.tmp 82, .tmp 84], argTypes := #[26, 26] }, type := 3, pos := "law.go:119", after := #[{ on := 14, ground := Ground.data }, { on := 16, ground := Ground.data }, { on := 8, ground := Ground.chain }, { on := 8, ground := Ground.guard }], guard := some (8, true) }
abbrev fxb12o1 : Oper := { dst := some 87, op := Op.pick (.tmp 76) (.tmp 86) (.const (.bool false)), type := 4, pos := "law.go:119", after := #[{ on := 8, ground := Ground.data }, { on := 18, ground := Ground.data }, { on := 5, ground := Ground.guard }], guard := some (5, false) }
abbrev fxb12o2 : Oper := { dst := some 71, op := Op.call { callee := Callee.value (.func 21), args := #[.tmp 70], argTypes := #[50] }, type := 3, pos := "law.go:119", after := #[{ on := 2, ground := Ground.data }], guard := none }
abbrev fxb12o3 : Oper := { dst := some 80, op := Op.indexAddr 53 (.tmp 77) (.tmp 79), type := 0, pos := "law.go:119", after := #[{ on := 9, ground := Ground.data }, { on := 11, ground := Ground.data }, { on := 8, ground := Ground.guard }], guard := some (8, true) }
abbrev fxb12o4 : Oper := { dst := some 75, op := Op.binOp BinOp.gtr 3 (.tmp 74) (.const (.int .i64 0)) 3, type := 4, pos := "law.go:119", after := #[{ on := 6, ground := Ground.data }, { on := 5, ground := Ground.guard }], guard := some (5, false) }
abbrev fxb12o5 : Oper := { dst := some 86, op := Op.binOp BinOp.geq 3 (.tmp 85) (.const (.int .i64 0)) 3, type := 4, pos := "law.go:119", after := #[{ on := 17, ground := Ground.data }, { on := 8, ground := Ground.guard }], guard := some (8, true) }
abbrev fxb12o6 : Oper := { dst := some 79, op := Op.binOp BinOp.sub 3 (.tmp 78) (.const (.int .i64 1)) 3, type := 3, pos := "law.go:119", after := #[{ on := 10, ground := Ground.data }, { on := 8, ground := Ground.guard }], guard := some (8, true) }
abbrev fxb12o7 : Oper := { dst := some 76, op := Op.move (.tmp 75), type := 4, pos := "law.go:119", after := #[{ on := 7, ground := Ground.data }, { on := 5, ground := Ground.chain }, { on := 5, ground := Ground.guard }], guard := some (5, false) }
abbrev fxb12o8 : Oper := { dst := some 72, op := Op.binOp BinOp.leq 3 (.tmp 69) (.tmp 71) 3, type := 4, pos := "law.go:119", after := #[{ on := 1, ground := Ground.data }, { on := 3, ground := Ground.data }], guard := none }
abbrev fxb12o9 : Oper := { dst := some 88, op := Op.pick (.tmp 73) (.const (.bool true)) (.tmp 87), type := 4, pos := "law.go:119", after := #[{ on := 5, ground := Ground.data }, { on := 19, ground := Ground.data }], guard := none }
abbrev fxb12o10 : Oper := { dst := some 82, op := Op.load 26 (.tmp 81), type := 26, pos := "law.go:119", after := #[{ on := 13, ground := Ground.data }, { on := 8, ground := Ground.guard }], guard := some (8, true) }
abbrev fxb12o11 : Oper := { dst := some 84, op := Op.load 26 (.tmp 83), type := 26, pos := "law.go:119", after := #[{ on := 15, ground := Ground.data }, { on := 8, ground := Ground.guard }], guard := some (8, true) }
abbrev fxb12o12 : Oper := { dst := some 81, op := Op.fieldAddr 33 (.tmp 80) 0, type := 0, pos := "law.go:119", after := #[{ on := 12, ground := Ground.data }, { on := 8, ground := Ground.guard }], guard := some (8, true) }
abbrev fxb12o13 : Oper := { dst := some 73, op := Op.move (.tmp 72), type := 4, pos := "law.go:119", after := #[{ on := 4, ground := Ground.data }, { on := 3, ground := Ground.chain }], guard := none }
abbrev fxb12o14 : Oper := { dst := some 83, op := Op.fieldAddr 33 (.tmp 11) 0, type := 0, pos := "law.go:119", after := #[{ on := 8, ground := Ground.guard }], guard := some (8, true) }
abbrev fxb12o15 : Oper := { dst := some 77, op := Op.move (.tmp 9), type := 53, pos := "law.go:119", after := #[{ on := 8, ground := Ground.guard }], guard := some (8, true) }
abbrev fxb12o16 : Oper := { dst := some 74, op := Op.move (.tmp 10), type := 3, pos := "law.go:119", after := #[{ on := 5, ground := Ground.guard }], guard := some (5, false) }
abbrev fxb12o17 : Oper := { dst := some 78, op := Op.move (.tmp 10), type := 3, pos := "law.go:119", after := #[{ on := 8, ground := Ground.guard }], guard := some (8, true) }
abbrev fxb12o18 : Oper := { dst := some 69, op := Op.load 3 (.tmp 68), type := 3, pos := "law.go:119", after := #[{ on := 0, ground := Ground.data }], guard := none }
abbrev fxb12o19 : Oper := { dst := some 101, op := Op.call { callee := Callee.value (.func 27), args := #[.tmp 100], argTypes := #[26] }, type := 26, pos := "law.go:123", after := #[{ on := 3, ground := Ground.data }], guard := none }
abbrev fxb12o20 : Oper := { dst := some 68, op := Op.fieldAddr 33 (.tmp 11) 2, type := 0, pos := "law.go:119", after := #[], guard := none }
abbrev fxb12o21 : Oper := { dst := some 70, op := Op.move (.tmp 5), type := 50, pos := "law.go:119", after := #[], guard := none }
abbrev fxb12o22 : Oper := { dst := some 102, op := Op.binOp BinOp.eql 26 (.tmp 98) (.tmp 101) 26, type := 4, pos := "law.go:123", after := #[{ on := 1, ground := Ground.data }, { on := 4, ground := Ground.data }], guard := none }
abbrev fxb12o23 : Oper := { dst := some 100, op := Op.load 26 (.tmp 99), type := 26, pos := "law.go:123", after := #[{ on := 2, ground := Ground.data }], guard := none }
abbrev fxb12o24 : Oper := { dst := some 98, op := Op.load 26 (.tmp 97), type := 26, pos := "law.go:123", after := #[{ on := 0, ground := Ground.data }], guard := none }
abbrev fxb12o25 : Oper := { dst := some 97, op := Op.fieldAddr 33 (.tmp 13) 0, type := 0, pos := "law.go:123", after := #[], guard := none }
abbrev fxb12o26 : Oper := { dst := some 99, op := Op.fieldAddr 33 (.tmp 11) 0, type := 0, pos := "law.go:123", after := #[], guard := none }
end Go.Proofs.Ytfiembbmgdmagaa
namespace Go.Proofs.Ytfiembbmgdmagaa
open Go.RowKit
set_option linter.unusedVariables false
set_option linter.unusedSimpArgs false
set_option maxRecDepth 100000 in
set_option maxHeartbeats 16000000 in
theorem flowBounds_walk (m : Int) (la : Option Addr) (lc : Nat) (l : List Ac) (w : World) (hlc : l.length ≤ lc) (hcm : lc * 152 ≤ 140737488351232 ∧ (la = none → lc = 0)) (hrow : RowN 24 Ac.v (fun _ q => q.ok) w la l) :
    Calls Try.prog 7 #[.int .i64 m, .slice la l.length lc] w fun e w' => e = .returned (.bool true) ∧ Below w.heap.size w w' := by
  have HRow : Hid (RowN 24 Ac.v (fun _ q => q.ok) w la l) := hrow
  obtain ⟨N, hN⟩ : ∃ N, l.length = N := ⟨_, rfl⟩
  have HN : Hid (l.length = N) := hN
  have hNl : N ≤ 140737488355328 := by omega
  rw [hN]
  clear hN hrow hlc hcm
  have b := Below.refl w.heap.size w
  by_cases hc : 0 ≤ m ∧ m ≤ 256
  · go_enter Try.func7, Try.ntmps7
    go_wp2_with fail
    refine Calls.mono (new_y_fw m hc.1 hc.2 _) ?_
    rintro e Wm1 ⟨tb, mb, rfl, Xm1, gtb, gmb, bb⟩
    have bm1 := bel_tr b bb
    clear bb
    have gwb : w.heap.size ≤ tb := Nat.le_trans b.size gtb
    have gwm : w.heap.size ≤ mb := Nat.le_trans b.size gmb
    go_wp2_with fail
    refine Calls.mono (alive_fw _) ?_
    rintro e Wm2 ⟨rfl, bb⟩
    have Xm2 := Xm1.kept bb
    have bm2 := bel_tr bm1 bb
    clear bb
    clear Xm1 bm1
    go_wp2_with fail
    go_loopw [32] (fun i wr => ∃ (j : Nat) (s : Ft), j ≤ N ∧ i = .int .i64 j ∧ Hid (s.most = m) ∧ TabX wr tb mb s ∧ Below w.heap.size w wr) (fun i _ => N - (intOf i).toNat)
    case atStart => exact ⟨0, ⟨m, 0, []⟩, Nat.zero_le _, rfl, rfl, Xm2, bm2⟩
    case round =>
      obtain ⟨j, s, hj, rfl, hI, Xr, br⟩ := hrel
      obtain ⟨Wr, rfl⟩ : ∃ W, W = wr := ⟨_, rfl⟩
      have HOK : Hid (FtOk s) := Xr.ok
      have in0 : (0 : Int) ≤ (j : Int) := by omega
      by_cases hlt : j < N
      · have ik : (j : Int) < (N : Int) := by omega
        have ik' : decide ((j : Int) < (N : Int)) = true := by simpa using ik
        obtain ⟨qa, hq⟩ : ∃ q, l[j]? = some q := ⟨_, List.getElem?_eq_getElem (by rw [HN.out]; exact hlt)⟩
        have hok : qa.ok := HRow.out.each qa (List.mem_of_getElem? hq)
        obtain ⟨p, off, rfl, hcells⟩ := HRow.out.cells j qa hq
        have hca := hcells.below br
        clear hcells
        cases hq6 : ((bits .and .i64 qa.kd 3) == 2) with
        | false =>
          obtain ⟨Wm7, hWm7⟩ : ∃ W, Wr.alloc (.cells #[.int .i64 0, .int .i64 0, .int .i64 0, .int .i64 0, .int .i64 0, .int .u64 0, .int .u64 0, .int .i64 0, .int .u64 0, .int .u64 0, .int .i64 0, .int .i64 0, .int .i64 0, .int .u32 0, .int .u32 0, .int .u32 0, .int .u32 0, .bool false, .bool false, .bool false, .bool false, .int .i64 0, .int .i64 0, .bool false] 59) = W := ⟨_, rfl⟩
          have bm7 := bel_al br hWm7
          have Xm7 := Xr.al hWm7
          have Am7 := blk_nw hWm7
          have gA : w.heap.size ≤ Wr.heap.size := br.size
          have nXA : tb ≠ Wr.heap.size ∧ mb ≠ Wr.heap.size := by have := Xr.lt; omega
          obtain ⟨Wm8, hWm8⟩ : ∃ W, Wm7.setRow Wr.heap.size qa.v = W := ⟨_, rfl⟩
          have Am8 : Blk Wm8 Wr.heap.size 59 qa.v := hWm8 ▸ Am7.set qa.v
          have Xm8 := hWm8 ▸ Xm7.other nXA qa.v
          have bm8 := hWm8 ▸ below_setRow bm7 gA qa.v
          have c9 := Am8.cell 0 (.int .i64 qa.kd) rfl
          go_wp2_with (first | (refine wpList_load_at_w (by rfl) _ _ rfl p (off + j * 24) (by rfl) _ hca Try.underlying59 (by kernel_rfl) ?_) | (refine wpList_store_row rfl _ _ _ rfl Wr.heap.size qa.v (by rfl) (by rfl) _ _ Am7 (by kernel_rfl) (by rfl) (by kernel_rfl) ?_; rw [hWm8]) | (refine wpList_load_sub_w (by rfl) _ _ rfl Wr.heap.size 2 _ (by rfl) _ qa.f.v Am8 (by rfl) Try.underlying33 (by kernel_rfl) ?_))
          clear c9
          refine Calls.mono (putX tb mb s qa.f _ Xm8 hok.f.w) ?_
          rintro e Wm10 ⟨rfl, Xm10, bb⟩
          have Am10 := Am8.but bb (by have := nXA; omega)
          have bm10 := bel_but bm8 bb gwb gwm
          clear bb
          clear Xm8 Am8 bm8
          obtain ⟨s1, hs1⟩ : ∃ t, (s.put qa.f).1 = t := ⟨_, rfl⟩
          rw [hs1] at Xm10
          have hI1 : Hid (s1.most = m) := by rw [← hs1]; exact (put_most s _).trans hI.out
          have HOK1 : Hid (FtOk s1) := Xm10.ok
          clear hs1
          go_wp2_with fail
          refine Calls.mono (allX tb mb s1 _ Xm10) ?_
          rintro e Wm11 ⟨aa, ca, rfl, OAm11, bb⟩
          have Xm11 := Xm10.kept bb
          have Am11 := Am10.kept bb
          have bm11 := bel_tr bm10 bb
          clear bb
          have HRW : Hid (RowL Wm11 aa s1.L) := OAm11.row (fun _ _ => trivial)
          have HCA : Hid (s1.L.length ≤ ca) := OAm11.le
          have Qm11 : But (fun _ => False) Wm11 Wm11 := But.refl _ _
          clear Xm10 Am10 bm10
          have hfw : ¬ m < (s1.L.length : Int) := by
            have h8 := HOK1.out.few
            have h9 : s1.most = m := hI1
            omega
          have hfw' : decide (m < (s1.L.length : Int)) = false := by simpa using hfw
          go_wp2_with fail
          refine Calls.mono (lenX tb mb s1 _ Xm11) ?_
          rintro e Wm12 ⟨rfl, bb⟩
          have Xm12 := Xm11.kept bb
          have Am12 := Am11.kept bb
          have Qm12 := Qm11.kept bb
          have bm12 := bel_tr bm11 bb
          clear bb
          clear Xm11 Am11 Qm11 bm11
          go_wp2_with fail
          refine Calls.mono (lenX tb mb s1 _ Xm12) ?_
          rintro e Wm13 ⟨rfl, bb⟩
          have Xm13 := Xm12.kept bb
          have Am13 := Am12.kept bb
          have Qm13 := Qm12.kept bb
          have bm13 := bel_tr bm12 bb
          clear bb
          clear Xm12 Am12 Qm12 bm12
          go_wp2_with fail
          obtain ⟨M, hM⟩ : ∃ M, s1.L.length = M := ⟨_, rfl⟩
          have HM : Hid (s1.L.length = M) := hM
          have hM0 : M ≤ 1000000 := by
            have h8 := HOK1.out.few
            have h9 := HOK1.out.most
            omega
          rw [hM]
          clear hM hfw hfw'
          go_loopw [63] (fun i wr => ∃ k : Nat, k ≤ M ∧ i = .int .i64 k ∧ TabX wr tb mb s1 ∧ But (fun _ => False) Wm11 wr ∧ Below w.heap.size w wr) (fun i _ => M - (intOf i).toNat)
          case atStart => exact ⟨0, Nat.zero_le _, rfl, Xm13, Qm13, bm13⟩
          case round =>
            obtain ⟨k, hk, rfl, Xv, Qv, bv⟩ := hrel
            obtain ⟨Wv, rfl⟩ : ∃ W, W = wr := ⟨_, rfl⟩
            have in0k : (0 : Int) ≤ (k : Int) := by omega
            by_cases hltk : k < M
            · have ikk : (k : Int) < (M : Int) := by omega
              have ikk' : decide ((k : Int) < (M : Int)) = true := by simpa using ikk
              obtain ⟨x, hx⟩ : ∃ x, s1.L[k]? = some x := ⟨_, List.getElem?_eq_getElem (by rw [HM.out]; exact hltk)⟩
              have HX : Hid (s1.L[k]? = some x) := hx
              have hen : ¬ x.ends ≤ s1.now := by have := (HOK1.out.each x (List.mem_of_getElem? hx)).2.1; omega
              have hen' : decide (x.ends ≤ s1.now) = false := by simpa using hen
              have hkc : k ≤ ca := by have h7 : s1.L.length ≤ ca := HCA; have h8 : s1.L.length = M := HM; omega
              have hkc' : (k : Int) ≤ (ca : Int) := by omega
              obtain ⟨p2, off2, rfl, hcells2⟩ := HRW.out.cells k x hx
              have hcb := hcells2.below (Qv.to_below (Nat.le_refl _) (fun _ _ x => x))
              clear hcells2 hx
              by_cases hk0 : 0 < k
              · have hk0' : decide ((0 : Int) < (k : Int)) = true := by simpa using hk0
                have hk2 : (0 : Int) < (k : Int) := by omega
                obtain ⟨k1, hk1⟩ : ∃ k1, k1 + 1 = k := ⟨k - 1, by omega⟩
                obtain ⟨x1, hx1⟩ : ∃ x, s1.L[k1]? = some x := ⟨_, List.getElem?_eq_getElem (by rw [HM.out]; omega)⟩
                have hor : ¬ 0 ≤ x1.w.order x.w := by have := ft_before HOK1.out HX.out hx1 (by omega); omega
                have hor' : decide (0 ≤ x1.w.order x.w) = false := by simpa using hor
                obtain ⟨p3, off3, e3, hcells3⟩ := HRW.out.cells k1 x1 hx1
                cases e3
                have hkm : (k : Int) - 1 = (k1 : Int) := by omega
                have ik0 : (0 : Int) ≤ (k1 : Int) := by omega
                have ik1 : (k1 : Int) < (M : Int) := by omega
                have HC1 : Hid (CellsAt Wm11 p2 (off2 + k1 * 22) x1.v) := hcells3
                have HK1 : Hid (k1 + 1 = k) := hk1
                clear hcells3 hx1 hk1
                obtain ⟨Wm14, hWm14⟩ : ∃ W, Wv.alloc (.cells #[.int .i64 0, .int .i64 0, .int .i64 0, .int .u64 0, .int .u64 0, .int .i64 0, .int .u64 0, .int .u64 0, .int .i64 0, .int .i64 0, .int .i64 0, .int .u32 0, .int .u32 0, .int .u32 0, .int .u32 0, .bool false, .bool false, .bool false, .bool false, .int .i64 0, .int .i64 0, .bool false] 33) = W := ⟨_, rfl⟩
                have bm14 := bel_al bv hWm14
                have Xm14 := Xv.al hWm14
                have Qm14 := Qv.al hWm14
                have Am14 := blk_nw hWm14
                have gA : w.heap.size ≤ Wv.heap.size := bv.size
                have nXA : tb ≠ Wv.heap.size ∧ mb ≠ Wv.heap.size := by have := Xv.lt; omega
                have nQA : (fun _ => False) Wv.heap.size ∨ Wm11.heap.size ≤ Wv.heap.size := .inr Qv.size
                obtain ⟨Wm15, hWm15⟩ : ∃ W, Wm14.setRow Wv.heap.size x.v = W := ⟨_, rfl⟩
                have Am15 : Blk Wm15 Wv.heap.size 33 x.v := hWm15 ▸ Am14.set x.v
                have Xm15 := hWm15 ▸ Xm14.other nXA x.v
                have Qm15 := hWm15 ▸ Qm14.other nQA x.v
                have bm15 := hWm15 ▸ below_setRow bm14 gA x.v
                go_wp2_with (first | (refine wpList_load_at_w (by rfl) _ _ rfl p2 (off2 + k * 22) (by rfl) _ hcb Try.underlying33 (by kernel_rfl) ?_) | (refine wpList_store_row rfl _ _ _ rfl Wv.heap.size x.v (by rfl) (by rfl) _ _ Am14 (by kernel_rfl) (by rfl) (by kernel_rfl) ?_; rw [hWm15]))
                obtain ⟨Wdq16, hWdq16⟩ : ∃ W, Wm15.drew = W := ⟨_, rfl⟩
                have Xdq16 := hWdq16 ▸ Xm15.drew
                have Qdq16 := hWdq16 ▸ Qm15.drew
                have Adq16 := hWdq16 ▸ Am15.drew
                have bdq16 := hWdq16 ▸ bm15.drew
                refine wp_region_noPanic ?_
                refine wp_region_held_drew (S := fun w' => TabX w' tb mb s1 ∧ But (fun _ => False) Wm11 w' ∧ Blk w' Wv.heap.size 33 x.v) (by kernel_rfl) (by rw [hWdq16]; exact ⟨Xdq16, Qdq16, Adq16⟩) (fun hHeld => ?_)
                rw [hWdq16] at hHeld ⊢
                refine wpAnyH_take (i := 0) (oi := fxb12o20) (v := (.pointer (some ⟨Wv.heap.size, 19, none⟩))) rfl (by kernel_rfl) (by kernel_rfl) (by kernel_rfl) (fun _ _ _ h => h) (Or.inl ⟨by rfl, ?_⟩) hHeld ?_
                · intro w9 hSw
                  try dsimp only at hSw
                  go_simp
                try simp only [Act.put, List.setIfInBounds_toArray, List.set_cons_zero, List.set_cons_succ]
                refine wpAnyH_take (i := 1) (oi := fxb12o18) (v := (.int .i64 x.ends)) rfl (by kernel_rfl) (by kernel_rfl) (by kernel_rfl) (fun _ _ _ h => h) (Or.inl ⟨by rfl, ?_⟩) hHeld ?_
                · intro w9 hSw
                  try dsimp only at hSw
                  have hcc := hSw.2.2.cell 19 (.int .i64 x.ends) rfl
                  go_simp
                try simp only [Act.put, List.setIfInBounds_toArray, List.set_cons_zero, List.set_cons_succ]
                refine wpAnyH_take (i := 2) (oi := fxb12o21) (v := (.pointer (some ⟨tb, 0, none⟩))) rfl (by kernel_rfl) (by kernel_rfl) (by kernel_rfl) (fun _ _ _ h => h) (Or.inl ⟨by rfl, ?_⟩) hHeld ?_
                · intro w9 hSw
                  try dsimp only at hSw
                  go_simp
                try simp only [Act.put, List.setIfInBounds_toArray, List.set_cons_zero, List.set_cons_succ]
                refine wpAnyH_ready (rs := [3]) (by kernel_rfl) (by simp) ?_
                refine AllReadyH.cons (o := fxb12o2) rfl (fun K hK => ?_) AllReadyH.nil
                go_simp
                refine Calls.mono (nowX tb mb s1 _ Xdq16) ?_
                rintro e Wx17 ⟨rfl, bb⟩
                have Xx17 := Xdq16.kept bb
                have Qx17 := Qdq16.kept bb
                have Ax17 := Adq16.kept bb
                have bx17 := bel_tr bdq16 bb
                clear bb
                refine hK.out _ _ (by exact ⟨Xx17, Qx17, Ax17⟩) (fun hHeld => ?_)
                clear hK K
                try simp only [Act.put, List.setIfInBounds_toArray, List.set_cons_zero, List.set_cons_succ]
                refine wpAnyH_take (i := 4) (oi := fxb12o8) (v := (.bool (decide (x.ends ≤ s1.now)))) rfl (by kernel_rfl) (by kernel_rfl) (by kernel_rfl) (fun _ _ _ h => h) (Or.inl ⟨by rfl, ?_⟩) hHeld ?_
                · intro w9 hSw
                  try dsimp only at hSw
                  go_simp
                try simp only [Act.put, List.setIfInBounds_toArray, List.set_cons_zero, List.set_cons_succ]
                refine wpAnyH_take (i := 5) (oi := fxb12o13) (v := (.bool false)) rfl (by kernel_rfl) (by kernel_rfl) (by kernel_rfl) (fun _ _ _ h => h) (Or.inl ⟨by rfl, ?_⟩) hHeld ?_
                · intro w9 hSw
                  try dsimp only at hSw
                  go_simp
                try simp only [Act.put, List.setIfInBounds_toArray, List.set_cons_zero, List.set_cons_succ]
                refine wpAnyH_take (i := 6) (oi := fxb12o16) (v := (.int .i64 (k : Int))) rfl (by kernel_rfl) (by kernel_rfl) (by kernel_rfl) (fun _ _ _ h => h) (Or.inl ⟨by rfl, ?_⟩) hHeld ?_
                · intro w9 hSw
                  try dsimp only at hSw
                  go_simp
                try simp only [Act.put, List.setIfInBounds_toArray, List.set_cons_zero, List.set_cons_succ]
                refine wpAnyH_take (i := 7) (oi := fxb12o4) (v := (.bool (decide (0 < (k : Int))))) rfl (by kernel_rfl) (by kernel_rfl) (by kernel_rfl) (fun _ _ _ h => h) (Or.inl ⟨by rfl, ?_⟩) hHeld ?_
                · intro w9 hSw
                  try dsimp only at hSw
                  go_simp
                try simp only [Act.put, List.setIfInBounds_toArray, List.set_cons_zero, List.set_cons_succ]
                refine wpAnyH_take (i := 8) (oi := fxb12o7) (v := (.bool true)) rfl (by kernel_rfl) (by kernel_rfl) (by kernel_rfl) (fun _ _ _ h => h) (Or.inl ⟨by rfl, ?_⟩) hHeld ?_
                · intro w9 hSw
                  try dsimp only at hSw
                  go_simp
                try simp only [Act.put, List.setIfInBounds_toArray, List.set_cons_zero, List.set_cons_succ]
                refine wpAnyH_take (i := 9) (oi := fxb12o15) (v := (.slice (some ⟨p2, off2, none⟩) M ca)) rfl (by kernel_rfl) (by kernel_rfl) (by kernel_rfl) (fun _ _ _ h => h) (Or.inl ⟨by rfl, ?_⟩) hHeld ?_
                · intro w9 hSw
                  try dsimp only at hSw
                  go_simp
                try simp only [Act.put, List.setIfInBounds_toArray, List.set_cons_zero, List.set_cons_succ]
                refine wpAnyH_take (i := 10) (oi := fxb12o17) (v := (.int .i64 (k : Int))) rfl (by kernel_rfl) (by kernel_rfl) (by kernel_rfl) (fun _ _ _ h => h) (Or.inl ⟨by rfl, ?_⟩) hHeld ?_
                · intro w9 hSw
                  try dsimp only at hSw
                  go_simp
                try simp only [Act.put, List.setIfInBounds_toArray, List.set_cons_zero, List.set_cons_succ]
                refine wpAnyH_take (i := 11) (oi := fxb12o6) (v := (.int .i64 (k1 : Int))) rfl (by kernel_rfl) (by kernel_rfl) (by kernel_rfl) (fun _ _ _ h => h) (Or.inl ⟨by rfl, ?_⟩) hHeld ?_
                · intro w9 hSw
                  try dsimp only at hSw
                  go_simp
                  try decide
                  try (rw [IntKind.wrap_i64]; omega)
                try simp only [Act.put, List.setIfInBounds_toArray, List.set_cons_zero, List.set_cons_succ]
                refine wpAnyH_take (i := 12) (oi := fxb12o3) (v := (.pointer (some ⟨p2, off2 + k1 * 22, none⟩))) rfl (by kernel_rfl) (by kernel_rfl) (by kernel_rfl) (fun _ _ _ h => h) (Or.inl ⟨by rfl, ?_⟩) hHeld ?_
                · intro w9 hSw
                  try dsimp only at hSw
                  go_simp
                try simp only [Act.put, List.setIfInBounds_toArray, List.set_cons_zero, List.set_cons_succ]
                refine wpAnyH_take (i := 13) (oi := fxb12o12) (v := (.pointer (some ⟨p2, off2 + k1 * 22, none⟩))) rfl (by kernel_rfl) (by kernel_rfl) (by kernel_rfl) (fun _ _ _ h => h) (Or.inl ⟨by rfl, ?_⟩) hHeld ?_
                · intro w9 hSw
                  try dsimp only at hSw
                  go_simp
                try simp only [Act.put, List.setIfInBounds_toArray, List.set_cons_zero, List.set_cons_succ]
                refine wpAnyH_take (i := 14) (oi := fxb12o10) (v := (.agg x1.w.v)) rfl (by kernel_rfl) (by kernel_rfl) (by kernel_rfl) (fun _ _ _ h => h) (yieldsIf_at (by kernel_rfl) _ _ rfl p2 (off2 + k1 * 22) (by rfl) _ (fun _ hSw => cells_pre (HC1.out.below ((hSw.2.1).to_below (Nat.le_refl _) (fun _ _ x => x)))) Try.underlying26 (by kernel_rfl)) hHeld ?_
                try simp only [Act.put, List.setIfInBounds_toArray, List.set_cons_zero, List.set_cons_succ]
                refine wpAnyH_take (i := 15) (oi := fxb12o14) (v := (.pointer (some ⟨Wv.heap.size, 0, none⟩))) rfl (by kernel_rfl) (by kernel_rfl) (by kernel_rfl) (fun _ _ _ h => h) (Or.inl ⟨by rfl, ?_⟩) hHeld ?_
                · intro w9 hSw
                  try dsimp only at hSw
                  go_simp
                try simp only [Act.put, List.setIfInBounds_toArray, List.set_cons_zero, List.set_cons_succ]
                refine wpAnyH_take (i := 16) (oi := fxb12o11) (v := (.agg x.w.v)) rfl (by kernel_rfl) (by kernel_rfl) (by kernel_rfl) (fun _ _ _ h => h) (yieldsIf_sub_w (by kernel_rfl) _ _ rfl Wv.heap.size 0 _ (by rfl) _ x.w.v (fun _ hSw => hSw.2.2) (by rfl) Try.underlying26 (by kernel_rfl)) hHeld ?_
                try simp only [Act.put, List.setIfInBounds_toArray, List.set_cons_zero, List.set_cons_succ]
                refine wpAnyH_ready (rs := [17]) (by kernel_rfl) (by simp) ?_
                refine AllReadyH.cons (o := fxb12o0) rfl (fun K hK => ?_) AllReadyH.nil
                go_simp
                refine Calls.mono (rorder_t x1.w x.w _) ?_
                rintro e Wx18 ⟨rfl, bb⟩
                have Xx18 := Xx17.kept bb
                have Qx18 := Qx17.kept bb
                have Ax18 := Ax17.kept bb
                have bx18 := bel_tr bx17 bb
                clear bb
                refine hK.out _ _ (by exact ⟨Xx18, Qx18, Ax18⟩) (fun hHeld => ?_)
                clear hK K
                try simp only [Act.put, List.setIfInBounds_toArray, List.set_cons_zero, List.set_cons_succ]
                refine wpAnyH_take (i := 18) (oi := fxb12o5) (v := (.bool false)) rfl (by kernel_rfl) (by kernel_rfl) (by kernel_rfl) (fun _ _ _ h => h) (Or.inl ⟨by rfl, ?_⟩) hHeld ?_
                · intro w9 hSw
                  try dsimp only at hSw
                  go_simp
                try simp only [Act.put, List.setIfInBounds_toArray, List.set_cons_zero, List.set_cons_succ]
                refine wpAnyH_take (i := 19) (oi := fxb12o1) (v := (.bool false)) rfl (by kernel_rfl) (by kernel_rfl) (by kernel_rfl) (fun _ _ _ h => h) (Or.inl ⟨by rfl, ?_⟩) hHeld ?_
                · intro w9 hSw
                  try dsimp only at hSw
                  go_simp
                try simp only [Act.put, List.setIfInBounds_toArray, List.set_cons_zero, List.set_cons_succ]
                refine wpAnyH_take (i := 20) (oi := fxb12o9) (v := (.bool false)) rfl (by kernel_rfl) (by kernel_rfl) (by kernel_rfl) (fun _ _ _ h => h) (Or.inl ⟨by rfl, ?_⟩) hHeld ?_
                · intro w9 hSw
                  try dsimp only at hSw
                  go_simp
                try simp only [Act.put, List.setIfInBounds_toArray, List.set_cons_zero, List.set_cons_succ]
                refine wpAnyH_done (by kernel_rfl) ?_ _
                refine NoPanic.normal ?_
                go_wp2_with fail
                go_loopw [93] (fun i wr => ∃ i2 : Nat, i2 ≤ k ∧ i = .int .i64 i2 ∧ Blk wr Wv.heap.size 33 x.v ∧ TabX wr tb mb s1 ∧ But (fun _ => False) Wm11 wr ∧ Below w.heap.size w wr) (fun i _ => k - (intOf i).toNat)
                case atStart => exact ⟨0, Nat.zero_le _, rfl, Ax18, Xx18, Qx18, bx18⟩
                case round =>
                  obtain ⟨i2, hi2, rfl, Au, Xu, Qu, bu⟩ := hrel
                  obtain ⟨Wu, rfl⟩ : ∃ W, W = wr := ⟨_, rfl⟩
                  have in0i : (0 : Int) ≤ (i2 : Int) := by omega
                  by_cases hlti : i2 < k
                  · have iki : (i2 : Int) < (k : Int) := by omega
                    have iki' : decide ((i2 : Int) < (k : Int)) = true := by simpa using iki
                    obtain ⟨y, hy⟩ : ∃ x, s1.L[i2]? = some x := ⟨_, List.getElem?_eq_getElem (by rw [HM.out]; omega)⟩
                    have hap : Wy.eqB y.w (x.w.rev) = false := ft_apart HOK1.out HX.out hy hlti
                    obtain ⟨p4, off4, e4, hcells4⟩ := HRW.out.cells i2 y hy
                    cases e4
                    have hcy := hcells4.below (Qu.to_below (Nat.le_refl _) (fun _ _ x => x))
                    clear hcells4 hy
                    obtain ⟨Wm19, hWm19⟩ : ∃ W, Wu.alloc (.cells #[.int .i64 0, .int .i64 0, .int .i64 0, .int .u64 0, .int .u64 0, .int .i64 0, .int .u64 0, .int .u64 0, .int .i64 0, .int .i64 0, .int .i64 0, .int .u32 0, .int .u32 0, .int .u32 0, .int .u32 0, .bool false, .bool false, .bool false, .bool false, .int .i64 0, .int .i64 0, .bool false] 33) = W := ⟨_, rfl⟩
                    have bm19 := bel_al bu hWm19
                    have Am19 := Au.al hWm19
                    have Xm19 := Xu.al hWm19
                    have Qm19 := Qu.al hWm19
                    have Bm19 := blk_nw hWm19
                    have gB : w.heap.size ≤ Wu.heap.size := bu.size
                    have nAB : Wv.heap.size ≠ Wu.heap.size := by have := Au.lt; omega
                    have nBA : Wu.heap.size ≠ Wv.heap.size := fun e => nAB e.symm
                    have nXB : tb ≠ Wu.heap.size ∧ mb ≠ Wu.heap.size := by have := Xu.lt; omega
                    have nQB : (fun _ => False) Wu.heap.size ∨ Wm11.heap.size ≤ Wu.heap.size := .inr Qu.size
                    obtain ⟨Wm20, hWm20⟩ : ∃ W, Wm19.setRow Wu.heap.size y.v = W := ⟨_, rfl⟩
                    have Bm20 : Blk Wm20 Wu.heap.size 33 y.v := hWm20 ▸ Bm19.set y.v
                    have Am20 := hWm20 ▸ Am19.other nAB y.v
                    have Xm20 := hWm20 ▸ Xm19.other nXB y.v
                    have Qm20 := hWm20 ▸ Qm19.other nQB y.v
                    have bm20 := hWm20 ▸ below_setRow bm19 gB y.v
                    go_wp2_with (first | (refine wpList_load_at_w (by rfl) _ _ rfl p2 (off2 + i2 * 22) (by rfl) _ hcy Try.underlying33 (by kernel_rfl) ?_) | (refine wpList_store_row rfl _ _ _ rfl Wu.heap.size y.v (by rfl) (by rfl) _ _ Bm19 (by kernel_rfl) (by rfl) (by kernel_rfl) ?_; rw [hWm20]))
                    obtain ⟨Wdq21, hWdq21⟩ : ∃ W, Wm20.drew = W := ⟨_, rfl⟩
                    have Adq21 := hWdq21 ▸ Am20.drew
                    have Xdq21 := hWdq21 ▸ Xm20.drew
                    have Qdq21 := hWdq21 ▸ Qm20.drew
                    have Bdq21 := hWdq21 ▸ Bm20.drew
                    have bdq21 := hWdq21 ▸ bm20.drew
                    refine wp_region_noPanic ?_
                    refine wp_region_held_drew (S := fun w' => Blk w' Wv.heap.size 33 x.v ∧ TabX w' tb mb s1 ∧ But (fun _ => False) Wm11 w' ∧ Blk w' Wu.heap.size 33 y.v) (by kernel_rfl) (by rw [hWdq21]; exact ⟨Adq21, Xdq21, Qdq21, Bdq21⟩) (fun hHeld => ?_)
                    rw [hWdq21] at hHeld ⊢
                    refine wpAnyH_take (i := 0) (oi := fxb12o25) (v := (.pointer (some ⟨Wu.heap.size, 0, none⟩))) rfl (by kernel_rfl) (by kernel_rfl) (by kernel_rfl) (fun _ _ _ h => h) (Or.inl ⟨by rfl, ?_⟩) hHeld ?_
                    · intro w9 hSw
                      try dsimp only at hSw
                      go_simp
                    try simp only [Act.put, List.setIfInBounds_toArray, List.set_cons_zero, List.set_cons_succ]
                    refine wpAnyH_take (i := 1) (oi := fxb12o24) (v := (.agg y.w.v)) rfl (by kernel_rfl) (by kernel_rfl) (by kernel_rfl) (fun _ _ _ h => h) (yieldsIf_sub_w (by kernel_rfl) _ _ rfl Wu.heap.size 0 _ (by rfl) _ y.w.v (fun _ hSw => hSw.2.2.2) (by rfl) Try.underlying26 (by kernel_rfl)) hHeld ?_
                    try simp only [Act.put, List.setIfInBounds_toArray, List.set_cons_zero, List.set_cons_succ]
                    refine wpAnyH_take (i := 2) (oi := fxb12o26) (v := (.pointer (some ⟨Wv.heap.size, 0, none⟩))) rfl (by kernel_rfl) (by kernel_rfl) (by kernel_rfl) (fun _ _ _ h => h) (Or.inl ⟨by rfl, ?_⟩) hHeld ?_
                    · intro w9 hSw
                      try dsimp only at hSw
                      go_simp
                    try simp only [Act.put, List.setIfInBounds_toArray, List.set_cons_zero, List.set_cons_succ]
                    refine wpAnyH_take (i := 3) (oi := fxb12o23) (v := (.agg x.w.v)) rfl (by kernel_rfl) (by kernel_rfl) (by kernel_rfl) (fun _ _ _ h => h) (yieldsIf_sub_w (by kernel_rfl) _ _ rfl Wv.heap.size 0 _ (by rfl) _ x.w.v (fun _ hSw => hSw.1) (by rfl) Try.underlying26 (by kernel_rfl)) hHeld ?_
                    try simp only [Act.put, List.setIfInBounds_toArray, List.set_cons_zero, List.set_cons_succ]
                    refine wpAnyH_ready (rs := [4]) (by kernel_rfl) (by simp) ?_
                    refine AllReadyH.cons (o := fxb12o19) rfl (fun K hK => ?_) AllReadyH.nil
                    go_simp
                    refine Calls.mono (rrev_t x.w _) ?_
                    rintro e Wx22 ⟨rfl, bb⟩
                    have Ax22 := Adq21.kept bb
                    have Xx22 := Xdq21.kept bb
                    have Qx22 := Qdq21.kept bb
                    have Bx22 := Bdq21.kept bb
                    have bx22 := bel_tr bdq21 bb
                    clear bb
                    refine hK.out _ _ (by exact ⟨Ax22, Xx22, Qx22, Bx22⟩) (fun hHeld => ?_)
                    clear hK K
                    try simp only [Act.put, List.setIfInBounds_toArray, List.set_cons_zero, List.set_cons_succ]
                    refine wpAnyH_take (i := 5) (oi := fxb12o22) (v := (.bool (Wy.eqB y.w (x.w.rev)))) rfl (by kernel_rfl) (by kernel_rfl) (by kernel_rfl) (fun _ _ _ h => h) (Or.inl ⟨by rfl, ?_⟩) hHeld ?_
                    · intro w9 hSw
                      try dsimp only at hSw
                      have hcc := eql_way y.w (x.w.rev)
                      go_simp
                    try simp only [Act.put, List.setIfInBounds_toArray, List.set_cons_zero, List.set_cons_succ]
                    refine wpAnyH_done (by kernel_rfl) ?_ _
                    refine NoPanic.normal ?_
                    cases hq23 : (Wy.eqB y.w (x.w.rev)) with
                    | false =>
                      go_wp2_with fail
                      exact ⟨⟨i2 + 1, by omega, by go_num, Ax22, Xx22, Qx22, bx22⟩, by simp [intOf]; omega⟩

                    | true =>
                      go_wp2_with fail
                      exact absurd hap (by rw [(by assumption : Wy.eqB y.w (x.w.rev) = true)]; decide)


                  · have iki : ¬ (i2 : Int) < (k : Int) := by omega
                    have iki' : decide ((i2 : Int) < (k : Int)) = false := by simpa using iki
                    go_wp2_with fail
                    exact ⟨⟨k + 1, by omega, by go_num, Xu, Qu, bu⟩, by simp [intOf]; omega⟩

              · have hk0' : decide ((0 : Int) < (k : Int)) = false := by simpa using hk0
                have hk2 : ¬ (0 : Int) < (k : Int) := by omega
                obtain ⟨Wm24, hWm24⟩ : ∃ W, Wv.alloc (.cells #[.int .i64 0, .int .i64 0, .int .i64 0, .int .u64 0, .int .u64 0, .int .i64 0, .int .u64 0, .int .u64 0, .int .i64 0, .int .i64 0, .int .i64 0, .int .u32 0, .int .u32 0, .int .u32 0, .int .u32 0, .bool false, .bool false, .bool false, .bool false, .int .i64 0, .int .i64 0, .bool false] 33) = W := ⟨_, rfl⟩
                have bm24 := bel_al bv hWm24
                have Xm24 := Xv.al hWm24
                have Qm24 := Qv.al hWm24
                have Am24 := blk_nw hWm24
                have gA : w.heap.size ≤ Wv.heap.size := bv.size
                have nXA : tb ≠ Wv.heap.size ∧ mb ≠ Wv.heap.size := by have := Xv.lt; omega
                have nQA : (fun _ => False) Wv.heap.size ∨ Wm11.heap.size ≤ Wv.heap.size := .inr Qv.size
                obtain ⟨Wm25, hWm25⟩ : ∃ W, Wm24.setRow Wv.heap.size x.v = W := ⟨_, rfl⟩
                have Am25 : Blk Wm25 Wv.heap.size 33 x.v := hWm25 ▸ Am24.set x.v
                have Xm25 := hWm25 ▸ Xm24.other nXA x.v
                have Qm25 := hWm25 ▸ Qm24.other nQA x.v
                have bm25 := hWm25 ▸ below_setRow bm24 gA x.v
                go_wp2_with (first | (refine wpList_load_at_w (by rfl) _ _ rfl p2 (off2 + k * 22) (by rfl) _ hcb Try.underlying33 (by kernel_rfl) ?_) | (refine wpList_store_row rfl _ _ _ rfl Wv.heap.size x.v (by rfl) (by rfl) _ _ Am24 (by kernel_rfl) (by rfl) (by kernel_rfl) ?_; rw [hWm25]))
                obtain ⟨Wdq26, hWdq26⟩ : ∃ W, Wm25.drew = W := ⟨_, rfl⟩
                have Xdq26 := hWdq26 ▸ Xm25.drew
                have Qdq26 := hWdq26 ▸ Qm25.drew
                have Adq26 := hWdq26 ▸ Am25.drew
                have bdq26 := hWdq26 ▸ bm25.drew
                refine wp_region_noPanic ?_
                refine wp_region_held_drew (S := fun w' => TabX w' tb mb s1 ∧ But (fun _ => False) Wm11 w' ∧ Blk w' Wv.heap.size 33 x.v) (by kernel_rfl) (by rw [hWdq26]; exact ⟨Xdq26, Qdq26, Adq26⟩) (fun hHeld => ?_)
                rw [hWdq26] at hHeld ⊢
                refine wpAnyH_take (i := 0) (oi := fxb12o20) (v := (.pointer (some ⟨Wv.heap.size, 19, none⟩))) rfl (by kernel_rfl) (by kernel_rfl) (by kernel_rfl) (fun _ _ _ h => h) (Or.inl ⟨by rfl, ?_⟩) hHeld ?_
                · intro w9 hSw
                  try dsimp only at hSw
                  go_simp
                try simp only [Act.put, List.setIfInBounds_toArray, List.set_cons_zero, List.set_cons_succ]
                refine wpAnyH_take (i := 1) (oi := fxb12o18) (v := (.int .i64 x.ends)) rfl (by kernel_rfl) (by kernel_rfl) (by kernel_rfl) (fun _ _ _ h => h) (Or.inl ⟨by rfl, ?_⟩) hHeld ?_
                · intro w9 hSw
                  try dsimp only at hSw
                  have hcc := hSw.2.2.cell 19 (.int .i64 x.ends) rfl
                  go_simp
                try simp only [Act.put, List.setIfInBounds_toArray, List.set_cons_zero, List.set_cons_succ]
                refine wpAnyH_take (i := 2) (oi := fxb12o21) (v := (.pointer (some ⟨tb, 0, none⟩))) rfl (by kernel_rfl) (by kernel_rfl) (by kernel_rfl) (fun _ _ _ h => h) (Or.inl ⟨by rfl, ?_⟩) hHeld ?_
                · intro w9 hSw
                  try dsimp only at hSw
                  go_simp
                try simp only [Act.put, List.setIfInBounds_toArray, List.set_cons_zero, List.set_cons_succ]
                refine wpAnyH_ready (rs := [3]) (by kernel_rfl) (by simp) ?_
                refine AllReadyH.cons (o := fxb12o2) rfl (fun K hK => ?_) AllReadyH.nil
                go_simp
                refine Calls.mono (nowX tb mb s1 _ Xdq26) ?_
                rintro e Wx27 ⟨rfl, bb⟩
                have Xx27 := Xdq26.kept bb
                have Qx27 := Qdq26.kept bb
                have Ax27 := Adq26.kept bb
                have bx27 := bel_tr bdq26 bb
                clear bb
                refine hK.out _ _ (by exact ⟨Xx27, Qx27, Ax27⟩) (fun hHeld => ?_)
                clear hK K
                try simp only [Act.put, List.setIfInBounds_toArray, List.set_cons_zero, List.set_cons_succ]
                refine wpAnyH_take (i := 4) (oi := fxb12o8) (v := (.bool (decide (x.ends ≤ s1.now)))) rfl (by kernel_rfl) (by kernel_rfl) (by kernel_rfl) (fun _ _ _ h => h) (Or.inl ⟨by rfl, ?_⟩) hHeld ?_
                · intro w9 hSw
                  try dsimp only at hSw
                  go_simp
                try simp only [Act.put, List.setIfInBounds_toArray, List.set_cons_zero, List.set_cons_succ]
                refine wpAnyH_take (i := 5) (oi := fxb12o13) (v := (.bool false)) rfl (by kernel_rfl) (by kernel_rfl) (by kernel_rfl) (fun _ _ _ h => h) (Or.inl ⟨by rfl, ?_⟩) hHeld ?_
                · intro w9 hSw
                  try dsimp only at hSw
                  go_simp
                try simp only [Act.put, List.setIfInBounds_toArray, List.set_cons_zero, List.set_cons_succ]
                refine wpAnyH_take (i := 6) (oi := fxb12o16) (v := (.int .i64 (k : Int))) rfl (by kernel_rfl) (by kernel_rfl) (by kernel_rfl) (fun _ _ _ h => h) (Or.inl ⟨by rfl, ?_⟩) hHeld ?_
                · intro w9 hSw
                  try dsimp only at hSw
                  go_simp
                try simp only [Act.put, List.setIfInBounds_toArray, List.set_cons_zero, List.set_cons_succ]
                refine wpAnyH_take (i := 7) (oi := fxb12o4) (v := (.bool (decide (0 < (k : Int))))) rfl (by kernel_rfl) (by kernel_rfl) (by kernel_rfl) (fun _ _ _ h => h) (Or.inl ⟨by rfl, ?_⟩) hHeld ?_
                · intro w9 hSw
                  try dsimp only at hSw
                  go_simp
                try simp only [Act.put, List.setIfInBounds_toArray, List.set_cons_zero, List.set_cons_succ]
                refine wpAnyH_take (i := 8) (oi := fxb12o7) (v := (.bool false)) rfl (by kernel_rfl) (by kernel_rfl) (by kernel_rfl) (fun _ _ _ h => h) (Or.inl ⟨by rfl, ?_⟩) hHeld ?_
                · intro w9 hSw
                  try dsimp only at hSw
                  go_simp
                try simp only [Act.put, List.setIfInBounds_toArray, List.set_cons_zero, List.set_cons_succ]
                refine wpAnyH_take (i := 9) (oi := fxb12o15) (v := undef) rfl (by kernel_rfl) (by kernel_rfl) (by kernel_rfl) (fun _ _ _ h => h) (Or.inr ⟨by rfl, rfl⟩) hHeld ?_
                try simp only [Act.put, List.setIfInBounds_toArray, List.set_cons_zero, List.set_cons_succ]
                refine wpAnyH_take (i := 10) (oi := fxb12o17) (v := undef) rfl (by kernel_rfl) (by kernel_rfl) (by kernel_rfl) (fun _ _ _ h => h) (Or.inr ⟨by rfl, rfl⟩) hHeld ?_
                try simp only [Act.put, List.setIfInBounds_toArray, List.set_cons_zero, List.set_cons_succ]
                refine wpAnyH_take (i := 11) (oi := fxb12o6) (v := undef) rfl (by kernel_rfl) (by kernel_rfl) (by kernel_rfl) (fun _ _ _ h => h) (Or.inr ⟨by rfl, rfl⟩) hHeld ?_
                try simp only [Act.put, List.setIfInBounds_toArray, List.set_cons_zero, List.set_cons_succ]
                refine wpAnyH_take (i := 12) (oi := fxb12o3) (v := undef) rfl (by kernel_rfl) (by kernel_rfl) (by kernel_rfl) (fun _ _ _ h => h) (Or.inr ⟨by rfl, rfl⟩) hHeld ?_
                try simp only [Act.put, List.setIfInBounds_toArray, List.set_cons_zero, List.set_cons_succ]
                refine wpAnyH_take (i := 13) (oi := fxb12o12) (v := undef) rfl (by kernel_rfl) (by kernel_rfl) (by kernel_rfl) (fun _ _ _ h => h) (Or.inr ⟨by rfl, rfl⟩) hHeld ?_
                try simp only [Act.put, List.setIfInBounds_toArray, List.set_cons_zero, List.set_cons_succ]
                refine wpAnyH_take (i := 14) (oi := fxb12o10) (v := undef) rfl (by kernel_rfl) (by kernel_rfl) (by kernel_rfl) (fun _ _ _ h => h) (Or.inr ⟨by rfl, rfl⟩) hHeld ?_
                try simp only [Act.put, List.setIfInBounds_toArray, List.set_cons_zero, List.set_cons_succ]
                refine wpAnyH_take (i := 15) (oi := fxb12o14) (v := undef) rfl (by kernel_rfl) (by kernel_rfl) (by kernel_rfl) (fun _ _ _ h => h) (Or.inr ⟨by rfl, rfl⟩) hHeld ?_
                try simp only [Act.put, List.setIfInBounds_toArray, List.set_cons_zero, List.set_cons_succ]
                refine wpAnyH_take (i := 16) (oi := fxb12o11) (v := undef) rfl (by kernel_rfl) (by kernel_rfl) (by kernel_rfl) (fun _ _ _ h => h) (Or.inr ⟨by rfl, rfl⟩) hHeld ?_
                try simp only [Act.put, List.setIfInBounds_toArray, List.set_cons_zero, List.set_cons_succ]
                refine wpAnyH_take (i := 17) (oi := fxb12o0) (v := undef) rfl (by kernel_rfl) (by kernel_rfl) (by kernel_rfl) (fun _ _ _ h => h) (Or.inr ⟨by rfl, rfl⟩) hHeld ?_
                try simp only [Act.put, List.setIfInBounds_toArray, List.set_cons_zero, List.set_cons_succ]
                refine wpAnyH_take (i := 18) (oi := fxb12o5) (v := undef) rfl (by kernel_rfl) (by kernel_rfl) (by kernel_rfl) (fun _ _ _ h => h) (Or.inr ⟨by rfl, rfl⟩) hHeld ?_
                try simp only [Act.put, List.setIfInBounds_toArray, List.set_cons_zero, List.set_cons_succ]
                refine wpAnyH_take (i := 19) (oi := fxb12o1) (v := (.bool false)) rfl (by kernel_rfl) (by kernel_rfl) (by kernel_rfl) (fun _ _ _ h => h) (Or.inl ⟨by rfl, ?_⟩) hHeld ?_
                · intro w9 hSw
                  try dsimp only at hSw
                  go_simp
                try simp only [Act.put, List.setIfInBounds_toArray, List.set_cons_zero, List.set_cons_succ]
                refine wpAnyH_take (i := 20) (oi := fxb12o9) (v := (.bool false)) rfl (by kernel_rfl) (by kernel_rfl) (by kernel_rfl) (fun _ _ _ h => h) (Or.inl ⟨by rfl, ?_⟩) hHeld ?_
                · intro w9 hSw
                  try dsimp only at hSw
                  go_simp
                try simp only [Act.put, List.setIfInBounds_toArray, List.set_cons_zero, List.set_cons_succ]
                refine wpAnyH_done (by kernel_rfl) ?_ _
                refine NoPanic.normal ?_
                go_wp2_with fail
                go_loopw [93] (fun i wr => ∃ i2 : Nat, i2 ≤ k ∧ i = .int .i64 i2 ∧ Blk wr Wv.heap.size 33 x.v ∧ TabX wr tb mb s1 ∧ But (fun _ => False) Wm11 wr ∧ Below w.heap.size w wr) (fun i _ => k - (intOf i).toNat)
                case atStart => exact ⟨0, Nat.zero_le _, rfl, Ax27, Xx27, Qx27, bx27⟩
                case round =>
                  obtain ⟨i2, hi2, rfl, Au, Xu, Qu, bu⟩ := hrel
                  obtain ⟨Wu, rfl⟩ : ∃ W, W = wr := ⟨_, rfl⟩
                  have in0i : (0 : Int) ≤ (i2 : Int) := by omega
                  by_cases hlti : i2 < k
                  · have iki : (i2 : Int) < (k : Int) := by omega
                    have iki' : decide ((i2 : Int) < (k : Int)) = true := by simpa using iki
                    obtain ⟨y, hy⟩ : ∃ x, s1.L[i2]? = some x := ⟨_, List.getElem?_eq_getElem (by rw [HM.out]; omega)⟩
                    have hap : Wy.eqB y.w (x.w.rev) = false := ft_apart HOK1.out HX.out hy hlti
                    obtain ⟨p4, off4, e4, hcells4⟩ := HRW.out.cells i2 y hy
                    cases e4
                    have hcy := hcells4.below (Qu.to_below (Nat.le_refl _) (fun _ _ x => x))
                    clear hcells4 hy
                    exact absurd hlti (by omega)

                  · have iki : ¬ (i2 : Int) < (k : Int) := by omega
                    have iki' : decide ((i2 : Int) < (k : Int)) = false := by simpa using iki
                    go_wp2_with fail
                    exact ⟨⟨k + 1, by omega, by go_num, Xu, Qu, bu⟩, by simp [intOf]; omega⟩

            · have ikk : ¬ (k : Int) < (M : Int) := by omega
              have ikk' : decide ((k : Int) < (M : Int)) = false := by simpa using ikk
              go_wp2_with fail
              exact ⟨⟨j + 1, s1, by omega, by go_num, hI1, Xv, bv⟩, by simp [intOf]; omega⟩

        | true =>
          obtain ⟨Wm28, hWm28⟩ : ∃ W, Wr.alloc (.cells #[.int .i64 0, .int .i64 0, .int .i64 0, .int .i64 0, .int .i64 0, .int .u64 0, .int .u64 0, .int .i64 0, .int .u64 0, .int .u64 0, .int .i64 0, .int .i64 0, .int .i64 0, .int .u32 0, .int .u32 0, .int .u32 0, .int .u32 0, .bool false, .bool false, .bool false, .bool false, .int .i64 0, .int .i64 0, .bool false] 59) = W := ⟨_, rfl⟩
          have bm28 := bel_al br hWm28
          have Xm28 := Xr.al hWm28
          have Am28 := blk_nw hWm28
          have gA : w.heap.size ≤ Wr.heap.size := br.size
          have nXA : tb ≠ Wr.heap.size ∧ mb ≠ Wr.heap.size := by have := Xr.lt; omega
          obtain ⟨Wm29, hWm29⟩ : ∃ W, Wm28.setRow Wr.heap.size qa.v = W := ⟨_, rfl⟩
          have Am29 : Blk Wm29 Wr.heap.size 59 qa.v := hWm29 ▸ Am28.set qa.v
          have Xm29 := hWm29 ▸ Xm28.other nXA qa.v
          have bm29 := hWm29 ▸ below_setRow bm28 gA qa.v
          have c30 := Am29.cell 0 (.int .i64 qa.kd) rfl
          have c31 := Am29.cell 1 (.int .i64 qa.nw) rfl
          go_wp2_with (first | (refine wpList_load_at_w (by rfl) _ _ rfl p (off + j * 24) (by rfl) _ hca Try.underlying59 (by kernel_rfl) ?_) | (refine wpList_store_row rfl _ _ _ rfl Wr.heap.size qa.v (by rfl) (by rfl) _ _ Am28 (by kernel_rfl) (by rfl) (by kernel_rfl) ?_; rw [hWm29]))
          clear c30 c31
          refine Calls.mono (tickX tb mb s qa.nw _ Xm29) ?_
          rintro e Wm32 ⟨rfl, Xm32, bb⟩
          have Am32 := Am29.but bb (by have := nXA; omega)
          have bm32 := bel_but bm29 bb gwb gwm
          clear bb
          clear Xm29 Am29 bm29
          obtain ⟨s1, hs1⟩ : ∃ t, (s.tick qa.nw).1 = t := ⟨_, rfl⟩
          rw [hs1] at Xm32
          have hI1 : Hid (s1.most = m) := by rw [← hs1]; exact (tick_most s _).trans hI.out
          have HOK1 : Hid (FtOk s1) := Xm32.ok
          clear hs1
          go_wp2_with fail
          refine Calls.mono (allX tb mb s1 _ Xm32) ?_
          rintro e Wm33 ⟨aa, ca, rfl, OAm33, bb⟩
          have Xm33 := Xm32.kept bb
          have Am33 := Am32.kept bb
          have bm33 := bel_tr bm32 bb
          clear bb
          have HRW : Hid (RowL Wm33 aa s1.L) := OAm33.row (fun _ _ => trivial)
          have HCA : Hid (s1.L.length ≤ ca) := OAm33.le
          have Qm33 : But (fun _ => False) Wm33 Wm33 := But.refl _ _
          clear Xm32 Am32 bm32
          have hfw : ¬ m < (s1.L.length : Int) := by
            have h8 := HOK1.out.few
            have h9 : s1.most = m := hI1
            omega
          have hfw' : decide (m < (s1.L.length : Int)) = false := by simpa using hfw
          go_wp2_with fail
          refine Calls.mono (lenX tb mb s1 _ Xm33) ?_
          rintro e Wm34 ⟨rfl, bb⟩
          have Xm34 := Xm33.kept bb
          have Am34 := Am33.kept bb
          have Qm34 := Qm33.kept bb
          have bm34 := bel_tr bm33 bb
          clear bb
          clear Xm33 Am33 Qm33 bm33
          go_wp2_with fail
          refine Calls.mono (lenX tb mb s1 _ Xm34) ?_
          rintro e Wm35 ⟨rfl, bb⟩
          have Xm35 := Xm34.kept bb
          have Am35 := Am34.kept bb
          have Qm35 := Qm34.kept bb
          have bm35 := bel_tr bm34 bb
          clear bb
          clear Xm34 Am34 Qm34 bm34
          go_wp2_with fail
          obtain ⟨M, hM⟩ : ∃ M, s1.L.length = M := ⟨_, rfl⟩
          have HM : Hid (s1.L.length = M) := hM
          have hM0 : M ≤ 1000000 := by
            have h8 := HOK1.out.few
            have h9 := HOK1.out.most
            omega
          rw [hM]
          clear hM hfw hfw'
          go_loopw [63] (fun i wr => ∃ k : Nat, k ≤ M ∧ i = .int .i64 k ∧ TabX wr tb mb s1 ∧ But (fun _ => False) Wm33 wr ∧ Below w.heap.size w wr) (fun i _ => M - (intOf i).toNat)
          case atStart => exact ⟨0, Nat.zero_le _, rfl, Xm35, Qm35, bm35⟩
          case round =>
            obtain ⟨k, hk, rfl, Xv, Qv, bv⟩ := hrel
            obtain ⟨Wv, rfl⟩ : ∃ W, W = wr := ⟨_, rfl⟩
            have in0k : (0 : Int) ≤ (k : Int) := by omega
            by_cases hltk : k < M
            · have ikk : (k : Int) < (M : Int) := by omega
              have ikk' : decide ((k : Int) < (M : Int)) = true := by simpa using ikk
              obtain ⟨x, hx⟩ : ∃ x, s1.L[k]? = some x := ⟨_, List.getElem?_eq_getElem (by rw [HM.out]; exact hltk)⟩
              have HX : Hid (s1.L[k]? = some x) := hx
              have hen : ¬ x.ends ≤ s1.now := by have := (HOK1.out.each x (List.mem_of_getElem? hx)).2.1; omega
              have hen' : decide (x.ends ≤ s1.now) = false := by simpa using hen
              have hkc : k ≤ ca := by have h7 : s1.L.length ≤ ca := HCA; have h8 : s1.L.length = M := HM; omega
              have hkc' : (k : Int) ≤ (ca : Int) := by omega
              obtain ⟨p2, off2, rfl, hcells2⟩ := HRW.out.cells k x hx
              have hcb := hcells2.below (Qv.to_below (Nat.le_refl _) (fun _ _ x => x))
              clear hcells2 hx
              by_cases hk0 : 0 < k
              · have hk0' : decide ((0 : Int) < (k : Int)) = true := by simpa using hk0
                have hk2 : (0 : Int) < (k : Int) := by omega
                obtain ⟨k1, hk1⟩ : ∃ k1, k1 + 1 = k := ⟨k - 1, by omega⟩
                obtain ⟨x1, hx1⟩ : ∃ x, s1.L[k1]? = some x := ⟨_, List.getElem?_eq_getElem (by rw [HM.out]; omega)⟩
                have hor : ¬ 0 ≤ x1.w.order x.w := by have := ft_before HOK1.out HX.out hx1 (by omega); omega
                have hor' : decide (0 ≤ x1.w.order x.w) = false := by simpa using hor
                obtain ⟨p3, off3, e3, hcells3⟩ := HRW.out.cells k1 x1 hx1
                cases e3
                have hkm : (k : Int) - 1 = (k1 : Int) := by omega
                have ik0 : (0 : Int) ≤ (k1 : Int) := by omega
                have ik1 : (k1 : Int) < (M : Int) := by omega
                have HC1 : Hid (CellsAt Wm33 p2 (off2 + k1 * 22) x1.v) := hcells3
                have HK1 : Hid (k1 + 1 = k) := hk1
                clear hcells3 hx1 hk1
                obtain ⟨Wm36, hWm36⟩ : ∃ W, Wv.alloc (.cells #[.int .i64 0, .int .i64 0, .int .i64 0, .int .u64 0, .int .u64 0, .int .i64 0, .int .u64 0, .int .u64 0, .int .i64 0, .int .i64 0, .int .i64 0, .int .u32 0, .int .u32 0, .int .u32 0, .int .u32 0, .bool false, .bool false, .bool false, .bool false, .int .i64 0, .int .i64 0, .bool false] 33) = W := ⟨_, rfl⟩
                have bm36 := bel_al bv hWm36
                have Xm36 := Xv.al hWm36
                have Qm36 := Qv.al hWm36
                have Am36 := blk_nw hWm36
                have gA : w.heap.size ≤ Wv.heap.size := bv.size
                have nXA : tb ≠ Wv.heap.size ∧ mb ≠ Wv.heap.size := by have := Xv.lt; omega
                have nQA : (fun _ => False) Wv.heap.size ∨ Wm33.heap.size ≤ Wv.heap.size := .inr Qv.size
                obtain ⟨Wm37, hWm37⟩ : ∃ W, Wm36.setRow Wv.heap.size x.v = W := ⟨_, rfl⟩
                have Am37 : Blk Wm37 Wv.heap.size 33 x.v := hWm37 ▸ Am36.set x.v
                have Xm37 := hWm37 ▸ Xm36.other nXA x.v
                have Qm37 := hWm37 ▸ Qm36.other nQA x.v
                have bm37 := hWm37 ▸ below_setRow bm36 gA x.v
                go_wp2_with (first | (refine wpList_load_at_w (by rfl) _ _ rfl p2 (off2 + k * 22) (by rfl) _ hcb Try.underlying33 (by kernel_rfl) ?_) | (refine wpList_store_row rfl _ _ _ rfl Wv.heap.size x.v (by rfl) (by rfl) _ _ Am36 (by kernel_rfl) (by rfl) (by kernel_rfl) ?_; rw [hWm37]))
                obtain ⟨Wdq38, hWdq38⟩ : ∃ W, Wm37.drew = W := ⟨_, rfl⟩
                have Xdq38 := hWdq38 ▸ Xm37.drew
                have Qdq38 := hWdq38 ▸ Qm37.drew
                have Adq38 := hWdq38 ▸ Am37.drew
                have bdq38 := hWdq38 ▸ bm37.drew
                refine wp_region_noPanic ?_
                refine wp_region_held_drew (S := fun w' => TabX w' tb mb s1 ∧ But (fun _ => False) Wm33 w' ∧ Blk w' Wv.heap.size 33 x.v) (by kernel_rfl) (by rw [hWdq38]; exact ⟨Xdq38, Qdq38, Adq38⟩) (fun hHeld => ?_)
                rw [hWdq38] at hHeld ⊢
                refine wpAnyH_take (i := 0) (oi := fxb12o20) (v := (.pointer (some ⟨Wv.heap.size, 19, none⟩))) rfl (by kernel_rfl) (by kernel_rfl) (by kernel_rfl) (fun _ _ _ h => h) (Or.inl ⟨by rfl, ?_⟩) hHeld ?_
                · intro w9 hSw
                  try dsimp only at hSw
                  go_simp
                try simp only [Act.put, List.setIfInBounds_toArray, List.set_cons_zero, List.set_cons_succ]
                refine wpAnyH_take (i := 1) (oi := fxb12o18) (v := (.int .i64 x.ends)) rfl (by kernel_rfl) (by kernel_rfl) (by kernel_rfl) (fun _ _ _ h => h) (Or.inl ⟨by rfl, ?_⟩) hHeld ?_
                · intro w9 hSw
                  try dsimp only at hSw
                  have hcc := hSw.2.2.cell 19 (.int .i64 x.ends) rfl
                  go_simp
                try simp only [Act.put, List.setIfInBounds_toArray, List.set_cons_zero, List.set_cons_succ]
                refine wpAnyH_take (i := 2) (oi := fxb12o21) (v := (.pointer (some ⟨tb, 0, none⟩))) rfl (by kernel_rfl) (by kernel_rfl) (by kernel_rfl) (fun _ _ _ h => h) (Or.inl ⟨by rfl, ?_⟩) hHeld ?_
                · intro w9 hSw
                  try dsimp only at hSw
                  go_simp
                try simp only [Act.put, List.setIfInBounds_toArray, List.set_cons_zero, List.set_cons_succ]
                refine wpAnyH_ready (rs := [3]) (by kernel_rfl) (by simp) ?_
                refine AllReadyH.cons (o := fxb12o2) rfl (fun K hK => ?_) AllReadyH.nil
                go_simp
                refine Calls.mono (nowX tb mb s1 _ Xdq38) ?_
                rintro e Wx39 ⟨rfl, bb⟩
                have Xx39 := Xdq38.kept bb
                have Qx39 := Qdq38.kept bb
                have Ax39 := Adq38.kept bb
                have bx39 := bel_tr bdq38 bb
                clear bb
                refine hK.out _ _ (by exact ⟨Xx39, Qx39, Ax39⟩) (fun hHeld => ?_)
                clear hK K
                try simp only [Act.put, List.setIfInBounds_toArray, List.set_cons_zero, List.set_cons_succ]
                refine wpAnyH_take (i := 4) (oi := fxb12o8) (v := (.bool (decide (x.ends ≤ s1.now)))) rfl (by kernel_rfl) (by kernel_rfl) (by kernel_rfl) (fun _ _ _ h => h) (Or.inl ⟨by rfl, ?_⟩) hHeld ?_
                · intro w9 hSw
                  try dsimp only at hSw
                  go_simp
                try simp only [Act.put, List.setIfInBounds_toArray, List.set_cons_zero, List.set_cons_succ]
                refine wpAnyH_take (i := 5) (oi := fxb12o13) (v := (.bool false)) rfl (by kernel_rfl) (by kernel_rfl) (by kernel_rfl) (fun _ _ _ h => h) (Or.inl ⟨by rfl, ?_⟩) hHeld ?_
                · intro w9 hSw
                  try dsimp only at hSw
                  go_simp
                try simp only [Act.put, List.setIfInBounds_toArray, List.set_cons_zero, List.set_cons_succ]
                refine wpAnyH_take (i := 6) (oi := fxb12o16) (v := (.int .i64 (k : Int))) rfl (by kernel_rfl) (by kernel_rfl) (by kernel_rfl) (fun _ _ _ h => h) (Or.inl ⟨by rfl, ?_⟩) hHeld ?_
                · intro w9 hSw
                  try dsimp only at hSw
                  go_simp
                try simp only [Act.put, List.setIfInBounds_toArray, List.set_cons_zero, List.set_cons_succ]
                refine wpAnyH_take (i := 7) (oi := fxb12o4) (v := (.bool (decide (0 < (k : Int))))) rfl (by kernel_rfl) (by kernel_rfl) (by kernel_rfl) (fun _ _ _ h => h) (Or.inl ⟨by rfl, ?_⟩) hHeld ?_
                · intro w9 hSw
                  try dsimp only at hSw
                  go_simp
                try simp only [Act.put, List.setIfInBounds_toArray, List.set_cons_zero, List.set_cons_succ]
                refine wpAnyH_take (i := 8) (oi := fxb12o7) (v := (.bool true)) rfl (by kernel_rfl) (by kernel_rfl) (by kernel_rfl) (fun _ _ _ h => h) (Or.inl ⟨by rfl, ?_⟩) hHeld ?_
                · intro w9 hSw
                  try dsimp only at hSw
                  go_simp
                try simp only [Act.put, List.setIfInBounds_toArray, List.set_cons_zero, List.set_cons_succ]
                refine wpAnyH_take (i := 9) (oi := fxb12o15) (v := (.slice (some ⟨p2, off2, none⟩) M ca)) rfl (by kernel_rfl) (by kernel_rfl) (by kernel_rfl) (fun _ _ _ h => h) (Or.inl ⟨by rfl, ?_⟩) hHeld ?_
                · intro w9 hSw
                  try dsimp only at hSw
                  go_simp
                try simp only [Act.put, List.setIfInBounds_toArray, List.set_cons_zero, List.set_cons_succ]
                refine wpAnyH_take (i := 10) (oi := fxb12o17) (v := (.int .i64 (k : Int))) rfl (by kernel_rfl) (by kernel_rfl) (by kernel_rfl) (fun _ _ _ h => h) (Or.inl ⟨by rfl, ?_⟩) hHeld ?_
                · intro w9 hSw
                  try dsimp only at hSw
                  go_simp
                try simp only [Act.put, List.setIfInBounds_toArray, List.set_cons_zero, List.set_cons_succ]
                refine wpAnyH_take (i := 11) (oi := fxb12o6) (v := (.int .i64 (k1 : Int))) rfl (by kernel_rfl) (by kernel_rfl) (by kernel_rfl) (fun _ _ _ h => h) (Or.inl ⟨by rfl, ?_⟩) hHeld ?_
                · intro w9 hSw
                  try dsimp only at hSw
                  go_simp
                  try decide
                  try (rw [IntKind.wrap_i64]; omega)
                try simp only [Act.put, List.setIfInBounds_toArray, List.set_cons_zero, List.set_cons_succ]
                refine wpAnyH_take (i := 12) (oi := fxb12o3) (v := (.pointer (some ⟨p2, off2 + k1 * 22, none⟩))) rfl (by kernel_rfl) (by kernel_rfl) (by kernel_rfl) (fun _ _ _ h => h) (Or.inl ⟨by rfl, ?_⟩) hHeld ?_
                · intro w9 hSw
                  try dsimp only at hSw
                  go_simp
                try simp only [Act.put, List.setIfInBounds_toArray, List.set_cons_zero, List.set_cons_succ]
                refine wpAnyH_take (i := 13) (oi := fxb12o12) (v := (.pointer (some ⟨p2, off2 + k1 * 22, none⟩))) rfl (by kernel_rfl) (by kernel_rfl) (by kernel_rfl) (fun _ _ _ h => h) (Or.inl ⟨by rfl, ?_⟩) hHeld ?_
                · intro w9 hSw
                  try dsimp only at hSw
                  go_simp
                try simp only [Act.put, List.setIfInBounds_toArray, List.set_cons_zero, List.set_cons_succ]
                refine wpAnyH_take (i := 14) (oi := fxb12o10) (v := (.agg x1.w.v)) rfl (by kernel_rfl) (by kernel_rfl) (by kernel_rfl) (fun _ _ _ h => h) (yieldsIf_at (by kernel_rfl) _ _ rfl p2 (off2 + k1 * 22) (by rfl) _ (fun _ hSw => cells_pre (HC1.out.below ((hSw.2.1).to_below (Nat.le_refl _) (fun _ _ x => x)))) Try.underlying26 (by kernel_rfl)) hHeld ?_
                try simp only [Act.put, List.setIfInBounds_toArray, List.set_cons_zero, List.set_cons_succ]
                refine wpAnyH_take (i := 15) (oi := fxb12o14) (v := (.pointer (some ⟨Wv.heap.size, 0, none⟩))) rfl (by kernel_rfl) (by kernel_rfl) (by kernel_rfl) (fun _ _ _ h => h) (Or.inl ⟨by rfl, ?_⟩) hHeld ?_
                · intro w9 hSw
                  try dsimp only at hSw
                  go_simp
                try simp only [Act.put, List.setIfInBounds_toArray, List.set_cons_zero, List.set_cons_succ]
                refine wpAnyH_take (i := 16) (oi := fxb12o11) (v := (.agg x.w.v)) rfl (by kernel_rfl) (by kernel_rfl) (by kernel_rfl) (fun _ _ _ h => h) (yieldsIf_sub_w (by kernel_rfl) _ _ rfl Wv.heap.size 0 _ (by rfl) _ x.w.v (fun _ hSw => hSw.2.2) (by rfl) Try.underlying26 (by kernel_rfl)) hHeld ?_
                try simp only [Act.put, List.setIfInBounds_toArray, List.set_cons_zero, List.set_cons_succ]
                refine wpAnyH_ready (rs := [17]) (by kernel_rfl) (by simp) ?_
                refine AllReadyH.cons (o := fxb12o0) rfl (fun K hK => ?_) AllReadyH.nil
                go_simp
                refine Calls.mono (rorder_t x1.w x.w _) ?_
                rintro e Wx40 ⟨rfl, bb⟩
                have Xx40 := Xx39.kept bb
                have Qx40 := Qx39.kept bb
                have Ax40 := Ax39.kept bb
                have bx40 := bel_tr bx39 bb
                clear bb
                refine hK.out _ _ (by exact ⟨Xx40, Qx40, Ax40⟩) (fun hHeld => ?_)
                clear hK K
                try simp only [Act.put, List.setIfInBounds_toArray, List.set_cons_zero, List.set_cons_succ]
                refine wpAnyH_take (i := 18) (oi := fxb12o5) (v := (.bool false)) rfl (by kernel_rfl) (by kernel_rfl) (by kernel_rfl) (fun _ _ _ h => h) (Or.inl ⟨by rfl, ?_⟩) hHeld ?_
                · intro w9 hSw
                  try dsimp only at hSw
                  go_simp
                try simp only [Act.put, List.setIfInBounds_toArray, List.set_cons_zero, List.set_cons_succ]
                refine wpAnyH_take (i := 19) (oi := fxb12o1) (v := (.bool false)) rfl (by kernel_rfl) (by kernel_rfl) (by kernel_rfl) (fun _ _ _ h => h) (Or.inl ⟨by rfl, ?_⟩) hHeld ?_
                · intro w9 hSw
                  try dsimp only at hSw
                  go_simp
                try simp only [Act.put, List.setIfInBounds_toArray, List.set_cons_zero, List.set_cons_succ]
                refine wpAnyH_take (i := 20) (oi := fxb12o9) (v := (.bool false)) rfl (by kernel_rfl) (by kernel_rfl) (by kernel_rfl) (fun _ _ _ h => h) (Or.inl ⟨by rfl, ?_⟩) hHeld ?_
                · intro w9 hSw
                  try dsimp only at hSw
                  go_simp
                try simp only [Act.put, List.setIfInBounds_toArray, List.set_cons_zero, List.set_cons_succ]
                refine wpAnyH_done (by kernel_rfl) ?_ _
                refine NoPanic.normal ?_
                go_wp2_with fail
                go_loopw [93] (fun i wr => ∃ i2 : Nat, i2 ≤ k ∧ i = .int .i64 i2 ∧ Blk wr Wv.heap.size 33 x.v ∧ TabX wr tb mb s1 ∧ But (fun _ => False) Wm33 wr ∧ Below w.heap.size w wr) (fun i _ => k - (intOf i).toNat)
                case atStart => exact ⟨0, Nat.zero_le _, rfl, Ax40, Xx40, Qx40, bx40⟩
                case round =>
                  obtain ⟨i2, hi2, rfl, Au, Xu, Qu, bu⟩ := hrel
                  obtain ⟨Wu, rfl⟩ : ∃ W, W = wr := ⟨_, rfl⟩
                  have in0i : (0 : Int) ≤ (i2 : Int) := by omega
                  by_cases hlti : i2 < k
                  · have iki : (i2 : Int) < (k : Int) := by omega
                    have iki' : decide ((i2 : Int) < (k : Int)) = true := by simpa using iki
                    obtain ⟨y, hy⟩ : ∃ x, s1.L[i2]? = some x := ⟨_, List.getElem?_eq_getElem (by rw [HM.out]; omega)⟩
                    have hap : Wy.eqB y.w (x.w.rev) = false := ft_apart HOK1.out HX.out hy hlti
                    obtain ⟨p4, off4, e4, hcells4⟩ := HRW.out.cells i2 y hy
                    cases e4
                    have hcy := hcells4.below (Qu.to_below (Nat.le_refl _) (fun _ _ x => x))
                    clear hcells4 hy
                    obtain ⟨Wm41, hWm41⟩ : ∃ W, Wu.alloc (.cells #[.int .i64 0, .int .i64 0, .int .i64 0, .int .u64 0, .int .u64 0, .int .i64 0, .int .u64 0, .int .u64 0, .int .i64 0, .int .i64 0, .int .i64 0, .int .u32 0, .int .u32 0, .int .u32 0, .int .u32 0, .bool false, .bool false, .bool false, .bool false, .int .i64 0, .int .i64 0, .bool false] 33) = W := ⟨_, rfl⟩
                    have bm41 := bel_al bu hWm41
                    have Am41 := Au.al hWm41
                    have Xm41 := Xu.al hWm41
                    have Qm41 := Qu.al hWm41
                    have Bm41 := blk_nw hWm41
                    have gB : w.heap.size ≤ Wu.heap.size := bu.size
                    have nAB : Wv.heap.size ≠ Wu.heap.size := by have := Au.lt; omega
                    have nBA : Wu.heap.size ≠ Wv.heap.size := fun e => nAB e.symm
                    have nXB : tb ≠ Wu.heap.size ∧ mb ≠ Wu.heap.size := by have := Xu.lt; omega
                    have nQB : (fun _ => False) Wu.heap.size ∨ Wm33.heap.size ≤ Wu.heap.size := .inr Qu.size
                    obtain ⟨Wm42, hWm42⟩ : ∃ W, Wm41.setRow Wu.heap.size y.v = W := ⟨_, rfl⟩
                    have Bm42 : Blk Wm42 Wu.heap.size 33 y.v := hWm42 ▸ Bm41.set y.v
                    have Am42 := hWm42 ▸ Am41.other nAB y.v
                    have Xm42 := hWm42 ▸ Xm41.other nXB y.v
                    have Qm42 := hWm42 ▸ Qm41.other nQB y.v
                    have bm42 := hWm42 ▸ below_setRow bm41 gB y.v
                    go_wp2_with (first | (refine wpList_load_at_w (by rfl) _ _ rfl p2 (off2 + i2 * 22) (by rfl) _ hcy Try.underlying33 (by kernel_rfl) ?_) | (refine wpList_store_row rfl _ _ _ rfl Wu.heap.size y.v (by rfl) (by rfl) _ _ Bm41 (by kernel_rfl) (by rfl) (by kernel_rfl) ?_; rw [hWm42]))
                    obtain ⟨Wdq43, hWdq43⟩ : ∃ W, Wm42.drew = W := ⟨_, rfl⟩
                    have Adq43 := hWdq43 ▸ Am42.drew
                    have Xdq43 := hWdq43 ▸ Xm42.drew
                    have Qdq43 := hWdq43 ▸ Qm42.drew
                    have Bdq43 := hWdq43 ▸ Bm42.drew
                    have bdq43 := hWdq43 ▸ bm42.drew
                    refine wp_region_noPanic ?_
                    refine wp_region_held_drew (S := fun w' => Blk w' Wv.heap.size 33 x.v ∧ TabX w' tb mb s1 ∧ But (fun _ => False) Wm33 w' ∧ Blk w' Wu.heap.size 33 y.v) (by kernel_rfl) (by rw [hWdq43]; exact ⟨Adq43, Xdq43, Qdq43, Bdq43⟩) (fun hHeld => ?_)
                    rw [hWdq43] at hHeld ⊢
                    refine wpAnyH_take (i := 0) (oi := fxb12o25) (v := (.pointer (some ⟨Wu.heap.size, 0, none⟩))) rfl (by kernel_rfl) (by kernel_rfl) (by kernel_rfl) (fun _ _ _ h => h) (Or.inl ⟨by rfl, ?_⟩) hHeld ?_
                    · intro w9 hSw
                      try dsimp only at hSw
                      go_simp
                    try simp only [Act.put, List.setIfInBounds_toArray, List.set_cons_zero, List.set_cons_succ]
                    refine wpAnyH_take (i := 1) (oi := fxb12o24) (v := (.agg y.w.v)) rfl (by kernel_rfl) (by kernel_rfl) (by kernel_rfl) (fun _ _ _ h => h) (yieldsIf_sub_w (by kernel_rfl) _ _ rfl Wu.heap.size 0 _ (by rfl) _ y.w.v (fun _ hSw => hSw.2.2.2) (by rfl) Try.underlying26 (by kernel_rfl)) hHeld ?_
                    try simp only [Act.put, List.setIfInBounds_toArray, List.set_cons_zero, List.set_cons_succ]
                    refine wpAnyH_take (i := 2) (oi := fxb12o26) (v := (.pointer (some ⟨Wv.heap.size, 0, none⟩))) rfl (by kernel_rfl) (by kernel_rfl) (by kernel_rfl) (fun _ _ _ h => h) (Or.inl ⟨by rfl, ?_⟩) hHeld ?_
                    · intro w9 hSw
                      try dsimp only at hSw
                      go_simp
                    try simp only [Act.put, List.setIfInBounds_toArray, List.set_cons_zero, List.set_cons_succ]
                    refine wpAnyH_take (i := 3) (oi := fxb12o23) (v := (.agg x.w.v)) rfl (by kernel_rfl) (by kernel_rfl) (by kernel_rfl) (fun _ _ _ h => h) (yieldsIf_sub_w (by kernel_rfl) _ _ rfl Wv.heap.size 0 _ (by rfl) _ x.w.v (fun _ hSw => hSw.1) (by rfl) Try.underlying26 (by kernel_rfl)) hHeld ?_
                    try simp only [Act.put, List.setIfInBounds_toArray, List.set_cons_zero, List.set_cons_succ]
                    refine wpAnyH_ready (rs := [4]) (by kernel_rfl) (by simp) ?_
                    refine AllReadyH.cons (o := fxb12o19) rfl (fun K hK => ?_) AllReadyH.nil
                    go_simp
                    refine Calls.mono (rrev_t x.w _) ?_
                    rintro e Wx44 ⟨rfl, bb⟩
                    have Ax44 := Adq43.kept bb
                    have Xx44 := Xdq43.kept bb
                    have Qx44 := Qdq43.kept bb
                    have Bx44 := Bdq43.kept bb
                    have bx44 := bel_tr bdq43 bb
                    clear bb
                    refine hK.out _ _ (by exact ⟨Ax44, Xx44, Qx44, Bx44⟩) (fun hHeld => ?_)
                    clear hK K
                    try simp only [Act.put, List.setIfInBounds_toArray, List.set_cons_zero, List.set_cons_succ]
                    refine wpAnyH_take (i := 5) (oi := fxb12o22) (v := (.bool (Wy.eqB y.w (x.w.rev)))) rfl (by kernel_rfl) (by kernel_rfl) (by kernel_rfl) (fun _ _ _ h => h) (Or.inl ⟨by rfl, ?_⟩) hHeld ?_
                    · intro w9 hSw
                      try dsimp only at hSw
                      have hcc := eql_way y.w (x.w.rev)
                      go_simp
                    try simp only [Act.put, List.setIfInBounds_toArray, List.set_cons_zero, List.set_cons_succ]
                    refine wpAnyH_done (by kernel_rfl) ?_ _
                    refine NoPanic.normal ?_
                    cases hq45 : (Wy.eqB y.w (x.w.rev)) with
                    | false =>
                      go_wp2_with fail
                      exact ⟨⟨i2 + 1, by omega, by go_num, Ax44, Xx44, Qx44, bx44⟩, by simp [intOf]; omega⟩

                    | true =>
                      go_wp2_with fail
                      exact absurd hap (by rw [(by assumption : Wy.eqB y.w (x.w.rev) = true)]; decide)


                  · have iki : ¬ (i2 : Int) < (k : Int) := by omega
                    have iki' : decide ((i2 : Int) < (k : Int)) = false := by simpa using iki
                    go_wp2_with fail
                    exact ⟨⟨k + 1, by omega, by go_num, Xu, Qu, bu⟩, by simp [intOf]; omega⟩

              · have hk0' : decide ((0 : Int) < (k : Int)) = false := by simpa using hk0
                have hk2 : ¬ (0 : Int) < (k : Int) := by omega
                obtain ⟨Wm46, hWm46⟩ : ∃ W, Wv.alloc (.cells #[.int .i64 0, .int .i64 0, .int .i64 0, .int .u64 0, .int .u64 0, .int .i64 0, .int .u64 0, .int .u64 0, .int .i64 0, .int .i64 0, .int .i64 0, .int .u32 0, .int .u32 0, .int .u32 0, .int .u32 0, .bool false, .bool false, .bool false, .bool false, .int .i64 0, .int .i64 0, .bool false] 33) = W := ⟨_, rfl⟩
                have bm46 := bel_al bv hWm46
                have Xm46 := Xv.al hWm46
                have Qm46 := Qv.al hWm46
                have Am46 := blk_nw hWm46
                have gA : w.heap.size ≤ Wv.heap.size := bv.size
                have nXA : tb ≠ Wv.heap.size ∧ mb ≠ Wv.heap.size := by have := Xv.lt; omega
                have nQA : (fun _ => False) Wv.heap.size ∨ Wm33.heap.size ≤ Wv.heap.size := .inr Qv.size
                obtain ⟨Wm47, hWm47⟩ : ∃ W, Wm46.setRow Wv.heap.size x.v = W := ⟨_, rfl⟩
                have Am47 : Blk Wm47 Wv.heap.size 33 x.v := hWm47 ▸ Am46.set x.v
                have Xm47 := hWm47 ▸ Xm46.other nXA x.v
                have Qm47 := hWm47 ▸ Qm46.other nQA x.v
                have bm47 := hWm47 ▸ below_setRow bm46 gA x.v
                go_wp2_with (first | (refine wpList_load_at_w (by rfl) _ _ rfl p2 (off2 + k * 22) (by rfl) _ hcb Try.underlying33 (by kernel_rfl) ?_) | (refine wpList_store_row rfl _ _ _ rfl Wv.heap.size x.v (by rfl) (by rfl) _ _ Am46 (by kernel_rfl) (by rfl) (by kernel_rfl) ?_; rw [hWm47]))
                obtain ⟨Wdq48, hWdq48⟩ : ∃ W, Wm47.drew = W := ⟨_, rfl⟩
                have Xdq48 := hWdq48 ▸ Xm47.drew
                have Qdq48 := hWdq48 ▸ Qm47.drew
                have Adq48 := hWdq48 ▸ Am47.drew
                have bdq48 := hWdq48 ▸ bm47.drew
                refine wp_region_noPanic ?_
                refine wp_region_held_drew (S := fun w' => TabX w' tb mb s1 ∧ But (fun _ => False) Wm33 w' ∧ Blk w' Wv.heap.size 33 x.v) (by kernel_rfl) (by rw [hWdq48]; exact ⟨Xdq48, Qdq48, Adq48⟩) (fun hHeld => ?_)
                rw [hWdq48] at hHeld ⊢
                refine wpAnyH_take (i := 0) (oi := fxb12o20) (v := (.pointer (some ⟨Wv.heap.size, 19, none⟩))) rfl (by kernel_rfl) (by kernel_rfl) (by kernel_rfl) (fun _ _ _ h => h) (Or.inl ⟨by rfl, ?_⟩) hHeld ?_
                · intro w9 hSw
                  try dsimp only at hSw
                  go_simp
                try simp only [Act.put, List.setIfInBounds_toArray, List.set_cons_zero, List.set_cons_succ]
                refine wpAnyH_take (i := 1) (oi := fxb12o18) (v := (.int .i64 x.ends)) rfl (by kernel_rfl) (by kernel_rfl) (by kernel_rfl) (fun _ _ _ h => h) (Or.inl ⟨by rfl, ?_⟩) hHeld ?_
                · intro w9 hSw
                  try dsimp only at hSw
                  have hcc := hSw.2.2.cell 19 (.int .i64 x.ends) rfl
                  go_simp
                try simp only [Act.put, List.setIfInBounds_toArray, List.set_cons_zero, List.set_cons_succ]
                refine wpAnyH_take (i := 2) (oi := fxb12o21) (v := (.pointer (some ⟨tb, 0, none⟩))) rfl (by kernel_rfl) (by kernel_rfl) (by kernel_rfl) (fun _ _ _ h => h) (Or.inl ⟨by rfl, ?_⟩) hHeld ?_
                · intro w9 hSw
                  try dsimp only at hSw
                  go_simp
                try simp only [Act.put, List.setIfInBounds_toArray, List.set_cons_zero, List.set_cons_succ]
                refine wpAnyH_ready (rs := [3]) (by kernel_rfl) (by simp) ?_
                refine AllReadyH.cons (o := fxb12o2) rfl (fun K hK => ?_) AllReadyH.nil
                go_simp
                refine Calls.mono (nowX tb mb s1 _ Xdq48) ?_
                rintro e Wx49 ⟨rfl, bb⟩
                have Xx49 := Xdq48.kept bb
                have Qx49 := Qdq48.kept bb
                have Ax49 := Adq48.kept bb
                have bx49 := bel_tr bdq48 bb
                clear bb
                refine hK.out _ _ (by exact ⟨Xx49, Qx49, Ax49⟩) (fun hHeld => ?_)
                clear hK K
                try simp only [Act.put, List.setIfInBounds_toArray, List.set_cons_zero, List.set_cons_succ]
                refine wpAnyH_take (i := 4) (oi := fxb12o8) (v := (.bool (decide (x.ends ≤ s1.now)))) rfl (by kernel_rfl) (by kernel_rfl) (by kernel_rfl) (fun _ _ _ h => h) (Or.inl ⟨by rfl, ?_⟩) hHeld ?_
                · intro w9 hSw
                  try dsimp only at hSw
                  go_simp
                try simp only [Act.put, List.setIfInBounds_toArray, List.set_cons_zero, List.set_cons_succ]
                refine wpAnyH_take (i := 5) (oi := fxb12o13) (v := (.bool false)) rfl (by kernel_rfl) (by kernel_rfl) (by kernel_rfl) (fun _ _ _ h => h) (Or.inl ⟨by rfl, ?_⟩) hHeld ?_
                · intro w9 hSw
                  try dsimp only at hSw
                  go_simp
                try simp only [Act.put, List.setIfInBounds_toArray, List.set_cons_zero, List.set_cons_succ]
                refine wpAnyH_take (i := 6) (oi := fxb12o16) (v := (.int .i64 (k : Int))) rfl (by kernel_rfl) (by kernel_rfl) (by kernel_rfl) (fun _ _ _ h => h) (Or.inl ⟨by rfl, ?_⟩) hHeld ?_
                · intro w9 hSw
                  try dsimp only at hSw
                  go_simp
                try simp only [Act.put, List.setIfInBounds_toArray, List.set_cons_zero, List.set_cons_succ]
                refine wpAnyH_take (i := 7) (oi := fxb12o4) (v := (.bool (decide (0 < (k : Int))))) rfl (by kernel_rfl) (by kernel_rfl) (by kernel_rfl) (fun _ _ _ h => h) (Or.inl ⟨by rfl, ?_⟩) hHeld ?_
                · intro w9 hSw
                  try dsimp only at hSw
                  go_simp
                try simp only [Act.put, List.setIfInBounds_toArray, List.set_cons_zero, List.set_cons_succ]
                refine wpAnyH_take (i := 8) (oi := fxb12o7) (v := (.bool false)) rfl (by kernel_rfl) (by kernel_rfl) (by kernel_rfl) (fun _ _ _ h => h) (Or.inl ⟨by rfl, ?_⟩) hHeld ?_
                · intro w9 hSw
                  try dsimp only at hSw
                  go_simp
                try simp only [Act.put, List.setIfInBounds_toArray, List.set_cons_zero, List.set_cons_succ]
                refine wpAnyH_take (i := 9) (oi := fxb12o15) (v := undef) rfl (by kernel_rfl) (by kernel_rfl) (by kernel_rfl) (fun _ _ _ h => h) (Or.inr ⟨by rfl, rfl⟩) hHeld ?_
                try simp only [Act.put, List.setIfInBounds_toArray, List.set_cons_zero, List.set_cons_succ]
                refine wpAnyH_take (i := 10) (oi := fxb12o17) (v := undef) rfl (by kernel_rfl) (by kernel_rfl) (by kernel_rfl) (fun _ _ _ h => h) (Or.inr ⟨by rfl, rfl⟩) hHeld ?_
                try simp only [Act.put, List.setIfInBounds_toArray, List.set_cons_zero, List.set_cons_succ]
                refine wpAnyH_take (i := 11) (oi := fxb12o6) (v := undef) rfl (by kernel_rfl) (by kernel_rfl) (by kernel_rfl) (fun _ _ _ h => h) (Or.inr ⟨by rfl, rfl⟩) hHeld ?_
                try simp only [Act.put, List.setIfInBounds_toArray, List.set_cons_zero, List.set_cons_succ]
                refine wpAnyH_take (i := 12) (oi := fxb12o3) (v := undef) rfl (by kernel_rfl) (by kernel_rfl) (by kernel_rfl) (fun _ _ _ h => h) (Or.inr ⟨by rfl, rfl⟩) hHeld ?_
                try simp only [Act.put, List.setIfInBounds_toArray, List.set_cons_zero, List.set_cons_succ]
                refine wpAnyH_take (i := 13) (oi := fxb12o12) (v := undef) rfl (by kernel_rfl) (by kernel_rfl) (by kernel_rfl) (fun _ _ _ h => h) (Or.inr ⟨by rfl, rfl⟩) hHeld ?_
                try simp only [Act.put, List.setIfInBounds_toArray, List.set_cons_zero, List.set_cons_succ]
                refine wpAnyH_take (i := 14) (oi := fxb12o10) (v := undef) rfl (by kernel_rfl) (by kernel_rfl) (by kernel_rfl) (fun _ _ _ h => h) (Or.inr ⟨by rfl, rfl⟩) hHeld ?_
                try simp only [Act.put, List.setIfInBounds_toArray, List.set_cons_zero, List.set_cons_succ]
                refine wpAnyH_take (i := 15) (oi := fxb12o14) (v := undef) rfl (by kernel_rfl) (by kernel_rfl) (by kernel_rfl) (fun _ _ _ h => h) (Or.inr ⟨by rfl, rfl⟩) hHeld ?_
                try simp only [Act.put, List.setIfInBounds_toArray, List.set_cons_zero, List.set_cons_succ]
                refine wpAnyH_take (i := 16) (oi := fxb12o11) (v := undef) rfl (by kernel_rfl) (by kernel_rfl) (by kernel_rfl) (fun _ _ _ h => h) (Or.inr ⟨by rfl, rfl⟩) hHeld ?_
                try simp only [Act.put, List.setIfInBounds_toArray, List.set_cons_zero, List.set_cons_succ]
                refine wpAnyH_take (i := 17) (oi := fxb12o0) (v := undef) rfl (by kernel_rfl) (by kernel_rfl) (by kernel_rfl) (fun _ _ _ h => h) (Or.inr ⟨by rfl, rfl⟩) hHeld ?_
                try simp only [Act.put, List.setIfInBounds_toArray, List.set_cons_zero, List.set_cons_succ]
                refine wpAnyH_take (i := 18) (oi := fxb12o5) (v := undef) rfl (by kernel_rfl) (by kernel_rfl) (by kernel_rfl) (fun _ _ _ h => h) (Or.inr ⟨by rfl, rfl⟩) hHeld ?_
                try simp only [Act.put, List.setIfInBounds_toArray, List.set_cons_zero, List.set_cons_succ]
                refine wpAnyH_take (i := 19) (oi := fxb12o1) (v := (.bool false)) rfl (by kernel_rfl) (by kernel_rfl) (by kernel_rfl) (fun _ _ _ h => h) (Or.inl ⟨by rfl, ?_⟩) hHeld ?_
                · intro w9 hSw
                  try dsimp only at hSw
                  go_simp
                try simp only [Act.put, List.setIfInBounds_toArray, List.set_cons_zero, List.set_cons_succ]
                refine wpAnyH_take (i := 20) (oi := fxb12o9) (v := (.bool false)) rfl (by kernel_rfl) (by kernel_rfl) (by kernel_rfl) (fun _ _ _ h => h) (Or.inl ⟨by rfl, ?_⟩) hHeld ?_
                · intro w9 hSw
                  try dsimp only at hSw
                  go_simp
                try simp only [Act.put, List.setIfInBounds_toArray, List.set_cons_zero, List.set_cons_succ]
                refine wpAnyH_done (by kernel_rfl) ?_ _
                refine NoPanic.normal ?_
                go_wp2_with fail
                go_loopw [93] (fun i wr => ∃ i2 : Nat, i2 ≤ k ∧ i = .int .i64 i2 ∧ Blk wr Wv.heap.size 33 x.v ∧ TabX wr tb mb s1 ∧ But (fun _ => False) Wm33 wr ∧ Below w.heap.size w wr) (fun i _ => k - (intOf i).toNat)
                case atStart => exact ⟨0, Nat.zero_le _, rfl, Ax49, Xx49, Qx49, bx49⟩
                case round =>
                  obtain ⟨i2, hi2, rfl, Au, Xu, Qu, bu⟩ := hrel
                  obtain ⟨Wu, rfl⟩ : ∃ W, W = wr := ⟨_, rfl⟩
                  have in0i : (0 : Int) ≤ (i2 : Int) := by omega
                  by_cases hlti : i2 < k
                  · have iki : (i2 : Int) < (k : Int) := by omega
                    have iki' : decide ((i2 : Int) < (k : Int)) = true := by simpa using iki
                    obtain ⟨y, hy⟩ : ∃ x, s1.L[i2]? = some x := ⟨_, List.getElem?_eq_getElem (by rw [HM.out]; omega)⟩
                    have hap : Wy.eqB y.w (x.w.rev) = false := ft_apart HOK1.out HX.out hy hlti
                    obtain ⟨p4, off4, e4, hcells4⟩ := HRW.out.cells i2 y hy
                    cases e4
                    have hcy := hcells4.below (Qu.to_below (Nat.le_refl _) (fun _ _ x => x))
                    clear hcells4 hy
                    exact absurd hlti (by omega)

                  · have iki : ¬ (i2 : Int) < (k : Int) := by omega
                    have iki' : decide ((i2 : Int) < (k : Int)) = false := by simpa using iki
                    go_wp2_with fail
                    exact ⟨⟨k + 1, by omega, by go_num, Xu, Qu, bu⟩, by simp [intOf]; omega⟩

            · have ikk : ¬ (k : Int) < (M : Int) := by omega
              have ikk' : decide ((k : Int) < (M : Int)) = false := by simpa using ikk
              go_wp2_with fail
              exact ⟨⟨j + 1, s1, by omega, by go_num, hI1, Xv, bv⟩, by simp [intOf]; omega⟩


      · have ik : ¬ (j : Int) < (N : Int) := by omega
        have ik' : decide ((j : Int) < (N : Int)) = false := by simpa using ik
        go_wp2_with fail
        go_ret
        exact ⟨rfl, br⟩
  · go_enter Try.func7, Try.ntmps7
    go_wp2_with fail
    refine Calls.mono (new_n_fw m hc _) ?_
    rintro e Wm50 ⟨rfl, bb⟩
    have bm50 := bel_tr b bb
    clear bb
    go_wp2_with fail
    refine Calls.mono (alive_fw _) ?_
    rintro e Wm51 ⟨rfl, bb⟩
    have bm51 := bel_tr bm50 bb
    clear bb
    clear  bm50
    go_wp2_with fail
    go_ret
    exact ⟨rfl, bm51⟩
end Go.Proofs.Ytfiembbmgdmagaa
