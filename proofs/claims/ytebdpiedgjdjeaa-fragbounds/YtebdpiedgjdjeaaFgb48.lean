/- Texts joined: FragBoundsWalk -/
import Derived.Test.YtebdpiedgjdjeaaFgb46
import Derived.Test.YtebdpiedgjdjeaaFgb47
namespace Go.Proofs.Ytebdpiedgjdjeaa
abbrev fgb48o0 : Oper := { dst := some 60, op := Op.call { callee := Callee.value (.func 20), args := #[.tmp 59], argTypes := #[25] }, type := 3, pos := "law.go:78", after := #[{ on := 13, ground := Ground.data }, { on := 12, ground := Ground.chain }, { on := 12, ground := Ground.guard }], guard := some (12, false) }
abbrev fgb48o1 : Oper := { dst := some 65, op := Op.call { callee := Callee.value (.func 21), args := #[.tmp 64], argTypes := #[25] }, type := 3, pos := "law.go:78", after := #[{ on := 18, ground := Ground.data }, { on := 17, ground := Ground.chain }, { on := 17, ground := Ground.guard }], guard := some (17, false) }
abbrev fgb48o2 : Oper := { dst := some 53, op := Op.call { callee := Callee.value (.func 21), args := #[.tmp 52], argTypes := #[25] }, type := 3, pos := "law.go:78", after := #[{ on := 6, ground := Ground.data }, { on := 5, ground := Ground.chain }, { on := 5, ground := Ground.guard }], guard := some (5, false) }
abbrev fgb48o3 : Oper := { dst := some 56, op := Op.binOp BinOp.gtr 3 (.tmp 53) (.tmp 55) 3, type := 4, pos := "law.go:78", after := #[{ on := 7, ground := Ground.data }, { on := 9, ground := Ground.data }, { on := 5, ground := Ground.guard }], guard := some (5, false) }
abbrev fgb48o4 : Oper := { dst := some 47, op := Op.call { callee := Callee.value (.func 20), args := #[.tmp 46], argTypes := #[25] }, type := 3, pos := "law.go:78", after := #[{ on := 0, ground := Ground.data }], guard := none }
abbrev fgb48o5 : Oper := { dst := some 61, op := Op.binOp BinOp.lss 3 (.tmp 60) (.const (.int .i64 0)) 3, type := 4, pos := "law.go:78", after := #[{ on := 14, ground := Ground.data }, { on := 12, ground := Ground.guard }], guard := some (12, false) }
abbrev fgb48o6 : Oper := { dst := some 66, op := Op.binOp BinOp.lss 3 (.tmp 65) (.const (.int .i64 0)) 3, type := 4, pos := "law.go:78", after := #[{ on := 19, ground := Ground.data }, { on := 17, ground := Ground.guard }], guard := some (17, false) }
abbrev fgb48o7 : Oper := { dst := some 50, op := Op.binOp BinOp.gtr 3 (.tmp 47) (.tmp 49) 3, type := 4, pos := "law.go:78", after := #[{ on := 1, ground := Ground.data }, { on := 3, ground := Ground.data }], guard := none }
abbrev fgb48o8 : Oper := { dst := some 62, op := Op.pick (.tmp 58) (.const (.bool true)) (.tmp 61), type := 4, pos := "law.go:78", after := #[{ on := 12, ground := Ground.data }, { on := 15, ground := Ground.data }], guard := none }
abbrev fgb48o9 : Oper := { dst := some 67, op := Op.pick (.tmp 63) (.const (.bool true)) (.tmp 66), type := 4, pos := "law.go:78", after := #[{ on := 17, ground := Ground.data }, { on := 20, ground := Ground.data }], guard := none }
abbrev fgb48o10 : Oper := { dst := some 57, op := Op.pick (.tmp 51) (.const (.bool true)) (.tmp 56), type := 4, pos := "law.go:78", after := #[{ on := 5, ground := Ground.data }, { on := 10, ground := Ground.data }], guard := none }
abbrev fgb48o11 : Oper := { dst := some 55, op := Op.load 3 (.tmp 54), type := 3, pos := "law.go:78", after := #[{ on := 8, ground := Ground.data }, { on := 5, ground := Ground.guard }], guard := some (5, false) }
abbrev fgb48o12 : Oper := { dst := some 63, op := Op.move (.tmp 62), type := 4, pos := "law.go:78", after := #[{ on := 16, ground := Ground.data }, { on := 14, ground := Ground.chain }], guard := none }
abbrev fgb48o13 : Oper := { dst := some 58, op := Op.move (.tmp 57), type := 4, pos := "law.go:78", after := #[{ on := 11, ground := Ground.data }, { on := 7, ground := Ground.chain }], guard := none }
abbrev fgb48o14 : Oper := { dst := some 51, op := Op.move (.tmp 50), type := 4, pos := "law.go:78", after := #[{ on := 4, ground := Ground.data }, { on := 1, ground := Ground.chain }], guard := none }
abbrev fgb48o15 : Oper := { dst := some 54, op := Op.fieldAddr 23 (.tmp 2) 1, type := 0, pos := "law.go:78", after := #[{ on := 5, ground := Ground.guard }], guard := some (5, false) }
abbrev fgb48o16 : Oper := { dst := some 59, op := Op.move (.tmp 5), type := 25, pos := "law.go:78", after := #[{ on := 12, ground := Ground.guard }], guard := some (12, false) }
abbrev fgb48o17 : Oper := { dst := some 64, op := Op.move (.tmp 5), type := 25, pos := "law.go:78", after := #[{ on := 17, ground := Ground.guard }], guard := some (17, false) }
abbrev fgb48o18 : Oper := { dst := some 52, op := Op.move (.tmp 5), type := 25, pos := "law.go:78", after := #[{ on := 5, ground := Ground.guard }], guard := some (5, false) }
abbrev fgb48o19 : Oper := { dst := some 49, op := Op.load 3 (.tmp 48), type := 3, pos := "law.go:78", after := #[{ on := 2, ground := Ground.data }], guard := none }
abbrev fgb48o20 : Oper := { dst := some 48, op := Op.fieldAddr 23 (.tmp 2) 0, type := 0, pos := "law.go:78", after := #[], guard := none }
abbrev fgb48o21 : Oper := { dst := some 46, op := Op.move (.tmp 5), type := 25, pos := "law.go:78", after := #[], guard := none }
end Go.Proofs.Ytebdpiedgjdjeaa
namespace Go.Proofs.Ytebdpiedgjdjeaa
open Go.RowKit
set_option linter.unusedVariables false
set_option linter.unusedSimpArgs false
set_option maxRecDepth 100000 in
set_option maxHeartbeats 4000000 in
theorem fragBounds_walk (gr by_ lf : Int) (a : Option Addr) (c : Nat) (l : List Ac6) (w : World) (hlc : l.length ≤ c) (hcm : c ≤ 17592186044416) (hrow : RowN 17 Ac6.v Ac6.ok w a l) :
    Calls Try.prog 4 #[.agg #[.int .i64 gr, .int .i64 by_, .int .i64 lf], .slice a l.length c] w fun e w' => e = .returned (.bool true) ∧ Below w.heap.size w w' := by
  obtain ⟨W1, hW1⟩ : ∃ W, w.alloc (.cells #[.int .i64 gr, .int .i64 by_, .int .i64 lf] 23) = W := ⟨_, rfl⟩
  have b1 := bel_nw hW1
  have C1 := blk_nw hW1
  have d0 := C1.cell 0 (.int .i64 gr) rfl
  have d1 := C1.cell 1 (.int .i64 by_) rfl
  have d2 := C1.cell 2 (.int .i64 lf) rfl
  have HR : Hid (RowN 17 Ac6.v Ac6.ok w a l) := hrow
  clear hrow
  by_cases hc : capsOk gr by_ lf
  · have KN : Hid _ := tabB_new gr by_ lf W1 hc
    have HC : Hid (capsOk gr by_ lf) := hc
    clear hc
    go_enter Try.func4, Try.ntmps4
    go_wp2_with fail
    refine Calls.mono KN.out ?_
    rintro e W2 ⟨tb, mb, rfl, T2⟩
    have KA : Hid _ := falive_any W2
    clear KN d2
    go_wp2_with fail
    refine Calls.mono KA.out ?_
    rintro e W3 ⟨rfl, b3⟩
    have T3 := T2.below b3
    clear KA T2 b3 d0 d1
    have HT3 : Hid _ := T3
    clear T3
    go_wp2
    go_loopw [32] (fun i wr => ∃ j : Nat, j ≤ l.length ∧ i = .int .i64 j ∧ ∃ s, Hid (TabB W1.heap.size W1 wr tb mb s) ∧ Hid (s.most = gr ∧ s.room = by_)) (fun i _ => l.length - (intOf i).toNat)
    case atStart => exact ⟨0, by omega, rfl, _, HT3.out, ⟨rfl, rfl⟩⟩
    case round =>
      obtain ⟨j, hj, rfl, s, hT, hs⟩ := hrel
      clear HT3
      by_cases hlt : j < l.length
      · have i1 : (↑j : Int) < ↑l.length := by omega
        have i0 : (0 : Int) ≤ ↑j := by omega
        obtain ⟨q, hq⟩ : ∃ q, l[j]? = some q := ⟨_, List.getElem?_eq_getElem hlt⟩
        have bw : Hid (Below w.heap.size w wr) := b1.trans (hT.out.bel.mono b1.size)
        obtain ⟨ab, ao, rfl, hcells⟩ := HR.out.cells j q hq
        have hqok := (HR.out.each q (List.mem_of_getElem? hq)).below bw.out
        have hcw := hcells.below bw.out
        have cl := hcells.1
        clear hcells
        obtain ⟨Wa, hWa⟩ : ∃ W, wr.alloc (.cells #[.bool false, .int .i64 0, .int .i64 0, .int .i64 0, .int .u64 0, .int .u64 0, .int .i64 0, .int .u64 0, .int .u64 0, .int .i64 0, .int .i64 0, .bool false, .int .u32 0, .int .i64 0, .bool false, .slice none 0 0, .slice none 0 0] 44) = W := ⟨_, rfl⟩
        have Ba := blk_nw hWa
        have ka := bel_nw hWa
        obtain ⟨Wb, hWb⟩ : ∃ W, Wa.setRow wr.heap.size q.v = W := ⟨_, rfl⟩
        have Bb : Blk Wb wr.heap.size 44 q.v := by rw [← hWb]; exact Ba.set q.v
        have kb : Below wr.heap.size wr Wb := by rw [← hWb]; exact below_setRow ka (Nat.le_refl _) q.v
        have HWb : Hid _ := hWb
        have Tb := hT.out.below kb
        have hqb := hqok.below kb
        have c0 := Bb.cell 0 (.bool q.tk) rfl
        have c1 := Bb.cell 1 (.int .i64 q.nw) rfl
        clear hWb
        have hca : CellsAt wr ab (ao + j * 17) q.v := hcw
        have KP : Hid _ := Tb.put q.q.p q.q.xa q.q.xc q.q.da q.q.dc hqb.q.p hqb.q.data hqb.q.dnil hqb.q.exts hqb.q.xnil
        have KT : Hid _ := Tb.tick q.nw
        have C0 : Hid (Blk W1 w.heap.size 23 #[.int .i64 gr, .int .i64 by_, .int .i64 lf]) := C1
        clear hcw hqok hqb ka Tb
        cases htk : q.tk
        · rw [htk] at c0
          go_wp2_with (first
            | (refine wpList_load_at rfl _ _ rfl ab (ao + j * 17) (by rfl) _ hca Try.underlying44 (by kernel_rfl) ?_)
            | (refine wpList_store_row rfl _ _ _ rfl wr.heap.size q.v (by rfl) (by rfl) _ _ Ba (by kernel_rfl) (by rfl) (by kernel_rfl) ?_; rw [HWb.out])
            | (refine wpList_load_sub rfl _ _ rfl wr.heap.size 2 44 (by rfl) _ q.q.v Bb (by rfl) Try.underlying42 (by kernel_rfl) ?_))
          refine Calls.mono KP.out ?_
          rintro e W4 ⟨xa', xc', da', dc', rfl, T4, _⟩
          have S4 : (putF s q.q.p).1.most = gr ∧ (putF s q.q.p).1.room = by_ := ⟨(putF_caps s q.q.p).1.trans hs.out.1, (putF_caps s q.q.p).2.1.trans hs.out.2⟩
          generalize (putF s q.q.p).1 = s4 at T4 S4
          clear KP KT c0 c1 Bb Ba hca HWb
          have C4 := C0.out.below T4.bel C1.lt
          have ok4 := T4.ok
          have g1 : ¬ ((s4.E.length : Int) > gr) := by have := ok4.few; rw [S4.1] at this; omega
          have g2 : ¬ (s4.by_ > by_) := by have := ok4.bytes; rw [S4.2] at this; omega
          have g3 : ¬ ((s4.E.length : Int) < 0) := by omega
          have g4 : ¬ (s4.by_ < 0) := by have := ok4.by_nonneg; omega
          have HS4 : Hid _ := S4
          clear ok4 S4
          go_wp2_with fail
          have Cd := C4.drew
          have Td : TabB W1.heap.size W1 W4.drew tb mb s4 := T4.below (Below.refl _ _).drew
          refine wp_region_noPanic ?_
          refine wp_region_held_drew (S := fun w' => Blk w' w.heap.size 23 #[.int .i64 gr, .int .i64 by_, .int .i64 lf]) (by kernel_rfl) (by exact Cd) (fun hHeld => ?_)
          generalize W4.drew = V at Cd Td hHeld ⊢
          clear C4 T4
          refine wpAnyH_take (i := 0) (oi := fgb48o21) (v := (.pointer (some ⟨tb, 0, none⟩))) rfl (by kernel_rfl) (by kernel_rfl) (by kernel_rfl) (fun _ _ _ h => h) (Or.inl ⟨by rfl, ?_⟩) hHeld ?_
          · intro w9 hSw
            try dsimp only at hSw
            go_simp
          try simp only [Act.put, List.setIfInBounds_toArray, List.set_cons_zero, List.set_cons_succ]
          refine wpAnyH_take (i := 2) (oi := fgb48o20) (v := (.pointer (some ⟨w.heap.size, 0, none⟩))) rfl (by kernel_rfl) (by kernel_rfl) (by kernel_rfl) (fun _ _ _ h => h) (Or.inl ⟨by rfl, ?_⟩) hHeld ?_
          · intro w9 hSw
            try dsimp only at hSw
            go_simp
          try simp only [Act.put, List.setIfInBounds_toArray, List.set_cons_zero, List.set_cons_succ]
          refine wpAnyH_take (i := 3) (oi := fgb48o19) (v := (.int .i64 gr)) rfl (by kernel_rfl) (by kernel_rfl) (by kernel_rfl) (fun _ _ _ h => h) (Or.inl ⟨by rfl, ?_⟩) hHeld ?_
          · intro w9 hSw
            try dsimp only at hSw
            have q9 := hSw.cell 0 (.int .i64 gr) rfl
            go_simp
          try simp only [Act.put, List.setIfInBounds_toArray, List.set_cons_zero, List.set_cons_succ]
          refine wpAnyH_ready (rs := [1]) (by kernel_rfl) (by simp) ?_
          refine AllReadyH.cons (o := fgb48o4) rfl (fun K hK => ?_) AllReadyH.nil
          go_simp
          refine Calls.mono Td.grams ?_
          rintro e w' ⟨rfl, hw'⟩
          rw [hw']
          clear hw' w'
          refine hK.out _ _ (by exact Cd) (fun hHeld => ?_)
          clear hK K
          try simp only [Act.put, List.setIfInBounds_toArray, List.set_cons_zero, List.set_cons_succ]
          refine wpAnyH_take (i := 4) (oi := fgb48o7) (v := (.bool false)) rfl (by kernel_rfl) (by kernel_rfl) (by kernel_rfl) (fun _ _ _ h => h) (Or.inl ⟨by rfl, ?_⟩) hHeld ?_
          · intro w9 hSw
            try dsimp only at hSw
            go_simp
          try simp only [Act.put, List.setIfInBounds_toArray, List.set_cons_zero, List.set_cons_succ]
          refine wpAnyH_take (i := 5) (oi := fgb48o14) (v := (.bool false)) rfl (by kernel_rfl) (by kernel_rfl) (by kernel_rfl) (fun _ _ _ h => h) (Or.inl ⟨by rfl, ?_⟩) hHeld ?_
          · intro w9 hSw
            try dsimp only at hSw
            go_simp
          try simp only [Act.put, List.setIfInBounds_toArray, List.set_cons_zero, List.set_cons_succ]
          refine wpAnyH_take (i := 6) (oi := fgb48o18) (v := (.pointer (some ⟨tb, 0, none⟩))) rfl (by kernel_rfl) (by kernel_rfl) (by kernel_rfl) (fun _ _ _ h => h) (Or.inl ⟨by rfl, ?_⟩) hHeld ?_
          · intro w9 hSw
            try dsimp only at hSw
            go_simp
          try simp only [Act.put, List.setIfInBounds_toArray, List.set_cons_zero, List.set_cons_succ]
          refine wpAnyH_take (i := 8) (oi := fgb48o15) (v := (.pointer (some ⟨w.heap.size, 1, none⟩))) rfl (by kernel_rfl) (by kernel_rfl) (by kernel_rfl) (fun _ _ _ h => h) (Or.inl ⟨by rfl, ?_⟩) hHeld ?_
          · intro w9 hSw
            try dsimp only at hSw
            go_simp
          try simp only [Act.put, List.setIfInBounds_toArray, List.set_cons_zero, List.set_cons_succ]
          refine wpAnyH_take (i := 9) (oi := fgb48o11) (v := (.int .i64 by_)) rfl (by kernel_rfl) (by kernel_rfl) (by kernel_rfl) (fun _ _ _ h => h) (Or.inl ⟨by rfl, ?_⟩) hHeld ?_
          · intro w9 hSw
            try dsimp only at hSw
            have q9 := hSw.cell 1 (.int .i64 by_) rfl
            go_simp
          try simp only [Act.put, List.setIfInBounds_toArray, List.set_cons_zero, List.set_cons_succ]
          refine wpAnyH_ready (rs := [7]) (by kernel_rfl) (by simp) ?_
          refine AllReadyH.cons (o := fgb48o2) rfl (fun K hK => ?_) AllReadyH.nil
          go_simp
          refine Calls.mono Td.bytes ?_
          rintro e w' ⟨rfl, hw'⟩
          rw [hw']
          clear hw' w'
          refine hK.out _ _ (by exact Cd) (fun hHeld => ?_)
          clear hK K
          try simp only [Act.put, List.setIfInBounds_toArray, List.set_cons_zero, List.set_cons_succ]
          refine wpAnyH_take (i := 10) (oi := fgb48o3) (v := (.bool false)) rfl (by kernel_rfl) (by kernel_rfl) (by kernel_rfl) (fun _ _ _ h => h) (Or.inl ⟨by rfl, ?_⟩) hHeld ?_
          · intro w9 hSw
            try dsimp only at hSw
            go_simp
          try simp only [Act.put, List.setIfInBounds_toArray, List.set_cons_zero, List.set_cons_succ]
          refine wpAnyH_take (i := 11) (oi := fgb48o10) (v := (.bool false)) rfl (by kernel_rfl) (by kernel_rfl) (by kernel_rfl) (fun _ _ _ h => h) (Or.inl ⟨by rfl, ?_⟩) hHeld ?_
          · intro w9 hSw
            try dsimp only at hSw
            go_simp
          try simp only [Act.put, List.setIfInBounds_toArray, List.set_cons_zero, List.set_cons_succ]
          refine wpAnyH_take (i := 12) (oi := fgb48o13) (v := (.bool false)) rfl (by kernel_rfl) (by kernel_rfl) (by kernel_rfl) (fun _ _ _ h => h) (Or.inl ⟨by rfl, ?_⟩) hHeld ?_
          · intro w9 hSw
            try dsimp only at hSw
            go_simp
          try simp only [Act.put, List.setIfInBounds_toArray, List.set_cons_zero, List.set_cons_succ]
          refine wpAnyH_take (i := 13) (oi := fgb48o16) (v := (.pointer (some ⟨tb, 0, none⟩))) rfl (by kernel_rfl) (by kernel_rfl) (by kernel_rfl) (fun _ _ _ h => h) (Or.inl ⟨by rfl, ?_⟩) hHeld ?_
          · intro w9 hSw
            try dsimp only at hSw
            go_simp
          try simp only [Act.put, List.setIfInBounds_toArray, List.set_cons_zero, List.set_cons_succ]
          refine wpAnyH_ready (rs := [14]) (by kernel_rfl) (by simp) ?_
          refine AllReadyH.cons (o := fgb48o0) rfl (fun K hK => ?_) AllReadyH.nil
          go_simp
          refine Calls.mono Td.grams ?_
          rintro e w' ⟨rfl, hw'⟩
          rw [hw']
          clear hw' w'
          refine hK.out _ _ (by exact Cd) (fun hHeld => ?_)
          clear hK K
          try simp only [Act.put, List.setIfInBounds_toArray, List.set_cons_zero, List.set_cons_succ]
          refine wpAnyH_take (i := 15) (oi := fgb48o5) (v := (.bool false)) rfl (by kernel_rfl) (by kernel_rfl) (by kernel_rfl) (fun _ _ _ h => h) (Or.inl ⟨by rfl, ?_⟩) hHeld ?_
          · intro w9 hSw
            try dsimp only at hSw
            go_simp
          try simp only [Act.put, List.setIfInBounds_toArray, List.set_cons_zero, List.set_cons_succ]
          refine wpAnyH_take (i := 16) (oi := fgb48o8) (v := (.bool false)) rfl (by kernel_rfl) (by kernel_rfl) (by kernel_rfl) (fun _ _ _ h => h) (Or.inl ⟨by rfl, ?_⟩) hHeld ?_
          · intro w9 hSw
            try dsimp only at hSw
            go_simp
          try simp only [Act.put, List.setIfInBounds_toArray, List.set_cons_zero, List.set_cons_succ]
          refine wpAnyH_take (i := 17) (oi := fgb48o12) (v := (.bool false)) rfl (by kernel_rfl) (by kernel_rfl) (by kernel_rfl) (fun _ _ _ h => h) (Or.inl ⟨by rfl, ?_⟩) hHeld ?_
          · intro w9 hSw
            try dsimp only at hSw
            go_simp
          try simp only [Act.put, List.setIfInBounds_toArray, List.set_cons_zero, List.set_cons_succ]
          refine wpAnyH_take (i := 18) (oi := fgb48o17) (v := (.pointer (some ⟨tb, 0, none⟩))) rfl (by kernel_rfl) (by kernel_rfl) (by kernel_rfl) (fun _ _ _ h => h) (Or.inl ⟨by rfl, ?_⟩) hHeld ?_
          · intro w9 hSw
            try dsimp only at hSw
            go_simp
          try simp only [Act.put, List.setIfInBounds_toArray, List.set_cons_zero, List.set_cons_succ]
          refine wpAnyH_ready (rs := [19]) (by kernel_rfl) (by simp) ?_
          refine AllReadyH.cons (o := fgb48o1) rfl (fun K hK => ?_) AllReadyH.nil
          go_simp
          refine Calls.mono Td.bytes ?_
          rintro e w' ⟨rfl, hw'⟩
          rw [hw']
          clear hw' w'
          refine hK.out _ _ (by exact Cd) (fun hHeld => ?_)
          clear hK K
          try simp only [Act.put, List.setIfInBounds_toArray, List.set_cons_zero, List.set_cons_succ]
          refine wpAnyH_take (i := 20) (oi := fgb48o6) (v := (.bool false)) rfl (by kernel_rfl) (by kernel_rfl) (by kernel_rfl) (fun _ _ _ h => h) (Or.inl ⟨by rfl, ?_⟩) hHeld ?_
          · intro w9 hSw
            try dsimp only at hSw
            go_simp
          try simp only [Act.put, List.setIfInBounds_toArray, List.set_cons_zero, List.set_cons_succ]
          refine wpAnyH_take (i := 21) (oi := fgb48o9) (v := (.bool false)) rfl (by kernel_rfl) (by kernel_rfl) (by kernel_rfl) (fun _ _ _ h => h) (Or.inl ⟨by rfl, ?_⟩) hHeld ?_
          · intro w9 hSw
            try dsimp only at hSw
            go_simp
          try simp only [Act.put, List.setIfInBounds_toArray, List.set_cons_zero, List.set_cons_succ]
          refine wpAnyH_done (by kernel_rfl) ?_ _
          refine NoPanic.normal ?_
          go_wp2
          exact ⟨⟨j + 1, by omega, int_eq (by omega), s4, Td, HS4.out⟩, by simp [intOf] <;> omega⟩
        · rw [htk] at c0
          go_wp2_with (first
            | (refine wpList_load_at rfl _ _ rfl ab (ao + j * 17) (by rfl) _ hca Try.underlying44 (by kernel_rfl) ?_)
            | (refine wpList_store_row rfl _ _ _ rfl wr.heap.size q.v (by rfl) (by rfl) _ _ Ba (by kernel_rfl) (by rfl) (by kernel_rfl) ?_; rw [HWb.out]))
          refine Calls.mono KT.out ?_
          rintro e W4 ⟨rfl, T4, _⟩
          have S4 : (tickF s q.nw).1.most = gr ∧ (tickF s q.nw).1.room = by_ := ⟨(tickF_caps s q.nw).1.trans hs.out.1, (tickF_caps s q.nw).2.1.trans hs.out.2⟩
          generalize (tickF s q.nw).1 = s4 at T4 S4
          clear KP KT c0 c1 Bb Ba hca HWb
          have C4 := C0.out.below T4.bel C1.lt
          have ok4 := T4.ok
          have g1 : ¬ ((s4.E.length : Int) > gr) := by have := ok4.few; rw [S4.1] at this; omega
          have g2 : ¬ (s4.by_ > by_) := by have := ok4.bytes; rw [S4.2] at this; omega
          have g3 : ¬ ((s4.E.length : Int) < 0) := by omega
          have g4 : ¬ (s4.by_ < 0) := by have := ok4.by_nonneg; omega
          have HS4 : Hid _ := S4
          clear ok4 S4
          go_wp2_with fail
          have Cd := C4.drew
          have Td : TabB W1.heap.size W1 W4.drew tb mb s4 := T4.below (Below.refl _ _).drew
          refine wp_region_noPanic ?_
          refine wp_region_held_drew (S := fun w' => Blk w' w.heap.size 23 #[.int .i64 gr, .int .i64 by_, .int .i64 lf]) (by kernel_rfl) (by exact Cd) (fun hHeld => ?_)
          generalize W4.drew = V at Cd Td hHeld ⊢
          clear C4 T4
          refine wpAnyH_take (i := 0) (oi := fgb48o21) (v := (.pointer (some ⟨tb, 0, none⟩))) rfl (by kernel_rfl) (by kernel_rfl) (by kernel_rfl) (fun _ _ _ h => h) (Or.inl ⟨by rfl, ?_⟩) hHeld ?_
          · intro w9 hSw
            try dsimp only at hSw
            go_simp
          try simp only [Act.put, List.setIfInBounds_toArray, List.set_cons_zero, List.set_cons_succ]
          refine wpAnyH_take (i := 2) (oi := fgb48o20) (v := (.pointer (some ⟨w.heap.size, 0, none⟩))) rfl (by kernel_rfl) (by kernel_rfl) (by kernel_rfl) (fun _ _ _ h => h) (Or.inl ⟨by rfl, ?_⟩) hHeld ?_
          · intro w9 hSw
            try dsimp only at hSw
            go_simp
          try simp only [Act.put, List.setIfInBounds_toArray, List.set_cons_zero, List.set_cons_succ]
          refine wpAnyH_take (i := 3) (oi := fgb48o19) (v := (.int .i64 gr)) rfl (by kernel_rfl) (by kernel_rfl) (by kernel_rfl) (fun _ _ _ h => h) (Or.inl ⟨by rfl, ?_⟩) hHeld ?_
          · intro w9 hSw
            try dsimp only at hSw
            have q9 := hSw.cell 0 (.int .i64 gr) rfl
            go_simp
          try simp only [Act.put, List.setIfInBounds_toArray, List.set_cons_zero, List.set_cons_succ]
          refine wpAnyH_ready (rs := [1]) (by kernel_rfl) (by simp) ?_
          refine AllReadyH.cons (o := fgb48o4) rfl (fun K hK => ?_) AllReadyH.nil
          go_simp
          refine Calls.mono Td.grams ?_
          rintro e w' ⟨rfl, hw'⟩
          rw [hw']
          clear hw' w'
          refine hK.out _ _ (by exact Cd) (fun hHeld => ?_)
          clear hK K
          try simp only [Act.put, List.setIfInBounds_toArray, List.set_cons_zero, List.set_cons_succ]
          refine wpAnyH_take (i := 4) (oi := fgb48o7) (v := (.bool false)) rfl (by kernel_rfl) (by kernel_rfl) (by kernel_rfl) (fun _ _ _ h => h) (Or.inl ⟨by rfl, ?_⟩) hHeld ?_
          · intro w9 hSw
            try dsimp only at hSw
            go_simp
          try simp only [Act.put, List.setIfInBounds_toArray, List.set_cons_zero, List.set_cons_succ]
          refine wpAnyH_take (i := 5) (oi := fgb48o14) (v := (.bool false)) rfl (by kernel_rfl) (by kernel_rfl) (by kernel_rfl) (fun _ _ _ h => h) (Or.inl ⟨by rfl, ?_⟩) hHeld ?_
          · intro w9 hSw
            try dsimp only at hSw
            go_simp
          try simp only [Act.put, List.setIfInBounds_toArray, List.set_cons_zero, List.set_cons_succ]
          refine wpAnyH_take (i := 6) (oi := fgb48o18) (v := (.pointer (some ⟨tb, 0, none⟩))) rfl (by kernel_rfl) (by kernel_rfl) (by kernel_rfl) (fun _ _ _ h => h) (Or.inl ⟨by rfl, ?_⟩) hHeld ?_
          · intro w9 hSw
            try dsimp only at hSw
            go_simp
          try simp only [Act.put, List.setIfInBounds_toArray, List.set_cons_zero, List.set_cons_succ]
          refine wpAnyH_take (i := 8) (oi := fgb48o15) (v := (.pointer (some ⟨w.heap.size, 1, none⟩))) rfl (by kernel_rfl) (by kernel_rfl) (by kernel_rfl) (fun _ _ _ h => h) (Or.inl ⟨by rfl, ?_⟩) hHeld ?_
          · intro w9 hSw
            try dsimp only at hSw
            go_simp
          try simp only [Act.put, List.setIfInBounds_toArray, List.set_cons_zero, List.set_cons_succ]
          refine wpAnyH_take (i := 9) (oi := fgb48o11) (v := (.int .i64 by_)) rfl (by kernel_rfl) (by kernel_rfl) (by kernel_rfl) (fun _ _ _ h => h) (Or.inl ⟨by rfl, ?_⟩) hHeld ?_
          · intro w9 hSw
            try dsimp only at hSw
            have q9 := hSw.cell 1 (.int .i64 by_) rfl
            go_simp
          try simp only [Act.put, List.setIfInBounds_toArray, List.set_cons_zero, List.set_cons_succ]
          refine wpAnyH_ready (rs := [7]) (by kernel_rfl) (by simp) ?_
          refine AllReadyH.cons (o := fgb48o2) rfl (fun K hK => ?_) AllReadyH.nil
          go_simp
          refine Calls.mono Td.bytes ?_
          rintro e w' ⟨rfl, hw'⟩
          rw [hw']
          clear hw' w'
          refine hK.out _ _ (by exact Cd) (fun hHeld => ?_)
          clear hK K
          try simp only [Act.put, List.setIfInBounds_toArray, List.set_cons_zero, List.set_cons_succ]
          refine wpAnyH_take (i := 10) (oi := fgb48o3) (v := (.bool false)) rfl (by kernel_rfl) (by kernel_rfl) (by kernel_rfl) (fun _ _ _ h => h) (Or.inl ⟨by rfl, ?_⟩) hHeld ?_
          · intro w9 hSw
            try dsimp only at hSw
            go_simp
          try simp only [Act.put, List.setIfInBounds_toArray, List.set_cons_zero, List.set_cons_succ]
          refine wpAnyH_take (i := 11) (oi := fgb48o10) (v := (.bool false)) rfl (by kernel_rfl) (by kernel_rfl) (by kernel_rfl) (fun _ _ _ h => h) (Or.inl ⟨by rfl, ?_⟩) hHeld ?_
          · intro w9 hSw
            try dsimp only at hSw
            go_simp
          try simp only [Act.put, List.setIfInBounds_toArray, List.set_cons_zero, List.set_cons_succ]
          refine wpAnyH_take (i := 12) (oi := fgb48o13) (v := (.bool false)) rfl (by kernel_rfl) (by kernel_rfl) (by kernel_rfl) (fun _ _ _ h => h) (Or.inl ⟨by rfl, ?_⟩) hHeld ?_
          · intro w9 hSw
            try dsimp only at hSw
            go_simp
          try simp only [Act.put, List.setIfInBounds_toArray, List.set_cons_zero, List.set_cons_succ]
          refine wpAnyH_take (i := 13) (oi := fgb48o16) (v := (.pointer (some ⟨tb, 0, none⟩))) rfl (by kernel_rfl) (by kernel_rfl) (by kernel_rfl) (fun _ _ _ h => h) (Or.inl ⟨by rfl, ?_⟩) hHeld ?_
          · intro w9 hSw
            try dsimp only at hSw
            go_simp
          try simp only [Act.put, List.setIfInBounds_toArray, List.set_cons_zero, List.set_cons_succ]
          refine wpAnyH_ready (rs := [14]) (by kernel_rfl) (by simp) ?_
          refine AllReadyH.cons (o := fgb48o0) rfl (fun K hK => ?_) AllReadyH.nil
          go_simp
          refine Calls.mono Td.grams ?_
          rintro e w' ⟨rfl, hw'⟩
          rw [hw']
          clear hw' w'
          refine hK.out _ _ (by exact Cd) (fun hHeld => ?_)
          clear hK K
          try simp only [Act.put, List.setIfInBounds_toArray, List.set_cons_zero, List.set_cons_succ]
          refine wpAnyH_take (i := 15) (oi := fgb48o5) (v := (.bool false)) rfl (by kernel_rfl) (by kernel_rfl) (by kernel_rfl) (fun _ _ _ h => h) (Or.inl ⟨by rfl, ?_⟩) hHeld ?_
          · intro w9 hSw
            try dsimp only at hSw
            go_simp
          try simp only [Act.put, List.setIfInBounds_toArray, List.set_cons_zero, List.set_cons_succ]
          refine wpAnyH_take (i := 16) (oi := fgb48o8) (v := (.bool false)) rfl (by kernel_rfl) (by kernel_rfl) (by kernel_rfl) (fun _ _ _ h => h) (Or.inl ⟨by rfl, ?_⟩) hHeld ?_
          · intro w9 hSw
            try dsimp only at hSw
            go_simp
          try simp only [Act.put, List.setIfInBounds_toArray, List.set_cons_zero, List.set_cons_succ]
          refine wpAnyH_take (i := 17) (oi := fgb48o12) (v := (.bool false)) rfl (by kernel_rfl) (by kernel_rfl) (by kernel_rfl) (fun _ _ _ h => h) (Or.inl ⟨by rfl, ?_⟩) hHeld ?_
          · intro w9 hSw
            try dsimp only at hSw
            go_simp
          try simp only [Act.put, List.setIfInBounds_toArray, List.set_cons_zero, List.set_cons_succ]
          refine wpAnyH_take (i := 18) (oi := fgb48o17) (v := (.pointer (some ⟨tb, 0, none⟩))) rfl (by kernel_rfl) (by kernel_rfl) (by kernel_rfl) (fun _ _ _ h => h) (Or.inl ⟨by rfl, ?_⟩) hHeld ?_
          · intro w9 hSw
            try dsimp only at hSw
            go_simp
          try simp only [Act.put, List.setIfInBounds_toArray, List.set_cons_zero, List.set_cons_succ]
          refine wpAnyH_ready (rs := [19]) (by kernel_rfl) (by simp) ?_
          refine AllReadyH.cons (o := fgb48o1) rfl (fun K hK => ?_) AllReadyH.nil
          go_simp
          refine Calls.mono Td.bytes ?_
          rintro e w' ⟨rfl, hw'⟩
          rw [hw']
          clear hw' w'
          refine hK.out _ _ (by exact Cd) (fun hHeld => ?_)
          clear hK K
          try simp only [Act.put, List.setIfInBounds_toArray, List.set_cons_zero, List.set_cons_succ]
          refine wpAnyH_take (i := 20) (oi := fgb48o6) (v := (.bool false)) rfl (by kernel_rfl) (by kernel_rfl) (by kernel_rfl) (fun _ _ _ h => h) (Or.inl ⟨by rfl, ?_⟩) hHeld ?_
          · intro w9 hSw
            try dsimp only at hSw
            go_simp
          try simp only [Act.put, List.setIfInBounds_toArray, List.set_cons_zero, List.set_cons_succ]
          refine wpAnyH_take (i := 21) (oi := fgb48o9) (v := (.bool false)) rfl (by kernel_rfl) (by kernel_rfl) (by kernel_rfl) (fun _ _ _ h => h) (Or.inl ⟨by rfl, ?_⟩) hHeld ?_
          · intro w9 hSw
            try dsimp only at hSw
            go_simp
          try simp only [Act.put, List.setIfInBounds_toArray, List.set_cons_zero, List.set_cons_succ]
          refine wpAnyH_done (by kernel_rfl) ?_ _
          refine NoPanic.normal ?_
          go_wp2
          exact ⟨⟨j + 1, by omega, int_eq (by omega), s4, Td, HS4.out⟩, by simp [intOf] <;> omega⟩
      · have i1 : ¬ (↑j : Int) < ↑l.length := by omega
        go_wp2
        go_ret
        exact ⟨rfl, b1.trans (hT.out.bel.mono b1.size)⟩
  · have KN : Hid _ := new_no gr by_ lf W1 hc
    clear hc
    go_enter Try.func4, Try.ntmps4
    go_wp2_with fail
    refine Calls.mono KN.out ?_
    rintro e W2 ⟨rfl, hW2⟩
    rw [hW2]
    clear hW2 W2 KN
    have KA : Hid _ := falive_any W1
    go_wp2_with fail
    refine Calls.mono KA.out ?_
    rintro e W3 ⟨rfl, b3⟩
    go_wp2
    go_ret
    exact ⟨rfl, bel_tr b1 b3⟩
end Go.Proofs.Ytebdpiedgjdjeaa
