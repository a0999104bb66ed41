/- Texts joined: FragGoneWalk -/
import Derived.Test.YtebdpiedgjdjeaaFgg48
import Derived.Test.YtebdpiedgjdjeaaFgg50
import Derived.Test.YtebdpiedgjdjeaaFgg51
namespace Go.Proofs.Ytebdpiedgjdjeaa
open Go.RowKit
set_option linter.unusedVariables false
set_option linter.unusedSimpArgs false
set_option maxRecDepth 100000 in
set_option maxHeartbeats 16000000 in
theorem fragGone_walk (gr by_ lf : Int) (a1 : Option Addr) (c1 : Nat) (l1 : List Ac6) (a2 : Option Addr) (c2 : Nat) (l2 : List Ac6) (w : World) (hlc1 : l1.length ≤ c1) (hcm1 : c1 ≤ 17592186044416) (hrow1 : RowN 17 Ac6.v Ac6.ok w a1 l1) (hlc2 : l2.length ≤ c2) (hcm2 : c2 ≤ 17592186044416) (hrow2 : RowN 17 Ac6.v Ac6.ok w a2 l2) :
    Calls Try.prog 7 #[.agg #[.int .i64 gr, .int .i64 by_, .int .i64 lf], .slice a1 l1.length c1, .slice a2 l2.length c2] w fun e w' => e = .returned (.bool true) ∧ Below w.heap.size w w' := by
  obtain ⟨W1, hW1⟩ : ∃ W, w.alloc (.cells #[.int .i64 gr, .int .i64 by_, .int .i64 lf] 23) = W := ⟨_, rfl⟩
  have b1 := bel_nw hW1
  have C1 := blk_nw hW1
  have d0 := C1.cell 0 (.int .i64 gr) rfl
  have d1 := C1.cell 1 (.int .i64 by_) rfl
  have d2 := C1.cell 2 (.int .i64 lf) rfl
  have HR1 : Hid (RowN 17 Ac6.v Ac6.ok w a1 l1) := hrow1
  have HR2 : Hid (RowN 17 Ac6.v Ac6.ok w a2 l2) := hrow2
  have HB1 : Hid (Below w.heap.size w W1) := b1
  have HC1 : Hid (Blk W1 w.heap.size 23 #[.int .i64 gr, .int .i64 by_, .int .i64 lf]) := C1
  clear hrow1 hrow2
  by_cases hc : capsOk gr by_ lf
  · have KN : Hid _ := tabB_new gr by_ lf W1 hc
    have HC : Hid (capsOk gr by_ lf) := hc
    clear hc
    go_enter Try.func7, Try.ntmps7
    go_wp2_with fail
    refine Calls.mono KN.out ?_
    rintro e W2 ⟨tb, mb, rfl, T2⟩
    have C2 := C1.below T2.bel C1.lt
    have d0 := C2.cell 0 (.int .i64 gr) rfl
    have d1 := C2.cell 1 (.int .i64 by_) rfl
    have d2 := C2.cell 2 (.int .i64 lf) rfl
    have KM : Hid _ := new_yes gr by_ lf W2 HC.out
    clear KN
    go_wp2_with fail
    refine Calls.mono KM.out ?_
    rintro e W3 ⟨ub, nb, rfl, U3, u1, u2, b3⟩
    have T3 := two6_new T2 U3 u1 u2 b3
    have KA : Hid _ := falive_any W3
    clear KM T2 U3 u1 u2 b3 d0 d1 d2 C2 C1
    go_wp2_with fail
    refine Calls.mono KA.out ?_
    rintro e W4 ⟨rfl, b4⟩
    have T4 : Hid _ := T3.below b4 (P' := fun _ => False) (Q' := fun _ => False) (fun _ h => h.elim) (fun _ h => h.elim)
    clear KA T3 b4 b1
    go_wp2
    go_loopw [61] (fun i wr => ∃ (j : Nat) (s : Fs), j ≤ l1.length ∧ i = .int .i64 j ∧ Hid (Two6 W1.heap.size (fun _ => False) (fun _ => False) W1 wr tb mb ub nb s (fs0 gr by_ lf)) ∧ Hid (s.most = gr ∧ s.room = by_ ∧ s.life = lf)) (fun i _ => l1.length - (intOf i).toNat)
    case atStart => exact ⟨0, _, by omega, rfl, T4.out, ⟨rfl, rfl, rfl⟩⟩
    case round =>
      obtain ⟨j, s, hj, rfl, hT, hs⟩ := hrel
      clear T4
      by_cases hlt : j < l1.length
      · have i1 : (↑j : Int) < ↑l1.length := by omega
        have i0 : (0 : Int) ≤ ↑j := by omega
        obtain ⟨q, hq⟩ : ∃ q, l1[j]? = some q := ⟨_, List.getElem?_eq_getElem hlt⟩
        have bw : Hid (Below w.heap.size w wr) := HB1.out.trans (hT.out.bel.mono HB1.out.size)
        obtain ⟨ab, ao, rfl, hcells⟩ := HR1.out.cells j q hq
        have hqok := (HR1.out.each q (List.mem_of_getElem? hq)).below bw.out
        have hca : CellsAt wr ab (ao + j * 17) q.v := hcells.below bw.out
        clear hcells
        obtain ⟨Wa, hWa⟩ : ∃ W, wr.alloc (.cells #[.bool false, .int .i64 0, .int .i64 0, .int .i64 0, .int .u64 0, .int .u64 0, .int .i64 0, .int .u64 0, .int .u64 0, .int .i64 0, .int .i64 0, .bool false, .int .u32 0, .int .i64 0, .bool false, .slice none 0 0, .slice none 0 0] 44) = W := ⟨_, rfl⟩
        have Ba := blk_nw hWa
        obtain ⟨Wb, hWb⟩ : ∃ W, Wa.setRow wr.heap.size q.v = W := ⟨_, rfl⟩
        have Bb : Blk Wb wr.heap.size 44 q.v := by rw [← hWb]; exact Ba.set q.v
        have kb : Below wr.heap.size wr Wb := by rw [← hWb]; exact below_setRow (bel_nw hWa) (Nat.le_refl _) q.v
        have HWb : Hid _ := hWb
        have hqb := hqok.below kb
        have c0 := Bb.cell 0 (.bool q.tk) rfl
        have c1 := Bb.cell 1 (.int .i64 q.nw) rfl
        clear hWb hqok
        have Tb := hT.out.below kb (P' := fun _ => False) (Q' := fun _ => False) (fun _ h => h.elim) (fun _ h => h.elim)
        have KP : Hid _ := Tb.put1 q.q.p q.q.xa q.q.xc q.q.da q.q.dc hqb.q.p hqb.q.data hqb.q.dnil hqb.q.exts hqb.q.xnil
        have KT : Hid _ := Tb.tick1 q.nw
        clear hqb Tb kb
        cases htk : q.tk
        · rw [htk] at c0
          go_wp2_with (first
            | (refine wpList_load_at rfl _ _ rfl ab (ao + j * 17) (by rfl) _ hca Try.underlying44 (by kernel_rfl) ?_)
            | (refine wpList_store_row rfl _ _ _ rfl wr.heap.size q.v (by rfl) (by rfl) _ _ Ba (by kernel_rfl) (by rfl) (by kernel_rfl) ?_; rw [HWb.out])
            | (refine wpList_load_sub rfl _ _ rfl wr.heap.size 2 44 (by rfl) _ q.q.v Bb (by rfl) Try.underlying42 (by kernel_rfl) ?_))
          refine Calls.mono KP.out ?_
          rintro e W5 ⟨xa', xc', da', dc', rfl, _, _, T5, _⟩
          have T5 := T5.below (Below.refl _ _) (P' := fun _ => False) (Q' := fun _ => False) (fun _ h => h.elim) (fun _ h => h.elim)
          have S5 := putF_caps s q.q.p
          have S5 : (putF s q.q.p).1.most = gr ∧ (putF s q.q.p).1.room = by_ ∧ (putF s q.q.p).1.life = lf := ⟨S5.1.trans hs.out.1, S5.2.1.trans hs.out.2.1, S5.2.2.1.trans hs.out.2.2⟩
          generalize (putF s q.q.p).1 = s5 at T5 S5
          clear KP KT
          go_wp2
          exact ⟨⟨j + 1, s5, by omega, int_eq (by omega), T5, S5⟩, by simp [intOf] <;> omega⟩
        · rw [htk] at c0
          go_wp2_with (first
            | (refine wpList_load_at rfl _ _ rfl ab (ao + j * 17) (by rfl) _ hca Try.underlying44 (by kernel_rfl) ?_)
            | (refine wpList_store_row rfl _ _ _ rfl wr.heap.size q.v (by rfl) (by rfl) _ _ Ba (by kernel_rfl) (by rfl) (by kernel_rfl) ?_; rw [HWb.out])
            | (refine wpList_load_sub rfl _ _ rfl wr.heap.size 2 44 (by rfl) _ q.q.v Bb (by rfl) Try.underlying42 (by kernel_rfl) ?_))
          refine Calls.mono KT.out ?_
          rintro e W5 ⟨rfl, T5, _⟩
          have S5 := tickF_caps s q.nw
          have S5 : (tickF s q.nw).1.most = gr ∧ (tickF s q.nw).1.room = by_ ∧ (tickF s q.nw).1.life = lf := ⟨S5.1.trans hs.out.1, S5.2.1.trans hs.out.2.1, S5.2.2.trans hs.out.2.2⟩
          generalize (tickF s q.nw).1 = s5 at T5 S5
          clear KP KT
          go_wp2
          exact ⟨⟨j + 1, s5, by omega, int_eq (by omega), T5, S5⟩, by simp [intOf] <;> omega⟩
      · have i1 : ¬ (↑j : Int) < ↑l1.length := by omega
        have HT : Hid _ := hT.out
        have sok := hT.out.ok.1
        have Br := HC1.out.below hT.out.bel HC1.out.lt
        have n1 := sok.now
        have n2 := sok.life
        rw [hs.out.2.2] at n2
        have wn : IntKind.i64.wrap (s.now + lf) = s.now + lf := wraps_i64 _ (by omega) (by omega)
        have HN1 : Hid _ := n1
        have HN2 : Hid _ := n2
        have HSK : Hid _ := sok
        clear sok
        go_wp2_with fail
        have Cd := Br.drew
        have Td := hT.out.below (w' := wr.drew) (Below.refl _ _).drew (P' := fun _ => False) (Q' := fun _ => False) (fun _ h => h.elim) (fun _ h => h.elim)
        refine wp_region_noPanic ?_
        refine wp_region_held_drew (S := fun w' => Blk w' w.heap.size 23 #[.int .i64 gr, .int .i64 by_, .int .i64 lf]) (by kernel_rfl) (by exact Cd) (fun hHeld => ?_)
        generalize wr.drew = V at Cd Td hHeld ⊢
        refine wpAnyH_take (i := 0) (oi := { dst := some 76, op := Op.move (.tmp 7), type := 25, pos := "law.go:180", after := #[], guard := none }) (v := (.pointer (some ⟨tb, 0, none⟩))) rfl (by kernel_rfl) (by kernel_rfl) (by kernel_rfl) (fun _ _ _ h => h) (Or.inl ⟨by rfl, ?_⟩) hHeld ?_
        · intro w9 hSw
          try dsimp only at hSw
          go_simp
        try simp only [Act.put, List.setIfInBounds_toArray, List.set_cons_zero, List.set_cons_succ]
        refine wpAnyH_take (i := 2) (oi := { dst := some 78, op := Op.fieldAddr 23 (.tmp 3) 2, type := 0, pos := "law.go:180", after := #[], guard := none }) (v := (.pointer (some ⟨w.heap.size, 2, none⟩))) rfl (by kernel_rfl) (by kernel_rfl) (by kernel_rfl) (fun _ _ _ h => h) (Or.inl ⟨by rfl, ?_⟩) hHeld ?_
        · intro w9 hSw
          try dsimp only at hSw
          go_simp
        try simp only [Act.put, List.setIfInBounds_toArray, List.set_cons_zero, List.set_cons_succ]
        refine wpAnyH_take (i := 3) (oi := { dst := some 79, op := Op.load 3 (.tmp 78), type := 3, pos := "law.go:180", after := #[{ on := 2, ground := Ground.data }], guard := none }) (v := (.int .i64 lf)) rfl (by kernel_rfl) (by kernel_rfl) (by kernel_rfl) (fun _ _ _ h => h) (Or.inl ⟨by rfl, ?_⟩) hHeld ?_
        · intro w9 hSw
          try dsimp only at hSw
          have q9 := hSw.cell 2 (.int .i64 lf) rfl
          go_simp
        try simp only [Act.put, List.setIfInBounds_toArray, List.set_cons_zero, List.set_cons_succ]
        refine wpAnyH_ready (rs := [1]) (by kernel_rfl) (by simp) ?_
        refine AllReadyH.cons (o := { dst := some 77, op := Op.call { callee := Callee.value (.func 23), args := #[.tmp 76], argTypes := #[25] }, type := 3, pos := "law.go:180", after := #[{ on := 0, ground := Ground.data }], guard := none }) rfl (fun K hK => ?_) AllReadyH.nil
        go_simp
        refine Calls.mono Td.first.2.2 ?_
        rintro e w' ⟨rfl, hw'⟩
        rw [hw']
        clear hw' w'
        refine hK.out _ _ (by exact Cd) (fun hHeld => ?_)
        clear hK K
        try simp only [Act.put, List.setIfInBounds_toArray, List.set_cons_zero, List.set_cons_succ]
        refine wpAnyH_take (i := 4) (oi := { dst := some 80, op := Op.binOp BinOp.add 3 (.tmp 77) (.tmp 79) 3, type := 3, pos := "law.go:180", after := #[{ on := 1, ground := Ground.data }, { on := 3, ground := Ground.data }], guard := none }) (v := (.int .i64 (s.now + lf))) rfl (by kernel_rfl) (by kernel_rfl) (by kernel_rfl) (fun _ _ _ h => h) (Or.inl ⟨by rfl, ?_⟩) hHeld ?_
        · intro w9 hSw
          try dsimp only at hSw
          go_simp
        try simp only [Act.put, List.setIfInBounds_toArray, List.set_cons_zero, List.set_cons_succ]
        refine wpAnyH_take (i := 5) (oi := { dst := some 13, op := Op.assign (.tmp 80), type := 3, pos := "law.go:180", after := #[{ on := 4, ground := Ground.data }, { on := 1, ground := Ground.chain }, { on := 0, ground := Ground.phase }, { on := 1, ground := Ground.phase }, { on := 2, ground := Ground.phase }, { on := 3, ground := Ground.phase }, { on := 4, ground := Ground.phase }], guard := none }) (v := (.int .i64 (s.now + lf))) rfl (by kernel_rfl) (by kernel_rfl) (by kernel_rfl) (fun _ _ _ h => h) (Or.inl ⟨by rfl, ?_⟩) hHeld ?_
        · intro w9 hSw
          try dsimp only at hSw
          go_simp
        try simp only [Act.put, List.setIfInBounds_toArray, List.set_cons_zero, List.set_cons_succ]
        refine wpAnyH_done (by kernel_rfl) ?_ _
        refine NoPanic.normal ?_
        clear Cd
        by_cases hx : s.now + lf > 4611684918915760128
        · have e1 : (tickF s (s.now + lf)).2 = 25 := by unfold tickF; rw [if_pos (.inr hx)]
          have KT := Td.tick1 (s.now + lf)
          rw [e1] at KT
          have KT : Hid _ := KT
          clear e1 wn
          go_wp2_with fail
          refine Calls.mono KT.out ?_
          rintro e W5 ⟨rfl, T5, _⟩
          go_wp2
          go_ret
          exact ⟨rfl, HB1.out.trans (T5.bel.mono HB1.out.size)⟩
        · have e1 := tick_gone HSK.out (by rw [hs.out.2.2]; exact hx)
          rw [hs.out.1, hs.out.2.1, hs.out.2.2] at e1
          have KT := Td.tick1 (s.now + lf)
          rw [e1] at KT
          have KT : Hid _ := KT
          have n9 := HN1.out.1
          have n8 := HN2.out.1
          have e2 := tick_fresh (a := gr) (b := by_) (c := lf) (now := s.now + lf) (by omega) hx
          clear e1 wn n9 n8 hx
          go_wp2_with fail
          refine Calls.mono KT.out ?_
          rintro e W5 ⟨rfl, T5, _⟩
          have KU := T5.tick2 (fun k hk => hk.elim) (s.now + lf)
          rw [e2] at KU
          have KU : Hid _ := KU
          clear KT e2 T5
          go_wp2_with fail
          refine Calls.mono KU.out ?_
          rintro e W6 ⟨rfl, T6, _⟩
          have KG : Hid (Calls Try.prog 20 #[.pointer (some ⟨tb, 0, none⟩)] W6 fun e w' => e = .returned (.int .i64 0) ∧ w' = W6) := T6.first.1
          have KB : Hid (Calls Try.prog 21 #[.pointer (some ⟨tb, 0, none⟩)] W6 fun e w' => e = .returned (.int .i64 0) ∧ w' = W6) := T6.first.2.1
          clear KU
          have HT6 : Hid _ := T6
          clear T6
          go_wp2_with (first
            | (go_at_call 20; refine Calls.mono KG.out ?_; rintro e w' ⟨rfl, hw'⟩; rw [hw']; clear hw' w')
            | (go_at_call 21; refine Calls.mono KB.out ?_; rintro e w' ⟨rfl, hw'⟩; rw [hw']; clear hw' w'))
          clear KG KB HT hT Td Br hj i1
          go_loopw [101] (fun i wr => ∃ (j : Nat) (s : Fs), j ≤ l2.length ∧ i = .int .i64 j ∧ Hid (Two6 W1.heap.size (fun _ => False) (fun _ => False) W1 wr tb mb ub nb s s)) (fun i _ => l2.length - (intOf i).toNat)
          case atStart => exact ⟨0, _, by omega, rfl, HT6.out⟩
          case round =>
            clear HT6 hs HSK HN1 HN2
            obtain ⟨j, s, hj, rfl, hT⟩ := hrel
            by_cases hlt : j < l2.length
            · have i1 : (↑j : Int) < ↑l2.length := by omega
              have i0 : (0 : Int) ≤ ↑j := by omega
              obtain ⟨q, hq⟩ : ∃ q, l2[j]? = some q := ⟨_, List.getElem?_eq_getElem hlt⟩
              have bw : Hid (Below w.heap.size w wr) := HB1.out.trans (hT.out.bel.mono HB1.out.size)
              obtain ⟨ab, ao, rfl, hcells⟩ := HR2.out.cells j q hq
              have hqok := (HR2.out.each q (List.mem_of_getElem? hq)).below bw.out
              have hca : CellsAt wr ab (ao + j * 17) q.v := hcells.below bw.out
              clear hcells
              obtain ⟨Wa, hWa⟩ : ∃ W, wr.alloc (.cells #[.bool false, .int .i64 0, .int .i64 0, .int .i64 0, .int .u64 0, .int .u64 0, .int .i64 0, .int .u64 0, .int .u64 0, .int .i64 0, .int .i64 0, .bool false, .int .u32 0, .int .i64 0, .bool false, .slice none 0 0, .slice none 0 0] 44) = W := ⟨_, rfl⟩
              have Ba := blk_nw hWa
              obtain ⟨Wb, hWb⟩ : ∃ W, Wa.setRow wr.heap.size q.v = W := ⟨_, rfl⟩
              have Bb : Blk Wb wr.heap.size 44 q.v := by rw [← hWb]; exact Ba.set q.v
              have kb : Below wr.heap.size wr Wb := by rw [← hWb]; exact below_setRow (bel_nw hWa) (Nat.le_refl _) q.v
              have HWb : Hid _ := hWb
              have hqb := hqok.below kb
              have c0 := Bb.cell 0 (.bool q.tk) rfl
              have c1 := Bb.cell 1 (.int .i64 q.nw) rfl
              clear hWb hqok
              have Tb := hT.out.below kb (P' := fun k => k = wr.heap.size) (Q' := fun k => k = wr.heap.size) (fun k hk => .inr (by subst hk; exact ⟨Nat.le_refl _, Bb.lt⟩)) (fun k hk => .inr (by subst hk; exact Nat.le_refl _))
              have bqb : Hid (Below w.heap.size w Wb) := bel_tr bw.out kb
              clear kb
              cases htk : q.tk
              · rw [htk] at c0
                have KP : Hid _ := Tb.put1 q.q.p q.q.xa q.q.xc q.q.da q.q.dc hqb.q.p hqb.q.data hqb.q.dnil hqb.q.exts hqb.q.xnil
                clear Tb
                go_wp2_with (first
                  | (refine wpList_load_at rfl _ _ rfl ab (ao + j * 17) (by rfl) _ hca Try.underlying44 (by kernel_rfl) ?_)
                  | (refine wpList_store_row rfl _ _ _ rfl wr.heap.size q.v (by rfl) (by rfl) _ _ Ba (by kernel_rfl) (by rfl) (by kernel_rfl) ?_; rw [HWb.out])
                  | (refine wpList_load_sub rfl _ _ rfl wr.heap.size 2 44 (by rfl) _ q.q.v Bb (by rfl) Try.underlying42 (by kernel_rfl) ?_))
                refine Calls.mono KP.out ?_
                rintro e W5 ⟨xa', xc', da', dc', rfl, r1, r2, T5, bu5⟩
                have B5 := Bb.but bu5 (fun h => h.1 rfl)
                obtain ⟨W6, hW6⟩ : ∃ W, W5.alloc (.cells #[.int .i64 0, .int .i64 0, .int .u64 0, .int .u64 0, .int .i64 0, .int .u64 0, .int .u64 0, .int .i64 0, .int .i64 0, .bool false, .int .u32 0, .int .i64 0, .bool false, .slice none 0 0, .slice none 0 0] 42) = W := ⟨_, rfl⟩
                have P6 := blk_nw hW6
                obtain ⟨W7, hW7⟩ : ∃ W, W6.setRow W5.heap.size (pkV (putF s q.q.p).2.1 xa' xc' da' dc') = W := ⟨_, rfl⟩
                have P7 : Blk W7 W5.heap.size 42 (pkV (putF s q.q.p).2.1 xa' xc' da' dc') := by rw [← hW7]; exact P6.set _
                have k7 : Below W5.heap.size W5 W7 := by rw [← hW7]; exact below_setRow (bel_nw hW6) (Nat.le_refl _) _
                have HW7 : Hid _ := hW7
                clear hW7 KP
                have B7 := B5.kept k7
                have T7 := T5.below k7 (P' := fun k => k = wr.heap.size) (Q' := fun k => ((k = wr.heap.size ∨ (∃ x, xa' = some x ∧ x.block = k) ∨ ∃ x, da' = some x ∧ x.block = k) ∨ k = W5.heap.size)) (fun k hk => .inl hk) (fun k hk => by
                  rcases hk with hk | hk
                  · exact .inl hk
                  · exact .inr (by omega))
                have hq7 := (HR2.out.each q (List.mem_of_getElem? hq)).below (HB1.out.trans (T7.bel.mono HB1.out.size))
                have KU : Hid _ := T7.put2 q.q.p q.q.xa q.q.xc q.q.da q.q.dc hq7.q.p hq7.q.data hq7.q.dnil hq7.q.exts hq7.q.xnil
                have r17 := r1.below k7
                have r27 := r2.below k7
                clear T5 T7 r1 r2 B5 hq7 hqb
                go_wp2_with (first
                  | (refine wpList_store_row rfl _ _ _ rfl W5.heap.size (pkV (putF s q.q.p).2.1 xa' xc' da' dc') (by rfl) (by rfl) _ _ P6 (by kernel_rfl) (by rfl) (by kernel_rfl) ?_; rw [HW7.out])
                  | (refine wpList_load_sub rfl _ _ rfl wr.heap.size 2 44 (by rfl) _ q.q.v B7 (by rfl) Try.underlying42 (by kernel_rfl) ?_))
                refine Calls.mono KU.out ?_
                rintro e W8 ⟨ya', yc', db', ec', rfl, s1, s2, T8, bu8⟩
                have r18 := r17.but bu8 (fun x hx h => h.1 (.inl (.inr (.inl ⟨x, hx, rfl⟩))))
                have r28 := r27.but bu8 (fun x hx h => h.1 (.inl (.inr (.inr ⟨x, hx, rfl⟩))))
                have P8 := P7.but bu8 (fun h => h.1 (.inr rfl))
                obtain ⟨W9, hW9⟩ : ∃ W, W8.alloc (.cells #[.int .i64 0, .int .i64 0, .int .u64 0, .int .u64 0, .int .i64 0, .int .u64 0, .int .u64 0, .int .i64 0, .int .i64 0, .bool false, .int .u32 0, .int .i64 0, .bool false, .slice none 0 0, .slice none 0 0] 42) = W := ⟨_, rfl⟩
                have P9 := blk_nw hW9
                obtain ⟨WA, hWA⟩ : ∃ W, W9.setRow W8.heap.size (pkV (putF s q.q.p).2.1 ya' yc' db' ec') = W := ⟨_, rfl⟩
                have QA : Blk WA W8.heap.size 42 (pkV (putF s q.q.p).2.1 ya' yc' db' ec') := by rw [← hWA]; exact P9.set _
                have kA : Below W8.heap.size W8 WA := by rw [← hWA]; exact below_setRow (bel_nw hW9) (Nat.le_refl _) _
                have HWA : Hid _ := hWA
                clear hWA KU
                have PA := P8.kept kA
                have TA := T8.below kA (P' := fun _ => False) (Q' := fun _ => False) (fun _ h => h.elim) (fun _ h => h.elim)
                have KS : Hid _ := same_ip6 (putF s q.q.p).2.1.f (putF s q.q.p).2.1.s.fam (putF s q.q.p).2.1.s.hi (putF s q.q.p).2.1.s.lo (putF s q.q.p).2.1.d.fam (putF s q.q.p).2.1.d.hi (putF s q.q.p).2.1.d.lo (putF s q.q.p).2.1.pr (putF s q.q.p).2.1.ho (putF s q.q.p).2.1.fg (putF s q.q.p).2.1.id (putF s q.q.p).2.1.of (putF s q.q.p).2.1.mo xa' xc' ya' yc' (putF s q.q.p).2.1.X da' dc' db' ec' (putF s q.q.p).2.1.dat WA (r28.below kA) (s2.below kA) (r18.below kA) (s1.below kA)
                have HTA : Hid _ := TA
                clear r17 r27 r18 r28 s1 s2 T8 TA P7 P8 P6 B7 bu5 bu8 k7 kA Ba Bb hca HWb
                go_wp2_with (first
                  | (refine wpList_store_row rfl _ _ _ rfl W8.heap.size (pkV (putF s q.q.p).2.1 ya' yc' db' ec') (by rfl) (by rfl) _ _ P9 (by kernel_rfl) (by rfl) (by kernel_rfl) ?_; rw [HWA.out])
                  | (refine wpList_load_blk_w (by kernel_rfl) _ _ rfl W5.heap.size (by rfl) _ PA Try.underlying42 (by kernel_rfl) ?_)
                  | (refine wpList_load_blk_w (by kernel_rfl) _ _ rfl W8.heap.size (by rfl) _ QA Try.underlying42 (by kernel_rfl) ?_)
                  | (go_at_call 19; refine Calls.mono KS.out ?_; rintro e WB ⟨rfl, kB⟩))
                have TB := HTA.out.below kB (P' := fun _ => False) (Q' := fun _ => False) (fun _ h => h.elim) (fun _ h => h.elim)
                exact ⟨⟨j + 1, _, by omega, int_eq (by omega), TB⟩, by simp [intOf] <;> omega⟩
              · rw [htk] at c0
                go_wp2_with (first
                  | (refine wpList_load_at rfl _ _ rfl ab (ao + j * 17) (by rfl) _ hca Try.underlying44 (by kernel_rfl) ?_)
                  | (refine wpList_store_row rfl _ _ _ rfl wr.heap.size q.v (by rfl) (by rfl) _ _ Ba (by kernel_rfl) (by rfl) (by kernel_rfl) ?_; rw [HWb.out]))
                have c1d : Wb.drew.cell? ⟨wr.heap.size, 1, none⟩ = some (.int .i64 q.nw) := c1
                have Td := Tb.below (w' := Wb.drew) (Below.refl _ _).drew (P' := fun k => k = wr.heap.size) (Q' := fun k => k = wr.heap.size) (fun _ h => .inl h) (fun _ h => .inl h)
                refine wp_region_noPanic ?_
                refine wp_region_held_drew (S := fun w' => w'.cell? ⟨wr.heap.size, 1, none⟩ = some (.int .i64 q.nw)) (by kernel_rfl) (by exact c1d) (fun hHeld => ?_)
                generalize Wb.drew = V0 at c1d Td hHeld ⊢
                refine wpAnyH_take (i := 0) (oi := { dst := some 107, op := Op.move (.tmp 7), type := 25, pos := "law.go:189", after := #[], guard := none }) (v := (.pointer (some ⟨tb, 0, none⟩))) rfl (by kernel_rfl) (by kernel_rfl) (by kernel_rfl) (fun _ _ _ h => h) (Or.inl ⟨by rfl, ?_⟩) hHeld ?_
                · intro w9 hSw
                  try dsimp only at hSw
                  go_simp
                try simp only [Act.put, List.setIfInBounds_toArray, List.set_cons_zero, List.set_cons_succ]
                refine wpAnyH_take (i := 1) (oi := { dst := some 108, op := Op.fieldAddr 44 (.tmp 15) 1, type := 0, pos := "law.go:189", after := #[], guard := none }) (v := (.pointer (some ⟨wr.heap.size, 1, none⟩))) rfl (by kernel_rfl) (by kernel_rfl) (by kernel_rfl) (fun _ _ _ h => h) (Or.inl ⟨by rfl, ?_⟩) hHeld ?_
                · intro w9 hSw
                  try dsimp only at hSw
                  go_simp
                try simp only [Act.put, List.setIfInBounds_toArray, List.set_cons_zero, List.set_cons_succ]
                refine wpAnyH_take (i := 2) (oi := { dst := some 109, op := Op.load 3 (.tmp 108), type := 3, pos := "law.go:189", after := #[{ on := 1, ground := Ground.data }], guard := none }) (v := (.int .i64 q.nw)) rfl (by kernel_rfl) (by kernel_rfl) (by kernel_rfl) (fun _ _ _ h => h) (Or.inl ⟨by rfl, ?_⟩) hHeld ?_
                · intro w9 hSw
                  try dsimp only at hSw
                  have q9 := hSw
                  go_simp
                try simp only [Act.put, List.setIfInBounds_toArray, List.set_cons_zero, List.set_cons_succ]
                refine wpAnyH_take (i := 4) (oi := { dst := some 111, op := Op.move (.tmp 9), type := 25, pos := "law.go:189", after := #[], guard := none }) (v := (.pointer (some ⟨ub, 0, none⟩))) rfl (by kernel_rfl) (by kernel_rfl) (by kernel_rfl) (fun _ _ _ h => h) (Or.inl ⟨by rfl, ?_⟩) hHeld ?_
                · intro w9 hSw
                  try dsimp only at hSw
                  go_simp
                try simp only [Act.put, List.setIfInBounds_toArray, List.set_cons_zero, List.set_cons_succ]
                refine wpAnyH_take (i := 5) (oi := { dst := some 112, op := Op.fieldAddr 44 (.tmp 15) 1, type := 0, pos := "law.go:189", after := #[], guard := none }) (v := (.pointer (some ⟨wr.heap.size, 1, none⟩))) rfl (by kernel_rfl) (by kernel_rfl) (by kernel_rfl) (fun _ _ _ h => h) (Or.inl ⟨by rfl, ?_⟩) hHeld ?_
                · intro w9 hSw
                  try dsimp only at hSw
                  go_simp
                try simp only [Act.put, List.setIfInBounds_toArray, List.set_cons_zero, List.set_cons_succ]
                refine wpAnyH_take (i := 6) (oi := { dst := some 113, op := Op.load 3 (.tmp 112), type := 3, pos := "law.go:189", after := #[{ on := 5, ground := Ground.data }], guard := none }) (v := (.int .i64 q.nw)) rfl (by kernel_rfl) (by kernel_rfl) (by kernel_rfl) (fun _ _ _ h => h) (Or.inl ⟨by rfl, ?_⟩) hHeld ?_
                · intro w9 hSw
                  try dsimp only at hSw
                  have q9 := hSw
                  go_simp
                try simp only [Act.put, List.setIfInBounds_toArray, List.set_cons_zero, List.set_cons_succ]
                refine wpAnyH_ready (rs := [3]) (by kernel_rfl) (by simp) ?_
                refine AllReadyH.cons (o := { dst := some 110, op := Op.call { callee := Callee.value (.func 15), args := #[.tmp 107, .tmp 109], argTypes := #[25, 3] }, type := 26, pos := "law.go:189", after := #[{ on := 0, ground := Ground.data }, { on := 2, ground := Ground.data }], guard := none }) rfl (fun K hK => ?_) AllReadyH.nil
                go_simp
                refine Calls.mono (Td.tick1 q.nw) ?_
                rintro e V1 ⟨rfl, T61, bu1⟩
                have c1d := bu1.cell (b := wr.heap.size) (i := 1) (fun h => h.1 rfl) c1d
                have lt61 : wr.heap.size < V1.heap.size := World.block_lt_of_cell? _ _ c1d
                refine hK.out _ _ (by exact c1d) (fun hHeld => ?_)
                clear hK K
                try simp only [Act.put, List.setIfInBounds_toArray, List.set_cons_zero, List.set_cons_succ]
                refine wpAnyH_ready (rs := [7]) (by kernel_rfl) (by simp) ?_
                refine AllReadyH.cons (o := { dst := some 114, op := Op.call { callee := Callee.value (.func 15), args := #[.tmp 111, .tmp 113], argTypes := #[25, 3] }, type := 26, pos := "law.go:189", after := #[{ on := 4, ground := Ground.data }, { on := 6, ground := Ground.data }, { on := 3, ground := Ground.chain }], guard := none }) rfl (fun K hK => ?_) AllReadyH.nil
                go_simp
                refine Calls.mono (T61.tick2 (fun k hk => (by cases hk; exact lt61)) q.nw) ?_
                rintro e V2 ⟨rfl, T62, bu2⟩
                have c1d := bu2.cell (b := wr.heap.size) (i := 1) (fun h => h.1 rfl) c1d
                have lt62 : wr.heap.size < V2.heap.size := World.block_lt_of_cell? _ _ c1d
                refine hK.out _ _ (by exact c1d) (fun hHeld => ?_)
                clear hK K
                try simp only [Act.put, List.setIfInBounds_toArray, List.set_cons_zero, List.set_cons_succ]
                refine wpAnyH_take (i := 8) (oi := { dst := some 115, op := Op.binOp BinOp.neq 26 (.tmp 110) (.tmp 114) 26, type := 4, pos := "law.go:189", after := #[{ on := 3, ground := Ground.data }, { on := 7, ground := Ground.data }], guard := none }) (v := (.bool false)) rfl (by kernel_rfl) (by kernel_rfl) (by kernel_rfl) (fun _ _ _ h => h) (Or.inl ⟨by rfl, ?_⟩) hHeld ?_
                · intro w9 hSw
                  try dsimp only at hSw
                  go_simp
                try simp only [Act.put, List.setIfInBounds_toArray, List.set_cons_zero, List.set_cons_succ]
                refine wpAnyH_done (by kernel_rfl) ?_ _
                refine NoPanic.normal ?_
                have TB := T62.below (Below.refl _ _) (P' := fun _ => False) (Q' := fun _ => False) (fun _ h => h.elim) (fun _ h => h.elim)
                go_wp2
                exact ⟨⟨j + 1, _, by omega, int_eq (by omega), TB⟩, by simp [intOf] <;> omega⟩
            · have i1 : ¬ (↑j : Int) < ↑l2.length := by omega
              have K1 : Hid _ := hT.out.first.1
              have K2 : Hid _ := hT.out.second.1
              have K3 : Hid _ := hT.out.first.2.1
              have K4 : Hid _ := hT.out.second.2
              go_wp2_with fail
              refine Calls.mono K1.out ?_
              rintro e w' ⟨rfl, hw'⟩
              rw [hw']
              clear hw' w' K1
              go_wp2_with fail
              refine Calls.mono K2.out ?_
              rintro e w' ⟨rfl, hw'⟩
              rw [hw']
              clear hw' w' K2
              go_wp2_with fail
              refine Calls.mono K3.out ?_
              rintro e w' ⟨rfl, hw'⟩
              rw [hw']
              clear hw' w' K3
              go_wp2_with fail
              refine Calls.mono K4.out ?_
              rintro e w' ⟨rfl, hw'⟩
              rw [hw']
              clear hw' w' K4
              go_wp2
              go_ret
              exact ⟨rfl, HB1.out.trans (hT.out.bel.mono HB1.out.size)⟩
  · have KN : Hid _ := new_no gr by_ lf W1 hc
    clear hc
    go_enter Try.func7, Try.ntmps7
    go_wp2_with fail
    refine Calls.mono KN.out ?_
    rintro e W2 ⟨rfl, hW2⟩
    rw [hW2]
    clear hW2 W2
    go_wp2_with fail
    refine Calls.mono KN.out ?_
    rintro e W2 ⟨rfl, hW2⟩
    rw [hW2]
    clear hW2 W2 KN
    have KA : Hid _ := falive_any W1
    go_wp2_with fail
    refine Calls.mono KA.out ?_
    rintro e W3 ⟨rfl, b3⟩
    go_wp2
    go_ret
    exact ⟨rfl, bel_tr b1 b3⟩
end Go.Proofs.Ytebdpiedgjdjeaa
