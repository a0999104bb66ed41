/- Texts joined: ChunkMoreWalk -/
import Derived.Test.YtgppfkbapieneaaDoorCmx37
namespace Go.Proofs.YtgppfkbapieneaaDoor
abbrev cmx38o0 : Oper := { dst := some 87, op := Op.call { callee := Callee.value (.func 22), args := #[.tmp 81, .tmp 86], argTypes := #[24, 24] }, type := 4, pos := "law.go:100", after := #[{ on := 9, ground := Ground.data }, { on := 14, ground := Ground.data }, { on := 9, ground := Ground.chain }], guard := none }
abbrev cmx38o1 : Oper := { dst := some 81, op := Op.call { callee := Callee.builtin Builtin.append, args := #[.tmp 77, .tmp 80], argTypes := #[24, 24] }, type := 24, pos := "law.go:100", after := #[{ on := 5, ground := Ground.data }, { on := 8, ground := Ground.data }, { on := 5, ground := Ground.chain }], guard := none }
abbrev cmx38o2 : Oper := { dst := some 77, op := Op.call { callee := Callee.builtin Builtin.append, args := #[.const (Value.slice none 0 0), .tmp 76], argTypes := #[24, 24] }, type := 24, pos := "law.go:100", after := #[{ on := 4, ground := Ground.data }], guard := none }
abbrev cmx38o3 : Oper := { dst := some 80, op := Op.buildSlice 24 1 #[(0, .tmp 79)], type := 24, pos := "law.go:100", after := #[{ on := 7, ground := Ground.data }], guard := none }
abbrev cmx38o4 : Oper := { dst := some 88, op := Op.unOp UnOp.not 4 (.tmp 87), type := 4, pos := "law.go:100", after := #[{ on := 15, ground := Ground.data }], guard := none }
end Go.Proofs.YtgppfkbapieneaaDoor
namespace Go.Proofs.YtgppfkbapieneaaDoor
open Go.RowKit
set_option linter.unusedVariables false
set_option linter.unusedSimpArgs false
set_option maxRecDepth 100000 in
set_option maxHeartbeats 16000000 in
theorem chunkMore_err (a : Option Addr) (c : Nat) (l : List Rl) (dim : Int) (w : World) (hrow : RowR w a l) (hT : Top w) (he : errC l dim ≠ 0) : Calls Tryd.prog 8 #[.slice a l.length c, .int .i64 dim] w fun e w' => e = .returned (.bool true) ∧ Below w.heap.size w w' := by
  have KA : Hid (∀ W, Top W → Calls Tryd.prog 13 #[] W fun e w' => e = .returned (.bool true) ∧ Below W.heap.size W w') := alive_ck
  have HT : Hid (Top w) := hT
  obtain ⟨N, hN⟩ : ∃ N, l.length = N := ⟨_, rfl⟩
  have K1 := hidW (cut_err a c l dim w hT hrow he)
  rw [hN] at K1 ⊢
  obtain ⟨E, hE⟩ : ∃ E, errC l dim = E := ⟨_, rfl⟩
  rw [hE] at K1 he
  have hne : (E != 0) = true := by simpa using he
  clear hE hrow hT hN
  go_enter Tryd.func8, Tryd.ntmps8
  go_wp2_with fail
  refine Calls.mono K1.out ?_
  rintro e W2 ⟨rfl, b2⟩
  have b3 : Below w.heap.size w (W2.alloc (.cells zc 27)) := bel_al b2 rfl
  have KA' : Hid _ := KA.out (W2.alloc (.cells zc 27)) (HT.out.below b3)
  go_wp2_with fail
  refine Calls.mono KA'.out ?_
  rintro e W4 ⟨rfl, b34⟩
  have b4 := bel_tr b3 b34
  go_wp2
  go_ret
  exact ⟨rfl, b4⟩
set_option maxRecDepth 100000 in
set_option maxHeartbeats 16000000 in
theorem chunkMore_skip (a : Option Addr) (c : Nat) (l : List Rl) (dim : Int) (w : World) (hrow : RowR w a l) (hT : Top w) (he : errC l dim = 0) (hs : 4 < dim ∨ 64 ≤ l.length) : Calls Tryd.prog 8 #[.slice a l.length c, .int .i64 dim] w fun e w' => e = .returned (.bool true) ∧ Below w.heap.size w w' := by
  have KA : Hid (∀ W, Top W → Calls Tryd.prog 13 #[] W fun e w' => e = .returned (.bool true) ∧ Below W.heap.size W w') := alive_ck
  have HT : Hid (Top w) := hT
  have HE0 : Hid (errC l dim = 0) := he
  obtain ⟨N, hN⟩ : ∃ N, l.length = N := ⟨_, rfl⟩
  have HN : Hid (l.length = N) := hN
  have K1 := hidW (cut_ok a c l dim w hT hrow he)
  have hl64 : l.length ≤ 64 := by obtain ⟨d, _, _, h, _⟩ := err_ok he; exact h
  have HL64 : Hid (l.length ≤ 64) := hl64
  have HRow : Hid (RowR w a l) := hrow
  rw [hN] at K1 hl64 hs ⊢
  clear hrow hT he hN
  go_enter Tryd.func8, Tryd.ntmps8
  go_wp2_with fail
  refine Calls.mono K1.out ?_
  rintro e W2 ⟨g1, c1, ka, kc, sa, sc, vs, L, K, S, rfl, ci, cp, b2⟩
  have HCI : Hid (CutIn W2 w.heap.size g1 c1 ka kc sa sc vs L K S) := ci
  have HCP : Hid (CutP l dim.toNat L K S) := cp
  clear K1 ci cp
  obtain ⟨M, hM⟩ : ∃ M, L.length = M := ⟨_, rfl⟩
  have HM : Hid (L.length = M) := hM
  obtain ⟨Q, hQ⟩ : ∃ Q, S.length = Q := ⟨_, rfl⟩
  have HQ : Hid (S.length = Q) := hQ
  have hMN : M ≤ 2 * N + 1 := by have := HCP.out.few; rw [HN.out, hM] at this; exact this
  have hQM : Q ≤ M := by have := HCP.out.num; rw [hQ, hM] at this; exact this
  rw [hM, hQ]
  clear hM hQ
  obtain ⟨W3, hW3⟩ : ∃ W3, W2.alloc (.cells #[.slice (some ⟨g1, 0, none⟩) M c1, .slice ka M kc, .slice sa Q sc] 27) = W3 := ⟨_, rfl⟩
  have b23 := bel_nw hW3
  have b3 := bel_tr b2 b23
  have KA' : Hid _ := KA.out W3 (HT.out.below b3)
  by_cases h4 : 4 < dim
  · go_wp2_with fail
    refine Calls.mono KA'.out ?_
    rintro e W4 ⟨rfl, b34⟩
    have b4 := bel_tr b3 b34
    go_wp2
    go_ret
    exact ⟨rfl, b4⟩
  · have h64 : (64 : Int) ≤ (N : Int) := by omega
    go_wp2_with fail
    refine Calls.mono KA'.out ?_
    rintro e W4 ⟨rfl, b34⟩
    have b4 := bel_tr b3 b34
    go_wp2
    go_ret
    exact ⟨rfl, b4⟩
set_option maxRecDepth 100000 in
set_option maxHeartbeats 16000000 in
theorem chunkMore_main (a : Option Addr) (c : Nat) (l : List Rl) (dim : Int) (w : World) (lc : l.length ≤ c) (cm : c * 136 ≤ 140737488351232 ∧ (a = none → c = 0)) (hrow : RowR w a l) (hT : Top w) (he : errC l dim = 0) (h4 : ¬ 4 < dim) (h64 : l.length < 64) : Calls Tryd.prog 8 #[.slice a l.length c, .int .i64 dim] w fun e w' => e = .returned (.bool true) ∧ Below w.heap.size w w' := by
  have KS : Hid (∀ (W : World) (a b : Option Addr) (c d : Nat) (x : List Int), RowI W a x → RowI W b x → Calls Tryd.prog 22 #[.slice a x.length c, .slice b x.length d] W fun e w' => e = .returned (.bool true) ∧ Below W.heap.size W w') := fun W a b c d x h h' =>
    (sameI_any a b c d x x W h h').mono (by rintro e w' ⟨rfl, n, rfl⟩; exact ⟨by simp, below_drewN (Below.refl _ _) n⟩)
  have KW : Hid (∀ W, Calls Tryd.prog 23 #[.int .i64 0, .int .i64 65535] W fun e w' => e = .returned (.agg (wideLV 0 65535)) ∧ Below W.heap.size W w') := fun W => wideL_any 0 65535 W
  have KF : Hid (∀ W, Calls Tryd.prog 24 #[.agg (wideLV 0 65535)] W fun e w' => e = .returned (.bool true) ∧ Below W.heap.size W w') := fun W => rrightRule_any (wideL 0 65535) W (wideL_ok _ _)
  have HH64 : Hid (l.length < 64) := h64
  have HH4 : Hid (¬ 4 < dim) := h4
  have HNIL : Hid (a = none → c = 0) := cm.2
  have KA : Hid (∀ W, Top W → Calls Tryd.prog 13 #[] W fun e w' => e = .returned (.bool true) ∧ Below W.heap.size W w') := alive_ck
  have HT : Hid (Top w) := hT
  have HE0 : Hid (errC l dim = 0) := he
  obtain ⟨N, hN⟩ : ∃ N, l.length = N := ⟨_, rfl⟩
  have HN : Hid (l.length = N) := hN
  have K1 := hidW (cut_ok a c l dim w hT hrow he)
  have hl64 : l.length ≤ 64 := by obtain ⟨d, _, _, h, _⟩ := err_ok he; exact h
  have HL64 : Hid (l.length ≤ 64) := hl64
  have HRow : Hid (RowR w a l) := hrow
  rw [hN] at K1 hl64 lc h64 ⊢
  clear hrow hT he hN
  go_enter Tryd.func8, Tryd.ntmps8
  go_wp2_with fail
  refine Calls.mono K1.out ?_
  rintro e W2 ⟨g1, c1, ka, kc, sa, sc, vs, L, K, S, rfl, ci, cp, b2⟩
  have HCI : Hid (CutIn W2 w.heap.size g1 c1 ka kc sa sc vs L K S) := ci
  have HCP : Hid (CutP l dim.toNat L K S) := cp
  clear K1 ci cp
  obtain ⟨M, hM⟩ : ∃ M, L.length = M := ⟨_, rfl⟩
  have HM : Hid (L.length = M) := hM
  obtain ⟨Q, hQ⟩ : ∃ Q, S.length = Q := ⟨_, rfl⟩
  have HQ : Hid (S.length = Q) := hQ
  have hMN : M ≤ 2 * N + 1 := by have := HCP.out.few; rw [HN.out, hM] at this; exact this
  have hQM : Q ≤ M := by have := HCP.out.num; rw [hQ, hM] at this; exact this
  rw [hM, hQ]
  clear hM hQ
  obtain ⟨W3, hW3⟩ : ∃ W3, W2.alloc (.cells #[.slice (some ⟨g1, 0, none⟩) M c1, .slice ka M kc, .slice sa Q sc] 27) = W3 := ⟨_, rfl⟩
  have b23 := bel_nw hW3
  have b3 := bel_tr b2 b23
  clear cm
  have hN64 : ¬ (64 : Int) ≤ (N : Int) := by omega
  have h4' : dim ≤ 4 := by omega
  have HB3 : Hid (Blk W3 W2.heap.size 27 #[.slice (some ⟨g1, 0, none⟩) M c1, .slice ka M kc, .slice sa Q sc]) := blk_nw hW3
  have HCI3 : Hid (CutIn W3 w.heap.size g1 c1 ka kc sa sc vs L K S) := HCI.out.below b23
  obtain ⟨a1, cc1, W4, hrun1, OR1, b34⟩ := run_appRs W3 22 W3.heap.size none 0 [] (OwnR.nil _ _) a c l (HRow.out.low b3) HNIL.out (by simp only [List.length_nil]; rw [HN.out]; omega) (Nat.le_refl _)
  rw [List.nil_append] at hrun1 OR1
  rw [HN.out] at hrun1
  have b34' : Below W3.heap.size W3 W4 := b34
  have b4 := bel_tr b3 b34
  have HB4 : Hid (Blk W4 W2.heap.size 27 #[.slice (some ⟨g1, 0, none⟩) M c1, .slice ka M kc, .slice sa Q sc]) := HB3.out.kept b34
  have HCI4 : Hid (CutIn W4 w.heap.size g1 c1 ka kc sa sc vs L K S) := HCI3.out.below b34
  have HOR1 : Hid (OwnR W4 W3.heap.size a1 cc1 l) := OR1
  have HB34 : Hid (W3.heap.size ≤ W4.heap.size) := b34.size
  clear OR1 b2 b23
  go_wp2_with (at_builtin; refine wpList_runA rfl 22 _ _ rfl _ _ (by rfl) (by rfl) _ _ hrun1 ?_)
  refine Calls.mono (KW.out _) ?_
  rintro e W5 ⟨rfl, b45⟩
  have b5 := bel_tr b4 b45
  have HB5 : Hid (Blk W5 W2.heap.size 27 #[.slice (some ⟨g1, 0, none⟩) M c1, .slice ka M kc, .slice sa Q sc]) := HB4.out.kept b45
  have HCI5 : Hid (CutIn W5 w.heap.size g1 c1 ka kc sa sc vs L K S) := HCI4.out.below b45
  have HOR5 : Hid (OwnR W5 W3.heap.size a1 cc1 l) := HOR1.out.below b45
  have HB35 : Hid (W3.heap.size ≤ W5.heap.size) := Nat.le_trans HB34.out b45.size
  clear hrun1 b34 b34' b45 b4 hW3
  obtain ⟨W6, hW6⟩ : ∃ W6, W5.alloc (.cells (wideL 0 65535).v 55) = W6 := ⟨_, rfl⟩
  have b56 := bel_nw hW6
  have b6 := bel_tr b5 b56
  have HB6 : Hid (Blk W6 W2.heap.size 27 #[.slice (some ⟨g1, 0, none⟩) M c1, .slice ka M kc, .slice sa Q sc]) := HB5.out.kept b56
  have HCI6 : Hid (CutIn W6 w.heap.size g1 c1 ka kc sa sc vs L K S) := HCI5.out.below b56
  have HRO6 : Hid (RowR W6 (some ⟨W5.heap.size, 0, none⟩) [wideL 0 65535]) := row_one W5 W6 (wideL 0 65535) 55 hW6 (wideL_ok _ _)
  obtain ⟨a2, cc2, W7, hrun2, OR2, b67⟩ := run_appRs W6 22 W3.heap.size a1 cc1 l (HOR5.out.below b56) (some ⟨W5.heap.size, 0, none⟩) 1 [wideL 0 65535] HRO6.out (by intro h; cases h) (by simp only [List.length_cons, List.length_nil]; rw [HN.out]; omega) (Nat.le_trans HB35.out b56.size)
  have hlm : (l ++ [wideL 0 65535]).length = N + 1 := by rw [List.length_append, HN.out]; rfl
  rw [hlm, HN.out] at hrun2
  have hb7 : Below w.heap.size w W7 := b6.trans (b67.mono b3.size)
  have HB7 : Hid (Blk W7 W2.heap.size 27 #[.slice (some ⟨g1, 0, none⟩) M c1, .slice ka M kc, .slice sa Q sc]) := HB6.out.below b67 HB3.out.lt
  have HCI7 : Hid (CutIn W7 w.heap.size g1 c1 ka kc sa sc vs L K S) := CutIn.low HCI3.out HCI6.out b67
  have HRM : Hid (RowR W7 a2 (l ++ [wideL 0 65535])) := OR2.row (fun r hr => by
    rcases List.mem_append.1 hr with h | h
    · exact HRow.out.each r h
    · simp only [List.mem_singleton] at h; subst h; exact wideL_ok _ _)
  have K2 := hidW (cut_ok a2 cc2 (l ++ [wideL 0 65535]) dim W7 (HT.out.below hb7) HRM.out (err_more HE0.out HH64.out))
  rw [hlm] at K2
  have HW6 : Hid (W5.alloc (.cells (wideLV 0 65535) 55) = W6) := hW6
  clear hW6 b56 b6 b5 OR2
  have hrun2' := hrun2
  rw [← HW6.out] at hrun2'
  go_wp2_with (at_builtin; refine wpList_runA rfl 22 _ _ rfl _ _ (by rfl) (by rfl) _ _ hrun2' ?_)
  refine Calls.mono K2.out ?_
  rintro e W8 ⟨g2, c2, kb, kd, sb, sd, vs2, L2, K2', S2, rfl, ci2, cp2, b78⟩
  obtain ⟨eL, eK, eS⟩ := cut_more (by omega) HCP.out cp2
  have HCI2 : Hid (CutIn W8 W7.heap.size g2 c2 kb kd sb sd vs2 L K (S.map (· ++ [l.length]))) := by rw [← eL, ← eK, ← eS]; exact ci2
  have HCP2 : Hid (CutP (l ++ [wideL 0 65535]) dim.toNat L K (S.map (· ++ [l.length]))) := by rw [← eL, ← eK, ← eS]; exact cp2
  have hS2 : S2.length = Q := by rw [eS, List.length_map, HQ.out]
  rw [eL, HM.out, hS2]
  have b8 := bel_tr hb7 b78
  have HB8 : Hid (Blk W8 W2.heap.size 27 #[.slice (some ⟨g1, 0, none⟩) M c1, .slice ka M kc, .slice sa Q sc]) := HB7.out.kept b78
  have HCI8 : Hid (CutIn W8 w.heap.size g1 c1 ka kc sa sc vs L K S) := HCI7.out.below b78
  clear eL eK eS ci2 cp2 hS2 K2 hrun2 hrun2' b67 b78 hb7
  obtain ⟨W9, hW9⟩ : ∃ W9, W8.alloc (.cells #[.slice (some ⟨g2, 0, none⟩) M c2, .slice kb M kd, .slice sb Q sd] 27) = W9 := ⟨_, rfl⟩
  have b89 := bel_nw hW9
  have b9 := bel_tr b8 b89
  have HB9 : Hid (Blk W9 W2.heap.size 27 #[.slice (some ⟨g1, 0, none⟩) M c1, .slice ka M kc, .slice sa Q sc]) := HB8.out.kept b89
  have HD9 : Hid (Blk W9 W8.heap.size 27 #[.slice (some ⟨g2, 0, none⟩) M c2, .slice kb M kd, .slice sb Q sd]) := blk_nw hW9
  have HCI9 : Hid (CutIn W9 w.heap.size g1 c1 ka kc sa sc vs L K S) := HCI8.out.below b89
  have HCJ9 : Hid (CutIn W9 W7.heap.size g2 c2 kb kd sb sd vs2 L K (S.map (· ++ [l.length]))) := HCI2.out.below b89
  have KS1 : Hid _ := KS.out W9 ka kb kc kd (ints K) (HCI9.out.ri HCP.out HL64.out) (HCJ9.out.ri HCP2.out (by rw [hlm]; omega))
  rw [List.length_map, HCP.out.len, HM.out] at KS1
  have d0 := HB9.out.cell 0 (.slice (some ⟨g1, 0, none⟩) M c1) rfl
  have d1 := HB9.out.cell 1 (.slice ka M kc) rfl
  have d2 := HB9.out.cell 2 (.slice sa Q sc) rfl
  have e0 := HD9.out.cell 0 (.slice (some ⟨g2, 0, none⟩) M c2) rfl
  have e1 := HD9.out.cell 1 (.slice kb M kd) rfl
  have e2 := HD9.out.cell 2 (.slice sb Q sd) rfl
  clear b89 b8
  go_wp2_with fail
  refine Calls.mono KS1.out ?_
  rintro e W10 ⟨rfl, b910⟩
  have b10 := bel_tr b9 b910
  have HB10 : Hid (Blk W10 W2.heap.size 27 #[.slice (some ⟨g1, 0, none⟩) M c1, .slice ka M kc, .slice sa Q sc]) := HB9.out.kept b910
  have HD10 : Hid (Blk W10 W8.heap.size 27 #[.slice (some ⟨g2, 0, none⟩) M c2, .slice kb M kd, .slice sb Q sd]) := HD9.out.kept b910
  have HR10 : Hid (RowS W10 sa (S.map ints)) := (HCI9.out.below b910).rs HCP.out HL64.out
  have HCI10 : Hid (CutIn W10 w.heap.size g1 c1 ka kc sa sc vs L K S) := HCI9.out.below b910
  have HQ10 : Hid (RowS W10 sb ((S.map (· ++ [l.length])).map ints)) := (HCJ9.out.below b910).rs HCP2.out (by rw [hlm]; omega)
  have d0 := HB10.out.cell 0 (.slice (some ⟨g1, 0, none⟩) M c1) rfl
  have d1 := HB10.out.cell 1 (.slice ka M kc) rfl
  have d2 := HB10.out.cell 2 (.slice sa Q sc) rfl
  have e0 := HD10.out.cell 0 (.slice (some ⟨g2, 0, none⟩) M c2) rfl
  have e1 := HD10.out.cell 1 (.slice kb M kd) rfl
  have e2 := HD10.out.cell 2 (.slice sb Q sd) rfl
  clear b910 b9 KS1 hW9
  go_wp2_with fail
  go_loopw [69] (fun v wr => ∃ (i : Nat), i ≤ Q ∧ v = .int .i64 i ∧ Below W10.heap.size W10 wr) (fun v _ => Q - (intOf v).toNat)
  case atStart => exact ⟨0, Nat.zero_le _, rfl, Below.refl _ _⟩
  case round =>
    obtain ⟨i, hi, rfl, bw⟩ := hrel
    by_cases hlt : i < Q
    · have ik : (i : Int) < (Q : Int) := by omega
      have in0 : (0 : Int) ≤ (i : Int) := by omega
      have hw1 : IntKind.i64.wrap ((i : Int) + 1) = ((i + 1 : Nat) : Int) := by simp [IntKind.wrap, IntKind.bits, IntKind.signed]; omega
      obtain ⟨s, hs⟩ : ∃ s, S[i]? = some s := ⟨_, List.getElem?_eq_getElem (by rw [HQ.out]; exact hlt)⟩
      have HSL : Hid (s.length ≤ 64) := by
        have h1 := HCP.out.each s (List.mem_of_getElem? hs)
        have h2 := HN.out
        show _ ≤ _
        omega
      obtain ⟨b, off, ai, ci, hsa, x1, hown⟩ := (HCI10.out.below bw).set.at_ hs
      have hri : RowI wr ai (ints s) := hown.row (by have := HSL.out; omega)
      obtain ⟨b', off', ai', ci', hsb, y1, hrj⟩ := (HQ10.out.below bw).cells i (ints (s ++ [l.length])) (by rw [List.getElem?_map, List.getElem?_map, hs]; rfl)
      subst hsa
      subst hsb
      obtain ⟨n, hn⟩ : ∃ n, s.length = n := ⟨_, rfl⟩
      have HSN : Hid (s.length = n) := hn
      rw [hn] at x1
      have HSN1 : Hid ((s ++ [N]).length = n + 1) := by show _ = _; rw [List.length_append, hn]; rfl
      rw [List.length_map, List.length_append, hn] at y1
      have y1' : wr.cell? ⟨b', off' + i, none⟩ = some (.slice ai' (n + 1) ci') := y1
      rw [HN.out] at hrj
      have HNI : Hid (ai = none → ci = 0 ∧ s = []) := fun e => OwnI.nil_of (e ▸ hown)
      have HC : Hid (Four wr W2.heap.size b off Q sc i ai n ci W8.heap.size b' off' sd ai' ci') := ⟨kept bw d2, x1, kept bw e2, y1'⟩
      have HRIWd : Hid (RowI wr.drew ai (ints s)) := hri.below (below_drew wr)
      have HRJWd : Hid (RowI wr.drew ai' (ints (s ++ [N]))) := hrj.below (below_drew wr)
      have HCWd : Hid (Four wr.drew W2.heap.size b off Q sc i ai n ci W8.heap.size b' off' sd ai' ci') := HC.out.below (below_drew wr)
      have bwWd : Below W10.heap.size W10 wr.drew := bw.drew
      clear x1 y1 y1' hri hrj hs hn hown
      go_wp2_with fail
      refine wp_region_noPanic ?_
      refine wp_region_held_drew (S := fun w'' => w''.cell? ⟨W2.heap.size, 2, none⟩ = some (.slice (some ⟨b, off, none⟩) Q sc) ∧ w''.cell? ⟨b, off + i, none⟩ = some (.slice ai n ci) ∧ w''.cell? ⟨W8.heap.size, 2, none⟩ = some (.slice (some ⟨b', off', none⟩) Q sd) ∧ w''.cell? ⟨b', off' + i, none⟩ = some (.slice ai' (n + 1) ci')) (by kernel_rfl) (by exact HCWd.out.cells) (fun hHeld => ?_)
      refine wpAnyH_take (i := 0) (oi := { dst := some 72, op := Op.fieldAddr 27 (.tmp 5) 2, type := 0, pos := "law.go:100", after := #[], guard := none }) (v := (.pointer (some ⟨W2.heap.size, 2, none⟩))) rfl (by kernel_rfl) (by kernel_rfl) (by kernel_rfl) (fun _ _ _ h => h) (Or.inl ⟨by rfl, ?_⟩) hHeld ?_
      · intro w9 hSw
        try dsimp only at hSw
        go_simp
      try simp only [Act.put, List.setIfInBounds_toArray, List.set_cons_zero, List.set_cons_succ]
      refine wpAnyH_take (i := 1) (oi := { dst := some 73, op := Op.load 25 (.tmp 72), type := 25, pos := "law.go:100", after := #[{ on := 0, ground := Ground.data }], guard := none }) (v := (.slice (some ⟨b, off, none⟩) Q sc)) rfl (by kernel_rfl) (by kernel_rfl) (by kernel_rfl) (fun _ _ _ h => h) (Or.inl ⟨by rfl, ?_⟩) hHeld ?_
      · intro w9 hSw
        try dsimp only at hSw
        go_simp
      try simp only [Act.put, List.setIfInBounds_toArray, List.set_cons_zero, List.set_cons_succ]
      refine wpAnyH_take (i := 2) (oi := { dst := some 74, op := Op.move (.tmp 9), type := 3, pos := "law.go:100", after := #[], guard := none }) (v := (.int .i64 (i : Int))) rfl (by kernel_rfl) (by kernel_rfl) (by kernel_rfl) (fun _ _ _ h => h) (Or.inl ⟨by rfl, ?_⟩) hHeld ?_
      · intro w9 hSw
        try dsimp only at hSw
        go_simp
      try simp only [Act.put, List.setIfInBounds_toArray, List.set_cons_zero, List.set_cons_succ]
      refine wpAnyH_take (i := 3) (oi := { dst := some 75, op := Op.indexAddr 25 (.tmp 73) (.tmp 74), type := 0, pos := "law.go:100", after := #[{ on := 1, ground := Ground.data }, { on := 2, ground := Ground.data }], guard := none }) (v := (.pointer (some ⟨b, off + i, none⟩))) rfl (by kernel_rfl) (by kernel_rfl) (by kernel_rfl) (fun _ _ _ h => h) (Or.inl ⟨by rfl, ?_⟩) hHeld ?_
      · intro w9 hSw
        try dsimp only at hSw
        go_simp
      try simp only [Act.put, List.setIfInBounds_toArray, List.set_cons_zero, List.set_cons_succ]
      refine wpAnyH_take (i := 4) (oi := { dst := some 76, op := Op.load 24 (.tmp 75), type := 24, pos := "law.go:100", after := #[{ on := 3, ground := Ground.data }], guard := none }) (v := (.slice ai n ci)) rfl (by kernel_rfl) (by kernel_rfl) (by kernel_rfl) (fun _ _ _ h => h) (Or.inl ⟨by rfl, ?_⟩) hHeld ?_
      · intro w9 hSw
        try dsimp only at hSw
        go_simp
      try simp only [Act.put, List.setIfInBounds_toArray, List.set_cons_zero, List.set_cons_succ]
      refine wpAnyH_take (i := 6) (oi := { dst := some 78, op := Op.move (.tmp 0), type := 22, pos := "law.go:100", after := #[], guard := none }) (v := (.slice a N c)) rfl (by kernel_rfl) (by kernel_rfl) (by kernel_rfl) (fun _ _ _ h => h) (Or.inl ⟨by rfl, ?_⟩) hHeld ?_
      · intro w9 hSw
        try dsimp only at hSw
        go_simp
      try simp only [Act.put, List.setIfInBounds_toArray, List.set_cons_zero, List.set_cons_succ]
      refine wpAnyH_take (i := 7) (oi := { dst := some 79, op := Op.call { callee := Callee.builtin Builtin.len, args := #[.tmp 78], argTypes := #[22] }, type := 3, pos := "law.go:100", after := #[{ on := 6, ground := Ground.data }], guard := none }) (v := (.int .i64 (N : Int))) rfl (by kernel_rfl) (by kernel_rfl) (by kernel_rfl) (fun _ _ _ h => h) (Or.inl ⟨by rfl, ?_⟩) hHeld ?_
      · intro w9 hSw
        try dsimp only at hSw
        go_simp
      try simp only [Act.put, List.setIfInBounds_toArray, List.set_cons_zero, List.set_cons_succ]
      refine wpAnyH_take (i := 10) (oi := { dst := some 82, op := Op.fieldAddr 27 (.tmp 7) 2, type := 0, pos := "law.go:100", after := #[], guard := none }) (v := (.pointer (some ⟨W8.heap.size, 2, none⟩))) rfl (by kernel_rfl) (by kernel_rfl) (by kernel_rfl) (fun _ _ _ h => h) (Or.inl ⟨by rfl, ?_⟩) hHeld ?_
      · intro w9 hSw
        try dsimp only at hSw
        go_simp
      try simp only [Act.put, List.setIfInBounds_toArray, List.set_cons_zero, List.set_cons_succ]
      refine wpAnyH_take (i := 11) (oi := { dst := some 83, op := Op.load 25 (.tmp 82), type := 25, pos := "law.go:100", after := #[{ on := 10, ground := Ground.data }], guard := none }) (v := (.slice (some ⟨b', off', none⟩) Q sd)) rfl (by kernel_rfl) (by kernel_rfl) (by kernel_rfl) (fun _ _ _ h => h) (Or.inl ⟨by rfl, ?_⟩) hHeld ?_
      · intro w9 hSw
        try dsimp only at hSw
        go_simp
      try simp only [Act.put, List.setIfInBounds_toArray, List.set_cons_zero, List.set_cons_succ]
      refine wpAnyH_take (i := 12) (oi := { dst := some 84, op := Op.move (.tmp 9), type := 3, pos := "law.go:100", after := #[], guard := none }) (v := (.int .i64 (i : Int))) rfl (by kernel_rfl) (by kernel_rfl) (by kernel_rfl) (fun _ _ _ h => h) (Or.inl ⟨by rfl, ?_⟩) hHeld ?_
      · intro w9 hSw
        try dsimp only at hSw
        go_simp
      try simp only [Act.put, List.setIfInBounds_toArray, List.set_cons_zero, List.set_cons_succ]
      refine wpAnyH_take (i := 13) (oi := { dst := some 85, op := Op.indexAddr 25 (.tmp 83) (.tmp 84), type := 0, pos := "law.go:100", after := #[{ on := 11, ground := Ground.data }, { on := 12, ground := Ground.data }], guard := none }) (v := (.pointer (some ⟨b', off' + i, none⟩))) rfl (by kernel_rfl) (by kernel_rfl) (by kernel_rfl) (fun _ _ _ h => h) (Or.inl ⟨by rfl, ?_⟩) hHeld ?_
      · intro w9 hSw
        try dsimp only at hSw
        go_simp
      try simp only [Act.put, List.setIfInBounds_toArray, List.set_cons_zero, List.set_cons_succ]
      refine wpAnyH_take (i := 14) (oi := { dst := some 86, op := Op.load 24 (.tmp 85), type := 24, pos := "law.go:100", after := #[{ on := 13, ground := Ground.data }], guard := none }) (v := (.slice ai' (n + 1) ci')) rfl (by kernel_rfl) (by kernel_rfl) (by kernel_rfl) (fun _ _ _ h => h) (Or.inl ⟨by rfl, ?_⟩) hHeld ?_
      · intro w9 hSw
        try dsimp only at hSw
        go_simp
      try simp only [Act.put, List.setIfInBounds_toArray, List.set_cons_zero, List.set_cons_succ]
      refine wpAnyH_ready (rs := [5, 8]) (by kernel_rfl) (by simp) ?_
      refine AllReadyH.cons (o := cmx38o2) rfl (fun K hK => ?_) (AllReadyH.cons (o := cmx38o3) rfl (fun K hK => ?_) AllReadyH.nil)
      · obtain ⟨a3, c3, X1, hr1, O3, bqX1⟩ := run_appIs wr.drew 24 wr.drew.heap.size none 0 [] (OwnI.nil _ _) ai ci s (HRIWd.out) HNI.out (by simp only [List.length_nil]; have := HSL.out; omega) (Nat.le_refl _)
        rw [List.nil_append] at hr1 O3
        have HCX1 : Hid (Four X1 W2.heap.size b off Q sc i ai n ci W8.heap.size b' off' sd ai' ci') := HCWd.out.below bqX1
        have HRJX1 : Hid (RowI X1 ai' (ints (s ++ [N]))) := HRJWd.out.below bqX1
        have bwX1 := bel_tr bwWd bqX1
        have HOX1 : Hid (OwnI X1 wr.drew.heap.size a3 c3 s) := O3
        rw [HSN.out] at hr1
        refine step_runA rfl 24 _ _ rfl _ _ (by rfl) (by rfl) _ _ hr1 ?_
        refine hK.out _ _ ?_ (fun hHeld => ?_)
        · exact HCX1.out.cells
        clear hK K
        try simp only [Act.put, List.setIfInBounds_toArray, List.set_cons_zero, List.set_cons_succ]
        refine wpAnyH_ready (rs := [8]) (by kernel_rfl) (by simp) ?_
        refine AllReadyH.cons (o := cmx38o3) rfl (fun K hK => ?_) AllReadyH.nil
        obtain ⟨X2, hX2⟩ : ∃ X, X1.alloc (.cells #[.int .i64 (N : Int)] 3) = X := ⟨_, rfl⟩
        have bqX2 := bel_nw hX2
        have HCX2 : Hid (Four X2 W2.heap.size b off Q sc i ai n ci W8.heap.size b' off' sd ai' ci') := HCX1.out.below bqX2
        have HRJX2 : Hid (RowI X2 ai' (ints (s ++ [N]))) := HRJX1.out.below bqX2
        have bwX2 := bel_tr bwX1 bqX2
        have HRNX2 : Hid (RowI X2 (some ⟨X1.heap.size, 0, none⟩) (ints [N])) := rowi_one X1 X2 N _ hX2
        go_simp
        try rw [hX2]
        refine hK.out _ _ ?_ (fun hHeld => ?_)
        · exact HCX2.out.cells
        clear hK K
        try simp only [Act.put, List.setIfInBounds_toArray, List.set_cons_zero, List.set_cons_succ]
        refine wpAnyH_ready (rs := [9]) (by kernel_rfl) (by simp) ?_
        refine AllReadyH.cons (o := cmx38o1) rfl (fun K hK => ?_) AllReadyH.nil
        have hbd : Below wr.drew.heap.size wr.drew X2 := bel_tr bqX1 bqX2
        obtain ⟨a4, c4, Y, hr2, O4, bqY⟩ := run_appIs X2 24 wr.drew.heap.size a3 c3 s (HOX1.out.below bqX2) _ 1 [N] HRNX2.out (by intro h; cases h) (by simp only [List.length_cons, List.length_nil]; have := HSL.out; omega) (hbd.size)
        rw [HSN1.out, HSN.out] at hr2
        have hbY : Below wr.drew.heap.size wr.drew Y := hbd.trans (bqY.mono (Nat.le_refl _))
        have HCY : Hid (Four Y W2.heap.size b off Q sc i ai n ci W8.heap.size b' off' sd ai' ci') := HCWd.out.below hbY
        have HRY : Hid (RowI Y ai' (ints (s ++ [N]))) := HRJWd.out.below hbY
        have bwY := bel_tr bwWd hbY
        have KY : Hid _ := KS.out Y a4 ai' c4 ci' (ints (s ++ [N])) (O4.row (by rw [HSN1.out]; have := HSL.out; have := HSN.out; omega)) HRY.out
        rw [List.length_map, HSN1.out] at KY
        refine step_runA rfl 24 _ _ rfl _ _ (by rfl) (by rfl) _ _ hr2 ?_
        refine hK.out _ _ ?_ (fun hHeld => ?_)
        · exact HCY.out.cells
        clear hK K
        try simp only [Act.put, List.setIfInBounds_toArray, List.set_cons_zero, List.set_cons_succ]
        refine wpAnyH_ready (rs := [15]) (by kernel_rfl) (by simp) ?_
        refine AllReadyH.cons (o := cmx38o0) rfl (fun K hK => ?_) AllReadyH.nil
        go_simp
        refine Calls.mono KY.out ?_
        rintro e Z ⟨rfl, bbZ⟩
        have bwZ := bel_tr bwY bbZ
        refine hK.out _ _ ?_ (fun hHeld => ?_)
        · exact (HCY.out.below bbZ).cells
        clear hK K
        try simp only [Act.put, List.setIfInBounds_toArray, List.set_cons_zero, List.set_cons_succ]
        refine wpAnyH_take (i := 16) (oi := cmx38o4) (v := (.bool false)) rfl (by kernel_rfl) (by kernel_rfl) (by kernel_rfl) (fun _ _ _ h => h) (Or.inl ⟨by rfl, ?_⟩) hHeld ?_
        · intro w9 hSw
          try dsimp only at hSw
          go_simp
        try simp only [Act.put, List.setIfInBounds_toArray, List.set_cons_zero, List.set_cons_succ]
        refine wpAnyH_done (by kernel_rfl) ?_ _
        refine NoPanic.normal ?_

        go_wp2
        exact ⟨⟨i + 1, by omega, by first | rfl | (congr 1), bwZ⟩, by simp only [intOf]; omega⟩
      · obtain ⟨X1, hX1⟩ : ∃ X, wr.drew.alloc (.cells #[.int .i64 (N : Int)] 3) = X := ⟨_, rfl⟩
        have bqX1 := bel_nw hX1
        have HCX1 : Hid (Four X1 W2.heap.size b off Q sc i ai n ci W8.heap.size b' off' sd ai' ci') := HCWd.out.below bqX1
        have HRJX1 : Hid (RowI X1 ai' (ints (s ++ [N]))) := HRJWd.out.below bqX1
        have bwX1 := bel_tr bwWd bqX1
        have HRNX1 : Hid (RowI X1 (some ⟨wr.drew.heap.size, 0, none⟩) (ints [N])) := rowi_one wr.drew X1 N _ hX1
        go_simp
        try rw [hX1]
        refine hK.out _ _ ?_ (fun hHeld => ?_)
        · exact HCX1.out.cells
        clear hK K
        try simp only [Act.put, List.setIfInBounds_toArray, List.set_cons_zero, List.set_cons_succ]
        have HRIX1 : Hid (RowI X1 ai (ints s)) := HRIWd.out.below bqX1
        refine wpAnyH_ready (rs := [5]) (by kernel_rfl) (by simp) ?_
        refine AllReadyH.cons (o := cmx38o2) rfl (fun K hK => ?_) AllReadyH.nil
        obtain ⟨a3, c3, X2, hr1, O3, bqX2⟩ := run_appIs X1 24 X1.heap.size none 0 [] (OwnI.nil _ _) ai ci s (HRIX1.out) HNI.out (by simp only [List.length_nil]; have := HSL.out; omega) (Nat.le_refl _)
        rw [List.nil_append] at hr1 O3
        have HCX2 : Hid (Four X2 W2.heap.size b off Q sc i ai n ci W8.heap.size b' off' sd ai' ci') := HCX1.out.below bqX2
        have HRJX2 : Hid (RowI X2 ai' (ints (s ++ [N]))) := HRJX1.out.below bqX2
        have bwX2 := bel_tr bwX1 bqX2
        have HOX2 : Hid (OwnI X2 X1.heap.size a3 c3 s) := O3
        rw [HSN.out] at hr1
        refine step_runA rfl 24 _ _ rfl _ _ (by rfl) (by rfl) _ _ hr1 ?_
        refine hK.out _ _ ?_ (fun hHeld => ?_)
        · exact HCX2.out.cells
        clear hK K
        try simp only [Act.put, List.setIfInBounds_toArray, List.set_cons_zero, List.set_cons_succ]
        refine wpAnyH_ready (rs := [9]) (by kernel_rfl) (by simp) ?_
        refine AllReadyH.cons (o := cmx38o1) rfl (fun K hK => ?_) AllReadyH.nil
        have hbd : Below wr.drew.heap.size wr.drew X2 := bel_tr bqX1 bqX2
        obtain ⟨a4, c4, Y, hr2, O4, bqY⟩ := run_appIs X2 24 X1.heap.size a3 c3 s HOX2.out _ 1 [N] (HRNX1.out.below bqX2) (by intro h; cases h) (by simp only [List.length_cons, List.length_nil]; have := HSL.out; omega) (bqX2.size)
        rw [HSN1.out, HSN.out] at hr2
        have hbY : Below wr.drew.heap.size wr.drew Y := hbd.trans (bqY.mono bqX1.size)
        have HCY : Hid (Four Y W2.heap.size b off Q sc i ai n ci W8.heap.size b' off' sd ai' ci') := HCWd.out.below hbY
        have HRY : Hid (RowI Y ai' (ints (s ++ [N]))) := HRJWd.out.below hbY
        have bwY := bel_tr bwWd hbY
        have KY : Hid _ := KS.out Y a4 ai' c4 ci' (ints (s ++ [N])) (O4.row (by rw [HSN1.out]; have := HSL.out; have := HSN.out; omega)) HRY.out
        rw [List.length_map, HSN1.out] at KY
        refine step_runA rfl 24 _ _ rfl _ _ (by rfl) (by rfl) _ _ hr2 ?_
        refine hK.out _ _ ?_ (fun hHeld => ?_)
        · exact HCY.out.cells
        clear hK K
        try simp only [Act.put, List.setIfInBounds_toArray, List.set_cons_zero, List.set_cons_succ]
        refine wpAnyH_ready (rs := [15]) (by kernel_rfl) (by simp) ?_
        refine AllReadyH.cons (o := cmx38o0) rfl (fun K hK => ?_) AllReadyH.nil
        go_simp
        refine Calls.mono KY.out ?_
        rintro e Z ⟨rfl, bbZ⟩
        have bwZ := bel_tr bwY bbZ
        refine hK.out _ _ ?_ (fun hHeld => ?_)
        · exact (HCY.out.below bbZ).cells
        clear hK K
        try simp only [Act.put, List.setIfInBounds_toArray, List.set_cons_zero, List.set_cons_succ]
        refine wpAnyH_take (i := 16) (oi := cmx38o4) (v := (.bool false)) rfl (by kernel_rfl) (by kernel_rfl) (by kernel_rfl) (fun _ _ _ h => h) (Or.inl ⟨by rfl, ?_⟩) hHeld ?_
        · intro w9 hSw
          try dsimp only at hSw
          go_simp
        try simp only [Act.put, List.setIfInBounds_toArray, List.set_cons_zero, List.set_cons_succ]
        refine wpAnyH_done (by kernel_rfl) ?_ _
        refine NoPanic.normal ?_

        go_wp2
        exact ⟨⟨i + 1, by omega, by first | rfl | (congr 1), bwZ⟩, by simp only [intOf]; omega⟩
    · have ik : ¬ (i : Int) < (Q : Int) := by omega
      have b11 := bel_tr b10 bw
      go_wp2_with fail
      refine Calls.mono (KW.out _) ?_
      rintro e V1 ⟨rfl, bv1⟩
      have b12 := bel_tr b11 bv1
      go_wp2_with fail
      refine Calls.mono (KF.out _) ?_
      rintro e V2 ⟨rfl, bv2⟩
      have b13 := bel_tr b12 bv2
      have KA' : Hid _ := KA.out V2 (HT.out.below b13)
      go_wp2_with fail
      refine Calls.mono KA'.out ?_
      rintro e V3 ⟨rfl, bv3⟩
      have b14 := bel_tr b13 bv3
      go_wp2
      go_ret
      exact ⟨rfl, b14⟩
theorem chunkMore_walk (a : Option Addr) (c : Nat) (l : List Rl) (dim : Int) (w : World) (lc : l.length ≤ c) (cm : c * 136 ≤ 140737488351232 ∧ (a = none → c = 0)) (hrow : RowR w a l) (hT : Top w) : Calls Tryd.prog 8 #[.slice a l.length c, .int .i64 dim] w fun e w' => e = .returned (.bool true) ∧ Below w.heap.size w w' := by
  by_cases he : errC l dim = 0
  · by_cases hs : 4 < dim ∨ 64 ≤ l.length
    · exact chunkMore_skip a c l dim w hrow hT he hs
    · exact chunkMore_main a c l dim w lc cm hrow hT he (fun h => hs (.inl h)) (by omega)
  · exact chunkMore_err a c l dim w hrow hT he
end Go.Proofs.YtgppfkbapieneaaDoor
