/- Texts joined: WiC FiK -/
import Derived.Test.YtbghilihccaaaaaTwz50
import Derived.Deep.CutBlock
import Derived.Deep.DeepCutAuto
namespace Go.Proofs.Ytbghilihccaaaaa
open Go.RowKit
set_option linter.unusedVariables false
set_option linter.unusedSimpArgs false
set_option maxRecDepth 100000 in
set_option maxHeartbeats 2000000 in
theorem packet_any (six : Bool) (da : Option Addr) (n dc : Nat) (w : World) :
    Calls Try.prog 27 #[.bool six, .slice da n dc] w fun e w' => e = .returned (.agg #[.int .i64 (wF six), .int .i64 (wF six), .int .u64 (wSH six), .int .u64 (wSL six), .int .i64 (wF six), .int .u64 (wDH six), .int .u64 (wDL six), .int .i64 (wP six), .int .i64 9, .bool false, .int .u32 0, .int .i64 0, .bool false, .slice none 0 0, .slice da n dc]) ∧ Below w.heap.size w w' := by
  obtain ⟨W1, hW1⟩ : ∃ W, w.alloc (.cells zIp 42) = W := ⟨_, rfl⟩
  have B1 := blk_nw hW1
  have k1 := bel_nw hW1
  cases six with
  | true =>
    have k2 := below_setRow k1 (Nat.le_refl _) #[.int .i64 6, .int .i64 6, .int .u64 2306139568115548160, .int .u64 1, .int .i64 6, .int .u64 2306139568115548161, .int .u64 2, .int .i64 59, .int .i64 9, .bool false, .int .u32 0, .int .i64 0, .bool false, .slice none 0 0, .slice da n dc]
    have B2 := B1.set #[.int .i64 6, .int .i64 6, .int .u64 2306139568115548160, .int .u64 1, .int .i64 6, .int .u64 2306139568115548161, .int .u64 2, .int .i64 59, .int .i64 9, .bool false, .int .u32 0, .int .i64 0, .bool false, .slice none 0 0, .slice da n dc]
    go_enter Try.func27, Try.ntmps27
    go_wp2_with (first
      | (refine wpList_store_row rfl _ _ _ rfl w.heap.size #[.int .i64 6, .int .i64 6, .int .u64 2306139568115548160, .int .u64 1, .int .i64 6, .int .u64 2306139568115548161, .int .u64 2, .int .i64 59, .int .i64 9, .bool false, .int .u32 0, .int .i64 0, .bool false, .slice none 0 0, .slice da n dc] (by rfl) (by rfl) _ _ B1 (by kernel_rfl) (by rfl) (by kernel_rfl) ?_))
    refine ret_cell _ Try.results27 B2 Try.underlying42 (by kernel_rfl) (by rfl) (by rfl) ?_
    exact ⟨rfl, k2⟩
  | false =>
    have k2 := below_setRow k1 (Nat.le_refl _) #[.int .i64 4, .int .i64 4, .int .u64 0, .int .u64 167772161, .int .i64 4, .int .u64 0, .int .u64 3221225474, .int .i64 99, .int .i64 9, .bool false, .int .u32 0, .int .i64 0, .bool false, .slice none 0 0, .slice da n dc]
    have B2 := B1.set #[.int .i64 4, .int .i64 4, .int .u64 0, .int .u64 167772161, .int .i64 4, .int .u64 0, .int .u64 3221225474, .int .i64 99, .int .i64 9, .bool false, .int .u32 0, .int .i64 0, .bool false, .slice none 0 0, .slice da n dc]
    go_enter Try.func27, Try.ntmps27
    go_wp2_with (first
      | (refine wpList_store_row rfl _ _ _ rfl w.heap.size #[.int .i64 4, .int .i64 4, .int .u64 0, .int .u64 167772161, .int .i64 4, .int .u64 0, .int .u64 3221225474, .int .i64 99, .int .i64 9, .bool false, .int .u32 0, .int .i64 0, .bool false, .slice none 0 0, .slice da n dc] (by rfl) (by rfl) _ _ B1 (by kernel_rfl) (by rfl) (by kernel_rfl) ?_))
    refine ret_cell _ Try.results27 B2 Try.underlying42 (by kernel_rfl) (by rfl) (by rfl) ?_
    exact ⟨rfl, k2⟩
abbrev pJ : Pkt := ⟨4, ⟨4, 0, 167772161⟩, ⟨4, 0, 3221225474⟩, 99, 9, true, 3, 0, true, [], [1, 2, 3, 4, 5, 6, 7, 8]⟩
theorem pJ_ok : WOk pJ := ⟨.inl ⟨rfl, rfl, rfl, rfl⟩, rfl, rfl, by decide, rfl, by decide, by decide, by decide, .inl rfl, by decide⟩
theorem pJ_put : (putF (fs0 4 1000 10) pJ).2.2 = 19 := by kernel_rfl
theorem pJ_pk : PktOk pJ := ⟨rfl, rfl, rfl, rfl, rfl, rfl, rfl, rfl⟩
set_option maxRecDepth 100000 in
set_option maxHeartbeats 4000000 in
theorem joins_any (w : World) : Calls Try.prog 26 #[] w fun e w' => e = .returned (.bool true) ∧ Below w.heap.size w w' := by
  have KN : Hid _ := tabB_new 4 1000 10 w ⟨by decide, by decide, by decide, by decide, by decide, by decide⟩
  go_enter Try.func26, Try.ntmps26
  go_wp2_with fail
  refine Calls.mono KN.out ?_
  rintro e W1 ⟨tb, mb, rfl, T1⟩
  clear KN
  obtain ⟨W2, hW2⟩ : ∃ W, W1.alloc (.cells #[.int .u8 1, .int .u8 2, .int .u8 3, .int .u8 4, .int .u8 5, .int .u8 6, .int .u8 7, .int .u8 8] 5) = W := ⟨_, rfl⟩
  have r2 : Row W2 (some ⟨W1.heap.size, 0, none⟩) [1, 2, 3, 4, 5, 6, 7, 8] := by
    rw [← hW2]
    exact row_at W1 5 [1, 2, 3, 4, 5, 6, 7, 8] _ rfl (by simp) (fun z hz => by simp at hz; omega)
  have k2 := bel_nw hW2
  have KP : Hid _ := packet_any false (some ⟨W1.heap.size, 0, none⟩) 8 8 W2
  go_wp2_with fail
  refine Calls.mono KP.out ?_
  rintro e W3 ⟨rfl, k3⟩
  clear KP
  obtain ⟨W4, hW4⟩ : ∃ W, W3.alloc (.cells zIp 42) = W := ⟨_, rfl⟩
  have B4 := blk_nw hW4
  have k4 := bel_nw hW4
  obtain ⟨W5, hW5⟩ : ∃ W, W4.setRow W3.heap.size #[.int .i64 (wF false), .int .i64 (wF false), .int .u64 (wSH false), .int .u64 (wSL false), .int .i64 (wF false), .int .u64 (wDH false), .int .u64 (wDL false), .int .i64 (wP false), .int .i64 9, .bool false, .int .u32 0, .int .i64 0, .bool false, .slice none 0 0, .slice (some ⟨W1.heap.size, 0, none⟩) 8 8] = W := ⟨_, rfl⟩
  have B5 : Blk W5 W3.heap.size 42 #[.int .i64 (wF false), .int .i64 (wF false), .int .u64 (wSH false), .int .u64 (wSL false), .int .i64 (wF false), .int .u64 (wDH false), .int .u64 (wDL false), .int .i64 (wP false), .int .i64 9, .bool false, .int .u32 0, .int .i64 0, .bool false, .slice none 0 0, .slice (some ⟨W1.heap.size, 0, none⟩) 8 8] := by rw [← hW5]; exact B4.set _
  have k5 : Below W3.heap.size W3 W5 := by rw [← hW5]; exact below_setRow k4 (Nat.le_refl _) _
  have HW5 : Hid _ := hW5
  have f9 := B5.frozen 9
  have y9 := B5.cell 9 (.bool false) rfl
  have B6 := B5.put 9 (.bool true)
  have k6 := k5.setCell (p := ⟨W3.heap.size, 9, none⟩) (Nat.le_refl _) (.bool true)
  have f12 := B6.frozen 12
  have y12 := B6.cell 12 (.bool false) rfl
  have B7 := B6.put 12 (.bool true)
  have k7 := k6.setCell (p := ⟨W3.heap.size, 12, none⟩) (Nat.le_refl _) (.bool true)
  have f10 := B7.frozen 10
  have y10 := B7.cell 10 (.int .u32 0) rfl
  have B8 := B7.put 10 (.int .u32 3)
  have k8 := k7.setCell (p := ⟨W3.heap.size, 10, none⟩) (Nat.le_refl _) (.int .u32 3)
  clear hW5 k6 k7
  go_wp2_with (first
    | (refine wpList_store_row rfl _ _ _ rfl W3.heap.size #[.int .i64 (wF false), .int .i64 (wF false), .int .u64 (wSH false), .int .u64 (wSL false), .int .i64 (wF false), .int .u64 (wDH false), .int .u64 (wDL false), .int .i64 (wP false), .int .i64 9, .bool false, .int .u32 0, .int .i64 0, .bool false, .slice none 0 0, .slice (some ⟨W1.heap.size, 0, none⟩) 8 8] (by rfl) (by rfl) _ _ B4 (by kernel_rfl) (by rfl) (by kernel_rfl) ?_; rw [HW5.out])
    | (refine wpList_load_row rfl _ _ rfl W3.heap.size (by rfl) _ _ _ _ B8 Try.underlying42 rfl (by kernel_rfl) ?_))
  obtain ⟨W8, hW8⟩ : ∃ W, ((W5.setCell ⟨W3.heap.size, 9, none⟩ (.bool true)).setCell ⟨W3.heap.size, 12, none⟩ (.bool true)).setCell ⟨W3.heap.size, 10, none⟩ (.int .u32 3) = W := ⟨_, rfl⟩
  rw [hW8] at k8 ⊢
  have kk := bel_tr k2 (bel_tr k3 k8)
  have KW : Hid _ := wires_any pJ (some ⟨W1.heap.size, 0, none⟩) 8 W8 pJ_ok (r2.below (bel_tr k3 k8)) (by simp)
  clear f9 y9 f12 y12 f10 y10 B4 B5 B6 B7 B8 k4 k5 HW5 hW4 hW8
  refine Calls.mono (show Calls Try.prog 28 #[.agg (pkV pJ none 0 (some ⟨W1.heap.size, 0, none⟩) 8)] W8 _ from KW.out) ?_
  rintro e W9 ⟨xa, xc, X, da, dc, rfl, r9, n9, x9, nx9, hX, k9⟩
  have hX' : X = [] := hX
  subst hX'
  clear hX KW
  obtain ⟨Wa, hWa⟩ : ∃ W, W9.alloc (.cells zIp 42) = W := ⟨_, rfl⟩
  have Ba := blk_nw hWa
  have ka := bel_nw hWa
  obtain ⟨Wb, hWb⟩ : ∃ W, Wa.setRow W9.heap.size (pkV pJ xa xc da dc) = W := ⟨_, rfl⟩
  have Bb : Blk Wb W9.heap.size 42 (pkV pJ xa xc da dc) := by rw [← hWb]; exact Ba.set _
  have kb : Below W9.heap.size W9 Wb := by rw [← hWb]; exact below_setRow ka (Nat.le_refl _) _
  have HWb : Hid _ := hWb
  have Tb := T1.below (bel_tr kk (bel_tr k9 kb))
  have KQ := Tb.put pJ xa xc da dc pJ_pk (r9.below kb) n9 (x9.below kb) nx9
  rw [pJ_put] at KQ
  have KQ : Hid _ := KQ
  clear hWb
  go_wp2_with (first
    | (refine wpList_store_row rfl _ _ _ rfl W9.heap.size (pkV pJ xa xc da dc) (by rfl) (by rfl) _ _ Ba (by kernel_rfl) (by rfl) (by kernel_rfl) ?_; rw [HWb.out])
    | (refine wpList_load_row rfl _ _ rfl W9.heap.size (by rfl) _ _ _ _ Bb Try.underlying42 rfl (by kernel_rfl) ?_))
  refine Calls.mono KQ.out ?_
  generalize (putF (fs0 4 1000 10) pJ).2.1 = PP
  generalize (putF (fs0 4 1000 10) pJ).1 = SS
  rintro e Wc ⟨xa', xc', da', dc', rfl, T6, _, r2', _, _, bu⟩
  obtain ⟨Wd, hWd⟩ : ∃ W, Wc.alloc (.cells zIp 42) = W := ⟨_, rfl⟩
  have Bd := blk_nw hWd
  have kd := bel_nw hWd
  obtain ⟨We, hWe⟩ : ∃ W, Wd.setRow Wc.heap.size (pkV PP xa' xc' da' dc') = W := ⟨_, rfl⟩
  have ke : Below Wc.heap.size Wc We := by rw [← hWe]; exact below_setRow kd (Nat.le_refl _) _
  have HWe : Hid _ := hWe
  have T7 := T6.below ke
  clear hWe KQ
  go_wp2_with (first
    | (refine wpList_store_row rfl _ _ _ rfl Wc.heap.size (pkV PP xa' xc' da' dc') (by rfl) (by rfl) _ _ Bd (by kernel_rfl) (by rfl) (by kernel_rfl) ?_; rw [HWe.out]))
  go_ret
  exact ⟨rfl, T7.bel⟩
theorem swap_perm {α : Type} {L : List α} {i j : Nat} {p q : α} (hi : L[i]? = some p) (hj : L[j]? = some q) : ((L.set j p).set i q).Perm L := by
  obtain ⟨h1, rfl⟩ := List.getElem?_eq_some_iff.1 hi
  obtain ⟨h2, rfl⟩ := List.getElem?_eq_some_iff.1 hj
  exact List.set_set_perm h2 h1
end Go.Proofs.Ytbghilihccaaaaa
