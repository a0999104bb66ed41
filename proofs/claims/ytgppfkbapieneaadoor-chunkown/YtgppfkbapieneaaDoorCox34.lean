/- Texts joined: CkV -/
import Derived.Test.YtgppfkbapieneaaDoorCox30
namespace Go.Proofs.YtgppfkbapieneaaDoor
open Go.RowKit
set_option linter.unusedVariables false
set_option linter.unusedSimpArgs false
def wideL (lo hi : Int) : Rl := ⟨-1, -1, ⟨0, 0, 0⟩, 0, ⟨0, 0, 0⟩, 0, 0, 0, 65535, lo, hi, 0, 0⟩
abbrev wideLV (lo hi : Int) : Array Value := #[.int .i64 (-1), .int .i64 (-1), .int .i64 0, .int .u64 0, .int .u64 0, .int .i64 0, .int .i64 0, .int .u64 0, .int .u64 0, .int .i64 0, .int .i64 0, .int .i64 0, .int .i64 65535, .int .i64 lo, .int .i64 hi, .int .i64 0, .int .i64 0]
theorem ad0_ok : Ad.ok ⟨0, 0, 0⟩ := ⟨by simp only; omega, by simp only; omega, by simp only; omega⟩
theorem wideL_ok (lo hi : Int) : (wideL lo hi).ok := ⟨ad0_ok, ad0_ok⟩
theorem zeros_rl (w : World) (lo hi : Int) : (Instr.storeAt 55 (.pointer (some ⟨w.heap.size, 0, none⟩)) (.agg (wideLV lo hi))).run Tryd.prog (w.alloc (.cells z17 55)) = .ok () (w.alloc (.cells (wideLV lo hi) 55)) := store_rl w (wideL lo hi)
set_option maxRecDepth 100000 in
set_option maxHeartbeats 4000000 in
theorem wideL_any (lo hi : Int) (w : World) : Calls Tryd.prog 23 #[.int .i64 lo, .int .i64 hi] w fun e w' => e = .returned (.agg (wideLV lo hi)) ∧ Below w.heap.size w w' := by
  have hst := zeros_rl w lo hi
  go_enter Tryd.func23, Tryd.ntmps23
  go_wp2_with (first | (refine wpList_store_new _ _ rfl _ _ _ rfl _ _ rfl rfl hst ?_))
  exact ret_cell (k := 4) Tryd.f23 (by kernel_rfl) (blk_new w (wideLV lo hi) 55) Tryd.underlying55 (by kernel_rfl) (by rfl) rfl ⟨rfl, bel_nw rfl⟩
theorem row2L (w W : World) (p q : Rl) (A : Array Value) (t : TypeId) (hA : A = p.v ++ q.v) (h : w.alloc (.cells A t) = W) (hp : p.ok) (hq : q.ok) : RowR W (some ⟨w.heap.size, 0, none⟩) [p, q] := by
  subst hA
  have B := blk_nw h
  refine ⟨fun r hr => ?_, fun i r hr => ?_⟩
  · simp only [List.mem_cons, List.not_mem_nil, or_false] at hr
    rcases hr with rfl | rfl
    · exact hp
    · exact hq
  · refine ⟨w.heap.size, 0, rfl, B.lt, fun j v hv => ?_⟩
    match i, hr with
    | 0, hr =>
      cases hr
      have hj : j < 17 := (Array.getElem?_eq_some_iff.1 hv).1
      refine B.cell _ v ?_
      rw [show 0 + 0 * 17 + j = j by omega, Array.getElem?_append_left (by simpa using hj)]
      exact hv
    | 1, hr =>
      cases hr
      refine B.cell _ v ?_
      rw [show 0 + 1 * 17 + j = 17 + j by omega, Array.getElem?_append_right (by simp)]
      have e : 17 + j - p.v.size = j := by simp
      rw [e]
      exact hv
def alL : List Pt := [pt0, ptNum 80, ptNum 81, ptNum 1024]
abbrev alR : List Rl := [wideL 80 80, wideL 0 1023]
theorem alR_right : ∀ r ∈ alR, r.ok ∧ r.right = true := by
  intro r hr
  simp only [alR, List.mem_cons, List.not_mem_nil, or_false] at hr
  rcases hr with rfl | rfl
  · exact ⟨wideL_ok _ _, by kernel_rfl⟩
  · exact ⟨wideL_ok _ _, by kernel_rfl⟩
theorem alL_n : startsL (spns alR 6) = alL.map Pt.n := by kernel_rfl
theorem alL_ok : ∀ p ∈ alL, p.ok := by
  intro p hp
  simp only [alL, List.mem_cons, List.not_mem_nil, or_false] at hp
  rcases hp with rfl | rfl | rfl | rfl
  · exact pt0_ok
  · exact ptNum_ok (by omega) (by omega)
  · exact ptNum_ok (by omega) (by omega)
  · exact ptNum_ok (by omega) (by omega)
theorem alC : classL (rowL (spns alR 6)) = [0, 1, 0, 2] := by kernel_rfl
theorem alS : setsL (rowL (spns alR 6)) = [[1], [0, 1], []] := by kernel_rfl
theorem al_right : RightC alL [0, 1, 0, 2] [[1], [0, 1], []] := by
  have h := cut_right (L := alL) alR_right (show 6 < 7 by omega) (by
    unfold alL
    simp only [List.pairwise_cons, List.mem_cons, List.not_mem_nil, or_false]
    refine ⟨?_, ?_, ?_, ?_, List.Pairwise.nil⟩
    · rintro q (rfl | rfl | rfl) <;> simp [pt0, ptNum, Pt.n]
    · rintro q (rfl | rfl) <;> simp [ptNum, Pt.n]
    · rintro q rfl; simp [ptNum, Pt.n]
    · intro q hq; cases hq) alL_n.symm alL_ok
  rw [alC, alS] at h
  exact h
theorem al_cls : clsAt alL [0, 1, 0, 2] (ptNum 80) 1 := by
  refine ⟨1, ptNum 80, rfl, Int.le_refl _, fun j t hj ht => ?_, rfl⟩
  match j, hj, ht with
  | 2, _, ht => cases ht; simp [ptNum, Pt.n]
  | 3, _, ht => cases ht; simp [ptNum, Pt.n]
  | j + 4, _, ht => simp [alL] at ht
theorem cut_al (a : Option Addr) (w : World) (hT : Top w) (hrow : RowR w a alR) :
    Calls Tryd.prog 10 #[.slice a 2 2, .int .i64 6] w fun e w' => ∃ g1 c1 ka kc sa sc, e = .returned (.tuple #[.agg #[.slice (some ⟨g1, 0, none⟩) 4 c1, .slice ka 4 kc, .slice sa 3 sc], .int .i64 0]) ∧ RowP w' (some ⟨g1, 0, none⟩) alL ∧ RowI w' ka [0, 1, 0, 2] ∧ RowS w' sa [[1], [0, 1], []] ∧ Below w.heap.size w w' := by
  refine (cut_yes a 2 alR 6 w hT (by simp) hrow (by omega) (fun r hr => (alR_right r hr).2)).mono ?_
  rintro e w' ⟨g1, c1, L, ka, kc, sa, sc, vs, rfl, h1, h2, h3, hs, hm, hl, hb⟩
  obtain ⟨hn, hok⟩ := cut_starts alR_right (show 6 < 7 by omega) hs hm
  have eL : L = alL := pts_inj hok alL_ok (by rw [hn, alL_n])
  subst eL
  have er := cut_rows alR_right (show 6 < 7 by omega) hn hok
  rw [er, alC] at h2
  rw [er, alS] at h3
  rw [er, alS]
  exact ⟨g1, c1, ka, kc, sa, sc, rfl, h1.row hok, h2.row (by simp), h3.rows (by simp) (by simp), hb⟩
theorem rowi4 (w W : World) (t : TypeId) (h : w.alloc (.cells #[.int .i64 0, .int .i64 1, .int .i64 0, .int .i64 2] t) = W) : RowI W (some ⟨w.heap.size, 0, none⟩) [0, 1, 0, 2] :=
  ⟨by simp, fun _ => ⟨_, _, rfl, fun i hi => by
    have hi' : i < 4 := by simpa using hi
    rw [Nat.zero_add]
    match i, hi' with
    | 0, _ => exact (blk_nw h).cell 0 _ rfl
    | 1, _ => exact (blk_nw h).cell 1 _ rfl
    | 2, _ => exact (blk_nw h).cell 2 _ rfl
    | 3, _ => exact (blk_nw h).cell 3 _ rfl⟩⟩
set_option maxRecDepth 100000 in
set_option maxHeartbeats 8000000 in
theorem alive_ck (w : World) (hT : Top w) : Calls Tryd.prog 13 #[] w fun e w' => e = .returned (.bool true) ∧ Below w.heap.size w w' := by
  have KW : Hid (∀ (lo hi : Int) W, Calls Tryd.prog 23 #[.int .i64 lo, .int .i64 hi] W fun e w' => e = .returned (.agg (wideLV lo hi)) ∧ Below W.heap.size W w') := wideL_any
  have KC : Hid (∀ (a : Option Addr) W, Top W → RowR W a alR → Calls Tryd.prog 10 #[.slice a 2 2, .int .i64 6] W fun e w' => ∃ g1 c1 ka kc sa sc, e = .returned (.tuple #[.agg #[.slice (some ⟨g1, 0, none⟩) 4 c1, .slice ka 4 kc, .slice sa 3 sc], .int .i64 0]) ∧ RowP w' (some ⟨g1, 0, none⟩) alL ∧ RowI w' ka [0, 1, 0, 2] ∧ RowS w' sa [[1], [0, 1], []] ∧ Below W.heap.size W w') := cut_al
  have KF : Hid (∀ (a1 a2 a3 : Option Addr) (c1 c2 c3 : Nat) W, RowP W a1 alL → RowI W a2 [0, 1, 0, 2] → RowS W a3 [[1], [0, 1], []] → Calls Tryd.prog 16 #[.agg #[.slice a1 4 c1, .slice a2 4 c2, .slice a3 3 c3], .agg #[.int .u64 0, .int .u64 0, .int .u64 80]] W fun e w' => e = .returned (.tuple #[.int .i64 1, .bool true]) ∧ Below W.heap.size W w') := fun a1 a2 a3 c1 c2 c3 W h1 h2 h3 => by
    refine (find_ck a1 a2 a3 c1 c2 c3 alL [0, 1, 0, 2] [[1], [0, 1], []] (ptNum 80) W (by simp [alL]) h1 h2 h3 (ptNum_ok (by omega) (by omega))).mono ?_
    rintro e w' ⟨h | h, b⟩
    · exact absurd al_right h.1
    · obtain ⟨_, x, rfl, hx⟩ := h
      rw [cls_uniq hx al_cls]
      exact ⟨rfl, b⟩
  have KR : Hid (∀ (a1 a2 a3 : Option Addr) (c1 c2 c3 : Nat) W, RowP W a1 alL → RowI W a2 [0, 1, 0, 2] → RowS W a3 [[1], [0, 1], []] → Calls Tryd.prog 18 #[.agg #[.slice a1 4 c1, .slice a2 4 c2, .slice a3 3 c3]] W fun e w' => e = .returned (.bool true) ∧ Below W.heap.size W w') := fun a1 a2 a3 c1 c2 c3 W h1 h2 h3 => by
    refine (right_ck a1 a2 a3 c1 c2 c3 alL [0, 1, 0, 2] [[1], [0, 1], []] W (by simp [alL]) h1 h2 h3).mono ?_
    rintro e w' ⟨⟨r, rfl, hr⟩, b⟩
    rw [hr.2 al_right]
    exact ⟨rfl, b⟩
  have KS : Hid (∀ (W : World) (a b : Option Addr) (c d : Nat), RowI W a [0, 1, 0, 2] → RowI W b [0, 1, 0, 2] → Calls Tryd.prog 22 #[.slice a 4 c, .slice b 4 d] W fun e w' => e = .returned (.bool true) ∧ Below W.heap.size W w') := fun W a b c d h h' =>
    (sameI_any a b c d [0, 1, 0, 2] [0, 1, 0, 2] W h h').mono (by rintro e w' ⟨rfl, n, rfl⟩; exact ⟨rfl, below_drewN (Below.refl _ _) n⟩)
  have HT : Hid (Top w) := hT
  clear hT
  go_enter Tryd.func13, Tryd.ntmps13
  go_wp2_with fail
  refine Calls.mono (KW.out 80 80 _) ?_
  rintro e W1 ⟨rfl, b1⟩
  go_wp2_with fail
  refine Calls.mono (KW.out 0 1023 _) ?_
  rintro e W2 ⟨rfl, b12⟩
  have b2 := bel_tr b1 b12
  clear b1 b12
  obtain ⟨W3, hW3⟩ : ∃ W3, W2.alloc (.cells ((wideL 80 80).v ++ (wideL 0 1023).v) 55) = W3 := ⟨_, rfl⟩
  have b3 := bel_al b2 hW3
  have HRR : Hid (RowR W3 (some ⟨W2.heap.size, 0, none⟩) alR) := row2L W2 W3 _ _ _ _ rfl hW3 (wideL_ok _ _) (wideL_ok _ _)
  have KC' : Hid _ := KC.out (some ⟨W2.heap.size, 0, none⟩) W3 (HT.out.below b3) HRR.out
  have HW3 : Hid (W2.alloc (.cells #[.int .i64 (-1), .int .i64 (-1), .int .i64 0, .int .u64 0, .int .u64 0, .int .i64 0, .int .i64 0, .int .u64 0, .int .u64 0, .int .i64 0, .int .i64 0, .int .i64 0, .int .i64 65535, .int .i64 80, .int .i64 80, .int .i64 0, .int .i64 0, .int .i64 (-1), .int .i64 (-1), .int .i64 0, .int .u64 0, .int .u64 0, .int .i64 0, .int .i64 0, .int .u64 0, .int .u64 0, .int .i64 0, .int .i64 0, .int .i64 0, .int .i64 65535, .int .i64 0, .int .i64 1023, .int .i64 0, .int .i64 0] 55) = W3) := hW3
  clear hW3
  go_wp2_with fail
  rw [HW3.out]
  refine Calls.mono KC'.out ?_
  rintro e W4 ⟨g1, c1, ka, kc, sa, sc, rfl, r1, r2, r3, b34⟩
  have b4 := bel_tr b3 b34
  have R1 : Hid (RowP W4 (some ⟨g1, 0, none⟩) alL) := r1
  have R2 : Hid (RowI W4 ka [0, 1, 0, 2]) := r2
  have R3 : Hid (RowS W4 sa [[1], [0, 1], []]) := r3
  clear r1 r2 r3 b34 b3 b2
  obtain ⟨W5, hW5⟩ : ∃ W5, W4.alloc (.cells #[.slice (some ⟨g1, 0, none⟩) 4 c1, .slice ka 4 kc, .slice sa 3 sc] 27) = W5 := ⟨_, rfl⟩
  have b45 := bel_nw hW5
  have b5 := bel_tr b4 b45
  have HB5 : Hid (Blk W5 W4.heap.size 27 #[.slice (some ⟨g1, 0, none⟩) 4 c1, .slice ka 4 kc, .slice sa 3 sc]) := blk_nw hW5
  have KF' : Hid _ := KF.out (some ⟨g1, 0, none⟩) ka sa c1 kc sc W5 (R1.out.low b45) (R2.out.below b45) (R3.out.below b45)
  have HR5 : Hid (RowP W5 (some ⟨g1, 0, none⟩) alL ∧ RowI W5 ka [0, 1, 0, 2] ∧ RowS W5 sa [[1], [0, 1], []]) := ⟨R1.out.low b45, R2.out.below b45, R3.out.below b45⟩
  have HW5 : Hid (W4.alloc (.cells #[.slice (some ⟨g1, 0, none⟩) 4 c1, .slice ka 4 kc, .slice sa 3 sc] 27) = W5) := hW5
  clear hW5 b45 b4
  go_wp2_with fail
  rw [HW5.out]
  refine Calls.mono KF'.out ?_
  rintro e W6 ⟨rfl, b56⟩
  have b6 := bel_tr b5 b56
  have HB6 : Hid (Blk W6 W4.heap.size 27 #[.slice (some ⟨g1, 0, none⟩) 4 c1, .slice ka 4 kc, .slice sa 3 sc]) := HB5.out.kept b56
  have HR6 : Hid (RowP W6 (some ⟨g1, 0, none⟩) alL ∧ RowI W6 ka [0, 1, 0, 2] ∧ RowS W6 sa [[1], [0, 1], []]) := ⟨HR5.out.1.low b56, HR5.out.2.1.below b56, HR5.out.2.2.below b56⟩
  clear b56 b5 HB5 HR5 KF'
  have d0 := HB6.out.cell 0 (.slice (some ⟨g1, 0, none⟩) 4 c1) rfl
  have d1 := HB6.out.cell 1 (.slice ka 4 kc) rfl
  obtain ⟨W7, hW7⟩ : ∃ W7, W6.alloc (.cells #[.int .i64 0, .int .i64 1, .int .i64 0, .int .i64 2] 3) = W7 := ⟨_, rfl⟩
  have b67 := bel_nw hW7
  have b7 := bel_tr b6 b67
  have HB7 : Hid (Blk W7 W4.heap.size 27 #[.slice (some ⟨g1, 0, none⟩) 4 c1, .slice ka 4 kc, .slice sa 3 sc]) := HB6.out.kept b67
  have HR7 : Hid (RowP W7 (some ⟨g1, 0, none⟩) alL ∧ RowI W7 ka [0, 1, 0, 2] ∧ RowS W7 sa [[1], [0, 1], []]) := ⟨HR6.out.1.low b67, HR6.out.2.1.below b67, HR6.out.2.2.below b67⟩
  have KS' : Hid _ := KS.out W7 ka (some ⟨W6.heap.size, 0, none⟩) kc 4 HR7.out.2.1 (rowi4 W6 W7 _ hW7)
  have HW7 : Hid (W6.alloc (.cells #[.int .i64 0, .int .i64 1, .int .i64 0, .int .i64 2] 3) = W7) := hW7
  clear hW7 b67 b6 HB6 HR6
  go_wp2_with fail
  rw [HW7.out]
  refine Calls.mono KS'.out ?_
  rintro e W8 ⟨rfl, b78⟩
  have b8 := bel_tr b7 b78
  have HB8 : Hid (Blk W8 W4.heap.size 27 #[.slice (some ⟨g1, 0, none⟩) 4 c1, .slice ka 4 kc, .slice sa 3 sc]) := HB7.out.kept b78
  have HR8 : Hid (RowP W8 (some ⟨g1, 0, none⟩) alL ∧ RowI W8 ka [0, 1, 0, 2] ∧ RowS W8 sa [[1], [0, 1], []]) := ⟨HR7.out.1.low b78, HR7.out.2.1.below b78, HR7.out.2.2.below b78⟩
  clear b78 b7 HB7 HR7 KS' d0 d1
  have d0 := HB8.out.cell 0 (.slice (some ⟨g1, 0, none⟩) 4 c1) rfl
  have d1 := HB8.out.cell 1 (.slice ka 4 kc) rfl
  have d2 := HB8.out.cell 2 (.slice sa 3 sc) rfl
  have KR' : Hid _ := KR.out (some ⟨g1, 0, none⟩) ka sa c1 kc sc W8 HR8.out.1 HR8.out.2.1 HR8.out.2.2
  go_wp2_with fail
  refine Calls.mono KR'.out ?_
  rintro e W9 ⟨rfl, b89⟩
  have b9 := bel_tr b8 b89
  go_wp2
  go_ret
  exact ⟨rfl, b9⟩
end Go.Proofs.YtgppfkbapieneaaDoor
