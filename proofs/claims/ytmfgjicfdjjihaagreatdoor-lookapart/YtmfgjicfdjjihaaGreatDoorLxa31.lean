/- Texts joined: RfH -/
import Derived.Test.YtmfgjicfdjjihaaGreatDoorLxa29
namespace Go.Proofs.YtmfgjicfdjjihaaGreatDoor
open Go.RowKit
set_option linter.unusedVariables false
set_option linter.unusedSimpArgs false
set_option maxRecDepth 100000 in
set_option maxHeartbeats 4000000 in
theorem rsides_any (w : World) (n : Nat) (hn : n < 6) : Calls Tryz.prog 26 #[.int .i64 (n : Int)] w fun e w' => e = .returned (.tuple #[.int .i64 (sdL n : Int), .int .i64 (sdR n : Int)]) ∧ Below w.heap.size w w' := by
 match n, hn with
 | 0, _ => go_enter Tryz.func26, Tryz.ntmps26; go_wp2; exact bodyPost_ret (results_tmp2 Tryz.results26 _ _ _) rfl ⟨rfl, Below.refl _ _⟩
 | 1, _ => go_enter Tryz.func26, Tryz.ntmps26; go_wp2; exact bodyPost_ret (results_tmp2 Tryz.results26 _ _ _) rfl ⟨rfl, Below.refl _ _⟩
 | 2, _ => go_enter Tryz.func26, Tryz.ntmps26; go_wp2; exact bodyPost_ret (results_tmp2 Tryz.results26 _ _ _) rfl ⟨rfl, Below.refl _ _⟩
 | 3, _ => go_enter Tryz.func26, Tryz.ntmps26; go_wp2; exact bodyPost_ret (results_tmp2 Tryz.results26 _ _ _) rfl ⟨rfl, Below.refl _ _⟩
 | 4, _ => go_enter Tryz.func26, Tryz.ntmps26; go_wp2; exact bodyPost_ret (results_tmp2 Tryz.results26 _ _ _) rfl ⟨rfl, Below.refl _ _⟩
 | 5, _ => go_enter Tryz.func26, Tryz.ntmps26; go_wp2; exact bodyPost_ret (results_tmp2 Tryz.results26 _ _ _) rfl ⟨rfl, Below.refl _ _⟩
 | n + 6, h => omega
set_option maxRecDepth 100000 in
set_option maxHeartbeats 4000000 in
theorem rsets_dim (w : World) (B : Nat) (da : Option Addr) (dn dc : Nat) (v1 v2 : Value) (D : List ChM) (h : OwnD w B da dc D) (hdn : D.length = dn) (d : Nat) (hd : d < 7) (x : ChM) (hx : D[d]? = some x) :
  Calls Tryz.prog 44 #[.agg #[.slice da dn dc, v1, v2], .int .i64 (d : Int)] w fun e w' => e = .returned (.slice x.sa x.S.length x.sc) ∧ Below w.heap.size w w' := by
 subst hdn
 have hlt := (List.getElem?_eq_some_iff.1 hx).1
 obtain ⟨g, e, hc⟩ := own3_cells (v := ChM.v) (fun _ => rfl) h.row hx
 subst e
 have c2 := hc.2 2 (.slice x.sa x.S.length x.sc) rfl
 rw [Nat.zero_add] at c2
 obtain ⟨W1, hW1⟩ : ∃ W1, w.alloc (.cells #[.slice (some ⟨g, 0, none⟩) D.length dc, v1, v2] 26) = W1 := ⟨_, rfl⟩
 have b1 := bel_nw hW1
 have e0 := (blk_nw hW1).cell 0 _ rfl
 have c2' := kept b1 c2
 have i1 : (d : Int) < 7 := by omega
 have i2 : (d : Int) < (D.length : Int) := by omega
 have i3 : (0 : Int) ≤ (d : Int) := by omega
 clear hc c2 h hx
 go_enter Tryz.func44, Tryz.ntmps44
 go_wp2
 go_ret
 exact ⟨rfl, b1⟩
set_option maxRecDepth 100000 in
set_option maxHeartbeats 4000000 in
theorem rsets_crs (w : World) (B : Nat) (xa : Option Addr) (xn xc : Nat) (v1 v2 : Value) (X : List CrM) (h : OwnX w B xa xc X) (hxn : X.length = xn) (hx6 : xn ≤ 6) (n : Nat) (x : CrM) (hx : X[n]? = some x) (s : Nat) (hs : s = 7 + n) :
  Calls Tryz.prog 44 #[.agg #[v1, .slice xa xn xc, v2], .int .i64 (s : Int)] w fun e w' => e = .returned (.slice x.sa x.S.length x.sc) ∧ Below w.heap.size w w' := by
 subst hxn
 have hlt := (List.getElem?_eq_some_iff.1 hx).1
 obtain ⟨g, e, hc⟩ := own3_cells (v := CrM.v) (fun _ => rfl) h.row hx
 subst e
 have c2 := hc.2 2 (.slice x.sa x.S.length x.sc) rfl
 rw [Nat.zero_add] at c2
 obtain ⟨W1, hW1⟩ : ∃ W1, w.alloc (.cells #[v1, .slice (some ⟨g, 0, none⟩) X.length xc, v2] 26) = W1 := ⟨_, rfl⟩
 have b1 := bel_nw hW1
 have e1 := (blk_nw hW1).cell 1 _ rfl
 have c2' := kept b1 c2
 have i1 : (7 : Int) ≤ (s : Int) := by omega
 have i2 : (n : Int) < (X.length : Int) := by omega
 have i3 : (0 : Int) ≤ (n : Int) := by omega
 have hw : IntKind.i64.wrap ((s : Int) - 7) = (n : Int) := by rw [wraps_i64 _ (by omega) (by omega)]; omega
 clear hc c2 h hx hs
 go_enter Tryz.func44, Tryz.ntmps44
 go_wp2_with (simp only [hw])
 go_ret
 exact ⟨rfl, b1⟩
theorem both_nilr : ∀ (a : List Nat), bothL a [] = []
 | [] => by unfold bothL; rfl
 | _ :: _ => by unfold bothL; rfl
theorem both_nill (b : List Nat) : bothL [] b = [] := by unfold bothL; rfl
set_option maxRecDepth 100000 in
set_option maxHeartbeats 8000000 in
theorem rboth_any (a b : Option Addr) (ca cb : Nat) (s t : List Nat) (w : World) (ha : RowI w a (ints s)) (hb : RowI w b (ints t)) (hs : s.length ≤ 1000) (ht : t.length ≤ 1000) :
  Calls Tryz.prog 46 #[.slice a s.length ca, .slice b t.length cb] w fun e w' => ∃ ya yc, e = .returned (.slice ya (bothL s t).length yc) ∧ OwnI w' w.heap.size ya yc (bothL s t) ∧ Below w.heap.size w w' := by
 have HA : Hid (RowI w a (ints s)) := ha
 have HB : Hid (RowI w b (ints t)) := hb
 obtain ⟨N, hN⟩ : ∃ N, s.length = N := ⟨_, rfl⟩
 obtain ⟨M, hM⟩ : ∃ M, t.length = M := ⟨_, rfl⟩
 have HN : Hid (s.length = N) := hN
 have HM : Hid (t.length = M) := hM
 rw [hN] at hs ⊢
 rw [hM] at ht ⊢
 obtain ⟨R, hR⟩ : ∃ R, bothL s t = R := ⟨_, rfl⟩
 have HR : Hid (bothL s t = R) := hR
 rw [hR]
 clear ha hb hN hM hR
 go_enter Tryz.func46, Tryz.ntmps46
 go_wp2_with fail
 go_loopw [5, 6, 7] (fun v5 vi vk wr => ∃ (i k : Nat) (ya : Option Addr) (yc : Nat) (P : List Nat), i ≤ N ∧ k ≤ M ∧ v5 = .slice ya P.length yc ∧ vi = .int .i64 i ∧ vk = .int .i64 k ∧ P.length ≤ i ∧ Hid (P ++ bothL (s.drop i) (t.drop k) = R) ∧ Hid (OwnI wr w.heap.size ya yc P) ∧ Below w.heap.size w wr) (fun _ vi vk _ => (N - (intOf vi).toNat) + (M - (intOf vk).toNat))
 case atStart => exact ⟨0, 0, none, 0, [], Nat.zero_le _, Nat.zero_le _, rfl, rfl, rfl, Nat.le_refl _, by rw [List.drop_zero, List.drop_zero, List.nil_append]; exact HR, OwnI.nil _ _, Below.refl _ _⟩
 case round =>
  obtain ⟨i, k, ya, yc, P, hi, hk, rfl, rfl, rfl, hPl, HE, HO, bw⟩ := hrel
  obtain ⟨p, hp⟩ : ∃ p, P.length = p := ⟨_, rfl⟩
  have HP : Hid (P.length = p) := hp
  rw [hp] at hPl ⊢
  clear hp
  by_cases hin : i < N
  ·have ii : (i : Int) < (N : Int) := by omega
   by_cases hkn : k < M
   ·have kk : (k : Int) < (M : Int) := by omega
    have hwi : IntKind.i64.wrap ((i : Int) + 1) = ((i + 1 : Nat) : Int) := by simp [IntKind.wrap, IntKind.bits, IntKind.signed]; omega
    have hwk : IntKind.i64.wrap ((k : Int) + 1) = ((k + 1 : Nat) : Int) := by simp [IntKind.wrap, IntKind.bits, IntKind.signed]; omega
    have i0 : (0 : Int) ≤ (i : Int) := by omega
    have k0 : (0 : Int) ≤ (k : Int) := by omega
    obtain ⟨x, hx⟩ : ∃ x, s[i]? = some x := ⟨_, List.getElem?_eq_getElem (by rw [HN.out]; exact hin)⟩
    obtain ⟨y, hy⟩ : ∃ y, t[k]? = some y := ⟨_, List.getElem?_eq_getElem (by rw [HM.out]; exact hkn)⟩
    obtain ⟨b1, o1, e1, hc1⟩ := HA.out.cells (by rw [List.length_map, HN.out]; omega)
    obtain ⟨b2, o2, e2, hc2⟩ := HB.out.cells (by rw [List.length_map, HM.out]; omega)
    have hc1 := kept bw (hc1 i (by rw [List.length_map, HN.out]; exact hin))
    have hc2 := kept bw (hc2 k (by rw [List.length_map, HM.out]; exact hkn))
    rw [List.getD_eq_getElem?_getD, List.getElem?_map, hx] at hc1
    rw [List.getD_eq_getElem?_getD, List.getElem?_map, hy] at hc2
    simp only [Option.map_some, Option.getD_some] at hc1 hc2
    subst e1
    subst e2
    have hds : s.drop i = x :: s.drop (i + 1) := by
     obtain ⟨h1, h2⟩ := List.getElem?_eq_some_iff.1 hx
     rw [List.drop_eq_getElem_cons h1, h2]
    have hdt : t.drop k = y :: t.drop (k + 1) := by
     obtain ⟨h1, h2⟩ := List.getElem?_eq_some_iff.1 hy
     rw [List.drop_eq_getElem_cons h1, h2]
    have hE := HE.out
    rw [hds, hdt] at hE
    unfold bothL at hE
    have HDS : Hid (s.drop i = x :: s.drop (i + 1)) := hds
    have HDT : Hid (t.drop k = y :: t.drop (k + 1)) := hdt
    clear hx hy hds hdt HE
    by_cases hxy : x < y
    ·rw [if_pos hxy] at hE
     have HE' : Hid (P ++ bothL (s.drop (i + 1)) (t.drop k) = R) := by rw [HDT.out]; exact hE
     have xy : (x : Int) < (y : Int) := by omega
     clear hE
     go_wp2_with fail
     go_quiet (fail)
     have q4 : Below wr.heap.size wr (wr.drewN nq) := below_drewN (Below.refl _ _) nq
     obtain ⟨V4, hV4⟩ : ∃ V4, wr.drewN nq = V4 := ⟨_, rfl⟩
     rw [hV4] at q4
     try rw [hV4]
     have HO4 : Hid (OwnI V4 w.heap.size ya yc P) := HO.out.below q4
     have bw4 := bel_tr bw q4
     clear HO bw q4 hV4 hc1 hc2
     go_wp2
     exact ⟨⟨i + 1, k, ya, yc, P, by omega, by omega, by rw [HP.out], by first | rfl | (congr 1), rfl, by rw [HP.out]; omega, HE', HO4, bw4⟩, by simp only [intOf]; omega⟩
    ·rw [if_neg hxy] at hE
     by_cases hyx : y < x
     ·rw [if_pos hyx] at hE
      have HE' : Hid (P ++ bothL (s.drop i) (t.drop (k + 1)) = R) := by rw [HDS.out]; exact hE
      have xy : ¬ (x : Int) < (y : Int) := by omega
      have yx : (y : Int) < (x : Int) := by omega
      clear hE
      go_wp2_with fail
      go_quiet (fail)
      have q4 : Below wr.heap.size wr (wr.drewN nq) := below_drewN (Below.refl _ _) nq
      obtain ⟨V4, hV4⟩ : ∃ V4, wr.drewN nq = V4 := ⟨_, rfl⟩
      rw [hV4] at q4
      try rw [hV4]
      have HO4 : Hid (OwnI V4 w.heap.size ya yc P) := HO.out.below q4
      have bw4 := bel_tr bw q4
      have hd1 := kept q4 hc1
      have hd2 := kept q4 hc2
      clear HO bw q4 hV4 hc1 hc2
      go_wp2_with fail
      go_quiet (fail)
      have q5 : Below V4.heap.size V4 (V4.drewN nq) := below_drewN (Below.refl _ _) nq
      obtain ⟨V5, hV5⟩ : ∃ V5, V4.drewN nq = V5 := ⟨_, rfl⟩
      rw [hV5] at q5
      try rw [hV5]
      have HO5 : Hid (OwnI V5 w.heap.size ya yc P) := HO4.out.below q5
      have bw5 := bel_tr bw4 q5
      clear HO4 bw4 q5 hV5 hd1 hd2
      go_wp2
      exact ⟨⟨i, k + 1, ya, yc, P, by omega, by omega, by rw [HP.out], rfl, by first | rfl | (congr 1), by rw [HP.out]; omega, HE', HO5, bw5⟩, by simp only [intOf]; omega⟩
     ·rw [if_neg hyx] at hE
      have HE' : Hid ((P ++ [x]) ++ bothL (s.drop (i + 1)) (t.drop (k + 1)) = R) := by rw [List.append_assoc]; exact hE
      have exy : x = y := by omega
      subst exy
      have xy : ¬ (x : Int) < (x : Int) := by omega
      clear hE hyx hxy
      go_wp2_with fail
      go_quiet (fail)
      have q4 : Below wr.heap.size wr (wr.drewN nq) := below_drewN (Below.refl _ _) nq
      obtain ⟨V4, hV4⟩ : ∃ V4, wr.drewN nq = V4 := ⟨_, rfl⟩
      rw [hV4] at q4
      try rw [hV4]
      have HO4 : Hid (OwnI V4 w.heap.size ya yc P) := HO.out.below q4
      have bw4 := bel_tr bw q4
      have hd1 := kept q4 hc1
      have hd2 := kept q4 hc2
      clear HO bw q4 hV4 hc1 hc2
      go_wp2_with fail
      go_quiet (fail)
      have q5 : Below V4.heap.size V4 (V4.drewN nq) := below_drewN (Below.refl _ _) nq
      obtain ⟨V5, hV5⟩ : ∃ V5, V4.drewN nq = V5 := ⟨_, rfl⟩
      rw [hV5] at q5
      try rw [hV5]
      have HO5 : Hid (OwnI V5 w.heap.size ya yc P) := HO4.out.below q5
      have bw5 := bel_tr bw4 q5
      have he1 := kept q5 hd1
      obtain ⟨V6, hV6⟩ : ∃ V6, V5.alloc (.cells #[.int .i64 (x : Int)] 3) = V6 := ⟨_, rfl⟩
      have q6 := bel_nw hV6
      have bw6 := bel_tr bw5 q6
      obtain ⟨g, c', V7, hrun, ho, hg, hat, hb⟩ := run_appI1 V6 24 w.heap.size ya yc P (HO5.out.below q6) V5.heap.size 1 x 3 (blk_nw hV6) (by rw [HP.out]; omega) bw6.size
      rw [HP.out] at hrun
      have HR7 : Hid _ := hrun
      have HO7 : Hid (OwnI V7 w.heap.size (some ⟨g, 0, none⟩) c' (P ++ [x])) := ho
      have bw7 : Below w.heap.size w V7 := bw6.trans hb
      clear HO4 bw4 q5 hV5 hd1 hd2 hrun ho hg hat hb HO5 bw5 q6 bw6
      go_wp2_with (refine wpList_rn rfl 24 _ _ rfl _ _ rfl rfl _ _ HR7.out ?_)
      exact ⟨⟨i + 1, k + 1, some ⟨g, 0, none⟩, c', P ++ [x], by omega, by omega, by rw [List.length_append, HP.out]; rfl, by first | rfl | (congr 1), by first | rfl | (congr 1), by rw [List.length_append, HP.out]; show p + 1 ≤ i + 1; omega, HE', HO7, bw7⟩, by simp only [intOf]; omega⟩
   ·have kk : ¬ (k : Int) < (M : Int) := by omega
    have hE := HE.out
    rw [show t.drop k = [] from List.drop_eq_nil_of_le (by rw [HM.out]; omega), both_nilr, List.append_nil] at hE
    have HPR : Hid (P = R) := hE
    clear hE HE
    go_wp2
    go_ret
    exact ⟨ya, yc, by rw [← HPR.out, HP.out]; rfl, by rw [← HPR.out]; exact HO.out, bw⟩
  ·have ii : ¬ (i : Int) < (N : Int) := by omega
   have hE := HE.out
   rw [show s.drop i = [] from List.drop_eq_nil_of_le (by rw [HN.out]; omega), both_nill, List.append_nil] at hE
   have HPR : Hid (P = R) := hE
   clear hE HE
   go_wp2
   go_ret
   exact ⟨ya, yc, by rw [← HPR.out, HP.out]; rfl, by rw [← HPR.out]; exact HO.out, bw⟩
/-- What is refused. -/
theorem got_no {l : List Rl} {E : Int} {B : Nat} (h : E ≠ 0) (w : World) : CompGot l E B (.returned (.tuple #[.agg zc3, .int .i64 E])) w := Or.inl ⟨h, rfl⟩
set_option maxRecDepth 100000 in
set_option maxHeartbeats 8000000 in
theorem compile_arg (a : Option Addr) (c : Nat) (l : List Rl) (n : Nat) (budget : Int) (w : World) (h : ¬ (0 ≤ budget ∧ budget ≤ 4096)) (B : Nat) :
  Calls Tryz.prog 14 #[.slice a n c, .int .i64 budget] w fun e w' => CompGot l 1 B e w' ∧ Below w.heap.size w w' := by
 obtain ⟨W1, hW1⟩ : ∃ W1, w.alloc (.cells zc3 26) = W1 := ⟨_, rfl⟩
 have b1 := bel_nw hW1
 have RB := blk_nw hW1
 by_cases h0 : budget < 0
 ·clear h
  go_enter Tryz.func14, Tryz.ntmps14
  go_wp2_with (refine wpList_st rfl 26 _ _ rfl w.heap.size zc3 zc3 (by rfl) (by rfl) RB (by kernel_rfl) rfl (by kernel_rfl) ?_)
  exact ret_cell_tmp (k := 4) (j := 5) Tryz.f14 (by kernel_rfl) (RB.set _) Tryz.underlying26 (by kernel_rfl) (by rfl) (by rfl) rfl ⟨got_no (by decide) _, below_setRow b1 (Nat.le_refl _) _⟩
 ·have h1 : 4096 < budget := by omega
  have h2 : 0 ≤ budget := by omega
  clear h h0
  go_enter Tryz.func14, Tryz.ntmps14
  go_wp2_with (refine wpList_st rfl 26 _ _ rfl w.heap.size zc3 zc3 (by rfl) (by rfl) RB (by kernel_rfl) rfl (by kernel_rfl) ?_)
  exact ret_cell_tmp (k := 4) (j := 5) Tryz.f14 (by kernel_rfl) (RB.set _) Tryz.underlying26 (by kernel_rfl) (by rfl) (by rfl) rfl ⟨got_no (by decide) _, below_setRow b1 (Nat.le_refl _) _⟩
set_option maxRecDepth 100000 in
set_option maxHeartbeats 8000000 in
theorem compile_cut (a : Option Addr) (c : Nat) (l : List Rl) (budget : Int) (w : World) (hT : Top w) (hrow : RowR w a l) (he : errC l 0 ≠ 0) (h : 0 ≤ budget ∧ budget ≤ 4096) (B : Nat) :
  Calls Tryz.prog 14 #[.slice a l.length c, .int .i64 budget] w fun e w' => CompGot l (errC l 0) B e w' ∧ Below w.heap.size w w' := by
 obtain ⟨W1, hW1⟩ : ∃ W1, w.alloc (.cells zc3 26) = W1 := ⟨_, rfl⟩
 obtain ⟨W2, hW2⟩ : ∃ W2, W1.alloc (.cells zc3 26) = W2 := ⟨_, rfl⟩
 have b1 := bel_nw hW1
 have b2 := bel_al b1 hW2
 have HG4 : Hid (Blk W2 w.heap.size 26 zc3) := (blk_nw hW1).al hW2
 have K : Hid _ := cut_err a c l 0 W2 (hT.below b2) (hrow.low b2) he
 obtain ⟨N, hN⟩ : ∃ N, l.length = N := ⟨_, rfl⟩
 rw [hN] at K ⊢
 obtain ⟨E, hE⟩ : ∃ E, errC l 0 = E := ⟨_, rfl⟩
 rw [hE] at K he ⊢
 have hne : (E != 0) = true := by simpa using he
 have HNE : Hid (E ≠ 0) := he
 obtain ⟨h1, h2⟩ := h
 clear hE hN hT hrow he
 go_enter Tryz.func14, Tryz.ntmps14
 go_wp2_with fail
 go_loopw [7, 27] (fun v7 i wr => v7 = .slice none 0 0 ∧ i = .int .i64 0 ∧ W2 = wr) (fun _ i _ => 7 - (intOf i).toNat)
 case atStart => exact ⟨rfl, rfl, by trivial⟩
 case round =>
  obtain ⟨rfl, rfl, hwr⟩ := hrel
  subst hwr
  go_wp2_with fail
  refine Calls.mono K.out ?_
  rintro e V2 ⟨rfl, q2⟩
  have bw3 : Below w.heap.size w (V2.alloc (.cells zc 63)) := bel_tr b2 (bel_al q2 rfl)
  have RB : Blk (V2.alloc (.cells zc 63)) w.heap.size 26 zc3 := HG4.out.kept (bel_al q2 rfl)
  go_wp2_with (refine wpList_st rfl 26 _ _ rfl w.heap.size zc3 zc3 (by rfl) (by rfl) RB (by kernel_rfl) rfl (by kernel_rfl) ?_)
  exact ret_cell_tmp (k := 4) (j := 5) Tryz.f14 (by kernel_rfl) (RB.set _) Tryz.underlying26 (by kernel_rfl) (by rfl) (by rfl) rfl ⟨got_no HNE.out _, below_setRow bw3 (Nat.le_refl _) _⟩
/-- The program's Compile. -/
theorem compile_any (a : Option Addr) (c : Nat) (l : List Rl) (budget : Int) (w : World) (hT : Top w) (hDb : Deb w) (hSd : Sds w) (hrow : RowR w a l) :
  Calls Tryz.prog 14 #[.slice a l.length c, .int .i64 budget] w fun e w' => CompGot l (errT l (errC l 0) budget) w.heap.size e w' ∧ Below w.heap.size w w' := by
 unfold errT
 by_cases h : 0 ≤ budget ∧ budget ≤ 4096
 ·rw [if_pos h]
  by_cases he : errC l 0 = 0
  ·rw [if_neg (by simpa using he)]
   exact compile_main a c l budget w hT hDb hSd hrow he h.1 h.2
  ·rw [if_pos he]
   exact compile_cut a c l budget w hT hrow he h _
 ·rw [if_neg h]
  exact compile_arg a c l _ budget w h _
end Go.Proofs.YtmfgjicfdjjihaaGreatDoor
