/- Texts joined: LkB -/
import Derived.Test.YtmfgjicfdjjihaaGreatDoorLxa34
namespace Go.Proofs.YtmfgjicfdjjihaaGreatDoor
open Go.RowKit
set_option linter.unusedVariables false
set_option linter.unusedSimpArgs false
set_option maxRecDepth 100000 in
set_option maxHeartbeats 16000000 in
theorem check_lk (t : TR) (w : World) (hok : t.ok w) (hL : Lks w) (hsz : ∀ j, szN t.D t.X j ≤ 2147483648) (htop : ∀ n ∈ t.F, n ≤ 9223372036854775807) :
  Calls Tryz.prog 9 #[.agg t.v] w fun e w' => Tells e (TabR t.D t.X t.F) ∧ Below w.heap.size w w' := by
 have HOK : Hid (t.ok w) := hok
 have HLK : Hid (Lks w) := hL
 have HSZ : Hid (∀ j, szN t.D t.X j ≤ 2147483648) := hsz
 have hdn := hok.dn
 have hxn := hok.xn
 obtain ⟨da, dc, D, xa, xc, X, fa, fc, F⟩ := t
 simp only at HOK HSZ hdn hxn
 have hv : (⟨da, dc, D, xa, xc, X, fa, fc, F⟩ : TR).v = #[.slice da D.length dc, .slice xa X.length xc, .slice fa F.length fc] := rfl
 rw [hv]
 show Calls _ _ _ _ fun e w' => Tells e (TabR D X F) ∧ _
 have hfn := hok.f.small
 simp only at hfn
 have HF : Hid (RowI w fa F) := hok.f
 have HD : Hid (RowD w da D) := hok.d
 have HX : Hid (RowX w xa X) := hok.x
 obtain ⟨dn, hdn'⟩ : ∃ n, D.length = n := ⟨_, rfl⟩
 obtain ⟨xn, hxn'⟩ : ∃ n, X.length = n := ⟨_, rfl⟩
 obtain ⟨fn, hfn'⟩ : ∃ n, F.length = n := ⟨_, rfl⟩
 have HDN : Hid (D.length = dn) := hdn'
 have HXN : Hid (X.length = xn) := hxn'
 have HFN : Hid (F.length = fn) := hfn'
 have KF : Hid (∀ W, Below w.heap.size w W → Calls Tryz.prog 24 #[.slice fa fn fc, .int .i64 (-1), .int .i64 9223372036854775807] W fun e w' => Tells e (∀ n ∈ F, -1 ≤ n ∧ n ≤ 9223372036854775807) ∧ Below W.heap.size W w') := fun W hb => by
  rw [← hfn']
  exact within_lk fa fc F (-1) 9223372036854775807 W (HF.out.below hb)
 have HTOP : Hid (∀ n ∈ F, n ≤ 9223372036854775807) := htop
 rw [hdn'] at hdn
 rw [hxn'] at hxn
 rw [hfn'] at hfn
 rw [hdn', hxn', hfn']
 obtain ⟨W1, hW1⟩ : ∃ W1, w.alloc (.cells #[.slice da dn dc, .slice xa xn xc, .slice fa fn fc] 26) = W1 := ⟨_, rfl⟩
 have b1 := bel_nw hW1
 have HB1 : Hid (Blk W1 w.heap.size 26 #[.slice da dn dc, .slice xa xn xc, .slice fa fn fc]) := blk_nw hW1
 have c0 := HB1.out.cell 0 _ rfl
 have c1 := HB1.out.cell 1 _ rfl
 obtain ⟨Q, hQ⟩ : ∃ Q, TabR D X F = Q := ⟨_, rfl⟩
 have HQ : Hid (TabR D X F ↔ Q) := by rw [hQ]; exact Iff.rfl
 rw [hQ]
 clear hdn' hxn' hfn' hok hL hsz hv hQ HF htop
 by_cases e7 : dn = 7
 rotate_left
 ·have HN : Hid (¬ Q) := fun h => e7 (by rw [← HDN.out]; exact (HQ.out.2 h).d7)
  have e7' : ((dn : Int) == 7) = false := by rw [beq_eq_false_iff_ne]; omega
  have e7'' : ((dn : Int) != 7) = true := by simp; omega
  go_enter Tryz.func9, Tryz.ntmps9
  go_wp2
  go_ret
  exact ⟨Tells.no HN.out, b1⟩
 subst e7
 by_cases e6 : xn = 6
 rotate_left
 ·have HN : Hid (¬ Q) := fun h => e6 (by rw [← HXN.out]; exact (HQ.out.2 h).x6)
  have e6' : ((xn : Int) == 6) = false := by rw [beq_eq_false_iff_ne]; omega
  have e6'' : ((xn : Int) != 6) = true := by simp; omega
  go_enter Tryz.func9, Tryz.ntmps9
  go_wp2
  go_ret
  exact ⟨Tells.no HN.out, b1⟩
 subst e6
 obtain ⟨W2, hW2⟩ : ∃ W2, W1.alloc (.cells z13 68) = W2 := ⟨_, rfl⟩
 have b2 := bel_al b1 hW2
 have HB2 : Hid (Blk W2 w.heap.size 26 #[.slice da 7 dc, .slice xa 6 xc, .slice fa fn fc]) := HB1.out.al hW2
 have HA2 : Hid (Arr W2 W1.heap.size (List.replicate 13 0)) := arr_new hW2
 have HLT : Hid (w.heap.size < W1.heap.size) := HB1.out.lt
 have d0 := HB2.out.cell 0 _ rfl
 have qq2 := bel_nw hW2
 go_enter Tryz.func9, Tryz.ntmps9
 go_wp2_with fail
 clear c0 c1 d0 hW1 hW2
 go_loopw [22] (fun i wr => ∃ (n : Nat) (M : List Int), n ≤ 7 ∧ i = .int .i64 n ∧ Hid (SzOk D X n M) ∧ Hid (∀ (j : Nat) (x : ChR), j < n → D[j]? = some x → RightC x.L x.K x.S) ∧ Hid (Arr wr W1.heap.size M) ∧ Below W1.heap.size W1 wr ∧ Below w.heap.size w wr) (fun i _ => 7 - (intOf i).toNat)
 case atStart => exact ⟨0, _, by omega, rfl, ⟨rfl, fun j hj => by omega⟩, fun j x hj => by omega, HA2, qq2, b2⟩
 case round =>
  obtain ⟨n, M, hn, rfl, HM, HR, HA, qw, bw⟩ := hrel
  have HBw : Hid (Blk wr w.heap.size 26 #[.slice da 7 dc, .slice xa 6 xc, .slice fa fn fc]) := HB1.out.kept qw
  clear HA2
  by_cases hlt : n < 7
  ·have ik : (n : Int) < 7 := by omega
   have in0 : (0 : Int) ≤ (n : Int) := by omega
   have i13 : (n : Int) < 13 := by omega
   have hw1 : IntKind.i64.wrap ((n : Int) + 1) = ((n + 1 : Nat) : Int) := by simp [IntKind.wrap, IntKind.bits, IntKind.signed]; omega
   obtain ⟨x, hx⟩ : ∃ x, D[n]? = some x := ⟨_, List.getElem?_eq_getElem (by rw [HDN.out]; exact hlt)⟩
   have HXN' : Hid (D[n]? = some x) := hx
   obtain ⟨b, off, ha, hc⟩ := (HD.out.low bw).cells n x hx
   have okx := (HD.out.low bw).each x (List.mem_of_getElem? hx)
   have hs1 := info_chR x
   have HSN : Hid (szN D X n = x.S.length) := sz_dim hlt hx
   obtain ⟨x1, y1, x2, y2, x3, y3, L, K, S⟩ := x
   have hv : (⟨x1, y1, x2, y2, x3, y3, L, K, S⟩ : ChR).v = #[.slice x1 L.length y1, .slice x2 K.length y2, .slice x3 S.length y3] := rfl
   rw [hv] at hc hs1
   simp only at HSN
   obtain ⟨W3, hW3⟩ : ∃ W3, wr.alloc (.cells #[.slice x1 L.length y1, .slice x2 K.length y2, .slice x3 S.length y3] 63) = W3 := ⟨_, rfl⟩
   have q3 := bel_nw hW3
   have ok3 := okx.low q3
   have KR : Hid _ := right_ck x1 x2 x3 y1 y2 y3 L K S W3 ok3.small ok3.p ok3.i ok3.s
   have HC3 : Hid (Blk W3 wr.heap.size 63 #[.slice x1 L.length y1, .slice x2 K.length y2, .slice x3 S.length y3]) := blk_nw hW3
   have at3 := HC3.out.at_
   have HRX : Hid (RightC L K S → ∀ (j : Nat) (x : ChR), j < n + 1 → D[j]? = some x → RightC x.L x.K x.S) := fun hr j y hj hy => by
    by_cases e : j = n
    ·subst e
     rw [HXN'.out] at hy
     cases hy
     exact hr
    ·exact HR.out j y (by omega) hy
   have HNX : Hid (¬ RightC L K S → ¬ Q) := fun hr h => hr ((HQ.out.2 h).dim _ (List.mem_of_getElem? HXN'.out))
   obtain ⟨RC, hRC⟩ : ∃ RC, RightC L K S = RC := ⟨_, rfl⟩
   rw [hRC] at KR HRX HNX
   obtain ⟨l1, hl1⟩ : ∃ l1, L.length = l1 := ⟨_, rfl⟩
   obtain ⟨l2, hl2⟩ : ∃ l2, K.length = l2 := ⟨_, rfl⟩
   obtain ⟨l3, hl3⟩ : ∃ l3, S.length = l3 := ⟨_, rfl⟩
   rw [hl1, hl2, hl3] at hc hs1 KR HC3 at3 hW3
   rw [hl3] at HSN
   subst ha
   clear hx hv hl1 hl2 hl3 okx ok3 hRC
   go_wp2_with (first
    | (refine wpList_load_at rfl _ _ rfl b (off + n * 3) (by rfl) _ hc Tryz.underlying63 hs1 ?_)
    | (refine wpList_load_at rfl _ _ rfl wr.heap.size 0 (by rfl) _ at3 Tryz.underlying63 hs1 ?_))
   refine Calls.mono KR.out ?_
   rintro e W4 ⟨⟨r, rfl, hr⟩, q4⟩
   have q34 := bel_tr q3 q4
   have bw4 := bel_tr bw q34
   have qw4 := bel_tr qw q34
   clear at3 KR hc
   cases r
   ·have HN : Hid (¬ Q) := HNX.out (fun h => by have := hr.2 h; cases this)
    clear hr
    go_wp2
    go_ret
    exact ⟨Tells.no HN.out, bw4⟩
   ·have HR5 : Hid _ := HRX.out (hr.1 rfl)
    have HA4 : Hid (Arr W4 W1.heap.size M) := HA.out.kept q34
    have HC4 : Hid (Blk W4 wr.heap.size 63 #[.slice x1 l1 y1, .slice x2 l2 y2, .slice x3 l3 y3]) := HC3.out.kept q4
    have f0 := HC4.out.cell 2 _ rfl
    obtain ⟨y0, hy0⟩ : ∃ y, M[n]? = some y := ⟨_, List.getElem?_eq_getElem (by rw [HM.out.1]; omega)⟩
    have f1 := HA4.out.at_ hy0
    have fz := HA4.out.frozen n
    have HA5 : Hid (Arr (W4.setCell ⟨W1.heap.size, n, none⟩ (.int .i64 (l3 : Int))) W1.heap.size (M.set n (l3 : Int))) := HA4.out.put n _
    have HM5 : Hid (SzOk D X (n + 1) (M.set n (l3 : Int))) := HM.out.step (by omega) HSN.out
    have qw5 : Below W1.heap.size W1 (W4.setCell ⟨W1.heap.size, n, none⟩ (.int .i64 (l3 : Int))) := qw4.setCell (Nat.le_refl _) _
    have bw5 : Below w.heap.size w (W4.setCell ⟨W1.heap.size, n, none⟩ (.int .i64 (l3 : Int))) := bw4.setCell b1.size _
    clear hr hy0 HM HR HA HA4 qw4 bw4 q34 qw bw
    go_wp2
    exact ⟨⟨n + 1, M.set n (l3 : Int), by omega, by first | rfl | (congr 1), HM5, HR5, HA5, qw5, bw5⟩, by simp only [intOf]; omega⟩
  ·have hn7 : n = 7 := by omega
   subst hn7
   have HDR : Hid (∀ x ∈ D, RightC x.L x.K x.S) := fun x hx => by
    obtain ⟨j, hj⟩ := List.getElem?_of_mem hx
    have h1 := (List.getElem?_eq_some_iff.1 hj).1
    have h2 := HDN.out
    exact HR.out j x (by omega) hj
   have d1 := HBw.out.cell 1 _ rfl
   rw [show ((7 : Nat) : Int) = 7 from rfl]
   clear HR hlt
   go_wp2_with fail
   clear d1
   go_loopw [39] (fun i wr => ∃ (n : Nat) (M : List Int), n ≤ 6 ∧ i = .int .i64 n ∧ Hid (SzOk D X (7 + n) M) ∧ Hid (∀ (j : Nat) (x : CrR), j < n → X[j]? = some x → RightX (szN D X (sdL j)) (szN D X (sdR j)) x) ∧ Hid (Arr wr W1.heap.size M) ∧ Below W1.heap.size W1 wr ∧ Below w.heap.size w wr) (fun i _ => 6 - (intOf i).toNat)
   case atStart => exact ⟨0, M, by omega, rfl, HM, fun j x hj => by omega, HA, qw, bw⟩
   case round =>
    clear HM HA qw bw HBw
    obtain ⟨n, M, hn, rfl, HM, HR, HA, qw, bw⟩ := hrel
    have HBw : Hid (Blk wr w.heap.size 26 #[.slice da 7 dc, .slice xa 6 xc, .slice fa fn fc]) := HB1.out.kept qw
    by_cases hlt : n < 6
    ·have ik : (n : Int) < 6 := by omega
     have in0 : (0 : Int) ≤ (n : Int) := by omega
     have hw1 : IntKind.i64.wrap ((n : Int) + 1) = ((n + 1 : Nat) : Int) := by simp [IntKind.wrap, IntKind.bits, IntKind.signed]; omega
     have hw7 : IntKind.i64.wrap (7 + (n : Int)) = ((7 + n : Nat) : Int) := by simp [IntKind.wrap, IntKind.bits, IntKind.signed]; omega
     have n713 : ((7 + n : Nat) : Int) < 13 := by omega
     have n70 : (0 : Int) ≤ ((7 + n : Nat) : Int) := by omega
     obtain ⟨x, hx⟩ : ∃ x, X[n]? = some x := ⟨_, List.getElem?_eq_getElem (by rw [HXN.out]; exact hlt)⟩
     have HXN' : Hid (X[n]? = some x) := hx
     obtain ⟨b, off, ha, hc⟩ := (HX.out.low bw).cells n x hx
     have HOX : Hid (x.ok wr) := (HX.out.low bw).each x (List.mem_of_getElem? hx)
     have hs1 := info_crR x
     have HSN : Hid (szN D X (7 + n) = x.S.length) := sz_crs hx
     have hsl := sd_lt n hlt
     obtain ⟨P, hP⟩ : ∃ P, sdL n = P := ⟨_, rfl⟩
     obtain ⟨R, hR⟩ : ∃ R, sdR n = R := ⟨_, rfl⟩
     have HP : Hid (sdL n = P ∧ sdR n = R) := ⟨hP, hR⟩
     rw [hP, hR] at hsl
     have hP13 : (P : Int) < 13 := by omega
     have hR13 : (R : Int) < 13 := by omega
     have hP0 : (0 : Int) ≤ (P : Int) := by omega
     have hR0 : (0 : Int) ≤ (R : Int) := by omega
     obtain ⟨pa, hpa⟩ : ∃ pa, szN D X P = pa := ⟨_, rfl⟩
     obtain ⟨pb, hpb⟩ : ∃ pb, szN D X R = pb := ⟨_, rfl⟩
     have HPA : Hid (M[P]? = some (pa : Int) ∧ M[R]? = some (pb : Int)) := by
      refine ⟨?_, ?_⟩
      ·rw [← hpa]; exact HM.out.2 P (by omega)
      ·rw [← hpb]; exact HM.out.2 R (by omega)
     have HAB : Hid (pa ≤ 2147483648 ∧ pb ≤ 2147483648) := ⟨by rw [← hpa]; exact HSZ.out P, by rw [← hpb]; exact HSZ.out R⟩
     have HRX : Hid (RightX pa pb x → ∀ (j : Nat) (x : CrR), j < n + 1 → X[j]? = some x → RightX (szN D X (sdL j)) (szN D X (sdR j)) x) := fun hr j y hj hy => by
      by_cases e : j = n
      ·subst e
       rw [HXN'.out] at hy
       cases hy
       rw [HP.out.1, HP.out.2, hpa, hpb]
       exact hr
      ·exact HR.out j y (by omega) hy
     have HNX : Hid (¬ RightX pa pb x → ¬ Q) := fun hr h => hr (by
      have := (HQ.out.2 h).crs n x HXN'.out
      rw [HP.out.1, HP.out.2, hpa, hpb] at this
      exact this)
     have HSS : Hid (x.v = #[.int .i64 x.wd, .slice x.a2 x.K.length x.c2, .slice x.a3 x.S.length x.c3]) := rfl
     have KX : Hid (∀ W, Below wr.heap.size wr W → Calls Tryz.prog 23 #[.agg x.v, .int .i64 (pa : Int), .int .i64 (pb : Int)] W fun e w' => Tells e (RightX pa pb x) ∧ Below W.heap.size W w') := fun W hb => rightCross_lk x pa pb W (HOX.out.low hb) HAB.out.1 HAB.out.2
     obtain ⟨RX, hRX⟩ : ∃ RX, RightX pa pb x = RX := ⟨_, rfl⟩
     rw [hRX] at HRX HNX KX
     rw [HSS.out] at hc hs1 KX
     obtain ⟨l2, hl2⟩ : ∃ l2, x.K.length = l2 := ⟨_, rfl⟩
     obtain ⟨l3, hl3⟩ : ∃ l3, x.S.length = l3 := ⟨_, rfl⟩
     rw [hl2, hl3] at hc hs1 KX
     rw [hl3] at HSN
     generalize x.wd = xw at hc hs1 KX
     generalize x.a2 = x2 at hc hs1 KX
     generalize x.c2 = y2 at hc hs1 KX
     generalize x.a3 = x3 at hc hs1 KX
     generalize x.c3 = y3 at hc hs1 KX
     obtain ⟨W3, hW3⟩ : ∃ W3, wr.alloc (.cells #[.int .i64 xw, .slice x2 l2 y2, .slice x3 l3 y3] 60) = W3 := ⟨_, rfl⟩
     have q3 := bel_nw hW3
     obtain ⟨W4, hW4⟩ : ∃ W4, W3.alloc (.cells #[.int .i64 (P : Int), .int .i64 (R : Int)] 70) = W4 := ⟨_, rfl⟩
     have q4 := bel_al q3 hW4
     have HC4 : Hid (Blk W4 wr.heap.size 60 #[.int .i64 xw, .slice x2 l2 y2, .slice x3 l3 y3]) := (blk_nw hW3).al hW4
     have HS4 : Hid (Blk W4 W3.heap.size 70 #[.int .i64 (P : Int), .int .i64 (R : Int)]) := blk_nw hW4
     have HA4 : Hid (Arr W4 W1.heap.size M) := HA.out.kept q4
     have hsd : CellsAt W3 0 (n * 2) #[.int .i64 (P : Int), .int .i64 (R : Int)] := by
      rw [← hP, ← hR]
      exact (HLK.out.below (bel_tr bw q3)).at_ hlt
     have hs70 : (Tryz.prog.info? 70).map (·.size) = some 2 := by kernel_rfl
     have bw4 := bel_tr bw q4
     have qw4 := bel_tr qw q4
     subst ha
     clear hx hP hR hpa hpb hRX hl2 hl3
     go_wp2_with (first
      | (refine wpList_load_at rfl _ _ rfl b (off + n * 3) (by rfl) _ hc Tryz.underlying60 hs1 ?_)
      | (refine wpList_load_arr rfl _ _ rfl 0 (n * 2) (by rfl) _ hsd (fun W => by rfl) hs70 ?_))
     clear hsd hc
     refine wp_region_noPanic ?_
     refine wp_region_held_drew (S := fun w'' => Below W4.heap.size W4 w'') (by kernel_rfl) (below_drew W4) (fun hHeld => ?_)
     have hsz3 : (Tryz.prog.info? 60).map (·.size) = some 3 := by kernel_rfl
     refine qty (i := 0) (oi := { dst := some 47, op := Op.load 60 (.tmp 7), type := 60, pos := "look.go:56", after := #[], guard := none }) (v := (.agg #[.int .i64 xw, .slice x2 l2 y2, .slice x3 l3 y3])) (yieldsIf_at (by rfl) _ _ rfl wr.heap.size 0 (by rfl) _ (fun _ h => (HC4.out.kept h).at_) Tryz.underlying60 hsz3) hHeld ?_
     try simp only [qpu]
     refine qtk (i := 1) (oi := { dst := some 48, op := Op.indexAddr 70 (.tmp 8) (.const (.int .i64 0)), type := 0, pos := "look.go:56", after := #[], guard := none }) (v := (.pointer (some ⟨W3.heap.size, 0, none⟩))) hHeld ?_ ?_
     ·intro w9 hSw
      try dsimp only at hSw
      go_simp
     try simp only [qpu]
     refine qtk (i := 2) (oi := { dst := some 49, op := Op.load 3 (.tmp 48), type := 3, pos := "look.go:56", after := #[{ on := 1, ground := Ground.data }], guard := none }) (v := (.int .i64 (P : Int))) hHeld ?_ ?_
     ·intro w9 hSw
      try dsimp only at hSw
      have hcc := (HS4.out.kept hSw).cell 0 _ rfl
      go_simp
     try simp only [qpu]
     refine qtk (i := 3) (oi := { dst := some 50, op := Op.indexAddr 68 (.tmp 3) (.tmp 49), type := 0, pos := "look.go:56", after := #[{ on := 2, ground := Ground.data }], guard := none }) (v := (.pointer (some ⟨W1.heap.size, P, none⟩))) hHeld ?_ ?_
     ·intro w9 hSw
      try dsimp only at hSw
      go_simp
     try simp only [qpu]
     refine qtk (i := 4) (oi := { dst := some 51, op := Op.load 3 (.tmp 50), type := 3, pos := "look.go:56", after := #[{ on := 3, ground := Ground.data }], guard := none }) (v := (.int .i64 (pa : Int))) hHeld ?_ ?_
     ·intro w9 hSw
      try dsimp only at hSw
      have hcc := (HA4.out.kept hSw).at_ HPA.out.1
      go_simp
     try simp only [qpu]
     refine qtk (i := 5) (oi := { dst := some 52, op := Op.indexAddr 70 (.tmp 8) (.const (.int .i64 1)), type := 0, pos := "look.go:56", after := #[], guard := none }) (v := (.pointer (some ⟨W3.heap.size, 1, none⟩))) hHeld ?_ ?_
     ·intro w9 hSw
      try dsimp only at hSw
      go_simp
     try simp only [qpu]
     refine qtk (i := 6) (oi := { dst := some 53, op := Op.load 3 (.tmp 52), type := 3, pos := "look.go:56", after := #[{ on := 5, ground := Ground.data }], guard := none }) (v := (.int .i64 (R : Int))) hHeld ?_ ?_
     ·intro w9 hSw
      try dsimp only at hSw
      have hcc := (HS4.out.kept hSw).cell 1 _ rfl
      go_simp
     try simp only [qpu]
     refine qtk (i := 7) (oi := { dst := some 54, op := Op.indexAddr 68 (.tmp 3) (.tmp 53), type := 0, pos := "look.go:56", after := #[{ on := 6, ground := Ground.data }], guard := none }) (v := (.pointer (some ⟨W1.heap.size, R, none⟩))) hHeld ?_ ?_
     ·intro w9 hSw
      try dsimp only at hSw
      go_simp
     try simp only [qpu]
     refine qtk (i := 8) (oi := { dst := some 55, op := Op.load 3 (.tmp 54), type := 3, pos := "look.go:56", after := #[{ on := 7, ground := Ground.data }], guard := none }) (v := (.int .i64 (pb : Int))) hHeld ?_ ?_
     ·intro w9 hSw
      try dsimp only at hSw
      have hcc := (HA4.out.kept hSw).at_ HPA.out.2
      go_simp
     try simp only [qpu]
     refine wpAnyH_ready (rs := [9]) (by kernel_rfl) (by simp) ?_
     refine AllReadyH.cons (o := { dst := some 56, op := Op.call { callee := Callee.value (.func 23), args := #[.tmp 47, .tmp 51, .tmp 55], argTypes := #[60, 3, 3] }, type := 4, pos := "look.go:56", after := #[{ on := 0, ground := Ground.data }, { on := 4, ground := Ground.data }, { on := 8, ground := Ground.data }], guard := none }) rfl (fun K hK => ?_) AllReadyH.nil
     go_simp
     refine Calls.mono (KX.out _ (bel_tr q4 (below_drew W4))) ?_
     rintro e W5 ⟨⟨r, rfl, hr⟩, q5⟩
     have HRr : Hid (r = true ↔ RX) := hr
     replace q5 := bel_tr (below_drew W4) q5
     refine hK.out _ _ q5 (fun hHeld => ?_)
     clear hK K hr
     try simp only [qpu]
     refine qtk (i := 10) (oi := { dst := some 57, op := Op.unOp UnOp.not 4 (.tmp 56), type := 4, pos := "look.go:56", after := #[{ on := 9, ground := Ground.data }], guard := none }) (v := (.bool !r)) hHeld ?_ ?_
     ·intro w9 hSw
      try dsimp only at hSw
      go_simp
     try simp only [qpu]
     refine wpAnyH_done (by kernel_rfl) ?_ _
     refine NoPanic.normal ?_

     have q45 := bel_tr q4 q5
     have bw5 := bel_tr bw q45
     have qw5 := bel_tr qw q45
     cases r
     ·have HN : Hid (¬ Q) := HNX.out (fun h => by have := HRr.out.2 h; cases this)
      go_wp2
      go_ret
      exact ⟨Tells.no HN.out, bw5⟩
     ·have HR6 : Hid _ := HRX.out (HRr.out.1 rfl)
      have HA5 : Hid (Arr W5 W1.heap.size M) := HA.out.kept q45
      have f0 := (HC4.out.kept q5).cell 2 _ rfl
      obtain ⟨y0, hy0⟩ : ∃ y, M[7 + n]? = some y := ⟨_, List.getElem?_eq_getElem (by rw [HM.out.1]; omega)⟩
      have f1 := HA5.out.at_ hy0
      have fz := HA5.out.frozen (7 + n)
      have HA6 : Hid (Arr (W5.setCell ⟨W1.heap.size, 7 + n, none⟩ (.int .i64 (l3 : Int))) W1.heap.size (M.set (7 + n) (l3 : Int))) := HA5.out.put (7 + n) _
      have HM6 : Hid (SzOk D X (7 + (n + 1)) (M.set (7 + n) (l3 : Int))) := HM.out.step (by omega) HSN.out
      have qw6 : Below W1.heap.size W1 (W5.setCell ⟨W1.heap.size, 7 + n, none⟩ (.int .i64 (l3 : Int))) := qw5.setCell (Nat.le_refl _) _
      have bw6 : Below w.heap.size w (W5.setCell ⟨W1.heap.size, 7 + n, none⟩ (.int .i64 (l3 : Int))) := bw5.setCell b1.size _
      clear hy0 HM HR HA HA5 qw5 bw5 q45 qw bw HRr qw4 bw4 q4 q5 q3
      go_wp2
      exact ⟨⟨n + 1, M.set (7 + n) (l3 : Int), by omega, by first | rfl | (congr 1), HM6, HR6, HA6, qw6, bw6⟩, by simp only [intOf]; omega⟩
    ·have hn6 : n = 6 := by omega
     subst hn6
     have d2 := HBw.out.cell 2 _ rfl
     have f12 := HA.out.at_ (HM.out.2 12 (by omega))
     obtain ⟨s12, hs12⟩ : ∃ s, szN D X 12 = s := ⟨_, rfl⟩
     have HS12 : Hid (szN D X 12 = s12) := hs12
     rw [hs12] at f12
     rw [show ((6 : Nat) : Int) = 6 from rfl]
     clear hs12
     by_cases es : fn = s12
     ·subst es
      have KF' : Hid _ := KF.out wr bw
      go_wp2_with fail
      refine Calls.mono KF'.out ?_
      rintro e W5 ⟨⟨r, rfl, hr⟩, q5⟩
      have bw5 := bel_tr bw q5
      have HRr : Hid _ := hr
      clear hr d2 f12
      cases r
      ·have HN : Hid (¬ Q) := fun h => by
        have := HRr.out.2 (fun n hn => ⟨(HQ.out.2 h).fst n hn, HTOP.out n hn⟩)
        cases this
       go_wp2
       go_ret
       exact ⟨Tells.no HN.out, bw5⟩
      ·have HY : Hid Q := HQ.out.1 ⟨HDN.out, HXN.out, HDR.out, fun j x hj => HR.out j x (by have := (List.getElem?_eq_some_iff.1 hj).1; rw [HXN.out] at this; exact this) hj, by rw [HFN.out, HS12.out], fun n hn => (HRr.out.1 rfl n hn).1⟩
       go_wp2
       go_ret
       exact ⟨Tells.yes HY.out, bw5⟩
     ·have HN : Hid (¬ Q) := fun h => es (by have := (HQ.out.2 h).fl; rw [HFN.out, HS12.out] at this; exact this)
      have es' : ((fn : Int) == (s12 : Int)) = false := by rw [beq_eq_false_iff_ne]; omega
      go_wp2
      go_ret
      exact ⟨Tells.no HN.out, bw⟩
end Go.Proofs.YtmfgjicfdjjihaaGreatDoor
