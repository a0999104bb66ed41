/- Texts joined: LkD -/
import Derived.Test.YtmfgjicfdjjihaaGreatDoorLxa34
namespace Go.Proofs.YtmfgjicfdjjihaaGreatDoor
open Go.RowKit
set_option linter.unusedVariables false
set_option linter.unusedSimpArgs false
set_option maxRecDepth 100000 in
set_option maxHeartbeats 8000000 in
theorem rmany_lk (t : TR) (j : Nat) (w : World) (hok : t.ok w) (hd7 : t.D.length = 7) (hx6 : t.X.length = 6) (hj : j < 13) :
  Calls Tryz.prog 27 #[.agg t.v, .int .i64 (j : Int)] w fun e w' => e = .returned (.int .i64 (szN t.D t.X j : Int)) ∧ Below w.heap.size w w' := by
 have hv : t.v = #[.slice t.da 7 t.dc, .slice t.xa 6 t.xc, .slice t.fa t.F.length t.fc] := by show #[_, _, _] = _; rw [hd7, hx6]
 rw [hv]
 clear hv
 generalize t.F.length = fn
 generalize t.fa = fa
 generalize t.fc = fc
 generalize t.dc = dc
 generalize t.xc = xc
 obtain ⟨W1, hW1⟩ : ∃ W1, w.alloc (.cells #[.slice t.da 7 dc, .slice t.xa 6 xc, .slice fa fn fc] 26) = W1 := ⟨_, rfl⟩
 have b1 := bel_nw hW1
 have c0 := (blk_nw hW1).cell 0 _ rfl
 have c1 := (blk_nw hW1).cell 1 _ rfl
 have j0 : (0 : Int) ≤ (j : Int) := by omega
 by_cases h7 : j < 7
 ·have h7' : (j : Int) < 7 := by omega
  obtain ⟨x, hx⟩ : ∃ x, t.D[j]? = some x := ⟨_, List.getElem?_eq_getElem (by rw [hd7]; exact h7)⟩
  obtain ⟨b, off, ha, hc⟩ := (hok.d.low b1).cells j x hx
  have e2 := hc.2 2 (.slice x.a3 x.S.length x.c3) rfl
  have hsz : szN t.D t.X j = x.S.length := sz_dim h7 hx
  rw [hsz]
  rw [ha] at c0 hW1 ⊢
  obtain ⟨ls, hls⟩ : ∃ ls, x.S.length = ls := ⟨_, rfl⟩
  rw [hls] at e2 ⊢
  clear hok hx hsz hls ha hc hd7 hx6
  generalize x.a3 = x3 at e2
  generalize x.c3 = y3 at e2
  go_enter Tryz.func27, Tryz.ntmps27
  go_wp2
  go_ret
  exact ⟨rfl, b1⟩
 ·have h7' : ¬ (j : Int) < 7 := by omega
  obtain ⟨i, rfl⟩ : ∃ i, j = 7 + i := ⟨j - 7, by omega⟩
  have hsub : IntKind.i64.wrap (((7 + i : Nat) : Int) - 7) = (i : Int) := by rw [IntKind.wrap_i64]; omega
  have i0 : (0 : Int) ≤ (i : Int) := by omega
  have i6 : (i : Int) < 6 := by omega
  obtain ⟨x, hx⟩ : ∃ x, t.X[i]? = some x := ⟨_, List.getElem?_eq_getElem (by rw [hx6]; omega)⟩
  obtain ⟨b, off, ha, hc⟩ := (hok.x.low b1).cells i x hx
  have e2 := hc.2 2 (.slice x.a3 x.S.length x.c3) rfl
  have hsz : szN t.D t.X (7 + i) = x.S.length := sz_crs hx
  rw [hsz]
  rw [ha] at c1 hW1 ⊢
  obtain ⟨ls, hls⟩ : ∃ ls, x.S.length = ls := ⟨_, rfl⟩
  rw [hls] at e2 ⊢
  clear hok hx hsz hls ha hc hd7 hx6
  generalize x.a3 = x3 at e2
  generalize x.c3 = y3 at e2
  go_enter Tryz.func27, Tryz.ntmps27
  go_wp2
  go_ret
  exact ⟨rfl, b1⟩
theorem len_mul {l a b : Nat} (hb : 1 ≤ b) : l = a * b ↔ l % b = 0 ∧ l / b = a := by
 constructor
 ·rintro rfl
  exact ⟨Nat.mul_mod_left _ _, Nat.mul_div_cancel _ hb⟩
 ·rintro ⟨h1, rfl⟩
  have := Nat.div_add_mod l b
  rw [h1, Nat.add_zero, Nat.mul_comm] at this
  exact this.symm
set_option maxRecDepth 100000 in
set_option maxHeartbeats 32000000 in
theorem rcheck_lk (t : TR) (w : World) (hok : t.ok w) :
  Calls Tryz.prog 10 #[.agg t.v] w fun e w' => Tells e (TabR t.D t.X t.F) ∧ Below w.heap.size w w' := by
 have HOK : Hid (t.ok w) := hok
 have hdn := hok.dn
 have hxn := hok.xn
 have KM : Hid (t.D.length = 7 → t.X.length = 6 → ∀ j : Nat, j < 13 → ∀ W, Below w.heap.size w W → Calls Tryz.prog 27 #[.agg t.v, .int .i64 (j : Int)] W fun e w' => e = .returned (.int .i64 (szN t.D t.X j : Int)) ∧ Below W.heap.size W w') := fun h1 h2 j hj W hb => rmany_lk t j W (hok.low hb) h1 h2 hj
 obtain ⟨da, dc, D, xa, xc, X, fa, fc, F⟩ := t
 simp only at HOK hdn hxn KM
 have hv : (⟨da, dc, D, xa, xc, X, fa, fc, F⟩ : TR).v = #[.slice da D.length dc, .slice xa X.length xc, .slice fa F.length fc] := rfl
 rw [hv] at KM ⊢
 show Calls _ _ _ _ fun e w' => Tells e (TabR D X F) ∧ _
 have hfn := hok.f.small
 simp only at hfn
 have HF : Hid (RowI w fa F) := hok.f
 have HD : Hid (RowD w da D) := hok.d
 have HX : Hid (RowX w xa X) := hok.x
 obtain ⟨dn, hdn'⟩ : ∃ n, D.length = n := ⟨_, rfl⟩
 obtain ⟨xn, hxn'⟩ : ∃ n, X.length = n := ⟨_, rfl⟩
 obtain ⟨fn, hfn'⟩ : ∃ n, F.length = n := ⟨_, rfl⟩
 have HDN : Hid (D.length = dn) := hdn'
 have HXN : Hid (X.length = xn) := hxn'
 have HFN : Hid (F.length = fn) := hfn'
 rw [hdn'] at hdn KM
 rw [hxn'] at hxn KM
 rw [hfn'] at hfn KM
 rw [hdn', hxn', hfn']
 obtain ⟨W1, hW1⟩ : ∃ W1, w.alloc (.cells #[.slice da dn dc, .slice xa xn xc, .slice fa fn fc] 26) = W1 := ⟨_, rfl⟩
 have b1 := bel_nw hW1
 have HB1 : Hid (Blk W1 w.heap.size 26 #[.slice da dn dc, .slice xa xn xc, .slice fa fn fc]) := blk_nw hW1
 have c0 := HB1.out.cell 0 _ rfl
 have c1 := HB1.out.cell 1 _ rfl
 obtain ⟨Q, hQ⟩ : ∃ Q, TabR D X F = Q := ⟨_, rfl⟩
 have HQ : Hid (TabR D X F ↔ Q) := by rw [hQ]; exact Iff.rfl
 rw [hQ]
 clear hdn' hxn' hfn' hok hv hQ
 by_cases e7 : dn = 7
 rotate_left
 ·have HN : Hid (¬ Q) := fun h => e7 (by rw [← HDN.out]; exact (HQ.out.2 h).d7)
  have e7'' : ((dn : Int) != 7) = true := by simp; omega
  go_enter Tryz.func10, Tryz.ntmps10
  go_wp2
  go_ret
  exact ⟨Tells.no HN.out, b1⟩
 subst e7
 by_cases e6 : xn = 6
 rotate_left
 ·have HN : Hid (¬ Q) := fun h => e6 (by rw [← HXN.out]; exact (HQ.out.2 h).x6)
  have e6'' : ((xn : Int) != 6) = true := by simp; omega
  go_enter Tryz.func10, Tryz.ntmps10
  go_wp2
  go_ret
  exact ⟨Tells.no HN.out, b1⟩
 subst e6
 have KMM : Hid (∀ j : Nat, j < 13 → ∀ W, Below w.heap.size w W → Calls Tryz.prog 27 #[.agg #[.slice da 7 dc, .slice xa 6 xc, .slice fa fn fc], .int .i64 (j : Int)] W fun e w' => e = .returned (.int .i64 (szN D X j : Int)) ∧ Below W.heap.size W w') := KM.out rfl rfl
 clear KM
 go_enter Tryz.func10, Tryz.ntmps10
 go_wp2_with fail
 clear c0 c1 hW1
 go_loopw [3] (fun i wr => ∃ (n : Nat), n ≤ 7 ∧ i = .int .i64 n ∧ Hid (∀ (j : Nat) (x : ChR), j < n → D[j]? = some x → RightC x.L x.K x.S) ∧ Below W1.heap.size W1 wr) (fun i _ => 7 - (intOf i).toNat)
 case atStart => exact ⟨0, by omega, rfl, fun j x hj => by omega, Below.refl _ _⟩
 case round =>
  obtain ⟨n, hn, rfl, HR, qw⟩ := hrel
  have bw := bel_tr b1 qw
  have HBw : Hid (Blk wr w.heap.size 26 #[.slice da 7 dc, .slice xa 6 xc, .slice fa fn fc]) := HB1.out.kept qw
  by_cases hlt : n < 7
  ·have ik : (n : Int) < 7 := by omega
   have in0 : (0 : Int) ≤ (n : Int) := by omega
   have hw1 : IntKind.i64.wrap ((n : Int) + 1) = ((n + 1 : Nat) : Int) := by simp [IntKind.wrap, IntKind.bits, IntKind.signed]; omega
   obtain ⟨x, hx⟩ : ∃ x, D[n]? = some x := ⟨_, List.getElem?_eq_getElem (by rw [HDN.out]; exact hlt)⟩
   have HXN' : Hid (D[n]? = some x) := hx
   obtain ⟨b, off, ha, hc⟩ := (HD.out.low bw).cells n x hx
   have okx := (HD.out.low bw).each x (List.mem_of_getElem? hx)
   have hs1 := info_chR x
   obtain ⟨x1, y1, x2, y2, x3, y3, L, K, S⟩ := x
   have hv : (⟨x1, y1, x2, y2, x3, y3, L, K, S⟩ : ChR).v = #[.slice x1 L.length y1, .slice x2 K.length y2, .slice x3 S.length y3] := rfl
   rw [hv] at hc hs1
   have KR : Hid _ := rright_ck x1 x2 x3 y1 y2 y3 L K S wr okx.small okx.p okx.i okx.s
   have d0 := HBw.out.cell 0 _ rfl
   have HRX : Hid (RightC L K S → ∀ (j : Nat) (x : ChR), j < n + 1 → D[j]? = some x → RightC x.L x.K x.S) := fun hr j y hj hy => by
    by_cases e : j = n
    ·subst e
     rw [HXN'.out] at hy
     cases hy
     exact hr
    ·exact HR.out j y (by omega) hy
   have HNX : Hid (¬ RightC L K S → ¬ Q) := fun hr h => hr ((HQ.out.2 h).dim _ (List.mem_of_getElem? HXN'.out))
   obtain ⟨RC, hRC⟩ : ∃ RC, RightC L K S = RC := ⟨_, rfl⟩
   rw [hRC] at KR HRX HNX
   obtain ⟨l1, hl1⟩ : ∃ l1, L.length = l1 := ⟨_, rfl⟩
   obtain ⟨l2, hl2⟩ : ∃ l2, K.length = l2 := ⟨_, rfl⟩
   obtain ⟨l3, hl3⟩ : ∃ l3, S.length = l3 := ⟨_, rfl⟩
   rw [hl1, hl2, hl3] at hc hs1 KR
   subst ha
   clear hx hv hl1 hl2 hl3 okx hRC
   go_wp2_with (first
    | (refine wpList_load_at rfl _ _ rfl b (off + n * 3) (by rfl) _ hc Tryz.underlying63 hs1 ?_))
   refine Calls.mono KR.out ?_
   rintro e W4 ⟨⟨r, rfl, hr⟩, q4⟩
   have bw4 := bel_tr bw q4
   have qw4 := bel_tr qw q4
   clear KR hc d0
   cases r
   ·have HN : Hid (¬ Q) := HNX.out (fun h => by have := hr.2 h; cases this)
    clear hr
    go_wp2
    go_ret
    exact ⟨Tells.no HN.out, bw4⟩
   ·have HR5 : Hid _ := HRX.out (hr.1 rfl)
    clear hr HR qw bw q4
    go_wp2
    exact ⟨⟨n + 1, by omega, by first | rfl | (congr 1), HR5, qw4⟩, by simp only [intOf]; omega⟩
  ·have hn7 : n = 7 := by omega
   subst hn7
   have HDR : Hid (∀ x ∈ D, RightC x.L x.K x.S) := fun x hx => by
    obtain ⟨j, hj⟩ := List.getElem?_of_mem hx
    have h1 := (List.getElem?_eq_some_iff.1 hj).1
    have h2 := HDN.out
    exact HR.out j x (by omega) hj
   rw [show ((7 : Nat) : Int) = 7 from rfl]
   clear HR hlt HBw bw
   go_wp2_with fail
   go_loopw [4] (fun i wr => ∃ (n : Nat), n ≤ 6 ∧ i = .int .i64 n ∧ Hid (∀ (j : Nat) (x : CrR), j < n → X[j]? = some x → RightX (szN D X (sdL j)) (szN D X (sdR j)) x) ∧ Below W1.heap.size W1 wr) (fun i _ => 6 - (intOf i).toNat)
   case atStart => exact ⟨0, by omega, rfl, fun j x hj => by omega, qw⟩
   case round =>
    clear qw
    obtain ⟨n, hn, rfl, HR, qw⟩ := hrel
    have bw := bel_tr b1 qw
    have HBw : Hid (Blk wr w.heap.size 26 #[.slice da 7 dc, .slice xa 6 xc, .slice fa fn fc]) := HB1.out.kept qw
    by_cases hlt : n < 6
    ·have ik : (n : Int) < 6 := by omega
     have in0 : (0 : Int) ≤ (n : Int) := by omega
     have hw1 : IntKind.i64.wrap ((n : Int) + 1) = ((n + 1 : Nat) : Int) := by simp [IntKind.wrap, IntKind.bits, IntKind.signed]; omega
     obtain ⟨x, hx⟩ : ∃ x, X[n]? = some x := ⟨_, List.getElem?_eq_getElem (by rw [HXN.out]; exact hlt)⟩
     have HXN' : Hid (X[n]? = some x) := hx
     have hsl := sd_lt n hlt
     obtain ⟨P, hP⟩ : ∃ P, sdL n = P := ⟨_, rfl⟩
     obtain ⟨R, hR⟩ : ∃ R, sdR n = R := ⟨_, rfl⟩
     have KSd : Hid _ := rsides_any wr n hlt
     rw [hP, hR] at hsl KSd
     obtain ⟨pa, hpa⟩ : ∃ pa, szN D X P = pa := ⟨_, rfl⟩
     obtain ⟨pb, hpb⟩ : ∃ pb, szN D X R = pb := ⟨_, rfl⟩
     have KM1 : Hid _ := KMM.out P (by omega)
     have KM2 : Hid _ := KMM.out R (by omega)
     rw [hpa] at KM1
     rw [hpb] at KM2
     have HRX : Hid (RightX pa pb x → ∀ (j : Nat) (x : CrR), j < n + 1 → X[j]? = some x → RightX (szN D X (sdL j)) (szN D X (sdR j)) x) := fun hr j y hj hy => by
      by_cases e : j = n
      ·subst e
       rw [HXN'.out] at hy
       cases hy
       rw [hP, hR, hpa, hpb]
       exact hr
      ·exact HR.out j y (by omega) hy
     have HNX : Hid (¬ RightX pa pb x → ¬ Q) := fun hr h => hr (by
      have := (HQ.out.2 h).crs n x HXN'.out
      rw [hP, hR, hpa, hpb] at this
      exact this)
     have HOX : Hid (x.ok w) := HX.out.each x (List.mem_of_getElem? hx)
     clear hP hR hpa hpb
     go_wp2_with fail
     refine Calls.mono KSd.out ?_
     rintro e W2 ⟨rfl, q2⟩
     have bw2 := bel_tr bw q2
     obtain ⟨b, off, ha, hc⟩ := (HX.out.low bw2).cells n x hx
     have hs1 := info_crR x
     have hks := HOX.out.i.small
     have hss := HOX.out.s.small
     have HI : Hid (RowI w x.a2 x.K) := HOX.out.i
     have HS : Hid (RowS w x.a3 x.S) := HOX.out.s
     obtain ⟨xw, x2, y2, x3, y3, K, S⟩ := x
     have hv : (⟨xw, x2, y2, x3, y3, K, S⟩ : CrR).v = #[.int .i64 xw, .slice x2 K.length y2, .slice x3 S.length y3] := rfl
     rw [hv] at hc hs1
     simp only at hks hss HI HS
     have HE : Hid (RightX pa pb ⟨xw, x2, y2, x3, y3, K, S⟩ ↔ xw = (pb : Int) ∧ 1 ≤ pb ∧ K.length = pa * pb ∧ RightK K S.length ∧ ∀ s ∈ S, RiseI s) := Iff.rfl
     obtain ⟨RX, hRX⟩ : ∃ RX, RightX pa pb ⟨xw, x2, y2, x3, y3, K, S⟩ = RX := ⟨_, rfl⟩
     rw [hRX] at HE HRX HNX
     obtain ⟨l2, hl2⟩ : ∃ l2, K.length = l2 := ⟨_, rfl⟩
     obtain ⟨l3, hl3⟩ : ∃ l3, S.length = l3 := ⟨_, rfl⟩
     have HL2 : Hid (K.length = l2 ∧ S.length = l3) := ⟨hl2, hl3⟩
     rw [hl2] at hc hs1 hks HE
     rw [hl3] at hc hs1 hss HE
     obtain ⟨W3, hW3⟩ : ∃ W3, W2.alloc (.cells #[.int .i64 xw, .slice x2 l2 y2, .slice x3 l3 y3] 60) = W3 := ⟨_, rfl⟩
     have q3 := bel_nw hW3
     have q23 := bel_tr q2 q3
     have bw3 := bel_tr bw q23
     have qw3 := bel_tr qw q23
     have HC3 : Hid (Blk W3 W2.heap.size 60 #[.int .i64 xw, .slice x2 l2 y2, .slice x3 l3 y3]) := blk_nw hW3
     have HT3 : Hid (Blk W3 w.heap.size 26 #[.slice da 7 dc, .slice xa 6 xc, .slice fa fn fc]) := HBw.out.kept q23
     have d1 := (HBw.out.kept q2).cell 1 _ rfl
     subst ha
     clear hx hv hRX hl2 hl3 KSd q2 q3 bw2 HOX
     go_wp2_with (first
      | (refine wpList_load_at rfl _ _ rfl b (off + n * 3) (by rfl) _ hc Tryz.underlying60 hs1 ?_))
     clear hc d1
     refine wp_region_noPanic ?_
     refine wp_region_held_drew (S := fun w'' => Below W3.heap.size W3 w'') (by kernel_rfl) (below_drew W3) (fun hHeld => ?_)
     have hsz3 : (Tryz.prog.info? 26).map (·.size) = some 3 := by kernel_rfl
     refine qty (i := 0) (oi := { dst := some 48, op := Op.load 26 (.tmp 1), type := 26, pos := "ref.go:35", after := #[], guard := none }) (v := (.agg #[.slice da 7 dc, .slice (some ⟨b, off, none⟩) 6 xc, .slice fa fn fc])) (yieldsIf_at (by rfl) _ _ rfl w.heap.size 0 (by rfl) _ (fun _ h => (HT3.out.kept h).at_) Tryz.underlying26 hsz3) hHeld ?_
     try simp only [qpu]
     refine qtk (i := 1) (oi := { dst := some 49, op := Op.move (.tmp 5), type := 3, pos := "ref.go:35", after := #[], guard := none }) (v := (.int .i64 (P : Int))) hHeld ?_ ?_
     ·intro w9 hSw
      try dsimp only at hSw
      go_simp
     try simp only [qpu]
     refine qty (i := 3) (oi := { dst := some 51, op := Op.load 26 (.tmp 1), type := 26, pos := "ref.go:35", after := #[], guard := none }) (v := (.agg #[.slice da 7 dc, .slice (some ⟨b, off, none⟩) 6 xc, .slice fa fn fc])) (yieldsIf_at (by rfl) _ _ rfl w.heap.size 0 (by rfl) _ (fun _ h => (HT3.out.kept h).at_) Tryz.underlying26 hsz3) hHeld ?_
     try simp only [qpu]
     refine qtk (i := 4) (oi := { dst := some 52, op := Op.move (.tmp 6), type := 3, pos := "ref.go:35", after := #[], guard := none }) (v := (.int .i64 (R : Int))) hHeld ?_ ?_
     ·intro w9 hSw
      try dsimp only at hSw
      go_simp
     try simp only [qpu]
     refine wpAnyH_ready (rs := [2]) (by kernel_rfl) (by simp) ?_
     refine AllReadyH.cons (o := { dst := some 50, op := Op.call { callee := Callee.value (.func 27), args := #[.tmp 48, .tmp 49], argTypes := #[26, 3] }, type := 3, pos := "ref.go:35", after := #[{ on := 0, ground := Ground.data }, { on := 1, ground := Ground.data }], guard := none }) rfl (fun K hK => ?_) AllReadyH.nil
     go_simp
     refine Calls.mono (KM1.out _ (bel_tr bw3 (below_drew W3))) ?_
     rintro e W4 ⟨rfl, q4⟩
     have q34 := bel_tr (below_drew W3) q4
     refine hK.out _ _ q34 (fun hHeld => ?_)
     clear hK K
     try simp only [qpu]
     refine wpAnyH_ready (rs := [5]) (by kernel_rfl) (by simp) ?_
     refine AllReadyH.cons (o := { dst := some 53, op := Op.call { callee := Callee.value (.func 27), args := #[.tmp 51, .tmp 52], argTypes := #[26, 3] }, type := 3, pos := "ref.go:35", after := #[{ on := 3, ground := Ground.data }, { on := 4, ground := Ground.data }, { on := 2, ground := Ground.chain }], guard := none }) rfl (fun K hK => ?_) AllReadyH.nil
     go_simp
     refine Calls.mono (KM2.out _ (bel_tr bw3 q34)) ?_
     rintro e W5 ⟨rfl, q5⟩
     have q35 := bel_tr q34 q5
     refine hK.out _ _ q35 (fun hHeld => ?_)
     clear hK K
     try simp only [qpu]
     refine qtk (i := 6) (oi := { dst := some 8, op := Op.assign (.tmp 50), type := 3, pos := "ref.go:35", after := #[{ on := 2, ground := Ground.data }, { on := 5, ground := Ground.chain }, { on := 0, ground := Ground.phase }, { on := 1, ground := Ground.phase }, { on := 2, ground := Ground.phase }, { on := 3, ground := Ground.textOnly Departure.lateStores }, { on := 4, ground := Ground.textOnly Departure.lateStores }, { on := 5, ground := Ground.textOnly Departure.lateStoresUnsure }], guard := none }) (v := (.int .i64 (pa : Int))) hHeld ?_ ?_
     ·intro w9 hSw
      try dsimp only at hSw
      go_simp
     try simp only [qpu]
     refine qtk (i := 7) (oi := { dst := some 9, op := Op.assign (.tmp 53), type := 3, pos := "ref.go:35", after := #[{ on := 5, ground := Ground.data }, { on := 6, ground := Ground.chain }, { on := 0, ground := Ground.phase }, { on := 1, ground := Ground.phase }, { on := 2, ground := Ground.phase }, { on := 3, ground := Ground.phase }, { on := 4, ground := Ground.phase }, { on := 5, ground := Ground.phase }, { on := 6, ground := Ground.phase }], guard := none }) (v := (.int .i64 (pb : Int))) hHeld ?_ ?_
     ·intro w9 hSw
      try dsimp only at hSw
      go_simp
     try simp only [qpu]
     refine wpAnyH_done (by kernel_rfl) ?_ _
     refine NoPanic.normal ?_
     clear q4 q5 q34

     have bw5 := bel_tr bw3 q35
     have qw5 := bel_tr qw3 q35
     have HC5 : Hid (Blk W5 W2.heap.size 60 #[.int .i64 xw, .slice x2 l2 y2, .slice x3 l3 y3]) := HC3.out.kept q35
     have f0 := HC5.out.cell 0 _ rfl
     have f1 := HC5.out.cell 1 _ rfl
     clear KM1 KM2 q35 HC3 HT3 bw3 qw3 bw qw HBw q23
     by_cases e1 : xw = (pb : Int)
     rotate_left
     ·have HN : Hid (¬ Q) := HNX.out (fun h => e1 (HE.out.1 h).1)
      have e1' : (xw != (pb : Int)) = true := by simp; exact e1
      go_wp2
      go_ret
      exact ⟨Tells.no HN.out, bw5⟩
     subst e1
     by_cases e2 : 1 ≤ pb
     rotate_left
     ·have HN : Hid (¬ Q) := HNX.out (fun h => e2 (HE.out.1 h).2.1)
      have e2' : (pb : Int) < 1 := by omega
      go_wp2
      go_ret
      exact ⟨Tells.no HN.out, bw5⟩
     have e2' : ¬ (pb : Int) < 1 := by omega
     have e20 : (pb : Int) ≠ 0 := by omega
     have e20' : ((pb : Int) == 0) = false := by simp; omega
     obtain ⟨rm, hrm⟩ : ∃ rm, l2 % pb = rm := ⟨_, rfl⟩
     obtain ⟨qt, hqt⟩ : ∃ qt, l2 / pb = qt := ⟨_, rfl⟩
     have hrem : Int.tmod (l2 : Int) (pb : Int) = (rm : Int) := by rw [← hrm]; exact (Int.ofNat_tmod l2 pb).symm
     have hquo : Int.tdiv (l2 : Int) (pb : Int) = (qt : Int) := by rw [← hqt]; exact (Int.ofNat_tdiv l2 pb).symm
     have hrl : rm ≤ l2 := by rw [← hrm]; exact Nat.mod_le _ _
     have hql : qt ≤ l2 := by rw [← hqt]; exact Nat.div_le_self _ _
     have hwr : IntKind.i64.wrap (rm : Int) = (rm : Int) := wraps_i64 _ (by omega) (by omega)
     have hwq : IntKind.i64.wrap (qt : Int) = (qt : Int) := wraps_i64 _ (by omega) (by omega)
     have HMUL : Hid (l2 = pa * pb ↔ rm = 0 ∧ qt = pa) := by rw [← hrm, ← hqt]; exact len_mul e2
     clear hrm hqt
     by_cases e3 : rm = 0
     rotate_left
     ·have HN : Hid (¬ Q) := HNX.out (fun h => e3 (HMUL.out.1 (HE.out.1 h).2.2.1).1)
      have e3' : ((rm : Int) != 0) = true := by simp; omega
      go_wp2
      go_ret
      exact ⟨Tells.no HN.out, bw5⟩
     subst e3
     by_cases e4 : qt = pa
     rotate_left
     ·have HN : Hid (¬ Q) := HNX.out (fun h => e4 (HMUL.out.1 (HE.out.1 h).2.2.1).2)
      have e4' : ((qt : Int) != (pa : Int)) = true := by simp; omega
      go_wp2
      go_ret
      exact ⟨Tells.no HN.out, bw5⟩
     subst e4
     have HLM : Hid (l2 = qt * pb) := HMUL.out.2 ⟨rfl, rfl⟩
     have hrem0 : Int.tmod (l2 : Int) (pb : Int) = 0 := hrem
     have hwr0 : IntKind.i64.wrap 0 = 0 := by rw [IntKind.wrap_i64]; omega
     clear HMUL hrem hwr
     go_wp2_with fail
     clear f0 f1 hrem0 hquo hwq hwr0 e20 e20' e2'
     go_loopw [10] (fun i wq => ∃ (m : Nat), m ≤ l2 ∧ i = .int .i64 m ∧ Hid (∀ (j : Nat) (y : Int), j < m → K[j]? = some y → 0 ≤ y ∧ y < (l3 : Int)) ∧ Below W5.heap.size W5 wq) (fun i _ => l2 - (intOf i).toNat)
     case atStart => exact ⟨0, by omega, rfl, fun j y hj => by omega, Below.refl _ _⟩
     case round =>
      obtain ⟨m, hm, rfl, HRK, qq⟩ := hrel
      have bq := bel_tr bw5 qq
      have HCq : Hid (Blk wr W2.heap.size 60 #[.int .i64 (pb : Int), .slice x2 l2 y2, .slice x3 l3 y3]) := HC5.out.kept qq
      have g1 := HCq.out.cell 1 _ rfl
      by_cases hlm : m < l2
      ·have im : (m : Int) < (l2 : Int) := by omega
       have im0 : (0 : Int) ≤ (m : Int) := by omega
       have hw1m : IntKind.i64.wrap ((m : Int) + 1) = ((m + 1 : Nat) : Int) := by simp [IntKind.wrap, IntKind.bits, IntKind.signed]; omega
       obtain ⟨y, hy⟩ : ∃ y, K[m]? = some y := ⟨_, List.getElem?_eq_getElem (by rw [HL2.out.1]; exact hlm)⟩
       have HY : Hid (K[m]? = some y) := hy
       obtain ⟨bk, ok_, ek, hck⟩ := HI.out.cells (by rw [HL2.out.1]; omega)
       have hy0 := hck m (by rw [HL2.out.1]; exact hlm)
       rw [show K.getD m 0 = y by simp [hy]] at hy0
       have HK0 : Hid (w.cell? ⟨bk, ok_ + m, none⟩ = some (.int .i64 y)) := hy0
       subst ek
       clear hy hck hy0
       go_wp2_with fail
       have qd := bel_tr qq (below_drewN (Below.refl _ _) 0)
       by_cases e0 : y < 0
       ·have HN : Hid (¬ Q) := HNX.out (fun h => by have := (HE.out.1 h).2.2.2.1 y (List.mem_of_getElem? HY.out); omega)
        have g3 := kept bq HK0.out
        go_quiet (fail)
        have bq' : Below w.heap.size w (wr.drewN nq) := below_drewN bq nq
        go_wp2
        go_ret
        exact ⟨Tells.no HN.out, bq'⟩
       ·have g2 := HCq.out.cell 2 _ rfl
        have g3 := kept bq HK0.out
        by_cases e1 : (l3 : Int) ≤ y
        ·have HN : Hid (¬ Q) := HNX.out (fun h => by have := (HE.out.1 h).2.2.2.1 y (List.mem_of_getElem? HY.out); omega)
         go_quiet (fail)
         have bq' : Below w.heap.size w (wr.drewN nq) := below_drewN bq nq
         go_wp2
         go_ret
         exact ⟨Tells.no HN.out, bq'⟩
        ·have HR7 : Hid (∀ (j : Nat) (y : Int), j < m + 1 → K[j]? = some y → 0 ≤ y ∧ y < (l3 : Int)) := fun j z hj hz => by
          by_cases e : j = m
          ·subst e
           rw [HY.out] at hz
           cases hz
           omega
          ·exact HRK.out j z (by omega) hz
         go_quiet (fail)
         have qq' : Below W5.heap.size W5 (wr.drewN nq) := below_drewN qq nq
         clear HRK
         go_wp2
         exact ⟨⟨m + 1, by omega, by first | rfl | (congr 1), HR7, qq'⟩, by simp only [intOf]; omega⟩

      ·have im : ¬ (m : Int) < (l2 : Int) := by omega
       have HRK2 : Hid (RightK K l3) := fun y hy => by
        obtain ⟨j, hj⟩ := List.getElem?_of_mem hy
        have h1 := (List.getElem?_eq_some_iff.1 hj).1
        have h2 := HL2.out.1
        exact HRK.out j y (by omega) hj
       have qw6 := bel_tr qw5 qq
       clear HRK
       go_wp2_with fail
       clear g1
       go_loopw [11] (fun i wz => ∃ (u : Nat), u ≤ l3 ∧ i = .int .i64 u ∧ Hid (∀ (j : Nat) (s : List Int), j < u → S[j]? = some s → RiseI s) ∧ Below wr.heap.size wr wz) (fun i _ => l3 - (intOf i).toNat)
       case atStart => exact ⟨0, by omega, rfl, fun j y hj => by omega, Below.refl _ _⟩
       case round =>
        rename_i wz _
        obtain ⟨u, hu, rfl, HRS, qz⟩ := hrel
        have bz := bel_tr bq qz
        have g2 := (HCq.out.kept qz).cell 2 _ rfl
        by_cases hlu : u < l3
        ·have iu : (u : Int) < (l3 : Int) := by omega
         have iu0 : (0 : Int) ≤ (u : Int) := by omega
         have hw1u : IntKind.i64.wrap ((u : Int) + 1) = ((u + 1 : Nat) : Int) := by simp [IntKind.wrap, IntKind.bits, IntKind.signed]; omega
         obtain ⟨s, hs⟩ : ∃ s, S[u]? = some s := ⟨_, List.getElem?_eq_getElem (by rw [HL2.out.2]; exact hlu)⟩
         have HSu : Hid (S[u]? = some s) := hs
         obtain ⟨bs, os, ai, ci, es, cs, ri⟩ := (HS.out.below bz).cells u s hs
         have KR : Hid _ := rrising_any ai ci s wr ri
         have HRU : Hid (RiseI s → ∀ (j : Nat) (t : List Int), j < u + 1 → S[j]? = some t → RiseI t) := fun hr j y hj hy => by
          by_cases e : j = u
          ·subst e
           rw [HSu.out] at hy
           cases hy
           exact hr
          ·exact HRS.out j y (by omega) hy
         have HNU : Hid (¬ RiseI s → ¬ Q) := fun hr => HNX.out (fun h => hr ((HE.out.1 h).2.2.2.2 s (List.mem_of_getElem? HSu.out)))
         obtain ⟨ls, hls⟩ : ∃ ls, s.length = ls := ⟨_, rfl⟩
         rw [hls] at cs KR
         subst es
         clear hs hls ri
         go_wp2_with fail
         refine Calls.mono KR.out ?_
         rintro e W7 ⟨⟨r, rfl, hr⟩, q7⟩
         have bz7 := bel_tr bz q7
         have qz7 := bel_tr qz q7
         clear g2 cs KR
         cases r
         ·have HN : Hid (¬ Q) := HNU.out (fun h => by have := hr.2 h; cases this)
          clear hr
          go_wp2
          go_ret
          exact ⟨Tells.no HN.out, bz7⟩
         ·have HR7 : Hid _ := HRU.out (hr.1 rfl)
          clear hr HRS q7 qz bz
          go_wp2
          exact ⟨⟨u + 1, by omega, by first | rfl | (congr 1), HR7, qz7⟩, by simp only [intOf]; omega⟩
        ·have iu : ¬ (u : Int) < (l3 : Int) := by omega
         have HRS2 : Hid (∀ s ∈ S, RiseI s) := fun y hy => by
          obtain ⟨j, hj⟩ := List.getElem?_of_mem hy
          have h1 := (List.getElem?_eq_some_iff.1 hj).1
          have h2 := HL2.out.2
          exact HRS.out j y (by omega) hj
         have HR8 : Hid _ := HRX.out (HE.out.2 ⟨by first | rfl | trivial, e2, HLM.out, HRK2.out, HRS2.out⟩)
         have qw8 := bel_tr qw6 qz
         clear HRS bz qz HR
         go_wp2
         exact ⟨⟨n + 1, by omega, by first | rfl | (congr 1), HR8, qw8⟩, by simp only [intOf]; omega⟩
    ·have hn6 : n = 6 := by omega
     subst hn6
     have HCR : Hid (∀ (j : Nat) (x : CrR), X[j]? = some x → RightX (szN D X (sdL j)) (szN D X (sdR j)) x) := fun j x hj => HR.out j x (by have := (List.getElem?_eq_some_iff.1 hj).1; rw [HXN.out] at this; exact this) hj
     rw [show ((6 : Nat) : Int) = 6 from rfl]
     clear HR hlt HBw
     go_wp2_with fail
     go_loopw [12] (fun i wz => ∃ (u : Nat), u ≤ fn ∧ i = .int .i64 u ∧ Hid (∀ (j : Nat) (y : Int), j < u → F[j]? = some y → -1 ≤ y) ∧ Below W1.heap.size W1 wz) (fun i _ => fn - (intOf i).toNat)
     case atStart => exact ⟨0, by omega, rfl, fun j y hj => by omega, qw⟩
     case round =>
      clear qw bw
      obtain ⟨u, hu, rfl, HRS, qw⟩ := hrel
      have bw := bel_tr b1 qw
      have HBw : Hid (Blk wr w.heap.size 26 #[.slice da 7 dc, .slice xa 6 xc, .slice fa fn fc]) := HB1.out.kept qw
      have g2 := HBw.out.cell 2 _ rfl
      by_cases hlu : u < fn
      ·have iu : (u : Int) < (fn : Int) := by omega
       have iu0 : (0 : Int) ≤ (u : Int) := by omega
       have hw1u : IntKind.i64.wrap ((u : Int) + 1) = ((u + 1 : Nat) : Int) := by simp [IntKind.wrap, IntKind.bits, IntKind.signed]; omega
       obtain ⟨y, hy⟩ : ∃ y, F[u]? = some y := ⟨_, List.getElem?_eq_getElem (by rw [HFN.out]; exact hlu)⟩
       have HY : Hid (F[u]? = some y) := hy
       obtain ⟨bf, of_, ef, hcf⟩ := (HF.out.below bw).cells (by rw [HFN.out]; omega)
       have hy0 := hcf u (by rw [HFN.out]; exact hlu)
       rw [show F.getD u 0 = y by simp [hy]] at hy0
       rw [ef] at g2
       clear hy hcf ef
       by_cases e0 : y < -1
       ·have HN : Hid (¬ Q) := fun h => by have := (HQ.out.2 h).fst y (List.mem_of_getElem? HY.out); omega
        go_wp2
        go_ret
        exact ⟨Tells.no HN.out, bw⟩
       ·have HR7 : Hid (∀ (j : Nat) (y : Int), j < u + 1 → F[j]? = some y → -1 ≤ y) := fun j z hj hz => by
         by_cases e : j = u
         ·subst e
          rw [HY.out] at hz
          cases hz
          omega
         ·exact HRS.out j z (by omega) hz
        clear HRS
        go_wp2
        exact ⟨⟨u + 1, by omega, by first | rfl | (congr 1), HR7, qw⟩, by simp only [intOf]; omega⟩
      ·have iu : ¬ (u : Int) < (fn : Int) := by omega
       have HFT : Hid (∀ y ∈ F, -1 ≤ y) := fun y hy => by
        obtain ⟨j, hj⟩ := List.getElem?_of_mem hy
        have h1 := (List.getElem?_eq_some_iff.1 hj).1
        have h2 := HFN.out
        exact HRS.out j y (by omega) hj
       obtain ⟨x, hx⟩ : ∃ x, X[5]? = some x := ⟨_, List.getElem?_eq_getElem (by rw [HXN.out]; omega)⟩
       have HSZ12 : Hid (szN D X 12 = x.S.length) := sz_crs (n := 5) hx
       obtain ⟨b, off, ha, hc⟩ := HX.out.cells 5 x hx
       have e2 := hc.2 2 (.slice x.a3 x.S.length x.c3) rfl
       obtain ⟨ls, hls⟩ : ∃ ls, x.S.length = ls := ⟨_, rfl⟩
       rw [hls] at e2 HSZ12
       rw [show off + 5 * 3 + 2 = off + 17 from by omega] at e2
       have HE2 : Hid (w.cell? ⟨b, off + 17, none⟩ = some (.slice x.a3 ls x.c3)) := e2
       rw [ha] at HBw
       clear hx hc e2 hls HRS ha
       generalize x.a3 = x3 at HE2
       generalize x.c3 = y3 at HE2
       have g3 := HBw.out.cell 1 _ rfl
       go_wp2_with fail
       clear g2 g3
       refine wp_region_noPanic ?_
       refine wp_region_held_drew (S := fun w'' => Below wr.heap.size wr w'') (by kernel_rfl) (below_drew wr) (fun hHeld => ?_)
       refine qtk (i := 0) (oi := { dst := some 130, op := Op.fieldAddr 26 (.tmp 1) 2, type := 0, pos := "ref.go:55", after := #[], guard := none }) (v := (.pointer (some ⟨w.heap.size, 2, none⟩))) hHeld ?_ ?_
       ·intro w9 hSw
        try dsimp only at hSw
        go_simp
       try simp only [qpu]
       refine qtk (i := 1) (oi := { dst := some 131, op := Op.load 24 (.tmp 130), type := 24, pos := "ref.go:55", after := #[{ on := 0, ground := Ground.data }], guard := none }) (v := (.slice fa fn fc)) hHeld ?_ ?_
       ·intro w9 hSw
        try dsimp only at hSw
        have hcc := (HBw.out.kept hSw).cell 2 _ rfl
        go_simp
       try simp only [qpu]
       refine qtk (i := 2) (oi := { dst := some 132, op := Op.call { callee := Callee.builtin Builtin.len, args := #[.tmp 131], argTypes := #[24] }, type := 3, pos := "ref.go:55", after := #[{ on := 1, ground := Ground.data }], guard := none }) (v := (.int .i64 (fn : Int))) hHeld ?_ ?_
       ·intro w9 hSw
        try dsimp only at hSw
        go_simp
       try simp only [qpu]
       refine qtk (i := 3) (oi := { dst := some 133, op := Op.fieldAddr 26 (.tmp 1) 1, type := 0, pos := "ref.go:55", after := #[], guard := none }) (v := (.pointer (some ⟨w.heap.size, 1, none⟩))) hHeld ?_ ?_
       ·intro w9 hSw
        try dsimp only at hSw
        go_simp
       try simp only [qpu]
       refine qtk (i := 4) (oi := { dst := some 134, op := Op.load 23 (.tmp 133), type := 23, pos := "ref.go:55", after := #[{ on := 3, ground := Ground.data }], guard := none }) (v := (.slice (some ⟨b, off, none⟩) 6 xc)) hHeld ?_ ?_
       ·intro w9 hSw
        try dsimp only at hSw
        have hcc := (HBw.out.kept hSw).cell 1 _ rfl
        go_simp
       try simp only [qpu]
       refine qtk (i := 5) (oi := { dst := some 135, op := Op.indexAddr 23 (.tmp 134) (.const (.int .i64 5)), type := 0, pos := "ref.go:55", after := #[{ on := 4, ground := Ground.data }], guard := none }) (v := (.pointer (some ⟨b, off + 15, none⟩))) hHeld ?_ ?_
       ·intro w9 hSw
        try dsimp only at hSw
        go_simp
       try simp only [qpu]
       refine qtk (i := 6) (oi := { dst := some 136, op := Op.fieldAddr 60 (.tmp 135) 2, type := 0, pos := "ref.go:55", after := #[{ on := 5, ground := Ground.data }], guard := none }) (v := (.pointer (some ⟨b, off + 17, none⟩))) hHeld ?_ ?_
       ·intro w9 hSw
        try dsimp only at hSw
        go_simp
       try simp only [qpu]
       refine qtk (i := 7) (oi := { dst := some 137, op := Op.load 58 (.tmp 136), type := 58, pos := "ref.go:55", after := #[{ on := 6, ground := Ground.data }], guard := none }) (v := (.slice x3 ls y3)) hHeld ?_ ?_
       ·intro w9 hSw
        try dsimp only at hSw
        have hcc := kept (bel_tr bw hSw) HE2.out
        go_simp
       try simp only [qpu]
       refine qtk (i := 8) (oi := { dst := some 138, op := Op.call { callee := Callee.builtin Builtin.len, args := #[.tmp 137], argTypes := #[58] }, type := 3, pos := "ref.go:55", after := #[{ on := 7, ground := Ground.data }], guard := none }) (v := (.int .i64 (ls : Int))) hHeld ?_ ?_
       ·intro w9 hSw
        try dsimp only at hSw
        go_simp
       try simp only [qpu]
       refine qtk (i := 9) (oi := { dst := some 139, op := Op.binOp BinOp.eql 3 (.tmp 132) (.tmp 138) 3, type := 4, pos := "ref.go:55", after := #[{ on := 2, ground := Ground.data }, { on := 8, ground := Ground.data }], guard := none }) (v := (.bool ((fn : Int) == (ls : Int)))) hHeld ?_ ?_
       ·intro w9 hSw
        try dsimp only at hSw
        go_simp
       try simp only [qpu]
       refine qtk (i := 10) (oi := { dst := some 2, op := Op.assign (.tmp 139), type := 4, pos := "ref.go:55", after := #[{ on := 9, ground := Ground.data }, { on := 0, ground := Ground.phase }, { on := 1, ground := Ground.phase }, { on := 2, ground := Ground.phase }, { on := 3, ground := Ground.phase }, { on := 4, ground := Ground.phase }, { on := 5, ground := Ground.phase }, { on := 6, ground := Ground.phase }, { on := 7, ground := Ground.phase }, { on := 8, ground := Ground.phase }, { on := 9, ground := Ground.phase }], guard := none }) (v := (.bool ((fn : Int) == (ls : Int)))) hHeld ?_ ?_
       ·intro w9 hSw
        try dsimp only at hSw
        go_simp
       try simp only [qpu]
       refine wpAnyH_done (by kernel_rfl) ?_ _
       refine NoPanic.normal ?_

       have bw9 := bel_tr bw (below_drew wr)
       by_cases es : fn = ls
       ·have HY : Hid Q := HQ.out.1 ⟨HDN.out, HXN.out, HDR.out, HCR.out, by rw [HFN.out, HSZ12.out, es], HFT.out⟩
        have es' : ((fn : Int) == (ls : Int)) = true := by simp; omega
        rw [es']
        go_wp2
        go_ret
        exact ⟨Tells.yes HY.out, bw9⟩
       ·have HN : Hid (¬ Q) := fun h => es (by have := (HQ.out.2 h).fl; rw [HFN.out, HSZ12.out] at this; exact this)
        have es' : ((fn : Int) == (ls : Int)) = false := by rw [beq_eq_false_iff_ne]; omega
        rw [es']
        go_wp2
        go_ret
        exact ⟨Tells.no HN.out, bw9⟩
end Go.Proofs.YtmfgjicfdjjihaaGreatDoor
