/- Texts joined: FragOwnWalk -/
import Derived.Test.YtebdpiedgjdjeaaFgw51
namespace Go.Proofs.Ytebdpiedgjdjeaa
open Go.RowKit
set_option linter.unusedVariables false
set_option linter.unusedSimpArgs false
set_option maxRecDepth 100000 in
set_option maxHeartbeats 16000000 in
theorem fragOwn_walk (a0 : Option Addr) (c0 : Nat) (data : List Int) (a1 : Option Addr) (c1 : Nat) (cuts : List Int) (a2 : Option Addr) (c2 : Nat) (ord : List Int) (w : World) (lc0 : data.length ≤ c0) (cm0 : c0 ≤ 140737488351232) (nl0 : a0 = none → c0 = 0) (w0 : Row w a0 data) (lc1 : cuts.length ≤ c1) (cm1 : c1 ≤ 140737488351232) (nl1 : a1 = none → c1 = 0) (w1 : Row w a1 cuts) (lc2 : ord.length ≤ c2) (cm2 : c2 ≤ 140737488351232) (nl2 : a2 = none → c2 = 0) (w2 : Row w a2 ord) :
    Calls Try.prog 10 #[.slice a0 data.length c0, .slice a1 cuts.length c1, .slice a2 ord.length c2] w fun e w' => e = .returned (.bool true) ∧ Below w.heap.size w w' := by
  have HP : Hid PiecesSpec := pieces_spec
  obtain ⟨N, hN⟩ : ∃ n, data.length = n := ⟨_, rfl⟩
  have HN : Hid (data.length = N) := hN
  rw [hN] at lc0 ⊢
  clear hN
  by_cases z1 : N = 0
  · subst z1
    have KA : Hid _ := falive_any w
    go_enter Try.func10, Try.ntmps10
    go_wp2_with fail
    refine Calls.mono KA.out ?_
    rintro e W3 ⟨rfl, b3⟩
    go_wp2
    go_ret
    exact ⟨rfl, b3⟩
  by_cases z2 : N > 1000
  · have z1' : ¬ (↑N : Int) = 0 := by omega
    have z2' : (↑N : Int) > 1000 := by omega
    have KA : Hid _ := falive_any w
    go_enter Try.func10, Try.ntmps10
    go_wp2_with fail
    refine Calls.mono KA.out ?_
    rintro e W3 ⟨rfl, b3⟩
    go_wp2
    go_ret
    exact ⟨rfl, b3⟩
  by_cases z3 : cuts.length > 60
  · have z1' : ¬ (↑N : Int) = 0 := by omega
    have z2' : ¬ (↑N : Int) > 1000 := by omega
    have z3' : (↑cuts.length : Int) > 60 := by omega
    have KA : Hid _ := falive_any w
    go_enter Try.func10, Try.ntmps10
    go_wp2_with fail
    refine Calls.mono KA.out ?_
    rintro e W3 ⟨rfl, b3⟩
    go_wp2
    go_ret
    exact ⟨rfl, b3⟩
  have z1' : ¬ (↑N : Int) = 0 := by omega
  have z2' : ¬ (↑N : Int) > 1000 := by omega
  have z3' : ¬ (↑cuts.length : Int) > 60 := by omega
  obtain ⟨db, do_, rfl, hdc⟩ := w0.cells (by rw [HN.out]; omega)
  clear hdc
  have R0 : Hid (Row w (some ⟨db, do_, none⟩) data) := w0
  have R1 : Hid (Row w a1 cuts) := w1
  have R2 : Hid (Row w a2 ord) := w2
  have KA : Hid _ := falive_any w
  clear w0 w1 w2
  go_enter Try.func10, Try.ntmps10
  go_wp2_with fail
  refine Calls.mono KA.out ?_
  rintro e W1 ⟨rfl, b1⟩
  have KN : Hid _ := tabB_new 2 2000 10 W1 ⟨by decide, by decide, by decide, by decide, by decide, by decide⟩
  clear KA
  go_wp2_with fail
  refine Calls.mono KN.out ?_
  rintro e W2 ⟨tb, mb, rfl, T2⟩
  have b2 : Below w.heap.size w W2 := b1.trans (T2.bel.mono b1.size)
  have KP : Hid _ := piece_any 0 false (some ⟨db, do_, none⟩) N c0 W2
  clear KN
  go_wp2_with fail
  refine Calls.mono KP.out ?_
  rintro e W3 ⟨rfl, k3⟩
  have T3 := T2.below k3
  have b3 := bel_tr b2 k3
  have KQ := HP.out data cuts ord db do_ c0 a1 c1 a2 c2 W3 (by rw [HN.out]; omega) (by rw [HN.out]; omega) (by rw [HN.out]; exact lc0) (by omega) (R1.out.below b3) (R2.out.below b3)
  rw [HN.out] at KQ
  have KQ : Hid _ := KQ
  clear KP T2 b2
  go_wp2_with fail
  refine Calls.mono KQ.out ?_
  rintro e W4 ⟨la, lc, M, rfl, hperm, how, hnew, k4⟩
  have T4 := T3.below k4
  have b4 := bel_tr b3 k4
  have hne : M ≠ [] := fun h => cutL_ne N cuts 0 (List.perm_nil.1 (by rw [h] at hperm; exact hperm.symm))
  have hlen : 0 < M.length := List.length_pos_iff.2 hne
  obtain ⟨q0, hq0⟩ : ∃ q, M[0]? = some q := ⟨_, List.getElem?_eq_getElem hlen⟩
  obtain ⟨g2, rfl, h99⟩ := how.at_ (i := 0) (q := mkL data db do_ c0 q0) (by rw [List.getElem?_map, hq0]; rfl)
  have hPart : Hid (Part data KN (M.map (pkL data []))) := by
    have h1 := part_cut (data := data) (X := []) (by rw [HN.out]; omega) (by rw [HN.out]; omega) cuts
    rw [HN.out] at h1
    exact h1.perm (hperm.map _)
  have T5 : Hid (TabP W1.heap.size (fun k => k = g2) W1 W4 tb mb (fs0 2 2000 10)) := T3.toP.add k4 (fun k hk => .inr (by subst hk; exact ⟨hnew _ rfl, how.lt rfl⟩))
  have hPart7 : Hid (Part data KN (M.map (pkL data [7]))) := by
    have h1 := part_cut (data := data) (X := [7]) (by rw [HN.out]; omega) (by rw [HN.out]; omega) cuts
    rw [HN.out] at h1
    exact h1.perm (hperm.map _)
  have hg2 : W1.heap.size ≤ g2 := Nat.le_trans T3.le (hnew _ rfl)
  have HO : Hid (ownP W4 (some ⟨g2, 0, none⟩) lc (M.map (mkL data db do_ c0))) := how
  have B1 : Hid (Below w.heap.size w W1) := b1
  have B4 : Hid (Below w.heap.size w W4) := b4
  obtain ⟨NM, hNM⟩ : ∃ n, M.length = n := ⟨_, rfl⟩
  have HNM : Hid (M.length = NM) := hNM
  have hml : NM ≤ 61 := by
    have h1 := cutL_len N cuts 0
    rw [← hperm.length_eq, hNM] at h1
    omega
  rw [hNM] at hlen ⊢
  clear KQ T3 T4 b3 b4 k3 k4 h99 hq0 hnew how hperm hne hNM b1
  go_wp2
  go_loopw [50] (fun i wr => ∃ (j : Nat) (s : Fs), j ≤ NM ∧ i = .int .i64 j ∧ Hid (TabP W1.heap.size (fun k => k = g2) W1 wr tb mb s) ∧ Hid (But (fun k => ¬ k = g2 ∧ W1.heap.size ≤ k) W4 wr) ∧ Hid (j < NM → One data s ((M.map (pkL data [7])).take j) ∧ s.room = 2000 ∧ s.most = 2)) (fun i _ => NM - (intOf i).toNat)
  case atStart => exact ⟨0, _, by omega, rfl, T5, But.refl _ _, fun _ => ⟨fs0_one data _ _ _, rfl, rfl⟩⟩
  case round =>
    obtain ⟨j, s, hj, rfl, hT, hB, hOne⟩ := hrel
    clear T5
    by_cases hlt : j < NM
    · have i1 : (↑j : Int) < ↑NM := by omega
      have i0 : (0 : Int) ≤ ↑j := by omega
      obtain ⟨x, hx⟩ : ∃ q, M[j]? = some q := ⟨_, List.getElem?_eq_getElem (by rw [HNM.out]; omega)⟩
      have hq : (M.map (mkL data db do_ c0))[j]? = some (mkL data db do_ c0 x) := by rw [List.getElem?_map, hx]; rfl
      have how := HO.out.but hB.out (fun y hy h => by cases hy; exact h.1 rfl)
      obtain ⟨g9, eg9, hca⟩ := how.at_ hq
      cases eg9
      have hLj : (M.map (pkL data []))[j]? = some (pkL data [] x) := by rw [List.getElem?_map, hx]; rfl
      have hLl : (M.map (pkL data [])).length = NM := by rw [List.length_map]; exact HNM.out
      have hone := hPart.out.each (pkL data [] x) (List.mem_of_getElem? hLj)
      have bw : Below w.heap.size w wr := B1.out.trans (hT.out.bel.mono B1.out.size)
      have hrow : Row wr (some ⟨db, do_ + x.1, none⟩) (pkL data [] x).dat := row_sub (R0.out.below bw) x.1 x.2.1
      obtain ⟨p, hp⟩ : ∃ p, pkL data [] x = p := ⟨_, rfl⟩
      have hpv : (mkL data db do_ c0 x).v = pkV p none 0 (some ⟨db, do_ + x.1, none⟩) (c0 - x.1) := by rw [← hp]
      have hpok : PktOk p := by rw [← hp]; exact pktOk_own data [] x
      have hpX : p.X = [] := by rw [← hp]
      rw [hpv] at hca
      have hLj7 : (M.map (pkL data [7]))[j]? = some (pkL data [7] x) := by rw [List.getElem?_map, hx]; rfl
      have hLl7 : (M.map (pkL data [7])).length = NM := by rw [List.length_map]; exact HNM.out
      have hone7 := hPart7.out.each (pkL data [7] x) (List.mem_of_getElem? hLj7)
      obtain ⟨w0_, w1_, w2_, w3_⟩ := wrong_nums hone7.right
      have hdl0 := hone7.lies
      rw [HN.out] at hdl0
      have hsplit : M.map (pkL data [7]) = (M.map (pkL data [7])).take j ++ pkL data [7] x :: (M.map (pkL data [7])).drop (j + 1) := by
        have h1 : (M.map (pkL data [7])).drop j = pkL data [7] x :: (M.map (pkL data [7])).drop (j + 1) := by
          rw [List.drop_eq_getElem_cons (by rw [hLl7]; omega)]
          rw [List.getElem?_eq_getElem (by rw [hLl7]; omega)] at hLj7
          injection hLj7 with hLj7
          rw [hLj7]
        rw [← h1, List.take_append_drop]
      have htake : (M.map (pkL data [7])).take (j + 1) = (M.map (pkL data [7])).take j ++ [pkL data [7] x] := by rw [List.take_add_one, hLj7]; rfl
      have hP2 := hPart7.out
      rw [hsplit] at hP2
      obtain ⟨p7, hp7⟩ : ∃ p, pkL data [7] x = p := ⟨_, rfl⟩
      have hp7X : p7.X = [7] := by rw [← hp7]
      have hp7ok : PktOk p7 := by rw [← hp7]; exact pktOk_own data [7] x
      have hpd : p.dat = p7.dat := by rw [← hp, ← hp7]
      have hdl : Hid (p7.dat.length ≤ 1000) := by
        rw [← hp7]
        exact (by omega : (pkL data [7] x).dat.length ≤ 1000)
      have hd1 : Hid (0 < p7.dat.length) := by rw [← hp7]; exact w2_
      have hx7v : ∀ (xe xd : Nat) (c9 : Nat), pkV p7 (some ⟨xe, 0, none⟩) 1 (some ⟨xd, 0, none⟩) c9 = ((pkV p none 0 (some ⟨db, do_ + x.1, none⟩) (c0 - x.1)).setIfInBounds 14 (.slice (some ⟨xd, 0, none⟩) p7.dat.length c9)).setIfInBounds 13 (.slice (some ⟨xe, 0, none⟩) 1 1) := by
        intro xe xd c9
        rw [← hp, ← hp7]
        rfl
      rw [hp] at hrow
      rw [hp7] at hP2 htake
      rw [hpd] at hrow
      clear hone hone7 w0_ w1_ w2_ w3_ hq hLj hLj7 hsplit hpv hx hp7 hdl0 hp hLl
      obtain ⟨Wa, hWa⟩ : ∃ W, wr.alloc (.cells #[.int .i64 0, .int .i64 0, .int .u64 0, .int .u64 0, .int .i64 0, .int .u64 0, .int .u64 0, .int .i64 0, .int .i64 0, .bool false, .int .u32 0, .int .i64 0, .bool false, .slice none 0 0, .slice none 0 0] 42) = W := ⟨_, rfl⟩
      have Ba := blk_nw hWa
      have ka := bel_nw hWa
      obtain ⟨Wb, hWb⟩ : ∃ W, Wa.setRow wr.heap.size (pkV p none 0 (some ⟨db, do_ + x.1, none⟩) (c0 - x.1)) = W := ⟨_, rfl⟩
      have Bb : Blk Wb wr.heap.size 42 (pkV p none 0 (some ⟨db, do_ + x.1, none⟩) (c0 - x.1)) := by rw [← hWb]; exact Ba.set _
      have kb : Below wr.heap.size wr Wb := by rw [← hWb]; exact below_setRow ka (Nat.le_refl _) _
      have HWb : Hid _ := hWb
      have lb : wr.heap.size < Wb.heap.size := Bb.lt
      clear hWb ka
      have c14 := Bb.cell 14 (.slice (some ⟨db, do_ + x.1, none⟩) p.dat.length (c0 - x.1)) rfl
      rw [hpd] at c14
      have rowb := hrow.below kb
      have hd9 := hdl.out
      go_upto_region 11 with (first
        | (refine wpList_load_at rfl _ _ rfl g2 (j * 15) (by rfl) _ hca Try.underlying42 (by kernel_rfl) ?_)
        | (refine wpList_store_row rfl _ _ _ rfl wr.heap.size (pkV p none 0 (some ⟨db, do_ + x.1, none⟩) (c0 - x.1)) (by rfl) (by rfl) _ _ Ba (by kernel_rfl) (by rfl) (by kernel_rfl) ?_; rw [HWb.out])
        | (at_builtin; refine wpList_app2 _ rfl _ _ rfl Wb.heap.size (.slice none 0 0) [] (by rfl) (Owns.nil _ _) (fun x hx => by cases hx) _ _ p7.dat (by rfl) rowb (by simp) p7.dat (by simp) (by omega) (Nat.le_refl _) ?_; intro a9 c9 W9 o9 l9 n9 r9 b9 g9_; have B9 := Bb.kept b9; have y14 := B9.cell 14 (.slice (some ⟨db, do_ + x.1, none⟩) p.dat.length (c0 - x.1)) rfl; have z14 := B9.frozen 14))
      obtain ⟨xd, rfl, hxd⟩ := o9.at r9 hd1.out
      have hxl := row_lt r9 hd1.out _ rfl
      have hxl : xd < W9.heap.size := hxl
      obtain ⟨Wd, hWd⟩ : ∃ W, W9.setCell ⟨wr.heap.size, 14, none⟩ (.slice (some ⟨xd, 0, none⟩) p7.dat.length c9) = W := ⟨_, rfl⟩
      have Bd := B9.put 14 (.slice (some ⟨xd, 0, none⟩) p7.dat.length c9)
      have od := o9.other (ad := ⟨wr.heap.size, 14, none⟩) lb (.slice (some ⟨xd, 0, none⟩) p7.dat.length c9)
      have kd : Below wr.heap.size wr Wd := by rw [← hWd]; exact (bel_tr kb b9).setCell (p := ⟨wr.heap.size, 14, none⟩) (Nat.le_refl _) _
      have sd : Wd.heap.size = W9.heap.size := by rw [← hWd]; simp [World.setCell]
      rw [hWd] at Bd od ⊢
      clear hWd
      obtain ⟨We, hWe⟩ : ∃ W, Wd.alloc (.cells #[.int .i64 7] 3) = W := ⟨_, rfl⟩
      have Ee := blk_nw hWe
      have Be := Bd.al hWe
      have oe : Owns We Wb.heap.size (.slice (some ⟨xd, 0, none⟩) p7.dat.length c9) p7.dat := by rw [← hWe]; exact od.alloc _
      have ke := bel_al kd hWe
      have y13 := Be.cell 13 (.slice none p.X.length 0) rfl
      rw [hpX] at y13
      have z13 := Be.frozen 13
      obtain ⟨xe, hxe⟩ : ∃ n, Wd.heap.size = n := ⟨_, rfl⟩
      rw [hxe] at Ee
      have lxe : xe < We.heap.size := Ee.lt
      obtain ⟨Wf, hWf⟩ : ∃ W, We.setCell ⟨wr.heap.size, 13, none⟩ (.slice (some ⟨xe, 0, none⟩) 1 1) = W := ⟨_, rfl⟩
      have Bf := Be.put 13 (.slice (some ⟨xe, 0, none⟩) 1 1)
      rw [← hx7v xe xd c9] at Bf
      have of := oe.other (ad := ⟨wr.heap.size, 13, none⟩) lb (.slice (some ⟨xe, 0, none⟩) 1 1)
      have Ef := Ee.put_other Be (by omega) 13 (.slice (some ⟨xe, 0, none⟩) 1 1)
      have kf : Below wr.heap.size wr Wf := by rw [← hWf]; exact ke.setCell (p := ⟨wr.heap.size, 13, none⟩) (Nat.le_refl _) _
      have sf : Wf.heap.size = We.heap.size := by rw [← hWf]; simp [World.setCell]
      have se : We.heap.size = Wd.heap.size + 1 := by rw [← hWe]; simp
      rw [hWf] at Bf of Ef
      have lwr : W1.heap.size ≤ wr.heap.size := hT.out.le
      have Tf : TabP W1.heap.size (fun k => k = g2 ∨ k = wr.heap.size ∨ k = xd ∨ k = xe) W1 Wf tb mb s := hT.out.add kf (fun k hk => by
        rcases hk with h | rfl | rfl | rfl
        · exact .inl h
        · exact .inr (by omega)
        · exact .inr (by omega)
        · exact .inr (by omega))
      have bubf := hB.out.below kf
      have rf : Row Wf (some ⟨xd, 0, none⟩) p7.dat := of.row (by omega) (r9.bytes)
      have xf : RowI Wf (some ⟨xe, 0, none⟩) p7.X := by
        rw [hp7X]
        exact ⟨by simp, fun _ => ⟨xe, 0, rfl, fun i hi => by
          have : i = 0 := by simpa using hi
          subst this
          exact Ef.cell 0 _ rfl⟩⟩
      have KP := Tf.put p7 (some ⟨xe, 0, none⟩) 1 (some ⟨xd, 0, none⟩) c9 hp7ok rf (by simp) xf (by simp)
      have hp7l : p7.X.length = 1 := by rw [hp7X]; rfl
      have gxd : g2 ≠ xd ∧ g2 ≠ xe ∧ xd ≠ xe ∧ wr.heap.size ≠ xd ∧ wr.heap.size ≠ xe := by
        have := (hT.out.lt g2 rfl)
        omega
      have sok := hT.out.ok
      have hcaps := putF_caps s p7
      obtain ⟨ho1, ho2, ho3⟩ := hOne.out hlt
      have lxd : W1.heap.size ≤ xd ∧ W1.heap.size ≤ xe ∧ xd < Wf.heap.size ∧ xe < Wf.heap.size := by omega
      clear Bd Be od oe kd ke B9 o9 r9 b9 g9_ l9 n9 y14 z14 Bb rowb c14 Tf rf xf Ee hrow how bw hpok hxd hxl sd lxe sf se hd9 kf kb
      generalize wr.heap.size = xb at Bf bubf gxd lwr y13 z13 hWf KP hca lb lxd hWa Ba ⊢
      have HP7 : Hid (p7.X = [7]) := hp7X
      clear hp7X hp7l hpX hpd hx7v hp7ok
      by_cases hlast : j + 1 < NM
      · have i3 : ¬ (↑j : Int) = ↑NM - 1 := by omega
        have hB2 : (M.map (pkL data [7])).drop (j + 1) ≠ [] := fun h => by
          have h1 := congrArg List.length h
          rw [List.length_drop, hLl7] at h1
          simp at h1
          omega
        obtain ⟨e1, e2, e3, e4, _⟩ := one_waits hP2 hB2 sok ho1 (by rw [ho2]; have := HN.out; omega) (by rw [ho3]; decide)
        rw [e1, e2] at KP
        have c5 : (putF s p7).1.room = 2000 ∧ (putF s p7).1.most = 2 := ⟨hcaps.2.1.trans ho2, hcaps.1.trans ho3⟩
        have KP : Hid _ := KP
        have HE3 : Hid _ := e3
        generalize (putF s p7).1 = s5 at KP HE3 c5
        rw [← htake] at HE3
        have HC5 : Hid _ := c5
        clear e1 e2 e3 e4 c5 hP2 hB2 ho1 ho2 ho3 hcaps sok htake hLl7
        go_wp2_with (refine wpList_load_row rfl _ _ rfl xb (by rfl) _ _ _ _ Bf Try.underlying42 rfl (by kernel_rfl) ?_)
        refine Calls.mono KP.out ?_
        rintro e W5 ⟨xa', xc', da', dc', rfl, T6, r1, r2, r3, r4, bu⟩
        have B5 := Bf.but bu (fun h => h.1 (.inr (.inl rfl)))
        have E5 := Ef.but bu (fun h => h.1 (.inr (.inr (.inr rfl))))
        have o5 : Owns W5 Wb.heap.size (.slice (some ⟨xd, 0, none⟩) p7.dat.length c9) p7.dat := ownsRow_block of (fun y hy => bu.block _ (ownsRow_lt of y hy) (fun h => h.1 (by cases hy; exact .inr (.inr (.inl rfl)))))
        obtain ⟨W6, hW6⟩ : ∃ W, W5.alloc (.cells #[.int .i64 0, .int .i64 0, .int .u64 0, .int .u64 0, .int .i64 0, .int .u64 0, .int .u64 0, .int .i64 0, .int .i64 0, .bool false, .int .u32 0, .int .i64 0, .bool false, .slice none 0 0, .slice none 0 0] 42) = W := ⟨_, rfl⟩
        have B6 := blk_nw hW6
        obtain ⟨W7, hW7⟩ : ∃ W, W6.setRow W5.heap.size (pkV pk0 xa' xc' da' dc') = W := ⟨_, rfl⟩
        have k7 : Below W5.heap.size W5 W7 := by rw [← hW7]; exact below_setRow (bel_nw hW6) (Nat.le_refl _) _
        have A7 : Blk W7 W5.heap.size 42 (pkV pk0 xa' xc' da' dc') := by rw [← hW7]; exact B6.set _
        have HW7 : Hid _ := hW7
        clear hW7 KP
        have T7 := T6.below k7
        have lW5 : Wf.heap.size ≤ W5.heap.size := bu.size
        have X7 := B5.kept k7
        have E7 := E5.kept k7
        have o7 := o5.below k7
        have v14 := X7.cell 14 (.slice (some ⟨xd, 0, none⟩) p7.dat.length c9) rfl
        have bu7 : But (fun k => ¬ k = g2 ∧ W1.heap.size ≤ k) W4 W7 := (bubf.trans bu (fun k _ h => ⟨fun h' => h.1 (.inl h'), h.2⟩)).below k7
        have R1_ := r1.below k7
        have R2_ := r2.below k7
        have H7 : Hid (TabP W1.heap.size (fun k => k = g2 ∨ k = xb ∨ k = xd ∨ k = xe) W1 W7 tb mb s5) := T7
        have HX7 : Hid (Blk W7 xb 42 (pkV p7 (some ⟨xe, 0, none⟩) 1 (some ⟨xd, 0, none⟩) c9)) := X7
        have HE7 : Hid (Blk W7 xe 3 #[.int .i64 7]) := E7
        have HA7 : Hid (Blk W7 W5.heap.size 42 (pkV pk0 xa' xc' da' dc')) := A7
        have HB7 : Hid (But (fun k => ¬ k = g2 ∧ W1.heap.size ≤ k) W4 W7) := bu7
        have HR1 : Hid (RowI W7 xa' pk0.X) := R1_
        have HR2 : Hid (Row W7 da' pk0.dat) := R2_
        have hr3 : Hid (∀ y, da' = some y → Wf.heap.size ≤ y.block) := r3
        have hr4 : Hid (∀ y, xa' = some y → W1.heap.size ≤ y.block ∧ ¬ (y.block = g2 ∨ y.block = xb ∨ y.block = xd ∨ y.block = xe)) := r4
        have a5n : W5.heap.size ≠ xd ∧ W5.heap.size ≠ xe := by omega
        clear T6 T7 bu bubf B5 E5 o5 X7 E7 A7 bu7 R1_ R2_ r1 r2 r3 r4 Bf Ef of hca Ba
        go_wp2_with (refine wpList_store_row rfl _ _ _ rfl W5.heap.size (pkV pk0 xa' xc' da' dc') (by rfl) (by rfl) _ _ B6 (by kernel_rfl) (by rfl) (by kernel_rfl) ?_; rw [HW7.out])
        obtain ⟨n7, hn7⟩ : ∃ n, p7.dat.length = n := ⟨_, rfl⟩
        have hn7b : n7 ≤ 1000 := by rw [← hn7]; exact hdl.out
        have HN7 : Hid (p7.dat.length = n7) := hn7
        rw [hn7] at o7 v14 ⊢
        clear hn7 v14
        have HO7 : Hid (Owns W7 Wb.heap.size (.slice (some ⟨xd, 0, none⟩) n7 c9) p7.dat) := o7
        clear o7 B6
        go_loopw [70] (fun i wr => ∃ (kk : Nat) (l : List Int), kk ≤ n7 ∧ i = .int .i64 kk ∧ Hid (l.length = n7) ∧ Hid (Owns wr Wb.heap.size (.slice (some ⟨xd, 0, none⟩) n7 c9) l) ∧ Hid (But (fun k => k = xd) W7 wr)) (fun i _ => n7 - (intOf i).toNat)
        case atStart => exact ⟨0, _, by omega, rfl, HN7, HO7.out, But.refl _ _⟩
        case round =>
          clear HO7
          obtain ⟨kk, l, hkk, rfl, hll, hO, hB7⟩ := hrel
          have Xr : Blk wr xb 42 (pkV p7 (some ⟨xe, 0, none⟩) 1 (some ⟨xd, 0, none⟩) c9) := HX7.out.but hB7.out (fun h => by omega)
          have v14 := Xr.cell 14 (.slice (some ⟨xd, 0, none⟩) p7.dat.length c9) rfl
          rw [HN7.out] at v14
          by_cases hk2 : kk < n7
          · have i5 : (↑kk : Int) < ↑n7 := by omega
            have i6 : (0 : Int) ≤ ↑kk := by omega
            obtain ⟨g9, eg9, g9b, g9l, cB, zB, wB⟩ := hO.out.write hll.out kk hk2
            cases eg9
            have hbb : But (fun k => k = xd) W7 wr := hB7.out
            have HWB : Hid _ := wB
            have hl9 := hll.out
            clear Xr wB
            go_wp2
            exact ⟨⟨kk + 1, _, by omega, int_eq (by omega), by rw [List.length_set]; exact hl9, HWB.out _, hbb.setCell xd kk (.inl rfl) _⟩, by simp [intOf] <;> omega⟩
          · have i5 : ¬ (↑kk : Int) < ↑n7 := by omega
            have Er : Blk wr xe 3 #[.int .i64 7] := HE7.out.but hB7.out (fun h => by omega)
            have Ar : Blk wr W5.heap.size 42 (pkV pk0 xa' xc' da' dc') := HA7.out.but hB7.out (fun h => a5n.1 h)
            have v13 := Xr.cell 13 (.slice (some ⟨xe, 0, none⟩) p7.X.length 1) rfl
            rw [HP7.out] at v13
            have v13 : wr.cell? ⟨xb, 13, none⟩ = some (.slice (some ⟨xe, 0, none⟩) 1 1) := v13
            have e7 := Er.cell 0 (.int .i64 7) rfl
            have ez := Er.frozen 0
            obtain ⟨W8, hW8⟩ : ∃ W, wr.setCell ⟨xe, 0, none⟩ (.int .i64 (-1)) = W := ⟨_, rfl⟩
            have b8 : But (fun k => k = xd ∨ k = xe) W7 W8 := by rw [← hW8]; exact ((But.refl _ W7).trans hB7.out (fun _ _ h => .inl h)).setCell xe 0 (.inl (.inr rfl)) _
            have A8 : Blk W8 W5.heap.size 42 (pkV pk0 xa' xc' da' dc') := HA7.out.but b8 (fun h => by omega)
            have T8 : TabP W1.heap.size (fun k => k = g2) W1 W8 tb mb s5 := (H7.out.but b8 (fun k hk => by
              rcases hk with rfl | rfl
              · exact ⟨.inr (.inr (.inl rfl)), by omega⟩
              · exact ⟨.inr (.inr (.inr rfl)), by omega⟩)).add (Below.refl _ _) (fun k hk => .inl (.inl hk))
            have bb8 : But (fun k => ¬ k = g2 ∧ W1.heap.size ≤ k) W4 W8 := HB7.out.trans b8 (fun k hk h => by omega)
            have HT8 : Hid _ := T8
            have HB8 : Hid _ := bb8
            clear Ar A8 Er T8 bb8 b8
            go_wp2
            exact ⟨⟨j + 1, s5, by omega, int_eq (by omega), HT8.out, HB8.out, fun _ => ⟨HE3.out, HC5.out⟩⟩, by simp [intOf] <;> omega⟩
      · have i3 : (↑NM : Int) - 1 = ↑j := by omega
        have hB2 : (M.map (pkL data [7])).drop (j + 1) = [] := List.drop_eq_nil_of_le (by rw [hLl7]; omega)
        rw [hB2] at hP2
        obtain ⟨e1, e2, e3, q, hqm, e4⟩ := one_ends hP2 sok ho1 (by rw [ho2]; have := HN.out; omega) (by rw [ho3]; decide)
        have hq9 : ∃ y, q = pkL data [7] y := by
          have h1 : q ∈ M.map (pkL data [7]) := by
            rw [← htake] at hqm
            exact List.mem_of_mem_take hqm
          obtain ⟨y, _, rfl⟩ := List.mem_map.1 h1
          exact ⟨y, rfl⟩
        obtain ⟨y, rfl⟩ := hq9
        rw [e1, e4] at KP
        have KP : Hid _ := KP
        generalize (putF s p7).1 = s5 at KP
        clear e1 e2 e3 e4 hqm hP2 hB2 ho1 ho2 ho3 hcaps sok htake hLl7
        go_wp2_with (refine wpList_load_row rfl _ _ rfl xb (by rfl) _ _ _ _ Bf Try.underlying42 rfl (by kernel_rfl) ?_)
        refine Calls.mono KP.out ?_
        rintro e W5 ⟨xa', xc', da', dc', rfl, T6, r1, r2, r3, r4, bu⟩
        have B5 := Bf.but bu (fun h => h.1 (.inr (.inl rfl)))
        have E5 := Ef.but bu (fun h => h.1 (.inr (.inr (.inr rfl))))
        have o5 : Owns W5 Wb.heap.size (.slice (some ⟨xd, 0, none⟩) p7.dat.length c9) p7.dat := ownsRow_block of (fun y hy => bu.block _ (ownsRow_lt of y hy) (fun h => h.1 (by cases hy; exact .inr (.inr (.inl rfl)))))
        obtain ⟨W6, hW6⟩ : ∃ W, W5.alloc (.cells #[.int .i64 0, .int .i64 0, .int .u64 0, .int .u64 0, .int .i64 0, .int .u64 0, .int .u64 0, .int .i64 0, .int .i64 0, .bool false, .int .u32 0, .int .i64 0, .bool false, .slice none 0 0, .slice none 0 0] 42) = W := ⟨_, rfl⟩
        have B6 := blk_nw hW6
        obtain ⟨W7, hW7⟩ : ∃ W, W6.setRow W5.heap.size (pkV (⟨4, ⟨4, 0, 1⟩, ⟨4, 0, 2⟩, 17, 5, false, 0, 0, false, [7], data⟩ : Pkt) xa' xc' da' dc') = W := ⟨_, rfl⟩
        have k7 : Below W5.heap.size W5 W7 := by rw [← hW7]; exact below_setRow (bel_nw hW6) (Nat.le_refl _) _
        have A7 : Blk W7 W5.heap.size 42 (pkV (⟨4, ⟨4, 0, 1⟩, ⟨4, 0, 2⟩, 17, 5, false, 0, 0, false, [7], data⟩ : Pkt) xa' xc' da' dc') := by rw [← hW7]; exact B6.set _
        have HW7 : Hid _ := hW7
        clear hW7 KP
        have T7 := T6.below k7
        have lW5 : Wf.heap.size ≤ W5.heap.size := bu.size
        have X7 := B5.kept k7
        have E7 := E5.kept k7
        have o7 := o5.below k7
        have v14 := X7.cell 14 (.slice (some ⟨xd, 0, none⟩) p7.dat.length c9) rfl
        have bu7 : But (fun k => ¬ k = g2 ∧ W1.heap.size ≤ k) W4 W7 := (bubf.trans bu (fun k _ h => ⟨fun h' => h.1 (.inl h'), h.2⟩)).below k7
        have R1_ := r1.below k7
        have R2_ := r2.below k7
        have H7 : Hid (TabP W1.heap.size (fun k => k = g2 ∨ k = xb ∨ k = xd ∨ k = xe) W1 W7 tb mb s5) := T7
        have HX7 : Hid (Blk W7 xb 42 (pkV p7 (some ⟨xe, 0, none⟩) 1 (some ⟨xd, 0, none⟩) c9)) := X7
        have HE7 : Hid (Blk W7 xe 3 #[.int .i64 7]) := E7
        have HA7 : Hid (Blk W7 W5.heap.size 42 (pkV (⟨4, ⟨4, 0, 1⟩, ⟨4, 0, 2⟩, 17, 5, false, 0, 0, false, [7], data⟩ : Pkt) xa' xc' da' dc')) := A7
        have HB7 : Hid (But (fun k => ¬ k = g2 ∧ W1.heap.size ≤ k) W4 W7) := bu7
        have HR1 : Hid (RowI W7 xa' (⟨4, ⟨4, 0, 1⟩, ⟨4, 0, 2⟩, 17, 5, false, 0, 0, false, [7], data⟩ : Pkt).X) := R1_
        have HR2 : Hid (Row W7 da' (⟨4, ⟨4, 0, 1⟩, ⟨4, 0, 2⟩, 17, 5, false, 0, 0, false, [7], data⟩ : Pkt).dat) := R2_
        have hr3 : Hid (∀ y, da' = some y → Wf.heap.size ≤ y.block) := r3
        have hr4 : Hid (∀ y, xa' = some y → W1.heap.size ≤ y.block ∧ ¬ (y.block = g2 ∨ y.block = xb ∨ y.block = xd ∨ y.block = xe)) := r4
        have a5n : W5.heap.size ≠ xd ∧ W5.heap.size ≠ xe := by omega
        clear T6 T7 bu bubf B5 E5 o5 X7 E7 A7 bu7 R1_ R2_ r1 r2 r3 r4 Bf Ef of hca Ba
        go_wp2_with (refine wpList_store_row rfl _ _ _ rfl W5.heap.size (pkV (⟨4, ⟨4, 0, 1⟩, ⟨4, 0, 2⟩, 17, 5, false, 0, 0, false, [7], data⟩ : Pkt) xa' xc' da' dc') (by rfl) (by rfl) _ _ B6 (by kernel_rfl) (by rfl) (by kernel_rfl) ?_; rw [HW7.out])
        obtain ⟨n7, hn7⟩ : ∃ n, p7.dat.length = n := ⟨_, rfl⟩
        have hn7b : n7 ≤ 1000 := by rw [← hn7]; exact hdl.out
        have HN7 : Hid (p7.dat.length = n7) := hn7
        rw [hn7] at o7 v14 ⊢
        clear hn7 v14
        have HO7 : Hid (Owns W7 Wb.heap.size (.slice (some ⟨xd, 0, none⟩) n7 c9) p7.dat) := o7
        clear o7 B6
        go_loopw [70] (fun i wr => ∃ (kk : Nat) (l : List Int), kk ≤ n7 ∧ i = .int .i64 kk ∧ Hid (l.length = n7) ∧ Hid (Owns wr Wb.heap.size (.slice (some ⟨xd, 0, none⟩) n7 c9) l) ∧ Hid (But (fun k => k = xd) W7 wr)) (fun i _ => n7 - (intOf i).toNat)
        case atStart => exact ⟨0, _, by omega, rfl, HN7, HO7.out, But.refl _ _⟩
        case round =>
          clear HO7
          obtain ⟨kk, l, hkk, rfl, hll, hO, hB7⟩ := hrel
          have Xr : Blk wr xb 42 (pkV p7 (some ⟨xe, 0, none⟩) 1 (some ⟨xd, 0, none⟩) c9) := HX7.out.but hB7.out (fun h => by omega)
          have v14 := Xr.cell 14 (.slice (some ⟨xd, 0, none⟩) p7.dat.length c9) rfl
          rw [HN7.out] at v14
          by_cases hk2 : kk < n7
          · have i5 : (↑kk : Int) < ↑n7 := by omega
            have i6 : (0 : Int) ≤ ↑kk := by omega
            obtain ⟨g9, eg9, g9b, g9l, cB, zB, wB⟩ := hO.out.write hll.out kk hk2
            cases eg9
            have hbb : But (fun k => k = xd) W7 wr := hB7.out
            have HWB : Hid _ := wB
            have hl9 := hll.out
            clear Xr wB
            go_wp2
            exact ⟨⟨kk + 1, _, by omega, int_eq (by omega), by rw [List.length_set]; exact hl9, HWB.out _, hbb.setCell xd kk (.inl rfl) _⟩, by simp [intOf] <;> omega⟩
          · have i5 : ¬ (↑kk : Int) < ↑n7 := by omega
            have Er : Blk wr xe 3 #[.int .i64 7] := HE7.out.but hB7.out (fun h => by omega)
            have Ar : Blk wr W5.heap.size 42 (pkV (⟨4, ⟨4, 0, 1⟩, ⟨4, 0, 2⟩, 17, 5, false, 0, 0, false, [7], data⟩ : Pkt) xa' xc' da' dc') := HA7.out.but hB7.out (fun h => a5n.1 h)
            have v13 := Xr.cell 13 (.slice (some ⟨xe, 0, none⟩) p7.X.length 1) rfl
            rw [HP7.out] at v13
            have v13 : wr.cell? ⟨xb, 13, none⟩ = some (.slice (some ⟨xe, 0, none⟩) 1 1) := v13
            have e7 := Er.cell 0 (.int .i64 7) rfl
            have ez := Er.frozen 0
            obtain ⟨W8, hW8⟩ : ∃ W, wr.setCell ⟨xe, 0, none⟩ (.int .i64 (-1)) = W := ⟨_, rfl⟩
            have b8 : But (fun k => k = xd ∨ k = xe) W7 W8 := by rw [← hW8]; exact ((But.refl _ W7).trans hB7.out (fun _ _ h => .inl h)).setCell xe 0 (.inl (.inr rfl)) _
            have A8 : Blk W8 W5.heap.size 42 (pkV (⟨4, ⟨4, 0, 1⟩, ⟨4, 0, 2⟩, 17, 5, false, 0, 0, false, [7], data⟩ : Pkt) xa' xc' da' dc') := HA7.out.but b8 (fun h => by omega)
            have T8 : TabP W1.heap.size (fun k => k = g2) W1 W8 tb mb s5 := (H7.out.but b8 (fun k hk => by
              rcases hk with rfl | rfl
              · exact ⟨.inr (.inr (.inl rfl)), by omega⟩
              · exact ⟨.inr (.inr (.inr rfl)), by omega⟩)).add (Below.refl _ _) (fun k hk => .inl (.inl hk))
            have bb8 : But (fun k => ¬ k = g2 ∧ W1.heap.size ≤ k) W4 W8 := HB7.out.trans b8 (fun k hk h => by omega)
            have r18 := HR1.out.but b8 (fun y hy h => by have := (hr4.out y hy).2; omega)
            have r28 := HR2.out.but b8 (fun y hy h => by have := hr3.out y hy; omega)
            have u1 := conv_row r28 dc'
            have u2 := conv_row (R0.out.below (B1.out.trans (T8.bel.mono B1.out.size))) c0
            rw [HN.out] at u2
            have c14 := A8.cell 14 (.slice da' data.length dc') rfl
            have c13 := A8.cell 13 (.slice xa' 1 xc') rfl
            obtain ⟨xb', xo', exa, hxc⟩ := r18.cells (by simp)
            have e00 := hxc 0 (by simp)
            have e00 : W8.cell? ⟨xb', xo', none⟩ = some (.int .i64 7) := e00
            rw [exa] at c13
            have HT8 : Hid _ := T8
            have HB8 : Hid _ := bb8
            clear Ar A8 Er T8 bb8 b8 r18 r28 hxc
            go_wp2
            exact ⟨⟨j + 1, s5, by omega, int_eq (by omega), HT8.out, HB8.out, fun h => absurd h hlast⟩, by simp [intOf] <;> omega⟩
    · have i1 : ¬ (↑j : Int) < ↑NM := by omega
      go_wp2
      go_ret
      exact ⟨rfl, B1.out.trans (hT.out.bel.mono B1.out.size)⟩
end Go.Proofs.Ytebdpiedgjdjeaa
