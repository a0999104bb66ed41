/- Texts joined: FragApartWalk -/
import Derived.Test.YtebdpiedgjdjeaaFga50
import Derived.Test.YtebdpiedgjdjeaaFga51
namespace Go.Proofs.Ytebdpiedgjdjeaa
open Go.RowKit
set_option linter.unusedVariables false
set_option linter.unusedSimpArgs false
set_option maxRecDepth 100000 in
set_option maxHeartbeats 16000000 in
theorem fragApart_walk (a0 : Option Addr) (c0 : Nat) (data : List Int) (a1 : Option Addr) (c1 : Nat) (cuts : List Int) (a2 : Option Addr) (c2 : Nat) (O : List PkIn) (w : World) (lc0 : data.length ≤ c0) (cm0 : c0 ≤ 140737488351232) (nl0 : a0 = none → c0 = 0) (w0 : Row w a0 data) (lc1 : cuts.length ≤ c1) (cm1 : c1 ≤ 140737488351232) (nl1 : a1 = none → c1 = 0) (w1 : Row w a1 cuts) (lc2 : O.length ≤ c2) (cm2 : c2 ≤ 17592186044416) (w2 : RowN 15 PkIn.v PkIn.ok w a2 O) :
    Calls Try.prog 8 #[.slice a0 data.length c0, .slice a1 cuts.length c1, .slice a2 O.length c2] w fun e w' => e = .returned (.bool true) ∧ Below w.heap.size w w' := by
  have HP : Hid PiecesSpec := pieces_spec
  obtain ⟨N, hN⟩ : ∃ n, data.length = n := ⟨_, rfl⟩
  have HN : Hid (data.length = N) := hN
  rw [hN] at lc0 ⊢
  clear hN
  by_cases z1 : N = 0
  · subst z1
    have KA : Hid _ := falive_any w
    go_enter Try.func8, Try.ntmps8
    go_wp2_with fail
    refine Calls.mono KA.out ?_
    rintro e W3 ⟨rfl, b3⟩
    go_wp2
    go_ret
    exact ⟨rfl, b3⟩
  by_cases z2 : N > 1000
  · have z1' : ¬ (↑N : Int) = 0 := by omega
    have z2' : (↑N : Int) > 1000 := by omega
    have KA : Hid _ := falive_any w
    go_enter Try.func8, Try.ntmps8
    go_wp2_with fail
    refine Calls.mono KA.out ?_
    rintro e W3 ⟨rfl, b3⟩
    go_wp2
    go_ret
    exact ⟨rfl, b3⟩
  by_cases z3 : cuts.length > 60
  · have z1' : ¬ (↑N : Int) = 0 := by omega
    have z2' : ¬ (↑N : Int) > 1000 := by omega
    have z3' : (↑cuts.length : Int) > 60 := by omega
    have KA : Hid _ := falive_any w
    go_enter Try.func8, Try.ntmps8
    go_wp2_with fail
    refine Calls.mono KA.out ?_
    rintro e W3 ⟨rfl, b3⟩
    go_wp2
    go_ret
    exact ⟨rfl, b3⟩
  by_cases z4 : O.length > 100
  · have z1' : ¬ (↑N : Int) = 0 := by omega
    have z2' : ¬ (↑N : Int) > 1000 := by omega
    have z3' : ¬ (↑cuts.length : Int) > 60 := by omega
    have z4' : (↑O.length : Int) > 100 := by omega
    have KA : Hid _ := falive_any w
    go_enter Try.func8, Try.ntmps8
    go_wp2_with fail
    refine Calls.mono KA.out ?_
    rintro e W3 ⟨rfl, b3⟩
    go_wp2
    go_ret
    exact ⟨rfl, b3⟩
  have z1' : ¬ (↑N : Int) = 0 := by omega
  have z2' : ¬ (↑N : Int) > 1000 := by omega
  have z3' : ¬ (↑cuts.length : Int) > 60 := by omega
  have z4' : ¬ (↑O.length : Int) > 100 := by omega
  obtain ⟨db, do_, rfl, hdc⟩ := w0.cells (by rw [HN.out]; omega)
  clear hdc
  have R0 : Hid (Row w (some ⟨db, do_, none⟩) data) := w0
  have R1 : Hid (Row w a1 cuts) := w1
  have HR : Hid (RowN 15 PkIn.v PkIn.ok w a2 O) := w2
  have KA : Hid _ := falive_any w
  clear w0 w1 w2
  go_enter Try.func8, Try.ntmps8
  go_wp2_with fail
  refine Calls.mono KA.out ?_
  rintro e W1 ⟨rfl, b1⟩
  have KN : Hid _ := tabB_new 200 1048576 10 W1 ⟨by decide, by decide, by decide, by decide, by decide, by decide⟩
  clear KA
  go_wp2_with fail
  refine Calls.mono KN.out ?_
  rintro e W2 ⟨tb, mb, rfl, T2⟩
  have b2 : Below w.heap.size w W2 := b1.trans (T2.bel.mono b1.size)
  have KP : Hid _ := piece_any 0 false (some ⟨db, do_, none⟩) N c0 W2
  clear KN
  go_wp2_with fail
  refine Calls.mono KP.out ?_
  rintro e W3 ⟨rfl, k3⟩
  have T3 := T2.below k3
  have b3 := bel_tr b2 k3
  have KQ := HP.out data cuts [] db do_ c0 a1 c1 none 0 W3 (by rw [HN.out]; omega) (by rw [HN.out]; omega) (by rw [HN.out]; exact lc0) (by omega) (R1.out.below b3) (row_nil _ none)
  rw [HN.out] at KQ
  have KQ : Hid _ := KQ
  clear KP T2 b2
  go_wp2_with fail
  refine Calls.mono KQ.out ?_
  rintro e W4 ⟨la, lc, M, rfl, hperm, how, hnew, k4⟩
  have T4 := T3.below k4
  have b4 := bel_tr b3 k4
  have hne : M ≠ [] := fun h => cutL_ne N cuts 0 (List.perm_nil.1 (by rw [h] at hperm; exact hperm.symm))
  have hlen : 0 < M.length := List.length_pos_iff.2 hne
  obtain ⟨q0, hq0⟩ : ∃ q, M[0]? = some q := ⟨_, List.getElem?_eq_getElem hlen⟩
  obtain ⟨g2, rfl, h99⟩ := how.at_ (i := 0) (q := mkL data db do_ c0 q0) (by rw [List.getElem?_map, hq0]; rfl)
  have hPart : Hid (Part data KN (M.map (pkL data []))) := by
    have h1 := part_cut (data := data) (X := []) (by rw [HN.out]; omega) (by rw [HN.out]; omega) cuts
    rw [HN.out] at h1
    exact h1.perm (hperm.map _)
  have T5 : Hid (TabP W1.heap.size (fun k => k = g2) W1 W4 tb mb (fs0 200 1048576 10)) := T3.toP.add k4 (fun k hk => .inr (by subst hk; exact ⟨hnew _ rfl, how.lt rfl⟩))
  have hg2 : W1.heap.size ≤ g2 := Nat.le_trans T3.le (hnew _ rfl)
  have HO : Hid (ownP W4 (some ⟨g2, 0, none⟩) lc (M.map (mkL data db do_ c0))) := how
  have B1 : Hid (Below w.heap.size w W1) := b1
  have B4 : Hid (Below w.heap.size w W4) := b4
  obtain ⟨NM, hNM⟩ : ∃ n, M.length = n := ⟨_, rfl⟩
  have HNM : Hid (M.length = NM) := hNM
  have hml : NM ≤ 61 := by
    have h1 := cutL_len N cuts 0
    rw [← hperm.length_eq, hNM] at h1
    omega
  rw [hNM] at hlen ⊢
  clear KQ T3 T4 b3 b4 k3 k4 h99 hq0 hnew how hperm hne hNM b1
  have hsm : Hid (∀ q ∈ O, q.p.dat.length ≤ 140737488355328) := fun q hq => (HR.out.each q hq).data.small
  go_wp2
  go_loopw [10, 58] (fun sm i wr => ∃ (c S : Nat), c ≤ O.length ∧ i = .int .i64 c ∧ sm = .int .i64 S ∧ S ≤ c * 140737488355328 ∧ Hid (psum (O.take c) = S) ∧ Hid (TabP W1.heap.size (fun k => k = g2) W1 wr tb mb (fs0 200 1048576 10)) ∧ Hid (But (fun k => ¬ k = g2 ∧ W1.heap.size ≤ k) W4 wr)) (fun _ i _ => O.length - (intOf i).toNat)
  case atStart => exact ⟨0, 0, by omega, rfl, rfl, by omega, rfl, T5, But.refl _ _⟩
  case round =>
    obtain ⟨c, S, hc, rfl, rfl, hS, hps, hT, hB⟩ := hrel
    clear T5
    by_cases hlc : c < O.length
    · have i1 : (↑c : Int) < ↑O.length := by omega
      have i0 : (0 : Int) ≤ ↑c := by omega
      obtain ⟨q, hq⟩ : ∃ q, O[c]? = some q := ⟨_, List.getElem?_eq_getElem hlc⟩
      have bwr : Below w.heap.size w wr := B1.out.trans (hT.out.bel.mono B1.out.size)
      obtain ⟨ob, oo, eoa, hoc⟩ := HR.out.cells c q hq
      have hqok := (HR.out.each q (List.mem_of_getElem? hq)).below bwr
      have hco : CellsAt wr ob (oo + c * 15) q.v := hoc.below bwr
      subst eoa
      clear hoc
      obtain ⟨Wa, hWa⟩ : ∃ W, wr.alloc (.cells #[.int .i64 0, .int .i64 0, .int .u64 0, .int .u64 0, .int .i64 0, .int .u64 0, .int .u64 0, .int .i64 0, .int .i64 0, .bool false, .int .u32 0, .int .i64 0, .bool false, .slice none 0 0, .slice none 0 0] 42) = W := ⟨_, rfl⟩
      have Ba := blk_nw hWa
      obtain ⟨Wb, hWb⟩ : ∃ W, Wa.setRow wr.heap.size q.v = W := ⟨_, rfl⟩
      have Bb : Blk Wb wr.heap.size 42 q.v := by rw [← hWb]; exact Ba.set _
      have kb : Below wr.heap.size wr Wb := by rw [← hWb]; exact below_setRow (bel_nw hWa) (Nat.le_refl _) _
      have HWb : Hid _ := hWb
      clear hWb bwr
      have c14 := Bb.cell 14 (.slice q.da q.p.dat.length q.dc) rfl
      have hql := hsm.out q (List.mem_of_getElem? hq)
      have hp2 := psum_take hq
      rw [hps.out] at hp2
      have HP2 : Hid _ := hp2
      have HT2 : Hid _ := hT.out.below kb
      have HB2 : Hid _ := hB.out.below kb
      obtain ⟨ql, hql9⟩ : ∃ n, q.p.dat.length = n := ⟨_, rfl⟩
      rw [hql9] at c14 hql HP2
      clear hp2 kb hqok hql9
      go_wp2_with (first
        | (refine wpList_load_at rfl _ _ rfl ob (oo + c * 15) (by rfl) _ hco Try.underlying42 (by kernel_rfl) ?_)
        | (refine wpList_store_row rfl _ _ _ rfl wr.heap.size q.v (by rfl) (by rfl) _ _ Ba (by kernel_rfl) (by rfl) (by kernel_rfl) ?_; rw [HWb.out]))
      exact ⟨⟨c + 1, S + ql, by omega, int_eq (by omega), int_eq (by omega), by omega, HP2.out, HT2.out, HB2.out⟩, by simp [intOf] <;> omega⟩
    · have i1 : ¬ (↑c : Int) < ↑O.length := by omega
      have hcO : c = O.length := by omega
      have hSO : Hid (psum O = S) := by have := hps.out; rw [hcO, List.take_length] at this; exact this
      clear hps hcO
      by_cases hbig : S > 524288
      · have i2 : (↑S : Int) > 524288 := by omega
        go_wp2
        go_ret
        exact ⟨rfl, B1.out.trans (hT.out.bel.mono B1.out.size)⟩
      have i2 : ¬ (↑S : Int) > 524288 := by omega
      obtain ⟨names, hnames⟩ : ∃ n, KN :: O.map (fun q => nameK q.p) = n := ⟨_, rfl⟩
      have HKn : Hid (KN ∈ names) := by rw [← hnames]; exact List.mem_cons_self ..
      have HNm : Hid (∀ q ∈ O, nameK q.p ∈ names) := fun q hq => by rw [← hnames]; exact List.mem_cons_of_mem _ (List.mem_map.2 ⟨q, hq, rfl⟩)
      have HNl : Hid (names.length ≤ 101) := by rw [← hnames]; simp only [List.length_cons, List.length_map]; exact (by omega : O.length + 1 ≤ 101)
      obtain ⟨Sx, hSx⟩ : ∃ n, (if S < 131072 then S else 0) = n := ⟨_, rfl⟩
      have hSxb : Sx ≤ 131072 := by rw [← hSx]; split <;> omega
      have HSx : Hid _ := hSx
      have HT0 : Hid _ := hT.out
      have HB0 : Hid _ := hB.out
      clear hnames hSx hT hB
      go_wp2
      go_loopw [72] (fun i wr => ∃ (j : Nat) (s : Fs) (t : Int), j ≤ NM ∧ i = .int .i64 j ∧ Hid (TabP W1.heap.size (fun k => k = g2) W1 wr tb mb s) ∧ Hid (But (fun k => ¬ k = g2 ∧ W1.heap.size ≤ k) W4 wr) ∧ Hid (j < NM → Ap data names s ((M.map (pkL data [])).take j) t ∧ t ≤ ((if j < 3 then j else 3) * Sx : Nat))) (fun i _ => NM - (intOf i).toNat)
      case atStart => exact ⟨0, _, 0, by omega, rfl, HT0.out, HB0.out, fun _ => ⟨⟨.inl ⟨rfl, rfl⟩, by simp [sumA], fun e he => (by cases he), rfl, rfl⟩, by simp⟩⟩
      case round =>
        obtain ⟨j, s, t, hj, rfl, hT, hB, hAp⟩ := hrel
        clear HT0 HB0
        by_cases hlt : j < NM
        · have i5 : (↑j : Int) < ↑NM := by omega
          have i6 : (0 : Int) ≤ ↑j := by omega
          obtain ⟨x, hx⟩ : ∃ q, M[j]? = some q := ⟨_, List.getElem?_eq_getElem (by rw [HNM.out]; omega)⟩
          have hq : (M.map (mkL data db do_ c0))[j]? = some (mkL data db do_ c0 x) := by rw [List.getElem?_map, hx]; rfl
          have how := HO.out.but hB.out (fun y hy h => by cases hy; exact h.1 rfl)
          obtain ⟨g9, eg9, hca⟩ := how.at_ hq
          cases eg9
          have hLj : (M.map (pkL data []))[j]? = some (pkL data [] x) := by rw [List.getElem?_map, hx]; rfl
          have hLl : (M.map (pkL data [])).length = NM := by rw [List.length_map]; exact HNM.out
          have hone := hPart.out.each (pkL data [] x) (List.mem_of_getElem? hLj)
          have bw : Below w.heap.size w wr := B1.out.trans (hT.out.bel.mono B1.out.size)
          have hrow : Row wr (some ⟨db, do_ + x.1, none⟩) (pkL data [] x).dat := row_sub (R0.out.below bw) x.1 x.2.1
          obtain ⟨p, hp⟩ : ∃ p, pkL data [] x = p := ⟨_, rfl⟩
          have hpv : (mkL data db do_ c0 x).v = pkV p none 0 (some ⟨db, do_ + x.1, none⟩) (c0 - x.1) := by rw [← hp]
          have hpok : PktOk p := by rw [← hp]; exact pktOk_own data [] x
          have hpX : p.X = [] := by rw [← hp]
          rw [hpv] at hca
          have hsplit : M.map (pkL data []) = (M.map (pkL data [])).take j ++ pkL data [] x :: (M.map (pkL data [])).drop (j + 1) := by
            have h1 : (M.map (pkL data [])).drop j = pkL data [] x :: (M.map (pkL data [])).drop (j + 1) := by
              rw [List.drop_eq_getElem_cons (by rw [hLl]; omega)]
              rw [List.getElem?_eq_getElem (by rw [hLl]; omega)] at hLj
              injection hLj with hLj
              rw [hLj]
            rw [← h1, List.take_append_drop]
          have htake : (M.map (pkL data [])).take (j + 1) = (M.map (pkL data [])).take j ++ [pkL data [] x] := by rw [List.take_add_one, hLj]; rfl
          have hP2 := hPart.out
          rw [hsplit] at hP2
          rw [hp] at hP2 htake
          rw [hp] at hrow
          obtain ⟨Wa, hWa⟩ : ∃ W, wr.alloc (.cells #[.int .i64 0, .int .i64 0, .int .u64 0, .int .u64 0, .int .i64 0, .int .u64 0, .int .u64 0, .int .i64 0, .int .i64 0, .bool false, .int .u32 0, .int .i64 0, .bool false, .slice none 0 0, .slice none 0 0] 42) = W := ⟨_, rfl⟩
          have Ba := blk_nw hWa
          obtain ⟨Wx, hWx⟩ : ∃ W, Wa.setRow wr.heap.size (pkV p none 0 (some ⟨db, do_ + x.1, none⟩) (c0 - x.1)) = W := ⟨_, rfl⟩
          have Bx : Blk Wx wr.heap.size 42 (pkV p none 0 (some ⟨db, do_ + x.1, none⟩) (c0 - x.1)) := by rw [← hWx]; exact Ba.set _
          have kx : Below wr.heap.size wr Wx := by rw [← hWx]; exact below_setRow (bel_nw hWa) (Nat.le_refl _) _
          have HWx : Hid _ := hWx
          clear hWx
          obtain ⟨ha0, ht0⟩ := hAp.out hlt
          have HA0 : Hid _ := ha0
          have HP2 : Hid _ := hP2
          have HTk : Hid _ := htake
          have HPok : Hid (PktOk p) := hpok
          have HPX : Hid (p.X = []) := hpX
          have HPd : Hid (∀ W, Below w.heap.size w W → Row W (some ⟨db, do_ + x.1, none⟩) p.dat) := fun W hW => by
            rw [← hp]
            exact row_sub (R0.out.below hW) x.1 x.2.1
          obtain ⟨xb, hxb⟩ : ∃ n, wr.heap.size = n := ⟨_, rfl⟩
          have hgx : g2 < xb := by rw [← hxb]; exact hT.out.lt g2 rfl
          have hbx : W1.heap.size ≤ xb := by rw [← hxb]; exact hT.out.le
          have Tx : Hid (TabP W1.heap.size (fun k => k = g2 ∨ k = xb) W1 Wx tb mb s) := hT.out.add kx (fun k hk => by
            rcases hk with h | h
            · exact .inl h
            · exact .inr (by rw [h, ← hxb]; exact ⟨Nat.le_refl _, Bx.lt⟩))
          have Bux : Hid (But (fun k => ¬ k = g2 ∧ W1.heap.size ≤ k) W4 Wx) := hB.out.below kx
          have HLl : Hid _ := hLl
          clear hone hq hLj hsplit hpv hx hp how bw hrow hP2 htake hpok hpX hLl hAp ha0 kx
          have HXB : Hid (wr.heap.size = xb) := hxb
          clear hxb
          go_wp2_with (first
            | (refine wpList_load_at rfl _ _ rfl g2 (j * 15) (by rfl) _ hca Try.underlying42 (by kernel_rfl) ?_)
            | (refine wpList_store_row rfl _ _ _ rfl wr.heap.size (pkV p none 0 (some ⟨db, do_ + x.1, none⟩) (c0 - x.1)) (by rfl) (by rfl) _ _ Ba (by kernel_rfl) (by rfl) (by kernel_rfl) ?_; rw [HWx.out]))
          rw [HXB.out] at Bx
          have HBx : Hid (Blk Wx xb 42 (pkV p none 0 (some ⟨db, do_ + x.1, none⟩) (c0 - x.1))) := Bx
          clear hca Ba HWx Bx hT hB
          try simp only [HXB.out]
          clear HXB
          obtain ⟨T0, hT0⟩ : ∃ n, (if j < 3 then j else 3) * Sx = n := ⟨_, rfl⟩
          have hT0b : T0 ≤ 393216 := by
            rw [← hT0]
            have : (if j < 3 then j else 3) * Sx ≤ 3 * 131072 := Nat.mul_le_mul (by split <;> omega) hSxb
            exact this
          rw [hT0] at ht0
          go_loopw [79] (fun i wr => ∃ (c : Nat) (s : Fs) (t : Int), c ≤ O.length ∧ i = .int .i64 c ∧ Hid (TabP W1.heap.size (fun k => k = g2 ∨ k = xb) W1 wr tb mb s) ∧ Hid (But (fun k => ¬ k = g2 ∧ W1.heap.size ≤ k) W4 wr) ∧ Hid (But (fun k => ¬ (k = g2 ∨ k = xb) ∧ W1.heap.size ≤ k) Wx wr) ∧ Hid (Ap data names s ((M.map (pkL data [])).take j) t) ∧ Hid (t ≤ T0 + (if j < 3 ∧ S < 131072 then psum (O.take c) else 0 : Nat))) (fun i _ => O.length - (intOf i).toNat)
          case atStart => exact ⟨0, s, t, by omega, rfl, Tx, Bux, But.refl _ _, HA0.out, by simp [psum]; exact ht0⟩
          case round =>
            obtain ⟨c, s, t, hc, rfl, hT, hB, hBx, hA, htb⟩ := hrel
            clear Tx Bux HA0
            by_cases hlc : c < O.length
            · have i7 : (↑c : Int) < ↑O.length := by omega
              have i8 : (0 : Int) ≤ ↑c := by omega
              obtain ⟨q, hq⟩ : ∃ q, O[c]? = some q := ⟨_, List.getElem?_eq_getElem hlc⟩
              have bwr : Below w.heap.size w wr := B1.out.trans (hT.out.bel.mono B1.out.size)
              obtain ⟨ob, oo, eoa, hoc⟩ := HR.out.cells c q hq
              have hqok := (HR.out.each q (List.mem_of_getElem? hq)).below bwr
              have hco : CellsAt wr ob (oo + c * 15) q.v := hoc.below bwr
              subst eoa
              clear hoc
              obtain ⟨Wa, hWa⟩ : ∃ W, wr.alloc (.cells #[.int .i64 0, .int .i64 0, .int .u64 0, .int .u64 0, .int .i64 0, .int .u64 0, .int .u64 0, .int .i64 0, .int .i64 0, .bool false, .int .u32 0, .int .i64 0, .bool false, .slice none 0 0, .slice none 0 0] 42) = W := ⟨_, rfl⟩
              have Ba := blk_nw hWa
              obtain ⟨Wb, hWb⟩ : ∃ W, Wa.setRow wr.heap.size q.v = W := ⟨_, rfl⟩
              have Bb : Blk Wb wr.heap.size 42 q.v := by rw [← hWb]; exact Ba.set _
              have kb : Below wr.heap.size wr Wb := by rw [← hWb]; exact below_setRow (bel_nw hWa) (Nat.le_refl _) _
              have HWb : Hid _ := hWb
              clear hWb bwr
              have Tb := hT.out.below kb
              have bub : But (fun k => ¬ k = g2 ∧ W1.heap.size ≤ k) W4 Wb := hB.out.below kb
              have bxb := hBx.out.below kb
              have ha := hA.out
              have hpt := psum_take hq
              have hqb := hqok.below kb
              have KP := Tb.put q.p q.xa q.xc q.da q.dc hqb.p hqb.data hqb.dnil hqb.exts hqb.xnil
              have sok := hT.out.ok
              have HNq := HNm.out q (List.mem_of_getElem? hq)
              have c6 := Bb.cell 10 (.int .u32 q.p.id) rfl
              by_cases hid : q.p.id = 9
              · rw [hid] at c6
                have HTb : Hid _ := Tb
                have HBb : Hid _ := bub
                have HXb : Hid _ := bxb
                have HH : Hid (t ≤ T0 + (if j < 3 ∧ S < 131072 then psum (O.take (c + 1)) else 0 : Nat)) := by
                  have h1 := htb.out
                  rw [hpt]
                  by_cases hcc : j < 3 ∧ S < 131072
                  · rw [if_pos hcc] at h1 ⊢
                    exact (by omega : t ≤ T0 + ((psum (O.take c) + q.p.dat.length : Nat) : Int))
                  · rw [if_neg hcc] at h1 ⊢
                    exact h1
                clear hid KP hqb hqok hpt sok HNq Tb bub bxb ha kb
                go_wp2_with (first
                  | (refine wpList_load_at rfl _ _ rfl ob (oo + c * 15) (by rfl) _ hco Try.underlying42 (by kernel_rfl) ?_)
                  | (refine wpList_store_row rfl _ _ _ rfl wr.heap.size q.v (by rfl) (by rfl) _ _ Ba (by kernel_rfl) (by rfl) (by kernel_rfl) ?_; rw [HWb.out]))
                exact ⟨⟨c + 1, s, t, by omega, int_eq (by omega), HTb.out, HBb.out, HXb.out, hA.out, HH.out⟩, by simp [intOf] <;> omega⟩
              · by_cases hcond : j < 3 ∧ S < 131072
                · have j1 : (↑j : Int) < 3 := by omega
                  have j2 : (↑S : Int) < 131072 := by omega
                  have hap := ap_other ha sok hqb.p hid HNq
                  have HH : Hid (t + q.p.dat.length ≤ T0 + (if j < 3 ∧ S < 131072 then psum (O.take (c + 1)) else 0 : Nat)) := by
                    have h1 := htb.out
                    rw [if_pos hcond] at h1 ⊢
                    rw [hpt]
                    exact (by omega : t + (q.p.dat.length : Int) ≤ T0 + ((psum (O.take c) + q.p.dat.length : Nat) : Int))
                  have HAP : Hid _ := hap
                  have KP : Hid _ := KP
                  have HXb : Hid (But (fun k => ¬ (k = g2 ∨ k = xb) ∧ W1.heap.size ≤ k) Wx Wb) := bxb
                  have HBb : Hid (But (fun k => ¬ k = g2 ∧ W1.heap.size ≤ k) W4 Wb) := bub
                  generalize (putF s q.p).1 = s5 at KP HAP
                  have HHid : Hid (¬ q.p.id = 9) := hid
                  have hidb : (q.p.id != 9) = true := by simpa using hid
                  clear hap hqb hqok hpt sok HNq Tb bub bxb ha kb hcond
                  go_wp2_with (first
                    | (refine wpList_load_at rfl _ _ rfl ob (oo + c * 15) (by rfl) _ hco Try.underlying42 (by kernel_rfl) ?_)
                    | (refine wpList_store_row rfl _ _ _ rfl wr.heap.size q.v (by rfl) (by rfl) _ _ Ba (by kernel_rfl) (by rfl) (by kernel_rfl) ?_; rw [HWb.out])
                    | (refine wpList_load_row rfl _ _ rfl wr.heap.size (by rfl) _ _ _ _ Bb Try.underlying42 rfl (by kernel_rfl) ?_))
                  refine Calls.mono KP.out ?_
                  rintro e W5 ⟨xa', xc', da', dc', rfl, T6, _, _, _, _, bu⟩
                  have b5 : But (fun k => ¬ k = g2 ∧ W1.heap.size ≤ k) W4 W5 := HBb.out.trans bu (fun k _ h => ⟨fun h' => h.1 (.inl h'), h.2⟩)
                  have b6 := HXb.out.trans bu (fun k _ h => h)
                  have HT6 : Hid _ := T6
                  have HB5 : Hid _ := b5
                  have HB6 : Hid _ := b6
                  clear KP T6 b5 b6 bu
                  go_wp2
                  exact ⟨⟨c + 1, s5, _, by omega, int_eq (by omega), HT6.out, HB5.out, HB6.out, HAP.out, HH.out⟩, by simp [intOf] <;> omega⟩
                · have HTb : Hid _ := Tb
                  have HBb : Hid _ := bub
                  have HXb : Hid _ := bxb
                  have HH : Hid (t ≤ T0 + (if j < 3 ∧ S < 131072 then psum (O.take (c + 1)) else 0 : Nat)) := by
                    have h1 := htb.out
                    rw [if_neg hcond] at h1 ⊢
                    exact h1
                  have hidb : (q.p.id != 9) = true := by simpa using hid
                  clear KP hqb hqok hpt sok HNq Tb bub bxb ha kb
                  by_cases hj3 : j < 3
                  · have j1 : (↑j : Int) < 3 := by omega
                    have j2 : ¬ (↑S : Int) < 131072 := by omega
                    clear hcond
                    go_wp2_with (first
                      | (refine wpList_load_at rfl _ _ rfl ob (oo + c * 15) (by rfl) _ hco Try.underlying42 (by kernel_rfl) ?_)
                      | (refine wpList_store_row rfl _ _ _ rfl wr.heap.size q.v (by rfl) (by rfl) _ _ Ba (by kernel_rfl) (by rfl) (by kernel_rfl) ?_; rw [HWb.out]))
                    exact ⟨⟨c + 1, s, t, by omega, int_eq (by omega), HTb.out, HBb.out, HXb.out, hA.out, HH.out⟩, by simp [intOf] <;> omega⟩
                  · have j1 : ¬ (↑j : Int) < 3 := by omega
                    clear hcond
                    go_wp2_with (first
                      | (refine wpList_load_at rfl _ _ rfl ob (oo + c * 15) (by rfl) _ hco Try.underlying42 (by kernel_rfl) ?_)
                      | (refine wpList_store_row rfl _ _ _ rfl wr.heap.size q.v (by rfl) (by rfl) _ _ Ba (by kernel_rfl) (by rfl) (by kernel_rfl) ?_; rw [HWb.out]))
                    exact ⟨⟨c + 1, s, t, by omega, int_eq (by omega), HTb.out, HBb.out, HXb.out, hA.out, HH.out⟩, by simp [intOf] <;> omega⟩
            · have i7 : ¬ (↑c : Int) < ↑O.length := by omega
              have hcO : c = O.length := by omega
              have Bxr : Blk wr xb 42 (pkV p none 0 (some ⟨db, do_ + x.1, none⟩) (c0 - x.1)) := HBx.out.but hBx.out (fun h => h.1 (.inr rfl))
              have KP := hT.out.put p none 0 (some ⟨db, do_ + x.1, none⟩) (c0 - x.1) HPok.out (HPd.out wr (B1.out.trans (hT.out.bel.mono B1.out.size))) (by simp) (by rw [HPX.out]; exact rowI_nil _ none) (by simp)
              have sok := hT.out.ok
              have htn : t ≤ ((if j + 1 < 3 then j + 1 else 3) * Sx : Nat) := by
                have h1 := htb.out
                rw [hcO, List.take_length, hSO.out] at h1
                have h2 := HSx.out
                by_cases hS3 : S < 131072
                · rw [if_pos hS3] at h2
                  subst h2
                  by_cases hj3 : j < 3
                  · rw [if_pos hj3] at hT0
                    rw [if_pos ⟨hj3, hS3⟩, ← hT0] at h1
                    have e : (if j + 1 < 3 then j + 1 else 3) = j + 1 := by split <;> omega
                    rw [e, Nat.add_mul, Nat.one_mul]
                    exact_mod_cast h1
                  · rw [if_neg hj3] at hT0
                    rw [if_neg (by omega), ← hT0] at h1
                    rw [if_neg (by omega)]
                    simpa using h1
                · rw [if_neg hS3] at h2
                  subst h2
                  rw [if_neg (by omega), ← hT0] at h1
                  simpa using h1
              have ht4 : t ≤ 400000 := by
                have : (if j + 1 < 3 then j + 1 else 3) * Sx ≤ 3 * 131072 := Nat.mul_le_mul (by split <;> omega) hSxb
                omega
              have HTN : Hid _ := htn
              have hdl : data.length ≤ 1000 := by rw [HN.out]; omega
              clear htn hcO
              by_cases hlast : j + 1 < NM
              · have i3 : (↑j : Int) < ↑NM - 1 := by omega
                have i4 : ¬ (↑j : Int) = ↑NM - 1 := by omega
                have hB2 : (M.map (pkL data [])).drop (j + 1) ≠ [] := fun h => by
                  have h1 := congrArg List.length h
                  rw [List.length_drop, HLl.out] at h1
                  simp at h1
                  omega
                obtain ⟨e1, e2, e3⟩ := ap_waits HP2.out hB2 sok hA.out hdl ht4 HKn.out HNl.out
                rw [e1, e2] at KP
                have KP : Hid _ := KP
                have HE3 : Hid _ := e3
                generalize (putF s p).1 = s5 at KP HE3
                rw [← HTk.out] at HE3
                clear e1 e2 e3 hB2 sok ht4 hdl
                go_wp2_with (refine wpList_load_row rfl _ _ rfl xb (by rfl) _ _ _ _ Bxr Try.underlying42 rfl (by kernel_rfl) ?_)
                refine Calls.mono KP.out ?_
                rintro e W5 ⟨xa', xc', da', dc', rfl, T6, _, r2, _, _, bu⟩
                obtain ⟨W6, hW6⟩ : ∃ W, W5.alloc (.cells #[.int .i64 0, .int .i64 0, .int .u64 0, .int .u64 0, .int .i64 0, .int .u64 0, .int .u64 0, .int .i64 0, .int .i64 0, .bool false, .int .u32 0, .int .i64 0, .bool false, .slice none 0 0, .slice none 0 0] 42) = W := ⟨_, rfl⟩
                have B6 := blk_nw hW6
                obtain ⟨W7, hW7⟩ : ∃ W, W6.setRow W5.heap.size (pkV pk0 xa' xc' da' dc') = W := ⟨_, rfl⟩
                have k7 : Below W5.heap.size W5 W7 := by rw [← hW7]; exact below_setRow (bel_nw hW6) (Nat.le_refl _) _
                have B7 : Blk W7 W5.heap.size 42 (pkV pk0 xa' xc' da' dc') := by rw [← hW7]; exact B6.set _
                have HW7 : Hid _ := hW7
                clear hW7 KP
                have HT7 : Hid (TabP W1.heap.size (fun k => k = g2) W1 W7 tb mb s5) := (T6.below k7).add (Below.refl _ _) (fun k hk => .inl (.inl hk))
                have bu7 : Hid (But (fun k => ¬ k = g2 ∧ W1.heap.size ≤ k) W4 W7) := (hB.out.trans bu (fun k _ h => ⟨fun h' => h.1 (.inl h'), h.2⟩)).below k7
                clear T6 r2 B7 bu Bxr
                go_wp2_with (refine wpList_store_row rfl _ _ _ rfl W5.heap.size (pkV pk0 xa' xc' da' dc') (by rfl) (by rfl) _ _ B6 (by kernel_rfl) (by rfl) (by kernel_rfl) ?_; rw [HW7.out])
                exact ⟨⟨j + 1, s5, t, by omega, int_eq (by omega), HT7.out, bu7.out, fun _ => ⟨HE3.out, HTN.out⟩⟩, by simp [intOf] <;> omega⟩
              · have i4 : (↑NM : Int) - 1 = ↑j := by omega
                have hB2 : (M.map (pkL data [])).drop (j + 1) = [] := List.drop_eq_nil_of_le (by rw [HLl.out]; omega)
                have hP2 := HP2.out
                rw [hB2] at hP2
                obtain ⟨e1, q, hqm, e4⟩ := ap_ends hP2 sok hA.out hdl ht4 HNl.out
                have hq9 : ∃ y, q = pkL data [] y := by
                  have h1 : q ∈ M.map (pkL data []) := by
                    rw [← HTk.out] at hqm
                    exact List.mem_of_mem_take hqm
                  obtain ⟨y, _, rfl⟩ := List.mem_map.1 h1
                  exact ⟨y, rfl⟩
                obtain ⟨y, rfl⟩ := hq9
                rw [e1, e4] at KP
                have KP : Hid _ := KP
                generalize (putF s p).1 = s5 at KP
                clear e1 e4 hqm hB2 hP2 sok ht4 hdl
                go_wp2_with (refine wpList_load_row rfl _ _ rfl xb (by rfl) _ _ _ _ Bxr Try.underlying42 rfl (by kernel_rfl) ?_)
                refine Calls.mono KP.out ?_
                rintro e W5 ⟨xa', xc', da', dc', rfl, T6, _, r2, _, _, bu⟩
                obtain ⟨W6, hW6⟩ : ∃ W, W5.alloc (.cells #[.int .i64 0, .int .i64 0, .int .u64 0, .int .u64 0, .int .i64 0, .int .u64 0, .int .u64 0, .int .i64 0, .int .i64 0, .bool false, .int .u32 0, .int .i64 0, .bool false, .slice none 0 0, .slice none 0 0] 42) = W := ⟨_, rfl⟩
                have B6 := blk_nw hW6
                obtain ⟨W7, hW7⟩ : ∃ W, W6.setRow W5.heap.size (pkV ⟨4, ⟨4, 0, 1⟩, ⟨4, 0, 2⟩, 17, 5, false, 0, 0, false, [], data⟩ xa' xc' da' dc') = W := ⟨_, rfl⟩
                have k7 : Below W5.heap.size W5 W7 := by rw [← hW7]; exact below_setRow (bel_nw hW6) (Nat.le_refl _) _
                have B7 : Blk W7 W5.heap.size 42 (pkV ⟨4, ⟨4, 0, 1⟩, ⟨4, 0, 2⟩, 17, 5, false, 0, 0, false, [], data⟩ xa' xc' da' dc') := by rw [← hW7]; exact B6.set _
                have HW7 : Hid _ := hW7
                clear hW7 KP
                have HT7 : Hid (TabP W1.heap.size (fun k => k = g2) W1 W7 tb mb s5) := (T6.below k7).add (Below.refl _ _) (fun k hk => .inl (.inl hk))
                have bu7 : Hid (But (fun k => ¬ k = g2 ∧ W1.heap.size ≤ k) W4 W7) := (hB.out.trans bu (fun k _ h => ⟨fun h' => h.1 (.inl h'), h.2⟩)).below k7
                have v1 := conv_row (r2.below k7) dc'
                have v2 := conv_row (R0.out.below (B1.out.trans (HT7.out.bel.mono B1.out.size))) c0
                rw [HN.out] at v2
                have c10 := B7.cell 14 (.slice da' data.length dc') rfl
                clear T6 r2 bu Bxr
                go_wp2_with (refine wpList_store_row rfl _ _ _ rfl W5.heap.size (pkV ⟨4, ⟨4, 0, 1⟩, ⟨4, 0, 2⟩, 17, 5, false, 0, 0, false, [], data⟩ xa' xc' da' dc') (by rfl) (by rfl) _ _ B6 (by kernel_rfl) (by rfl) (by kernel_rfl) ?_; rw [HW7.out])
                exact ⟨⟨j + 1, s5, t, by omega, int_eq (by omega), HT7.out, bu7.out, fun h => absurd h hlast⟩, by simp [intOf] <;> omega⟩
        · have i5 : ¬ (↑j : Int) < ↑NM := by omega
          go_wp2
          go_ret
          exact ⟨rfl, B1.out.trans (hT.out.bel.mono B1.out.size)⟩
end Go.Proofs.Ytebdpiedgjdjeaa
