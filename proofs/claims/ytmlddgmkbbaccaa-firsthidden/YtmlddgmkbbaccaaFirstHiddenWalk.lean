/- The law FirstHidden returns true. -/
import Derived.Test.YtmlddgmkbbaccaaFrT
namespace Go.Proofs.Ytmlddgmkbbaccaa
open Go.RowKit
set_option linter.unusedVariables false
set_option linter.unusedSimpArgs false

theorem sub_take_succ (l : List Rl) (K : List Nat) (m i : Nat) (r : Rl) (h : K[m]? = some i) (hr : l[i]? = some r) : subL l (K.take (m + 1)) = subL l (K.take m) ++ [r] := by
  unfold subL
  rw [List.take_add_one, h]
  simp [hr]
theorem sub_ok {l : List Rl} (hl : ∀ r ∈ l, r.ok) (K : List Nat) : ∀ r ∈ subL l K, r.ok := by
  intro r hr
  unfold subL at hr
  obtain ⟨i, _, rfl⟩ := List.mem_map.1 hr
  cases e : l[i]? with
  | none => exact wide_ok
  | some q => exact hl q (List.mem_of_getElem? e)
/-- The place ahead of the m-th, or -1. -/
def lastI (K : List Nat) (m : Nat) : Int := if m = 0 then -1 else (K.getD (m - 1) 0 : Nat)
set_option maxRecDepth 100000 in
set_option maxHeartbeats 8000000 in
theorem firstHidden_walk (a : Option Addr) (c : Nat) (l : List Rl) (k : Ky) (w : World) (lc : l.length ≤ c) (cm : c * 136 ≤ 140737488351232 ∧ (a = none → c = 0)) (hrow : RowR w a l) (ko : k.ok) :
    Calls Try.prog 6 #[.slice a l.length c, .agg k.v] w fun e w' => e = .returned (.bool true) ∧ Below w.heap.size w w' := by
  replace cm := cm.1
  have hs2 := info_ky k
  have KA : Hid (∀ W, Calls Try.prog 15 #[] W fun e w' => e = .returned (.bool true) ∧ Below W.heap.size W w') := alive_any
  have HRow : Hid (RowR w a l) := hrow
  have HO : Hid (∀ r ∈ l, r.ok) := hrow.each
  have hk := blk_new w k.v 32
  have bel : Below w.heap.size w (w.alloc (.cells k.v 32)) := bel_nw rfl
  by_cases h5 : 500 < l.length
  · have i5 : (500 : Int) < (l.length : Int) := by omega
    go_enter Try.func6, Try.ntmps6
    go_wp2_with fail
    go_ret
    exact ⟨by simp, bel⟩
  have K1 : Hid (∀ W, RowR W a l → Calls Try.prog 19 #[.slice a l.length c] W fun e w' => ∃ a' c', e = .returned (.slice a' (keepL l).length c') ∧ RowI w' a' ((keepL l).map fun i : Nat => (i : Int)) ∧ Below W.heap.size W w') := fun W h => keep_any a c l W (by omega) h
  have K2 : Hid (∀ W, RowR W a l → Calls Try.prog 16 #[.slice a l.length c, .agg k.v] W fun e w' => e = .returned (.tuple #[.int .i64 (fIdx (findL l k)), .bool (findL l k).isSome]) ∧ Below W.heap.size W w') := fun W h => find_any a c l k W (by omega) h ko
  have K3 : Hid (∀ W a' c' L, L.length ≤ 1000000 → RowR W a' L → Calls Try.prog 16 #[.slice a' L.length c', .agg k.v] W fun e w' => e = .returned (.tuple #[.int .i64 (fIdx (findL L k)), .bool (findL L k).isSome]) ∧ Below W.heap.size W w') := fun W a' c' L h1 h => find_any a' c' L k W (by omega) h ko
  have i6 : (l.length : Int) ≤ 500 := by omega
  have HL : Hid (l.length ≤ 500) := by show _ ≤ _; omega
  obtain ⟨K, hK⟩ : ∃ K, keepL l = K := ⟨_, rfl⟩
  have HKL : Hid (keepL l = K) := hK
  rw [hK] at K1
  have HM : Hid (∀ m i, K[m]? = some i → ∃ r, l[i]? = some r) := fun m i h => by
    rw [← hK] at h
    exact ⟨_, List.getElem?_eq_getElem (keep_mem.1 (List.mem_of_getElem? h)).1⟩
  have HS : Hid (K.Pairwise (· < ·)) := by rw [← hK]; exact keep_sorted l l.length
  have hKn : K.length ≤ 500 := by
    rw [← hK]
    have := keep_len l l.length
    unfold keepL
    omega
  have HKO : Hid k.ok := ko
  generalize k.v = KV at *
  obtain ⟨N, hN⟩ : ∃ N, l.length = N := ⟨_, rfl⟩
  have HN : Hid (l.length = N) := hN
  rw [hN] at K1 K2 i6 ⊢
  obtain ⟨M, hM⟩ : ∃ M, K.length = M := ⟨_, rfl⟩
  have HMM : Hid (K.length = M) := hM
  rw [hM] at K1 hKn
  clear hrow lc cm h5 hK hN hM ko
  go_enter Try.func6, Try.ntmps6
  go_wp2_with fail
  refine (K1.out _ (HRow.out.low bel)).mono ?_
  rintro e W1 ⟨ra, rc, rfl, r1, bb⟩
  have hk1 := hk.kept bb
  have bel1 := bel_tr bel bb
  have HR1 : Hid (RowI W1 ra (K.map fun i : Nat => (i : Int))) := r1
  clear hk bel bb K1 r1
  go_wp2_with fail
  go_loopw [6, 7, 21] (fun s6 s7 i wr => ∃ (m : Nat) (sa : Option Addr) (sc : Nat), m ≤ M ∧ i = .int .i64 m ∧ s7 = .int .i64 (lastI K m) ∧ s6 = .slice sa (subL l (K.take m)).length sc ∧ Hid (OwnR wr W1.heap.size sa sc (subL l (K.take m))) ∧ Below W1.heap.size W1 wr) (fun _ _ i _ => M - (intOf i).toNat)
  case atStart => exact ⟨0, none, 0, Nat.zero_le _, rfl, rfl, rfl, OwnR.nil _ _, Below.refl _ _⟩
  case round =>
    obtain ⟨m, sa, sc, hm, rfl, rfl, rfl, HS6, bw⟩ := hrel
    by_cases hlt : m < M
    · have im : (m : Int) < (M : Int) := by omega
      have im0 : (0 : Int) ≤ (m : Int) := by omega
      obtain ⟨i, hi⟩ : ∃ i, K[m]? = some i := ⟨_, List.getElem?_eq_getElem (by rw [HMM.out]; exact hlt)⟩
      obtain ⟨r, hr⟩ := HM.out m i hi
      have hiN : i < N := by have := (List.getElem?_eq_some_iff.1 hr).1; have := HN.out; omega
      obtain ⟨rb, ro, hra, hcs⟩ := (HR1.out.below bw).cells (by rw [List.length_map, HMM.out]; omega)
      have d0 := hcs m (by rw [List.length_map, HMM.out]; omega)
      have e0 : (K.map fun i : Nat => (i : Int)).getD m 0 = (i : Int) := by simp [hi]
      rw [e0] at d0
      obtain ⟨b, off, ha, hc⟩ := (((HRow.out.low bel1)).low bw).cells i r hr
      have hlast : lastI K m < (i : Int) := by
        unfold lastI
        split
        · omega
        · obtain ⟨h1, e1⟩ := List.getElem?_eq_some_iff.1 hi
          have h2 : m - 1 < K.length := by omega
          have := List.pairwise_iff_getElem.1 HS.out (m - 1) m h2 h1 (by omega)
          have e2 : K.getD (m - 1) 0 = K[m - 1] := by simp [h2]
          rw [e2]
          omega
      have jl : decide ((i : Int) ≤ lastI K m) = false := by simp; omega
      have jn : decide ((i : Int) ≥ (N : Int)) = false := by simp; omega
      have ii0 : (0 : Int) ≤ (i : Int) := by omega
      have iiN : (i : Int) < (N : Int) := by omega
      have HI : Hid (K[m]? = some i ∧ l[i]? = some r) := ⟨hi, hr⟩
      have EL : Hid (lastI K (m + 1) = (i : Int)) := by
        show _ = _
        unfold lastI
        rw [if_neg (by omega)]
        simp [hi]
      have ES : Hid (subL l (K.take (m + 1)) = subL l (K.take m) ++ [r]) := sub_take_succ l K m i r hi hr
      have EM : Hid ((subL l (K.take m)).length = m) := by
        show _ = _
        unfold subL
        rw [List.length_map, List.length_take, HMM.out]
        omega
      have hs1 := info_rl r
      subst hra
      subst ha
      generalize lastI K m = lst at *
      obtain ⟨L0, hL0⟩ : ∃ L0, subL l (K.take m) = L0 := ⟨_, rfl⟩
      rw [hL0] at HS6 ES EM ⊢
      have hlm : L0.length ≤ 500 := by have := EM.out; omega
      clear hL0 hi hr hcs e0
      have ho : OwnR (wr.alloc (.cells r.v 30)) W1.heap.size sa sc L0 := HS6.out.below (bel_nw rfl)
      have hcell : CellsAt (wr.alloc (.cells r.v 30)) wr.heap.size 0 r.v := (blk_new wr r.v 30).at_
      have hbase : W1.heap.size ≤ (wr.alloc (.cells r.v 30)).heap.size := by
        have := bw.size
        rw [World.size_alloc]
        omega
      have bal : Below W1.heap.size W1 (wr.alloc (.cells r.v 30)) := bw.alloc bw.size _
      go_wp2_with (first
        | (refine wpList_load_at rfl _ _ rfl b (off + i * 17) (by rfl) _ hc Try.underlying30 hs1 ?_)
        | (at_builtin; refine wpList_appR _ rfl _ _ rfl W1.heap.size sa sc L0 rfl ho wr.heap.size 1 r rfl hcell (by omega) hbase ?_))
      intro g c' W6 ok6 b6
      have bw6 : Below W1.heap.size W1 W6 := bal.trans b6
      have HS7 : Hid (OwnR W6 W1.heap.size (some ⟨g, 0, none⟩) c' (L0 ++ [r])) := ok6
      clear ok6 b6 bal ho hcell hbase hc hs1 d0 bw HS6
      go_wp2_with fail
      refine ⟨⟨m + 1, some ⟨g, 0, none⟩, c', by omega, by go_num, by rw [EL.out], by rw [ES.out]; simp, by rw [ES.out]; exact HS7, bw6⟩, by simp [intOf]; omega⟩
    · have im : ¬ (m : Int) < (M : Int) := by omega
      have e : m = M := by omega
      subst e
      have hT : K.take m = K := by rw [← HMM.out]; exact List.take_length
      rw [hT] at HS6 ⊢
      obtain ⟨L0, hL0⟩ : ∃ L0, subL l K = L0 := ⟨_, rfl⟩
      have HL0 : Hid (subL l (keepL l) = L0) := by show _ = _; rw [HKL.out, hL0]
      have HLO : Hid (∀ r ∈ L0, r.ok) := by rw [← hL0]; exact sub_ok HO.out K
      have hL0n : L0.length ≤ 1000000 := by
        rw [← hL0]
        unfold subL
        rw [List.length_map, HMM.out]
        omega
      rw [hL0] at HS6 ⊢
      clear hL0 hT
      have hkw := hk1.below bw hk1.lt
      have belw := bel_tr bel1 bw
      generalize lastI K m = lst at *
      go_wp2_with (refine wpList_load_at_w rfl _ _ rfl _ 0 (by rfl) _ hkw.at_ Try.underlying32 hs2 ?_)
      refine (K2.out _ (HRow.out.low belw)).mono ?_
      rintro e W2 ⟨rfl, bb⟩
      have hk2 := hkw.kept bb
      have bel2 := bel_tr belw bb
      have HS7 : Hid (OwnR W2 W1.heap.size sa sc L0) := HS6.out.below bb
      have HRI : Hid (RowI W2 ra (K.map fun i : Nat => (i : Int))) := (HR1.out.below bw).below bb
      clear hkw bb HS6 belw bw
      go_wp2_with (refine wpList_load_at_w rfl _ _ rfl _ 0 (by rfl) _ hk2.at_ Try.underlying32 hs2 ?_)
      refine (K3.out _ sa sc L0 hL0n (HS7.out.row HLO.out)).mono ?_
      rintro e W3 ⟨rfl, bb⟩
      have bel3 := bel_tr bel2 bb
      have HRI3 : Hid (RowI W3 ra (K.map fun i : Nat => (i : Int))) := HRI.out.below bb
      clear hk2 bb HS7 bel2 HRI K2 K3 hs2
      cases hF : findL l k with
      | none =>
        have e2 : findL L0 k = none := by rw [← HL0.out]; exact hidden_none hF
        rw [e2]
        simp only [fIdx, Option.isSome_none]
        clear hF e2
        go_wp2_with fail
        refine (KA.out _).mono ?_
        rintro e W4 ⟨rfl, bb⟩
        have bel4 := bel_tr bel3 bb
        clear bb bel3 KA
        go_wp2_with fail
        go_ret
        exact ⟨by simp, bel4⟩
      | some i =>
        obtain ⟨j, e2, hj⟩ := hidden_some HKO.out hF
        rw [HL0.out] at e2
        rw [HKL.out] at hj
        rw [e2]
        simp only [fIdx, Option.isSome_some]
        have hjm : j < m := by have := (List.getElem?_eq_some_iff.1 hj).1; have := HMM.out; omega
        obtain ⟨rb, ro, hra, hcs⟩ := HRI3.out.cells (by rw [List.length_map, HMM.out]; omega)
        have d0 := hcs j (by rw [List.length_map, HMM.out]; omega)
        have e0 : (K.map fun i : Nat => (i : Int)).getD j 0 = (i : Int) := by simp [hj]
        rw [e0] at d0
        subst hra
        have ij0 : (0 : Int) ≤ (j : Int) := by omega
        have ijm : (j : Int) < (m : Int) := by omega
        have jj0 : decide ((j : Int) ≥ 0) = true := by simp
        have jjm : decide ((j : Int) < (m : Int)) = true := by simp; omega
        have ex : ((i : Int) == (i : Int)) = true := by simp
        clear hF e2 hj hcs e0
        go_wp2_with fail
        refine (KA.out _).mono ?_
        rintro e W4 ⟨rfl, bb⟩
        have bel4 := bel_tr bel3 bb
        clear bb bel3 KA
        go_wp2_with fail
        go_ret
        exact ⟨by simp, bel4⟩
end Go.Proofs.Ytmlddgmkbbaccaa
