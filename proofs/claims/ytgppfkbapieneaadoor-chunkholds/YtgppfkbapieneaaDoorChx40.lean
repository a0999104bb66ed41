/- Texts joined: ChunkHoldsWalk -/
import Derived.Test.YtgppfkbapieneaaDoorChx37
import Derived.Test.YtgppfkbapieneaaDoorChx39
namespace Go.Proofs.YtgppfkbapieneaaDoor
open Go.RowKit
set_option linter.unusedVariables false
set_option linter.unusedSimpArgs false
def wnN (P : List Spn) (z : Int) (n : Nat) : List Nat := (List.range n).filter fun i => (P[i]?.map (·.holds z)).getD false
theorem wnN_len (P : List Spn) (z : Int) (n : Nat) : (wnN P z n).length ≤ n := by
  have := List.length_filter_le (fun i => (P[i]?.map (·.holds z)).getD false) (List.range n)
  simpa [wnN] using this
theorem wnN_succ (P : List Spn) (z : Int) {n : Nat} {q : Spn} (hq : P[n]? = some q) : wnN P z (n + 1) = if q.holds z then wnN P z n ++ [n] else wnN P z n := by
  unfold wnN
  rw [List.range_succ, List.filter_append]
  cases h : q.holds z <;> simp [hq, h]
/-- The class of a point has just the pieces that hold it. -/
theorem cls_set {l : List Rl} {d : Nat} {L : List Pt} {K : List Nat} {S : List (List Nat)} (h : CutP l d L K S) {p : Pt} {x : Int} (hc : clsAt L (ints K) p x) : ∃ m : Nat, x = (m : Int) ∧ S[m]? = some (setOf (spns l d) p.n) := by
  obtain ⟨i, s, h1, h2, h3, h4⟩ := hc
  have hrow : (rowL (spns l d))[i]? = some (setOf (spns l d) s.n) := by
    unfold rowL
    rw [← h.stn, List.getElem?_map, List.getElem?_map, h1]
    rfl
  obtain ⟨m, hm1, hm2⟩ := class_get hrow
  rw [← h.cls] at hm1
  rw [← h.set] at hm2
  rw [List.getElem?_map, hm1] at h4
  refine ⟨m, by simpa using h4.symm, ?_⟩
  have hst : (startsL (spns l d))[i]? = some s.n := by rw [← h.stn, List.getElem?_map, h1]; rfl
  rw [hm2, set_at hst h2 (fun j t hj ht => ?_)]
  rw [← h.stn, List.getElem?_map, Option.map_eq_some_iff] at ht
  obtain ⟨q, hq, rfl⟩ := ht
  exact h3 j q hj hq
theorem spot_ok {k : Ky} (ho : k.ok) (hr : k.right = true) (d : Nat) : (k.spot d).ok := by
  obtain ⟨k1, k2, k3, k4, k5, k6, k7⟩ := Ky.right_all hr
  match d with
  | 0 => exact ptNum_ok (by omega) (by omega)
  | 1 => exact ptNum_ok (by omega) (by omega)
  | 2 => exact ptAd_ok ho.s k3
  | 3 => exact ptAd_ok ho.d k4
  | 4 => exact ptNum_ok (by omega) (by omega)
  | 5 => exact ptNum_ok (by omega) (by omega)
  | d + 6 => exact ptNum_ok (by omega) (by omega)
set_option maxRecDepth 100000 in
set_option maxHeartbeats 16000000 in
theorem chunkHolds_skip (a : Option Addr) (c : Nat) (l : List Rl) (k : Ky) (dim : Int) (w : World) (hrow : RowR w a l) (ho : k.ok) (hT : Top w) (hs : errC l dim ≠ 0 ∨ (spotR k dim).2 = false) : Calls Tryd.prog 6 #[.slice a l.length c, .agg k.v, .int .i64 dim] w fun e w' => e = .returned (.bool true) ∧ Below w.heap.size w w' := by
  have KA : Hid (∀ W, Top W → Calls Tryd.prog 13 #[] W fun e w' => e = .returned (.bool true) ∧ Below W.heap.size W w') := alive_ck
  have K2 := hidW (fun W => spot_ck k dim W ho)
  have HT : Hid (Top w) := hT
  have hs2 : (Tryd.prog.info? 40).map (·.size) = some k.v.size := info_ky k
  obtain ⟨W1, hW1⟩ : ∃ W1, w.alloc (.cells k.v 40) = W1 := ⟨_, rfl⟩
  have b1 := bel_nw hW1
  have HB1 : Hid (Blk W1 w.heap.size 40 k.v) := blk_nw hW1
  obtain ⟨C, hC⟩ : ∃ C : Array Value × Int, C.2 = errC l dim := ⟨(zc, errC l dim), rfl⟩
  have KC : Hid (Calls Tryd.prog 10 #[.slice a l.length c, .int .i64 dim] W1 fun e w' => ∃ v1 v2 v3 : Value, e = .returned (.tuple #[.agg #[v1, v2, v3], .int .i64 (errC l dim)]) ∧ (v1.oneCell' = true ∧ v2.oneCell' = true ∧ v3.oneCell' = true) ∧ Below W1.heap.size W1 w') := by
    by_cases he : errC l dim = 0
    · refine (cut_ok a c l dim W1 (hT.below b1) (hrow.low b1) he).mono ?_
      rintro e w' ⟨g1, c1, ka, kc, sa, sc, vs, L, K, S, rfl, _, _, hb⟩
      rw [he]
      exact ⟨_, _, _, rfl, ⟨rfl, rfl, rfl⟩, hb⟩
    · refine (cut_err a c l dim W1 (hT.below b1) (hrow.low b1) he).mono ?_
      rintro e w' ⟨rfl, hb⟩
      exact ⟨_, _, _, rfl, ⟨rfl, rfl, rfl⟩, hb⟩
  generalize spotR k dim = R at *
  obtain ⟨⟨ra, rb, rc⟩, r⟩ := R
  generalize errC l dim = E at *
  simp only at K2 hs
  obtain ⟨KV, hKV⟩ : ∃ KV, k.v = KV := ⟨_, rfl⟩
  rw [hKV] at hs2 hW1 HB1 K2 ⊢
  clear hKV hT hrow hC C
  go_enter Tryd.func6, Tryd.ntmps6
  go_wp2_with fail
  refine Calls.mono KC.out ?_
  rintro e W2 ⟨v1, v2, v3, rfl, ⟨o1, o2, o3⟩, b12⟩
  have b2 := bel_tr b1 b12
  have HB2 : Hid (Blk W2 w.heap.size 40 KV) := HB1.out.kept b12
  clear b12 b1 hW1 KC
  have hst : (Instr.storeAt 27 (.pointer (some ⟨W2.heap.size, 0, none⟩)) (.agg #[v1, v2, v3])).run Tryd.prog (W2.alloc (.cells zc 27)) = .ok () (W2.alloc (.cells #[v1, v2, v3] 27)) := run_storeAt_new (P := Tryd.prog) W2 27 zc _ (by kernel_rfl) rfl (by simp [o1, o2, o3])
  have b3 : Below w.heap.size w (W2.alloc (.cells #[v1, v2, v3] 27)) := bel_al b2 rfl
  have hk3 := (HB2.out.alloc (.cells #[v1, v2, v3] 27)).at_
  go_wp2_with (first | (refine wpList_store_new _ _ rfl _ _ _ rfl _ _ rfl rfl hst ?_) | (refine wpList_load_at_w rfl _ _ rfl _ 0 (by rfl) _ hk3 Tryd.underlying40 hs2 ?_))
  refine Calls.mono (K2.out _) ?_
  rintro e W4 ⟨rfl, b34⟩
  have b4 := bel_tr b3 b34
  have b5 : Below w.heap.size w (W4.alloc (.cells #[.int .u64 ra, .int .u64 rb, .int .u64 rc] 42)) := bel_al b4 rfl
  have KA' : Hid _ := KA.out (W4.alloc (.cells #[.int .u64 ra, .int .u64 rb, .int .u64 rc] 42)) (HT.out.below b5)
  clear hk3 hst b34 b3 K2
  by_cases hE : E = 0
  · have hr : r = false := by
      rcases hs with h | h
      · exact absurd hE h
      · exact h
    subst hr
    subst hE
    go_wp2_with fail
    refine Calls.mono KA'.out ?_
    rintro e W6 ⟨rfl, b56⟩
    have b6 := bel_tr b5 b56
    go_wp2
    go_ret
    exact ⟨rfl, b6⟩
  · have hne : (E != 0) = true := by simpa using hE
    go_wp2_with fail
    refine Calls.mono KA'.out ?_
    rintro e W6 ⟨rfl, b56⟩
    have b6 := bel_tr b5 b56
    go_wp2
    go_ret
    exact ⟨rfl, b6⟩
set_option maxRecDepth 100000 in
set_option maxHeartbeats 16000000 in
theorem chunkHolds_main (a : Option Addr) (c : Nat) (l : List Rl) (k : Ky) (dim : Int) (w : World) (lc : l.length ≤ c) (hrow : RowR w a l) (ho : k.ok) (hT : Top w) (he : errC l dim = 0) (hsp : (spotR k dim).2 = true) : Calls Tryd.prog 6 #[.slice a l.length c, .agg k.v, .int .i64 dim] w fun e w' => e = .returned (.bool true) ∧ Below w.heap.size w w' := by
  have KA : Hid (∀ W, Top W → Calls Tryd.prog 13 #[] W fun e w' => e = .returned (.bool true) ∧ Below W.heap.size W w') := alive_ck
  have KS : Hid (∀ (W : World) (a b : Option Addr) (c d : Nat) (x : List Int), RowI W a x → RowI W b x → Calls Tryd.prog 22 #[.slice a x.length c, .slice b x.length d] W fun e w' => e = .returned (.bool true) ∧ Below W.heap.size W w') := fun W a b c d x h h' =>
    (sameI_any a b c d x x W h h').mono (by rintro e w' ⟨rfl, n, rfl⟩; exact ⟨by simp, below_drewN (Below.refl _ _) n⟩)
  have hs2 : (Tryd.prog.info? 40).map (·.size) = some k.v.size := info_ky k
  have hsr : Hid (∀ r : Rl, (Tryd.prog.info? 55).map (·.size) = some r.v.size) := info_rl
  have HSTR : Hid (∀ (W : World) (r : Rl), (Instr.storeAt 55 (.pointer (some ⟨W.heap.size, 0, none⟩)) (.agg r.v)).run Tryd.prog (W.alloc (.cells z17 55)) = .ok () (W.alloc (.cells r.v 55))) := store_rl
  have HT : Hid (Top w) := hT
  have HRow : Hid (RowR w a l) := hrow
  have hl64 : l.length ≤ 64 := by obtain ⟨d, _, _, h, _⟩ := err_ok he; exact h
  have HL64 : Hid (l.length ≤ 64) := hl64
  have HRR : Hid (∀ r ∈ l, r.right = true) := by obtain ⟨d, _, _, _, h⟩ := err_ok he; exact h
  have HD : Hid (dim = ((dim.toNat : Nat) : Int) ∧ dim.toNat < 7) := by
    obtain ⟨d, h1, h2, _, _⟩ := err_ok he
    subst h1
    exact ⟨by simp, by simpa using h2⟩
  have hkr : k.right = true := by
    unfold spotR at hsp
    split at hsp
    · rename_i h; exact h.1
    · cases hsp
  obtain ⟨k1, k2, k3, k4, k5, k6, k7⟩ := Ky.right_all hkr
  have HSO : Hid ((spotR k dim).1.ok) := by
    show Pt.ok _
    unfold spotR
    rw [if_pos ⟨hkr, by have := HD.out; omega, by have := HD.out; omega⟩]
    exact spot_ok ho hkr _
  have K2 := hidW (fun W => spot_ck k dim W ho)
  rw [hsp] at K2
  obtain ⟨W1, hW1⟩ : ∃ W1, w.alloc (.cells k.v 40) = W1 := ⟨_, rfl⟩
  have b1 := bel_nw hW1
  have HB1 : Hid (Blk W1 w.heap.size 40 k.v) := blk_nw hW1
  have K1 := hidW (cut_ok a c l dim W1 (hT.below b1) (hrow.low b1) he)
  obtain ⟨⟨ra, rb, rc⟩, hR⟩ : ∃ R : Pt, (spotR k dim).1 = R := ⟨_, rfl⟩
  rw [hR] at K2 HSO
  obtain ⟨N, hN⟩ : ∃ N, l.length = N := ⟨_, rfl⟩
  have HN : Hid (l.length = N) := hN
  rw [hN] at K1 hl64 lc ⊢
  obtain ⟨KV, hKV⟩ : ∃ KV, k.v = KV := ⟨_, rfl⟩
  rw [hKV] at hs2 hW1 HB1 K2 ⊢
  clear hKV hT hrow hN hR he hsp hkr k1 k2 k3 k4 k5 k6 k7 ho
  go_enter Tryd.func6, Tryd.ntmps6
  go_wp2_with fail
  refine Calls.mono K1.out ?_
  rintro e W2 ⟨g1, c1, ka, kc, sa, sc, vs, L, K, S, rfl, ci, cp, b12⟩
  have HCP : Hid (CutP l dim.toNat L K S) := cp
  have b2 := bel_tr b1 b12
  have HB2 : Hid (Blk W2 w.heap.size 40 KV) := HB1.out.kept b12
  have HCI2 : Hid (CutIn W2 W1.heap.size g1 c1 ka kc sa sc vs L K S) := ci
  clear K1 ci cp b12 b1 hW1
  obtain ⟨M, hM⟩ : ∃ M, L.length = M := ⟨_, rfl⟩
  have HM : Hid (L.length = M) := hM
  obtain ⟨Q, hQ⟩ : ∃ Q, S.length = Q := ⟨_, rfl⟩
  have HQ : Hid (S.length = Q) := hQ
  have hMN : M ≤ 2 * N + 1 := by have := HCP.out.few; rw [HN.out, hM] at this; exact this
  have hQM : Q ≤ M := by have := HCP.out.num; rw [hQ, hM] at this; exact this
  rw [hM, hQ]
  clear hM hQ
  obtain ⟨W3, hW3⟩ : ∃ W3, W2.alloc (.cells #[.slice (some ⟨g1, 0, none⟩) M c1, .slice ka M kc, .slice sa Q sc] 27) = W3 := ⟨_, rfl⟩
  have b23 := bel_nw hW3
  have b3 := bel_tr b2 b23
  have HB3 : Hid (Blk W3 w.heap.size 40 KV) := HB2.out.kept b23
  have HC3 : Hid (Blk W3 W2.heap.size 27 #[.slice (some ⟨g1, 0, none⟩) M c1, .slice ka M kc, .slice sa Q sc]) := blk_nw hW3
  have HCI3 : Hid (CutIn W3 W1.heap.size g1 c1 ka kc sa sc vs L K S) := HCI2.out.below b23
  have hk3 := HB3.out.at_
  clear b2 b23
  go_wp2_with (refine wpList_load_at_w rfl _ _ rfl _ 0 (by rfl) _ hk3 Tryd.underlying40 hs2 ?_)
  refine Calls.mono (K2.out _) ?_
  rintro e W4 ⟨rfl, b34⟩
  have b4 := bel_tr b3 b34
  have HC4 : Hid (Blk W4 W2.heap.size 27 #[.slice (some ⟨g1, 0, none⟩) M c1, .slice ka M kc, .slice sa Q sc]) := HC3.out.kept b34
  have HCI4 : Hid (CutIn W4 W1.heap.size g1 c1 ka kc sa sc vs L K S) := HCI3.out.below b34
  clear hk3 b34 b3 K2 hW3
  obtain ⟨W5, hW5⟩ : ∃ W5, W4.alloc (.cells #[.int .u64 ra, .int .u64 rb, .int .u64 rc] 42) = W5 := ⟨_, rfl⟩
  have b45 := bel_nw hW5
  have b5 := bel_tr b4 b45
  have HC5 : Hid (Blk W5 W2.heap.size 27 #[.slice (some ⟨g1, 0, none⟩) M c1, .slice ka M kc, .slice sa Q sc]) := HC4.out.kept b45
  have HP5 : Hid (Blk W5 W4.heap.size 42 #[.int .u64 ra, .int .u64 rb, .int .u64 rc]) := blk_nw hW5
  have HCI5 : Hid (CutIn W5 W1.heap.size g1 c1 ka kc sa sc vs L K S) := HCI4.out.below b45
  have KF : Hid _ := find_ck (some ⟨g1, 0, none⟩) ka sa c1 kc sc L (ints K) (S.map ints) ⟨ra, rb, rc⟩ W5 (by have := HM.out; omega) (HCI5.out.rp HCP.out) (HCI5.out.ri HCP.out HL64.out) (HCI5.out.rs HCP.out HL64.out) HSO.out
  rw [List.length_map, List.length_map, HCP.out.len, HM.out, HQ.out] at KF
  have d0 := HC5.out.cell 0 (.slice (some ⟨g1, 0, none⟩) M c1) rfl
  have d1 := HC5.out.cell 1 (.slice ka M kc) rfl
  have d2 := HC5.out.cell 2 (.slice sa Q sc) rfl
  have p0 := HP5.out.cell 0 (.int .u64 ra) rfl
  have p1 := HP5.out.cell 1 (.int .u64 rb) rfl
  have p2 := HP5.out.cell 2 (.int .u64 rc) rfl
  clear b45 b4
  go_wp2_with fail
  refine Calls.mono KF.out ?_
  rintro e W6 ⟨hf, b56⟩
  rcases hf with hf | hf
  · exact absurd HCP.out.right hf.1
  obtain ⟨_, x, rfl, hcl⟩ := hf
  obtain ⟨m, rfl, hSm⟩ := cls_set HCP.out hcl
  have HSM : Hid (S[m]? = some (setOf (spns l dim.toNat) (⟨ra, rb, rc⟩ : Pt).n)) := hSm
  have hmQ : m < Q := by have := (List.getElem?_eq_some_iff.1 hSm).1; rw [HQ.out] at this; exact this
  have b6 := bel_tr b5 b56
  have HC6 : Hid (Blk W6 W2.heap.size 27 #[.slice (some ⟨g1, 0, none⟩) M c1, .slice ka M kc, .slice sa Q sc]) := HC5.out.kept b56
  have HP6 : Hid (Blk W6 W4.heap.size 42 #[.int .u64 ra, .int .u64 rb, .int .u64 rc]) := HP5.out.kept b56
  have HCI6 : Hid (CutIn W6 W1.heap.size g1 c1 ka kc sa sc vs L K S) := HCI5.out.below b56
  clear hcl hSm b56 KF d0 d1 d2 p0 p1 p2 hW5 b5
  have h0 : decide ((m : Int) < 0) = false := by rw [decide_eq_false_iff_not]; omega
  have h1 : decide ((Q : Int) ≤ (m : Int)) = false := by rw [decide_eq_false_iff_not]; omega
  have h1' : decide (Q ≤ m) = false := by rw [decide_eq_false_iff_not]; omega
  have d2 := HC6.out.cell 2 (.slice sa Q sc) rfl
  obtain ⟨z, hz⟩ : ∃ z, (⟨ra, rb, rc⟩ : Pt).n = z := ⟨_, rfl⟩
  have HZ : Hid ((⟨ra, rb, rc⟩ : Pt).n = z) := hz
  obtain ⟨P, hP⟩ : ∃ P, spns l dim.toNat = P := ⟨_, rfl⟩
  have HP' : Hid (spns l dim.toNat = P) := hP
  rw [hz, hP] at HSM
  have HPL : Hid (P.length = N) := by show _ = _; rw [← hP, List.length_map, HN.out]
  have HWN : Hid (setOf P z = wnN P z N) := by show _ = _; unfold setOf wnN; rw [HPL.out]
  clear hz hP
  go_wp2_with fail
  clear d2
  go_loopw [13, 56] (fun v13 i wr => ∃ (n : Nat) (qa : Option Addr) (qc : Nat), n ≤ N ∧ i = .int .i64 n ∧ v13 = .slice qa (wnN P z n).length qc ∧ Hid (OwnI wr W6.heap.size qa qc (wnN P z n)) ∧ Below W6.heap.size W6 wr) (fun _ i _ => N - (intOf i).toNat)
  case atStart => exact ⟨0, none, 0, Nat.zero_le _, rfl, rfl, OwnI.nil _ _, Below.refl _ _⟩
  case round =>
    obtain ⟨n, qa, qc, hn, rfl, rfl, HO, bw⟩ := hrel
    have hwl := wnN_len P z n
    obtain ⟨xs, hxs⟩ : ∃ xs, wnN P z n = xs := ⟨_, rfl⟩
    have HXS : Hid (wnN P z n = xs) := hxs
    rw [hxs] at HO hwl ⊢
    clear hxs
    by_cases hlt : n < N
    · have ik : (n : Int) < (N : Int) := by omega
      have in0 : (0 : Int) ≤ (n : Int) := by omega
      have hw1 : IntKind.i64.wrap ((n : Int) + 1) = ((n + 1 : Nat) : Int) := by simp [IntKind.wrap, IntKind.bits, IntKind.signed]; omega
      obtain ⟨r, hr⟩ : ∃ r, l[n]? = some r := ⟨_, List.getElem?_eq_getElem (by rw [HN.out]; exact hlt)⟩
      have HR : Hid (l[n]? = some r) := hr
      have b7 := bel_tr b6 bw
      have HRW : Hid (RowR wr a l) := HRow.out.low b7
      obtain ⟨b, off, ha, hc⟩ := HRW.out.cells n r hr
      have hs1 := hsr.out r
      have hst := HSTR.out wr r
      have HPN : Hid (P[n]? = some (r.piece dim.toNat)) := by show _ = _; rw [← HP'.out, List.getElem?_map, hr]; rfl
      have KH : Hid (∀ W, Calls Tryd.prog 21 #[.agg r.v, .int .i64 dim, .agg #[.int .u64 ra, .int .u64 rb, .int .u64 rc]] W fun e w' => e = .returned (.bool ((r.piece dim.toNat).holds z)) ∧ Below W.heap.size W w') := fun W => by
        have := rHolds_any r dim.toNat HD.out.2 ⟨ra, rb, rc⟩ W (HRow.out.each r (List.mem_of_getElem? hr)) (HRR.out r (List.mem_of_getElem? hr)) HSO.out
        rw [HZ.out, ← HD.out.1] at this
        exact this
      obtain ⟨H, hH⟩ : ∃ H, (r.piece dim.toNat).holds z = H := ⟨_, rfl⟩
      have HH : Hid ((r.piece dim.toNat).holds z = H) := hH
      rw [hH] at KH
      clear hr hH
      subst ha
      obtain ⟨RA, hRA⟩ : ∃ RA, r.v = RA := ⟨_, rfl⟩
      rw [hRA] at hs1 hc hst KH
      clear hRA
      have hB := blk_new wr RA 55
      have HPW : Hid (Blk wr W4.heap.size 42 #[.int .u64 ra, .int .u64 rb, .int .u64 rc]) := HP6.out.kept bw
      have P8 := HPW.out.alloc (.cells RA 55)
      have p0 := P8.cell 0 (.int .u64 ra) rfl
      have p1 := P8.cell 1 (.int .u64 rb) rfl
      have p2 := P8.cell 2 (.int .u64 rc) rfl
      go_wp2_with (first
        | (refine wpList_load_at rfl _ _ rfl b (off + n * 17) (by rfl) _ hc Tryd.underlying55 hs1 ?_)
        | (refine wpList_store_new _ _ rfl _ _ _ rfl _ _ rfl rfl hst ?_)
        | (refine wpList_load_at rfl _ _ rfl _ 0 (by rfl) _ hB.at_ Tryd.underlying55 hs1 ?_))
      refine (KH.out _).mono ?_
      rintro e W8 ⟨rfl, bb⟩
      have b8 : Below wr.heap.size wr W8 := bel_tr (bel_nw rfl) bb
      have bw8 := bel_tr bw b8
      have HO8 : Hid (OwnI W8 W6.heap.size qa qc xs) := HO.out.below b8
      clear hB P8 p0 p1 p2 bb hc hst KH HO b7
      cases H
      · go_wp2
        refine ⟨⟨n + 1, qa, qc, by omega, by first | rfl | (congr 1), ?_, ?_, bw8⟩, by simp only [intOf]; omega⟩
        · rw [wnN_succ P z HPN.out, HH.out, HXS.out]; rfl
        · rw [wnN_succ P z HPN.out, HH.out, HXS.out]; exact HO8
      · have hk5 : OwnI (W8.alloc (.cells #[.int .i64 n] 3)) W6.heap.size qa qc xs := HO8.out.below (bel_nw rfl)
        have hcell : (W8.alloc (.cells #[.int .i64 n] 3)).cell? ⟨W8.heap.size, 0, none⟩ = some (.int .i64 n) := (blk_new W8 _ _).cell 0 _ rfl
        have hbase : W6.heap.size ≤ (W8.alloc (.cells #[.int .i64 n] 3)).heap.size := by
          have := bw8.size
          rw [World.size_alloc]
          omega
        go_wp2_with (at_builtin; refine wpList_appI _ rfl _ _ rfl W6.heap.size qa qc xs rfl hk5 ⟨W8.heap.size, 0, none⟩ 1 n rfl hcell (by omega) hbase ?_)
        intro g c' W9 ok9 b9 gr9 at9 lt9
        have bw9 : Below W6.heap.size W6 W9 := (bw8.alloc bw8.size _).trans b9
        have HO9 : Hid (OwnI W9 W6.heap.size (some ⟨g, 0, none⟩) c' (xs ++ [n])) := ok9
        clear ok9 b9 gr9 at9 lt9 hk5 hcell hbase
        go_wp2
        refine ⟨⟨n + 1, some ⟨g, 0, none⟩, c', by omega, by first | rfl | (congr 1), ?_, ?_, bw9⟩, by simp only [intOf]; omega⟩
        · rw [wnN_succ P z HPN.out, HH.out, HXS.out]; simp
        · rw [wnN_succ P z HPN.out, HH.out, HXS.out]; exact HO9
    · have hnN : n = N := by omega
      have ik : ¬ (n : Int) < (N : Int) := by omega
      have b7 := bel_tr b6 bw
      have ex : setOf P z = xs := by rw [HWN.out, ← hnN]; exact HXS.out
      rw [ex] at HSM
      obtain ⟨b, off, ai, ai', hsa, x1, hown⟩ := (HCI6.out.below bw).set.at_ HSM.out
      have d2 := (HC6.out.kept bw).cell 2 (.slice sa Q sc) rfl
      subst hsa
      have KSS : Hid _ := KS.out wr ai qa ai' qc (ints xs) (hown.row (by omega)) (HO.out.row (by omega))
      rw [List.length_map] at KSS
      have im : (m : Int) < (Q : Int) := by omega
      have im0 : (0 : Int) ≤ (m : Int) := by omega
      clear hown ex HO
      go_wp2_with fail
      refine Calls.mono KSS.out ?_
      rintro e W8 ⟨rfl, bb⟩
      have b8 := bel_tr b7 bb
      have KA' : Hid _ := KA.out W8 (HT.out.below b8)
      go_wp2_with fail
      refine Calls.mono KA'.out ?_
      rintro e W9 ⟨rfl, bb'⟩
      have b9 := bel_tr b8 bb'
      go_wp2
      go_ret
      exact ⟨rfl, b9⟩
theorem chunkHolds_walk (a : Option Addr) (c : Nat) (l : List Rl) (k : Ky) (dim : Int) (w : World) (lc : l.length ≤ c) (cm : c * 136 ≤ 140737488351232 ∧ (a = none → c = 0)) (hrow : RowR w a l) (ho : k.ok) (hT : Top w) : Calls Tryd.prog 6 #[.slice a l.length c, .agg k.v, .int .i64 dim] w fun e w' => e = .returned (.bool true) ∧ Below w.heap.size w w' := by
  by_cases he : errC l dim = 0
  · cases hs : (spotR k dim).2 with
    | false => exact chunkHolds_skip a c l k dim w hrow ho hT (.inr hs)
    | true => exact chunkHolds_main a c l k dim w lc hrow ho hT he hs
  · exact chunkHolds_skip a c l k dim w hrow ho hT (.inl he)
end Go.Proofs.YtgppfkbapieneaaDoor
