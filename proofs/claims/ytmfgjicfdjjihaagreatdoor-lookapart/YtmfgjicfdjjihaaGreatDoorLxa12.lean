/- Texts joined: CkL CkM -/
import Derived.Test.YtmfgjicfdjjihaaGreatDoorLxa11
namespace Go.Proofs.YtmfgjicfdjjihaaGreatDoor
open Go.RowKit
set_option linter.unusedVariables false
set_option linter.unusedSimpArgs false
def rawS (q : Pt × Pt) : List Pt := q.1 :: (if q.2 = ptTop then [] else [q.2.next])
def rawN (l : List (Pt × Pt)) (n : Nat) : List Pt := pt0 :: (l.take n).flatMap rawS
def rawC (l : List (Pt × Pt)) : List Pt := pt0 :: l.flatMap rawS
theorem rawN_succ (l : List (Pt × Pt)) {n : Nat} {q : Pt × Pt} (h : l[n]? = some q) : rawN l (n + 1) = rawN l n ++ rawS q := by
 unfold rawN
 rw [List.take_add_one, h]
 simp
theorem rawS_len (q : Pt × Pt) : (rawS q).length ≤ 2 := by unfold rawS; split <;> simp
theorem rawN_len (l : List (Pt × Pt)) : ∀ n, n ≤ l.length → (rawN l n).length ≤ 2 * n + 1
 | 0, _ => by simp [rawN]
 | n + 1, h => by
  obtain ⟨q, hq⟩ : ∃ q, l[n]? = some q := ⟨_, List.getElem?_eq_getElem (by omega)⟩
  have := rawN_len l n (by omega)
  have h2 := rawS_len q
  rw [rawN_succ l hq, List.length_append]
  omega
theorem own_one (w : World) (B : Nat) (p : Pt) (hB : B ≤ w.heap.size) : OwnP (w.alloc (.cells p.v 86)) B (some ⟨w.heap.size, 0, none⟩) 1 [p] :=
 OwnP.mk' (blk_new w p.v 86) rfl hB (Nat.le_refl _) (by decide) (fun i q j hi hj => by
  have h0 : i = 0 := by
   have := (List.getElem?_eq_some_iff.1 hi).1
   simp at this
   omega
  subst h0
  cases hi
  simp)
theorem raw_ok {l : List (Pt × Pt)} (hl : ∀ q ∈ l, q.1.ok ∧ q.2.ok) (ha : ∀ q ∈ l, q.2 = ptTop ∨ q.2.a ≤ 1000) : ∀ p ∈ rawC l, p.ok := by
 intro p hp
 unfold rawC at hp
 rcases List.mem_cons.1 hp with rfl | hp
 ·exact pt0_ok
 ·obtain ⟨q, hq, hp⟩ := List.mem_flatMap.1 hp
  unfold rawS at hp
  rcases List.mem_cons.1 hp with rfl | hp
  ·exact (hl q hq).1
  ·split at hp
   ·cases hp
   ·rename_i hne
    simp only [List.mem_singleton] at hp
    subst hp
    rcases ha q hq with e | e
    ·exact absurd e hne
    ·exact Pt.next_ok (hl q hq).2 e
set_option maxRecDepth 100000 in
set_option maxHeartbeats 8000000 in
theorem starts_any (a : Option Addr) (c : Nat) (l : List (Pt × Pt)) (w : World) (hT : Top w) (hl : l.length ≤ 1000) (hrow : RowC w a l) (ha : ∀ q ∈ l, q.2 = ptTop ∨ q.2.a ≤ 1000) :
  Calls Tryz.prog 62 #[.slice a l.length c] w fun e w' => ∃ g c' L, e = .returned (.slice (some ⟨g, 0, none⟩) L.length c') ∧ OwnP w' w.heap.size (some ⟨g, 0, none⟩) c' L ∧ (L.Pairwise fun p q => p.n < q.n) ∧ (∀ p, p ∈ L ↔ p ∈ rawC l) ∧ L.length ≤ 2 * l.length + 1 ∧ Below w.heap.size w w' := by
 have HOK : Hid (∀ p ∈ rawC l, p.ok) := raw_ok hrow.each ha
 have HA : Hid (∀ q ∈ l, q.2 = ptTop ∨ q.2.a ≤ 1000) := ha
 have HST : Hid (∀ W : World, ∀ q : Pt × Pt, (Instr.storeAt 121 (.pointer (some ⟨W.heap.size, 0, none⟩)) (.agg (pqv q))).run Tryz.prog (W.alloc (.cells z6 121)) = .ok () (W.alloc (.cells (pqv q) 121))) := fun W q => run_storeAt_new (P := Tryz.prog) W 121 z6 (pqv q) (by kernel_rfl) rfl (by kernel_rfl)
 have hsz : Hid (∀ q : Pt × Pt, (Tryz.prog.info? 121).map (·.size) = some (pqv q).size) := fun q => by kernel_rfl
 obtain ⟨N, hN⟩ : ∃ N, l.length = N := ⟨_, rfl⟩
 have HN : Hid (l.length = N) := hN
 have HRow : Hid (RowC w a l) := hrow
 have HT : Hid (Top w) := hT
 have HR : Hid (rawN l N = rawC l) := by show _ = _; unfold rawN rawC; rw [← hN, List.take_length]
 rw [hN] at hl ⊢
 clear hN hrow hT ha
 have O1 : Hid (OwnP (w.alloc (.cells z3 86)) w.heap.size (some ⟨w.heap.size, 0, none⟩) 1 [pt0]) := own_one w w.heap.size pt0 (Nat.le_refl _)
 have bel : Below w.heap.size w (w.alloc (.cells z3 86)) := bel_nw rfl
 go_enter Tryz.func62, Tryz.ntmps62
 go_wp2_with fail
 go_loopw [3, 10] (fun k3 i wr => ∃ (n g kc : Nat), n ≤ N ∧ i = .int .i64 n ∧ k3 = .slice (some ⟨g, 0, none⟩) (rawN l n).length kc ∧ Hid (OwnP wr w.heap.size (some ⟨g, 0, none⟩) kc (rawN l n)) ∧ Below w.heap.size w wr) (fun _ i _ => N - (intOf i).toNat)
 case atStart => exact ⟨0, w.heap.size, 1, Nat.zero_le _, rfl, rfl, O1, bel⟩
 case round =>
  obtain ⟨n, g, kc, hn, rfl, rfl, HK, bw⟩ := hrel
  have hkl := rawN_len l n (by rw [HN.out]; exact hn)
  obtain ⟨xs, hxs⟩ : ∃ xs, rawN l n = xs := ⟨_, rfl⟩
  have HXS : Hid (rawN l n = xs) := hxs
  rw [hxs] at HK hkl ⊢
  clear hxs
  by_cases hlt : n < N
  ·have ik : (n : Int) < (N : Int) := by omega
   have in0 : (0 : Int) ≤ (n : Int) := by omega
   obtain ⟨q, hq⟩ : ∃ q, l[n]? = some q := ⟨_, List.getElem?_eq_getElem (by rw [HN.out]; exact hlt)⟩
   have HQ : Hid (l[n]? = some q) := hq
   have HQA : Hid (q.2 = ptTop ∨ q.2.a ≤ 1000) := HA.out q (List.mem_of_getElem? hq)
   have HQO : Hid (q.1.ok ∧ q.2.ok) := HRow.out.each q (List.mem_of_getElem? hq)
   have HRW : Hid (RowC wr a l) := HRow.out.low bw
   obtain ⟨b, off, ha', hc⟩ := HRW.out.cells n q hq
   have hs1 := hsz.out q
   have hst := HST.out wr q
   clear hq
   subst ha'
   have hw1 : IntKind.i64.wrap ((n : Int) + 1) = ((n + 1 : Nat) : Int) := by simp [IntKind.wrap, IntKind.bits, IntKind.signed]; omega
   obtain ⟨⟨pa, pb, pc⟩, ⟨qa, qb, qc⟩⟩ := q
   obtain ⟨RA, hRA⟩ : ∃ RA, pqv (⟨pa, pb, pc⟩, ⟨qa, qb, qc⟩) = RA := ⟨_, rfl⟩
   rw [hRA] at hs1 hc hst
   have hB := blk_new wr RA 121
   obtain ⟨W2, hW2⟩ : ∃ W2, wr.alloc (.cells RA 121) = W2 := ⟨_, rfl⟩
   have b2 : Below wr.heap.size wr W2 := bel_nw hW2
   have bw2 := bel_tr bw b2
   rw [hW2] at hB hst
   have hB' : Blk W2 wr.heap.size 121 (pqv (⟨pa, pb, pc⟩, ⟨qa, qb, qc⟩)) := by rw [hRA]; exact hB
   have p0 := hB'.cell 0 (.int .u64 pa) rfl
   have p1 := hB'.cell 1 (.int .u64 pb) rfl
   have p2 := hB'.cell 2 (.int .u64 pc) rfl
   have HK2 : Hid (OwnP W2 w.heap.size (some ⟨g, 0, none⟩) kc xs) := HK.out.below b2
   have HBB : Hid (Blk W2 wr.heap.size 121 (pqv (⟨pa, pb, pc⟩, ⟨qa, qb, qc⟩))) := hB'
   have hcell : CellsAt (W2.alloc (.cells #[.int .u64 pa, .int .u64 pb, .int .u64 pc] 86)) W2.heap.size 0 (Pt.v ⟨pa, pb, pc⟩) := (blk_new W2 _ _).at_
   have hk3 : OwnP (W2.alloc (.cells #[.int .u64 pa, .int .u64 pb, .int .u64 pc] 86)) w.heap.size (some ⟨g, 0, none⟩) kc xs := HK2.out.below (bel_nw rfl)
   have hbase : w.heap.size ≤ (W2.alloc (.cells #[.int .u64 pa, .int .u64 pb, .int .u64 pc] 86)).heap.size := by
    have := bw2.size
    rw [World.size_alloc]
    omega
   have HW2 : Hid (wr.alloc (.cells RA 121) = W2) := hW2
   clear hB hB' hRA hW2
   go_wp2_with (first
    | (refine wpList_load_at rfl _ _ rfl b (off + n * 6) (by rfl) _ hc Tryz.underlying121 hs1 ?_)
    | (refine wpList_store_new _ _ rfl _ _ _ rfl _ _ rfl rfl hst ?_)
    | (at_builtin; refine wpList_appP _ rfl _ _ rfl w.heap.size (some ⟨g, 0, none⟩) kc xs rfl hk3 W2.heap.size 1 ⟨pa, pb, pc⟩ rfl hcell (by omega) hbase ?_))
   intro g2 c2 W3 O3 b3 gr3
   have HO3 : Hid (OwnP W3 w.heap.size (some ⟨g2, 0, none⟩) c2 (xs ++ [⟨pa, pb, pc⟩])) := O3
   have HB3 : Hid (Blk W3 wr.heap.size 121 (pqv (⟨pa, pb, pc⟩, ⟨qa, qb, qc⟩))) := (HBB.out.alloc _).far gr3 (by
    obtain ⟨cur, hb, _⟩ := HK.out.blk
    have := hb.lt
    simp only [Option.map_some, ne_eq, Option.some.injEq]
    omega)
   have bw3 : Below w.heap.size w W3 := (bel_al bw2 rfl).trans b3
   have HT3 : Hid (Top W3) := HT.out.below bw3
   have HLX : Hid ((xs ++ [(⟨pa, pb, pc⟩ : Pt)]).length = xs.length + 1) := by show _ = _; simp
   have q0 := HB3.out.cell 3 (.int .u64 qa) rfl
   have q1 := HB3.out.cell 4 (.int .u64 qb) rfl
   have q2 := HB3.out.cell 5 (.int .u64 qc) rfl
   have t0 := HT3.out.c0
   have t1 := HT3.out.c1
   have t2 := HT3.out.c2
   clear O3 b3 gr3 hk3 hcell hbase p0 p1 p2 hc hst
   by_cases hq2 : (⟨qa, qb, qc⟩ : Pt) = ptTop
   ·have HRS : Hid (rawN l (n + 1) = xs ++ [⟨pa, pb, pc⟩]) := by
     show _ = _
     rw [rawN_succ l HQ.out, HXS.out]
     unfold rawS
     simp only
     rw [if_pos hq2]
    unfold ptTop at hq2
    cases hq2
    go_wp2
    refine ⟨⟨n + 1, g2, c2, by omega, by first | rfl | (congr 1), ?_, ?_, bw3⟩, by simp only [intOf]; omega⟩
    ·rw [HRS.out, HLX.out]
    ·rw [HRS.out]; exact HO3
   ·have hqa : qa ≤ 1000 := by
     rcases HQA.out with e | e
     ·exact absurd e hq2
     ·exact e
    have hqne : (qa == 18446744073709551615) = false := by rw [beq_eq_false_iff_ne]; omega
    have HRS : Hid (rawN l (n + 1) = xs ++ [⟨pa, pb, pc⟩] ++ [Pt.next ⟨qa, qb, qc⟩]) := by
     show _ = _
     rw [rawN_succ l HQ.out, HXS.out]
     unfold rawS
     simp only
     rw [if_neg hq2]
     simp
    have KB : Hid _ := behind_pt ⟨qa, qb, qc⟩ W3 HQO.out.2 (by simp only; omega)
    obtain ⟨nx, hnx⟩ : ∃ nx, Pt.next ⟨qa, qb, qc⟩ = nx := ⟨_, rfl⟩
    rw [hnx] at HRS KB
    clear hnx hq2
    go_wp2_with fail
    refine Calls.mono KB.out ?_
    rintro e W4 ⟨rfl, b34⟩
    have bw4 := bel_tr bw3 b34
    obtain ⟨na, nb, nc⟩ := nx
    obtain ⟨ys, hys⟩ : ∃ ys, xs ++ [(⟨pa, pb, pc⟩ : Pt)] = ys := ⟨_, rfl⟩
    have HYL : Hid (xs.length + 1 = ys.length) := by show _ = _; rw [← hys, HLX.out]
    rw [hys] at HO3 HRS
    clear hys KB q0 q1 q2 t0 t1 t2
    have hyl : ys.length ≤ 4000 := by rw [← HYL.out]; omega
    have HO4 : Hid (OwnP W4 w.heap.size (some ⟨g2, 0, none⟩) c2 ys) := HO3.out.below b34
    have hcell : CellsAt (W4.alloc (.cells #[.int .u64 na, .int .u64 nb, .int .u64 nc] 86)) W4.heap.size 0 (Pt.v ⟨na, nb, nc⟩) := (blk_new W4 _ _).at_
    have hk3 : OwnP (W4.alloc (.cells #[.int .u64 na, .int .u64 nb, .int .u64 nc] 86)) w.heap.size (some ⟨g2, 0, none⟩) c2 ys := HO4.out.below (bel_nw rfl)
    have hbase : w.heap.size ≤ (W4.alloc (.cells #[.int .u64 na, .int .u64 nb, .int .u64 nc] 86)).heap.size := by
     have := bw4.size
     rw [World.size_alloc]
     omega
    rw [HYL.out]
    go_wp2_with (at_builtin; refine wpList_appP _ rfl _ _ rfl w.heap.size (some ⟨g2, 0, none⟩) c2 ys rfl hk3 W4.heap.size 1 ⟨na, nb, nc⟩ rfl hcell (by omega) hbase ?_)
    intro g5 c5 W5 O5 b5 gr5
    have HO5 : Hid (OwnP W5 w.heap.size (some ⟨g5, 0, none⟩) c5 (ys ++ [⟨na, nb, nc⟩])) := O5
    have bw5 : Below w.heap.size w W5 := (bel_al bw4 rfl).trans b5
    clear O5 b5 gr5 hk3 hcell hbase
    go_wp2
    refine ⟨⟨n + 1, g5, c5, by omega, by first | rfl | (congr 1), ?_, ?_, bw5⟩, by simp only [intOf]; omega⟩
    ·rw [HRS.out]; simp
    ·rw [HRS.out]; exact HO5
  ·have hnN : n = N := by omega
   subst hnN
   have ex : xs = rawC l := by rw [← HXS.out]; exact HR.out
   have HEX : Hid (xs = rawC l) := ex
   clear ex
   have hok : ∀ p ∈ xs, p.ok := by rw [HEX.out]; exact HOK.out
   have HKS : Hid _ := sort_pts wr w.heap.size g kc xs HK.out bw.size hok (by omega)
   clear hok
   go_wp2_with fail
   refine Calls.mono HKS.out ?_
   rintro e W2 ⟨rfl, l2, hperm, hsort, O2, b2⟩
   have bw2 : Below w.heap.size w W2 := bw.trans b2
   have hl2 : l2.length = xs.length := hperm.length_eq
   have HKC : Hid _ := compact_any W2 w.heap.size g kc l2 O2 bw2.size (by omega)
   have HL2 : Hid (l2.length = xs.length) := hl2
   have HOK2 : Hid (∀ p ∈ l2, p.ok) := fun p hp => HOK.out p (by rw [← HEX.out]; exact hperm.mem_iff.1 hp)
   have HSO : Hid ((ddL l2).Pairwise fun p q => p.n < q.n) := ddN_sorted l2 HOK2.out hsort _ (Nat.le_refl _)
   have HME : Hid (∀ p, p ∈ ddL l2 ↔ p ∈ rawC l) := fun p => by
    show p ∈ ddN l2 l2.length ↔ _
    rw [ddN_mem l2 _ (Nat.le_refl _), List.take_length, hperm.mem_iff, HEX.out]
   have HLE : Hid ((ddL l2).length ≤ 2 * n + 1) := by
    have := ddN_len l2 l2.length
    show (ddN l2 l2.length).length ≤ _
    omega
   rw [hl2] at HKC
   clear hperm hsort O2 hl2 HKS
   go_wp2_with fail
   refine Calls.mono HKC.out ?_
   rintro e W3 ⟨rfl, O3, b3⟩
   have HO3 : Hid (OwnP W3 w.heap.size (some ⟨g, 0, none⟩) kc (ddL l2)) := O3
   have bw3 : Below w.heap.size w W3 := bw2.trans b3
   clear O3 HKC
   go_wp2
   go_ret
   exact ⟨g, kc, ddL l2, rfl, HO3.out, HSO.out, HME.out, HLE.out, bw3⟩
set_option maxRecDepth 100000 in
set_option maxHeartbeats 1000000 in
theorem equalI_any (a a' : Option Addr) (c c' : Nat) (l l' : List Int) (w : World) (h : RowI w a l) (h' : RowI w a' l') :
  Calls Tryz.prog 66 #[.slice a l.length c, .slice a' l'.length c'] w fun e w' => e = .returned (.bool (decide (l = l'))) ∧ Below w.heap.size w w' := by
 have hs := h.small
 by_cases hl : l.length = l'.length
 ·obtain ⟨T, hT⟩ : ∃ T, decide (l = l') = T := ⟨_, rfl⟩
  rw [hT]
  have HT : Hid (decide (l = l') = T) := hT
  have HL : Hid (l.length = l'.length) := hl
  rw [← hl]
  obtain ⟨N, hN⟩ : ∃ N, l.length = N := ⟨_, rfl⟩
  have HN : Hid (l.length = N) := hN
  rw [hN] at hs ⊢
  clear hT hl hN
  go_enter Tryz.func66, Tryz.ntmps66
  go_wp2
  go_loopw [13] (fun i w' => ∃ (k m : Nat), k ≤ N ∧ i = .int .i64 k ∧ w' = w.drewN m ∧ Hid (l.take k = l'.take k)) (fun i _ => N - (intOf i).toNat)
  case atStart => exact ⟨0, 0, Nat.zero_le _, rfl, rfl, by show l.take 0 = l'.take 0; simp⟩
  case round =>
   obtain ⟨k, m, hk, rfl, rfl, ho⟩ := hrel
   by_cases hlt : k < N
   ·obtain ⟨b, off, rfl, hcl⟩ := (h.drewN m).cells (by have := HN.out; omega)
    obtain ⟨b', off', rfl, hcl'⟩ := (h'.drewN m).cells (by have := HN.out; have := HL.out; omega)
    have c0 := hcl k (by have := HN.out; omega)
    have c1 := hcl' k (by have := HN.out; have := HL.out; omega)
    have hlk : (k : Int) < (N : Int) := by omega
    have hst : Hid ((l.take (k + 1) = l'.take (k + 1)) ↔ l.getD k 0 = l'.getD k 0) := by
     show _ ↔ _
     have e1 : l.take (k + 1) = l.take k ++ [l.getD k 0] := by rw [List.take_succ_eq_append_getElem (by have := HN.out; omega)]; simp [show k < l.length by have := HN.out; omega]
     have e2 : l'.take (k + 1) = l'.take k ++ [l'.getD k 0] := by rw [List.take_succ_eq_append_getElem (by have := HN.out; have := HL.out; omega)]; simp [show k < l'.length by have := HN.out; have := HL.out; omega]
     rw [e1, e2, ho.out]
     simp
    obtain ⟨W, hW⟩ : ∃ W, w.drewN m = W := ⟨_, rfl⟩
    rw [hW] at c0 c1 ⊢
    have HW : Hid (w.drewN m = W) := hW
    clear hcl hcl' h h' hW
    generalize l.getD k 0 = x at *
    generalize l'.getD k 0 = y at *
    by_cases hxy : x = y
    ·have hxy' : (x != y) = false := by simpa using hxy
     go_wp2
     go_quiet (fail)
     go_wp2
     exact ⟨⟨k + 1, m + nq, by omega, int_eq (by omega), by rw [← HW.out]; exact drewN_add w m nq, hst.out.2 hxy⟩, by simp [intOf]; omega⟩
    ·have hxy' : (x != y) = true := by simpa using hxy
     have ET : Hid (false = T) := by
      show false = T
      rw [← HT.out]
      symm
      simp only [decide_eq_false_iff_not]
      intro e
      exact hxy (hst.out.1 (by rw [e]))
     go_wp2
     go_quiet (fail)
     go_wp2
     go_ret
     exact ⟨by rw [← ET.out]; rfl, by rw [← HW.out]; exact below_drewN (below_drewN (Below.refl _ _) m) nq⟩
   ·have hlt' : ¬ (k : Int) < (N : Int) := by omega
    have ET : Hid (true = T) := by
     show true = T
     rw [← HT.out]
     symm
     simp only [decide_eq_true_eq]
     have := ho.out
     rw [List.take_of_length_le (by have := HN.out; omega), List.take_of_length_le (by have := HN.out; have := HL.out; omega)] at this
     exact this
    go_wp2
    go_ret
    exact ⟨by rw [← ET.out]; rfl, below_drewN (Below.refl _ _) m⟩
 ·have hf : decide (l = l') = false := by
   simp only [decide_eq_false_iff_not]
   intro e
   exact hl (by rw [e])
  rw [hf]
  have hl' : ((l.length : Int) != (l'.length : Int)) = true := by simp; omega
  go_enter Tryz.func66, Tryz.ntmps66
  go_wp2
  go_ret
  exact ⟨rfl, Below.refl _ _⟩
theorem info_ints : (Tryz.prog.info? 24).map (fun i => (i.zero, i.size, i.bytes)) = some (some (.slice none 0 0), 1, 24) := by kernel_rfl
/-- A slice of sets of one's own. -/
structure SetsO (w : World) (B : Nat) (a : Option Addr) (c : Nat) (S : List (List Nat)) (vs : List Value) : Prop where
 row : w.ownsRow B 24 1 (.slice a S.length c) S.length vs
 each : ∀ (i : Nat) (s : List Nat), S[i]? = some s → ∃ ai ci, vs[i]? = some (Value.slice ai s.length ci) ∧ OwnI w B ai ci s
theorem SetsO.nil (w : World) (B : Nat) : SetsO w B none 0 [] [] := ⟨World.ownsRow_nil _ _ _ _, fun i s h => by simp at h⟩
theorem ownsRow_low {w w' : World} {B : Nat} {t : TypeId} {k n : Nat} {v : Value} {xs : List Value} (h : w.ownsRow B t k v n xs) (hb : Below w.heap.size w w') : w'.ownsRow B t k v n xs := by
 obtain ⟨h1, h2⟩ := h
 refine ⟨h1, ?_⟩
 rcases h2 with h2 | ⟨g, cap, cur, h3, h4, h5, h6⟩
 ·exact .inl h2
 ·refine .inr ⟨g, cap, cur, h3, h4, (hb.block g ?_).trans h5, h6⟩
  exact (Array.getElem?_eq_some_iff.1 h5).1
theorem ownsRow_far {w w' : World} {B : Nat} {t : TypeId} {k n : Nat} {v : Value} {xs : List Value} {x : Option Nat} (h : w.ownsRow B t k v n xs) (hg : w.grownBy w' x) (hx : ∀ g, v.ownBlock = some g → x ≠ some g) : w'.ownsRow B t k v n xs := by
 obtain ⟨h1, h2⟩ := h
 refine ⟨h1, ?_⟩
 rcases h2 with h2 | ⟨g, cap, cur, h3, h4, h5, h6⟩
 ·exact .inl h2
 ·refine .inr ⟨g, cap, cur, h3, h4, ?_, h6⟩
  rw [hg.block g (Array.getElem?_eq_some_iff.1 h5).1 (fun e => hx g (by rw [h3]; rfl) e.symm)]
  exact h5
theorem SetsO.below {w w' : World} {B : Nat} {a : Option Addr} {c : Nat} {S : List (List Nat)} {vs : List Value} (h : SetsO w B a c S vs) (hb : Below w.heap.size w w') : SetsO w' B a c S vs :=
 ⟨ownsRow_low h.row hb, fun i s hi => by
  obtain ⟨ai, ci, h1, h2⟩ := h.each i s hi
  exact ⟨ai, ci, h1, h2.below hb⟩⟩
theorem Blk.ty {w : World} {g : Nat} {t t' : TypeId} {cs cs' : Array Value} (h : Blk w g t cs) (h' : Blk w g t' cs') : t = t' := by
 have h1 : w.heap[g]? = some (.cells cs t (0, 0)) := h
 have h2 : w.heap[g]? = some (.cells cs' t' (0, 0)) := h'
 rw [h1] at h2
 simp only [Option.some.injEq, Obj.cells.injEq] at h2
 exact h2.2.1
theorem ownsRow_blk {w : World} {B : Nat} {t : TypeId} {k n : Nat} {v : Value} {xs : List Value} (h : w.ownsRow B t k v n xs) {g : Nat} (hg : v.ownBlock = some g) : ∃ cur, Blk w g t cur := by
 obtain ⟨h1, h2⟩ := h
 rcases h2 with ⟨h2, _⟩ | ⟨g', cap, cur, h3, h4, h5, h6⟩
 ·rw [h2] at hg
  cases hg
 ·rw [h3] at hg
  cases hg
  exact ⟨cur, h5⟩
theorem slice_blk (a : Option Addr) (n c : Nat) : (Value.slice a n c).ownBlock = a.map (·.block) := by
 cases a with
 | none => rfl
 | some ad => cases ad; rfl
/-- A block of another kind is not touched by an append to a slice of one's own. -/
theorem ownsRow_off {w : World} {B : Nat} {t t' : TypeId} {k n : Nat} {v : Value} {xs : List Value} (h : w.ownsRow B t k v n xs) {g : Nat} {cs : Array Value} (hb : Blk w g t' cs) (ht : t ≠ t') : v.ownBlock ≠ some g := fun e => by
 obtain ⟨cur, h1⟩ := ownsRow_blk h e
 exact ht (h1.ty hb)
theorem SetsO.far {w w' : World} {B : Nat} {a : Option Addr} {c : Nat} {S : List (List Nat)} {vs : List Value} {x : Option Nat} (h : SetsO w B a c S vs) (hg : w.grownBy w' x) (hx : a.map (·.block) = none ∨ x ≠ a.map (·.block)) (hi : ∀ (i : Nat) (s : List Nat) (ai : Option Addr) (ci : Nat), S[i]? = some s → vs[i]? = some (Value.slice ai s.length ci) → ∀ y, ai = some y → x ≠ some y.block) : SetsO w' B a c S vs :=
 ⟨ownsRow_far h.row hg (fun g e => by
  rw [slice_blk] at e
  rcases hx with hx | hx
  ·rw [hx] at e; cases e
  ·rw [e] at hx; exact hx), fun i s hs => by
  obtain ⟨ai, ci, h1, h2⟩ := h.each i s hs
  exact ⟨ai, ci, h1, h2.far hg (fun y hy => hi i s ai ci hs h1 y hy)⟩⟩
/-- A slice of slices of numbers, as it is read. -/
structure RowS (w : World) (a : Option Addr) (S : List (List Int)) : Prop where
 small : S.length ≤ 17592186044416
 cells : ∀ (i : Nat) (s : List Int), S[i]? = some s → ∃ b off ai ci, a = some ⟨b, off, none⟩ ∧ w.cell? ⟨b, off + i, none⟩ = some (Value.slice ai s.length ci) ∧ RowI w ai s
theorem RowS.below {w w' : World} {a : Option Addr} {S : List (List Int)} (h : RowS w a S) (hb : Below w.heap.size w w') : RowS w' a S :=
 ⟨h.small, fun i s hi => by
  obtain ⟨b, off, ai, ci, h1, h2, h3⟩ := h.cells i s hi
  exact ⟨b, off, ai, ci, h1, kept hb h2, h3.below hb⟩⟩
abbrev ints (l : List Nat) : List Int := l.map fun i : Nat => (i : Int)
theorem SetsO.rows {w : World} {B : Nat} {a : Option Addr} {c : Nat} {S : List (List Nat)} {vs : List Value} (h : SetsO w B a c S vs) (hs : S.length ≤ 17592186044416) (hl : ∀ s ∈ S, s.length ≤ 17592186044416) : RowS w a (S.map ints) := by
 refine ⟨by simpa using hs, fun i s' hi => ?_⟩
 rw [List.getElem?_map, Option.map_eq_some_iff] at hi
 obtain ⟨s, hi, rfl⟩ := hi
 obtain ⟨ai, ci, h1, h2⟩ := h.each i s hi
 obtain ⟨r1, r2⟩ := h.row
 have hlt : i < S.length := (List.getElem?_eq_some_iff.1 hi).1
 rcases r2 with ⟨_, r3⟩ | ⟨g, cap, cur, r3, r4, r5, r6, r7, r8, r9⟩
 ·omega
 ·simp only [Value.slice.injEq] at r3
  obtain ⟨rfl, _, rfl⟩ := r3
  have hb : Blk w g 24 cur := r5
  refine ⟨g, 0, ai, ci, rfl, hb.cell _ _ ?_, h2.row (hl s (List.mem_of_getElem? hi))⟩
  rw [Nat.zero_add]
  have h11 : (cur.toList.take (S.length * 1))[i]? = vs[i]? := by rw [r9]
  rw [List.getElem?_take_of_lt (by omega), Array.getElem?_toList] at h11
  rw [h11, h1]
  simp
/-- The place of a set among sets, or -1. -/
def ixS (S : List (List Int)) (s : List Int) : Int := match S.findIdx? (fun t => decide (t = s)) with
 | some i => i
 | none => -1
set_option maxRecDepth 100000 in
set_option maxHeartbeats 1000000 in
theorem cut1_any (a a' : Option Addr) (c c' bx : Nat) (l l' : List Int) (w : World) (h : RowI w a l) (h' : RowI w a' l') (hx : w.cell? ⟨bx, 0, none⟩ = some (.slice a' l'.length c')) :
  Calls Tryz.prog 65 #[.slice a l.length c, .pointer (some ⟨bx, 0, none⟩)] w fun e w' => e = .returned (.bool (decide (l = l'))) ∧ Below w.heap.size w w' := by
 have K := hidW (equalI_any a a' c c' l l' w h h')
 obtain ⟨T, hT⟩ : ∃ T, decide (l = l') = T := ⟨_, rfl⟩
 rw [hT] at K ⊢
 clear hT h h'
 generalize l.length = n at *
 generalize l'.length = n' at *
 go_enter Tryz.func65, Tryz.ntmps65
 go_wp2_with fail
 refine Calls.mono K.out ?_
 rintro e W2 ⟨rfl, bb⟩
 go_wp2
 go_ret
 exact ⟨rfl, bb⟩
set_option maxRecDepth 100000 in
set_option maxHeartbeats 4000000 in
theorem indexS_any (a sa : Option Addr) (c sc bx : Nat) (S : List (List Int)) (s : List Int) (w : World) (hr : RowS w a S) (hs : RowI w sa s) (hx : w.cell? ⟨bx, 0, none⟩ = some (.slice sa s.length sc)) :
  Calls Tryz.prog 64 #[.slice a S.length c, .func (.func 65) #[] #[.pointer (some ⟨bx, 0, none⟩)]] w fun e w' => e = .returned (.int .i64 (ixS S s)) ∧ Below w.heap.size w w' := by
 have few := hr.small
 obtain ⟨N, hN⟩ : ∃ N, S.length = N := ⟨_, rfl⟩
 have HN : Hid (S.length = N) := hN
 have HR : Hid (RowS w a S) := hr
 have HS : Hid (RowI w sa s) := hs
 have HX : Hid (w.cell? ⟨bx, 0, none⟩ = some (.slice sa s.length sc)) := hx
 have hcf : ∀ args w, (callFunc 65 args).run Tryz.prog w = .ok (.enter 65 args) w := Tryz.call65
 rw [hN] at few ⊢
 clear hr hN hs hx
 go_enter Tryz.func64, Tryz.ntmps64
 go_wp2_with fail
 go_loopw [8] (fun i wr => ∃ (k : Nat), k ≤ N ∧ i = .int .i64 k ∧ Below w.heap.size w wr ∧ Hid (∀ j t, j < k → S[j]? = some t → t ≠ s)) (fun i _ => N - (intOf i).toNat)
 case atStart => exact ⟨0, Nat.zero_le _, rfl, Below.refl _ _, fun j p hj => by omega⟩
 case round =>
  obtain ⟨k, hk, rfl, qb, qe⟩ := hrel
  by_cases hlt : k < N
  ·have ik : (k : Int) < (N : Int) := by omega
   obtain ⟨t, ht⟩ : ∃ t, S[k]? = some t := ⟨_, List.getElem?_eq_getElem (by rw [HN.out]; exact hlt)⟩
   obtain ⟨b, off, ai, ci, ha, d0, hri⟩ := (HR.out.below qb).cells k t ht
   have KK : Hid _ := cut1_any ai sa ci sc bx t s wr hri (HS.out.below qb) (kept qb HX.out)
   have HTK : Hid (S[k]? = some t) := ht
   subst ha
   clear ht hri
   obtain ⟨n, hn⟩ : ∃ n, t.length = n := ⟨_, rfl⟩
   rw [hn] at KK d0
   clear hn
   go_wp2_with fail
   refine Calls.mono KK.out ?_
   rintro e W2 ⟨rfl, bb⟩
   have b2 := bel_tr qb bb
   clear KK bb d0 qb
   by_cases hts : t = s
   ·have hix : Hid (ixS S s = (k : Int)) := by
     show _ = _
     have : S.findIdx? (fun t => decide (t = s)) = some k := by
      rw [List.findIdx?_eq_some_iff_getElem]
      obtain ⟨h1, h2⟩ := List.getElem?_eq_some_iff.1 HTK.out
      refine ⟨h1, by simp [h2, hts], fun j hj => ?_⟩
      have := qe.out j _ hj (List.getElem?_eq_getElem (by omega))
      simpa using this
     unfold ixS
     rw [this]
    have hd : decide (t = s) = true := by simp [hts]
    rw [hd]
    clear qe hd
    go_wp2
    go_ret
    exact ⟨by rw [hix.out]; rfl, b2⟩
   ·have hd : decide (t = s) = false := by simp [hts]
    have HN' : Hid (∀ j q, j < k + 1 → S[j]? = some q → q ≠ s) := fun j q hj hq => by
     by_cases e : j = k
     ·subst e
      rw [HTK.out] at hq
      cases hq
      exact hts
     ·exact qe.out j q (by omega) hq
    rw [hd]
    clear qe hd
    go_wp2
    exact ⟨⟨k + 1, by omega, by go_num, b2, HN'⟩, by simp [intOf]; omega⟩
  ·have ik : ¬ (k : Int) < (N : Int) := by omega
   have hix : Hid (ixS S s = -1) := by
    show _ = _
    have : S.findIdx? (fun t => decide (t = s)) = none := by
     rw [List.findIdx?_eq_none_iff]
     intro x hx
     obtain ⟨j, hj⟩ := List.getElem?_of_mem hx
     have hjl : j < S.length := (List.getElem?_eq_some_iff.1 hj).1
     have := qe.out j x (by have := HN.out; omega) hj
     simpa using this
    unfold ixS
    rw [this]
   clear qe
   go_wp2
   go_ret
   exact ⟨by rw [hix.out]; rfl, qb⟩
/-- append(sets, set). -/
theorem wpList_appS {ops : Array Oper} {rest : List Oper} {o : Oper} {ac : Act} {Q : Exit → Act → World → Prop} (w : World) (hgd : o.guard = none) (s x : Operand)
  (ho : o.op = .call { callee := .builtin .append, args := #[s, x], argTypes := #[58, 58] })
  (B : Nat) (a : Option Addr) (c n : Nat) (vs : List Value) (hs : ac.eval s = .slice a n c) (hown : w.ownsRow B 24 1 (.slice a n c) n vs)
  (ad : Addr) (cc : Nat) (y : Option Addr) (yn yc : Nat) (hx : ac.eval x = .slice (some ad) 1 cc) (hc : w.cell? ad = some (.slice y yn yc))
  (hsum : n + 1 ≤ 1000000) (hbase : B ≤ w.heap.size)
  (h : ∀ g c' w', w'.ownsRow B 24 1 (.slice (some ⟨g, 0, none⟩) (n + 1) c') (n + 1) (vs ++ [.slice y yn yc]) → Below B w w' → w.grownBy w' (a.map (·.block)) → (a.map (·.block) = some g ∨ g = w.heap.size) → g < w'.heap.size → wpList Tryz.prog ops Q rest (ac.put o.dst (.slice (some ⟨g, 0, none⟩) (n + 1) c')) w') : wpList Tryz.prog ops Q (o :: rest) ac w := by
 obtain ⟨i0, hi, hz0, hz1, hz2⟩ := info_parts info_ints
 refine wpList_append_lies w hgd s x 58 ho B 24 i0 (.slice none 0 0) 1 24 Tryz.underlying58 hi hz0 hz1 hz2 rfl (by decide) (.slice a n c) n vs hs hown ad 1 cc [Value.slice y yn yc] hx (by simp) ?_ (by intro u hu; simp at hu; rw [hu]; rfl) (by decide) (by unfold maxLen; omega) (by omega) hbase _ rfl ?_
 ·intro j u hj
  have hjl : j = 0 := by
   have := (List.getElem?_eq_some_iff.1 hj).1
   simp at this; omega
  subst hjl
  have e1 : Addr.add ad 0 = ad := by cases ad; rfl
  rw [e1, hc]
  simpa using hj
 ·intro g cap w' h1 h2 h3 h4
  rw [slice_blk] at h2 h3
  refine h g cap w' h1 ((Below.refl _ _).grown h2 hbase fun k hk => ?_) h2 h3 h4
  obtain ⟨q1, q2⟩ := hown
  rcases q2 with ⟨q2, _⟩ | ⟨g', cap', cur, q3, q4, q5, q6⟩
  ·cases q2
   cases hk
  ·cases q3
   cases hk
   exact q4
end Go.Proofs.YtmfgjicfdjjihaaGreatDoor
