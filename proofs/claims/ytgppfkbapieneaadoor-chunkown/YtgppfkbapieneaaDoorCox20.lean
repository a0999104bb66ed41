/- Texts joined: CkL -/
import Derived.Test.YtgppfkbapieneaaDoorCox19
namespace Go.Proofs.YtgppfkbapieneaaDoor
open Go.RowKit
set_option linter.unusedVariables false
set_option linter.unusedSimpArgs false
def rawS (q : Pt × Pt) : List Pt := q.1 :: (if q.2 = ptTop then [] else [q.2.next])
def rawN (l : List (Pt × Pt)) (n : Nat) : List Pt := pt0 :: (l.take n).flatMap rawS
def rawC (l : List (Pt × Pt)) : List Pt := pt0 :: l.flatMap rawS
theorem rawN_succ (l : List (Pt × Pt)) {n : Nat} {q : Pt × Pt} (h : l[n]? = some q) : rawN l (n + 1) = rawN l n ++ rawS q := by
  unfold rawN
  rw [List.take_add_one, h]
  simp
theorem rawS_len (q : Pt × Pt) : (rawS q).length ≤ 2 := by unfold rawS; split <;> simp
theorem rawN_len (l : List (Pt × Pt)) : ∀ n, n ≤ l.length → (rawN l n).length ≤ 2 * n + 1
  | 0, _ => by simp [rawN]
  | n + 1, h => by
    obtain ⟨q, hq⟩ : ∃ q, l[n]? = some q := ⟨_, List.getElem?_eq_getElem (by omega)⟩
    have := rawN_len l n (by omega)
    have h2 := rawS_len q
    rw [rawN_succ l hq, List.length_append]
    omega
theorem own_one (w : World) (B : Nat) (p : Pt) (hB : B ≤ w.heap.size) : OwnP (w.alloc (.cells p.v 42)) B (some ⟨w.heap.size, 0, none⟩) 1 [p] :=
  OwnP.mk' (blk_new w p.v 42) rfl hB (Nat.le_refl _) (by decide) (fun i q j hi hj => by
    have h0 : i = 0 := by
      have := (List.getElem?_eq_some_iff.1 hi).1
      simp at this
      omega
    subst h0
    cases hi
    simp)
theorem raw_ok {l : List (Pt × Pt)} (hl : ∀ q ∈ l, q.1.ok ∧ q.2.ok) (ha : ∀ q ∈ l, q.2 = ptTop ∨ q.2.a ≤ 1000) : ∀ p ∈ rawC l, p.ok := by
  intro p hp
  unfold rawC at hp
  rcases List.mem_cons.1 hp with rfl | hp
  · exact pt0_ok
  · obtain ⟨q, hq, hp⟩ := List.mem_flatMap.1 hp
    unfold rawS at hp
    rcases List.mem_cons.1 hp with rfl | hp
    · exact (hl q hq).1
    · split at hp
      · cases hp
      · rename_i hne
        simp only [List.mem_singleton] at hp
        subst hp
        rcases ha q hq with e | e
        · exact absurd e hne
        · exact Pt.next_ok (hl q hq).2 e
set_option maxRecDepth 100000 in
set_option maxHeartbeats 8000000 in
theorem starts_any (a : Option Addr) (c : Nat) (l : List (Pt × Pt)) (w : World) (hT : Top w) (hl : l.length ≤ 1000) (hrow : RowC w a l) (ha : ∀ q ∈ l, q.2 = ptTop ∨ q.2.a ≤ 1000) :
    Calls Tryd.prog 28 #[.slice a l.length c] w fun e w' => ∃ g c' L, e = .returned (.slice (some ⟨g, 0, none⟩) L.length c') ∧ OwnP w' w.heap.size (some ⟨g, 0, none⟩) c' L ∧ (L.Pairwise fun p q => p.n < q.n) ∧ (∀ p, p ∈ L ↔ p ∈ rawC l) ∧ L.length ≤ 2 * l.length + 1 ∧ Below w.heap.size w w' := by
  have HOK : Hid (∀ p ∈ rawC l, p.ok) := raw_ok hrow.each ha
  have HA : Hid (∀ q ∈ l, q.2 = ptTop ∨ q.2.a ≤ 1000) := ha
  have HST : Hid (∀ W : World, ∀ q : Pt × Pt, (Instr.storeAt 65 (.pointer (some ⟨W.heap.size, 0, none⟩)) (.agg (pqv q))).run Tryd.prog (W.alloc (.cells z6 65)) = .ok () (W.alloc (.cells (pqv q) 65))) := fun W q => run_storeAt_new (P := Tryd.prog) W 65 z6 (pqv q) (by kernel_rfl) rfl (by kernel_rfl)
  have hsz : Hid (∀ q : Pt × Pt, (Tryd.prog.info? 65).map (·.size) = some (pqv q).size) := fun q => by kernel_rfl
  obtain ⟨N, hN⟩ : ∃ N, l.length = N := ⟨_, rfl⟩
  have HN : Hid (l.length = N) := hN
  have HRow : Hid (RowC w a l) := hrow
  have HT : Hid (Top w) := hT
  have HR : Hid (rawN l N = rawC l) := by show _ = _; unfold rawN rawC; rw [← hN, List.take_length]
  rw [hN] at hl ⊢
  clear hN hrow hT ha
  have O1 : Hid (OwnP (w.alloc (.cells z3 42)) w.heap.size (some ⟨w.heap.size, 0, none⟩) 1 [pt0]) := own_one w w.heap.size pt0 (Nat.le_refl _)
  have bel : Below w.heap.size w (w.alloc (.cells z3 42)) := bel_nw rfl
  go_enter Tryd.func28, Tryd.ntmps28
  go_wp2_with fail
  go_loopw [3, 10] (fun k3 i wr => ∃ (n g kc : Nat), n ≤ N ∧ i = .int .i64 n ∧ k3 = .slice (some ⟨g, 0, none⟩) (rawN l n).length kc ∧ Hid (OwnP wr w.heap.size (some ⟨g, 0, none⟩) kc (rawN l n)) ∧ Below w.heap.size w wr) (fun _ i _ => N - (intOf i).toNat)
  case atStart => exact ⟨0, w.heap.size, 1, Nat.zero_le _, rfl, rfl, O1, bel⟩
  case round =>
    obtain ⟨n, g, kc, hn, rfl, rfl, HK, bw⟩ := hrel
    have hkl := rawN_len l n (by rw [HN.out]; exact hn)
    obtain ⟨xs, hxs⟩ : ∃ xs, rawN l n = xs := ⟨_, rfl⟩
    have HXS : Hid (rawN l n = xs) := hxs
    rw [hxs] at HK hkl ⊢
    clear hxs
    by_cases hlt : n < N
    · have ik : (n : Int) < (N : Int) := by omega
      have in0 : (0 : Int) ≤ (n : Int) := by omega
      obtain ⟨q, hq⟩ : ∃ q, l[n]? = some q := ⟨_, List.getElem?_eq_getElem (by rw [HN.out]; exact hlt)⟩
      have HQ : Hid (l[n]? = some q) := hq
      have HQA : Hid (q.2 = ptTop ∨ q.2.a ≤ 1000) := HA.out q (List.mem_of_getElem? hq)
      have HQO : Hid (q.1.ok ∧ q.2.ok) := HRow.out.each q (List.mem_of_getElem? hq)
      have HRW : Hid (RowC wr a l) := HRow.out.low bw
      obtain ⟨b, off, ha', hc⟩ := HRW.out.cells n q hq
      have hs1 := hsz.out q
      have hst := HST.out wr q
      clear hq
      subst ha'
      have hw1 : IntKind.i64.wrap ((n : Int) + 1) = ((n + 1 : Nat) : Int) := by simp [IntKind.wrap, IntKind.bits, IntKind.signed]; omega
      obtain ⟨⟨pa, pb, pc⟩, ⟨qa, qb, qc⟩⟩ := q
      obtain ⟨RA, hRA⟩ : ∃ RA, pqv (⟨pa, pb, pc⟩, ⟨qa, qb, qc⟩) = RA := ⟨_, rfl⟩
      rw [hRA] at hs1 hc hst
      have hB := blk_new wr RA 65
      obtain ⟨W2, hW2⟩ : ∃ W2, wr.alloc (.cells RA 65) = W2 := ⟨_, rfl⟩
      have b2 : Below wr.heap.size wr W2 := bel_nw hW2
      have bw2 := bel_tr bw b2
      rw [hW2] at hB hst
      have hB' : Blk W2 wr.heap.size 65 (pqv (⟨pa, pb, pc⟩, ⟨qa, qb, qc⟩)) := by rw [hRA]; exact hB
      have p0 := hB'.cell 0 (.int .u64 pa) rfl
      have p1 := hB'.cell 1 (.int .u64 pb) rfl
      have p2 := hB'.cell 2 (.int .u64 pc) rfl
      have HK2 : Hid (OwnP W2 w.heap.size (some ⟨g, 0, none⟩) kc xs) := HK.out.below b2
      have HBB : Hid (Blk W2 wr.heap.size 65 (pqv (⟨pa, pb, pc⟩, ⟨qa, qb, qc⟩))) := hB'
      have hcell : CellsAt (W2.alloc (.cells #[.int .u64 pa, .int .u64 pb, .int .u64 pc] 42)) W2.heap.size 0 (Pt.v ⟨pa, pb, pc⟩) := (blk_new W2 _ _).at_
      have hk3 : OwnP (W2.alloc (.cells #[.int .u64 pa, .int .u64 pb, .int .u64 pc] 42)) w.heap.size (some ⟨g, 0, none⟩) kc xs := HK2.out.below (bel_nw rfl)
      have hbase : w.heap.size ≤ (W2.alloc (.cells #[.int .u64 pa, .int .u64 pb, .int .u64 pc] 42)).heap.size := by
        have := bw2.size
        rw [World.size_alloc]
        omega
      have HW2 : Hid (wr.alloc (.cells RA 65) = W2) := hW2
      clear hB hB' hRA hW2
      go_wp2_with (first
        | (refine wpList_load_at rfl _ _ rfl b (off + n * 6) (by rfl) _ hc Tryd.underlying65 hs1 ?_)
        | (refine wpList_store_new _ _ rfl _ _ _ rfl _ _ rfl rfl hst ?_)
        | (at_builtin; refine wpList_appP _ rfl _ _ rfl w.heap.size (some ⟨g, 0, none⟩) kc xs rfl hk3 W2.heap.size 1 ⟨pa, pb, pc⟩ rfl hcell (by omega) hbase ?_))
      intro g2 c2 W3 O3 b3 gr3
      have HO3 : Hid (OwnP W3 w.heap.size (some ⟨g2, 0, none⟩) c2 (xs ++ [⟨pa, pb, pc⟩])) := O3
      have HB3 : Hid (Blk W3 wr.heap.size 65 (pqv (⟨pa, pb, pc⟩, ⟨qa, qb, qc⟩))) := (HBB.out.alloc _).far gr3 (by
        obtain ⟨cur, hb, _⟩ := HK.out.blk
        have := hb.lt
        simp only [Option.map_some, ne_eq, Option.some.injEq]
        omega)
      have bw3 : Below w.heap.size w W3 := (bel_al bw2 rfl).trans b3
      have HT3 : Hid (Top W3) := HT.out.below bw3
      have HLX : Hid ((xs ++ [(⟨pa, pb, pc⟩ : Pt)]).length = xs.length + 1) := by show _ = _; simp
      have q0 := HB3.out.cell 3 (.int .u64 qa) rfl
      have q1 := HB3.out.cell 4 (.int .u64 qb) rfl
      have q2 := HB3.out.cell 5 (.int .u64 qc) rfl
      have t0 := HT3.out.c0
      have t1 := HT3.out.c1
      have t2 := HT3.out.c2
      clear O3 b3 gr3 hk3 hcell hbase p0 p1 p2 hc hst
      by_cases hq2 : (⟨qa, qb, qc⟩ : Pt) = ptTop
      · have HRS : Hid (rawN l (n + 1) = xs ++ [⟨pa, pb, pc⟩]) := by
          show _ = _
          rw [rawN_succ l HQ.out, HXS.out]
          unfold rawS
          simp only
          rw [if_pos hq2]
        unfold ptTop at hq2
        cases hq2
        go_wp2
        refine ⟨⟨n + 1, g2, c2, by omega, by first | rfl | (congr 1), ?_, ?_, bw3⟩, by simp only [intOf]; omega⟩
        · rw [HRS.out, HLX.out]
        · rw [HRS.out]; exact HO3
      · have hqa : qa ≤ 1000 := by
          rcases HQA.out with e | e
          · exact absurd e hq2
          · exact e
        have hqne : (qa == 18446744073709551615) = false := by rw [beq_eq_false_iff_ne]; omega
        have HRS : Hid (rawN l (n + 1) = xs ++ [⟨pa, pb, pc⟩] ++ [Pt.next ⟨qa, qb, qc⟩]) := by
          show _ = _
          rw [rawN_succ l HQ.out, HXS.out]
          unfold rawS
          simp only
          rw [if_neg hq2]
          simp
        have KB : Hid _ := behind_pt ⟨qa, qb, qc⟩ W3 HQO.out.2 (by simp only; omega)
        obtain ⟨nx, hnx⟩ : ∃ nx, Pt.next ⟨qa, qb, qc⟩ = nx := ⟨_, rfl⟩
        rw [hnx] at HRS KB
        clear hnx hq2
        go_wp2_with fail
        refine Calls.mono KB.out ?_
        rintro e W4 ⟨rfl, b34⟩
        have bw4 := bel_tr bw3 b34
        obtain ⟨na, nb, nc⟩ := nx
        obtain ⟨ys, hys⟩ : ∃ ys, xs ++ [(⟨pa, pb, pc⟩ : Pt)] = ys := ⟨_, rfl⟩
        have HYL : Hid (xs.length + 1 = ys.length) := by show _ = _; rw [← hys, HLX.out]
        rw [hys] at HO3 HRS
        clear hys KB q0 q1 q2 t0 t1 t2
        have hyl : ys.length ≤ 4000 := by rw [← HYL.out]; omega
        have HO4 : Hid (OwnP W4 w.heap.size (some ⟨g2, 0, none⟩) c2 ys) := HO3.out.below b34
        have hcell : CellsAt (W4.alloc (.cells #[.int .u64 na, .int .u64 nb, .int .u64 nc] 42)) W4.heap.size 0 (Pt.v ⟨na, nb, nc⟩) := (blk_new W4 _ _).at_
        have hk3 : OwnP (W4.alloc (.cells #[.int .u64 na, .int .u64 nb, .int .u64 nc] 42)) w.heap.size (some ⟨g2, 0, none⟩) c2 ys := HO4.out.below (bel_nw rfl)
        have hbase : w.heap.size ≤ (W4.alloc (.cells #[.int .u64 na, .int .u64 nb, .int .u64 nc] 42)).heap.size := by
          have := bw4.size
          rw [World.size_alloc]
          omega
        rw [HYL.out]
        go_wp2_with (at_builtin; refine wpList_appP _ rfl _ _ rfl w.heap.size (some ⟨g2, 0, none⟩) c2 ys rfl hk3 W4.heap.size 1 ⟨na, nb, nc⟩ rfl hcell (by omega) hbase ?_)
        intro g5 c5 W5 O5 b5 gr5
        have HO5 : Hid (OwnP W5 w.heap.size (some ⟨g5, 0, none⟩) c5 (ys ++ [⟨na, nb, nc⟩])) := O5
        have bw5 : Below w.heap.size w W5 := (bel_al bw4 rfl).trans b5
        clear O5 b5 gr5 hk3 hcell hbase
        go_wp2
        refine ⟨⟨n + 1, g5, c5, by omega, by first | rfl | (congr 1), ?_, ?_, bw5⟩, by simp only [intOf]; omega⟩
        · rw [HRS.out]; simp
        · rw [HRS.out]; exact HO5
    · have hnN : n = N := by omega
      subst hnN
      have ex : xs = rawC l := by rw [← HXS.out]; exact HR.out
      have HEX : Hid (xs = rawC l) := ex
      clear ex
      have hok : ∀ p ∈ xs, p.ok := by rw [HEX.out]; exact HOK.out
      have HKS : Hid _ := sort_pts wr w.heap.size g kc xs HK.out bw.size hok (by omega)
      clear hok
      go_wp2_with fail
      refine Calls.mono HKS.out ?_
      rintro e W2 ⟨rfl, l2, hperm, hsort, O2, b2⟩
      have bw2 : Below w.heap.size w W2 := bw.trans b2
      have hl2 : l2.length = xs.length := hperm.length_eq
      have HKC : Hid _ := compact_any W2 w.heap.size g kc l2 O2 bw2.size (by omega)
      have HL2 : Hid (l2.length = xs.length) := hl2
      have HOK2 : Hid (∀ p ∈ l2, p.ok) := fun p hp => HOK.out p (by rw [← HEX.out]; exact hperm.mem_iff.1 hp)
      have HSO : Hid ((ddL l2).Pairwise fun p q => p.n < q.n) := ddN_sorted l2 HOK2.out hsort _ (Nat.le_refl _)
      have HME : Hid (∀ p, p ∈ ddL l2 ↔ p ∈ rawC l) := fun p => by
        show p ∈ ddN l2 l2.length ↔ _
        rw [ddN_mem l2 _ (Nat.le_refl _), List.take_length, hperm.mem_iff, HEX.out]
      have HLE : Hid ((ddL l2).length ≤ 2 * n + 1) := by
        have := ddN_len l2 l2.length
        show (ddN l2 l2.length).length ≤ _
        omega
      rw [hl2] at HKC
      clear hperm hsort O2 hl2 HKS
      go_wp2_with fail
      refine Calls.mono HKC.out ?_
      rintro e W3 ⟨rfl, O3, b3⟩
      have HO3 : Hid (OwnP W3 w.heap.size (some ⟨g, 0, none⟩) kc (ddL l2)) := O3
      have bw3 : Below w.heap.size w W3 := bw2.trans b3
      clear O3 HKC
      go_wp2
      go_ret
      exact ⟨g, kc, ddL l2, rfl, HO3.out, HSO.out, HME.out, HLE.out, bw3⟩
end Go.Proofs.YtgppfkbapieneaaDoor
