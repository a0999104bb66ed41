/- Texts joined: CkQ -/
import Derived.Test.YtgppfkbapieneaaDoorChx28
namespace Go.Proofs.YtgppfkbapieneaaDoor
open Go.RowKit
set_option linter.unusedVariables false
set_option linter.unusedSimpArgs false
set_option maxRecDepth 100000 in
set_option maxHeartbeats 16000000 in
theorem cut_wrong (a : Option Addr) (c : Nat) (l : List Rl) (d : Nat) (w : World) (hT : Top w) (hl : l.length ≤ 64) (hrow : RowR w a l) (hd : d < 7) (hall : Hid (∃ r ∈ l, r.right = false)) :
    Calls Tryd.prog 10 #[.slice a l.length c, .int .i64 (d : Int)] w fun e w' => e = .returned (.tuple #[.agg zc, .int .i64 1]) ∧ Below w.heap.size w w' := by
  have K := hidW (fun W => rightDim_any (d : Int) W)
  have hf : (decide (0 ≤ (d : Int)) && decide ((d : Int) < 7)) = true := by simp; omega
  rw [hf] at K
  have KR : Hid (∀ (r : Rl), r.ok → ∀ W, Calls Tryd.prog 26 #[.agg r.v] W fun e w' => e = .returned (.bool r.right) ∧ Below W.heap.size W w') := fun r ho W => rightRule_any r W ho
  have KP : Hid (∀ (r : Rl), r.ok → r.right = true → ∀ W, Top W → Calls Tryd.prog 27 #[.agg r.v, .int .i64 (d : Int)] W fun e w' => e = .returned (.agg (pqv (r.fst_ d, r.lst_ d))) ∧ Below W.heap.size W w') := fun r ho hr W hT => pieceOf_any r d hd W hT ho hr
  have hsr : Hid (∀ r : Rl, (Tryd.prog.info? 55).map (·.size) = some r.v.size) := info_rl
  have HSTR : Hid (∀ (W : World) (r : Rl), (Instr.storeAt 55 (.pointer (some ⟨W.heap.size, 0, none⟩)) (.agg r.v)).run Tryd.prog (W.alloc (.cells z17 55)) = .ok () (W.alloc (.cells r.v 55))) := store_rl
  obtain ⟨N, hN⟩ : ∃ N, l.length = N := ⟨_, rfl⟩
  have HN : Hid (l.length = N) := hN
  have HRow : Hid (RowR w a l) := hrow
  have HT : Hid (Top w) := hT
  rw [hN] at hl ⊢
  clear hN hrow hT hf
  have hl64 : ¬ (64 : Int) < (N : Int) := by omega
  have B0 := blk_new w zc 27
  obtain ⟨W1, hW1⟩ : ∃ W1, w.alloc (.cells zc 27) = W1 := ⟨_, rfl⟩
  have b1 := bel_nw hW1
  rw [hW1] at B0
  have HG6 : Hid (w.heap.size < W1.heap.size) := B0.lt
  go_enter Tryd.func10, Tryd.ntmps10
  go_wp2_with fail
  refine Calls.mono (K.out _) ?_
  rintro e W1' ⟨rfl, e1⟩
  rw [e1]
  clear e1
  go_wp2_with (refine wpList_makeC _ rfl _ _ rfl _ _ N (by rfl) (by rfl) (by omega) ?_)
  intro cur0 hc0
  obtain ⟨W2, hW2⟩ : ∃ W2, W1.alloc (.cells cur0 65) = W2 := ⟨_, rfl⟩
  have b2 := bel_al b1 hW2
  have B2 := B0.al hW2
  have P2 := blk_nw hW2
  have F0 : Hid (Filled cur0 (pcs l d) 0) := ⟨by rw [hc0]; unfold pcs; rw [List.length_map, HN.out], fun i q j hi => by omega⟩
  rw [hW2]
  clear hW1 hW2 b1 B0
  go_wp2_with fail
  go_loopw [27] (fun i wr => ∃ (n : Nat) (cur : Array Value), n ≤ N ∧ i = .int .i64 n ∧ Hid (Filled cur (pcs l d) n) ∧ Blk wr W1.heap.size 65 cur ∧ Blk wr w.heap.size 27 zc ∧ Below w.heap.size w wr ∧ Hid (∀ (j : Nat) (q : Rl), j < n → l[j]? = some q → q.right = true)) (fun i _ => N - (intOf i).toNat)
  case atStart => exact ⟨0, cur0, Nat.zero_le _, rfl, F0, P2, B2, b2, fun j q hj => by omega⟩
  case round =>
    clear P2 B2 b2 F0 hc0
    obtain ⟨n, cur, hn, rfl, FI, PB, RB, bw, HJ⟩ := hrel
    by_cases hlt : n < N
    · have ik : (n : Int) < (N : Int) := by omega
      have in0 : (0 : Int) ≤ (n : Int) := by omega
      have hw1 : IntKind.i64.wrap ((n : Int) + 1) = ((n + 1 : Nat) : Int) := by simp [IntKind.wrap, IntKind.bits, IntKind.signed]; omega
      obtain ⟨r, hr⟩ : ∃ r, l[n]? = some r := ⟨_, List.getElem?_eq_getElem (by rw [HN.out]; exact hlt)⟩
      have HR : Hid (l[n]? = some r) := hr
      have HRO : Hid r.ok := HRow.out.each r (List.mem_of_getElem? hr)
      have HRW : Hid (RowR wr a l) := HRow.out.low bw
      obtain ⟨b, off, ha, hc⟩ := HRW.out.cells n r hr
      have hs1 := hsr.out r
      have hst := HSTR.out wr r
      have KR' : Hid _ := KR.out r HRO.out
      clear hr
      subst ha
      obtain ⟨RA, hRA⟩ : ∃ RA, r.v = RA := ⟨_, rfl⟩
      rw [hRA] at hs1 hc hst KR'
      have HRA : Hid (r.v = RA) := hRA
      clear hRA
      have hB := blk_new wr RA 55
      obtain ⟨W3, hW3⟩ : ∃ W3, wr.alloc (.cells RA 55) = W3 := ⟨_, rfl⟩
      have b3 := bel_nw hW3
      have bw3 := bel_tr bw b3
      have PB3 := PB.al hW3
      have RB3 := RB.al hW3
      rw [hW3] at hB hst
      have HW3 : Hid (wr.alloc (.cells RA 55) = W3) := hW3
      clear hW3 PB RB
      go_wp2_with (first
        | (refine wpList_load_at rfl _ _ rfl b (off + n * 17) (by rfl) _ hc Tryd.underlying55 hs1 ?_)
        | (refine wpList_store_new _ _ rfl _ _ _ rfl _ _ rfl rfl hst ?_)
        | (refine wpList_load_at rfl _ _ rfl _ 0 (by rfl) _ hB.at_ Tryd.underlying55 hs1 ?_))
      refine (KR'.out _).mono ?_
      rintro e W4 ⟨rfl, b34⟩
      have bw4 := bel_tr bw3 b34
      have PB4 := PB3.kept b34
      have RB4 := RB3.kept b34
      have hB4 := hB.kept b34
      clear KR' hc hst hB PB3 RB3 b34 bw3 b3
      cases hrr : r.right with
      | false =>
        go_wp2_with (refine wpList_st rfl 27 _ _ rfl w.heap.size zc zc (by rfl) (by rfl) RB4 (by kernel_rfl) rfl (by kernel_rfl) ?_)
        refine ret_cell_tmp (k := 4) (j := 5) Tryd.f10 (by kernel_rfl) (RB4.set zc) Tryd.underlying27 (by kernel_rfl) (by rfl) (by rfl) rfl ⟨rfl, below_setRow bw4 (Nat.le_refl _) _⟩
      | true =>
        have HRR : Hid (r.right = true) := hrr
        have HJ' : Hid (∀ (j : Nat) (q : Rl), j < n + 1 → l[j]? = some q → q.right = true) := fun j q hj hq => by
          by_cases e : j = n
          · subst e
            rw [HR.out] at hq
            cases hq
            exact HRR.out
          · exact HJ.out j q (by omega) hq
        clear HJ hrr
        have KP' : Hid _ := KP.out r HRO.out HRR.out
        rw [HRA.out] at KP'
        obtain ⟨q, hq⟩ : ∃ q, (r.fst_ d, r.lst_ d) = q := ⟨_, rfl⟩
        have HQ : Hid ((pcs l d)[n]? = some q) := by
          show _ = _
          unfold pcs
          rw [List.getElem?_map, HR.out, ← hq]
          rfl
        rw [hq] at KP'
        clear hq
        have HT4 : Hid (Top W4) := HT.out.below bw4
        have hsz : n * 6 + (pqv q).size ≤ cur.size := by
          have := FI.out.1
          have h2 : (pcs l d).length = N := by unfold pcs; rw [List.length_map, HN.out]
          simp only [List.size_toArray, List.length_cons, List.length_nil]
          omega
        have hsq : Hid ((Tryd.prog.info? 65).map (·.size) = some (pqv q).size) := by show _ = _; kernel_rfl
        have hall1 : Hid ((pqv q).all (·.oneCell') = true) := by show _ = _; kernel_rfl
        go_wp2_with (first
          | (refine wpList_load_at rfl _ _ rfl _ 0 (by rfl) _ hB4.at_ Tryd.underlying55 hs1 ?_))
        refine (KP'.out _ HT4.out).mono ?_
        rintro e W5 ⟨rfl, b45⟩
        have bw5 := bel_tr bw4 b45
        have PB5 := PB4.kept b45
        have RB5 := RB4.kept b45
        clear KP' b45 PB4 RB4 hB4 bw4
        have FI' : Hid (Filled (setMany cur (n * 6) (pqv q).toList) (pcs l d) (n + 1)) := FI.out.put HQ.out
        have PB6 := PB5.set (setMany cur (n * 6) (pqv q).toList)
        have RB6 := RB5.other (Nat.ne_of_lt HG6.out) (setMany cur (n * 6) (pqv q).toList)
        have bw6 := below_setRow bw5 (Nat.le_of_lt HG6.out) (setMany cur (n * 6) (pqv q).toList)
        obtain ⟨QA, hQA⟩ : ∃ QA, pqv q = QA := ⟨_, rfl⟩
        have hsq' := hsq.out
        have hall1' := hall1.out
        rw [hQA] at hsz FI' PB6 RB6 bw6 hsq' hall1' ⊢
        clear hQA FI
        go_wp2_with (refine wpList_store_off rfl 65 _ _ rfl W1.heap.size (n * 6) 65 QA cur _ (by rfl) (by rfl) PB5 hsq' hsz hall1' rfl ?_)
        exact ⟨⟨n + 1, _, by omega, by first | rfl | (congr 1), FI', PB6, RB6, bw6, HJ'⟩, by simp only [intOf]; omega⟩
    · exfalso
      obtain ⟨r, hr, hf⟩ := hall.out
      obtain ⟨j, hj⟩ := List.getElem?_of_mem hr
      have hjl : j < l.length := (List.getElem?_eq_some_iff.1 hj).1
      have := HJ.out j r (by have := HN.out; omega) hj
      rw [hf] at this
      cases this
end Go.Proofs.YtgppfkbapieneaaDoor
