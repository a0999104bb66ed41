/- Texts joined: CkQ CkR -/
import Derived.Test.YtmfgjicfdjjihaaGreatDoorLxa14
namespace Go.Proofs.YtmfgjicfdjjihaaGreatDoor
open Go.RowKit
set_option linter.unusedVariables false
set_option linter.unusedSimpArgs false
set_option maxRecDepth 100000 in
set_option maxHeartbeats 16000000 in
theorem cut_wrong (a : Option Addr) (c : Nat) (l : List Rl) (d : Nat) (w : World) (hT : Top w) (hl : l.length ≤ 64) (hrow : RowR w a l) (hd : d < 7) (hall : Hid (∃ r ∈ l, r.right = false)) :
  Calls Tryz.prog 34 #[.slice a l.length c, .int .i64 (d : Int)] w fun e w' => e = .returned (.tuple #[.agg zc, .int .i64 1]) ∧ Below w.heap.size w w' := by
 have K := hidW (fun W => rightDim_any (d : Int) W)
 have hf : (decide (0 ≤ (d : Int)) && decide ((d : Int) < 7)) = true := by simp; omega
 rw [hf] at K
 have KR : Hid (∀ (r : Rl), r.ok → ∀ W, Calls Tryz.prog 60 #[.agg r.v] W fun e w' => e = .returned (.bool r.right) ∧ Below W.heap.size W w') := fun r ho W => rightRule_any r W ho
 have KP : Hid (∀ (r : Rl), r.ok → r.right = true → ∀ W, Top W → Calls Tryz.prog 61 #[.agg r.v, .int .i64 (d : Int)] W fun e w' => e = .returned (.agg (pqv (r.fst_ d, r.lst_ d))) ∧ Below W.heap.size W w') := fun r ho hr W hT => pieceOf_any r d hd W hT ho hr
 have hsr : Hid (∀ r : Rl, (Tryz.prog.info? 82).map (·.size) = some r.v.size) := info_rl
 have HSTR : Hid (∀ (W : World) (r : Rl), (Instr.storeAt 82 (.pointer (some ⟨W.heap.size, 0, none⟩)) (.agg r.v)).run Tryz.prog (W.alloc (.cells z17 82)) = .ok () (W.alloc (.cells r.v 82))) := store_rl
 obtain ⟨N, hN⟩ : ∃ N, l.length = N := ⟨_, rfl⟩
 have HN : Hid (l.length = N) := hN
 have HRow : Hid (RowR w a l) := hrow
 have HT : Hid (Top w) := hT
 rw [hN] at hl ⊢
 clear hN hrow hT hf
 have hl64 : ¬ (64 : Int) < (N : Int) := by omega
 have B0 := blk_new w zc 63
 obtain ⟨W1, hW1⟩ : ∃ W1, w.alloc (.cells zc 63) = W1 := ⟨_, rfl⟩
 have b1 := bel_nw hW1
 rw [hW1] at B0
 have HG6 : Hid (w.heap.size < W1.heap.size) := B0.lt
 go_enter Tryz.func34, Tryz.ntmps34
 go_wp2_with fail
 refine Calls.mono (K.out _) ?_
 rintro e W1' ⟨rfl, e1⟩
 rw [e1]
 clear e1
 go_wp2_with (refine wpList_makeC _ rfl _ _ rfl _ _ N (by rfl) (by rfl) (by omega) ?_)
 intro cur0 hc0
 obtain ⟨W2, hW2⟩ : ∃ W2, W1.alloc (.cells cur0 121) = W2 := ⟨_, rfl⟩
 have b2 := bel_al b1 hW2
 have B2 := B0.al hW2
 have P2 := blk_nw hW2
 have F0 : Hid (Filled cur0 (pcs l d) 0) := ⟨by rw [hc0]; unfold pcs; rw [List.length_map, HN.out], fun i q j hi => by omega⟩
 rw [hW2]
 clear hW1 hW2 b1 B0
 go_wp2_with fail
 go_loopw [27] (fun i wr => ∃ (n : Nat) (cur : Array Value), n ≤ N ∧ i = .int .i64 n ∧ Hid (Filled cur (pcs l d) n) ∧ Blk wr W1.heap.size 121 cur ∧ Blk wr w.heap.size 63 zc ∧ Below w.heap.size w wr ∧ Hid (∀ (j : Nat) (q : Rl), j < n → l[j]? = some q → q.right = true)) (fun i _ => N - (intOf i).toNat)
 case atStart => exact ⟨0, cur0, Nat.zero_le _, rfl, F0, P2, B2, b2, fun j q hj => by omega⟩
 case round =>
  clear P2 B2 b2 F0 hc0
  obtain ⟨n, cur, hn, rfl, FI, PB, RB, bw, HJ⟩ := hrel
  by_cases hlt : n < N
  ·have ik : (n : Int) < (N : Int) := by omega
   have in0 : (0 : Int) ≤ (n : Int) := by omega
   have hw1 : IntKind.i64.wrap ((n : Int) + 1) = ((n + 1 : Nat) : Int) := by simp [IntKind.wrap, IntKind.bits, IntKind.signed]; omega
   obtain ⟨r, hr⟩ : ∃ r, l[n]? = some r := ⟨_, List.getElem?_eq_getElem (by rw [HN.out]; exact hlt)⟩
   have HR : Hid (l[n]? = some r) := hr
   have HRO : Hid r.ok := HRow.out.each r (List.mem_of_getElem? hr)
   have HRW : Hid (RowR wr a l) := HRow.out.low bw
   obtain ⟨b, off, ha, hc⟩ := HRW.out.cells n r hr
   have hs1 := hsr.out r
   have hst := HSTR.out wr r
   have KR' : Hid _ := KR.out r HRO.out
   clear hr
   subst ha
   obtain ⟨RA, hRA⟩ : ∃ RA, r.v = RA := ⟨_, rfl⟩
   rw [hRA] at hs1 hc hst KR'
   have HRA : Hid (r.v = RA) := hRA
   clear hRA
   have hB := blk_new wr RA 82
   obtain ⟨W3, hW3⟩ : ∃ W3, wr.alloc (.cells RA 82) = W3 := ⟨_, rfl⟩
   have b3 := bel_nw hW3
   have bw3 := bel_tr bw b3
   have PB3 := PB.al hW3
   have RB3 := RB.al hW3
   rw [hW3] at hB hst
   have HW3 : Hid (wr.alloc (.cells RA 82) = W3) := hW3
   clear hW3 PB RB
   go_wp2_with (first
    | (refine wpList_load_at rfl _ _ rfl b (off + n * 17) (by rfl) _ hc Tryz.underlying82 hs1 ?_)
    | (refine wpList_store_new _ _ rfl _ _ _ rfl _ _ rfl rfl hst ?_)
    | (refine wpList_load_at rfl _ _ rfl _ 0 (by rfl) _ hB.at_ Tryz.underlying82 hs1 ?_))
   refine (KR'.out _).mono ?_
   rintro e W4 ⟨rfl, b34⟩
   have bw4 := bel_tr bw3 b34
   have PB4 := PB3.kept b34
   have RB4 := RB3.kept b34
   have hB4 := hB.kept b34
   clear KR' hc hst hB PB3 RB3 b34 bw3 b3
   cases hrr : r.right with
   | false =>
    go_wp2_with (refine wpList_st rfl 63 _ _ rfl w.heap.size zc zc (by rfl) (by rfl) RB4 (by kernel_rfl) rfl (by kernel_rfl) ?_)
    refine ret_cell_tmp (k := 4) (j := 5) Tryz.f34 (by kernel_rfl) (RB4.set zc) Tryz.underlying63 (by kernel_rfl) (by rfl) (by rfl) rfl ⟨rfl, below_setRow bw4 (Nat.le_refl _) _⟩
   | true =>
    have HRR : Hid (r.right = true) := hrr
    have HJ' : Hid (∀ (j : Nat) (q : Rl), j < n + 1 → l[j]? = some q → q.right = true) := fun j q hj hq => by
     by_cases e : j = n
     ·subst e
      rw [HR.out] at hq
      cases hq
      exact HRR.out
     ·exact HJ.out j q (by omega) hq
    clear HJ hrr
    have KP' : Hid _ := KP.out r HRO.out HRR.out
    rw [HRA.out] at KP'
    obtain ⟨q, hq⟩ : ∃ q, (r.fst_ d, r.lst_ d) = q := ⟨_, rfl⟩
    have HQ : Hid ((pcs l d)[n]? = some q) := by
     show _ = _
     unfold pcs
     rw [List.getElem?_map, HR.out, ← hq]
     rfl
    rw [hq] at KP'
    clear hq
    have HT4 : Hid (Top W4) := HT.out.below bw4
    have hsz : n * 6 + (pqv q).size ≤ cur.size := by
     have := FI.out.1
     have h2 : (pcs l d).length = N := by unfold pcs; rw [List.length_map, HN.out]
     simp only [List.size_toArray, List.length_cons, List.length_nil]
     omega
    have hsq : Hid ((Tryz.prog.info? 121).map (·.size) = some (pqv q).size) := by show _ = _; kernel_rfl
    have hall1 : Hid ((pqv q).all (·.oneCell') = true) := by show _ = _; kernel_rfl
    go_wp2_with (first
     | (refine wpList_load_at rfl _ _ rfl _ 0 (by rfl) _ hB4.at_ Tryz.underlying82 hs1 ?_))
    refine (KP'.out _ HT4.out).mono ?_
    rintro e W5 ⟨rfl, b45⟩
    have bw5 := bel_tr bw4 b45
    have PB5 := PB4.kept b45
    have RB5 := RB4.kept b45
    clear KP' b45 PB4 RB4 hB4 bw4
    have FI' : Hid (Filled (setMany cur (n * 6) (pqv q).toList) (pcs l d) (n + 1)) := FI.out.put HQ.out
    have PB6 := PB5.set (setMany cur (n * 6) (pqv q).toList)
    have RB6 := RB5.other (Nat.ne_of_lt HG6.out) (setMany cur (n * 6) (pqv q).toList)
    have bw6 := below_setRow bw5 (Nat.le_of_lt HG6.out) (setMany cur (n * 6) (pqv q).toList)
    obtain ⟨QA, hQA⟩ : ∃ QA, pqv q = QA := ⟨_, rfl⟩
    have hsq' := hsq.out
    have hall1' := hall1.out
    rw [hQA] at hsz FI' PB6 RB6 bw6 hsq' hall1' ⊢
    clear hQA FI
    go_wp2_with (refine wpList_store_off rfl 121 _ _ rfl W1.heap.size (n * 6) 121 QA cur _ (by rfl) (by rfl) PB5 hsq' hsz hall1' rfl ?_)
    exact ⟨⟨n + 1, _, by omega, by first | rfl | (congr 1), FI', PB6, RB6, bw6, HJ'⟩, by simp only [intOf]; omega⟩
  ·exfalso
   obtain ⟨r, hr, hf⟩ := hall.out
   obtain ⟨j, hj⟩ := List.getElem?_of_mem hr
   have hjl : j < l.length := (List.getElem?_eq_some_iff.1 hj).1
   have := HJ.out j r (by have := HN.out; omega) hj
   rw [hf] at this
   cases this
/-- An answer that tells whether something holds. -/
def Tells (e : Ending) (Q : Prop) : Prop := ∃ r, e = .returned (.bool r) ∧ (r = true ↔ Q)
theorem Tells.yes {Q : Prop} (h : Q) : Tells (.returned (.bool true)) Q := ⟨true, rfl, fun _ => h, fun _ => rfl⟩
theorem Tells.no {Q : Prop} (h : ¬ Q) : Tells (.returned (.bool false)) Q := ⟨false, rfl, fun e => (by cases e), fun e => absurd e h⟩
def RiseP (l : List Pt) : Prop := ∀ (i : Nat) (p q : Pt), l[i]? = some p → l[i + 1]? = some q → p.n < q.n
def RiseI (l : List Int) : Prop := (∀ x, l[0]? = some x → 0 ≤ x) ∧ ∀ (i : Nat) (x y : Int), l[i]? = some x → l[i + 1]? = some y → x < y
def RightK (K : List Int) (n : Nat) : Prop := ∀ x ∈ K, 0 ≤ x ∧ x < (n : Int)
def RightC (L : List Pt) (K : List Int) (S : List (List Int)) : Prop := L[0]? = some pt0 ∧ RiseP L ∧ K.length = L.length ∧ RightK K S.length ∧ ∀ s ∈ S, RiseI s
set_option maxRecDepth 100000 in
set_option maxHeartbeats 4000000 in
theorem compareI_any (a b : Int) (w : World) : Calls Tryz.prog 83 #[.int .i64 a, .int .i64 b] w fun e w' => e = .returned (.int .i64 (cmpU a b)) ∧ w' = w := by
 have hn : ∀ a : Int, Calls Tryz.prog 102 #[.int .i64 a] w fun e w' => e = .returned (.bool false) ∧ w' = w := fun a => by
  go_enter Tryz.func102, Tryz.ntmps102
  go_wp2
  all_goals go_ret
  all_goals (refine ⟨?_, rfl⟩; first | rfl | simp)
 have ka := hidW (hn a)
 have kb := hidW (hn b)
 clear hn
 unfold cmpU
 rcases Int.lt_trichotomy a b with h | h | h
 ·rw [if_pos h]
  go_enter Tryz.func83, Tryz.ntmps83
  go_wp2_with (first | (go_at_call 102; refine Calls.mono ka.out ?_; rintro e w' ⟨rfl, rfl⟩) | (go_at_call 102; refine Calls.mono kb.out ?_; rintro e w' ⟨rfl, rfl⟩))
  all_goals go_ret
  all_goals exact ⟨rfl, rfl⟩
 ·subst h
  rw [if_neg (by omega), if_neg (by omega)]
  have h1 : ¬ a < a := by omega
  go_enter Tryz.func83, Tryz.ntmps83
  go_wp2_with (first | (go_at_call 102; refine Calls.mono ka.out ?_; rintro e w' ⟨rfl, rfl⟩) | (go_at_call 102; refine Calls.mono kb.out ?_; rintro e w' ⟨rfl, rfl⟩))
  all_goals go_ret
  all_goals exact ⟨rfl, rfl⟩
 ·have h1 : ¬ a < b := by omega
  rw [if_neg h1, if_pos h]
  go_enter Tryz.func83, Tryz.ntmps83
  go_wp2_with (first | (go_at_call 102; refine Calls.mono ka.out ?_; rintro e w' ⟨rfl, rfl⟩) | (go_at_call 102; refine Calls.mono kb.out ?_; rintro e w' ⟨rfl, rfl⟩))
  all_goals go_ret
  all_goals exact ⟨rfl, rfl⟩
theorem RowP.at_ {w : World} {a : Option Addr} {l : List Pt} (h : RowP w a l) {i : Nat} {p : Pt} (hi : l[i]? = some p) : ∃ b off, a = some ⟨b, off, none⟩ ∧ w.cell? ⟨b, off + i * 3, none⟩ = some (.int .u64 p.a) ∧ w.cell? ⟨b, off + i * 3 + 1, none⟩ = some (.int .u64 p.b) ∧ w.cell? ⟨b, off + i * 3 + 2, none⟩ = some (.int .u64 p.c) := by
 obtain ⟨b, off, h1, h2⟩ := h.cells i p hi
 exact ⟨b, off, h1, h2.2 0 _ rfl, h2.2 1 _ rfl, h2.2 2 _ rfl⟩
set_option maxRecDepth 100000 in
set_option maxHeartbeats 4000000 in
theorem risingP_any (a : Option Addr) (c : Nat) (l : List Pt) (w : World) (hs : l.length ≤ 17592186044416) (h : RowP w a l) :
  Calls Tryz.prog 49 #[.slice a l.length c, .func (.func 50) #[] #[]] w fun e w' => Tells e (RiseP l) ∧ Below w.heap.size w w' := by
 obtain ⟨N, hN⟩ : ∃ N, l.length = N := ⟨_, rfl⟩
 have HN : Hid (l.length = N) := hN
 have HR : Hid (RowP w a l) := h
 have hcf : ∀ args w, (callFunc 50 args).run Tryz.prog w = .ok (.enter 50 args) w := Tryz.call50
 have KO : Hid (∀ (p q : Pt) W, Calls Tryz.prog 50 #[.agg p.v, .agg q.v] W fun e w' => e = .returned (.int .i64 (ordP p q)) ∧ Below W.heap.size W w') := order_b
 rw [hN] at hs ⊢
 clear h hN
 go_enter Tryz.func49, Tryz.ntmps49
 go_wp2_with fail
 go_loopw [5] (fun i wr => ∃ (k : Nat), 1 ≤ k ∧ (k ≤ N ∨ k = 1) ∧ i = .int .i64 k ∧ Below w.heap.size w wr ∧ Hid (∀ (j : Nat) (p q : Pt), j + 1 < k → l[j]? = some p → l[j + 1]? = some q → p.n < q.n)) (fun i _ => N - (intOf i).toNat)
 case atStart => exact ⟨1, Nat.le_refl _, .inr rfl, rfl, Below.refl _ _, fun j p q hj => by omega⟩
 case round =>
  obtain ⟨k, hk1, hk, rfl, qb, qe⟩ := hrel
  by_cases hlt : k < N
  ·have ik : (k : Int) < (N : Int) := by omega
   obtain ⟨q, hq⟩ : ∃ q, l[k]? = some q := ⟨_, List.getElem?_eq_getElem (by rw [HN.out]; exact hlt)⟩
   obtain ⟨p, hp⟩ : ∃ p, l[k - 1]? = some p := ⟨_, List.getElem?_eq_getElem (by rw [HN.out]; omega)⟩
   have HQ : Hid (l[k]? = some q) := hq
   have HP : Hid (l[k - 1]? = some p) := hp
   have hqo := HR.out.each q (List.mem_of_getElem? hq)
   have hpo := HR.out.each p (List.mem_of_getElem? hp)
   have HOR : Hid (ordP p q < 0 ↔ p.n < q.n) := ord_neg hpo hqo
   obtain ⟨b, off, ha, q0, q1, q2⟩ := (HR.out.low qb).at_ hq
   obtain ⟨b', off', ha', p0, p1, p2⟩ := (HR.out.low qb).at_ hp
   rw [ha] at ha'
   cases ha'
   subst ha
   have K1 : Hid _ := KO.out p q
   have hw1 : IntKind.i64.wrap ((k : Int) - 1) = ((k - 1 : Nat) : Int) := by simp [IntKind.wrap, IntKind.bits, IntKind.signed]; omega
   have hw2 : IntKind.i64.wrap ((k : Int) + 1) = ((k + 1 : Nat) : Int) := by simp [IntKind.wrap, IntKind.bits, IntKind.signed]; omega
   have hk2 : k - 1 < N := by omega
   generalize hX : ordP p q = X at HOR K1
   clear hX hq hp hqo hpo
   obtain ⟨pa, pb, pc⟩ := p
   obtain ⟨qa, qb', qc⟩ := q
   simp only at q0 q1 q2 p0 p1 p2
   have q0' := kept (below_drew wr) q0
   have q1' := kept (below_drew wr) q1
   have q2' := kept (below_drew wr) q2
   have p0' := kept (below_drew wr) p0
   have p1' := kept (below_drew wr) p1
   have p2' := kept (below_drew wr) p2
   have KD : Hid _ := K1.out wr.drew
   have HD : Hid (Below w.heap.size w wr.drew) := qb.drew
   go_wp2
   go_region_held3 (fun w'' => w''.cell? ⟨b, off + k * 3, none⟩ = some (.int .u64 qa) ∧ w''.cell? ⟨b, off + k * 3 + 1, none⟩ = some (.int .u64 qb') ∧ w''.cell? ⟨b, off + k * 3 + 2, none⟩ = some (.int .u64 qc) ∧ w''.cell? ⟨b, off + (k - 1) * 3, none⟩ = some (.int .u64 pa) ∧ w''.cell? ⟨b, off + (k - 1) * 3 + 1, none⟩ = some (.int .u64 pb) ∧ w''.cell? ⟨b, off + (k - 1) * 3 + 2, none⟩ = some (.int .u64 pc)) (first | exact ⟨q0', q1', q2', p0', p1', p2'⟩ | exact ⟨kept bb q0', kept bb q1', kept bb q2', kept bb p0', kept bb p1', kept bb p2'⟩ | go_keep) (first | (go_at_call 50; refine Calls.mono KD.out ?_; rintro e W2 ⟨rfl, bb⟩))
   have b2 := bel_tr HD.out bb
   clear q0 q1 q2 p0 p1 p2 q0' q1' q2' p0' p1' p2' bb KD K1
   by_cases hX : 0 ≤ X
   ·have HF : Hid (¬ RiseP l) := fun hh => by
     have h3 := hh (k - 1) _ _ HP.out (by rw [show k - 1 + 1 = k by omega]; exact HQ.out)
     have := HOR.out.2 h3
     omega
    clear qe
    go_wp2
    go_ret
    exact ⟨Tells.no HF.out, b2⟩
   ·have qe' : Hid (∀ (j : Nat) (p q : Pt), j + 1 < k + 1 → l[j]? = some p → l[j + 1]? = some q → p.n < q.n) := fun j p q hj hp hq => by
     by_cases e : j + 1 = k
     ·have hj' : j = k - 1 := by omega
      subst hj'
      rw [HP.out] at hp
      rw [show k - 1 + 1 = k by omega, HQ.out] at hq
      cases hp
      cases hq
      exact HOR.out.1 (by omega)
     ·exact qe.out j p q (by omega) hp hq
    clear qe
    go_wp2
    exact ⟨⟨k + 1, by omega, by omega, by first | rfl | (congr 1), b2, qe'⟩, by simp only [intOf]; omega⟩
  ·have ik : ¬ (k : Int) < (N : Int) := by omega
   have HT : Hid (RiseP l) := fun j p q hp hq => by
    have h1 := (List.getElem?_eq_some_iff.1 hq).1
    have h2 := HN.out
    exact qe.out j p q (by omega) hp hq
   clear qe
   go_wp2
   go_ret
   exact ⟨Tells.yes HT.out, qb⟩
set_option maxRecDepth 100000 in
set_option maxHeartbeats 4000000 in
theorem risingI_any (a : Option Addr) (c : Nat) (l : List Int) (w : World) (h : RowI w a l) :
  Calls Tryz.prog 82 #[.slice a l.length c, .func (.func 83) #[] #[]] w fun e w' => Tells e (∀ (i : Nat) (x y : Int), l[i]? = some x → l[i + 1]? = some y → x < y) ∧ Below w.heap.size w w' := by
 have hs := h.small
 obtain ⟨N, hN⟩ : ∃ N, l.length = N := ⟨_, rfl⟩
 have HN : Hid (l.length = N) := hN
 have HR : Hid (RowI w a l) := h
 have hcf : ∀ args w, (callFunc 83 args).run Tryz.prog w = .ok (.enter 83 args) w := Tryz.call83
 have KO : Hid (∀ (p q : Int) W, Calls Tryz.prog 83 #[.int .i64 p, .int .i64 q] W fun e w' => e = .returned (.int .i64 (cmpU p q)) ∧ w' = W) := compareI_any
 rw [hN] at hs ⊢
 clear h hN
 go_enter Tryz.func82, Tryz.ntmps82
 go_wp2_with fail
 go_loopw [5] (fun i wr => ∃ (k : Nat), 1 ≤ k ∧ (k ≤ N ∨ k = 1) ∧ i = .int .i64 k ∧ Below w.heap.size w wr ∧ Hid (∀ (j : Nat) (p q : Int), j + 1 < k → l[j]? = some p → l[j + 1]? = some q → p < q)) (fun i _ => N - (intOf i).toNat)
 case atStart => exact ⟨1, Nat.le_refl _, .inr rfl, rfl, Below.refl _ _, fun j p q hj => by omega⟩
 case round =>
  obtain ⟨k, hk1, hk, rfl, qb, qe⟩ := hrel
  by_cases hlt : k < N
  ·have ik : (k : Int) < (N : Int) := by omega
   obtain ⟨q, hq⟩ : ∃ q, l[k]? = some q := ⟨_, List.getElem?_eq_getElem (by rw [HN.out]; exact hlt)⟩
   obtain ⟨p, hp⟩ : ∃ p, l[k - 1]? = some p := ⟨_, List.getElem?_eq_getElem (by rw [HN.out]; omega)⟩
   have HQ : Hid (l[k]? = some q) := hq
   have HP : Hid (l[k - 1]? = some p) := hp
   have HOR : Hid (cmpU p q < 0 ↔ p < q) := by
    show _ ↔ _
    unfold cmpU
    split
    ·simp [*]
    ·split <;> constructor <;> intro x <;> omega
   obtain ⟨b, off, ha, hcs⟩ := (HR.out.below qb).cells (by rw [HN.out]; omega)
   have q0 := hcs k (by rw [HN.out]; omega)
   have p0 := hcs (k - 1) (by rw [HN.out]; omega)
   rw [show l.getD k 0 = q by simp [hq]] at q0
   rw [show l.getD (k - 1) 0 = p by simp [hp]] at p0
   subst ha
   have hw1 : IntKind.i64.wrap ((k : Int) - 1) = ((k - 1 : Nat) : Int) := by simp [IntKind.wrap, IntKind.bits, IntKind.signed]; omega
   have hw2 : IntKind.i64.wrap ((k : Int) + 1) = ((k + 1 : Nat) : Int) := by simp [IntKind.wrap, IntKind.bits, IntKind.signed]; omega
   have hk2 : k - 1 < N := by omega
   have KD : Hid _ := KO.out p q wr.drew
   generalize hX : cmpU p q = X at HOR KD
   clear hX hq hp hcs
   have q0' := kept (below_drew wr) q0
   have p0' := kept (below_drew wr) p0
   have HD : Hid (Below w.heap.size w wr.drew) := qb.drew
   go_wp2
   go_region_held3 (fun w'' => w''.cell? ⟨b, off + k, none⟩ = some (.int .i64 q) ∧ w''.cell? ⟨b, off + (k - 1), none⟩ = some (.int .i64 p)) (first | exact ⟨q0', p0'⟩ | go_keep) (first | (go_at_call 83; refine Calls.mono KD.out ?_; rintro e W2 ⟨rfl, rfl⟩))
   have b2 := HD.out
   clear q0 p0 q0' p0' KD
   by_cases hX : 0 ≤ X
   ·have HF : Hid (¬ ∀ (i : Nat) (x y : Int), l[i]? = some x → l[i + 1]? = some y → x < y) := fun hh => by
     have h3 := hh (k - 1) _ _ HP.out (by rw [show k - 1 + 1 = k by omega]; exact HQ.out)
     have := HOR.out.2 h3
     omega
    clear qe
    go_wp2
    go_ret
    exact ⟨Tells.no HF.out, b2⟩
   ·have qe' : Hid (∀ (j : Nat) (p q : Int), j + 1 < k + 1 → l[j]? = some p → l[j + 1]? = some q → p < q) := fun j p q hj hp hq => by
     by_cases e : j + 1 = k
     ·have hj' : j = k - 1 := by omega
      subst hj'
      rw [HP.out] at hp
      rw [show k - 1 + 1 = k by omega, HQ.out] at hq
      cases hp
      cases hq
      exact HOR.out.1 (by omega)
     ·exact qe.out j p q (by omega) hp hq
    clear qe
    go_wp2
    exact ⟨⟨k + 1, by omega, by omega, by first | rfl | (congr 1), b2, qe'⟩, by simp only [intOf]; omega⟩
  ·have ik : ¬ (k : Int) < (N : Int) := by omega
   have HT : Hid (∀ (i : Nat) (x y : Int), l[i]? = some x → l[i + 1]? = some y → x < y) := fun j p q hp hq => by
    have h1 := (List.getElem?_eq_some_iff.1 hq).1
    have h2 := HN.out
    exact qe.out j p q (by omega) hp hq
   clear qe
   go_wp2
   go_ret
   exact ⟨Tells.yes HT.out, qb⟩
set_option maxRecDepth 100000 in
set_option maxHeartbeats 4000000 in
theorem rightClasses_any (a : Option Addr) (c n : Nat) (l : List Int) (w : World) (h : RowI w a l) :
  Calls Tryz.prog 51 #[.slice a l.length c, .int .i64 (n : Int)] w fun e w' => Tells e (RightK l n) ∧ Below w.heap.size w w' := by
 have hs := h.small
 obtain ⟨N, hN⟩ : ∃ N, l.length = N := ⟨_, rfl⟩
 have HN : Hid (l.length = N) := hN
 have HR : Hid (RowI w a l) := h
 rw [hN] at hs ⊢
 clear h hN
 go_enter Tryz.func51, Tryz.ntmps51
 go_wp2_with fail
 go_loopw [9] (fun i wr => ∃ (k : Nat), k ≤ N ∧ i = .int .i64 k ∧ Below w.heap.size w wr ∧ Hid (∀ (j : Nat) (x : Int), j < k → l[j]? = some x → 0 ≤ x ∧ x < (n : Int))) (fun i _ => N - (intOf i).toNat)
 case atStart => exact ⟨0, Nat.zero_le _, rfl, Below.refl _ _, fun j p hj => by omega⟩
 case round =>
  obtain ⟨k, hk, rfl, qb, qe⟩ := hrel
  by_cases hlt : k < N
  ·have ik : (k : Int) < (N : Int) := by omega
   obtain ⟨x, hx⟩ : ∃ x, l[k]? = some x := ⟨_, List.getElem?_eq_getElem (by rw [HN.out]; exact hlt)⟩
   have HX : Hid (l[k]? = some x) := hx
   obtain ⟨b, off, ha, hcs⟩ := (HR.out.below qb).cells (by rw [HN.out]; omega)
   have q0 := hcs k (by rw [HN.out]; omega)
   rw [show l.getD k 0 = x by simp [hx]] at q0
   subst ha
   clear hcs hx
   by_cases h0 : x < 0
   ·have HF : Hid (¬ RightK l n) := fun hh => by
     have := hh x (List.mem_of_getElem? HX.out)
     omega
    clear qe
    go_wp2
    go_ret
    exact ⟨Tells.no HF.out, qb⟩
   ·by_cases h1 : (n : Int) ≤ x
    ·have HF : Hid (¬ RightK l n) := fun hh => by
      have := hh x (List.mem_of_getElem? HX.out)
      omega
     clear qe
     go_wp2
     go_ret
     exact ⟨Tells.no HF.out, qb⟩
    ·have qe' : Hid (∀ (j : Nat) (x : Int), j < k + 1 → l[j]? = some x → 0 ≤ x ∧ x < (n : Int)) := fun j y hj hy => by
      by_cases e : j = k
      ·subst e
       rw [HX.out] at hy
       cases hy
       omega
      ·exact qe.out j y (by omega) hy
     clear qe
     go_wp2
     exact ⟨⟨k + 1, by omega, by go_num, qb, qe'⟩, by simp [intOf]; omega⟩
  ·have ik : ¬ (k : Int) < (N : Int) := by omega
   have HT : Hid (RightK l n) := fun x hx => by
    obtain ⟨j, hj⟩ := List.getElem?_of_mem hx
    have h1 := (List.getElem?_eq_some_iff.1 hj).1
    have h2 := HN.out
    exact qe.out j x (by omega) hj
   clear qe
   go_wp2
   go_ret
   exact ⟨Tells.yes HT.out, qb⟩
set_option maxRecDepth 100000 in
set_option maxHeartbeats 4000000 in
theorem rightSets_any (a : Option Addr) (c : Nat) (S : List (List Int)) (w : World) (h : RowS w a S) :
  Calls Tryz.prog 52 #[.slice a S.length c] w fun e w' => Tells e (∀ s ∈ S, RiseI s) ∧ Below w.heap.size w w' := by
 have hs := h.small
 obtain ⟨N, hN⟩ : ∃ N, S.length = N := ⟨_, rfl⟩
 have HN : Hid (S.length = N) := hN
 have HR : Hid (RowS w a S) := h
 rw [hN] at hs ⊢
 clear h hN
 go_enter Tryz.func52, Tryz.ntmps52
 go_wp2_with fail
 go_loopw [7] (fun i wr => ∃ (k : Nat), k ≤ N ∧ i = .int .i64 k ∧ Below w.heap.size w wr ∧ Hid (∀ (j : Nat) (s : List Int), j < k → S[j]? = some s → RiseI s)) (fun i _ => N - (intOf i).toNat)
 case atStart => exact ⟨0, Nat.zero_le _, rfl, Below.refl _ _, fun j p hj => by omega⟩
 case round =>
  obtain ⟨k, hk, rfl, qb, qe⟩ := hrel
  by_cases hlt : k < N
  ·have ik : (k : Int) < (N : Int) := by omega
   obtain ⟨s, hs⟩ : ∃ s, S[k]? = some s := ⟨_, List.getElem?_eq_getElem (by rw [HN.out]; exact hlt)⟩
   have HX : Hid (S[k]? = some s) := hs
   obtain ⟨b, off, ai, ci, ha, q0, hri⟩ := (HR.out.below qb).cells k s hs
   subst ha
   have KR : Hid _ := risingI_any ai ci s wr hri
   have HF : Hid (¬ RiseI s → ¬ ∀ s ∈ S, RiseI s) := fun h1 h2 => h1 (h2 s (List.mem_of_getElem? HX.out))
   have HG : Hid (RiseI s → ∀ (j : Nat) (t : List Int), j < k + 1 → S[j]? = some t → RiseI t) := fun hr j y hj hy => by
    by_cases e : j = k
    ·subst e
     rw [HX.out] at hy
     cases hy
     exact hr
    ·exact qe.out j y (by omega) hy
   clear hs qe
   cases hsl : s with
   | nil =>
    subst hsl
    have HRI : Hid (RiseI [] ↔ ∀ (i : Nat) (x y : Int), ([] : List Int)[i]? = some x → ([] : List Int)[i + 1]? = some y → x < y) := ⟨fun h => h.2, fun h => ⟨fun x hx => by simp at hx, h⟩⟩
    simp only [List.length_nil] at q0 KR
    go_wp2_with fail
    refine Calls.mono KR.out ?_
    rintro e W2 ⟨⟨r, rfl, hr⟩, bb⟩
    have b2 := bel_tr qb bb
    cases r
    ·have hf := HF.out (fun h => by have := hr.2 (HRI.out.1 h); cases this)
     have HF' : Hid (¬ ∀ s ∈ S, RiseI s) := hf
     clear hr hf bb
     go_wp2
     go_ret
     exact ⟨Tells.no HF'.out, b2⟩
    ·have hg : Hid _ := HG.out (HRI.out.2 (hr.1 rfl))
     clear hr bb
     go_wp2
     exact ⟨⟨k + 1, by omega, by go_num, b2, hg⟩, by simp [intOf]; omega⟩
   | cons x t =>
    subst hsl
    obtain ⟨b', off', hai, hcs⟩ := hri.cells (by simp)
    have x0 := hcs 0 (by simp)
    rw [show (x :: t).getD 0 0 = x from rfl] at x0
    subst hai
    simp only [Nat.add_zero] at x0
    obtain ⟨n, hn⟩ : ∃ n, (x :: t).length = n := ⟨_, rfl⟩
    have hn0 : 0 < n := by rw [← hn]; simp
    have hn0' : (0 : Int) < (n : Int) := by omega
    rw [hn] at q0 KR
    clear hn hcs
    have HRI : Hid (0 ≤ x → (RiseI (x :: t) ↔ ∀ (i : Nat) (a b : Int), (x :: t)[i]? = some a → (x :: t)[i + 1]? = some b → a < b)) := fun h0 => ⟨fun h => h.2, fun h => ⟨fun y hy => by simp at hy; omega, h⟩⟩
    by_cases h0 : x < 0
    ·have HF' : Hid (¬ ∀ s ∈ S, RiseI s) := HF.out (fun h => by have := h.1 x rfl; omega)
     go_wp2
     go_ret
     exact ⟨Tells.no HF'.out, qb⟩
    ·have HRI' := HRI.out (by omega)
     have HH : Hid _ := HRI'
     clear HRI'
     go_wp2_with fail
     refine Calls.mono KR.out ?_
     rintro e W2 ⟨⟨r, rfl, hr⟩, bb⟩
     have b2 := bel_tr qb bb
     cases r
     ·have hf := HF.out (fun h => by have := hr.2 (HH.out.1 h); cases this)
      have HF' : Hid (¬ ∀ s ∈ S, RiseI s) := hf
      clear hr hf bb
      go_wp2
      go_ret
      exact ⟨Tells.no HF'.out, b2⟩
     ·have hg : Hid _ := HG.out (HH.out.2 (hr.1 rfl))
      clear hr bb
      go_wp2
      exact ⟨⟨k + 1, by omega, by go_num, b2, hg⟩, by simp [intOf]; omega⟩
  ·have ik : ¬ (k : Int) < (N : Int) := by omega
   have HT : Hid (∀ s ∈ S, RiseI s) := fun x hx => by
    obtain ⟨j, hj⟩ := List.getElem?_of_mem hx
    have h1 := (List.getElem?_eq_some_iff.1 hj).1
    have h2 := HN.out
    exact qe.out j x (by omega) hj
   clear qe
   go_wp2
   go_ret
   exact ⟨Tells.yes HT.out, qb⟩
end Go.Proofs.YtmfgjicfdjjihaaGreatDoor
