/- Texts joined: CkO -/
import Derived.Test.YtmfgjicfdjjihaaGreatDoorLxa13
namespace Go.Proofs.YtmfgjicfdjjihaaGreatDoor
open Go.RowKit
set_option linter.unusedVariables false
set_option linter.unusedSimpArgs false
/-- The pieces of rules. -/
def pcs (l : List Rl) (d : Nat) : List (Pt × Pt) := l.map fun r => (r.fst_ d, r.lst_ d)
theorem lastAd_ok {a : Ad} {n : Int} (ho : a.ok) (hp : a.rightPrefix n = true) : (ptAd (lastAd a n)).ok ∧ (ptAd (lastAd a n)).a ≤ 1000 := by
 have hr := (right_of_prefix hp).1
 have hf := right_fam hr
 have hv := lastAd_val a n
 have hw : (0 : Int) < 2 ^ (a.width - n).toNat := Int.pow_pos (by decide)
 have h0 := (val_low ho hr).1
 obtain ⟨h1, h2⟩ := last_bound ho hp
 refine ⟨⟨?_, ?_, ?_⟩, ?_⟩
 ·show 0 ≤ (lastAd a n).fam ∧ (lastAd a n).fam ≤ _
  rw [lastAd_fam]; omega
 ·show 0 ≤ (lastAd a n).hi ∧ (lastAd a n).hi ≤ _
  exact h1
 ·show 0 ≤ (lastAd a n).lo ∧ (lastAd a n).lo ≤ _
  exact h2
 ·show (lastAd a n).fam ≤ 1000
  rw [lastAd_fam]; omega
theorem piece_ok {r : Rl} (ro : r.ok) (hr : r.right = true) (d : Nat) (hd : d < 7) : (r.fst_ d).ok ∧ (r.lst_ d).ok ∧ (r.lst_ d = ptTop ∨ (r.lst_ d).a ≤ 1000) := by
 obtain ⟨r1, r2, r3, r4, r5, r6, r7⟩ := Rl.right_all hr
 unfold Rl.fst_ Rl.lst_
 cases hz : r.any_ d with
 | true => exact ⟨pt0_ok, ptTop_ok, .inl rfl⟩
 | false =>
  simp only [Bool.false_eq_true, if_false]
  have num : ∀ n : Int, 0 ≤ n → n ≤ 65535 → (ptNum n).ok ∧ (ptNum n).a ≤ 1000 := fun n h1 h2 => ⟨ptNum_ok h1 h2, by simp [ptNum]⟩
  match d, hd, hz with
  | 0, _, hz =>
   have hz' : (r.fr == -1) = false := hz
   simp only [beq_eq_false_iff_ne, ne_eq] at hz'
   have := num r.fr (by omega) (by omega)
   exact ⟨this.1, this.1, .inr this.2⟩
  | 1, _, hz =>
   have hz' : (r.tz == -1) = false := hz
   simp only [beq_eq_false_iff_ne, ne_eq] at hz'
   have := num r.tz (by omega) (by omega)
   exact ⟨this.1, this.1, .inr this.2⟩
  | 2, _, hz =>
   have hp := net_right r3 hz
   have := lastAd_ok ro.s hp
   exact ⟨ptAd_ok ro.s (right_of_prefix hp).1, this.1, .inr this.2⟩
  | 3, _, hz =>
   have hp := net_right r4 hz
   have := lastAd_ok ro.d hp
   exact ⟨ptAd_ok ro.d (right_of_prefix hp).1, this.1, .inr this.2⟩
  | 4, _, hz =>
   have := num r.pr (by omega) (by omega)
   exact ⟨this.1, this.1, .inr this.2⟩
  | 5, _, hz => exact ⟨(num r.sl (by omega) (by omega)).1, (num r.sh (by omega) (by omega)).1, .inr (num r.sh (by omega) (by omega)).2⟩
  | 6, _, hz => exact ⟨(num r.dl (by omega) (by omega)).1, (num r.dh (by omega) (by omega)).1, .inr (num r.dh (by omega) (by omega)).2⟩
theorem info_pc : (Tryz.prog.info? 121).map (fun i => (i.zero, i.size, i.bytes)) = some (some (.agg z6), 6, 48) := by kernel_rfl
theorem wpList_makeC {ops : Array Oper} {rest : List Oper} {o : Oper} {ac : Act} {Q : Exit → Act → World → Prop} (w : World) (hgd : o.guard = none) (l c : Operand) (hop : o.op = Op.makeSlice 118 l c)
  (kl kc : IntKind) (N : Nat) (hl : ac.eval l = .int kl (N : Int)) (hc : ac.eval c = .int kc (N : Int)) (hN : N ≤ 1000000)
  (h : ∀ cur : Array Value, cur.size = N * 6 → wpList Tryz.prog ops Q rest (ac.put o.dst (.slice (some ⟨w.heap.size, 0, none⟩) N N)) (w.alloc (.cells cur 121))) :
  wpList Tryz.prog ops Q (o :: rest) ac w := by
 obtain ⟨i0, hi, hz0, hz1, hz2⟩ := info_parts info_pc
 refine wpList_plain hgd fun K hK => ?_
 have hr := run_make (P := Tryz.prog) w 118 121 i0 (.agg z6) Tryz.underlying118 hi hz0 kl kc (N : Int) (N : Int) (by omega) (Int.le_refl _) (by rw [hz2]; omega) (by omega)
 rw [Int.toNat_natCast, hz1] at hr
 unfold Oper.wp
 simp [execOp, hop, hl, hc, hr, Result.andThen]
 exact hK _ _ (h _ (size_madeCells _ _))
/-- The pieces filled so far. -/
def Filled (cur : Array Value) (P : List (Pt × Pt)) (n : Nat) : Prop := cur.size = P.length * 6 ∧ ∀ i q j, i < n → P[i]? = some q → j < 6 → cur[i * 6 + j]? = (pqv q)[j]?
theorem Filled.put {cur : Array Value} {P : List (Pt × Pt)} {n : Nat} (h : Filled cur P n) {q : Pt × Pt} (hq : P[n]? = some q) : Filled (setMany cur (n * 6) (pqv q).toList) P (n + 1) := by
 have hn : n < P.length := (List.getElem?_eq_some_iff.1 hq).1
 refine ⟨by rw [setMany_size]; exact h.1, fun i p j hi hp hj => ?_⟩
 have hs := h.1
 rw [setMany_at]
 by_cases e : i = n
 ·subst e
  rw [hq] at hp
  cases hp
  rw [if_pos (by simp; omega), show i * 6 + j - i * 6 = j by omega]
  simp
 ·rw [if_neg (by simp; omega)]
  exact h.2 i p j (by omega) hp hj
theorem Filled.row {w : World} {g : Nat} {cur : Array Value} {P : List (Pt × Pt)} (h : Filled cur P P.length) (hb : Blk w g 121 cur) (hok : ∀ q ∈ P, q.1.ok ∧ q.2.ok) : RowC w (some ⟨g, 0, none⟩) P :=
 ⟨hok, fun i q hi => ⟨g, 0, rfl, hb.lt, fun j v hv => by
  have hj : j < 6 := (Array.getElem?_eq_some_iff.1 hv).1
  refine hb.cell _ v ?_
  rw [Nat.zero_add, h.2 i q j (List.getElem?_eq_some_iff.1 hi).1 hi hj]
  exact hv⟩⟩
set_option maxRecDepth 100000 in
theorem rightDim_any (n : Int) (w : World) : Calls Tryz.prog 59 #[.int .i64 n] w fun e w' => e = .returned (.bool (decide (0 ≤ n) && decide (n < 7))) ∧ w' = w := by
 go_enter Tryz.func59, Tryz.ntmps59
 by_cases h : 0 ≤ n
 ·by_cases h' : n < 7
  all_goals (go_wp2; go_ret; exact ⟨by first | (simp [h, h']; done) | simp_all, rfl⟩)
 ·have h' : decide (0 ≤ n) = false := by simp; omega
  rw [h']
  go_wp2
  go_ret
  exact ⟨rfl, rfl⟩
set_option maxRecDepth 100000 in
set_option maxHeartbeats 4000000 in
theorem cut_dim (a : Option Addr) (n c : Nat) (dim : Int) (w : World) (h : ¬ (0 ≤ dim ∧ dim < 7)) : Calls Tryz.prog 34 #[.slice a n c, .int .i64 dim] w fun e w' => e = .returned (.tuple #[.agg zc, .int .i64 1]) ∧ Below w.heap.size w w' := by
 have K := hidW (fun W => rightDim_any dim W)
 have hf : (decide (0 ≤ dim) && decide (dim < 7)) = false := by
  rw [Bool.and_eq_false_iff]
  simp only [decide_eq_false_iff_not]
  omega
 rw [hf] at K
 clear hf h
 go_enter Tryz.func34, Tryz.ntmps34
 go_wp2_with fail
 refine Calls.mono (K.out _) ?_
 rintro e _ ⟨rfl, rfl⟩
 go_wp2
 exact ret_cell_tmp (k := 4) (j := 5) Tryz.f34 (by kernel_rfl) (blk_new w zc 63) Tryz.underlying63 (by kernel_rfl) (by rfl) (by rfl) rfl ⟨rfl, bel_nw rfl⟩
set_option maxRecDepth 100000 in
set_option maxHeartbeats 4000000 in
theorem cut_many (a : Option Addr) (n c : Nat) (dim : Int) (w : World) (h : 0 ≤ dim ∧ dim < 7) (hn : 64 < n) : Calls Tryz.prog 34 #[.slice a n c, .int .i64 dim] w fun e w' => e = .returned (.tuple #[.agg zc, .int .i64 17]) ∧ Below w.heap.size w w' := by
 have K := hidW (fun W => rightDim_any dim W)
 have hf : (decide (0 ≤ dim) && decide (dim < 7)) = true := by simp [h.1, h.2]
 rw [hf] at K
 have hn' : (64 : Int) < (n : Int) := by omega
 clear hf h
 go_enter Tryz.func34, Tryz.ntmps34
 go_wp2_with fail
 refine Calls.mono (K.out _) ?_
 rintro e _ ⟨rfl, rfl⟩
 go_wp2
 exact ret_cell_tmp (k := 4) (j := 5) Tryz.f34 (by kernel_rfl) (blk_new w zc 63) Tryz.underlying63 (by kernel_rfl) (by rfl) (by rfl) rfl ⟨rfl, bel_nw rfl⟩
set_option maxRecDepth 100000 in
set_option maxHeartbeats 16000000 in
theorem cut_yes (a : Option Addr) (c : Nat) (l : List Rl) (d : Nat) (w : World) (hT : Top w) (hl : l.length ≤ 64) (hrow : RowR w a l) (hd : d < 7) (hall : Hid (∀ r ∈ l, r.right = true)) :
  Calls Tryz.prog 34 #[.slice a l.length c, .int .i64 (d : Int)] w fun e w' => ∃ g1 c1 L ka kc sa sc vs, e = .returned (.tuple #[.agg #[.slice (some ⟨g1, 0, none⟩) L.length c1, .slice ka L.length kc, .slice sa (setsL (L.map (hset (pcs l d)))).length sc], .int .i64 0]) ∧ OwnP w' w.heap.size (some ⟨g1, 0, none⟩) c1 L ∧ OwnI w' w.heap.size ka kc (classL (L.map (hset (pcs l d)))) ∧ SetsO w' w.heap.size sa sc (setsL (L.map (hset (pcs l d)))) vs ∧ (L.Pairwise fun p q => p.n < q.n) ∧ (∀ p, p ∈ L ↔ p ∈ rawC (pcs l d)) ∧ L.length ≤ 2 * l.length + 1 ∧ Below w.heap.size w w' := by
 have HPO : Hid (∀ q ∈ pcs l d, (q.1.ok ∧ q.2.ok) ∧ (q.2 = ptTop ∨ q.2.a ≤ 1000)) := fun q hq => by
  unfold pcs at hq
  obtain ⟨r, hr, rfl⟩ := List.mem_map.1 hq
  have := piece_ok (hrow.each r hr) (hall.out r hr) d hd
  exact ⟨⟨this.1, this.2.1⟩, this.2.2⟩
 have K := hidW (fun W => rightDim_any (d : Int) W)
 have hf : (decide (0 ≤ (d : Int)) && decide ((d : Int) < 7)) = true := by simp; omega
 rw [hf] at K
 have KR : Hid (∀ (r : Rl), r.ok → ∀ W, Calls Tryz.prog 60 #[.agg r.v] W fun e w' => e = .returned (.bool r.right) ∧ Below W.heap.size W w') := fun r ho W => rightRule_any r W ho
 have KP : Hid (∀ (r : Rl), r.ok → r.right = true → ∀ W, Top W → Calls Tryz.prog 61 #[.agg r.v, .int .i64 (d : Int)] W fun e w' => e = .returned (.agg (pqv (r.fst_ d, r.lst_ d))) ∧ Below W.heap.size W w') := fun r ho hr W hT => pieceOf_any r d hd W hT ho hr
 have hsr : Hid (∀ r : Rl, (Tryz.prog.info? 82).map (·.size) = some r.v.size) := info_rl
 have HSTR : Hid (∀ (W : World) (r : Rl), (Instr.storeAt 82 (.pointer (some ⟨W.heap.size, 0, none⟩)) (.agg r.v)).run Tryz.prog (W.alloc (.cells z17 82)) = .ok () (W.alloc (.cells r.v 82))) := store_rl
 obtain ⟨N, hN⟩ : ∃ N, l.length = N := ⟨_, rfl⟩
 have HN : Hid (l.length = N) := hN
 have HRow : Hid (RowR w a l) := hrow
 have HT : Hid (Top w) := hT
 rw [hN] at hl ⊢
 clear hN hrow hT hf
 have hl64 : ¬ (64 : Int) < (N : Int) := by omega
 have B0 := blk_new w zc 63
 obtain ⟨W1, hW1⟩ : ∃ W1, w.alloc (.cells zc 63) = W1 := ⟨_, rfl⟩
 have b1 := bel_nw hW1
 rw [hW1] at B0
 have HG6 : Hid (w.heap.size < W1.heap.size) := B0.lt
 go_enter Tryz.func34, Tryz.ntmps34
 go_wp2_with fail
 refine Calls.mono (K.out _) ?_
 rintro e W1' ⟨rfl, e1⟩
 rw [e1]
 clear e1
 go_wp2_with (refine wpList_makeC _ rfl _ _ rfl _ _ N (by rfl) (by rfl) (by omega) ?_)
 intro cur0 hc0
 obtain ⟨W2, hW2⟩ : ∃ W2, W1.alloc (.cells cur0 121) = W2 := ⟨_, rfl⟩
 have b2 := bel_al b1 hW2
 have B2 := B0.al hW2
 have P2 := blk_nw hW2
 have F0 : Hid (Filled cur0 (pcs l d) 0) := ⟨by rw [hc0]; unfold pcs; rw [List.length_map, HN.out], fun i q j hi => by omega⟩
 rw [hW2]
 clear hW1 hW2 b1 B0
 go_wp2_with fail
 go_loopw [27] (fun i wr => ∃ (n : Nat) (cur : Array Value), n ≤ N ∧ i = .int .i64 n ∧ Hid (Filled cur (pcs l d) n) ∧ Blk wr W1.heap.size 121 cur ∧ Blk wr w.heap.size 63 zc ∧ Below w.heap.size w wr) (fun i _ => N - (intOf i).toNat)
 case atStart => exact ⟨0, cur0, Nat.zero_le _, rfl, F0, P2, B2, b2⟩
 case round =>
  clear P2 B2 b2 F0 hc0
  obtain ⟨n, cur, hn, rfl, FI, PB, RB, bw⟩ := hrel
  by_cases hlt : n < N
  ·have ik : (n : Int) < (N : Int) := by omega
   have in0 : (0 : Int) ≤ (n : Int) := by omega
   have hw1 : IntKind.i64.wrap ((n : Int) + 1) = ((n + 1 : Nat) : Int) := by simp [IntKind.wrap, IntKind.bits, IntKind.signed]; omega
   obtain ⟨r, hr⟩ : ∃ r, l[n]? = some r := ⟨_, List.getElem?_eq_getElem (by rw [HN.out]; exact hlt)⟩
   have HR : Hid (l[n]? = some r) := hr
   have HRO : Hid r.ok := HRow.out.each r (List.mem_of_getElem? hr)
   have HRW : Hid (RowR wr a l) := HRow.out.low bw
   obtain ⟨b, off, ha, hc⟩ := HRW.out.cells n r hr
   have hs1 := hsr.out r
   have hst := HSTR.out wr r
   have KR' : Hid _ := KR.out r HRO.out
   have HRR : Hid (r.right = true) := hall.out r (List.mem_of_getElem? hr)
   have KP' : Hid _ := KP.out r HRO.out HRR.out
   clear hr
   subst ha
   obtain ⟨RA, hRA⟩ : ∃ RA, r.v = RA := ⟨_, rfl⟩
   rw [hRA] at hs1 hc hst KR' KP'
   clear hRA
   have hB := blk_new wr RA 82
   obtain ⟨W3, hW3⟩ : ∃ W3, wr.alloc (.cells RA 82) = W3 := ⟨_, rfl⟩
   have b3 := bel_nw hW3
   have bw3 := bel_tr bw b3
   have PB3 := PB.al hW3
   have RB3 := RB.al hW3
   rw [hW3] at hB hst
   have HW3 : Hid (wr.alloc (.cells RA 82) = W3) := hW3
   clear hW3 PB RB
   go_wp2_with (first
    | (refine wpList_load_at rfl _ _ rfl b (off + n * 17) (by rfl) _ hc Tryz.underlying82 hs1 ?_)
    | (refine wpList_store_new _ _ rfl _ _ _ rfl _ _ rfl rfl hst ?_)
    | (refine wpList_load_at rfl _ _ rfl _ 0 (by rfl) _ hB.at_ Tryz.underlying82 hs1 ?_))
   refine (KR'.out _).mono ?_
   rintro e W4 ⟨rfl, b34⟩
   have bw4 := bel_tr bw3 b34
   have PB4 := PB3.kept b34
   have RB4 := RB3.kept b34
   have hB4 := hB.kept b34
   clear KR' hc hst hB PB3 RB3 b34 bw3 b3
   rw [HRR.out]
   obtain ⟨q, hq⟩ : ∃ q, (r.fst_ d, r.lst_ d) = q := ⟨_, rfl⟩
   have HQ : Hid ((pcs l d)[n]? = some q) := by
    show _ = _
    unfold pcs
    rw [List.getElem?_map, HR.out, ← hq]
    rfl
   rw [hq] at KP'
   clear hq
   have HT4 : Hid (Top W4) := HT.out.below bw4
   have hsz : n * 6 + (pqv q).size ≤ cur.size := by
    have := FI.out.1
    have h2 : (pcs l d).length = N := by unfold pcs; rw [List.length_map, HN.out]
    simp only [List.size_toArray, List.length_cons, List.length_nil]
    omega
   have hsq : Hid ((Tryz.prog.info? 121).map (·.size) = some (pqv q).size) := by show _ = _; kernel_rfl
   have hall1 : Hid ((pqv q).all (·.oneCell') = true) := by show _ = _; kernel_rfl
   go_wp2_with (first
    | (refine wpList_load_at rfl _ _ rfl _ 0 (by rfl) _ hB4.at_ Tryz.underlying82 hs1 ?_))
   refine (KP'.out _ HT4.out).mono ?_
   rintro e W5 ⟨rfl, b45⟩
   have bw5 := bel_tr bw4 b45
   have PB5 := PB4.kept b45
   have RB5 := RB4.kept b45
   clear KP' b45 PB4 RB4 hB4 bw4
   have FI' : Hid (Filled (setMany cur (n * 6) (pqv q).toList) (pcs l d) (n + 1)) := FI.out.put HQ.out
   have PB6 := PB5.set (setMany cur (n * 6) (pqv q).toList)
   have RB6 := RB5.other (Nat.ne_of_lt HG6.out) (setMany cur (n * 6) (pqv q).toList)
   have bw6 := below_setRow bw5 (Nat.le_of_lt HG6.out) (setMany cur (n * 6) (pqv q).toList)
   obtain ⟨QA, hQA⟩ : ∃ QA, pqv q = QA := ⟨_, rfl⟩
   have hsq' := hsq.out
   have hall1' := hall1.out
   rw [hQA] at hsz FI' PB6 RB6 bw6 hsq' hall1' ⊢
   clear hQA FI
   go_wp2_with (refine wpList_store_off rfl 121 _ _ rfl W1.heap.size (n * 6) 121 QA cur _ (by rfl) (by rfl) PB5 hsq' hsz hall1' rfl ?_)
   exact ⟨⟨n + 1, _, by omega, by first | rfl | (congr 1), FI', PB6, RB6, bw6⟩, by simp only [intOf]; omega⟩
  ·have hnN : n = N := by omega
   subst hnN
   have ik : ¬ (n : Int) < (n : Int) := by omega
   have HPL : Hid ((pcs l d).length = n) := by show _ = _; unfold pcs; rw [List.length_map, HN.out]
   have HFI : Hid (Filled cur (pcs l d) (pcs l d).length) := by show Filled _ _ _; rw [HPL.out]; exact FI
   have HPK : Hid (∀ q ∈ pcs l d, q.1.ok ∧ q.2.ok) := fun q hq => (HPO.out q hq).1
   have KS : Hid _ := starts_any (some ⟨W1.heap.size, 0, none⟩) n (pcs l d) wr (HT.out.below bw) (by rw [HPL.out]; omega) (HFI.out.row PB HPK.out) (fun q hq => (HPO.out q hq).2)
   rw [HPL.out] at KS
   clear FI
   go_wp2_with fail
   refine Calls.mono KS.out ?_
   rintro e W3 ⟨g1, c1, L, rfl, OL, sortL, memL, lenL, b3⟩
   have HSL : Hid (L.Pairwise fun p q => p.n < q.n) := sortL
   have HML : Hid (∀ p, p ∈ L ↔ p ∈ rawC (pcs l d)) := memL
   have HLL : Hid (L.length ≤ 2 * n + 1) := lenL
   have HOL : Hid (OwnP W3 w.heap.size (some ⟨g1, 0, none⟩) c1 L) := OL.base bw.size
   have HLO : Hid (∀ p ∈ L, p.ok) := fun p hp => raw_ok HPK.out (fun q hq => (HPO.out q hq).2) p ((HML.out p).1 hp)
   have bw3 := bel_tr bw b3
   have PB3 := PB.kept b3
   have RB3 := RB.kept b3
   obtain ⟨M, hM⟩ : ∃ M, L.length = M := ⟨_, rfl⟩
   have HM : Hid (L.length = M) := hM
   rw [hM] at lenL ⊢
   clear sortL memL OL hM KS b3 PB RB bw
   have hst : (Instr.storeAt 63 (.pointer (some ⟨W3.heap.size, 0, none⟩)) (.agg #[.slice (some ⟨g1, 0, none⟩) M c1, .slice none 0 0, .slice none 0 0])).run Tryz.prog (W3.alloc (.cells zc 63)) = .ok () (W3.alloc (.cells #[.slice (some ⟨g1, 0, none⟩) M c1, .slice none 0 0, .slice none 0 0] 63)) := run_storeAt_new (P := Tryz.prog) W3 63 zc _ (by kernel_rfl) rfl (by kernel_rfl)
   have B9 := blk_new W3 #[.slice (some ⟨g1, 0, none⟩) M c1, .slice none 0 0, .slice none 0 0] 63
   obtain ⟨W4, hW4⟩ : ∃ W4, W3.alloc (.cells #[.slice (some ⟨g1, 0, none⟩) M c1, .slice none 0 0, .slice none 0 0] 63) = W4 := ⟨_, rfl⟩
   have b34 := bel_nw hW4
   have bw4 := bel_tr bw3 b34
   rw [hW4] at B9 hst
   have HG9 : Hid (w.heap.size < W3.heap.size) := RB3.lt
   have CI0 : Hid (CutI w.heap.size W4 w.heap.size W1.heap.size cur g1 c1 L none 0 [] none 0 [] []) := ⟨RB3.kept b34, PB3.kept b34, HOL.out.below b34, OwnI.nil _ _, SetsO.nil _ _, fun i s ai ci hs => by simp at hs⟩
   have d0 := B9.cell 0 (.slice (some ⟨g1, 0, none⟩) M c1) rfl
   have HB9 : Hid (Blk W4 W3.heap.size 63 #[.slice (some ⟨g1, 0, none⟩) M c1, .slice none 0 0, .slice none 0 0]) := B9
   clear B9 b34 RB3 PB3 bw3 HOL hW4
   go_wp2_with (first | (refine wpList_store_new _ _ rfl _ _ _ rfl _ _ rfl rfl hst ?_))
   clear d0 hst
   go_loopw [49] (fun i wr => ∃ (m : Nat) (ka : Option Addr) (kc : Nat) (sa : Option Addr) (sc : Nat) (vs : List Value), m ≤ M ∧ i = .int .i64 m ∧ Hid (Blk wr W3.heap.size 63 #[.slice (some ⟨g1, 0, none⟩) M c1, .slice ka m kc, .slice sa (((L.take m).map (hset (pcs l d))).foldl putS []).length sc]) ∧ Hid (CutI w.heap.size wr w.heap.size W1.heap.size cur g1 c1 L ka kc (classF [] ((L.take m).map (hset (pcs l d)))) sa sc (((L.take m).map (hset (pcs l d))).foldl putS []) vs) ∧ Below w.heap.size w wr) (fun i _ => M - (intOf i).toNat)
   case atStart => exact ⟨0, none, 0, none, 0, [], Nat.zero_le _, rfl, by simpa using HB9, by simpa [classF] using CI0, bw4⟩
   case round =>
    clear HB9 CI0 bw4
    obtain ⟨m, ka, kc, sa, sc, vs, hm, rfl, HB, HC, bw⟩ := hrel
    obtain ⟨S, hS⟩ : ∃ S, ((L.take m).map (hset (pcs l d))).foldl putS [] = S := ⟨_, rfl⟩
    obtain ⟨Kl, hKl⟩ : ∃ Kl, classF [] ((L.take m).map (hset (pcs l d))) = Kl := ⟨_, rfl⟩
    have HS : Hid (((L.take m).map (hset (pcs l d))).foldl putS [] = S) := hS
    have HK0 : Hid (classF [] ((L.take m).map (hset (pcs l d))) = Kl) := hKl
    have HKl : Hid (Kl.length = m) := by
     show _ = _
     rw [← hKl, classF_len, List.length_map, List.length_take, HM.out]
     omega
    rw [hS] at HB HC
    rw [hKl] at HC
    have HSm : Hid (∀ s ∈ S, s.length ≤ 64) := fun s hs => by
     rw [← hS] at hs
     have := sets_mem hs
     obtain ⟨x, _, rfl⟩ := List.mem_map.1 this
     have := hsN_len (pcs l d) x (pcs l d).length
     have h2 := HPL.out
     show (hsN (pcs l d) x (pcs l d).length).length ≤ 64
     omega
    have hSl : S.length ≤ m := by
     rw [← hS]
     have := sets_len ((L.take m).map (hset (pcs l d)))
     rw [List.length_map, List.length_take, HM.out] at this
     have h2 : min m M = m := by omega
     rw [h2] at this
     exact this
    clear hS hKl
    by_cases hlt : m < M
    ·have imk : (m : Int) < (M : Int) := by omega
     have im0 : (0 : Int) ≤ (m : Int) := by omega
     have hw1 : IntKind.i64.wrap ((m : Int) + 1) = ((m + 1 : Nat) : Int) := by simp [IntKind.wrap, IntKind.bits, IntKind.signed]; omega
     obtain ⟨x, hx⟩ : ∃ x, L[m]? = some x := ⟨_, List.getElem?_eq_getElem (by rw [HM.out]; exact hlt)⟩
     have HX : Hid (L[m]? = some x) := hx
     obtain ⟨x0, x1, x2⟩ := HC.out.sts.cells hx
     have HTK : Hid (L.take (m + 1) = L.take m ++ [x]) := by show _ = _; rw [List.take_add_one, hx]; rfl
     obtain ⟨W5, hW5⟩ : ∃ W5, wr.alloc (.cells x.v 86) = W5 := ⟨_, rfl⟩
     have b5 := bel_nw hW5
     have bw5 := bel_tr bw b5
     have HB5 : Hid (Blk W5 W3.heap.size 63 #[.slice (some ⟨g1, 0, none⟩) M c1, .slice ka m kc, .slice sa S.length sc]) := HB.out.kept b5
     have HC5 : Hid _ := HC.out.below b5
     have HL5 : Hid (wr.heap.size < W5.heap.size) := (blk_nw hW5).lt
     have KH : Hid _ := holders_any (some ⟨W1.heap.size, 0, none⟩) n (pcs l d) x W5 (by rw [HPL.out]; omega) (HFI.out.row HC5.out.pcs HPK.out)
     rw [HPL.out] at KH
     obtain ⟨s, hs⟩ : ∃ s, hset (pcs l d) x = s := ⟨_, rfl⟩
     have HSX : Hid (hset (pcs l d) x = s) := hs
     have hsl : s.length ≤ 64 := by
      have := hsN_len (pcs l d) x (pcs l d).length
      have h2 := HPL.out
      rw [← hs]
      show (hsN (pcs l d) x (pcs l d).length).length ≤ 64
      omega
     rw [hs] at KH
     clear hs hx
     obtain ⟨xa, xb, xc⟩ := x
     simp only at x0 x1 x2
     have HW5 : Hid (wr.alloc (.cells #[.int .u64 xa, .int .u64 xb, .int .u64 xc] 86) = W5) := hW5
     clear hW5
     go_wp2_with fail
     rw [HW5.out]
     refine Calls.mono KH.out ?_
     rintro e W6 ⟨ya, yc, rfl, oy, b56⟩
     have HOY : Hid (OwnI W6 W5.heap.size ya yc s) := oy
     have bw6 := bel_tr bw5 b56
     have HB6 : Hid (Blk W6 W3.heap.size 63 #[.slice (some ⟨g1, 0, none⟩) M c1, .slice ka m kc, .slice sa S.length sc]) := HB5.out.kept b56
     have HC6 : Hid _ := HC5.out.below b56
     clear oy b56 KH x0 x1 x2 bw5 b5 HB5 HC5
     obtain ⟨W7, hW7⟩ : ∃ W7, W6.alloc (.cells #[.slice ya s.length yc] 24) = W7 := ⟨_, rfl⟩
     have b7 := bel_nw hW7
     have bw7 := bel_tr bw6 b7
     have HB7 : Hid (Blk W7 W3.heap.size 63 #[.slice (some ⟨g1, 0, none⟩) M c1, .slice ka m kc, .slice sa S.length sc]) := HB6.out.kept b7
     have HC7 : Hid _ := HC6.out.below b7
     have HBX : Hid (Blk W7 W6.heap.size 24 #[.slice ya s.length yc]) := blk_nw hW7
     have HOY7 : Hid (OwnI W7 W5.heap.size ya yc s) := HOY.out.below b7
     have e2 := HB7.out.cell 2 (.slice sa S.length sc) rfl
     have KI : Hid _ := indexS_any sa ya sc yc W6.heap.size (S.map ints) (ints s) W7 (HC7.out.set.rows (by omega) (fun t ht => by have := HSm.out t ht; omega)) (HOY7.out.row (by omega)) (by rw [List.length_map]; exact HBX.out.cell 0 _ rfl)
     rw [List.length_map] at KI
     have HSS : Hid (((L.take m ++ [(⟨xa, xb, xc⟩ : Pt)]).map (hset (pcs l d))).foldl putS [] = putS S s) := by
      show _ = _
      rw [List.map_append, List.foldl_append, HS.out]
      show putS S (hset (pcs l d) ⟨xa, xb, xc⟩) = _
      rw [HSX.out]
     have HKS : Hid (classF [] ((L.take m ++ [(⟨xa, xb, xc⟩ : Pt)]).map (hset (pcs l d))) = Kl ++ [putN S s]) := by
      show _ = _
      rw [List.map_append]
      show classF [] (_ ++ [hset (pcs l d) ⟨xa, xb, xc⟩]) = _
      rw [classF_snoc, HK0.out, HS.out, HSX.out]
     have HW7 : Hid (W6.alloc (.cells #[.slice ya s.length yc] 24) = W7) := hW7
     cases hfi : S.findIdx? (· == s) with
     | some i =>
      obtain ⟨i1, i2, i3, i4⟩ := ix_some hfi
      have HPN : Hid (putN S s = i) := i2
      have HPS : Hid (putS S s = S) := i3
      rw [i1] at KI
      clear i1 i2 i3 hfi
      have hi0 : ¬ (i : Int) < 0 := by omega
      go_wp2_with fail
      refine Calls.mono KI.out ?_
      rintro e W8 ⟨rfl, b78⟩
      have bwW8 := bel_tr bw7 b78
      have HBW8 : Hid (Blk W8 W3.heap.size 63 #[.slice (some ⟨g1, 0, none⟩) M c1, .slice ka m kc, .slice sa S.length sc]) := HB7.out.kept b78
      have HCW8 : Hid (CutI w.heap.size W8 w.heap.size W1.heap.size cur g1 c1 L ka kc Kl sa sc S vs) := HC7.out.below b78
      clear b78 KI e2 bw7 HB7 HC7 bw6 HB6 HC6 hW7 b7
      have d1 := HBW8.out.cell 1 (.slice ka m kc) rfl
      have hk5 : OwnI (W8.alloc (.cells #[.int .i64 (i : Int)] 3)) w.heap.size ka kc Kl := HCW8.out.cls.below (bel_nw rfl)
      have hcell : (W8.alloc (.cells #[.int .i64 (i : Int)] 3)).cell? ⟨W8.heap.size, 0, none⟩ = some (.int .i64 (i : Nat)) := (blk_new W8 _ _).cell 0 _ rfl
      have hbase : w.heap.size ≤ (W8.alloc (.cells #[.int .i64 (i : Int)] 3)).heap.size := by
       have := bwW8.size
       rw [World.size_alloc]
       omega
      go_wp2_with (at_builtin; refine wpList_appI _ rfl _ _ rfl w.heap.size ka kc Kl (by rw [HKl.out]; rfl) hk5 ⟨W8.heap.size, 0, none⟩ 1 i rfl hcell (by rw [HKl.out]; omega) hbase ?_)
      intro gk ck WA okA bA grA atA ltA
      have bwA : Below w.heap.size w WA := (bwW8.alloc bwW8.size _).trans bA
      have HCA : Hid (CutI w.heap.size WA w.heap.size W1.heap.size cur g1 c1 L (some ⟨gk, 0, none⟩) ck (Kl ++ [i]) sa sc S vs) := (HCW8.out.below (bel_nw rfl)).moreK grA okA (by simpa using atA)
      have HBA : Hid (Blk WA W3.heap.size 63 #[.slice (some ⟨g1, 0, none⟩) M c1, .slice ka m kc, .slice sa S.length sc]) := (HBW8.out.alloc _).far grA (OwnI.off hk5 (HBW8.out.alloc _) (by decide))
      have a1 := HBA.out.cell 1 (.slice ka m kc) rfl
      have f1 := HBA.out.frozen 1
      have HE : Hid (WA.setCell ⟨W3.heap.size, 1, none⟩ (.slice (some ⟨gk, 0, none⟩) (m + 1) ck) = WA.setRow W3.heap.size #[.slice (some ⟨g1, 0, none⟩) M c1, .slice (some ⟨gk, 0, none⟩) (m + 1) ck, .slice sa S.length sc]) := setCell_eq_setRow WA W3.heap.size 1 _ 63 (0, 0) _ HBA.out
      have HCB : Hid _ := HCA.out.wrote HBA.out (Nat.ne_of_gt HG9.out) #[.slice (some ⟨g1, 0, none⟩) M c1, .slice (some ⟨gk, 0, none⟩) (m + 1) ck, .slice sa S.length sc]
      have HBB : Hid (Blk _ _ _ _) := HBA.out.set #[.slice (some ⟨g1, 0, none⟩) M c1, .slice (some ⟨gk, 0, none⟩) (m + 1) ck, .slice sa S.length sc]
      have bwB := below_setRow bwA (Nat.le_of_lt HG9.out) #[.slice (some ⟨g1, 0, none⟩) M c1, .slice (some ⟨gk, 0, none⟩) (m + 1) ck, .slice sa S.length sc]
      rw [HKl.out]
      clear d1 hk5 hcell hbase bA grA okA atA ltA
      go_wp2
      rw [HE.out]
      refine ⟨⟨m + 1, some ⟨gk, 0, none⟩, ck, sa, sc, vs, by omega, by first | rfl | (congr 1), ?_, ?_, bwB⟩, by simp only [intOf]; omega⟩
      ·rw [HTK.out, HSS.out, HPS.out]; exact HBB
      ·rw [HTK.out, HKS.out, HSS.out, HPN.out, HPS.out]; exact HCB
     | none =>
      obtain ⟨i1, i2, i3⟩ := ix_none hfi
      have HPN : Hid (putN S s = S.length) := i2
      have HPS : Hid (putS S s = S ++ [s]) := i3
      rw [i1] at KI
      clear i1 i2 i3 hfi
      go_wp2_with fail
      refine Calls.mono KI.out ?_
      rintro e W8 ⟨rfl, b78⟩
      have bw8 := bel_tr bw7 b78
      have HB8 : Hid (Blk W8 W3.heap.size 63 #[.slice (some ⟨g1, 0, none⟩) M c1, .slice ka m kc, .slice sa S.length sc]) := HB7.out.kept b78
      have HC8 : Hid (CutI w.heap.size W8 w.heap.size W1.heap.size cur g1 c1 L ka kc Kl sa sc S vs) := HC7.out.below b78
      have HBX8 : Hid (Blk W8 W6.heap.size 24 #[.slice ya s.length yc]) := HBX.out.kept b78
      have HOY8 : Hid (OwnI W8 W5.heap.size ya yc s) := HOY7.out.below b78
      have HAP : Hid (∀ y, ya = some y → ka.map (·.block) ≠ some y.block) := fun y hy e => by
       have h1 := (HOY.out.lt y hy).1
       have h2 := HL5.out
       cases hka : ka with
       | none => rw [hka] at e; cases e
       | some z =>
        have h3 := (HC.out.cls.lt z hka).2.1
        rw [hka] at e
        simp only [Option.map_some, Option.some.injEq] at e
        omega
      have HB58 : Hid (w.heap.size ≤ W5.heap.size) := by
       have := bw.size
       have := HL5.out
       show _ ≤ _
       omega
      clear b78 KI e2 bw7 HB7 HC7 bw6 HB6 HC6 hW7 b7 HOY7 HBX
      have d2 := HB8.out.cell 2 (.slice sa S.length sc) rfl
      have dx := HBX8.out.cell 0 (.slice ya s.length yc) rfl
      have hk5 := (HC8.out.set.below (bel_nw rfl : Below W8.heap.size W8 (W8.alloc (.cells #[.slice ya s.length yc] 24)))).row
      have hcell : (W8.alloc (.cells #[.slice ya s.length yc] 24)).cell? ⟨W8.heap.size, 0, none⟩ = some (.slice ya s.length yc) := (blk_new W8 _ _).cell 0 _ rfl
      have hbase : w.heap.size ≤ (W8.alloc (.cells #[.slice ya s.length yc] 24)).heap.size := by
       have := bw8.size
       rw [World.size_alloc]
       omega
      go_wp2_with (at_builtin; refine wpList_appS _ rfl _ _ rfl w.heap.size sa sc S.length vs rfl hk5 ⟨W8.heap.size, 0, none⟩ 1 ya s.length yc rfl hcell (by omega) hbase ?_)
      intro gs cs' W9 ok9 b9 gr9 at9 lt9
      have bw9 : Below w.heap.size w W9 := (bw8.alloc bw8.size _).trans b9
      have HC9 : Hid (CutI w.heap.size W9 w.heap.size W1.heap.size cur g1 c1 L ka kc Kl (some ⟨gs, 0, none⟩) cs' (S ++ [s]) (vs ++ [.slice ya s.length yc])) := (HC8.out.below (bel_nw rfl)).moreS gr9 ok9 ((HOY8.out.below (bel_nw rfl)).base HB58.out) HAP.out
      have HB9' : Hid (Blk W9 W3.heap.size 63 #[.slice (some ⟨g1, 0, none⟩) M c1, .slice ka m kc, .slice sa S.length sc]) := (HB8.out.alloc _).far gr9 (HC8.out.set.off HB8.out (by decide))
      have a2 := HB9'.out.cell 2 (.slice sa S.length sc) rfl
      have f2 := HB9'.out.frozen 2
      have HLS : Hid ((S ++ [s]).length = S.length + 1) := by show _ = _; simp
      have HE2 : Hid (W9.setCell ⟨W3.heap.size, 2, none⟩ (.slice (some ⟨gs, 0, none⟩) (S.length + 1) cs') = W9.setRow W3.heap.size #[.slice (some ⟨g1, 0, none⟩) M c1, .slice ka m kc, .slice (some ⟨gs, 0, none⟩) (S.length + 1) cs']) := setCell_eq_setRow W9 W3.heap.size 2 _ 63 (0, 0) _ HB9'.out
      have HCWC : Hid (CutI w.heap.size (W9.setCell ⟨W3.heap.size, 2, none⟩ (.slice (some ⟨gs, 0, none⟩) (S.length + 1) cs')) w.heap.size W1.heap.size cur g1 c1 L ka kc Kl (some ⟨gs, 0, none⟩) cs' (S ++ [s]) (vs ++ [.slice ya s.length yc])) := by
       show CutI _ _ _ _ _ _ _ _ _ _ _ _ _ _ _
       rw [HE2.out]
       exact HC9.out.wrote HB9'.out (Nat.ne_of_gt HG9.out) _
      have HBWC : Hid (Blk (W9.setCell ⟨W3.heap.size, 2, none⟩ (.slice (some ⟨gs, 0, none⟩) (S.length + 1) cs')) W3.heap.size 63 #[.slice (some ⟨g1, 0, none⟩) M c1, .slice ka m kc, .slice (some ⟨gs, 0, none⟩) (S ++ [s]).length cs']) := by
       show Blk _ _ _ _
       rw [HE2.out, HLS.out]
       exact HB9'.out.set _
      have bwWC : Below w.heap.size w (W9.setCell ⟨W3.heap.size, 2, none⟩ (.slice (some ⟨gs, 0, none⟩) (S.length + 1) cs')) := by
       rw [HE2.out]
       exact below_setRow bw9 (Nat.le_of_lt HG9.out) _
      obtain ⟨WC, hWC⟩ : ∃ WC, W9.setCell ⟨W3.heap.size, 2, none⟩ (.slice (some ⟨gs, 0, none⟩) (S.length + 1) cs') = WC := ⟨_, rfl⟩
      rw [hWC] at HCWC HBWC bwWC
      clear d2 dx hk5 hcell hbase b9 gr9 ok9 at9 lt9
      have d1 := HBWC.out.cell 1 (.slice ka m kc) rfl
      have hk5 : OwnI (WC.alloc (.cells #[.int .i64 (S.length : Int)] 3)) w.heap.size ka kc Kl := HCWC.out.cls.below (bel_nw rfl)
      have hcell : (WC.alloc (.cells #[.int .i64 (S.length : Int)] 3)).cell? ⟨WC.heap.size, 0, none⟩ = some (.int .i64 (S.length : Nat)) := (blk_new WC _ _).cell 0 _ rfl
      have hbase : w.heap.size ≤ (WC.alloc (.cells #[.int .i64 (S.length : Int)] 3)).heap.size := by
       have := bwWC.size
       rw [World.size_alloc]
       omega
      go_wp2_with (at_builtin; refine wpList_appI _ rfl _ _ rfl w.heap.size ka kc Kl (by rw [HKl.out]; rfl) hk5 ⟨WC.heap.size, 0, none⟩ 1 S.length rfl hcell (by rw [HKl.out]; omega) hbase ?_)
      intro gk ck WA okA bA grA atA ltA
      have bwA : Below w.heap.size w WA := (bwWC.alloc bwWC.size _).trans bA
      have HCA : Hid (CutI w.heap.size WA w.heap.size W1.heap.size cur g1 c1 L (some ⟨gk, 0, none⟩) ck (Kl ++ [S.length]) (some ⟨gs, 0, none⟩) cs' (S ++ [s]) (vs ++ [.slice ya s.length yc])) := (HCWC.out.below (bel_nw rfl)).moreK grA okA (by simpa using atA)
      have HBA : Hid (Blk WA W3.heap.size 63 #[.slice (some ⟨g1, 0, none⟩) M c1, .slice ka m kc, .slice (some ⟨gs, 0, none⟩) (S ++ [s]).length cs']) := (HBWC.out.alloc _).far grA (OwnI.off hk5 (HBWC.out.alloc _) (by decide))
      have a1 := HBA.out.cell 1 (.slice ka m kc) rfl
      have f1 := HBA.out.frozen 1
      have HE : Hid (WA.setCell ⟨W3.heap.size, 1, none⟩ (.slice (some ⟨gk, 0, none⟩) (m + 1) ck) = WA.setRow W3.heap.size #[.slice (some ⟨g1, 0, none⟩) M c1, .slice (some ⟨gk, 0, none⟩) (m + 1) ck, .slice (some ⟨gs, 0, none⟩) (S ++ [s]).length cs']) := setCell_eq_setRow WA W3.heap.size 1 _ 63 (0, 0) _ HBA.out
      have HCB : Hid _ := HCA.out.wrote HBA.out (Nat.ne_of_gt HG9.out) #[.slice (some ⟨g1, 0, none⟩) M c1, .slice (some ⟨gk, 0, none⟩) (m + 1) ck, .slice (some ⟨gs, 0, none⟩) (S ++ [s]).length cs']
      have HBB : Hid (Blk _ _ _ _) := HBA.out.set #[.slice (some ⟨g1, 0, none⟩) M c1, .slice (some ⟨gk, 0, none⟩) (m + 1) ck, .slice (some ⟨gs, 0, none⟩) (S ++ [s]).length cs']
      have bwB := below_setRow bwA (Nat.le_of_lt HG9.out) #[.slice (some ⟨g1, 0, none⟩) M c1, .slice (some ⟨gk, 0, none⟩) (m + 1) ck, .slice (some ⟨gs, 0, none⟩) (S ++ [s]).length cs']
      rw [HKl.out]
      clear d1 hk5 hcell hbase bA grA okA atA ltA
      go_wp2
      rw [HE.out]
      refine ⟨⟨m + 1, some ⟨gk, 0, none⟩, ck, (some ⟨gs, 0, none⟩), cs', (vs ++ [.slice ya s.length yc]), by omega, by first | rfl | (congr 1), ?_, ?_, bwB⟩, by simp only [intOf]; omega⟩
      ·rw [HTK.out, HSS.out, HPS.out]; exact HBB
      ·rw [HTK.out, HKS.out, HSS.out, HPN.out, HPS.out]; exact HCB
    ·have hmM : m = M := by omega
     subst hmM
     have imk : ¬ (m : Int) < (m : Int) := by omega
     have HLT : Hid (L.take m = L) := by show _ = _; rw [← HM.out, List.take_length]
     have HRR : Hid (setsL (L.map (hset (pcs l d))) = S ∧ classL (L.map (hset (pcs l d))) = Kl) := by
      refine ⟨?_, ?_⟩
      ·rw [← HS.out, HLT.out]; rfl
      ·rw [← HK0.out, HLT.out]; rfl
     have c0 := HB.out.cell 0 (.slice (some ⟨g1, 0, none⟩) m c1) rfl
     have c1' := HB.out.cell 1 (.slice ka m kc) rfl
     have c2 := HB.out.cell 2 (.slice sa S.length sc) rfl
     have RB := HC.out.res
     go_wp2_with (refine wpList_st rfl 63 _ _ rfl w.heap.size #[.slice (some ⟨g1, 0, none⟩) m c1, .slice ka m kc, .slice sa S.length sc] zc (by rfl) (by rfl) RB (by kernel_rfl) rfl (by kernel_rfl) ?_)
     have HCZ : Hid (OwnP (wr.setRow w.heap.size #[.slice (some ⟨g1, 0, none⟩) m c1, .slice ka m kc, .slice sa S.length sc]) w.heap.size (some ⟨g1, 0, none⟩) c1 L ∧ OwnI (wr.setRow w.heap.size #[.slice (some ⟨g1, 0, none⟩) m c1, .slice ka m kc, .slice sa S.length sc]) w.heap.size ka kc Kl ∧ SetsO (wr.setRow w.heap.size #[.slice (some ⟨g1, 0, none⟩) m c1, .slice ka m kc, .slice sa S.length sc]) w.heap.size sa sc S vs) := HC.out.ended _
     refine ret_cell_tmp (k := 4) (j := 5) Tryz.f34 (by kernel_rfl) (RB.set _) Tryz.underlying63 (by kernel_rfl) (by rfl) (by rfl) rfl ⟨g1, c1, L, ka, kc, sa, sc, ?_, HCZ.out.1, ?_, ⟨vs, ?_⟩, HSL.out, HML.out, HLL.out, below_setRow bw (Nat.le_refl _) _⟩
     ·rw [HRR.out.1, HM.out]; rfl
     ·rw [HRR.out.2]; exact HCZ.out.2.1
     ·rw [HRR.out.1]; exact HCZ.out.2.2
end Go.Proofs.YtmfgjicfdjjihaaGreatDoor
