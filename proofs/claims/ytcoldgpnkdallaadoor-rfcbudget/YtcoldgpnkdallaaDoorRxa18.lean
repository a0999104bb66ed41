/- Texts joined: CkQ CkR CkT CkU -/
import Derived.Test.YtcoldgpnkdallaaDoorRxa17
namespace Go.Proofs.YtcoldgpnkdallaaDoor
open Go.RowKit
set_option linter.unusedVariables false
set_option linter.unusedSimpArgs false
set_option maxRecDepth 100000 in
set_option maxHeartbeats 16000000 in
theorem cut_wrong (a : Option Addr) (c : Nat) (l : List Rl) (d : Nat) (w : World) (hT : Top w) (hl : l.length ≤ 64) (hrow : RowR w a l) (hd : d < 7) (hall : Hid (∃ r ∈ l, r.right = false)) :
    Calls Tryd.prog 22 #[.slice a l.length c, .int .i64 (d : Int)] w fun e w' => e = .returned (.tuple #[.agg zc, .int .i64 1]) ∧ Below w.heap.size w w' := by
  have K := hidW (fun W => rightDim_any (d : Int) W)
  have hf : (decide (0 ≤ (d : Int)) && decide ((d : Int) < 7)) = true := by simp; omega
  rw [hf] at K
  have KR : Hid (∀ (r : Rl), r.ok → ∀ W, Calls Tryd.prog 47 #[.agg r.v] W fun e w' => e = .returned (.bool r.right) ∧ Below W.heap.size W w') := fun r ho W => rightRule_any r W ho
  have KP : Hid (∀ (r : Rl), r.ok → r.right = true → ∀ W, Top W → Calls Tryd.prog 48 #[.agg r.v, .int .i64 (d : Int)] W fun e w' => e = .returned (.agg (pqv (r.fst_ d, r.lst_ d))) ∧ Below W.heap.size W w') := fun r ho hr W hT => pieceOf_any r d hd W hT ho hr
  have hsr : Hid (∀ r : Rl, (Tryd.prog.info? 53).map (·.size) = some r.v.size) := info_rl
  have HSTR : Hid (∀ (W : World) (r : Rl), (Instr.storeAt 53 (.pointer (some ⟨W.heap.size, 0, none⟩)) (.agg r.v)).run Tryd.prog (W.alloc (.cells z17 53)) = .ok () (W.alloc (.cells r.v 53))) := store_rl
  obtain ⟨N, hN⟩ : ∃ N, l.length = N := ⟨_, rfl⟩
  have HN : Hid (l.length = N) := hN
  have HRow : Hid (RowR w a l) := hrow
  have HT : Hid (Top w) := hT
  rw [hN] at hl ⊢
  clear hN hrow hT hf
  have hl64 : ¬ (64 : Int) < (N : Int) := by omega
  have B0 := blk_new w zc 63
  obtain ⟨W1, hW1⟩ : ∃ W1, w.alloc (.cells zc 63) = W1 := ⟨_, rfl⟩
  have b1 := bel_nw hW1
  rw [hW1] at B0
  have HG6 : Hid (w.heap.size < W1.heap.size) := B0.lt
  go_enter Tryd.func22, Tryd.ntmps22
  go_wp2_with fail
  refine Calls.mono (K.out _) ?_
  rintro e W1' ⟨rfl, e1⟩
  rw [e1]
  clear e1
  go_wp2_with (refine wpList_makeC _ rfl _ _ rfl _ _ N (by rfl) (by rfl) (by omega) ?_)
  intro cur0 hc0
  obtain ⟨W2, hW2⟩ : ∃ W2, W1.alloc (.cells cur0 101) = W2 := ⟨_, rfl⟩
  have b2 := bel_al b1 hW2
  have B2 := B0.al hW2
  have P2 := blk_nw hW2
  have F0 : Hid (Filled cur0 (pcs l d) 0) := ⟨by rw [hc0]; unfold pcs; rw [List.length_map, HN.out], fun i q j hi => by omega⟩
  rw [hW2]
  clear hW1 hW2 b1 B0
  go_wp2_with fail
  go_loopw [27] (fun i wr => ∃ (n : Nat) (cur : Array Value), n ≤ N ∧ i = .int .i64 n ∧ Hid (Filled cur (pcs l d) n) ∧ Blk wr W1.heap.size 101 cur ∧ Blk wr w.heap.size 63 zc ∧ Below w.heap.size w wr ∧ Hid (∀ (j : Nat) (q : Rl), j < n → l[j]? = some q → q.right = true)) (fun i _ => N - (intOf i).toNat)
  case atStart => exact ⟨0, cur0, Nat.zero_le _, rfl, F0, P2, B2, b2, fun j q hj => by omega⟩
  case round =>
    clear P2 B2 b2 F0 hc0
    obtain ⟨n, cur, hn, rfl, FI, PB, RB, bw, HJ⟩ := hrel
    by_cases hlt : n < N
    · have ik : (n : Int) < (N : Int) := by omega
      have in0 : (0 : Int) ≤ (n : Int) := by omega
      have hw1 : IntKind.i64.wrap ((n : Int) + 1) = ((n + 1 : Nat) : Int) := by simp [IntKind.wrap, IntKind.bits, IntKind.signed]; omega
      obtain ⟨r, hr⟩ : ∃ r, l[n]? = some r := ⟨_, List.getElem?_eq_getElem (by rw [HN.out]; exact hlt)⟩
      have HR : Hid (l[n]? = some r) := hr
      have HRO : Hid r.ok := HRow.out.each r (List.mem_of_getElem? hr)
      have HRW : Hid (RowR wr a l) := HRow.out.low bw
      obtain ⟨b, off, ha, hc⟩ := HRW.out.cells n r hr
      have hs1 := hsr.out r
      have hst := HSTR.out wr r
      have KR' : Hid _ := KR.out r HRO.out
      clear hr
      subst ha
      obtain ⟨RA, hRA⟩ : ∃ RA, r.v = RA := ⟨_, rfl⟩
      rw [hRA] at hs1 hc hst KR'
      have HRA : Hid (r.v = RA) := hRA
      clear hRA
      have hB := blk_new wr RA 53
      obtain ⟨W3, hW3⟩ : ∃ W3, wr.alloc (.cells RA 53) = W3 := ⟨_, rfl⟩
      have b3 := bel_nw hW3
      have bw3 := bel_tr bw b3
      have PB3 := PB.al hW3
      have RB3 := RB.al hW3
      rw [hW3] at hB hst
      have HW3 : Hid (wr.alloc (.cells RA 53) = W3) := hW3
      clear hW3 PB RB
      go_wp2_with (first
        | (refine wpList_load_at rfl _ _ rfl b (off + n * 17) (by rfl) _ hc Tryd.underlying53 hs1 ?_)
        | (refine wpList_store_new _ _ rfl _ _ _ rfl _ _ rfl rfl hst ?_)
        | (refine wpList_load_at rfl _ _ rfl _ 0 (by rfl) _ hB.at_ Tryd.underlying53 hs1 ?_))
      refine (KR'.out _).mono ?_
      rintro e W4 ⟨rfl, b34⟩
      have bw4 := bel_tr bw3 b34
      have PB4 := PB3.kept b34
      have RB4 := RB3.kept b34
      have hB4 := hB.kept b34
      clear KR' hc hst hB PB3 RB3 b34 bw3 b3
      cases hrr : r.right with
      | false =>
        go_wp2_with (refine wpList_st rfl 63 _ _ rfl w.heap.size zc zc (by rfl) (by rfl) RB4 (by kernel_rfl) rfl (by kernel_rfl) ?_)
        refine ret_cell_tmp (k := 4) (j := 5) Tryd.f22 (by kernel_rfl) (RB4.set zc) Tryd.underlying63 (by kernel_rfl) (by rfl) (by rfl) rfl ⟨rfl, below_setRow bw4 (Nat.le_refl _) _⟩
      | true =>
        have HRR : Hid (r.right = true) := hrr
        have HJ' : Hid (∀ (j : Nat) (q : Rl), j < n + 1 → l[j]? = some q → q.right = true) := fun j q hj hq => by
          by_cases e : j = n
          · subst e
            rw [HR.out] at hq
            cases hq
            exact HRR.out
          · exact HJ.out j q (by omega) hq
        clear HJ hrr
        have KP' : Hid _ := KP.out r HRO.out HRR.out
        rw [HRA.out] at KP'
        obtain ⟨q, hq⟩ : ∃ q, (r.fst_ d, r.lst_ d) = q := ⟨_, rfl⟩
        have HQ : Hid ((pcs l d)[n]? = some q) := by
          show _ = _
          unfold pcs
          rw [List.getElem?_map, HR.out, ← hq]
          rfl
        rw [hq] at KP'
        clear hq
        have HT4 : Hid (Top W4) := HT.out.below bw4
        have hsz : n * 6 + (pqv q).size ≤ cur.size := by
          have := FI.out.1
          have h2 : (pcs l d).length = N := by unfold pcs; rw [List.length_map, HN.out]
          simp only [List.size_toArray, List.length_cons, List.length_nil]
          omega
        have hsq : Hid ((Tryd.prog.info? 101).map (·.size) = some (pqv q).size) := by show _ = _; kernel_rfl
        have hall1 : Hid ((pqv q).all (·.oneCell') = true) := by show _ = _; kernel_rfl
        go_wp2_with (first
          | (refine wpList_load_at rfl _ _ rfl _ 0 (by rfl) _ hB4.at_ Tryd.underlying53 hs1 ?_))
        refine (KP'.out _ HT4.out).mono ?_
        rintro e W5 ⟨rfl, b45⟩
        have bw5 := bel_tr bw4 b45
        have PB5 := PB4.kept b45
        have RB5 := RB4.kept b45
        clear KP' b45 PB4 RB4 hB4 bw4
        have FI' : Hid (Filled (setMany cur (n * 6) (pqv q).toList) (pcs l d) (n + 1)) := FI.out.put HQ.out
        have PB6 := PB5.set (setMany cur (n * 6) (pqv q).toList)
        have RB6 := RB5.other (Nat.ne_of_lt HG6.out) (setMany cur (n * 6) (pqv q).toList)
        have bw6 := below_setRow bw5 (Nat.le_of_lt HG6.out) (setMany cur (n * 6) (pqv q).toList)
        obtain ⟨QA, hQA⟩ : ∃ QA, pqv q = QA := ⟨_, rfl⟩
        have hsq' := hsq.out
        have hall1' := hall1.out
        rw [hQA] at hsz FI' PB6 RB6 bw6 hsq' hall1' ⊢
        clear hQA FI
        go_wp2_with (refine wpList_store_off rfl 101 _ _ rfl W1.heap.size (n * 6) 101 QA cur _ (by rfl) (by rfl) PB5 hsq' hsz hall1' rfl ?_)
        exact ⟨⟨n + 1, _, by omega, by first | rfl | (congr 1), FI', PB6, RB6, bw6, HJ'⟩, by simp only [intOf]; omega⟩
    · exfalso
      obtain ⟨r, hr, hf⟩ := hall.out
      obtain ⟨j, hj⟩ := List.getElem?_of_mem hr
      have hjl : j < l.length := (List.getElem?_eq_some_iff.1 hj).1
      have := HJ.out j r (by have := HN.out; omega) hj
      rw [hf] at this
      cases this
/-- An answer that tells whether something holds. -/
def Tells (e : Ending) (Q : Prop) : Prop := ∃ r, e = .returned (.bool r) ∧ (r = true ↔ Q)
theorem Tells.yes {Q : Prop} (h : Q) : Tells (.returned (.bool true)) Q := ⟨true, rfl, fun _ => h, fun _ => rfl⟩
theorem Tells.no {Q : Prop} (h : ¬ Q) : Tells (.returned (.bool false)) Q := ⟨false, rfl, fun e => (by cases e), fun e => absurd e h⟩
def RiseP (l : List Pt) : Prop := ∀ (i : Nat) (p q : Pt), l[i]? = some p → l[i + 1]? = some q → p.n < q.n
def RiseI (l : List Int) : Prop := (∀ x, l[0]? = some x → 0 ≤ x) ∧ ∀ (i : Nat) (x y : Int), l[i]? = some x → l[i + 1]? = some y → x < y
def RightK (K : List Int) (n : Nat) : Prop := ∀ x ∈ K, 0 ≤ x ∧ x < (n : Int)
def RightC (L : List Pt) (K : List Int) (S : List (List Int)) : Prop := L[0]? = some pt0 ∧ RiseP L ∧ K.length = L.length ∧ RightK K S.length ∧ ∀ s ∈ S, RiseI s
theorem RowP.at_ {w : World} {a : Option Addr} {l : List Pt} (h : RowP w a l) {i : Nat} {p : Pt} (hi : l[i]? = some p) : ∃ b off, a = some ⟨b, off, none⟩ ∧ w.cell? ⟨b, off + i * 3, none⟩ = some (.int .u64 p.a) ∧ w.cell? ⟨b, off + i * 3 + 1, none⟩ = some (.int .u64 p.b) ∧ w.cell? ⟨b, off + i * 3 + 2, none⟩ = some (.int .u64 p.c) := by
  obtain ⟨b, off, h1, h2⟩ := h.cells i p hi
  exact ⟨b, off, h1, h2.2 0 _ rfl, h2.2 1 _ rfl, h2.2 2 _ rfl⟩
/-- The class of a point. -/
def clsAt (L : List Pt) (K : List Int) (p : Pt) (x : Int) : Prop := ∃ (i : Nat) (s : Pt), L[i]? = some s ∧ s.n ≤ p.n ∧ (∀ (j : Nat) (t : Pt), i < j → L[j]? = some t → p.n < t.n) ∧ K[i]? = some x
/-- What Find answers. -/
def Finds (e : Ending) (L : List Pt) (K : List Int) (S : List (List Int)) (p : Pt) : Prop := (¬ RightC L K S ∧ e = .returned (.tuple #[.int .i64 0, .bool false])) ∨ (RightC L K S ∧ ∃ x, e = .returned (.tuple #[.int .i64 x, .bool true]) ∧ clsAt L K p x)
/-- The pieces of rules, as numbers. -/
abbrev spns (l : List Rl) (d : Nat) : List Spn := l.map (·.piece d)
theorem upto_low {r : Rl} (ro : r.ok) (hr : r.right = true) (d : Nat) (hd : d < 7) (hz : r.any_ d = false) : (r.upto d).a ≤ 1000 := by
  obtain ⟨r1, r2, r3, r4, r5, r6, r7⟩ := Rl.right_all hr
  match d, hd, hz with
  | 0, _, hz => simp [Rl.upto, ptNum]
  | 1, _, hz => simp [Rl.upto, ptNum]
  | 2, _, hz => exact (lastAd_ok ro.s (net_right r3 hz)).2
  | 3, _, hz => exact (lastAd_ok ro.d (net_right r4 hz)).2
  | 4, _, hz => simp [Rl.upto, ptNum]
  | 5, _, hz => simp [Rl.upto, ptNum]
  | 6, _, hz => simp [Rl.upto, ptNum]
theorem upto_top {r : Rl} (ro : r.ok) (hr : r.right = true) (d : Nat) (hd : d < 7) : r.lst_ d = ptTop ↔ r.any_ d = true := by
  have h := piece_ok ro hr d hd
  cases hz : r.any_ d with
  | true => simp [Rl.lst_, hz]
  | false =>
    simp only [Bool.false_eq_true, iff_false]
    intro e
    rcases h.2.2 with h3 | h3
    · have h4 := (piece_ok ro hr d hd)
      have hl : r.lst_ d = r.upto d := by simp [Rl.lst_, hz]
      have hb := upto_low ro hr d hd hz
      rw [← hl, e] at hb
      simp [ptTop] at hb
    · rw [e] at h3
      simp [ptTop] at h3
theorem pt0_n : pt0.n = 0 := by simp [pt0, Pt.n]
theorem cut_starts {l : List Rl} {d : Nat} {L : List Pt} (hl : ∀ r ∈ l, r.ok ∧ r.right = true) (hd : d < 7) (hs : L.Pairwise fun p q => p.n < q.n) (hm : ∀ p, p ∈ L ↔ p ∈ rawC (pcs l d)) : L.map Pt.n = startsL (spns l d) ∧ ∀ p ∈ L, p.ok := by
  refine ⟨insS_nodup_unique (List.pairwise_map.2 hs) (starts_sorted _) (fun z => ?_), fun p hp => raw_ok (l := pcs l d) (fun q hq => ?_) (fun q hq => ?_) p ((hm p).1 hp)⟩
  · rw [starts_iff, List.mem_map]
    constructor
    · rintro ⟨p, hp, rfl⟩
      have hp' := (hm p).1 hp
      unfold rawC at hp'
      rcases List.mem_cons.1 hp' with rfl | hp'
      · exact .inl pt0_n
      · obtain ⟨q, hq, hp'⟩ := List.mem_flatMap.1 hp'
        unfold pcs at hq
        obtain ⟨r, hr, rfl⟩ := List.mem_map.1 hq
        obtain ⟨ro, hrr⟩ := hl r hr
        have hpo := piece_ok ro hrr d hd
        have ht := upto_top ro hrr d hd
        unfold rawS at hp'
        cases hz : r.any_ d with
        | true =>
          rw [if_pos (ht.2 hz)] at hp'
          simp only [List.mem_singleton] at hp'
          subst hp'
          left
          simp [Rl.fst_, hz, pt0_n]
        | false =>
          have hne : ¬ r.lst_ d = ptTop := fun e => by rw [ht.1 e] at hz; cases hz
          simp only [hne, if_false, List.mem_cons, List.not_mem_nil, or_false] at hp'
          refine .inr ⟨r.piece d, List.mem_map.2 ⟨r, hr, rfl⟩, hz, ?_⟩
          rcases hp' with rfl | rfl
          · left
            simp [Rl.fst_, hz, Rl.piece]
          · right
            rw [Pt.next_n hpo.2.1]
            simp [Rl.lst_, hz, Rl.piece]
    · rintro (rfl | ⟨sp, hsp, ha, hz⟩)
      · exact ⟨pt0, (hm pt0).2 (by simp [rawC]), pt0_n⟩
      · obtain ⟨r, hr, rfl⟩ := List.mem_map.1 hsp
        obtain ⟨ro, hrr⟩ := hl r hr
        have hpo := piece_ok ro hrr d hd
        have ht := upto_top ro hrr d hd
        have hz' : r.any_ d = false := ha
        have hne : ¬ r.lst_ d = ptTop := fun e => by rw [ht.1 e] at hz'; cases hz'
        have hmem : ∀ p, p ∈ rawS (r.fst_ d, r.lst_ d) → p ∈ L := fun p hp => (hm p).2 (by
          unfold rawC pcs
          exact List.mem_cons_of_mem _ (List.mem_flatMap.2 ⟨_, List.mem_map.2 ⟨r, hr, rfl⟩, hp⟩))
        rcases hz with rfl | rfl
        · refine ⟨r.fst_ d, hmem _ (by simp [rawS]), ?_⟩
          simp [Rl.fst_, hz', Rl.piece]
        · refine ⟨(r.lst_ d).next, hmem _ (by simp [rawS, hne]), ?_⟩
          rw [Pt.next_n hpo.2.1]
          simp [Rl.lst_, hz', Rl.piece]
  · unfold pcs at hq
    obtain ⟨r, hr, rfl⟩ := List.mem_map.1 hq
    have := piece_ok (hl r hr).1 (hl r hr).2 d hd
    exact ⟨this.1, this.2.1⟩
  · unfold pcs at hq
    obtain ⟨r, hr, rfl⟩ := List.mem_map.1 hq
    exact (piece_ok (hl r hr).1 (hl r hr).2 d hd).2.2
theorem ord_le {p q : Pt} (hp : p.ok) (hq : q.ok) : decide (ordP p q ≤ 0) = decide (p.n ≤ q.n) := by
  have := ord_pos hp hq
  rw [Bool.eq_iff_iff, decide_eq_true_eq, decide_eq_true_eq]
  omega
theorem hold_piece {r : Rl} (ro : r.ok) (hr : r.right = true) {d : Nat} (hd : d < 7) {x : Pt} (hx : x.ok) : holdB (r.fst_ d) (r.lst_ d) x = (r.piece d).holds x.n := by
  have hpo := piece_ok ro hr d hd
  unfold holdB Spn.holds
  rw [ord_le hpo.1 hx, ord_le hx hpo.2.1]
  cases hz : r.any_ d with
  | true =>
    have h1 := Pt.low hx
    have h2 := Pt.high hx
    simp [Rl.fst_, Rl.lst_, Rl.piece, hz, h1, h2]
  | false => simp [Rl.fst_, Rl.lst_, Rl.piece, hz]
theorem cut_set {l : List Rl} {d : Nat} (hl : ∀ r ∈ l, r.ok ∧ r.right = true) (hd : d < 7) {x : Pt} (hx : x.ok) : hset (pcs l d) x = setOf (spns l d) x.n := by
  unfold hset hsN setOf
  rw [show (pcs l d).length = (spns l d).length by simp [pcs, spns]]
  apply List.filter_congr
  intro i hi
  have hi' : i < l.length := by simpa [spns] using hi
  have hr := List.getElem_mem hi'
  simp only [pcs, spns, List.getElem?_map, List.getElem?_eq_getElem hi', Option.map_some, Option.getD_some]
  exact hold_piece (hl _ hr).1 (hl _ hr).2 hd hx
theorem cut_rows {l : List Rl} {d : Nat} {L : List Pt} (hl : ∀ r ∈ l, r.ok ∧ r.right = true) (hd : d < 7) (hn : L.map Pt.n = startsL (spns l d)) (hok : ∀ p ∈ L, p.ok) : L.map (hset (pcs l d)) = rowL (spns l d) := by
  unfold rowL
  rw [← hn, List.map_map]
  apply List.map_congr_left
  intro x hx
  exact cut_set hl hd (hok x hx)
theorem rise_ints {s : List Nat} (h : s.Pairwise (· < ·)) : RiseI (ints s) := by
  refine ⟨fun x hx => ?_, fun i x y hx hy => ?_⟩
  · rw [List.getElem?_map, Option.map_eq_some_iff] at hx
    obtain ⟨n, _, rfl⟩ := hx
    omega
  · rw [List.getElem?_map, Option.map_eq_some_iff] at hx hy
    obtain ⟨n, hn, rfl⟩ := hx
    obtain ⟨m, hm, rfl⟩ := hy
    obtain ⟨h1, h2⟩ := List.getElem?_eq_some_iff.1 hn
    obtain ⟨h3, h4⟩ := List.getElem?_eq_some_iff.1 hm
    have := List.pairwise_iff_getElem.1 h i (i + 1) h1 h3 (by omega)
    rw [h2, h4] at this
    omega
theorem cut_right {l : List Rl} {d : Nat} {L : List Pt} (hl : ∀ r ∈ l, r.ok ∧ r.right = true) (hd : d < 7) (hs : L.Pairwise fun p q => p.n < q.n) (hn : L.map Pt.n = startsL (spns l d)) (hok : ∀ p ∈ L, p.ok) : RightC L (ints (classL (rowL (spns l d)))) ((setsL (rowL (spns l d))).map ints) := by
  have hlen : L.length = (startsL (spns l d)).length := by rw [← hn, List.length_map]
  refine ⟨?_, fun i p q hp hq => ?_, ?_, fun x hx => ?_, fun s hs' => ?_⟩
  · have h0 := starts_head (pieces_ok hl d)
    rw [show l.map (·.piece d) = spns l d from rfl, ← hn, List.getElem?_map, Option.map_eq_some_iff] at h0
    obtain ⟨p, hp, he⟩ := h0
    rw [hp, Pt.n_inj (hok p (List.mem_of_getElem? hp)) pt0_ok (by rw [he, pt0_n])]
  · obtain ⟨h1, h2⟩ := List.getElem?_eq_some_iff.1 hp
    obtain ⟨h3, h4⟩ := List.getElem?_eq_some_iff.1 hq
    have := List.pairwise_iff_getElem.1 hs i (i + 1) h1 h3 (by omega)
    rw [h2, h4] at this
    exact this
  · rw [List.length_map, class_len, rowL, List.length_map, hlen]
  · obtain ⟨n, hn', rfl⟩ := List.mem_map.1 hx
    have := class_lt hn'
    rw [List.length_map]
    omega
  · obtain ⟨t, ht, rfl⟩ := List.mem_map.1 hs'
    have h1 := sets_mem ht
    unfold rowL at h1
    obtain ⟨z, _, rfl⟩ := List.mem_map.1 h1
    exact rise_ints (setOf_sorted _ _)
end Go.Proofs.YtcoldgpnkdallaaDoor
