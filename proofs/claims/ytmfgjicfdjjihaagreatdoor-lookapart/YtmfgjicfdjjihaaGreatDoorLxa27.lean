/- Texts joined: CmT -/
import Derived.Test.YtmfgjicfdjjihaaGreatDoorLxa26
namespace Go.Proofs.YtmfgjicfdjjihaaGreatDoor
open Go.RowKit
set_option linter.unusedVariables false
set_option linter.unusedSimpArgs false
set_option maxRecDepth 100000 in
set_option maxHeartbeats 4000000 in
theorem rcut_dim (a : Option Addr) (n c : Nat) (dim : Int) (w : World) (h : ¬ (0 ≤ dim ∧ dim < 7)) : Calls Tryz.prog 43 #[.slice a n c, .int .i64 dim] w fun e w' => e = .returned (.tuple #[.agg zc, .int .i64 1]) ∧ Below w.heap.size w w' := by
 by_cases h0 : dim < 0
 ·clear h
  go_enter Tryz.func43, Tryz.ntmps43
  go_wp2
  exact ret_cell_tmp (k := 4) (j := 5) Tryz.f43 (by kernel_rfl) (blk_new w zc 63) Tryz.underlying63 (by kernel_rfl) (by rfl) (by rfl) rfl ⟨rfl, bel_nw rfl⟩
 ·have h1 : decide (dim < 0) = false := by simpa using h0
  have h2 : decide (dim ≥ 7) = true := by simp; omega
  have h3 : 7 ≤ dim := by omega
  have h4 : 0 ≤ dim := by omega
  clear h h0
  go_enter Tryz.func43, Tryz.ntmps43
  go_wp2
  exact ret_cell_tmp (k := 4) (j := 5) Tryz.f43 (by kernel_rfl) (blk_new w zc 63) Tryz.underlying63 (by kernel_rfl) (by rfl) (by rfl) rfl ⟨rfl, bel_nw rfl⟩
set_option maxRecDepth 100000 in
set_option maxHeartbeats 4000000 in
theorem rcut_many (a : Option Addr) (n c : Nat) (dim : Int) (w : World) (h : 0 ≤ dim ∧ dim < 7) (hn : 64 < n) : Calls Tryz.prog 43 #[.slice a n c, .int .i64 dim] w fun e w' => e = .returned (.tuple #[.agg zc, .int .i64 17]) ∧ Below w.heap.size w w' := by
 obtain ⟨h4, h5⟩ := h
 have h1 : decide (dim < 0) = false := by simp; omega
 have h2 : decide (dim ≥ 7) = false := by simp; omega
 have hn' : (64 : Int) < (n : Int) := by omega
 go_enter Tryz.func43, Tryz.ntmps43
 go_wp2
 exact ret_cell_tmp (k := 4) (j := 5) Tryz.f43 (by kernel_rfl) (blk_new w zc 63) Tryz.underlying63 (by kernel_rfl) (by rfl) (by rfl) rfl ⟨rfl, bel_nw rfl⟩
set_option maxRecDepth 100000 in
set_option maxHeartbeats 16000000 in
theorem rcut_run (a : Option Addr) (c : Nat) (l : List Rl) (d : Nat) (w : World) (hl : l.length ≤ 64) (hrow : RowR w a l) (hd : d < 7) (P : Ending → World → Prop)
  (HP0 : Hid ((∃ r ∈ l, r.right = false) → ∀ w', Below w.heap.size w w' → P (.returned (.tuple #[.agg zc, .int .i64 1])) w'))
  (HP1 : Hid ((∀ r ∈ l, r.right = true) → ∀ w' g1 c1 ka kc sa sc vs, CutIn w' w.heap.size g1 c1 ka kc sa sc vs (stL d l) (classL ((stL d l).map (stS l d))) (setsL ((stL d l).map (stS l d))) → Below w.heap.size w w' → P (.returned (.tuple #[.agg #[.slice (some ⟨g1, 0, none⟩) (stL d l).length c1, .slice ka (stL d l).length kc, .slice sa (setsL ((stL d l).map (stS l d))).length sc], .int .i64 0])) w')) :
  Calls Tryz.prog 43 #[.slice a l.length c, .int .i64 (d : Int)] w P := by
 have KR : Hid (∀ (r : Rl), r.ok → ∀ W, Calls Tryz.prog 70 #[.agg r.v] W fun e w' => e = .returned (.bool r.right) ∧ Below W.heap.size W w') := fun r ho W => rrightRule_any r W ho
 have KP : Hid (∀ (r : Rl), r.ok → r.right = true → ∀ W, Calls Tryz.prog 72 #[.agg r.v, .int .i64 (d : Int)] W fun e w' => ∃ p q : Pt, e = .returned (.tuple #[.agg p.v, .agg q.v, .bool (r.any_ d)]) ∧ (r.any_ d = false → p = r.from_ d ∧ q = r.upto d) ∧ Below W.heap.size W w') := fun r ho hr W => rpiece_any r d hd W ho hr
 have KHO : Hid (∀ (r : Rl), r.ok → r.right = true → ∀ (x : Pt), x.ok → ∀ W, Calls Tryz.prog 75 #[.agg r.v, .int .i64 (d : Int), .agg x.v] W fun e w' => e = .returned (.bool ((r.piece d).holds x.n)) ∧ Below W.heap.size W w') := fun r ho hr x hx W => rholds_any r d hd x W ho hr hx
 have HPC : Hid (∀ r : Rl, r.ok → r.right = true → r.any_ d = false → (r.from_ d).ok ∧ (r.upto d).ok ∧ (r.upto d).a ≤ 1000) := fun r ho hr hz => by
  have hpo := piece_ok ho hr d hd
  simp only [Rl.fst_, Rl.lst_, hz, Bool.false_eq_true, if_false] at hpo
  exact ⟨hpo.1, hpo.2.1, upto_low ho hr d hd hz⟩
 have HLK : Hid (∀ k : List Rl, (∀ r ∈ k, r.ok ∧ r.right = true) → (stL d k).map Pt.n = startsL (spns k d) ∧ (∀ q ∈ stL d k, q.ok) ∧ (stL d k).length ≤ 2 * k.length + 1 ∧ 1 ≤ (stL d k).length) := fun k hk => stL_ok hd hk
 have hsr : Hid (∀ r : Rl, (Tryz.prog.info? 82).map (·.size) = some r.v.size) := info_rl
 have hd1 : decide ((d : Int) < 0) = false := by simp
 have hd2 : decide ((d : Int) ≥ 7) = false := by simp; omega
 have hd3 : (0 : Int) ≤ (d : Int) := by omega
 have hd4 : (d : Int) < 7 := by omega
 obtain ⟨N, hN⟩ : ∃ N, l.length = N := ⟨_, rfl⟩
 have HN : Hid (l.length = N) := hN
 have HRow : Hid (RowR w a l) := hrow
 rw [hN] at hl ⊢
 clear hN hrow hd
 have hl64 : ¬ (64 : Int) < (N : Int) := by omega
 obtain ⟨W1, hW1⟩ : ∃ W1, w.alloc (.cells zc 63) = W1 := ⟨_, rfl⟩
 obtain ⟨W2, hW2⟩ : ∃ W2, W1.alloc (.cells #[.int .u64 0, .int .u64 0, .int .u64 0] 86) = W2 := ⟨_, rfl⟩
 have b1 := bel_nw hW1
 have b2 := bel_al b1 hW2
 have BZ1 := blk_nw hW1
 have BZ2 := BZ1.al hW2
 have O2 : OwnP W2 w.heap.size (some ⟨W1.heap.size, 0, none⟩) 1 [pt0] := by rw [← hW2]; exact own_one W1 w.heap.size pt0 b1.size
 have hst : (Instr.storeAt 63 (.pointer (some ⟨W2.heap.size, 0, none⟩)) (.agg #[.slice (some ⟨W1.heap.size, 0, none⟩) 1 1, .slice none 0 0, .slice none 0 0])).run Tryz.prog (W2.alloc (.cells zc 63)) = .ok () (W2.alloc (.cells #[.slice (some ⟨W1.heap.size, 0, none⟩) 1 1, .slice none 0 0, .slice none 0 0] 63)) := run_storeAt_new (P := Tryz.prog) W2 63 zc _ (by kernel_rfl) rfl (by kernel_rfl)
 obtain ⟨W3, hW3⟩ : ∃ W3, W2.alloc (.cells #[.slice (some ⟨W1.heap.size, 0, none⟩) 1 1, .slice none 0 0, .slice none 0 0] 63) = W3 := ⟨_, rfl⟩
 have b3 := bel_al b2 hW3
 have HBC : Hid (Blk W3 W2.heap.size 63 #[.slice (some ⟨W1.heap.size, 0, none⟩) 1 1, .slice none 0 0, .slice none 0 0]) := blk_nw hW3
 have HBZ : Hid (Blk W3 w.heap.size 63 zc) := BZ2.al hW3
 have HO3 : Hid (OwnP W3 w.heap.size (some ⟨W1.heap.size, 0, none⟩) 1 [pt0]) := O2.below (bel_nw hW3)
 have HGC : Hid (w.heap.size < W2.heap.size) := BZ2.lt
 rw [hW3] at hst
 clear BZ1 BZ2 O2 b1 b2 hW3
 go_enter Tryz.func43, Tryz.ntmps43
 go_wp2_with (first | (refine wpList_store_new _ _ rfl _ _ _ rfl _ _ rfl rfl hst ?_))
 clear hst hW1 hW2 hd1 hd2
 go_loopw [7] (fun i wr => ∃ (n : Nat) (g1 c1 : Nat), n ≤ N ∧ i = .int .i64 n ∧ Hid (∀ r ∈ l.take n, r.ok ∧ r.right = true) ∧ Hid (Blk wr W2.heap.size 63 #[.slice (some ⟨g1, 0, none⟩) (stL d (l.take n)).length c1, .slice none 0 0, .slice none 0 0]) ∧ Hid (OwnP wr w.heap.size (some ⟨g1, 0, none⟩) c1 (stL d (l.take n))) ∧ Hid (Blk wr w.heap.size 63 zc) ∧ Below w.heap.size w wr) (fun i _ => N - (intOf i).toNat)
 case atStart => exact ⟨0, W1.heap.size, 1, Nat.zero_le _, rfl, fun r hr => by simp at hr, HBC, HO3, HBZ, b3⟩
 case round =>
  clear HBC HO3 HBZ b3
  obtain ⟨n, g1, c1, hn, rfl, HA, HC, HO, HZ, bw⟩ := hrel
  obtain ⟨L, hL⟩ : ∃ L, stL d (l.take n) = L := ⟨_, rfl⟩
  have HL : Hid (stL d (l.take n) = L) := hL
  have hlk := HLK.out _ HA.out
  rw [hL] at hlk HC HO
  have HLO : Hid (∀ q ∈ L, q.ok) := hlk.2.1
  have HLL : Hid (L.length ≤ 2 * n + 1) := by
   have h1 := hlk.2.2.1
   rw [List.length_take, HN.out, Nat.min_eq_left hn] at h1
   exact h1
  have HL1 : Hid (1 ≤ L.length) := hlk.2.2.2
  clear hlk hL
  obtain ⟨M, hM⟩ : ∃ M, L.length = M := ⟨_, rfl⟩
  have HM : Hid (L.length = M) := hM
  rw [hM] at HC
  clear hM
  by_cases hlt : n < N
  ·have ik : (n : Int) < (N : Int) := by omega
   have in0 : (0 : Int) ≤ (n : Int) := by omega
   have hw1 : IntKind.i64.wrap ((n : Int) + 1) = ((n + 1 : Nat) : Int) := by simp [IntKind.wrap, IntKind.bits, IntKind.signed]; omega
   obtain ⟨r, hr⟩ : ∃ r, l[n]? = some r := ⟨_, List.getElem?_eq_getElem (by rw [HN.out]; exact hlt)⟩
   have HR : Hid (l[n]? = some r) := hr
   have HRO : Hid r.ok := HRow.out.each r (List.mem_of_getElem? hr)
   have HTK : Hid (l.take (n + 1) = l.take n ++ [r]) := by show _ = _; rw [List.take_add_one, hr]; rfl
   obtain ⟨b, off, ha, hc⟩ := (HRow.out.low bw).cells n r hr
   have hs1 := hsr.out r
   have KR' : Hid _ := KR.out r HRO.out
   clear hr
   subst ha
   cases hrr : r.right with
   | false =>
    rw [hrr] at KR'
    have HX : Hid (∃ r ∈ l, r.right = false) := ⟨r, List.mem_of_getElem? HR.out, hrr⟩
    obtain ⟨RA, hRA⟩ : ∃ RA, r.v = RA := ⟨_, rfl⟩
    rw [hRA] at hs1 hc KR'
    clear hRA hrr
    go_wp2_with (first
     | (refine wpList_load_at rfl _ _ rfl b (off + n * 17) (by rfl) _ hc Tryz.underlying82 hs1 ?_))
    refine (KR'.out _).mono ?_
    rintro e W4 ⟨rfl, b34⟩
    have bw4 := bel_tr bw b34
    have RB := HZ.out.kept b34
    clear KR' hc b34
    go_wp2_with (refine wpList_st rfl 63 _ _ rfl w.heap.size zc zc (by rfl) (by rfl) RB (by kernel_rfl) rfl (by kernel_rfl) ?_)
    exact ret_cell_tmp (k := 4) (j := 5) Tryz.f43 (by kernel_rfl) (RB.set _) Tryz.underlying63 (by kernel_rfl) (by rfl) (by rfl) rfl (HP0.out HX.out _ (below_setRow bw4 (Nat.le_refl _) _))
   | true =>
    have HRR : Hid (r.right = true) := hrr
    rw [hrr] at KR'
    have KP' : Hid _ := KP.out r HRO.out HRR.out
    have HA' : Hid (∀ r ∈ l.take (n + 1), r.ok ∧ r.right = true) := by
     show ∀ r ∈ l.take (n + 1), r.ok ∧ r.right = true
     rw [HTK.out]
     intro q hq
     rcases List.mem_append.1 hq with hq | hq
     ·exact HA.out q hq
     ·simp only [List.mem_singleton] at hq
      subst hq
      exact ⟨HRO.out, HRR.out⟩
    have HSN : Hid (stL d (l.take (n + 1)) = stQ d L r) := by show _ = _; rw [HTK.out, stL_snoc, HL.out]
    have HPC' : Hid _ := HPC.out r HRO.out HRR.out
    obtain ⟨RA, hRA⟩ : ∃ RA, r.v = RA := ⟨_, rfl⟩
    rw [hRA] at hs1 hc KR' KP'
    clear hRA hrr HA
    go_wp2_with (first
     | (refine wpList_load_at rfl _ _ rfl b (off + n * 17) (by rfl) _ hc Tryz.underlying82 hs1 ?_))
    refine (KR'.out _).mono ?_
    rintro e W3' ⟨rfl, b34⟩
    have bw3 := bel_tr bw b34
    have hc3 := hc.below b34
    have HC3 : Hid (Blk _ _ _ _) := HC.out.kept b34
    have HO3 : Hid (OwnP _ _ _ _ _) := HO.out.below b34
    have HZ3 : Hid (Blk _ _ _ _) := HZ.out.kept b34
    clear KR' hc b34 HC HO HZ bw
    go_wp2_with (first
     | (refine wpList_load_at rfl _ _ rfl b (off + n * 17) (by rfl) _ hc3 Tryz.underlying82 hs1 ?_))
    refine (KP'.out _).mono ?_
    rintro e W4 ⟨p, q, rfl, hpq, b45⟩
    have HPQ : Hid (r.any_ d = false → p = r.from_ d ∧ q = r.upto d) := hpq
    have bw4 := bel_tr bw3 b45
    have HC4 : Hid (Blk _ _ _ _) := HC3.out.kept b45
    have HO4 : Hid (OwnP _ _ _ _ _) := HO3.out.below b45
    have HZ4 : Hid (Blk _ _ _ _) := HZ3.out.kept b45
    clear KP' hc3 b45 HC3 HO3 HZ3 bw3 hpq
    obtain ⟨pa, pb, pc⟩ := p
    obtain ⟨qa, qb, qc⟩ := q
    obtain ⟨W5, hW5⟩ : ∃ W5, (W4.alloc (.cells #[.int .u64 pa, .int .u64 pb, .int .u64 pc] 86)).alloc (.cells #[.int .u64 qa, .int .u64 qb, .int .u64 qc] 86) = W5 := ⟨_, rfl⟩
    have b45 : Below W4.heap.size W4 W5 := by rw [← hW5]; exact bel_al (bel_nw rfl) rfl
    have bw5 := bel_tr bw4 b45
    have HC5 : Hid (Blk W5 W2.heap.size 63 #[.slice (some ⟨g1, 0, none⟩) M c1, .slice none 0 0, .slice none 0 0]) := HC4.out.kept b45
    have HO5 : Hid (OwnP W5 w.heap.size (some ⟨g1, 0, none⟩) c1 L) := HO4.out.below b45
    have HZ5 : Hid (Blk W5 w.heap.size 63 zc) := HZ4.out.kept b45
    have H58 : Hid (Blk W5 W4.heap.size 86 #[.int .u64 pa, .int .u64 pb, .int .u64 pc]) := by show Blk _ _ _ _; rw [← hW5]; exact (blk_new W4 _ _).alloc _
    have H59 : Hid (Blk W5 (W4.heap.size + 1) 86 #[.int .u64 qa, .int .u64 qb, .int .u64 qc]) := by show Blk _ _ _ _; rw [← hW5]; exact blk1 W4 _ _ _
    have HLT4 : Hid (W2.heap.size < W4.heap.size) := HC4.out.lt
    clear HC4 HO4 HZ4 bw4 b45
    cases hz : r.any_ d with
    | true =>
     have HS2 : Hid (stQ d L r = L) := by show _ = _; unfold stQ; rw [if_pos hz]
     go_wp2
     refine ⟨⟨n + 1, g1, c1, by omega, by first | rfl | (congr 1), HA', ?_, ?_, HZ5, bw5⟩, by simp only [intOf]; omega⟩
     ·rw [HSN.out, HS2.out, HM.out]; exact HC5
     ·rw [HSN.out, HS2.out]; exact HO5
    | false =>
     obtain ⟨ep, eq⟩ := HPQ.out hz
     obtain ⟨po, qo, qa'⟩ := HPC'.out hz
     rw [← ep] at po
     rw [← eq] at qo qa'
     have HPO : Hid (⟨pa, pb, pc⟩ : Pt).ok := po
     have HQO : Hid (⟨qa, qb, qc⟩ : Pt).ok := qo
     have HQN : Hid (⟨qa, qb, qc⟩ : Pt).next.ok := Pt.next_ok qo qa'
     have HQA : Hid ((⟨qa, qb, qc⟩ : Pt).a < 18446744073709551615) := by show _ < _; omega
     have HS2 : Hid (stQ d L r = insP (insP L ⟨pa, pb, pc⟩) (⟨qa, qb, qc⟩ : Pt).next) := by show _ = _; unfold stQ; rw [if_neg (by rw [hz]; decide), ← ep, ← eq]
     have dw := bw5.drew
     have D8 : Hid (Blk W5.drew W4.heap.size 86 #[.int .u64 pa, .int .u64 pb, .int .u64 pc]) := H58.out.kept (below_drew W5)
     have D9 : Hid (Blk W5.drew (W4.heap.size + 1) 86 #[.int .u64 qa, .int .u64 qb, .int .u64 qc]) := H59.out.kept (below_drew W5)
     have DC : Hid (Blk W5.drew W2.heap.size 63 #[.slice (some ⟨g1, 0, none⟩) M c1, .slice none 0 0, .slice none 0 0]) := HC5.out.kept (below_drew W5)
     have DZ : Hid (Blk W5.drew w.heap.size 63 zc) := HZ5.out.kept (below_drew W5)
     have KA1 : Hid _ := radd_any w.heap.size g1 c1 L ⟨pa, pb, pc⟩ W5.drew dw.size (HO5.out.below (below_drew W5)) HLO.out HPO.out (by have := HLL.out; omega) (by have := HL1.out; omega)
     rw [HM.out] at KA1
     have c0 := DC.out.cell 0 (.slice (some ⟨g1, 0, none⟩) M c1) rfl
     clear ep eq po qo qa' hz HPQ HPC' HC5 HO5 HZ5 H58 H59 bw5
     go_wp2_with fail
     refine wp_region_noPanic ?_
     refine wp_region_held_drew (S := fun w'' => Blk w'' W4.heap.size 86 #[.int .u64 pa, .int .u64 pb, .int .u64 pc] ∧ Blk w'' (W4.heap.size + 1) 86 #[.int .u64 qa, .int .u64 qb, .int .u64 qc]) (by kernel_rfl) (by exact ⟨D8.out, D9.out⟩) (fun hHeld => ?_)
     refine qtk (i := 0) (oi := { dst := some 55, op := Op.fieldAddr 63 (.tmp 6) 0, type := 0, pos := "ref.go:122", after := #[], guard := none }) (v := (.pointer (some ⟨W2.heap.size, 0, none⟩))) hHeld ?_ ?_
     ·intro w9 hSw
      try dsimp only at hSw
      go_simp
     try simp only [qpu]
     refine qty (i := 2) (oi := { dst := some 57, op := Op.load 86 (.tmp 8), type := 86, pos := "ref.go:122", after := #[], guard := none }) (v := (.agg #[.int .u64 pa, .int .u64 pb, .int .u64 pc])) (yieldsIf_at (by rfl) _ _ rfl W4.heap.size 0 (by rfl) _ (fun _ h => h.1.at_) Tryz.underlying86 (by kernel_rfl)) hHeld ?_
     try simp only [qpu]
     refine qty (i := 4) (oi := { dst := some 59, op := Op.load 86 (.tmp 9), type := 86, pos := "ref.go:122", after := #[], guard := none }) (v := (.agg #[.int .u64 qa, .int .u64 qb, .int .u64 qc])) (yieldsIf_at (by rfl) _ _ rfl (W4.heap.size + 1) 0 (by rfl) _ (fun _ h => h.2.at_) Tryz.underlying86 (by kernel_rfl)) hHeld ?_
     try simp only [qpu]
     refine wpAnyH_ready (rs := [1]) (by kernel_rfl) (by simp) ?_
     refine AllReadyH.cons (o := { dst := some 56, op := Op.load 61 (.tmp 55), type := 61, pos := "ref.go:122", after := #[{ on := 0, ground := Ground.data }], guard := none }) rfl (fun K hK => ?_) AllReadyH.nil
     go_simp
     refine hK.out _ _ ?_ (fun hHeld => ?_)
     ·exact ⟨D8.out, D9.out⟩
     clear hK K
     try simp only [qpu]
     refine wpAnyH_ready (rs := [3]) (by kernel_rfl) (by simp) ?_
     refine AllReadyH.cons (o := { dst := some 58, op := Op.call { callee := Callee.value (.func 73), args := #[.tmp 56, .tmp 57], argTypes := #[61, 86] }, type := 61, pos := "ref.go:122", after := #[{ on := 1, ground := Ground.data }, { on := 2, ground := Ground.data }], guard := none }) rfl (fun K hK => ?_) AllReadyH.nil
     go_simp
     refine Calls.mono KA1.out ?_
     rintro e W6 ⟨g6, c6, rfl, o6, b6⟩
     have E8 : Hid (Blk W6 W4.heap.size 86 #[.int .u64 pa, .int .u64 pb, .int .u64 pc]) := D8.out.kept b6
     have E9 : Hid (Blk W6 (W4.heap.size + 1) 86 #[.int .u64 qa, .int .u64 qb, .int .u64 qc]) := D9.out.kept b6
     have EC : Hid (Blk _ _ _ _) := DC.out.kept b6
     have EZ : Hid (Blk _ _ _ _) := DZ.out.kept b6
     have e6 := bel_tr dw b6
     have KA2 : Hid _ := rbehind_pt ⟨qa, qb, qc⟩ W6 HQO.out HQA.out
     have HO6 : Hid (OwnP W6 w.heap.size (some ⟨g6, 0, none⟩) c6 (insP L ⟨pa, pb, pc⟩)) := o6
     obtain ⟨M6, hM6⟩ : ∃ M6, (insP L ⟨pa, pb, pc⟩).length = M6 := ⟨_, rfl⟩
     have HM6 : Hid ((insP L ⟨pa, pb, pc⟩).length = M6) := hM6
     rw [hM6]
     clear KA1 o6 b6 hM6
     refine hK.out _ _ ?_ (fun hHeld => ?_)
     ·exact ⟨E8.out, E9.out⟩
     clear hK K
     try simp only [qpu]
     refine wpAnyH_ready (rs := [5]) (by kernel_rfl) (by simp) ?_
     refine AllReadyH.cons (o := { dst := some 60, op := Op.call { callee := Callee.value (.func 74), args := #[.tmp 59], argTypes := #[86] }, type := 86, pos := "ref.go:122", after := #[{ on := 4, ground := Ground.data }, { on := 3, ground := Ground.chain }], guard := none }) rfl (fun K hK => ?_) AllReadyH.nil
     go_simp
     refine Calls.mono KA2.out ?_
     rintro e W7 ⟨rfl, b7⟩
     have F8 : Hid (Blk W7 W4.heap.size 86 #[.int .u64 pa, .int .u64 pb, .int .u64 pc]) := E8.out.kept b7
     have F9 : Hid (Blk W7 (W4.heap.size + 1) 86 #[.int .u64 qa, .int .u64 qb, .int .u64 qc]) := E9.out.kept b7
     have FC : Hid (Blk _ _ _ _) := EC.out.kept b7
     have FZ : Hid (Blk _ _ _ _) := EZ.out.kept b7
     have e7 := bel_tr e6 b7
     have HO7 : Hid (OwnP _ _ _ _ _) := HO6.out.below b7
     have KA3 : Hid _ := radd_any w.heap.size g6 c6 (insP L ⟨pa, pb, pc⟩) (⟨qa, qb, qc⟩ : Pt).next W7 e7.size HO7.out (insP_ok HLO.out HPO.out) HQN.out (by have := (insP_len L ⟨pa, pb, pc⟩).1; have := HLL.out; omega) (by have := (insP_len L ⟨pa, pb, pc⟩).2; have := HL1.out; omega)
     rw [HM6.out] at KA3
     obtain ⟨QN, hQN⟩ : ∃ QN, (⟨qa, qb, qc⟩ : Pt).next = QN := ⟨_, rfl⟩
     rw [hQN] at KA3
     have HQN' : Hid ((⟨qa, qb, qc⟩ : Pt).next = QN) := hQN
     rw [hQN]
     clear KA2 b7 EC EZ e6 hQN
     refine hK.out _ _ ?_ (fun hHeld => ?_)
     ·exact ⟨F8.out, F9.out⟩
     clear hK K
     try simp only [qpu]
     refine wpAnyH_ready (rs := [6]) (by kernel_rfl) (by simp) ?_
     refine AllReadyH.cons (o := { dst := some 61, op := Op.call { callee := Callee.value (.func 73), args := #[.tmp 58, .tmp 60], argTypes := #[61, 86] }, type := 61, pos := "ref.go:122", after := #[{ on := 3, ground := Ground.data }, { on := 5, ground := Ground.data }, { on := 5, ground := Ground.chain }], guard := none }) rfl (fun K hK => ?_) AllReadyH.nil
     go_simp
     refine Calls.mono KA3.out ?_
     rintro e W8 ⟨g8, c8, rfl, o8, b8⟩
     have G8 : Hid (Blk W8 W4.heap.size 86 #[.int .u64 pa, .int .u64 pb, .int .u64 pc]) := F8.out.kept b8
     have G9 : Hid (Blk W8 (W4.heap.size + 1) 86 #[.int .u64 qa, .int .u64 qb, .int .u64 qc]) := F9.out.kept b8
     have GC : Hid (Blk W8 W2.heap.size 63 #[.slice (some ⟨g1, 0, none⟩) M c1, .slice none 0 0, .slice none 0 0]) := FC.out.kept b8
     have GZ : Hid (Blk W8 w.heap.size 63 zc) := FZ.out.kept b8
     have e8 := bel_tr e7 b8
     have HO8 : Hid (OwnP W8 w.heap.size (some ⟨g8, 0, none⟩) c8 (insP (insP L ⟨pa, pb, pc⟩) QN)) := o8
     obtain ⟨M8, hM8⟩ : ∃ M8, (insP (insP L ⟨pa, pb, pc⟩) QN).length = M8 := ⟨_, rfl⟩
     have HM8 : Hid ((insP (insP L ⟨pa, pb, pc⟩) QN).length = M8) := hM8
     rw [hM8]
     clear KA3 o8 b8 FC FZ e7 hM8
     have k0 := GC.out.cell 0 (.slice (some ⟨g1, 0, none⟩) M c1) rfl
     have f0 := GC.out.frozen 0
     have HE : Hid (W8.setCell ⟨W2.heap.size, 0, none⟩ (.slice (some ⟨g8, 0, none⟩) M8 c8) = W8.setRow W2.heap.size #[.slice (some ⟨g8, 0, none⟩) M8 c8, .slice none 0 0, .slice none 0 0]) := setCell_eq_setRow W8 W2.heap.size 0 _ 63 (0, 0) _ GC.out
     refine hK.out _ _ ?_ (fun hHeld => ?_)
     ·exact ⟨G8.out, G9.out⟩
     clear hK K
     try simp only [qpu]
     refine qtk (i := 7) (oi := { dst := some 62, op := Op.fieldAddr 63 (.tmp 6) 0, type := 0, pos := "ref.go:122", after := #[{ on := 0, ground := Ground.phase }, { on := 1, ground := Ground.phase }, { on := 2, ground := Ground.phase }, { on := 3, ground := Ground.phase }, { on := 4, ground := Ground.phase }, { on := 5, ground := Ground.phase }, { on := 6, ground := Ground.phase }], guard := none }) (v := (.pointer (some ⟨W2.heap.size, 0, none⟩))) hHeld ?_ ?_
     ·intro w9 hSw
      try dsimp only at hSw
      go_simp
     try simp only [qpu]
     refine wpAnyH_ready (rs := [8]) (by kernel_rfl) (by simp) ?_
     refine AllReadyH.cons (o := { dst := none, op := Op.store 61 (.tmp 62) (.tmp 61), type := 0, pos := "ref.go:122", after := #[{ on := 7, ground := Ground.data }, { on := 6, ground := Ground.data }, { on := 6, ground := Ground.chain }, { on := 0, ground := Ground.phase }, { on := 1, ground := Ground.phase }, { on := 2, ground := Ground.phase }, { on := 3, ground := Ground.phase }, { on := 4, ground := Ground.phase }, { on := 5, ground := Ground.phase }, { on := 6, ground := Ground.phase }], guard := none }) rfl (fun K hK => ?_) AllReadyH.nil
     go_simp
     rw [HE.out]
     refine hK.out _ _ ?_ (fun hHeld => ?_)
     ·exact ⟨G8.out.other (Nat.ne_of_gt HLT4.out) _, G9.out.other (by have := HLT4.out; omega) _⟩
     clear hK K
     try simp only [qpu]
     refine wpAnyH_done (by kernel_rfl) ?_ _
     refine NoPanic.normal ?_
     have HOZ : Hid (OwnP (W8.setRow W2.heap.size #[.slice (some ⟨g8, 0, none⟩) M8 c8, .slice none 0 0, .slice none 0 0]) w.heap.size (some ⟨g8, 0, none⟩) c8 (insP (insP L ⟨pa, pb, pc⟩) QN)) := HO8.out.far (grown_setRow W8 W2.heap.size _) (fun y hy e => by
      cases hy
      cases e
      obtain ⟨c', hc⟩ := HO8.out.typed
      exact absurd (GC.out.ty hc) (by decide))
     have HBZ : Hid (Blk _ _ _ _) := GC.out.set #[.slice (some ⟨g8, 0, none⟩) M8 c8, .slice none 0 0, .slice none 0 0]
     have HZZ : Hid (Blk _ _ _ _) := GZ.out.other (Nat.ne_of_lt HGC.out) #[.slice (some ⟨g8, 0, none⟩) M8 c8, .slice none 0 0, .slice none 0 0]
     have bwZ := below_setRow e8 (Nat.le_of_lt HGC.out) #[.slice (some ⟨g8, 0, none⟩) M8 c8, .slice none 0 0, .slice none 0 0]
     clear k0 f0 c0 hHeld
     go_wp2
     refine ⟨⟨n + 1, g8, c8, by omega, by first | rfl | (congr 1), HA', ?_, ?_, HZZ, bwZ⟩, by simp only [intOf]; omega⟩
     ·rw [HSN.out, HS2.out, HQN'.out, HM8.out]; exact HBZ
     ·rw [HSN.out, HS2.out, HQN'.out]; exact HOZ
  ·have hnN : n = N := by omega
   subst hnN
   have ik : ¬ (n : Int) < (n : Int) := by omega
   have HTL : Hid (l.take n = l) := by show _ = _; rw [← HN.out, List.take_length]
   have HAA : Hid (∀ r ∈ l, r.ok ∧ r.right = true) := fun r hr => HA.out r (by rw [HTL.out]; exact hr)
   have HLD : Hid (stL d l = L) := by show _ = _; rw [← HL.out, HTL.out]
   have HPL : Hid ((spns l d).length = n) := by show _ = _; rw [List.length_map, HN.out]
   have CJ0 : Hid (CutJ w.heap.size wr w.heap.size g1 c1 L none 0 [] none 0 [] []) := ⟨HZ.out, HO.out, OwnI.nil _ _, SetsO.nil _ _, Apt.nil _⟩
   have hMn : M ≤ 2 * n + 1 := by have := HLL.out; rw [HM.out] at this; exact this
   clear HA HL HZ HO
   go_wp2_with fail
   go_loopw [11] (fun i wr => ∃ (m : Nat) (ka : Option Addr) (kc : Nat) (sa : Option Addr) (sc : Nat) (vs : List Value), m ≤ M ∧ i = .int .i64 m ∧ Hid (Blk wr W2.heap.size 63 #[.slice (some ⟨g1, 0, none⟩) M c1, .slice ka m kc, .slice sa (((L.take m).map (stS l d)).foldl putS []).length sc]) ∧ Hid (CutJ w.heap.size wr w.heap.size g1 c1 L ka kc (classF [] ((L.take m).map (stS l d))) sa sc (((L.take m).map (stS l d)).foldl putS []) vs) ∧ Below w.heap.size w wr) (fun i _ => M - (intOf i).toNat)
   case atStart => exact ⟨0, none, 0, none, 0, [], Nat.zero_le _, rfl, by simpa using HC, by simpa [classF] using CJ0, bw⟩
   case round =>
    clear HC CJ0 bw
    obtain ⟨m, ka, kc, sa, sc, vs, hm, rfl, HB, HC, bw⟩ := hrel
    obtain ⟨V, rfl⟩ : ∃ V, V = wr := ⟨_, rfl⟩
    obtain ⟨S, hS⟩ : ∃ S, ((L.take m).map (stS l d)).foldl putS [] = S := ⟨_, rfl⟩
    obtain ⟨Kl, hKl⟩ : ∃ Kl, classF [] ((L.take m).map (stS l d)) = Kl := ⟨_, rfl⟩
    have HS : Hid (((L.take m).map (stS l d)).foldl putS [] = S) := hS
    have HK0 : Hid (classF [] ((L.take m).map (stS l d)) = Kl) := hKl
    have HKl : Hid (Kl.length = m) := by
     show _ = _
     rw [← hKl, classF_len, List.length_map, List.length_take, HM.out]
     omega
    rw [hS] at HB HC
    rw [hKl] at HC
    have HSm : Hid (∀ s ∈ S, s.length ≤ 64) := fun s hs => by
     rw [← hS] at hs
     have := sets_mem hs
     obtain ⟨x, _, rfl⟩ := List.mem_map.1 this
     have := stS_len l d x
     rw [HN.out] at this
     omega
    have hSl : S.length ≤ m := by
     rw [← hS]
     have := sets_len ((L.take m).map (stS l d))
     rw [List.length_map, List.length_take, HM.out] at this
     have h2 : min m M = m := by omega
     rw [h2] at this
     exact this
    clear hS hKl
    by_cases hlt : m < M
    ·have imk : (m : Int) < (M : Int) := by omega
     have im0 : (0 : Int) ≤ (m : Int) := by omega
     have hw1 : IntKind.i64.wrap ((m : Int) + 1) = ((m + 1 : Nat) : Int) := by simp [IntKind.wrap, IntKind.bits, IntKind.signed]; omega
     obtain ⟨x, hx⟩ : ∃ x, L[m]? = some x := ⟨_, List.getElem?_eq_getElem (by rw [HM.out]; exact hlt)⟩
     have HXO : Hid x.ok := HLO.out x (List.mem_of_getElem? hx)
     have HTX : Hid (L.take (m + 1) = L.take m ++ [x]) := by show _ = _; rw [List.take_add_one, hx]; rfl
     obtain ⟨b0, off0, ha0, hx0⟩ := (HC.out.sts.row HLO.out).cells m x hx
     cases ha0
     rw [Nat.zero_add] at hx0
     have HXC : Hid (CellsAt V g1 (m * 3) x.v) := hx0
     have hs2 : (Tryz.prog.info? 86).map (·.size) = some x.v.size := by kernel_rfl
     have d0 := HB.out.cell 0 (.slice (some ⟨g1, 0, none⟩) M c1) rfl
     obtain ⟨XA, hXA⟩ : ∃ XA, x.v = XA := ⟨_, rfl⟩
     have HXA : Hid (x.v = XA) := hXA
     rw [hXA] at hs2 HXC
     clear hx0 hx hXA
     go_wp2_with fail
     go_loopw [12, 13] (fun s k wr => ∃ (n' : Nat) (ya : Option Addr) (yc : Nat), n' ≤ n ∧ k = .int .i64 n' ∧ s = .slice ya (setN (spns l d) x.n n').length yc ∧ Hid (OwnI wr V.heap.size ya yc (setN (spns l d) x.n n')) ∧ Below V.heap.size V wr) (fun _ k _ => n - (intOf k).toNat)
     case atStart => exact ⟨0, none, 0, Nat.zero_le _, rfl, rfl, OwnI.nil _ _, Below.refl _ _⟩
     case round =>
      obtain ⟨k, ya, yc, hk, rfl, rfl, HY, bwy⟩ := hrel
      have hyl := setN_len (spns l d) x.n k
      obtain ⟨ys, hys⟩ : ∃ ys, setN (spns l d) x.n k = ys := ⟨_, rfl⟩
      have HYS : Hid (setN (spns l d) x.n k = ys) := hys
      rw [hys] at HY hyl ⊢
      clear hys
      by_cases hlk : k < n
      ·have ikk : (k : Int) < (n : Int) := by omega
       have ik0 : (0 : Int) ≤ (k : Int) := by omega
       have hwk : IntKind.i64.wrap ((k : Int) + 1) = ((k + 1 : Nat) : Int) := by simp [IntKind.wrap, IntKind.bits, IntKind.signed]; omega
       obtain ⟨r, hr⟩ : ∃ r, l[k]? = some r := ⟨_, List.getElem?_eq_getElem (by rw [HN.out]; exact hlk)⟩
       have HSU : Hid (setN (spns l d) x.n (k + 1) = if (r.piece d).holds x.n then ys ++ [k] else ys) := by
        show _ = _
        rw [setN_succ (q := r.piece d) _ _ (by rw [List.getElem?_map, hr]; rfl), HYS.out]
       obtain ⟨b, off, ha, hc⟩ := ((HRow.out.low bw).low bwy).cells k r hr
       have hs1 := hsr.out r
       have hor := HAA.out r (List.mem_of_getElem? hr)
       have KH : Hid _ := KHO.out r hor.1 hor.2 x HXO.out wr.drew
       rw [HXA.out] at KH
       have hx := HXC.out.below bwy
       have y0 := kept bwy d0
       subst ha
       clear hr hor
       obtain ⟨RA, hRA⟩ : ∃ RA, r.v = RA := ⟨_, rfl⟩
       rw [hRA] at hs1 hc KH
       clear hRA
       obtain ⟨H, hH⟩ : ∃ H, (r.piece d).holds x.n = H := ⟨_, rfl⟩
       rw [hH] at KH HSU
       clear hH d0
       go_wp2_with fail
       refine wp_region_noPanic ?_
       refine wp_region_held_drew (S := fun w'' => CellsAt w'' b (off + k * 17) RA ∧ w''.cell? ⟨W2.heap.size, 0, none⟩ = some (.slice (some ⟨g1, 0, none⟩) M c1) ∧ CellsAt w'' g1 (m * 3) XA) (by kernel_rfl) (by exact ⟨hc.below (below_drew _), kept (below_drew _) y0, hx.below (below_drew _)⟩) (fun hHeld => ?_)
       refine qtk (i := 0) (oi := { dst := some 76, op := Op.move (.tmp 0), type := 40, pos := "ref.go:128", after := #[], guard := none }) (v := (.slice (some ⟨b, off, none⟩) n c)) hHeld ?_ ?_
       ·intro w9 hSw
        try dsimp only at hSw
        go_simp
       try simp only [qpu]
       refine qtk (i := 1) (oi := { dst := some 77, op := Op.move (.tmp 13), type := 3, pos := "ref.go:128", after := #[], guard := none }) (v := (.int .i64 (k : Int))) hHeld ?_ ?_
       ·intro w9 hSw
        try dsimp only at hSw
        go_simp
       try simp only [qpu]
       refine qtk (i := 2) (oi := { dst := some 78, op := Op.indexAddr 40 (.tmp 76) (.tmp 77), type := 0, pos := "ref.go:128", after := #[{ on := 0, ground := Ground.data }, { on := 1, ground := Ground.data }], guard := none }) (v := (.pointer (some ⟨b, off + k * 17, none⟩))) hHeld ?_ ?_
       ·intro w9 hSw
        try dsimp only at hSw
        go_simp
       try simp only [qpu]
       refine qty (i := 3) (oi := { dst := some 79, op := Op.load 82 (.tmp 78), type := 82, pos := "ref.go:128", after := #[{ on := 2, ground := Ground.data }], guard := none }) (v := (.agg RA)) (yieldsIf_at (by rfl) _ _ rfl b (off + k * 17) (by rfl) _ (fun _ h => h.1) Tryz.underlying82 hs1) hHeld ?_
       try simp only [qpu]
       refine qtk (i := 4) (oi := { dst := some 80, op := Op.move (.tmp 1), type := 3, pos := "ref.go:128", after := #[], guard := none }) (v := (.int .i64 (d : Int))) hHeld ?_ ?_
       ·intro w9 hSw
        try dsimp only at hSw
        go_simp
       try simp only [qpu]
       refine qtk (i := 5) (oi := { dst := some 81, op := Op.fieldAddr 63 (.tmp 6) 0, type := 0, pos := "ref.go:128", after := #[], guard := none }) (v := (.pointer (some ⟨W2.heap.size, 0, none⟩))) hHeld ?_ ?_
       ·intro w9 hSw
        try dsimp only at hSw
        go_simp
       try simp only [qpu]
       refine qtk (i := 6) (oi := { dst := some 82, op := Op.load 61 (.tmp 81), type := 61, pos := "ref.go:128", after := #[{ on := 5, ground := Ground.data }], guard := none }) (v := (.slice (some ⟨g1, 0, none⟩) M c1)) hHeld ?_ ?_
       ·intro w9 hSw
        try dsimp only at hSw
        go_simp
       try simp only [qpu]
       refine qtk (i := 7) (oi := { dst := some 83, op := Op.move (.tmp 11), type := 3, pos := "ref.go:128", after := #[], guard := none }) (v := (.int .i64 (m : Int))) hHeld ?_ ?_
       ·intro w9 hSw
        try dsimp only at hSw
        go_simp
       try simp only [qpu]
       refine qtk (i := 8) (oi := { dst := some 84, op := Op.indexAddr 61 (.tmp 82) (.tmp 83), type := 0, pos := "ref.go:128", after := #[{ on := 6, ground := Ground.data }, { on := 7, ground := Ground.data }], guard := none }) (v := (.pointer (some ⟨g1, m * 3, none⟩))) hHeld ?_ ?_
       ·intro w9 hSw
        try dsimp only at hSw
        go_simp
       try simp only [qpu]
       refine qty (i := 9) (oi := { dst := some 85, op := Op.load 86 (.tmp 84), type := 86, pos := "ref.go:128", after := #[{ on := 8, ground := Ground.data }], guard := none }) (v := (.agg XA)) (yieldsIf_at (by rfl) _ _ rfl g1 (m * 3) (by rfl) _ (fun _ h => h.2.2) Tryz.underlying86 hs2) hHeld ?_
       try simp only [qpu]
       refine wpAnyH_ready (rs := [10]) (by kernel_rfl) (by simp) ?_
       refine AllReadyH.cons (o := { dst := some 86, op := Op.call { callee := Callee.value (.func 75), args := #[.tmp 79, .tmp 80, .tmp 85], argTypes := #[82, 3, 86] }, type := 4, pos := "ref.go:128", after := #[{ on := 3, ground := Ground.data }, { on := 4, ground := Ground.data }, { on := 9, ground := Ground.data }], guard := none }) rfl (fun K hK => ?_) AllReadyH.nil
       go_simp
       refine Calls.mono KH.out ?_
       rintro e W6 ⟨rfl, bb⟩
       have by6 := bel_tr (bel_tr bwy (below_drew _)) bb
       refine hK.out _ _ ?_ (fun hHeld => ?_)
       ·exact ⟨(hc.below (below_drew _)).below bb, kept bb (kept (below_drew _) y0), (hx.below (below_drew _)).below bb⟩
       clear hK K
       try simp only [qpu]
       refine wpAnyH_done (by kernel_rfl) ?_ _
       refine NoPanic.normal ?_
       clear hc hx y0 KH hHeld
       cases H
       ·have HSU' : Hid (setN (spns l d) x.n (k + 1) = ys) := HSU.out
        have HY6 : Hid (OwnI W6 V.heap.size ya yc ys) := (HY.out.below (below_drew wr)).below bb
        go_wp2
        refine ⟨⟨k + 1, ya, yc, by omega, by first | rfl | (congr 1), by rw [HSU'.out], ?_, by6⟩, by simp only [intOf]; omega⟩
        rw [HSU'.out]; exact HY6
       ·have HSU' : Hid (setN (spns l d) x.n (k + 1) = ys ++ [k]) := HSU.out
        have HY6 : Hid (OwnI W6 V.heap.size ya yc ys) := (HY.out.below (below_drew wr)).below bb
        have hk5 : OwnI (W6.alloc (.cells #[.int .i64 (k : Int)] 3)) V.heap.size ya yc ys := HY6.out.below (bel_nw rfl)
        have hcell : (W6.alloc (.cells #[.int .i64 (k : Int)] 3)).cell? ⟨W6.heap.size, 0, none⟩ = some (.int .i64 (k : Nat)) := (blk_new W6 _ _).cell 0 _ rfl
        have hbase : V.heap.size ≤ (W6.alloc (.cells #[.int .i64 (k : Int)] 3)).heap.size := by
         have := by6.size
         rw [World.size_alloc]
         omega
        go_wp2_with (at_builtin; refine wpList_appI _ rfl _ _ rfl V.heap.size ya yc ys rfl hk5 ⟨W6.heap.size, 0, none⟩ 1 k rfl hcell (by omega) hbase ?_)
        intro gk ck WA okA bA grA atA ltA
        have HOA : Hid (OwnI WA V.heap.size (some ⟨gk, 0, none⟩) ck (ys ++ [k])) := okA
        have bwA : Below V.heap.size V WA := (by6.alloc by6.size _).trans bA
        clear hk5 hcell hbase bA grA okA atA ltA
        go_wp2
        refine ⟨⟨k + 1, some ⟨gk, 0, none⟩, ck, by omega, by first | rfl | (congr 1), by rw [HSU'.out, List.length_append]; rfl, ?_, bwA⟩, by simp only [intOf]; omega⟩
        rw [HSU'.out]; exact HOA
      ·have hkn : k = n := by omega
       subst hkn
       have ikk : ¬ (k : Int) < (k : Int) := by omega
       have HSX : Hid (stS l d x = ys) := by show _ = _; rw [← HYS.out, ← HPL.out]; rfl
       have HB2 : Hid (Blk wr W2.heap.size 63 #[.slice (some ⟨g1, 0, none⟩) M c1, .slice ka m kc, .slice sa S.length sc]) := HB.out.kept bwy
       have HC2 : Hid (CutJ w.heap.size wr w.heap.size g1 c1 L ka kc Kl sa sc S vs) := HC.out.below bwy
       have bw2 := bel_tr bw bwy
       have HSS : Hid (((L.take m ++ [x]).map (stS l d)).foldl putS [] = putS S ys) := by
        show _ = _
        rw [List.map_append, List.foldl_append, HS.out]
        show putS S (stS l d x) = _
        rw [HSX.out]
       have HKS : Hid (classF [] ((L.take m ++ [x]).map (stS l d)) = Kl ++ [putN S ys]) := by
        show _ = _
        rw [List.map_append]
        show classF [] (_ ++ [stS l d x]) = _
        rw [classF_snoc, HK0.out, HS.out, HSX.out]
       have KU : Hid _ := rput_any w.heap.size sa sc S vs ya yc ys wr bw2.size HC2.out.set (HY.out.base bw.size) (by omega) (fun t ht => by have := HSm.out t ht; omega) (by omega)
       have HAP : Hid (Apt (ka.map (·.block)) [Value.slice ya ys.length yc]) := fun v hv ai n' ci e e2 => by
        simp only [List.mem_singleton] at hv
        subst hv
        simp only [Value.slice.injEq] at e
        have h1 := (HY.out.lt ai e.1).1
        cases hka : ka with
        | none => rw [hka] at e2; cases e2
        | some z =>
         have h3 := (HC.out.cls.lt z hka).2.1
         rw [hka] at e2
         simp only [Option.map_some, Option.some.injEq] at e2
         omega
       have e2 := HB2.out.cell 2 (.slice sa S.length sc) rfl
       obtain ⟨YL, hYL⟩ : ∃ YL, ys.length = YL := ⟨_, rfl⟩
       rw [hYL] at KU HAP ⊢
       obtain ⟨SL, hSL⟩ : ∃ SL, S.length = SL := ⟨_, rfl⟩
       rw [hSL] at KU e2 HB2 hSl
       obtain ⟨PN, hPN⟩ : ∃ PN, putN S ys = PN := ⟨_, rfl⟩
       rw [hPN] at KU HKS
       obtain ⟨S', hS'⟩ : ∃ S', putS S ys = S' := ⟨_, rfl⟩
       rw [hS'] at KU HSS
       clear hYL hSL hPN hS' d0 HY bwy
       go_wp2_with fail
       refine Calls.mono KU.out ?_
       rintro e W8 ⟨sa', sc', vs', rfl, so8, hv8, b8⟩
       obtain ⟨SL', hSL'⟩ : ∃ SL', S'.length = SL' := ⟨_, rfl⟩
       have HSL' : Hid (S'.length = SL') := hSL'
       have bw8 := bel_tr bw2 b8
       have HB8 : Hid (Blk W8 W2.heap.size 63 #[.slice (some ⟨g1, 0, none⟩) M c1, .slice ka m kc, .slice sa SL sc]) := HB2.out.kept b8
       have HC8 : Hid (CutJ w.heap.size W8 w.heap.size g1 c1 L ka kc Kl sa' sc' S' vs') := HC2.out.sets b8 so8 hv8 HAP.out
       rw [hSL']
       clear KU e2 so8 hv8 b8 hSL' HB2 HC2
       have a2 := HB8.out.cell 2 (.slice sa SL sc) rfl
       have f2 := HB8.out.frozen 2
       have HE2 : Hid (W8.setCell ⟨W2.heap.size, 2, none⟩ (.slice sa' SL' sc') = W8.setRow W2.heap.size #[.slice (some ⟨g1, 0, none⟩) M c1, .slice ka m kc, .slice sa' SL' sc']) := setCell_eq_setRow W8 W2.heap.size 2 _ 63 (0, 0) _ HB8.out
       have HC9 : Hid (CutJ w.heap.size (W8.setCell ⟨W2.heap.size, 2, none⟩ (.slice sa' SL' sc')) w.heap.size g1 c1 L ka kc Kl sa' sc' S' vs') := by
        show CutJ _ _ _ _ _ _ _ _ _ _ _ _ _
        rw [HE2.out]
        exact HC8.out.other HB8.out (Nat.ne_of_gt HGC.out) _
       have HB9 : Hid (Blk (W8.setCell ⟨W2.heap.size, 2, none⟩ (.slice sa' SL' sc')) W2.heap.size 63 #[.slice (some ⟨g1, 0, none⟩) M c1, .slice ka m kc, .slice sa' SL' sc']) := by
        show Blk _ _ _ _
        rw [HE2.out]
        exact HB8.out.set _
       have bw9 : Below w.heap.size w (W8.setCell ⟨W2.heap.size, 2, none⟩ (.slice sa' SL' sc')) := by
        rw [HE2.out]
        exact below_setRow bw8 (Nat.le_of_lt HGC.out) _
       obtain ⟨W9, hW9⟩ : ∃ W9, W8.setCell ⟨W2.heap.size, 2, none⟩ (.slice sa' SL' sc') = W9 := ⟨_, rfl⟩
       rw [hW9] at HC9 HB9 bw9
       have d1 := HB9.out.cell 1 (.slice ka m kc) rfl
       have hk5 : OwnI (W9.alloc (.cells #[.int .i64 (PN : Int)] 3)) w.heap.size ka kc Kl := HC9.out.cls.below (bel_nw rfl)
       have hcell : (W9.alloc (.cells #[.int .i64 (PN : Int)] 3)).cell? ⟨W9.heap.size, 0, none⟩ = some (.int .i64 (PN : Nat)) := (blk_new W9 _ _).cell 0 _ rfl
       have hbase : w.heap.size ≤ (W9.alloc (.cells #[.int .i64 (PN : Int)] 3)).heap.size := by
        have := bw9.size
        rw [World.size_alloc]
        omega
       go_wp2_with (at_builtin; refine wpList_appI _ rfl _ _ rfl w.heap.size ka kc Kl (by rw [HKl.out]; rfl) hk5 ⟨W9.heap.size, 0, none⟩ 1 PN rfl hcell (by rw [HKl.out]; omega) hbase ?_)
       intro gk ck WA okA bA grA atA ltA
       have bwA : Below w.heap.size w WA := (bw9.alloc bw9.size _).trans bA
       have HCA : Hid (CutJ w.heap.size WA w.heap.size g1 c1 L (some ⟨gk, 0, none⟩) ck (Kl ++ [PN]) sa' sc' S' vs') := (HC9.out.below (bel_nw rfl)).moreK grA okA (by simpa using atA)
       have HBA : Hid (Blk WA W2.heap.size 63 #[.slice (some ⟨g1, 0, none⟩) M c1, .slice ka m kc, .slice sa' SL' sc']) := (HB9.out.alloc _).far grA (OwnI.off hk5 (HB9.out.alloc _) (by decide))
       have a1 := HBA.out.cell 1 (.slice ka m kc) rfl
       have f1 := HBA.out.frozen 1
       have HE : Hid (WA.setCell ⟨W2.heap.size, 1, none⟩ (.slice (some ⟨gk, 0, none⟩) (m + 1) ck) = WA.setRow W2.heap.size #[.slice (some ⟨g1, 0, none⟩) M c1, .slice (some ⟨gk, 0, none⟩) (m + 1) ck, .slice sa' SL' sc']) := setCell_eq_setRow WA W2.heap.size 1 _ 63 (0, 0) _ HBA.out
       have HCB : Hid _ := HCA.out.other HBA.out (Nat.ne_of_gt HGC.out) #[.slice (some ⟨g1, 0, none⟩) M c1, .slice (some ⟨gk, 0, none⟩) (m + 1) ck, .slice sa' SL' sc']
       have HBB : Hid (Blk _ _ _ _) := HBA.out.set #[.slice (some ⟨g1, 0, none⟩) M c1, .slice (some ⟨gk, 0, none⟩) (m + 1) ck, .slice sa' SL' sc']
       have bwB := below_setRow bwA (Nat.le_of_lt HGC.out) #[.slice (some ⟨g1, 0, none⟩) M c1, .slice (some ⟨gk, 0, none⟩) (m + 1) ck, .slice sa' SL' sc']
       rw [HKl.out]
       clear d1 hk5 hcell hbase bA grA okA atA ltA
       go_wp2
       rw [HE.out]
       refine ⟨⟨m + 1, some ⟨gk, 0, none⟩, ck, sa', sc', vs', by omega, by first | rfl | (congr 1), ?_, ?_, bwB⟩, by simp only [intOf]; omega⟩
       ·rw [HTX.out, HSS.out, HSL'.out]; exact HBB
       ·rw [HTX.out, HKS.out, HSS.out]; exact HCB
    ·have hmM : m = M := by omega
     subst hmM
     have imk : ¬ (m : Int) < (m : Int) := by omega
     have HLT : Hid (L.take m = L) := by show _ = _; rw [← HM.out, List.take_length]
     have HRR : Hid (setsL (L.map (stS l d)) = S ∧ classL (L.map (stS l d)) = Kl) := by
      refine ⟨?_, ?_⟩
      ·rw [← HS.out, HLT.out]; rfl
      ·rw [← HK0.out, HLT.out]; rfl
     have c0 := HB.out.cell 0 (.slice (some ⟨g1, 0, none⟩) m c1) rfl
     have c1' := HB.out.cell 1 (.slice ka m kc) rfl
     have c2 := HB.out.cell 2 (.slice sa S.length sc) rfl
     have RB := HC.out.res
     have HCZ : Hid _ := HC.out.wrote RB #[.slice (some ⟨g1, 0, none⟩) m c1, .slice ka m kc, .slice sa S.length sc]
     have HPP := HP1.out (fun r hr => (HAA.out r hr).2) (V.setRow w.heap.size #[.slice (some ⟨g1, 0, none⟩) m c1, .slice ka m kc, .slice sa S.length sc]) g1 c1 ka kc sa sc vs
     rw [HLD.out, HRR.out.1, HRR.out.2, HM.out] at HPP
     have HPF : Hid _ := HPP ⟨HCZ.out.1, HCZ.out.2.1, HCZ.out.2.2⟩ (below_setRow bw (Nat.le_refl _) _)
     clear HPP
     go_wp2_with (refine wpList_st rfl 63 _ _ rfl w.heap.size #[.slice (some ⟨g1, 0, none⟩) m c1, .slice ka m kc, .slice sa S.length sc] zc (by rfl) (by rfl) RB (by kernel_rfl) rfl (by kernel_rfl) ?_)
     exact ret_cell_tmp (k := 4) (j := 5) Tryz.f43 (by kernel_rfl) (RB.set _) Tryz.underlying63 (by kernel_rfl) (by rfl) (by rfl) rfl HPF.out
theorem rcut_err (a : Option Addr) (c : Nat) (l : List Rl) (dim : Int) (w : World) (hrow : RowR w a l) (h : errC l dim ≠ 0) :
  Calls Tryz.prog 43 #[.slice a l.length c, .int .i64 dim] w fun e w' => e = .returned (.tuple #[.agg zc, .int .i64 (errC l dim)]) ∧ Below w.heap.size w w' := by
 unfold errC at h ⊢
 by_cases hd : 0 ≤ dim ∧ dim < 7
 ·rw [if_pos hd] at h ⊢
  by_cases hn : 64 < l.length
  ·rw [if_pos hn]
   exact rcut_many a l.length c dim w hd hn
  ·rw [if_neg hn] at h ⊢
   by_cases ha : l.all (·.right) = true
   ·rw [if_pos ha] at h
    exact absurd rfl h
   ·rw [if_neg ha]
    obtain ⟨d, rfl⟩ : ∃ d : Nat, dim = (d : Int) := ⟨dim.toNat, by omega⟩
    refine rcut_run a c l d w (by omega) hrow (by omega) _ (fun _ w' hb => ⟨rfl, hb⟩) (fun hall => absurd (List.all_eq_true.2 hall) ha)
 ·rw [if_neg hd]
  exact rcut_dim a l.length c dim w hd
theorem rcut_ok (a : Option Addr) (c : Nat) (l : List Rl) (dim : Int) (w : World) (hrow : RowR w a l) (h : errC l dim = 0) :
  Calls Tryz.prog 43 #[.slice a l.length c, .int .i64 dim] w fun e w' => ∃ g1 c1 ka kc sa sc vs L K S, e = .returned (.tuple #[.agg #[.slice (some ⟨g1, 0, none⟩) L.length c1, .slice ka L.length kc, .slice sa S.length sc], .int .i64 0]) ∧ CutIn w' w.heap.size g1 c1 ka kc sa sc vs L K S ∧ CutP l dim.toNat L K S ∧ Below w.heap.size w w' := by
 obtain ⟨d, rfl, hd, hl, hr⟩ := err_ok h
 have hlr : ∀ r ∈ l, r.ok ∧ r.right = true := fun r hr' => ⟨hrow.each r hr', hr r hr'⟩
 refine rcut_run a c l d w hl hrow hd _ (fun hx => ?_) (fun _ w' g1 c1 ka kc sa sc vs hci hb => ⟨g1, c1, ka, kc, sa, sc, vs, _, _, _, rfl, hci, ?_, hb⟩)
 ·obtain ⟨r, h1, h2⟩ := hx
  rw [hr r h1] at h2
  cases h2
 ·rw [Int.toNat_natCast]
  exact cutP_doc hd hlr
end Go.Proofs.YtmfgjicfdjjihaaGreatDoor
