/- Texts joined: CkC CkD CkE CkF -/
import Derived.Test.YtmfgjicfdjjihaaGreatDoorLxa8
namespace Go.Proofs.YtmfgjicfdjjihaaGreatDoor
open Go.RowKit
set_option linter.unusedVariables false
set_option linter.unusedSimpArgs false
/-- The program's greatest point lies where it was laid. -/
def Top (w : World) : Prop := CellsAt w 2 0 ptTop.v
theorem Top.below {w w' : World} (h : Top w) (hb : Below w.heap.size w w') : Top w' := CellsAt.below h hb
theorem Top.c0 {w : World} (h : Top w) : w.cell? ⟨2, 0, none⟩ = some (.int .u64 18446744073709551615) := h.2 0 _ rfl
theorem Top.c1 {w : World} (h : Top w) : w.cell? ⟨2, 1, none⟩ = some (.int .u64 18446744073709551615) := h.2 1 _ rfl
theorem Top.c2 {w : World} (h : Top w) : w.cell? ⟨2, 2, none⟩ = some (.int .u64 18446744073709551615) := h.2 2 _ rfl
set_option maxRecDepth 100000 in
set_option maxHeartbeats 4000000 in
theorem whole_pc (w : World) (hT : Top w) : Calls Tryz.prog 108 #[] w fun e w' => e = .returned (.agg (pcv pt0 ptTop)) ∧ Below w.heap.size w w' := by
 have hT' := Top.below hT (bel_nw rfl : Below w.heap.size w (w.alloc (.cells z6 121)))
 have c0 := hT'.c0
 have c1 := hT'.c1
 have c2 := hT'.c2
 have d0 := hT.c0
 have d1 := hT.c1
 have d2 := hT.c2
 have hpos := hT.1
 have hne : ¬ 0 = w.heap.size := by omega
 clear hT hT'
 go_enter Tryz.func108, Tryz.ntmps108
 go_wp2
 exact ret_cell (k := 0) Tryz.f108 (by kernel_rfl) (blk_new w (pcv pt0 ptTop) 121) Tryz.underlying121 (by kernel_rfl) (by rfl) rfl ⟨rfl, bel_nw rfl⟩
set_option maxRecDepth 100000 in
set_option maxHeartbeats 4000000 in
theorem behind_pt (p : Pt) (w : World) (hp : p.ok) (ha : p.a < 18446744073709551615) : Calls Tryz.prog 93 #[.agg p.v] w fun e w' => e = .returned (.agg p.next.v) ∧ Below w.heap.size w w' := by
 obtain ⟨a, b, c⟩ := p
 obtain ⟨⟨a0, a1⟩, ⟨b0, b1⟩, ⟨c0, c1⟩⟩ := hp
 simp only at *
 unfold Pt.next
 simp only
 by_cases hc : c < 18446744073709551615
 ·rw [if_pos hc]
  have hw : IntKind.u64.wrap (c + 1) = c + 1 := wraps_u64 _ (by omega) (by omega)
  have hne : ¬ c + 1 = 0 := by omega
  go_enter Tryz.func93, Tryz.ntmps93
  go_wp2
  exact ret_cell (k := 2) (g := w.heap.size + 1) Tryz.f93 (by kernel_rfl) (blk1 w _ (Pt.v ⟨a, b, c + 1⟩) 86) Tryz.underlying86 (by kernel_rfl) (by rfl) rfl ⟨rfl, bel_al (bel_nw rfl) rfl⟩
 ·rw [if_neg hc]
  have ec : c = 18446744073709551615 := by omega
  subst ec
  clear hc
  have hw0 : IntKind.u64.wrap (18446744073709551615 + 1) = 0 := by kernel_rfl
  by_cases hb : b < 18446744073709551615
  ·rw [if_pos hb]
   have hw : IntKind.u64.wrap (b + 1) = b + 1 := wraps_u64 _ (by omega) (by omega)
   have hne : ¬ b + 1 = 0 := by omega
   go_enter Tryz.func93, Tryz.ntmps93
   go_wp2
   exact ret_cell (k := 2) (g := w.heap.size + 1) Tryz.f93 (by kernel_rfl) (blk1 w _ (Pt.v ⟨a, b + 1, 0⟩) 86) Tryz.underlying86 (by kernel_rfl) (by rfl) rfl ⟨rfl, bel_al (bel_nw rfl) rfl⟩
  ·rw [if_neg hb]
   have eb : b = 18446744073709551615 := by omega
   subst eb
   clear hb
   have hw : IntKind.u64.wrap (a + 1) = a + 1 := wraps_u64 _ (by omega) (by omega)
   go_enter Tryz.func93, Tryz.ntmps93
   go_wp2
   exact ret_cell (k := 2) (g := w.heap.size + 1) Tryz.f93 (by kernel_rfl) (blk1 w _ (Pt.v ⟨a + 1, 0, 0⟩) 86) Tryz.underlying86 (by kernel_rfl) (by rfl) rfl ⟨rfl, bel_al (bel_nw rfl) rfl⟩
theorem wpList_st {ops : Array Oper} {rest : List Oper} {o : Oper} {ac : Act} {w : World} {Q : Exit → Act → World → Prop} (hgd : o.guard = none) (t : TypeId) (p x : Operand) (ho : o.op = Op.store t p x) (g : Nat) (cs old : Array Value)
  (hp : ac.eval p = .pointer (some ⟨g, 0, none⟩)) (hx : ac.eval x = .agg cs) (hb : Blk w g t old) (hi : (Tryz.prog.info? t).map (·.size) = some cs.size) (ho' : old.size = cs.size) (h1 : cs.all (·.oneCell') = true) (h : wpList Tryz.prog ops Q rest (ac.put o.dst undef) (w.setRow g cs)) : wpList Tryz.prog ops Q (o :: rest) ac w :=
 wpList_plain hgd fun K hK => wp_store_row t p x ho g cs hp hx t old hb hi ho' h1 (hK _ _ h)
set_option maxRecDepth 100000 in
set_option maxHeartbeats 4000000 in
theorem numberPiece_any (n e : Int) (p q : Pt) (w : World) (hT : Top w) (hn : n ≠ e → 0 ≤ n ∧ n ≤ 65535) (hp : (if n = e then pt0 else ptNum n) = p) (hq : (if n = e then ptTop else ptNum n) = q) :
  Calls Tryz.prog 90 #[.int .i64 n, .int .i64 e] w fun e w' => e = .returned (.agg (pcv p q)) ∧ Below w.heap.size w w' := by
 have hb0 : Below w.heap.size w (w.alloc (.cells z6 121)) := bel_nw rfl
 have B0 := blk_new w z6 121
 obtain ⟨W, hW⟩ : ∃ W, w.alloc (.cells z6 121) = W := ⟨_, rfl⟩
 rw [hW] at hb0 B0
 by_cases h : n = e
 ·subst h
  rw [if_pos rfl] at hp hq
  subst hp hq
  have K := whole_pc W (hT.below hb0)
  clear hn hT
  go_enter Tryz.func90, Tryz.ntmps90
  go_wp2_with fail
  refine K.mono ?_
  rintro e' W1 ⟨rfl, bb⟩
  have B1 := B0.kept bb
  have b1 := bel_tr hb0 bb
  clear K bb B0 hW hb0
  go_wp2_with (refine wpList_st rfl 121 _ _ rfl w.heap.size (pcv pt0 ptTop) z6 (by rfl) (by rfl) B1 (by kernel_rfl) rfl (by kernel_rfl) ?_)
  exact ret_cell (k := 4) Tryz.f90 (by kernel_rfl) (B1.set _) Tryz.underlying121 (by kernel_rfl) (by rfl) rfl ⟨rfl, below_setRow b1 (Nat.le_refl _) _⟩
 ·rw [if_neg h] at hp hq
  subst hp hq
  have K := fun W => number_pt n W (by have := hn h; omega)
  clear hn hT
  go_enter Tryz.func90, Tryz.ntmps90
  go_wp2_with fail
  refine (K _).mono ?_
  rintro e' W1 ⟨rfl, bb⟩
  have B1 := B0.kept bb
  have b1 := bel_tr hb0 bb
  clear bb B0 hW hb0
  go_wp2_with fail
  refine (K _).mono ?_
  rintro e' W2 ⟨rfl, bb⟩
  have B2 := B1.kept bb
  have b2 := bel_tr b1 bb
  clear bb B1 b1
  go_wp2_with (refine wpList_st rfl 121 _ _ rfl w.heap.size (pcv (ptNum n) (ptNum n)) z6 (by rfl) (by rfl) B2 (by kernel_rfl) rfl (by kernel_rfl) ?_)
  exact ret_cell (k := 4) Tryz.f90 (by kernel_rfl) (B2.set _) Tryz.underlying121 (by kernel_rfl) (by rfl) rfl ⟨rfl, below_setRow b2 (Nat.le_refl _) _⟩
set_option maxRecDepth 100000 in
set_option maxHeartbeats 4000000 in
theorem portsPiece_any (lo hi : Int) (w : World) (h1 : 0 ≤ lo ∧ lo ≤ 65535) (h2 : 0 ≤ hi ∧ hi ≤ 65535) :
  Calls Tryz.prog 92 #[.agg #[.int .i64 lo, .int .i64 hi]] w fun e w' => e = .returned (.agg (pcv (ptNum lo) (ptNum hi))) ∧ Below w.heap.size w w' := by
 have K1 := hidW (fun W => number_pt lo W (by omega))
 have K2 := hidW (fun W => number_pt hi W (by omega))
 obtain ⟨W1, hW1⟩ : ∃ W1, w.alloc (.cells #[.int .i64 lo, .int .i64 hi] 80) = W1 := ⟨_, rfl⟩
 obtain ⟨W2, hW2⟩ : ∃ W2, W1.alloc (.cells z6 121) = W2 := ⟨_, rfl⟩
 have b1 := bel_nw hW1
 have b2 := bel_al b1 hW2
 have B1' := blk_nw hW1
 have B1 := B1'.al hW2
 have B2 := blk_nw hW2
 have g1 := B1'.lt
 have gw : w.heap.size ≤ W1.heap.size := Nat.le_of_lt g1
 clear B1' b1
 go_enter Tryz.func92, Tryz.ntmps92
 go_wp2
 refine wp_region_noPanic ?_
 refine wp_region_held_drew (S := fun w'' => Blk w'' w.heap.size 80 #[.int .i64 lo, .int .i64 hi]) (by kernel_rfl) (by exact B1.drew) (fun hHeld => ?_)
 refine qtk (i := 0) (oi := { dst := some 3, op := Op.fieldAddr 80 (.tmp 1) 0, type := 0, pos := "piece.go:57", after := #[], guard := none }) (v := (.pointer (some ⟨w.heap.size, 0, none⟩))) hHeld ?_ ?_
 ·intro w9 hSw
  try dsimp only at hSw
  go_simp
 try simp only [qpu]
 refine wpAnyH_take (i := 1) (oi := { dst := some 4, op := Op.load 3 (.tmp 3), type := 3, pos := "piece.go:57", after := #[{ on := 0, ground := Ground.data }], guard := none }) (v := (.int .i64 lo)) rfl (by kernel_rfl) (by kernel_rfl) (by kernel_rfl) (fun _ _ _ h => h) (Or.inl ⟨by rfl, fun w9 hSw => by have hc := Blk.cell hSw 0 _ rfl; go_simp⟩) hHeld ?_
 try simp only [qpu]
 refine qtk (i := 3) (oi := { dst := some 6, op := Op.fieldAddr 80 (.tmp 1) 1, type := 0, pos := "piece.go:57", after := #[], guard := none }) (v := (.pointer (some ⟨w.heap.size, 1, none⟩))) hHeld ?_ ?_
 ·intro w9 hSw
  try dsimp only at hSw
  go_simp
 try simp only [qpu]
 refine wpAnyH_take (i := 4) (oi := { dst := some 7, op := Op.load 3 (.tmp 6), type := 3, pos := "piece.go:57", after := #[{ on := 3, ground := Ground.data }], guard := none }) (v := (.int .i64 hi)) rfl (by kernel_rfl) (by kernel_rfl) (by kernel_rfl) (fun _ _ _ h => h) (Or.inl ⟨by rfl, fun w9 hSw => by have hc := Blk.cell hSw 1 _ rfl; go_simp⟩) hHeld ?_
 try simp only [qpu]
 refine wpAnyH_ready (rs := [2]) (by kernel_rfl) (by simp) ?_
 refine AllReadyH.cons (o := { dst := some 5, op := Op.call { callee := Callee.value (.func 104), args := #[.tmp 4], argTypes := #[3] }, type := 86, pos := "piece.go:57", after := #[{ on := 1, ground := Ground.data }], guard := none }) rfl (fun K hK => ?_) AllReadyH.nil
 go_simp
 refine Calls.mono (K1.out _) ?_
 rintro e W3 ⟨rfl, bb⟩
 have B13 := B1.drew.kept bb
 have B23 := B2.drew.kept bb
 have b3 := bel_tr b2.drew bb
 refine hK.out _ _ ?_ (fun hHeld => ?_)
 ·exact B13
 clear hK K
 try simp only [qpu]
 refine wpAnyH_ready (rs := [5]) (by kernel_rfl) (by simp) ?_
 refine AllReadyH.cons (o := { dst := some 8, op := Op.call { callee := Callee.value (.func 104), args := #[.tmp 7], argTypes := #[3] }, type := 86, pos := "piece.go:57", after := #[{ on := 4, ground := Ground.data }, { on := 2, ground := Ground.chain }], guard := none }) rfl (fun K hK => ?_) AllReadyH.nil
 go_simp
 refine Calls.mono (K2.out _) ?_
 rintro e W4 ⟨rfl, bb'⟩
 have B14 := B13.kept bb'
 have B24 := B23.kept bb'
 have b4 := bel_tr b3 bb'
 refine hK.out _ _ ?_ (fun hHeld => ?_)
 ·exact B14
 clear hK K
 try simp only [qpu]
 refine qtk (i := 6) (oi := { dst := some 9, op := Op.build 121 #[(0, .tmp 5), (1, .tmp 8)], type := 121, pos := "piece.go:57", after := #[{ on := 2, ground := Ground.data }, { on := 5, ground := Ground.data }], guard := none }) (v := (.agg (pcv (ptNum lo) (ptNum hi)))) hHeld ?_ ?_
 ·intro w9 hSw
  try dsimp only at hSw
  go_simp
 try simp only [qpu]
 refine wpAnyH_ready (rs := [7]) (by kernel_rfl) (by simp) ?_
 refine AllReadyH.cons (o := { dst := none, op := Op.store 121 (.tmp 2) (.tmp 9), type := 0, pos := "piece.go:57", after := #[{ on := 6, ground := Ground.data }, { on := 5, ground := Ground.chain }, { on := 0, ground := Ground.phase }, { on := 1, ground := Ground.phase }, { on := 2, ground := Ground.phase }, { on := 3, ground := Ground.phase }, { on := 4, ground := Ground.phase }, { on := 5, ground := Ground.phase }, { on := 6, ground := Ground.phase }], guard := none }) rfl (fun K hK => ?_) AllReadyH.nil
 refine step_store_blk rfl _ _ _ rfl W1.heap.size (pcv (ptNum lo) (ptNum hi)) _ (by rfl) (by rfl) B24 (by kernel_rfl) (by rfl) (by kernel_rfl) ?_
 refine hK.out _ _ ?_ (fun hHeld => ?_)
 ·exact B14.other (Nat.ne_of_lt g1) _
 clear hK K
 try simp only [qpu]
 refine wpAnyH_done (by kernel_rfl) ?_ _
 refine NoPanic.normal ?_
 go_wp2
 exact ret_cell (k := 2) Tryz.f92 (by kernel_rfl) (B24.set _) Tryz.underlying121 (by kernel_rfl) (by rfl) rfl ⟨rfl, below_setRow b4 gw _⟩
theorem lastAd_fam (a : Ad) (n : Int) : (lastAd a n).fam = a.fam := rfl
set_option maxRecDepth 100000 in
set_option maxHeartbeats 4000000 in
theorem netPiece_zero (w : World) (hT : Top w) :
  Calls Tryz.prog 91 #[.agg #[.int .i64 0, .int .u64 0, .int .u64 0, .int .i64 0]] w fun e w' => e = .returned (.agg (pcv pt0 ptTop)) ∧ Below w.heap.size w w' := by
 obtain ⟨W1, hW1⟩ : ∃ W1, w.alloc (.cells #[.int .i64 0, .int .u64 0, .int .u64 0, .int .i64 0] 78) = W1 := ⟨_, rfl⟩
 obtain ⟨W2, hW2⟩ : ∃ W2, W1.alloc (.cells z6 121) = W2 := ⟨_, rfl⟩
 have b1 := bel_nw hW1
 have b2 := bel_al b1 hW2
 have B1' := blk_nw hW1
 have B1 := B1'.al hW2
 have B2 := blk_nw hW2
 have gw : w.heap.size ≤ W1.heap.size := Nat.le_of_lt B1'.lt
 have K := whole_pc W2 (hT.below b2)
 have c0 := B1.cell 0 _ rfl
 have c1 := B1.cell 1 _ rfl
 have c2 := B1.cell 2 _ rfl
 have c3 := B1.cell 3 _ rfl
 clear B1' b1 hT B1
 go_enter Tryz.func91, Tryz.ntmps91
 go_wp2_with fail
 refine K.mono ?_
 rintro e' W3 ⟨rfl, bb⟩
 have B3 := B2.kept bb
 have b3 := bel_tr b2 bb
 clear K bb B2 hW1 hW2 b2 c0 c1 c2 c3
 go_wp2_with (refine wpList_st rfl 121 _ _ rfl W1.heap.size (pcv pt0 ptTop) z6 (by rfl) (by rfl) B3 (by kernel_rfl) rfl (by kernel_rfl) ?_)
 exact ret_cell (k := 2) Tryz.f91 (by kernel_rfl) (B3.set _) Tryz.underlying121 (by kernel_rfl) (by rfl) rfl ⟨rfl, below_setRow b3 gw _⟩
set_option maxRecDepth 100000 in
set_option maxHeartbeats 4000000 in
theorem netPiece_some (a : Ad) (n : Int) (w : World) (ho : a.ok) (hp : a.rightPrefix n = true) :
  Calls Tryz.prog 91 #[.agg #[.int .i64 a.fam, .int .u64 a.hi, .int .u64 a.lo, .int .i64 n]] w fun e w' => e = .returned (.agg (pcv (ptAd a) (ptAd (lastAd a n)))) ∧ Below w.heap.size w w' := by
 have hf := right_fam (right_of_prefix hp).1
 have K1 := hidW (fun W => address_pt a W (by omega))
 have K2 := hidW (fun W => last_any a n W ho hp)
 have K3 := hidW (fun W => address_pt (lastAd a n) W (by rw [lastAd_fam]; omega))
 have hne : (a.fam == 0) = false := by rw [beq_eq_false_iff_ne]; omega
 clear ho hp hf
 obtain ⟨f, h, l⟩ := a
 simp only at *
 generalize ptAd (lastAd ⟨f, h, l⟩ n) = P2 at *
 generalize lastAd ⟨f, h, l⟩ n = A2 at *
 generalize ptAd ⟨f, h, l⟩ = P1 at *
 obtain ⟨W1, hW1⟩ : ∃ W1, w.alloc (.cells #[.int .i64 f, .int .u64 h, .int .u64 l, .int .i64 n] 78) = W1 := ⟨_, rfl⟩
 obtain ⟨W2, hW2⟩ : ∃ W2, W1.alloc (.cells z6 121) = W2 := ⟨_, rfl⟩
 have b1 := bel_nw hW1
 have b2 := bel_al b1 hW2
 have B1' := blk_nw hW1
 have B1 := B1'.al hW2
 have B2 := blk_nw hW2
 have g1 := B1'.lt
 have gw : w.heap.size ≤ W1.heap.size := Nat.le_of_lt g1
 have c0 := B1.cell 0 _ rfl
 have c1 := B1.cell 1 _ rfl
 have c2 := B1.cell 2 _ rfl
 have c3 := B1.cell 3 _ rfl
 clear B1' b1
 go_enter Tryz.func91, Tryz.ntmps91
 go_wp2
 refine wp_region_noPanic ?_
 refine wp_region_held_drew (S := fun w'' => Blk w'' w.heap.size 78 #[.int .i64 f, .int .u64 h, .int .u64 l, .int .i64 n]) (by kernel_rfl) (by exact B1.drew) (fun hHeld => ?_)
 refine qtk (i := 0) (oi := { dst := some 7, op := Op.fieldAddr 78 (.tmp 1) 0, type := 0, pos := "piece.go:64", after := #[], guard := none }) (v := (.pointer (some ⟨w.heap.size, 0, none⟩))) hHeld ?_ ?_
 ·intro w9 hSw
  try dsimp only at hSw
  go_simp
 try simp only [qpu]
 refine qty (i := 1) (oi := { dst := some 8, op := Op.load 31 (.tmp 7), type := 31, pos := "piece.go:64", after := #[{ on := 0, ground := Ground.data }], guard := none }) (v := (.agg #[.int .i64 f, .int .u64 h, .int .u64 l])) (yieldsIf_sub rfl _ _ rfl w.heap.size 0 78 (by rfl) _ _ (fun _ hSw => hSw) (by rfl) Tryz.underlying31 (by kernel_rfl)) hHeld ?_
 try simp only [qpu]
 refine qty (i := 3) (oi := { dst := some 10, op := Op.load 78 (.tmp 1), type := 78, pos := "piece.go:64", after := #[], guard := none }) (v := (.agg #[.int .i64 f, .int .u64 h, .int .u64 l, .int .i64 n])) (yieldsIf_blk rfl _ _ rfl w.heap.size (by rfl) _ (fun _ hSw => hSw) Tryz.underlying78 (by kernel_rfl)) hHeld ?_
 try simp only [qpu]
 refine wpAnyH_ready (rs := [2]) (by kernel_rfl) (by simp) ?_
 refine AllReadyH.cons (o := { dst := some 9, op := Op.call { callee := Callee.value (.func 105), args := #[.tmp 8], argTypes := #[31] }, type := 86, pos := "piece.go:64", after := #[{ on := 1, ground := Ground.data }], guard := none }) rfl (fun K hK => ?_) AllReadyH.nil
 go_simp
 refine Calls.mono (K1.out _) ?_
 rintro e W3 ⟨rfl, bb3⟩
 have B13 := B1.drew.kept bb3
 have B23 := B2.drew.kept bb3
 have b3 := bel_tr b2.drew bb3
 refine hK.out _ _ ?_ (fun hHeld => ?_)
 ·exact B13
 clear hK K
 try simp only [qpu]
 refine wpAnyH_ready (rs := [4]) (by kernel_rfl) (by simp) ?_
 refine AllReadyH.cons (o := { dst := some 11, op := Op.call { callee := Callee.value (.func 109), args := #[.tmp 10], argTypes := #[78] }, type := 31, pos := "piece.go:64", after := #[{ on := 3, ground := Ground.data }, { on := 2, ground := Ground.chain }], guard := none }) rfl (fun K hK => ?_) AllReadyH.nil
 go_simp
 refine Calls.mono (K2.out _) ?_
 rintro e W4 ⟨rfl, bb4⟩
 have B14 := B13.kept bb4
 have B24 := B23.kept bb4
 have b4 := bel_tr b3 bb4
 refine hK.out _ _ ?_ (fun hHeld => ?_)
 ·exact B14
 clear hK K
 try simp only [qpu]
 refine wpAnyH_ready (rs := [5]) (by kernel_rfl) (by simp) ?_
 refine AllReadyH.cons (o := { dst := some 12, op := Op.call { callee := Callee.value (.func 105), args := #[.tmp 11], argTypes := #[31] }, type := 86, pos := "piece.go:64", after := #[{ on := 4, ground := Ground.data }, { on := 4, ground := Ground.chain }], guard := none }) rfl (fun K hK => ?_) AllReadyH.nil
 go_simp
 refine Calls.mono (K3.out _) ?_
 rintro e W5 ⟨rfl, bb5⟩
 have B15 := B14.kept bb5
 have B25 := B24.kept bb5
 have b5 := bel_tr b4 bb5
 refine hK.out _ _ ?_ (fun hHeld => ?_)
 ·exact B15
 clear hK K
 try simp only [qpu]
 refine qtk (i := 6) (oi := { dst := some 13, op := Op.build 121 #[(0, .tmp 9), (1, .tmp 12)], type := 121, pos := "piece.go:64", after := #[{ on := 2, ground := Ground.data }, { on := 5, ground := Ground.data }], guard := none }) (v := (.agg (pcv P1 P2))) hHeld ?_ ?_
 ·intro w9 hSw
  try dsimp only at hSw
  go_simp
 try simp only [qpu]
 refine wpAnyH_ready (rs := [7]) (by kernel_rfl) (by simp) ?_
 refine AllReadyH.cons (o := { dst := none, op := Op.store 121 (.tmp 2) (.tmp 13), type := 0, pos := "piece.go:64", after := #[{ on := 6, ground := Ground.data }, { on := 5, ground := Ground.chain }, { on := 0, ground := Ground.phase }, { on := 1, ground := Ground.phase }, { on := 2, ground := Ground.phase }, { on := 3, ground := Ground.phase }, { on := 4, ground := Ground.phase }, { on := 5, ground := Ground.phase }, { on := 6, ground := Ground.phase }], guard := none }) rfl (fun K hK => ?_) AllReadyH.nil
 refine step_store_blk rfl _ _ _ rfl W1.heap.size (pcv P1 P2) _ (by rfl) (by rfl) B25 (by kernel_rfl) (by rfl) (by kernel_rfl) ?_
 refine hK.out _ _ ?_ (fun hHeld => ?_)
 ·exact B15.other (Nat.ne_of_lt g1) _
 clear hK K
 try simp only [qpu]
 refine wpAnyH_done (by kernel_rfl) ?_ _
 refine NoPanic.normal ?_
 go_wp2
 exact ret_cell (k := 2) Tryz.f91 (by kernel_rfl) (B25.set _) Tryz.underlying121 (by kernel_rfl) (by rfl) rfl ⟨rfl, below_setRow b5 gw _⟩
theorem netPiece_any (a : Ad) (n : Int) (w : World) (hT : Top w) (ho : a.ok) (hn : netB a n = true) :
  Calls Tryz.prog 91 #[.agg #[.int .i64 a.fam, .int .u64 a.hi, .int .u64 a.lo, .int .i64 n]] w fun e w' => e = .returned (.agg (pcv (if zeroP a n then pt0 else ptAd a) (if zeroP a n then ptTop else ptAd (lastAd a n)))) ∧ Below w.heap.size w w' := by
 cases hz : zeroP a n with
 | true =>
  have h := hz
  simp only [zeroP, Bool.and_eq_true, beq_iff_eq] at h
  rw [h.1, h.2.1, h.2.2.1, h.2.2.2]
  exact netPiece_zero w hT
 | false => exact netPiece_some a n w ho (net_right hn hz)
set_option maxRecDepth 100000 in
set_option maxHeartbeats 4000000 in
theorem pieceOf_0 (r : Rl) (w : World) (hT : Top w) (ho : r.ok) (hr : r.right = true) :
  Calls Tryz.prog 61 #[.agg r.v, .int .i64 0] w fun e w' => e = .returned (.agg (pcv (r.fst_ 0) (r.lst_ 0))) ∧ Below w.heap.size w w' := by
 obtain ⟨r1, r2, r3, r4, r5, r6, r7⟩ := Rl.right_all hr
 have K : Hid (∀ W, Top W → Calls Tryz.prog 90 #[.int .i64 r.fr, .int .i64 (-1)] W fun e w' => e = .returned (.agg (pcv (r.fst_ 0) (r.lst_ 0))) ∧ Below W.heap.size W w') := fun W T => numberPiece_any r.fr (-1) (r.fst_ 0) (r.lst_ 0) W T (by intro h; omega) (by simp only [Rl.fst_, Rl.any_, Rl.from_, beq_iff_eq]) (by simp only [Rl.lst_, Rl.any_, Rl.upto, beq_iff_eq])
 clear r1 r2 r3 r4 r5 r6 r7 ho hr
 generalize r.fst_ 0 = P1 at *
 generalize r.lst_ 0 = P2 at *
 obtain ⟨W1, hW1⟩ : ∃ W1, w.alloc (.cells r.v 82) = W1 := ⟨_, rfl⟩
 obtain ⟨W2, hW2⟩ : ∃ W2, W1.alloc (.cells z6 121) = W2 := ⟨_, rfl⟩
 have b1 := bel_nw hW1
 have b2 := bel_al b1 hW2
 have B1' := blk_nw hW1
 have B1 := B1'.al hW2
 have B2 := blk_nw hW2
 have gw : w.heap.size ≤ W1.heap.size := Nat.le_of_lt B1'.lt
 have T2 := hT.below b2
 have c0 := B1.cell 0 (.int .i64 r.fr) rfl
 clear B1' b1 hT B1
 generalize r.v = RV at *
 go_enter Tryz.func61, Tryz.ntmps61
 go_wp2_with fail
 refine (K.out _ T2).mono ?_
 rintro e' W3 ⟨rfl, bb⟩
 have B3 := B2.kept bb
 have b3 := bel_tr b2 bb
 clear K bb B2 hW1 hW2 b2 T2 c0
 go_wp2_with (refine wpList_st rfl 121 _ _ rfl W1.heap.size (pcv P1 P2) z6 (by rfl) (by rfl) B3 (by kernel_rfl) rfl (by kernel_rfl) ?_)
 exact ret_cell (k := 4) Tryz.f61 (by kernel_rfl) (B3.set _) Tryz.underlying121 (by kernel_rfl) (by rfl) rfl ⟨rfl, below_setRow b3 gw _⟩
set_option maxRecDepth 100000 in
set_option maxHeartbeats 4000000 in
theorem pieceOf_1 (r : Rl) (w : World) (hT : Top w) (ho : r.ok) (hr : r.right = true) :
  Calls Tryz.prog 61 #[.agg r.v, .int .i64 1] w fun e w' => e = .returned (.agg (pcv (r.fst_ 1) (r.lst_ 1))) ∧ Below w.heap.size w w' := by
 obtain ⟨r1, r2, r3, r4, r5, r6, r7⟩ := Rl.right_all hr
 have K : Hid (∀ W, Top W → Calls Tryz.prog 90 #[.int .i64 r.tz, .int .i64 (-1)] W fun e w' => e = .returned (.agg (pcv (r.fst_ 1) (r.lst_ 1))) ∧ Below W.heap.size W w') := fun W T => numberPiece_any r.tz (-1) (r.fst_ 1) (r.lst_ 1) W T (by intro h; omega) (by simp only [Rl.fst_, Rl.any_, Rl.from_, beq_iff_eq]) (by simp only [Rl.lst_, Rl.any_, Rl.upto, beq_iff_eq])
 clear r1 r2 r3 r4 r5 r6 r7 ho hr
 generalize r.fst_ 1 = P1 at *
 generalize r.lst_ 1 = P2 at *
 obtain ⟨W1, hW1⟩ : ∃ W1, w.alloc (.cells r.v 82) = W1 := ⟨_, rfl⟩
 obtain ⟨W2, hW2⟩ : ∃ W2, W1.alloc (.cells z6 121) = W2 := ⟨_, rfl⟩
 have b1 := bel_nw hW1
 have b2 := bel_al b1 hW2
 have B1' := blk_nw hW1
 have B1 := B1'.al hW2
 have B2 := blk_nw hW2
 have gw : w.heap.size ≤ W1.heap.size := Nat.le_of_lt B1'.lt
 have T2 := hT.below b2
 have c1 := B1.cell 1 (.int .i64 r.tz) rfl
 clear B1' b1 hT B1
 generalize r.v = RV at *
 go_enter Tryz.func61, Tryz.ntmps61
 go_wp2_with fail
 refine (K.out _ T2).mono ?_
 rintro e' W3 ⟨rfl, bb⟩
 have B3 := B2.kept bb
 have b3 := bel_tr b2 bb
 clear K bb B2 hW1 hW2 b2 T2 c1
 go_wp2_with (refine wpList_st rfl 121 _ _ rfl W1.heap.size (pcv P1 P2) z6 (by rfl) (by rfl) B3 (by kernel_rfl) rfl (by kernel_rfl) ?_)
 exact ret_cell (k := 4) Tryz.f61 (by kernel_rfl) (B3.set _) Tryz.underlying121 (by kernel_rfl) (by rfl) rfl ⟨rfl, below_setRow b3 gw _⟩
set_option maxRecDepth 100000 in
set_option maxHeartbeats 4000000 in
theorem pieceOf_2 (r : Rl) (w : World) (hT : Top w) (ho : r.ok) (hr : r.right = true) :
  Calls Tryz.prog 61 #[.agg r.v, .int .i64 2] w fun e w' => e = .returned (.agg (pcv (r.fst_ 2) (r.lst_ 2))) ∧ Below w.heap.size w w' := by
 obtain ⟨r1, r2, r3, r4, r5, r6, r7⟩ := Rl.right_all hr
 have K : Hid (∀ W, Top W → Calls Tryz.prog 91 #[.agg #[.int .i64 r.s.fam, .int .u64 r.s.hi, .int .u64 r.s.lo, .int .i64 r.sn]] W fun e w' => e = .returned (.agg (pcv (r.fst_ 2) (r.lst_ 2))) ∧ Below W.heap.size W w') := fun W T => netPiece_any r.s r.sn W T ho.s r3
 clear r1 r2 r3 r4 r5 r6 r7 ho hr
 generalize r.fst_ 2 = P1 at *
 generalize r.lst_ 2 = P2 at *
 obtain ⟨W1, hW1⟩ : ∃ W1, w.alloc (.cells r.v 82) = W1 := ⟨_, rfl⟩
 obtain ⟨W2, hW2⟩ : ∃ W2, W1.alloc (.cells z6 121) = W2 := ⟨_, rfl⟩
 have b1 := bel_nw hW1
 have b2 := bel_al b1 hW2
 have B1' := blk_nw hW1
 have B1 := B1'.al hW2
 have B2 := blk_nw hW2
 have gw : w.heap.size ≤ W1.heap.size := Nat.le_of_lt B1'.lt
 have T2 := hT.below b2
 have c2 := B1.cell 2 (.int .i64 r.s.fam) rfl
 have c3 := B1.cell 3 (.int .u64 r.s.hi) rfl
 have c4 := B1.cell 4 (.int .u64 r.s.lo) rfl
 have c5 := B1.cell 5 (.int .i64 r.sn) rfl
 clear B1' b1 hT B1
 generalize r.v = RV at *
 go_enter Tryz.func61, Tryz.ntmps61
 go_wp2_with fail
 refine (K.out _ T2).mono ?_
 rintro e' W3 ⟨rfl, bb⟩
 have B3 := B2.kept bb
 have b3 := bel_tr b2 bb
 clear K bb B2 hW1 hW2 b2 T2 c2 c3 c4 c5
 go_wp2_with (refine wpList_st rfl 121 _ _ rfl W1.heap.size (pcv P1 P2) z6 (by rfl) (by rfl) B3 (by kernel_rfl) rfl (by kernel_rfl) ?_)
 exact ret_cell (k := 4) Tryz.f61 (by kernel_rfl) (B3.set _) Tryz.underlying121 (by kernel_rfl) (by rfl) rfl ⟨rfl, below_setRow b3 gw _⟩
set_option maxRecDepth 100000 in
set_option maxHeartbeats 4000000 in
theorem pieceOf_3 (r : Rl) (w : World) (hT : Top w) (ho : r.ok) (hr : r.right = true) :
  Calls Tryz.prog 61 #[.agg r.v, .int .i64 3] w fun e w' => e = .returned (.agg (pcv (r.fst_ 3) (r.lst_ 3))) ∧ Below w.heap.size w w' := by
 obtain ⟨r1, r2, r3, r4, r5, r6, r7⟩ := Rl.right_all hr
 have K : Hid (∀ W, Top W → Calls Tryz.prog 91 #[.agg #[.int .i64 r.d.fam, .int .u64 r.d.hi, .int .u64 r.d.lo, .int .i64 r.dn]] W fun e w' => e = .returned (.agg (pcv (r.fst_ 3) (r.lst_ 3))) ∧ Below W.heap.size W w') := fun W T => netPiece_any r.d r.dn W T ho.d r4
 clear r1 r2 r3 r4 r5 r6 r7 ho hr
 generalize r.fst_ 3 = P1 at *
 generalize r.lst_ 3 = P2 at *
 obtain ⟨W1, hW1⟩ : ∃ W1, w.alloc (.cells r.v 82) = W1 := ⟨_, rfl⟩
 obtain ⟨W2, hW2⟩ : ∃ W2, W1.alloc (.cells z6 121) = W2 := ⟨_, rfl⟩
 have b1 := bel_nw hW1
 have b2 := bel_al b1 hW2
 have B1' := blk_nw hW1
 have B1 := B1'.al hW2
 have B2 := blk_nw hW2
 have gw : w.heap.size ≤ W1.heap.size := Nat.le_of_lt B1'.lt
 have T2 := hT.below b2
 have c6 := B1.cell 6 (.int .i64 r.d.fam) rfl
 have c7 := B1.cell 7 (.int .u64 r.d.hi) rfl
 have c8 := B1.cell 8 (.int .u64 r.d.lo) rfl
 have c9 := B1.cell 9 (.int .i64 r.dn) rfl
 clear B1' b1 hT B1
 generalize r.v = RV at *
 go_enter Tryz.func61, Tryz.ntmps61
 go_wp2_with fail
 refine (K.out _ T2).mono ?_
 rintro e' W3 ⟨rfl, bb⟩
 have B3 := B2.kept bb
 have b3 := bel_tr b2 bb
 clear K bb B2 hW1 hW2 b2 T2 c6 c7 c8 c9
 go_wp2_with (refine wpList_st rfl 121 _ _ rfl W1.heap.size (pcv P1 P2) z6 (by rfl) (by rfl) B3 (by kernel_rfl) rfl (by kernel_rfl) ?_)
 exact ret_cell (k := 4) Tryz.f61 (by kernel_rfl) (B3.set _) Tryz.underlying121 (by kernel_rfl) (by rfl) rfl ⟨rfl, below_setRow b3 gw _⟩
set_option maxRecDepth 100000 in
set_option maxHeartbeats 4000000 in
theorem pieceOf_4 (r : Rl) (w : World) (hT : Top w) (ho : r.ok) (hr : r.right = true) :
  Calls Tryz.prog 61 #[.agg r.v, .int .i64 4] w fun e w' => e = .returned (.agg (pcv (r.fst_ 4) (r.lst_ 4))) ∧ Below w.heap.size w w' := by
 obtain ⟨r1, r2, r3, r4, r5, r6, r7⟩ := Rl.right_all hr
 have K : Hid (∀ W, Top W → Calls Tryz.prog 90 #[.int .i64 r.pr, .int .i64 0] W fun e w' => e = .returned (.agg (pcv (r.fst_ 4) (r.lst_ 4))) ∧ Below W.heap.size W w') := fun W T => numberPiece_any r.pr 0 (r.fst_ 4) (r.lst_ 4) W T (by intro h; omega) (by simp only [Rl.fst_, Rl.any_, Rl.from_, beq_iff_eq]) (by simp only [Rl.lst_, Rl.any_, Rl.upto, beq_iff_eq])
 clear r1 r2 r3 r4 r5 r6 r7 ho hr
 generalize r.fst_ 4 = P1 at *
 generalize r.lst_ 4 = P2 at *
 obtain ⟨W1, hW1⟩ : ∃ W1, w.alloc (.cells r.v 82) = W1 := ⟨_, rfl⟩
 obtain ⟨W2, hW2⟩ : ∃ W2, W1.alloc (.cells z6 121) = W2 := ⟨_, rfl⟩
 have b1 := bel_nw hW1
 have b2 := bel_al b1 hW2
 have B1' := blk_nw hW1
 have B1 := B1'.al hW2
 have B2 := blk_nw hW2
 have gw : w.heap.size ≤ W1.heap.size := Nat.le_of_lt B1'.lt
 have T2 := hT.below b2
 have c10 := B1.cell 10 (.int .i64 r.pr) rfl
 clear B1' b1 hT B1
 generalize r.v = RV at *
 go_enter Tryz.func61, Tryz.ntmps61
 go_wp2_with fail
 refine (K.out _ T2).mono ?_
 rintro e' W3 ⟨rfl, bb⟩
 have B3 := B2.kept bb
 have b3 := bel_tr b2 bb
 clear K bb B2 hW1 hW2 b2 T2 c10
 go_wp2_with (refine wpList_st rfl 121 _ _ rfl W1.heap.size (pcv P1 P2) z6 (by rfl) (by rfl) B3 (by kernel_rfl) rfl (by kernel_rfl) ?_)
 exact ret_cell (k := 4) Tryz.f61 (by kernel_rfl) (B3.set _) Tryz.underlying121 (by kernel_rfl) (by rfl) rfl ⟨rfl, below_setRow b3 gw _⟩
set_option maxRecDepth 100000 in
set_option maxHeartbeats 4000000 in
theorem pieceOf_5 (r : Rl) (w : World) (hT : Top w) (ho : r.ok) (hr : r.right = true) :
  Calls Tryz.prog 61 #[.agg r.v, .int .i64 5] w fun e w' => e = .returned (.agg (pcv (r.fst_ 5) (r.lst_ 5))) ∧ Below w.heap.size w w' := by
 obtain ⟨r1, r2, r3, r4, r5, r6, r7⟩ := Rl.right_all hr
 have K : Hid (∀ W, Top W → Calls Tryz.prog 92 #[.agg #[.int .i64 r.sl, .int .i64 r.sh]] W fun e w' => e = .returned (.agg (pcv (r.fst_ 5) (r.lst_ 5))) ∧ Below W.heap.size W w') := fun W T => portsPiece_any r.sl r.sh W (by omega) (by omega)
 clear r1 r2 r3 r4 r5 r6 r7 ho hr
 generalize r.fst_ 5 = P1 at *
 generalize r.lst_ 5 = P2 at *
 obtain ⟨W1, hW1⟩ : ∃ W1, w.alloc (.cells r.v 82) = W1 := ⟨_, rfl⟩
 obtain ⟨W2, hW2⟩ : ∃ W2, W1.alloc (.cells z6 121) = W2 := ⟨_, rfl⟩
 have b1 := bel_nw hW1
 have b2 := bel_al b1 hW2
 have B1' := blk_nw hW1
 have B1 := B1'.al hW2
 have B2 := blk_nw hW2
 have gw : w.heap.size ≤ W1.heap.size := Nat.le_of_lt B1'.lt
 have T2 := hT.below b2
 have c11 := B1.cell 11 (.int .i64 r.sl) rfl
 have c12 := B1.cell 12 (.int .i64 r.sh) rfl
 clear B1' b1 hT B1
 generalize r.v = RV at *
 go_enter Tryz.func61, Tryz.ntmps61
 go_wp2_with fail
 refine (K.out _ T2).mono ?_
 rintro e' W3 ⟨rfl, bb⟩
 have B3 := B2.kept bb
 have b3 := bel_tr b2 bb
 clear K bb B2 hW1 hW2 b2 T2 c11 c12
 go_wp2_with (refine wpList_st rfl 121 _ _ rfl W1.heap.size (pcv P1 P2) z6 (by rfl) (by rfl) B3 (by kernel_rfl) rfl (by kernel_rfl) ?_)
 exact ret_cell (k := 4) Tryz.f61 (by kernel_rfl) (B3.set _) Tryz.underlying121 (by kernel_rfl) (by rfl) rfl ⟨rfl, below_setRow b3 gw _⟩
set_option maxRecDepth 100000 in
set_option maxHeartbeats 4000000 in
theorem pieceOf_6 (r : Rl) (w : World) (hT : Top w) (ho : r.ok) (hr : r.right = true) :
  Calls Tryz.prog 61 #[.agg r.v, .int .i64 6] w fun e w' => e = .returned (.agg (pcv (r.fst_ 6) (r.lst_ 6))) ∧ Below w.heap.size w w' := by
 obtain ⟨r1, r2, r3, r4, r5, r6, r7⟩ := Rl.right_all hr
 have K : Hid (∀ W, Top W → Calls Tryz.prog 92 #[.agg #[.int .i64 r.dl, .int .i64 r.dh]] W fun e w' => e = .returned (.agg (pcv (r.fst_ 6) (r.lst_ 6))) ∧ Below W.heap.size W w') := fun W T => portsPiece_any r.dl r.dh W (by omega) (by omega)
 clear r1 r2 r3 r4 r5 r6 r7 ho hr
 generalize r.fst_ 6 = P1 at *
 generalize r.lst_ 6 = P2 at *
 obtain ⟨W1, hW1⟩ : ∃ W1, w.alloc (.cells r.v 82) = W1 := ⟨_, rfl⟩
 obtain ⟨W2, hW2⟩ : ∃ W2, W1.alloc (.cells z6 121) = W2 := ⟨_, rfl⟩
 have b1 := bel_nw hW1
 have b2 := bel_al b1 hW2
 have B1' := blk_nw hW1
 have B1 := B1'.al hW2
 have B2 := blk_nw hW2
 have gw : w.heap.size ≤ W1.heap.size := Nat.le_of_lt B1'.lt
 have T2 := hT.below b2
 have c13 := B1.cell 13 (.int .i64 r.dl) rfl
 have c14 := B1.cell 14 (.int .i64 r.dh) rfl
 clear B1' b1 hT B1
 generalize r.v = RV at *
 go_enter Tryz.func61, Tryz.ntmps61
 go_wp2_with fail
 refine (K.out _ T2).mono ?_
 rintro e' W3 ⟨rfl, bb⟩
 have B3 := B2.kept bb
 have b3 := bel_tr b2 bb
 clear K bb B2 hW1 hW2 b2 T2 c13 c14
 go_wp2_with (refine wpList_st rfl 121 _ _ rfl W1.heap.size (pcv P1 P2) z6 (by rfl) (by rfl) B3 (by kernel_rfl) rfl (by kernel_rfl) ?_)
 exact ret_cell (k := 4) Tryz.f61 (by kernel_rfl) (B3.set _) Tryz.underlying121 (by kernel_rfl) (by rfl) rfl ⟨rfl, below_setRow b3 gw _⟩
theorem pieceOf_any (r : Rl) (d : Nat) (hd : d < 7) (w : World) (hT : Top w) (ho : r.ok) (hr : r.right = true) :
  Calls Tryz.prog 61 #[.agg r.v, .int .i64 (d : Int)] w fun e w' => e = .returned (.agg (pcv (r.fst_ d) (r.lst_ d))) ∧ Below w.heap.size w w' := by
 match d, hd with
 | 0, _ => exact pieceOf_0 r w hT ho hr
 | 1, _ => exact pieceOf_1 r w hT ho hr
 | 2, _ => exact pieceOf_2 r w hT ho hr
 | 3, _ => exact pieceOf_3 r w hT ho hr
 | 4, _ => exact pieceOf_4 r w hT ho hr
 | 5, _ => exact pieceOf_5 r w hT ho hr
 | 6, _ => exact pieceOf_6 r w hT ho hr
end Go.Proofs.YtmfgjicfdjjihaaGreatDoor
