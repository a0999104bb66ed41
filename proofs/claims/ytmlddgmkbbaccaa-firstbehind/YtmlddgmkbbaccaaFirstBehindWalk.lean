/- The law FirstBehind returns true. -/
import Derived.Test.YtmlddgmkbbaccaaFrU
namespace Go.Proofs.Ytmlddgmkbbaccaa
open Go.RowKit
set_option linter.unusedVariables false
set_option linter.unusedSimpArgs false
set_option maxRecDepth 100000 in
set_option maxHeartbeats 4000000 in
theorem firstBehind_walk (a : Option Addr) (c : Nat) (l : List Rl) (r : Rl) (k : Ky) (w : World) (lc : l.length ≤ c) (cm : c * 136 ≤ 140737488351232 ∧ (a = none → c = 0)) (hrow : RowR w a l) (ho : r.ok) (ko : k.ok) :
    Calls Try.prog 7 #[.slice a l.length c, .agg r.v, .agg k.v] w fun e w' => e = .returned (.bool true) ∧ Below w.heap.size w w' := by
  obtain ⟨cm, hnil⟩ := cm
  have hs1 := info_rl r
  have hs2 := info_ky k
  have KA : Hid (∀ W, Calls Try.prog 15 #[] W fun e w' => e = .returned (.bool true) ∧ Below W.heap.size W w') := alive_any
  have K1 : Hid (∀ W, RowR W a l → Calls Try.prog 16 #[.slice a l.length c, .agg k.v] W fun e w' => e = .returned (.tuple #[.int .i64 (fIdx (findL l k)), .bool (findL l k).isSome]) ∧ Below W.heap.size W w') := fun W h => find_any a c l k W (by omega) h ko
  have K2 : Hid (∀ W a' c', RowR W a' (l ++ [r]) → Calls Try.prog 16 #[.slice a' (l ++ [r]).length c', .agg k.v] W fun e w' => e = .returned (.tuple #[.int .i64 (fIdx (findL (l ++ [r]) k)), .bool (findL (l ++ [r]) k).isSome]) ∧ Below W.heap.size W w') := fun W a' c' h => find_any a' c' (l ++ [r]) k W (by simp only [List.length_append, List.length_cons, List.length_nil]; omega) h ko
  have K3 : Hid (∀ W, Calls Try.prog 13 #[.agg r.v, .agg k.v] W fun e w' => e = .returned (.bool (r.takes k)) ∧ Below W.heap.size W w') := fun W => takes_any r k W ho ko
  have HRow : Hid (RowR w a l) := hrow
  have HLO : Hid (∀ q ∈ l ++ [r], q.ok) := fun q hq => by
    rcases List.mem_append.1 hq with h | h
    · exact hrow.each q h
    · rw [List.mem_singleton.1 h]
      exact ho
  have HREL : Hid (((findL l k).isSome = true ∧ (findL (l ++ [r]) k).isSome = true ∧ fIdx (findL (l ++ [r]) k) = fIdx (findL l k)) ∨ ((findL l k).isSome = false ∧ fIdx (findL l k) = -1 ∧ ((r.takes k = true ∧ (findL (l ++ [r]) k).isSome = true ∧ fIdx (findL (l ++ [r]) k) = (l.length : Int)) ∨ (r.takes k = false ∧ (findL (l ++ [r]) k).isSome = false)))) := by
    show _ ∨ _
    rw [find_two, find_one]
    cases findL l k with
    | some i => exact .inl ⟨rfl, rfl, rfl⟩
    | none =>
      refine .inr ⟨rfl, rfl, ?_⟩
      cases r.takes k
      · exact .inr ⟨rfl, rfl⟩
      · exact .inl ⟨rfl, rfl, by simp [fIdx]⟩
  have HO : Hid r.ok := ho
  generalize fIdx (findL l k) = I at *
  generalize (findL l k).isSome = Q1 at *
  generalize fIdx (findL (l ++ [r]) k) = J at *
  generalize (findL (l ++ [r]) k).isSome = Q2 at *
  generalize r.takes k = tk at *
  generalize k.v = KV at *
  obtain ⟨L2, hL2⟩ : ∃ L2, l ++ [r] = L2 := ⟨_, rfl⟩
  have HL2 : Hid (l ++ [r] = L2) := hL2
  rw [hL2] at K2 HLO
  clear hrow ho ko hL2
  have bel : Below w.heap.size w ((w.alloc (.cells r.v 30)).alloc (.cells KV 32)) := bel_al (bel_nw rfl) rfl
  have hD := (blk_new w r.v 30).alloc (.cells KV 32)
  have hKy := blk_new (w.alloc (.cells r.v 30)) KV 32
  rw [World.size_alloc] at hKy
  go_enter Try.func7, Try.ntmps7
  go_wp2_with (refine wpList_load_at_w rfl _ _ rfl _ 0 (by rfl) _ hKy.at_ Try.underlying32 hs2 ?_)
  refine (K1.out _ (HRow.out.low bel)).mono ?_
  rintro e W1 ⟨rfl, bb⟩
  have hD := hD.kept bb
  have hKy := hKy.kept bb
  have bel := bel_tr bel bb
  clear bb K1
  go_wp2_with fail
  have hD := hD.drew
  have hKy := hKy.drew
  have bel := bel.drew
  obtain ⟨W0, hW0⟩ : ∃ W0, W1.drew = W0 := ⟨_, rfl⟩
  have bel0 : Below W0.heap.size W0 W1.drew := by rw [hW0]; exact Below.refl _ _
  have hbx : w.heap.size + 1 < W0.heap.size := by rw [← hW0]; exact hKy.lt
  clear hW0
  refine wp_region_noPanic ?_
  refine wp_region_held_drew (S := fun w'' => Blk w'' w.heap.size 30 r.v ∧ Blk w'' (w.heap.size + 1) 32 KV) (by kernel_rfl) (by exact ⟨hD, hKy⟩) (fun hHeld => ?_)
  refine wpAnyH_take (i := 0) (oi := { dst := some 18, op := Op.move (.tmp 0), type := 37, pos := "law.go:68", after := #[], guard := none }) (v := (.slice a l.length c)) rfl (by kernel_rfl) (by kernel_rfl) (by kernel_rfl) (fun _ _ _ h => h) (Or.inl ⟨by rfl, ?_⟩) hHeld ?_
  · intro w9 hSw
    try dsimp only at hSw
    go_simp
  try simp only [Act.put, List.setIfInBounds_toArray, List.set_cons_zero, List.set_cons_succ]
  refine wpAnyH_take (i := 2) (oi := { dst := some 20, op := Op.load 30 (.tmp 4), type := 30, pos := "law.go:68", after := #[], guard := none }) (v := (.agg r.v)) rfl (by kernel_rfl) (by kernel_rfl) (by kernel_rfl) (fun _ _ _ h => h) (yieldsIf_at (by rfl) _ _ rfl w.heap.size 0 (by rfl) _ (fun _ h => h.1.at_) Try.underlying30 hs1) hHeld ?_
  try simp only [Act.put, List.setIfInBounds_toArray, List.set_cons_zero, List.set_cons_succ]
  refine wpAnyH_take (i := 5) (oi := { dst := some 23, op := Op.load 32 (.tmp 5), type := 32, pos := "law.go:68", after := #[], guard := none }) (v := (.agg KV)) rfl (by kernel_rfl) (by kernel_rfl) (by kernel_rfl) (fun _ _ _ h => h) (yieldsIf_at (by rfl) _ _ rfl (w.heap.size + 1) 0 (by rfl) _ (fun _ h => h.2.at_) Try.underlying32 hs2) hHeld ?_
  try simp only [Act.put, List.setIfInBounds_toArray, List.set_cons_zero, List.set_cons_succ]
  refine wpAnyH_ready (rs := [1, 3]) (by kernel_rfl) (by simp) ?_
  refine AllReadyH.cons (o := { dst := some 19, op := Op.call { callee := Callee.builtin Builtin.append, args := #[.const (Value.slice none 0 0), .tmp 18], argTypes := #[37, 37] }, type := 37, pos := "law.go:68", after := #[{ on := 0, ground := Ground.data }], guard := none }) rfl (fun K hK => ?_) (AllReadyH.cons (o := { dst := some 21, op := Op.buildSlice 37 1 #[(0, .tmp 20)], type := 37, pos := "law.go:68", after := #[{ on := 2, ground := Ground.data }], guard := none }) rfl (fun K hK => ?_) AllReadyH.nil)
  · obtain ⟨a1, c1, W101, hrun, hO, bb⟩ := run_appRs W1.drew 37 W1.drew.heap.size none 0 [] (OwnR.nil _ _) a c l (HRow.out.low bel) hnil (by simp only [List.length_nil]; omega) (Nat.le_refl _)
    rw [List.nil_append] at hrun hO
    obtain ⟨B1, hB1⟩ : ∃ B1, W1.drew.heap.size = B1 := ⟨_, rfl⟩
    have HB1 : Hid (W1.drew.heap.size = B1) := hB1
    have hle1 : W0.heap.size ≤ B1 := by rw [← hB1]; exact bel0.size
    have bel1 : Below B1 W1.drew W101 := by rw [← hB1]; exact bb
    have hsz1 : B1 ≤ W101.heap.size := by rw [← hB1]; exact bb.size
    rw [hB1] at hO
    clear hB1
    have hD := hD.kept bb
    have hKy := hKy.kept bb
    have bel := bel_tr bel bb
    have bel0 := bel_tr bel0 bb
    refine step_appR rfl _ _ rfl _ _ (by rfl) (by rfl) _ _ hrun ?_
    clear hrun
    refine hK.out _ _ ?_ (fun hHeld => ?_)
    · exact ⟨hD, hKy⟩
    clear hK K bb
    try simp only [Act.put, List.setIfInBounds_toArray, List.set_cons_zero, List.set_cons_succ]
    refine wpAnyH_ready (rs := [3]) (by kernel_rfl) (by simp) ?_
    refine AllReadyH.cons (o := { dst := some 21, op := Op.buildSlice 37 1 #[(0, .tmp 20)], type := 37, pos := "law.go:68", after := #[{ on := 2, ground := Ground.data }], guard := none }) rfl (fun K hK => ?_) AllReadyH.nil
    obtain ⟨W102, hW102⟩ : ∃ X, W101.alloc (.cells #[.int .i64 r.fr, .int .i64 r.tz, .int .i64 r.s.fam, .int .u64 r.s.hi, .int .u64 r.s.lo, .int .i64 r.sn, .int .i64 r.d.fam, .int .u64 r.d.hi, .int .u64 r.d.lo, .int .i64 r.dn, .int .i64 r.pr, .int .i64 r.sl, .int .i64 r.sh, .int .i64 r.dl, .int .i64 r.dh, .int .i64 r.ac, .int .i64 r.he] 30) = X := ⟨_, rfl⟩
    have bb := bel_nw hW102
    have hT := row_one W101 W102 r _ hW102 HO.out
    go_simp
    have hD := hD.kept bb
    have hKy := hKy.kept bb
    have bel := bel_tr bel bb
    have bel0 := bel_tr bel0 bb
    have hO := OwnR.below hO bb
    have hsz1 := Nat.le_trans hsz1 bb.size
    clear hW102
    refine hK.out _ _ ?_ (fun hHeld => ?_)
    · exact ⟨hD, hKy⟩
    clear hK K bb
    try simp only [Act.put, List.setIfInBounds_toArray, List.set_cons_zero, List.set_cons_succ]
    refine wpAnyH_ready (rs := [4]) (by kernel_rfl) (by simp) ?_
    refine AllReadyH.cons (o := { dst := some 22, op := Op.call { callee := Callee.builtin Builtin.append, args := #[.tmp 19, .tmp 21], argTypes := #[37, 37] }, type := 37, pos := "law.go:68", after := #[{ on := 1, ground := Ground.data }, { on := 3, ground := Ground.data }, { on := 1, ground := Ground.chain }], guard := none }) rfl (fun K hK => ?_) AllReadyH.nil
    obtain ⟨a2, c2, W103, hrun, hO2, bb⟩ := run_appRs W102 37 B1 a1 c1 l hO _ 1 [r] hT (by intro h; cases h) (by simp only [List.length_cons, List.length_nil]; omega) hsz1
    rw [HL2.out] at hrun hO2
    have hD := hD.below bb (by omega)
    have hKy := hKy.below bb (by omega)
    have bel := bel.trans (bb.mono (by omega))
    refine step_appR rfl _ _ rfl _ _ (by rfl) (by rfl) _ _ hrun ?_
    clear hrun
    refine hK.out _ _ ?_ (fun hHeld => ?_)
    · exact ⟨hD, hKy⟩
    clear hK K bb
    try simp only [Act.put, List.setIfInBounds_toArray, List.set_cons_zero, List.set_cons_succ]
    refine wpAnyH_ready (rs := [6]) (by kernel_rfl) (by simp) ?_
    refine AllReadyH.cons (o := { dst := some 24, op := Op.call { callee := Callee.value (.func 16), args := #[.tmp 22, .tmp 23], argTypes := #[37, 32] }, type := 38, pos := "law.go:68", after := #[{ on := 4, ground := Ground.data }, { on := 5, ground := Ground.data }, { on := 4, ground := Ground.chain }], guard := none }) rfl (fun K hK => ?_) AllReadyH.nil
    go_simp
    refine Calls.mono (K2.out _ a2 c2 (hO2.row HLO.out)) ?_
    rintro e W104 ⟨rfl, bb⟩
    have hD := hD.kept bb
    have hKy := hKy.kept bb
    have bel := bel_tr bel bb
    refine hK.out _ _ ?_ (fun hHeld => ?_)
    · exact ⟨hD, hKy⟩
    clear hK K bb
    try simp only [Act.put, List.setIfInBounds_toArray, List.set_cons_zero, List.set_cons_succ]
    refine wpAnyH_take (i := 7) (oi := { dst := some 17, op := Op.move (.tmp 24), type := 38, pos := "law.go:68", after := #[{ on := 6, ground := Ground.data }], guard := none }) (v := (.tuple #[.int .i64 J, .bool Q2])) rfl (by kernel_rfl) (by kernel_rfl) (by kernel_rfl) (fun _ _ _ h => h) (Or.inl ⟨by rfl, ?_⟩) hHeld ?_
    · intro w9 hSw
      try dsimp only at hSw
      go_simp
    try simp only [Act.put, List.setIfInBounds_toArray, List.set_cons_zero, List.set_cons_succ]
    refine wpAnyH_take (i := 8) (oi := { dst := some 25, op := Op.extract (.tmp 17) 0, type := 3, pos := "law.go:68", after := #[{ on := 7, ground := Ground.data }], guard := none }) (v := (.int .i64 J)) rfl (by kernel_rfl) (by kernel_rfl) (by kernel_rfl) (fun _ _ _ h => h) (Or.inl ⟨by rfl, ?_⟩) hHeld ?_
    · intro w9 hSw
      try dsimp only at hSw
      go_simp
    try simp only [Act.put, List.setIfInBounds_toArray, List.set_cons_zero, List.set_cons_succ]
    refine wpAnyH_take (i := 9) (oi := { dst := some 26, op := Op.extract (.tmp 17) 1, type := 4, pos := "law.go:68", after := #[{ on := 7, ground := Ground.data }, { on := 10, ground := Ground.gcOnly Departure.lateStores }], guard := none }) (v := (.bool Q2)) rfl (by kernel_rfl) (by kernel_rfl) (by kernel_rfl) (fun _ _ _ h => h) (Or.inl ⟨by rfl, ?_⟩) hHeld ?_
    · intro w9 hSw
      try dsimp only at hSw
      go_simp
    try simp only [Act.put, List.setIfInBounds_toArray, List.set_cons_zero, List.set_cons_succ]
    refine wpAnyH_take (i := 10) (oi := { dst := some 9, op := Op.assign (.tmp 25), type := 3, pos := "law.go:68", after := #[{ on := 8, ground := Ground.data }, { on := 6, ground := Ground.chain }, { on := 0, ground := Ground.phase }, { on := 1, ground := Ground.phase }, { on := 2, ground := Ground.phase }, { on := 3, ground := Ground.phase }, { on := 4, ground := Ground.phase }, { on := 5, ground := Ground.phase }, { on := 6, ground := Ground.phase }, { on := 7, ground := Ground.phase }, { on := 8, ground := Ground.phase }, { on := 9, ground := Ground.textOnly Departure.lateStores }], guard := none }) (v := (.int .i64 J)) rfl (by kernel_rfl) (by kernel_rfl) (by kernel_rfl) (fun _ _ _ h => h) (Or.inl ⟨by rfl, ?_⟩) hHeld ?_
    · intro w9 hSw
      try dsimp only at hSw
      go_simp
    try simp only [Act.put, List.setIfInBounds_toArray, List.set_cons_zero, List.set_cons_succ]
    refine wpAnyH_take (i := 11) (oi := { dst := some 10, op := Op.assign (.tmp 26), type := 4, pos := "law.go:68", after := #[{ on := 9, ground := Ground.data }, { on := 10, ground := Ground.chain }, { on := 0, ground := Ground.phase }, { on := 1, ground := Ground.phase }, { on := 2, ground := Ground.phase }, { on := 3, ground := Ground.phase }, { on := 4, ground := Ground.phase }, { on := 5, ground := Ground.phase }, { on := 6, ground := Ground.phase }, { on := 7, ground := Ground.phase }, { on := 8, ground := Ground.phase }, { on := 9, ground := Ground.phase }, { on := 10, ground := Ground.phase }], guard := none }) (v := (.bool Q2)) rfl (by kernel_rfl) (by kernel_rfl) (by kernel_rfl) (fun _ _ _ h => h) (Or.inl ⟨by rfl, ?_⟩) hHeld ?_
    · intro w9 hSw
      try dsimp only at hSw
      go_simp
    try simp only [Act.put, List.setIfInBounds_toArray, List.set_cons_zero, List.set_cons_succ]
    refine wpAnyH_done (by kernel_rfl) ?_ _
    refine NoPanic.normal ?_
    clear K2 hHeld
    rcases HREL.out with ⟨rfl, rfl, rfl⟩ | ⟨rfl, rfl, h⟩
    · have ex : (J == J) = true := by simp
      go_wp2_with fail
      refine (KA.out _).mono ?_
      rintro e W4 ⟨rfl, bb⟩
      have bel4 := bel_tr bel bb
      clear bb bel KA
      go_wp2_with fail
      go_ret
      exact ⟨by simp, bel4⟩
    · rcases h with ⟨rfl, rfl, rfl⟩ | ⟨rfl, rfl⟩
      all_goals (
        go_wp2_with (first | (refine wpList_load_at_w rfl _ _ rfl _ 0 (by rfl) _ hD.at_ Try.underlying30 hs1 ?_) | (refine wpList_load_at_w rfl _ _ rfl _ 0 (by rfl) _ hKy.at_ Try.underlying32 hs2 ?_))
        refine (K3.out _).mono ?_
        rintro e W9 ⟨rfl, bb⟩
        have bel := bel_tr bel bb
        clear bb K3
        go_wp2_with fail
        refine (KA.out _).mono ?_
        rintro e W4 ⟨rfl, bb⟩
        have bel4 := bel_tr bel bb
        clear bb bel KA
        go_wp2_with fail
        go_ret
        exact ⟨by simp, bel4⟩)
  · obtain ⟨W105, hW105⟩ : ∃ X, W1.drew.alloc (.cells #[.int .i64 r.fr, .int .i64 r.tz, .int .i64 r.s.fam, .int .u64 r.s.hi, .int .u64 r.s.lo, .int .i64 r.sn, .int .i64 r.d.fam, .int .u64 r.d.hi, .int .u64 r.d.lo, .int .i64 r.dn, .int .i64 r.pr, .int .i64 r.sl, .int .i64 r.sh, .int .i64 r.dl, .int .i64 r.dh, .int .i64 r.ac, .int .i64 r.he] 30) = X := ⟨_, rfl⟩
    have bb := bel_nw hW105
    have hT := row_one W1.drew W105 r _ hW105 HO.out
    go_simp
    have hD := hD.kept bb
    have hKy := hKy.kept bb
    have bel := bel_tr bel bb
    have bel0 := bel_tr bel0 bb
    clear hW105
    refine hK.out _ _ ?_ (fun hHeld => ?_)
    · exact ⟨hD, hKy⟩
    clear hK K bb
    try simp only [Act.put, List.setIfInBounds_toArray, List.set_cons_zero, List.set_cons_succ]
    refine wpAnyH_ready (rs := [1]) (by kernel_rfl) (by simp) ?_
    refine AllReadyH.cons (o := { dst := some 19, op := Op.call { callee := Callee.builtin Builtin.append, args := #[.const (Value.slice none 0 0), .tmp 18], argTypes := #[37, 37] }, type := 37, pos := "law.go:68", after := #[{ on := 0, ground := Ground.data }], guard := none }) rfl (fun K hK => ?_) AllReadyH.nil
    obtain ⟨a1, c1, W106, hrun, hO, bb⟩ := run_appRs W105 37 W105.heap.size none 0 [] (OwnR.nil _ _) a c l (HRow.out.low bel) hnil (by simp only [List.length_nil]; omega) (Nat.le_refl _)
    rw [List.nil_append] at hrun hO
    obtain ⟨B1, hB1⟩ : ∃ B1, W105.heap.size = B1 := ⟨_, rfl⟩
    have HB1 : Hid (W105.heap.size = B1) := hB1
    have hle1 : W0.heap.size ≤ B1 := by rw [← hB1]; exact bel0.size
    have bel1 : Below B1 W105 W106 := by rw [← hB1]; exact bb
    have hsz1 : B1 ≤ W106.heap.size := by rw [← hB1]; exact bb.size
    rw [hB1] at hO
    clear hB1
    have hD := hD.kept bb
    have hKy := hKy.kept bb
    have bel := bel_tr bel bb
    have bel0 := bel_tr bel0 bb
    have hT := RowR.low hT bb
    refine step_appR rfl _ _ rfl _ _ (by rfl) (by rfl) _ _ hrun ?_
    clear hrun
    refine hK.out _ _ ?_ (fun hHeld => ?_)
    · exact ⟨hD, hKy⟩
    clear hK K bb
    try simp only [Act.put, List.setIfInBounds_toArray, List.set_cons_zero, List.set_cons_succ]
    refine wpAnyH_ready (rs := [4]) (by kernel_rfl) (by simp) ?_
    refine AllReadyH.cons (o := { dst := some 22, op := Op.call { callee := Callee.builtin Builtin.append, args := #[.tmp 19, .tmp 21], argTypes := #[37, 37] }, type := 37, pos := "law.go:68", after := #[{ on := 1, ground := Ground.data }, { on := 3, ground := Ground.data }, { on := 1, ground := Ground.chain }], guard := none }) rfl (fun K hK => ?_) AllReadyH.nil
    obtain ⟨a2, c2, W107, hrun, hO2, bb⟩ := run_appRs W106 37 B1 a1 c1 l hO _ 1 [r] hT (by intro h; cases h) (by simp only [List.length_cons, List.length_nil]; omega) hsz1
    rw [HL2.out] at hrun hO2
    have hD := hD.below bb (by omega)
    have hKy := hKy.below bb (by omega)
    have bel := bel.trans (bb.mono (by omega))
    refine step_appR rfl _ _ rfl _ _ (by rfl) (by rfl) _ _ hrun ?_
    clear hrun
    refine hK.out _ _ ?_ (fun hHeld => ?_)
    · exact ⟨hD, hKy⟩
    clear hK K bb
    try simp only [Act.put, List.setIfInBounds_toArray, List.set_cons_zero, List.set_cons_succ]
    refine wpAnyH_ready (rs := [6]) (by kernel_rfl) (by simp) ?_
    refine AllReadyH.cons (o := { dst := some 24, op := Op.call { callee := Callee.value (.func 16), args := #[.tmp 22, .tmp 23], argTypes := #[37, 32] }, type := 38, pos := "law.go:68", after := #[{ on := 4, ground := Ground.data }, { on := 5, ground := Ground.data }, { on := 4, ground := Ground.chain }], guard := none }) rfl (fun K hK => ?_) AllReadyH.nil
    go_simp
    refine Calls.mono (K2.out _ a2 c2 (hO2.row HLO.out)) ?_
    rintro e W108 ⟨rfl, bb⟩
    have hD := hD.kept bb
    have hKy := hKy.kept bb
    have bel := bel_tr bel bb
    refine hK.out _ _ ?_ (fun hHeld => ?_)
    · exact ⟨hD, hKy⟩
    clear hK K bb
    try simp only [Act.put, List.setIfInBounds_toArray, List.set_cons_zero, List.set_cons_succ]
    refine wpAnyH_take (i := 7) (oi := { dst := some 17, op := Op.move (.tmp 24), type := 38, pos := "law.go:68", after := #[{ on := 6, ground := Ground.data }], guard := none }) (v := (.tuple #[.int .i64 J, .bool Q2])) rfl (by kernel_rfl) (by kernel_rfl) (by kernel_rfl) (fun _ _ _ h => h) (Or.inl ⟨by rfl, ?_⟩) hHeld ?_
    · intro w9 hSw
      try dsimp only at hSw
      go_simp
    try simp only [Act.put, List.setIfInBounds_toArray, List.set_cons_zero, List.set_cons_succ]
    refine wpAnyH_take (i := 8) (oi := { dst := some 25, op := Op.extract (.tmp 17) 0, type := 3, pos := "law.go:68", after := #[{ on := 7, ground := Ground.data }], guard := none }) (v := (.int .i64 J)) rfl (by kernel_rfl) (by kernel_rfl) (by kernel_rfl) (fun _ _ _ h => h) (Or.inl ⟨by rfl, ?_⟩) hHeld ?_
    · intro w9 hSw
      try dsimp only at hSw
      go_simp
    try simp only [Act.put, List.setIfInBounds_toArray, List.set_cons_zero, List.set_cons_succ]
    refine wpAnyH_take (i := 9) (oi := { dst := some 26, op := Op.extract (.tmp 17) 1, type := 4, pos := "law.go:68", after := #[{ on := 7, ground := Ground.data }, { on := 10, ground := Ground.gcOnly Departure.lateStores }], guard := none }) (v := (.bool Q2)) rfl (by kernel_rfl) (by kernel_rfl) (by kernel_rfl) (fun _ _ _ h => h) (Or.inl ⟨by rfl, ?_⟩) hHeld ?_
    · intro w9 hSw
      try dsimp only at hSw
      go_simp
    try simp only [Act.put, List.setIfInBounds_toArray, List.set_cons_zero, List.set_cons_succ]
    refine wpAnyH_take (i := 10) (oi := { dst := some 9, op := Op.assign (.tmp 25), type := 3, pos := "law.go:68", after := #[{ on := 8, ground := Ground.data }, { on := 6, ground := Ground.chain }, { on := 0, ground := Ground.phase }, { on := 1, ground := Ground.phase }, { on := 2, ground := Ground.phase }, { on := 3, ground := Ground.phase }, { on := 4, ground := Ground.phase }, { on := 5, ground := Ground.phase }, { on := 6, ground := Ground.phase }, { on := 7, ground := Ground.phase }, { on := 8, ground := Ground.phase }, { on := 9, ground := Ground.textOnly Departure.lateStores }], guard := none }) (v := (.int .i64 J)) rfl (by kernel_rfl) (by kernel_rfl) (by kernel_rfl) (fun _ _ _ h => h) (Or.inl ⟨by rfl, ?_⟩) hHeld ?_
    · intro w9 hSw
      try dsimp only at hSw
      go_simp
    try simp only [Act.put, List.setIfInBounds_toArray, List.set_cons_zero, List.set_cons_succ]
    refine wpAnyH_take (i := 11) (oi := { dst := some 10, op := Op.assign (.tmp 26), type := 4, pos := "law.go:68", after := #[{ on := 9, ground := Ground.data }, { on := 10, ground := Ground.chain }, { on := 0, ground := Ground.phase }, { on := 1, ground := Ground.phase }, { on := 2, ground := Ground.phase }, { on := 3, ground := Ground.phase }, { on := 4, ground := Ground.phase }, { on := 5, ground := Ground.phase }, { on := 6, ground := Ground.phase }, { on := 7, ground := Ground.phase }, { on := 8, ground := Ground.phase }, { on := 9, ground := Ground.phase }, { on := 10, ground := Ground.phase }], guard := none }) (v := (.bool Q2)) rfl (by kernel_rfl) (by kernel_rfl) (by kernel_rfl) (fun _ _ _ h => h) (Or.inl ⟨by rfl, ?_⟩) hHeld ?_
    · intro w9 hSw
      try dsimp only at hSw
      go_simp
    try simp only [Act.put, List.setIfInBounds_toArray, List.set_cons_zero, List.set_cons_succ]
    refine wpAnyH_done (by kernel_rfl) ?_ _
    refine NoPanic.normal ?_
    clear K2 hHeld
    rcases HREL.out with ⟨rfl, rfl, rfl⟩ | ⟨rfl, rfl, h⟩
    · have ex : (J == J) = true := by simp
      go_wp2_with fail
      refine (KA.out _).mono ?_
      rintro e W4 ⟨rfl, bb⟩
      have bel4 := bel_tr bel bb
      clear bb bel KA
      go_wp2_with fail
      go_ret
      exact ⟨by simp, bel4⟩
    · rcases h with ⟨rfl, rfl, rfl⟩ | ⟨rfl, rfl⟩
      all_goals (
        go_wp2_with (first | (refine wpList_load_at_w rfl _ _ rfl _ 0 (by rfl) _ hD.at_ Try.underlying30 hs1 ?_) | (refine wpList_load_at_w rfl _ _ rfl _ 0 (by rfl) _ hKy.at_ Try.underlying32 hs2 ?_))
        refine (K3.out _).mono ?_
        rintro e W9 ⟨rfl, bb⟩
        have bel := bel_tr bel bb
        clear bb K3
        go_wp2_with fail
        refine (KA.out _).mono ?_
        rintro e W4 ⟨rfl, bb⟩
        have bel4 := bel_tr bel bb
        clear bb bel KA
        go_wp2_with fail
        go_ret
        exact ⟨by simp, bel4⟩)
end Go.Proofs.Ytmlddgmkbbaccaa
