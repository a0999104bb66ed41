/- The law FirstTwo returns true, of lists of rules that are not too long. -/
import Derived.Test.YtmlddgmkbbaccaaFrU
namespace Go.Proofs.Ytmlddgmkbbaccaa
open Go.RowKit
set_option linter.unusedVariables false
set_option linter.unusedSimpArgs false
set_option maxRecDepth 100000 in
set_option maxHeartbeats 4000000 in
theorem firstTwo_walk (a : Option Addr) (c : Nat) (l : List Rl) (b : Option Addr) (d : Nat) (m : List Rl) (k : Ky) (w : World) (hl : l.length ≤ 1048576) (hm : m.length ≤ 1048576) (hna : a = none → c = 0) (hnb : b = none → d = 0) (hrow : RowR w a l) (hrowb : RowR w b m) (ko : k.ok) :
    Calls Try.prog 8 #[.slice a l.length c, .slice b m.length d, .agg k.v] w fun e w' => e = .returned (.bool true) ∧ Below w.heap.size w w' := by
  have hs2 := info_ky k
  have KA : Hid (∀ W, Calls Try.prog 15 #[] W fun e w' => e = .returned (.bool true) ∧ Below W.heap.size W w') := alive_any
  have K1 : Hid (∀ W a' c', RowR W a' (l ++ m) → Calls Try.prog 16 #[.slice a' (l ++ m).length c', .agg k.v] W fun e w' => e = .returned (.tuple #[.int .i64 (fIdx (findL (l ++ m) k)), .bool (findL (l ++ m) k).isSome]) ∧ Below W.heap.size W w') := fun W a' c' h => find_any a' c' (l ++ m) k W (by rw [List.length_append]; omega) h ko
  have K2 : Hid (∀ W, RowR W a l → Calls Try.prog 16 #[.slice a l.length c, .agg k.v] W fun e w' => e = .returned (.tuple #[.int .i64 (fIdx (findL l k)), .bool (findL l k).isSome]) ∧ Below W.heap.size W w') := fun W h => find_any a c l k W (by omega) h ko
  have K3 : Hid (∀ W, RowR W b m → Calls Try.prog 16 #[.slice b m.length d, .agg k.v] W fun e w' => e = .returned (.tuple #[.int .i64 (fIdx (findL m k)), .bool (findL m k).isSome]) ∧ Below W.heap.size W w') := fun W h => find_any b d m k W (by omega) h ko
  have HRow : Hid (RowR w a l) := hrow
  have HRowB : Hid (RowR w b m) := hrowb
  have HLO : Hid (∀ q ∈ l ++ m, q.ok) := fun q hq => by
    rcases List.mem_append.1 hq with h | h
    · exact hrow.each q h
    · exact hrowb.each q h
  have HREL : Hid (((findL l k).isSome = true ∧ (findL (l ++ m) k).isSome = true ∧ fIdx (findL (l ++ m) k) = fIdx (findL l k)) ∨ ((findL l k).isSome = false ∧ (findL m k).isSome = true ∧ (findL (l ++ m) k).isSome = true ∧ fIdx (findL (l ++ m) k) = (l.length : Int) + fIdx (findL m k) ∧ 0 ≤ fIdx (findL m k) ∧ fIdx (findL m k) ≤ 1048576) ∨ ((findL l k).isSome = false ∧ (findL m k).isSome = false ∧ (findL (l ++ m) k).isSome = false ∧ fIdx (findL (l ++ m) k) = -1)) := by
    show _ ∨ _
    rw [find_two]
    cases findL l k with
    | some i => exact .inl ⟨rfl, rfl, rfl⟩
    | none =>
      refine .inr ?_
      cases hf : findL m k with
      | none => exact .inr ⟨rfl, rfl, rfl, rfl⟩
      | some i =>
        obtain ⟨q, hq, _⟩ := find_some hf
        have := (List.getElem?_eq_some_iff.1 hq).1
        refine .inl ⟨rfl, rfl, rfl, ?_, ?_, ?_⟩
        · simp [fIdx]; omega
        · simp [fIdx]
        · simp [fIdx]; omega
  generalize fIdx (findL l k) = X at *
  generalize (findL l k).isSome = O1 at *
  generalize fIdx (findL m k) = Y at *
  generalize (findL m k).isSome = O2 at *
  generalize fIdx (findL (l ++ m) k) = I at *
  generalize (findL (l ++ m) k).isSome = Q at *
  generalize k.v = KV at *
  obtain ⟨L2, hL2⟩ : ∃ L2, l ++ m = L2 := ⟨_, rfl⟩
  have HL2 : Hid (l ++ m = L2) := hL2
  rw [hL2] at K1 HLO
  clear hrow hrowb ko hL2
  have bel : Below w.heap.size w (w.alloc (.cells KV 32)) := bel_nw rfl
  have hKy := blk_new w KV 32
  obtain ⟨W1, hW1⟩ : ∃ W1, w.alloc (.cells KV 32) = W1 := ⟨_, rfl⟩
  rw [hW1] at bel hKy
  go_enter Try.func8, Try.ntmps8
  go_wp2_with fail
  clear hW1
  have hKy := hKy.drew
  have bel := bel.drew
  obtain ⟨W0, hW0⟩ : ∃ W0, W1.drew = W0 := ⟨_, rfl⟩
  have bel0 : Below W0.heap.size W0 W1.drew := by rw [hW0]; exact Below.refl _ _
  have hbx : w.heap.size < W0.heap.size := by rw [← hW0]; exact hKy.lt
  clear hW0
  refine wp_region_noPanic ?_
  refine wp_region_held_drew (S := fun w'' => Blk w'' w.heap.size 32 KV) (by kernel_rfl) (by exact hKy) (fun hHeld => ?_)
  refine wpAnyH_take (i := 0) (oi := { dst := some 14, op := Op.move (.tmp 0), type := 37, pos := "law.go:77", after := #[], guard := none }) (v := (.slice a l.length c)) rfl (by kernel_rfl) (by kernel_rfl) (by kernel_rfl) (fun _ _ _ h => h) (Or.inl ⟨by rfl, ?_⟩) hHeld ?_
  · intro w9 hSw
    try dsimp only at hSw
    go_simp
  try simp only [Act.put, List.setIfInBounds_toArray, List.set_cons_zero, List.set_cons_succ]
  refine wpAnyH_take (i := 2) (oi := { dst := some 16, op := Op.move (.tmp 1), type := 37, pos := "law.go:77", after := #[], guard := none }) (v := (.slice b m.length d)) rfl (by kernel_rfl) (by kernel_rfl) (by kernel_rfl) (fun _ _ _ h => h) (Or.inl ⟨by rfl, ?_⟩) hHeld ?_
  · intro w9 hSw
    try dsimp only at hSw
    go_simp
  try simp only [Act.put, List.setIfInBounds_toArray, List.set_cons_zero, List.set_cons_succ]
  refine wpAnyH_take (i := 4) (oi := { dst := some 18, op := Op.load 32 (.tmp 5), type := 32, pos := "law.go:77", after := #[], guard := none }) (v := (.agg KV)) rfl (by kernel_rfl) (by kernel_rfl) (by kernel_rfl) (fun _ _ _ h => h) (yieldsIf_at (by rfl) _ _ rfl w.heap.size 0 (by rfl) _ (fun _ h => Blk.at_ h) Try.underlying32 hs2) hHeld ?_
  try simp only [Act.put, List.setIfInBounds_toArray, List.set_cons_zero, List.set_cons_succ]
  refine wpAnyH_ready (rs := [1]) (by kernel_rfl) (by simp) ?_
  refine AllReadyH.cons (o := { dst := some 15, op := Op.call { callee := Callee.builtin Builtin.append, args := #[.const (Value.slice none 0 0), .tmp 14], argTypes := #[37, 37] }, type := 37, pos := "law.go:77", after := #[{ on := 0, ground := Ground.data }], guard := none }) rfl (fun K hK => ?_) AllReadyH.nil
  obtain ⟨a1, c1, W109, hrun, hO, bb⟩ := run_appRs W1.drew 37 W1.drew.heap.size none 0 [] (OwnR.nil _ _) a c l (HRow.out.low bel) hna (by simp only [List.length_nil]; omega) (Nat.le_refl _)
  rw [List.nil_append] at hrun hO
  obtain ⟨B1, hB1⟩ : ∃ B1, W1.drew.heap.size = B1 := ⟨_, rfl⟩
  have HB1 : Hid (W1.drew.heap.size = B1) := hB1
  have hle1 : W0.heap.size ≤ B1 := by rw [← hB1]; exact bel0.size
  have bel1 : Below B1 W1.drew W109 := by rw [← hB1]; exact bb
  have hsz1 : B1 ≤ W109.heap.size := by rw [← hB1]; exact bb.size
  rw [hB1] at hO
  clear hB1
  have hKy := hKy.kept bb
  have bel := bel_tr bel bb
  have bel0 := bel_tr bel0 bb
  refine step_appR rfl _ _ rfl _ _ (by rfl) (by rfl) _ _ hrun ?_
  clear hrun
  refine hK.out _ _ ?_ (fun hHeld => ?_)
  · exact hKy
  clear hK K bb
  try simp only [Act.put, List.setIfInBounds_toArray, List.set_cons_zero, List.set_cons_succ]
  refine wpAnyH_ready (rs := [3]) (by kernel_rfl) (by simp) ?_
  refine AllReadyH.cons (o := { dst := some 17, op := Op.call { callee := Callee.builtin Builtin.append, args := #[.tmp 15, .tmp 16], argTypes := #[37, 37] }, type := 37, pos := "law.go:77", after := #[{ on := 1, ground := Ground.data }, { on := 2, ground := Ground.data }, { on := 1, ground := Ground.chain }], guard := none }) rfl (fun K hK => ?_) AllReadyH.nil
  obtain ⟨a2, c2, W110, hrun, hO2, bb⟩ := run_appRs W109 37 B1 a1 c1 l hO b d m (HRowB.out.low bel) hnb (by omega) hsz1
  rw [HL2.out] at hrun hO2
  have hKy := hKy.below bb (by omega)
  have bel := bel.trans (bb.mono (by omega))
  refine step_appR rfl _ _ rfl _ _ (by rfl) (by rfl) _ _ hrun ?_
  clear hrun
  refine hK.out _ _ ?_ (fun hHeld => ?_)
  · exact hKy
  clear hK K bb
  try simp only [Act.put, List.setIfInBounds_toArray, List.set_cons_zero, List.set_cons_succ]
  refine wpAnyH_ready (rs := [5]) (by kernel_rfl) (by simp) ?_
  refine AllReadyH.cons (o := { dst := some 19, op := Op.call { callee := Callee.value (.func 16), args := #[.tmp 17, .tmp 18], argTypes := #[37, 32] }, type := 38, pos := "law.go:77", after := #[{ on := 3, ground := Ground.data }, { on := 4, ground := Ground.data }, { on := 3, ground := Ground.chain }], guard := none }) rfl (fun K hK => ?_) AllReadyH.nil
  go_simp
  refine Calls.mono (K1.out _ a2 c2 (hO2.row HLO.out)) ?_
  rintro e W111 ⟨rfl, bb⟩
  have hKy := hKy.kept bb
  have bel := bel_tr bel bb
  refine hK.out _ _ ?_ (fun hHeld => ?_)
  · exact hKy
  clear hK K bb
  try simp only [Act.put, List.setIfInBounds_toArray, List.set_cons_zero, List.set_cons_succ]
  refine wpAnyH_take (i := 6) (oi := { dst := some 13, op := Op.move (.tmp 19), type := 38, pos := "law.go:77", after := #[{ on := 5, ground := Ground.data }], guard := none }) (v := (.tuple #[.int .i64 I, .bool Q])) rfl (by kernel_rfl) (by kernel_rfl) (by kernel_rfl) (fun _ _ _ h => h) (Or.inl ⟨by rfl, ?_⟩) hHeld ?_
  · intro w9 hSw
    try dsimp only at hSw
    go_simp
  try simp only [Act.put, List.setIfInBounds_toArray, List.set_cons_zero, List.set_cons_succ]
  refine wpAnyH_take (i := 7) (oi := { dst := some 20, op := Op.extract (.tmp 13) 0, type := 3, pos := "law.go:77", after := #[{ on := 6, ground := Ground.data }], guard := none }) (v := (.int .i64 I)) rfl (by kernel_rfl) (by kernel_rfl) (by kernel_rfl) (fun _ _ _ h => h) (Or.inl ⟨by rfl, ?_⟩) hHeld ?_
  · intro w9 hSw
    try dsimp only at hSw
    go_simp
  try simp only [Act.put, List.setIfInBounds_toArray, List.set_cons_zero, List.set_cons_succ]
  refine wpAnyH_take (i := 8) (oi := { dst := some 21, op := Op.extract (.tmp 13) 1, type := 4, pos := "law.go:77", after := #[{ on := 6, ground := Ground.data }, { on := 9, ground := Ground.gcOnly Departure.lateStores }], guard := none }) (v := (.bool Q)) rfl (by kernel_rfl) (by kernel_rfl) (by kernel_rfl) (fun _ _ _ h => h) (Or.inl ⟨by rfl, ?_⟩) hHeld ?_
  · intro w9 hSw
    try dsimp only at hSw
    go_simp
  try simp only [Act.put, List.setIfInBounds_toArray, List.set_cons_zero, List.set_cons_succ]
  refine wpAnyH_take (i := 9) (oi := { dst := some 7, op := Op.assign (.tmp 20), type := 3, pos := "law.go:77", after := #[{ on := 7, ground := Ground.data }, { on := 5, ground := Ground.chain }, { on := 0, ground := Ground.phase }, { on := 1, ground := Ground.phase }, { on := 2, ground := Ground.phase }, { on := 3, ground := Ground.phase }, { on := 4, ground := Ground.phase }, { on := 5, ground := Ground.phase }, { on := 6, ground := Ground.phase }, { on := 7, ground := Ground.phase }, { on := 8, ground := Ground.textOnly Departure.lateStores }], guard := none }) (v := (.int .i64 I)) rfl (by kernel_rfl) (by kernel_rfl) (by kernel_rfl) (fun _ _ _ h => h) (Or.inl ⟨by rfl, ?_⟩) hHeld ?_
  · intro w9 hSw
    try dsimp only at hSw
    go_simp
  try simp only [Act.put, List.setIfInBounds_toArray, List.set_cons_zero, List.set_cons_succ]
  refine wpAnyH_take (i := 10) (oi := { dst := some 8, op := Op.assign (.tmp 21), type := 4, pos := "law.go:77", after := #[{ on := 8, ground := Ground.data }, { on := 9, ground := Ground.chain }, { on := 0, ground := Ground.phase }, { on := 1, ground := Ground.phase }, { on := 2, ground := Ground.phase }, { on := 3, ground := Ground.phase }, { on := 4, ground := Ground.phase }, { on := 5, ground := Ground.phase }, { on := 6, ground := Ground.phase }, { on := 7, ground := Ground.phase }, { on := 8, ground := Ground.phase }, { on := 9, ground := Ground.phase }], guard := none }) (v := (.bool Q)) rfl (by kernel_rfl) (by kernel_rfl) (by kernel_rfl) (fun _ _ _ h => h) (Or.inl ⟨by rfl, ?_⟩) hHeld ?_
  · intro w9 hSw
    try dsimp only at hSw
    go_simp
  try simp only [Act.put, List.setIfInBounds_toArray, List.set_cons_zero, List.set_cons_succ]
  refine wpAnyH_done (by kernel_rfl) ?_ _
  refine NoPanic.normal ?_
  clear K1 hHeld
  go_wp2_with (refine wpList_load_at_w rfl _ _ rfl _ 0 (by rfl) _ hKy.at_ Try.underlying32 hs2 ?_)
  refine (K2.out _ (HRow.out.low bel)).mono ?_
  rintro e W7 ⟨rfl, bb⟩
  have hKy := hKy.kept bb
  have bel := bel_tr bel bb
  clear bb K2
  go_wp2_with (refine wpList_load_at_w rfl _ _ rfl _ 0 (by rfl) _ hKy.at_ Try.underlying32 hs2 ?_)
  refine (K3.out _ (HRowB.out.low bel)).mono ?_
  rintro e W8 ⟨rfl, bb⟩
  have bel := bel_tr bel bb
  clear bb K3 hs2
  rcases HREL.out with ⟨rfl, rfl, rfl⟩ | ⟨rfl, rfl, rfl, rfl, hy0, hy1⟩ | ⟨rfl, rfl, rfl, rfl⟩
  · have ex : (I == I) = true := by simp
    go_wp2_with fail
    refine (KA.out _).mono ?_
    rintro e W4 ⟨rfl, bb⟩
    have bel4 := bel_tr bel bb
    clear bb bel KA
    go_wp2_with fail
    go_ret
    exact ⟨by simp, bel4⟩
  · have hw1 : IntKind.i64.wrap ((l.length : Int) + Y) = (l.length : Int) + Y := by rw [IntKind.wrap_i64]; omega
    have ex : ((l.length : Int) + Y == (l.length : Int) + Y) = true := by simp
    go_wp2_with fail
    refine (KA.out _).mono ?_
    rintro e W4 ⟨rfl, bb⟩
    have bel4 := bel_tr bel bb
    clear bb bel KA
    go_wp2_with fail
    go_ret
    exact ⟨by simp, bel4⟩
  · go_wp2_with fail
    refine (KA.out _).mono ?_
    rintro e W4 ⟨rfl, bb⟩
    have bel4 := bel_tr bel bb
    clear bb bel KA
    go_wp2_with fail
    go_ret
    exact ⟨by simp, bel4⟩
end Go.Proofs.Ytmlddgmkbbaccaa
