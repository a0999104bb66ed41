/- Texts joined: FiK -/
import Derived.Test.YtebdpiedgjdjeaaFga49
import Derived.Deep.CutBlock
import Derived.Deep.DeepCutAuto
namespace Go.Proofs.Ytebdpiedgjdjeaa
abbrev fga50o16 : Oper := { dst := some 96, op := Op.load 42 (.tmp 95), type := 42, pos := "law.go:105", after := #[{ on := 10, ground := Ground.data }], guard := none }
abbrev fga50o17 : Oper := { dst := some 92, op := Op.load 42 (.tmp 91), type := 42, pos := "law.go:105", after := #[{ on := 6, ground := Ground.data }], guard := none }
end Go.Proofs.Ytebdpiedgjdjeaa
namespace Go.Proofs.Ytebdpiedgjdjeaa
open Go.RowKit
set_option linter.unusedVariables false
set_option linter.unusedSimpArgs false
theorem cutL_go {N : Nat} {cuts : List Int} {j k m : Nat} (hj : j < cuts.length) (hm : (cuts.getD j 0) % 4 = (m : Int)) (hn : ¬ N ≤ k + 8 * (m + 1)) : cutL N (cuts.drop j) k = (k, 8 * (m + 1), true) :: cutL N (cuts.drop (j + 1)) (k + 8 * (m + 1)) := by
  rw [List.drop_eq_getElem_cons hj]
  have e : cuts.getD j 0 = cuts[j] := by simp [hj]
  rw [e] at hm
  have e2 : cutL N (cuts[j] :: cuts.drop (j + 1)) k = if N ≤ k + 8 * ((cuts[j] % 4).toNat + 1) then [(k, N - k, false)] else (k, 8 * ((cuts[j] % 4).toNat + 1), true) :: cutL N (cuts.drop (j + 1)) (k + 8 * ((cuts[j] % 4).toNat + 1)) := rfl
  rw [e2, hm, Int.toNat_natCast, if_neg hn]
theorem cutL_stop {N : Nat} {cuts : List Int} {j k m : Nat} (hj : j < cuts.length) (hm : (cuts.getD j 0) % 4 = (m : Int)) (hn : N ≤ k + 8 * (m + 1)) : cutL N (cuts.drop j) k = [(k, N - k, false)] := by
  rw [List.drop_eq_getElem_cons hj]
  have e : cuts.getD j 0 = cuts[j] := by simp [hj]
  rw [e] at hm
  unfold cutL
  rw [hm, Int.toNat_natCast, if_pos hn]
theorem cutL_end {N : Nat} {cuts : List Int} {j k : Nat} (hj : ¬ j < cuts.length) : cutL N (cuts.drop j) k = [(k, N - k, false)] := by
  rw [List.drop_eq_nil_of_le (by omega)]
  rfl
theorem swap_perm {α : Type} {L : List α} {i j : Nat} {p q : α} (hi : L[i]? = some p) (hj : L[j]? = some q) : ((L.set j p).set i q).Perm L := by
  obtain ⟨h1, rfl⟩ := List.getElem?_eq_some_iff.1 hi
  obtain ⟨h2, rfl⟩ := List.getElem?_eq_some_iff.1 hj
  exact List.set_set_perm h2 h1
set_option maxRecDepth 100000 in
set_option maxHeartbeats 4000000 in
theorem pieces_any (data cuts ord : List Int) (b off dc : Nat) (ca : Option Addr) (cc : Nat) (oa : Option Addr) (oc : Nat) (w : World) (h0 : 0 < data.length) (hl : data.length ≤ 1000) (hdc : data.length ≤ dc) (hcl : cuts.length ≤ 60) (hcuts : Row w ca cuts) (hord : Row w oa ord) :
    Calls Try.prog 24 #[.agg #[.int .i64 4, .int .i64 4, .int .u64 0, .int .u64 1, .int .i64 4, .int .u64 0, .int .u64 2, .int .i64 17, .int .i64 5, .bool true, .int .u32 9, .int .i64 0, .bool false, .slice none 0 0, .slice (some ⟨b, off, none⟩) data.length dc], .slice ca cuts.length cc, .slice oa ord.length oc] w fun e w' => ∃ (a : Option Addr) (c : Nat) (M : List (Nat × Nat × Bool)), e = .returned (.slice a M.length c) ∧ M.Perm (cutL data.length cuts 0) ∧ ownP w' a c (M.map (mkL data b off dc)) ∧ (∀ x, a = some x → w.heap.size ≤ x.block) ∧ Below w.heap.size w w' := by
  obtain ⟨N, hN⟩ : ∃ n, data.length = n := ⟨_, rfl⟩
  have HN : Hid (data.length = N) := hN
  rw [hN] at h0 hl hdc ⊢
  clear hN
  obtain ⟨W1, hW1⟩ : ∃ W, w.alloc (.cells #[.int .i64 4, .int .i64 4, .int .u64 0, .int .u64 1, .int .i64 4, .int .u64 0, .int .u64 2, .int .i64 17, .int .i64 5, .bool true, .int .u32 9, .int .i64 0, .bool false, .slice none 0 0, .slice (some ⟨b, off, none⟩) N dc] 42) = W := ⟨_, rfl⟩
  have b1 := bel_nw hW1
  have B1 : Hid (Blk W1 w.heap.size 42 #[.int .i64 4, .int .i64 4, .int .u64 0, .int .u64 1, .int .i64 4, .int .u64 0, .int .u64 2, .int .i64 17, .int .i64 5, .bool true, .int .u32 9, .int .i64 0, .bool false, .slice none 0 0, .slice (some ⟨b, off, none⟩) N dc]) := blk_nw hW1
  have HC : Hid (Row W1 ca cuts) := hcuts.below b1
  have HO : Hid (Row W1 oa ord) := hord.below b1
  have hos : ord.length ≤ 140737488355328 := hord.small
  have HB1 : Hid _ := b1
  clear hcuts hord b1
  go_enter Try.func24, Try.ntmps24
  go_upto_block 0 with fail
  go_cut [1, 7, 8, 18] (fun _ l at_ _ wr => ∃ (k : Nat) (D : List (Nat × Nat × Bool)) (a : Option Addr) (c : Nat), at_ = .int .i64 k ∧ l = .slice a D.length c ∧ k < N ∧ D.length ≤ 60 ∧ Hid (cutL N cuts 0 = D ++ [(k, N - k, false)]) ∧ Hid (ownP wr a c (D.map (mkL data b off dc))) ∧ Hid (∀ x, a = some x → W1.heap.size ≤ x.block) ∧ Hid (Below W1.heap.size W1 wr))
  case first =>
    go_wp2_with fail
    go_loopw [7, 8, 20] (fun l at_ i wr => ∃ (j k : Nat) (D : List (Nat × Nat × Bool)) (a : Option Addr) (c : Nat), j ≤ cuts.length ∧ i = .int .i64 j ∧ at_ = .int .i64 k ∧ l = .slice a D.length c ∧ k < N ∧ D.length ≤ j ∧ Hid (cutL N cuts 0 = D ++ cutL N (cuts.drop j) k) ∧ Hid (ownP wr a c (D.map (mkL data b off dc))) ∧ Hid (∀ x, a = some x → W1.heap.size ≤ x.block) ∧ Hid (Below W1.heap.size W1 wr)) (fun _ _ i _ => cuts.length - (intOf i).toNat)
    case atStart => exact ⟨0, 0, [], none, 0, by omega, rfl, rfl, rfl, by omega, by simp, rfl, ownP_nil _, fun x hx => (by cases hx), Below.refl _ _⟩
    case round =>
      obtain ⟨j, k, D, a, c, hj, rfl, rfl, rfl, hk, hDj, hcut, hown, hnew, hbl⟩ := hrel
      by_cases hlt : j < cuts.length
      · have i1 : (↑j : Int) < ↑cuts.length := by omega
        have i0 : (0 : Int) ≤ ↑j := by omega
        obtain ⟨cb, co, rfl, hcc⟩ := (HC.out.below (hbl.out.mono (Nat.le_refl _))).cells (by omega)
        have cj := hcc j hlt
        clear hcc
        obtain ⟨x, hx⟩ : ∃ x, cuts.getD j 0 = x := ⟨_, rfl⟩
        have hx01 : 0 ≤ x ∧ x ≤ 255 := by rw [← hx]; exact HC.out.bytes.get j
        have hx0 := hx01.1
        have hx1 := hx01.2
        rw [hx] at cj
        obtain ⟨m, hm⟩ : ∃ m : Nat, x % 4 = (m : Int) := ⟨(x % 4).toNat, by omega⟩
        have hm4 : m < 4 := by omega
        have HX : Hid (cuts.getD j 0 % 4 = (m : Int)) := by rw [hx]; exact hm
        clear hx hx01
        obtain ⟨NN, hNN⟩ : ∃ n, 8 * (m + 1) = n := ⟨_, rfl⟩
        have hNi : 8 * ((↑m : Int) + 1) = ↑NN := by omega
        by_cases hst : N ≤ k + NN
        · have i2 : (↑k : Int) + ↑NN ≥ ↑N := by omega
          have hcut2 : Hid (cutL N cuts 0 = D ++ [(k, N - k, false)]) := by rw [hcut.out, cutL_stop hlt HX.out (by rw [hNN]; exact hst)]; exact rfl
          clear HX hcut
          have c14 := (B1.out.below hbl.out B1.out.lt).cell 14 (.slice (some ⟨b, off, none⟩) N dc) rfl
          go_wp2_with fail
          go_meet
          exact ⟨k, D, a, c, rfl, rfl, hk, by omega, hcut2, hown, hnew, hbl⟩
        · have i2 : ¬ (↑k : Int) + ↑NN ≥ ↑N := by omega
          have hcut2 : Hid (cutL N cuts 0 = (D ++ [(k, NN, true)]) ++ cutL N (cuts.drop (j + 1)) (k + NN)) := by rw [hcut.out, cutL_go hlt HX.out (by rw [hNN]; exact hst), hNN]; exact (List.append_cons ..)
          clear HX hcut
          have wK : IntKind.i64.wrap (↑k + ↑NN) = ↑k + ↑NN := wraps_i64 _ (by omega) (by omega)
          have q1 : (0 : Int) ≤ ↑k + ↑NN := by omega
          have q2 : (↑k : Int) + ↑NN ≤ ↑dc := by omega
          have q3 : k ≤ ((↑k : Int) + ↑NN).toNat := by omega
          have q4 : ¬ dc = k := by omega
          have q5 : ((↑k : Int) + ↑NN).toNat - k = NN := by omega
          have hlen9 : (pkL data [] (k, NN, true)).dat.length = NN := by rw [pkL_len (by rw [HN.out]; simp only; omega)]
          obtain ⟨Wa, hWa⟩ : ∃ W, wr.alloc (.cells #[.int .i64 0, .int .i64 0, .int .u64 0, .int .u64 0, .int .i64 0, .int .u64 0, .int .u64 0, .int .i64 0, .int .i64 0, .bool false, .int .u32 0, .int .i64 0, .bool false, .slice none 0 0, .slice none 0 0] 42) = W := ⟨_, rfl⟩
          have Ba := blk_nw hWa
          have ka := bel_nw hWa
          obtain ⟨Wb, hWb⟩ : ∃ W, Wa.setRow wr.heap.size #[.int .i64 4, .int .i64 4, .int .u64 0, .int .u64 1, .int .i64 4, .int .u64 0, .int .u64 2, .int .i64 17, .int .i64 5, .bool true, .int .u32 9, .int .i64 0, .bool false, .slice none 0 0, .slice (some ⟨b, off, none⟩) N dc] = W := ⟨_, rfl⟩
          have Qb : Blk Wb wr.heap.size 42 #[.int .i64 4, .int .i64 4, .int .u64 0, .int .u64 1, .int .i64 4, .int .u64 0, .int .u64 2, .int .i64 17, .int .i64 5, .bool true, .int .u32 9, .int .i64 0, .bool false, .slice none 0 0, .slice (some ⟨b, off, none⟩) N dc] := by rw [← hWb]; exact Ba.set _
          have kb : Below wr.heap.size wr Wb := by rw [← hWb]; exact below_setRow ka (Nat.le_refl _) _
          have HWb : Hid _ := hWb
          have Br := B1.out.below hbl.out B1.out.lt
          have c14 := Br.cell 14 (.slice (some ⟨b, off, none⟩) N dc) rfl
          have hwr : w.heap.size + 1 ≤ wr.heap.size := Br.lt
          clear hWb
          go_wp2_with (first
            | (refine wpList_load_row rfl _ _ rfl w.heap.size (by rfl) _ _ _ _ Br Try.underlying42 rfl (by kernel_rfl) ?_)
            | (refine wpList_store_row rfl _ _ _ rfl wr.heap.size #[.int .i64 4, .int .i64 4, .int .u64 0, .int .u64 1, .int .i64 4, .int .u64 0, .int .u64 2, .int .i64 17, .int .i64 5, .bool true, .int .u32 9, .int .i64 0, .bool false, .slice none 0 0, .slice (some ⟨b, off, none⟩) N dc] (by rfl) (by rfl) _ _ Ba (by kernel_rfl) (by rfl) (by kernel_rfl) ?_; rw [HWb.out]))
          have Qd := Qb.drew
          have kd := kb.drew
          have p14 := (Br.kept kb).drew.cell 14 (.slice (some ⟨b, off, none⟩) N dc) rfl
          refine wp_region_noPanic ?_
          refine wp_region_held_drew (S := fun w' => w'.cell? ⟨w.heap.size, 14, none⟩ = some (.slice (some ⟨b, off, none⟩) N dc)) (by kernel_rfl) (by exact p14) (fun hHeld => ?_)
          generalize Wb.drew = V0 at Qd kd p14 hHeld ⊢
          refine wpAnyH_take (i := 0) (oi := { dst := some 37, op := Op.move (.tmp 8), type := 3, pos := "law.go:95", after := #[], guard := none }) (v := (.int .i64 ↑k)) rfl (by kernel_rfl) (by kernel_rfl) (by kernel_rfl) (fun _ _ _ h => h) (Or.inl ⟨by rfl, ?_⟩) hHeld ?_
          · intro w9 hSw
            try dsimp only at hSw
            go_simp
          try simp only [Act.put, List.setIfInBounds_toArray, List.set_cons_zero, List.set_cons_succ]
          refine wpAnyH_take (i := 1) (oi := { dst := some 38, op := Op.fieldAddr 42 (.tmp 3) 10, type := 0, pos := "law.go:95", after := #[], guard := none }) (v := (.pointer (some ⟨w.heap.size, 14, none⟩))) rfl (by kernel_rfl) (by kernel_rfl) (by kernel_rfl) (fun _ _ _ h => h) (Or.inl ⟨by rfl, ?_⟩) hHeld ?_
          · intro w9 hSw
            try dsimp only at hSw
            go_simp
          try simp only [Act.put, List.setIfInBounds_toArray, List.set_cons_zero, List.set_cons_succ]
          refine wpAnyH_take (i := 2) (oi := { dst := some 39, op := Op.load 40 (.tmp 38), type := 40, pos := "law.go:95", after := #[{ on := 1, ground := Ground.data }], guard := none }) (v := (.slice (some ⟨b, off, none⟩) N dc)) rfl (by kernel_rfl) (by kernel_rfl) (by kernel_rfl) (fun _ _ _ h => h) (Or.inl ⟨by rfl, ?_⟩) hHeld ?_
          · intro w9 hSw
            try dsimp only at hSw
            have q9 := hSw
            go_simp
          try simp only [Act.put, List.setIfInBounds_toArray, List.set_cons_zero, List.set_cons_succ]
          refine wpAnyH_take (i := 3) (oi := { dst := some 40, op := Op.move (.tmp 8), type := 3, pos := "law.go:95", after := #[], guard := none }) (v := (.int .i64 ↑k)) rfl (by kernel_rfl) (by kernel_rfl) (by kernel_rfl) (fun _ _ _ h => h) (Or.inl ⟨by rfl, ?_⟩) hHeld ?_
          · intro w9 hSw
            try dsimp only at hSw
            go_simp
          try simp only [Act.put, List.setIfInBounds_toArray, List.set_cons_zero, List.set_cons_succ]
          refine wpAnyH_take (i := 4) (oi := { dst := some 41, op := Op.move (.tmp 8), type := 3, pos := "law.go:95", after := #[], guard := none }) (v := (.int .i64 ↑k)) rfl (by kernel_rfl) (by kernel_rfl) (by kernel_rfl) (fun _ _ _ h => h) (Or.inl ⟨by rfl, ?_⟩) hHeld ?_
          · intro w9 hSw
            try dsimp only at hSw
            go_simp
          try simp only [Act.put, List.setIfInBounds_toArray, List.set_cons_zero, List.set_cons_succ]
          refine wpAnyH_take (i := 5) (oi := { dst := some 42, op := Op.move (.tmp 11), type := 3, pos := "law.go:95", after := #[], guard := none }) (v := (.int .i64 ↑NN)) rfl (by kernel_rfl) (by kernel_rfl) (by kernel_rfl) (fun _ _ _ h => h) (Or.inl ⟨by rfl, ?_⟩) hHeld ?_
          · intro w9 hSw
            try dsimp only at hSw
            go_simp
          try simp only [Act.put, List.setIfInBounds_toArray, List.set_cons_zero, List.set_cons_succ]
          refine wpAnyH_take (i := 6) (oi := { dst := some 43, op := Op.binOp BinOp.add 3 (.tmp 41) (.tmp 42) 3, type := 3, pos := "law.go:95", after := #[{ on := 4, ground := Ground.data }, { on := 5, ground := Ground.data }], guard := none }) (v := (.int .i64 (↑k + ↑NN))) rfl (by kernel_rfl) (by kernel_rfl) (by kernel_rfl) (fun _ _ _ h => h) (Or.inl ⟨by rfl, ?_⟩) hHeld ?_
          · intro w9 hSw
            try dsimp only at hSw
            go_simp
          try simp only [Act.put, List.setIfInBounds_toArray, List.set_cons_zero, List.set_cons_succ]
          refine wpAnyH_take (i := 7) (oi := { dst := some 44, op := Op.slice 40 (.tmp 39) (some (.tmp 40)) (some (.tmp 43)) none, type := 40, pos := "law.go:95", after := #[{ on := 2, ground := Ground.data }, { on := 3, ground := Ground.data }, { on := 6, ground := Ground.data }], guard := none }) (v := (.slice (some ⟨b, off + k, none⟩) NN (dc - k))) rfl (by kernel_rfl) (by kernel_rfl) (by kernel_rfl) (fun _ _ _ h => h) (Or.inl ⟨by rfl, ?_⟩) hHeld ?_
          · intro w9 hSw
            try dsimp only at hSw
            go_simp
            try rw [if_pos ⟨q1, q2⟩, if_pos q3, if_neg q4, q5]
          try simp only [Act.put, List.setIfInBounds_toArray, List.set_cons_zero, List.set_cons_succ]
          refine wpAnyH_take (i := 8) (oi := { dst := some 45, op := Op.fieldAddr 42 (.tmp 12) 7, type := 0, pos := "law.go:95", after := #[{ on := 0, ground := Ground.phase }, { on := 1, ground := Ground.textOnly Departure.lateStores }, { on := 2, ground := Ground.textOnly Departure.lateStores }, { on := 3, ground := Ground.textOnly Departure.lateStores }, { on := 4, ground := Ground.textOnly Departure.lateStores }, { on := 5, ground := Ground.textOnly Departure.lateStores }, { on := 6, ground := Ground.textOnly Departure.lateStores }, { on := 7, ground := Ground.textOnly Departure.lateStoresUnsure }], guard := none }) (v := (.pointer (some ⟨wr.heap.size, 11, none⟩))) rfl (by kernel_rfl) (by kernel_rfl) (by kernel_rfl) (fun _ _ _ h => h) (Or.inl ⟨by rfl, ?_⟩) hHeld ?_
          · intro w9 hSw
            try dsimp only at hSw
            go_simp
          try simp only [Act.put, List.setIfInBounds_toArray, List.set_cons_zero, List.set_cons_succ]
          have z1 := Qd.frozen 11
          have y1 := Qd.cell 11 (.int .i64 0) rfl
          have Q1 := Qd.put 11 (.int .i64 ↑k)
          have k1 := kd.setCell (p := ⟨wr.heap.size, 11, none⟩) (Nat.le_refl _) (.int .i64 ↑k)
          have p14 := ((Below.refl w.heap.size.succ _).setCell (p := ⟨wr.heap.size, 11, none⟩) (by exact hwr) (.int .i64 ↑k)).cell (p := ⟨w.heap.size, 14, none⟩) (Nat.lt_succ_self _) |>.trans p14
          refine wpAnyH_ready (rs := [9]) (by kernel_rfl) (by simp) ?_
          refine AllReadyH.cons (o := { dst := none, op := Op.store 3 (.tmp 45) (.tmp 37), type := 0, pos := "law.go:95", after := #[{ on := 8, ground := Ground.data }, { on := 0, ground := Ground.data }, { on := 0, ground := Ground.phase }, { on := 1, ground := Ground.textOnly Departure.lateStores }, { on := 2, ground := Ground.textOnly Departure.lateStores }, { on := 3, ground := Ground.textOnly Departure.lateStores }, { on := 4, ground := Ground.textOnly Departure.lateStores }, { on := 5, ground := Ground.textOnly Departure.lateStores }, { on := 6, ground := Ground.textOnly Departure.lateStores }, { on := 7, ground := Ground.textOnly Departure.lateStoresUnsure }], guard := none }) rfl (fun K hK => ?_) AllReadyH.nil
          go_simp
          refine hK.out _ _ (by exact p14) (fun hHeld => ?_)
          clear hK K
          try simp only [Act.put, List.setIfInBounds_toArray, List.set_cons_zero, List.set_cons_succ]
          refine wpAnyH_take (i := 10) (oi := { dst := some 46, op := Op.fieldAddr 42 (.tmp 12) 8, type := 0, pos := "law.go:95", after := #[{ on := 0, ground := Ground.phase }, { on := 1, ground := Ground.textOnly Departure.lateStores }, { on := 2, ground := Ground.textOnly Departure.lateStores }, { on := 3, ground := Ground.textOnly Departure.lateStores }, { on := 4, ground := Ground.textOnly Departure.lateStores }, { on := 5, ground := Ground.textOnly Departure.lateStores }, { on := 6, ground := Ground.textOnly Departure.lateStores }, { on := 7, ground := Ground.textOnly Departure.lateStoresUnsure }, { on := 8, ground := Ground.phase }, { on := 9, ground := Ground.phase }], guard := none }) (v := (.pointer (some ⟨wr.heap.size, 12, none⟩))) rfl (by kernel_rfl) (by kernel_rfl) (by kernel_rfl) (fun _ _ _ h => h) (Or.inl ⟨by rfl, ?_⟩) hHeld ?_
          · intro w9 hSw
            try dsimp only at hSw
            go_simp
          try simp only [Act.put, List.setIfInBounds_toArray, List.set_cons_zero, List.set_cons_succ]
          have z2 := Q1.frozen 12
          have y2 := Q1.cell 12 (.bool false) rfl
          have Q2 := Q1.put 12 (.bool true)
          have k2 := k1.setCell (p := ⟨wr.heap.size, 12, none⟩) (Nat.le_refl _) (.bool true)
          have p14 := ((Below.refl w.heap.size.succ _).setCell (p := ⟨wr.heap.size, 12, none⟩) (by exact hwr) (.bool true)).cell (p := ⟨w.heap.size, 14, none⟩) (Nat.lt_succ_self _) |>.trans p14
          refine wpAnyH_ready (rs := [11]) (by kernel_rfl) (by simp) ?_
          refine AllReadyH.cons (o := { dst := none, op := Op.store 4 (.tmp 46) (.const (.bool true)), type := 0, pos := "law.go:95", after := #[{ on := 10, ground := Ground.data }, { on := 9, ground := Ground.chain }, { on := 0, ground := Ground.phase }, { on := 1, ground := Ground.textOnly Departure.lateStores }, { on := 2, ground := Ground.textOnly Departure.lateStores }, { on := 3, ground := Ground.textOnly Departure.lateStores }, { on := 4, ground := Ground.textOnly Departure.lateStores }, { on := 5, ground := Ground.textOnly Departure.lateStores }, { on := 6, ground := Ground.textOnly Departure.lateStores }, { on := 7, ground := Ground.textOnly Departure.lateStoresUnsure }, { on := 8, ground := Ground.phase }, { on := 9, ground := Ground.phase }], guard := none }) rfl (fun K hK => ?_) AllReadyH.nil
          go_simp
          refine hK.out _ _ (by exact p14) (fun hHeld => ?_)
          clear hK K
          try simp only [Act.put, List.setIfInBounds_toArray, List.set_cons_zero, List.set_cons_succ]
          refine wpAnyH_take (i := 12) (oi := { dst := some 47, op := Op.fieldAddr 42 (.tmp 12) 10, type := 0, pos := "law.go:95", after := #[{ on := 0, ground := Ground.phase }, { on := 1, ground := Ground.phase }, { on := 2, ground := Ground.phase }, { on := 3, ground := Ground.phase }, { on := 4, ground := Ground.phase }, { on := 5, ground := Ground.phase }, { on := 6, ground := Ground.phase }, { on := 7, ground := Ground.phase }, { on := 8, ground := Ground.phase }, { on := 9, ground := Ground.phase }, { on := 10, ground := Ground.phase }, { on := 11, ground := Ground.phase }], guard := none }) (v := (.pointer (some ⟨wr.heap.size, 14, none⟩))) rfl (by kernel_rfl) (by kernel_rfl) (by kernel_rfl) (fun _ _ _ h => h) (Or.inl ⟨by rfl, ?_⟩) hHeld ?_
          · intro w9 hSw
            try dsimp only at hSw
            go_simp
          try simp only [Act.put, List.setIfInBounds_toArray, List.set_cons_zero, List.set_cons_succ]
          have z3 := Q2.frozen 14
          have y3 := Q2.cell 14 (.slice (some ⟨b, off, none⟩) N dc) rfl
          have Q3 := Q2.put 14 (.slice (some ⟨b, off + k, none⟩) NN (dc - k))
          have k3 := k2.setCell (p := ⟨wr.heap.size, 14, none⟩) (Nat.le_refl _) (.slice (some ⟨b, off + k, none⟩) NN (dc - k))
          have p14 := ((Below.refl w.heap.size.succ _).setCell (p := ⟨wr.heap.size, 14, none⟩) (by exact hwr) (.slice (some ⟨b, off + k, none⟩) NN (dc - k))).cell (p := ⟨w.heap.size, 14, none⟩) (Nat.lt_succ_self _) |>.trans p14
          refine wpAnyH_ready (rs := [13]) (by kernel_rfl) (by simp) ?_
          refine AllReadyH.cons (o := { dst := none, op := Op.store 40 (.tmp 47) (.tmp 44), type := 0, pos := "law.go:95", after := #[{ on := 12, ground := Ground.data }, { on := 7, ground := Ground.data }, { on := 11, ground := Ground.chain }, { on := 0, ground := Ground.phase }, { on := 1, ground := Ground.phase }, { on := 2, ground := Ground.phase }, { on := 3, ground := Ground.phase }, { on := 4, ground := Ground.phase }, { on := 5, ground := Ground.phase }, { on := 6, ground := Ground.phase }, { on := 7, ground := Ground.phase }, { on := 8, ground := Ground.phase }, { on := 9, ground := Ground.phase }, { on := 10, ground := Ground.phase }, { on := 11, ground := Ground.phase }], guard := none }) rfl (fun K hK => ?_) AllReadyH.nil
          go_simp
          refine hK.out _ _ (by exact p14) (fun hHeld => ?_)
          clear hK K
          try simp only [Act.put, List.setIfInBounds_toArray, List.set_cons_zero, List.set_cons_succ]
          refine wpAnyH_done (by kernel_rfl) ?_ _
          refine NoPanic.normal ?_
          obtain ⟨V, hV⟩ : ∃ V, ((V0.setCell ⟨wr.heap.size, 11, none⟩ (.int .i64 ↑k)).setCell ⟨wr.heap.size, 12, none⟩ (.bool true)).setCell ⟨wr.heap.size, 14, none⟩ (.slice (some ⟨b, off + k, none⟩) NN (dc - k)) = V := ⟨_, rfl⟩
          rw [hV] at Q3 k3 ⊢
          have Q3 : Blk V wr.heap.size 42 #[.int .i64 4, .int .i64 4, .int .u64 0, .int .u64 1, .int .i64 4, .int .u64 0, .int .u64 2, .int .i64 17, .int .i64 5, .bool true, .int .u32 9, .int .i64 ↑k, .bool true, .slice none 0 0, .slice (some ⟨b, off + k, none⟩) NN (dc - k)] := Q3
          clear hV p14 c14 z1 z2 z3 y1 y2 y3 Q1 Q2 k1 k2 Qd kd Qb kb Ba ka Br HWb
          obtain ⟨W5, hW5⟩ : ∃ W, V.alloc (.cells #[.int .i64 4, .int .i64 4, .int .u64 0, .int .u64 1, .int .i64 4, .int .u64 0, .int .u64 2, .int .i64 17, .int .i64 5, .bool true, .int .u32 9, .int .i64 ↑k, .bool true, .slice none 0 0, .slice (some ⟨b, off + k, none⟩) NN (dc - k)] 42) = W := ⟨_, rfl⟩
          have k5 := bel_nw hW5
          have B5 := blk_nw hW5
          have S5 : CellsAt W5 V.heap.size 0 (mkL data b off dc (k, NN, true)).v := ⟨B5.lt, fun jj v hv => B5.cell (0 + jj) v (by
            rw [Nat.zero_add]
            have e : (mkL data b off dc (k, NN, true)).v = #[.int .i64 4, .int .i64 4, .int .u64 0, .int .u64 1, .int .i64 4, .int .u64 0, .int .u64 2, .int .i64 17, .int .i64 5, .bool true, .int .u32 9, .int .i64 ↑k, .bool true, .slice none 0 0, .slice (some ⟨b, off + k, none⟩) NN (dc - k)] := by
              simp only [PkIn.v, pkV, hlen9, List.length_nil]
            rw [e] at hv
            exact hv)⟩
          have o5 : ownP W5 a c (D.map (mkL data b off dc)) := (hown.out.below k3).below k5
          obtain ⟨a2, c2, W6, hrun, hown6, hbut6, hnew6⟩ := run_appP W5 54 a c (D.map (mkL data b off dc)) V.heap.size (mkL data b off dc (k, NN, true)) o5 S5 (by simp; omega)
          rw [List.length_map] at hrun
          have k6 : Below W1.heap.size W1 W6 := (hbl.out.trans ((bel_tr k3 k5).mono hbl.out.size)).trans (hbut6.to_below (Nat.le_trans hbl.out.size (bel_tr k3 k5).size) (fun kk hk hF => by
            obtain ⟨x, hx, e⟩ := hF
            have := hnew.out x hx
            omega))
          have n6 : ∀ x, a2 = some x → W1.heap.size ≤ x.block := fun x hx => by
            rcases hnew6 x hx with ⟨y, hy, e⟩ | h
            · have := hnew.out y hy
              omega
            · have := hbl.out.size
              have := (bel_tr k3 k5).size
              omega
          go_wp2_with (first
            | (refine wpList_load_row rfl _ _ rfl wr.heap.size (by rfl) _ _ _ _ Q3 Try.underlying42 rfl (by kernel_rfl) ?_)
            | (refine wpList_runP _ rfl _ _ rfl _ _ _ _ (by rfl) (by rfl) hrun ?_))
          have o6' : ownP W6 a2 c2 ((D ++ [(k, NN, true)]).map (mkL data b off dc)) := by simpa using hown6
          exact ⟨⟨j + 1, k + NN, D ++ [(k, NN, true)], a2, c2, by omega, int_eq (by omega), int_eq (by omega), by simp, by omega, by simp; omega, hcut2, o6', n6, k6⟩, by simp [intOf] <;> omega⟩
      · have i1 : ¬ (↑j : Int) < ↑cuts.length := by omega
        have hcut2 : Hid (cutL N cuts 0 = D ++ [(k, N - k, false)]) := by rw [hcut.out, cutL_end hlt]; exact rfl
        clear hcut
        go_wp2_with fail
        go_meet
        exact ⟨k, D, a, c, rfl, rfl, hk, by omega, hcut2, hown, hnew, hbl⟩
  case rest =>
    obtain ⟨k, D, a, c, rfl, rfl, hk, hDj, hcut2, hown, hnew, hbl⟩ := hcut
    obtain ⟨N2, hN2⟩ : ∃ n, N - k = n := ⟨_, rfl⟩
    have q4 : ¬ dc = k := by omega
    have hlen9 : (pkL data [] (k, N2, false)).dat.length = N2 := by rw [pkL_len (by rw [HN.out]; simp only; omega)]
    obtain ⟨Wa, hWa⟩ : ∃ W, wc.alloc (.cells #[.int .i64 0, .int .i64 0, .int .u64 0, .int .u64 0, .int .i64 0, .int .u64 0, .int .u64 0, .int .i64 0, .int .i64 0, .bool false, .int .u32 0, .int .i64 0, .bool false, .slice none 0 0, .slice none 0 0] 42) = W := ⟨_, rfl⟩
    have Ba := blk_nw hWa
    have ka := bel_nw hWa
    obtain ⟨Wb, hWb⟩ : ∃ W, Wa.setRow wc.heap.size #[.int .i64 4, .int .i64 4, .int .u64 0, .int .u64 1, .int .i64 4, .int .u64 0, .int .u64 2, .int .i64 17, .int .i64 5, .bool true, .int .u32 9, .int .i64 0, .bool false, .slice none 0 0, .slice (some ⟨b, off, none⟩) N dc] = W := ⟨_, rfl⟩
    have Qb : Blk Wb wc.heap.size 42 #[.int .i64 4, .int .i64 4, .int .u64 0, .int .u64 1, .int .i64 4, .int .u64 0, .int .u64 2, .int .i64 17, .int .i64 5, .bool true, .int .u32 9, .int .i64 0, .bool false, .slice none 0 0, .slice (some ⟨b, off, none⟩) N dc] := by rw [← hWb]; exact Ba.set _
    have kb : Below wc.heap.size wc Wb := by rw [← hWb]; exact below_setRow ka (Nat.le_refl _) _
    have HWb : Hid _ := hWb
    have Br := B1.out.below hbl.out B1.out.lt
    have c14 := Br.cell 14 (.slice (some ⟨b, off, none⟩) N dc) rfl
    have hwr : w.heap.size + 1 ≤ wc.heap.size := Br.lt
    clear hWb
    go_wp2_with (first
      | (refine wpList_load_row rfl _ _ rfl w.heap.size (by rfl) _ _ _ _ Br Try.underlying42 rfl (by kernel_rfl) ?_)
      | (refine wpList_store_row rfl _ _ _ rfl wc.heap.size #[.int .i64 4, .int .i64 4, .int .u64 0, .int .u64 1, .int .i64 4, .int .u64 0, .int .u64 2, .int .i64 17, .int .i64 5, .bool true, .int .u32 9, .int .i64 0, .bool false, .slice none 0 0, .slice (some ⟨b, off, none⟩) N dc] (by rfl) (by rfl) _ _ Ba (by kernel_rfl) (by rfl) (by kernel_rfl) ?_; rw [HWb.out]))
    have Qd := Qb.drew
    have kd := kb.drew
    have p14 := (Br.kept kb).drew.cell 14 (.slice (some ⟨b, off, none⟩) N dc) rfl
    refine wp_region_noPanic ?_
    refine wp_region_held_drew (S := fun w' => w'.cell? ⟨w.heap.size, 14, none⟩ = some (.slice (some ⟨b, off, none⟩) N dc)) (by kernel_rfl) (by exact p14) (fun hHeld => ?_)
    generalize Wb.drew = V0 at Qd kd p14 hHeld ⊢
    refine wpAnyH_take (i := 0) (oi := { dst := some 57, op := Op.move (.tmp 8), type := 3, pos := "law.go:100", after := #[], guard := none }) (v := (.int .i64 ↑k)) rfl (by kernel_rfl) (by kernel_rfl) (by kernel_rfl) (fun _ _ _ h => h) (Or.inl ⟨by rfl, ?_⟩) hHeld ?_
    · intro w9 hSw
      try dsimp only at hSw
      go_simp
    try simp only [Act.put, List.setIfInBounds_toArray, List.set_cons_zero, List.set_cons_succ]
    refine wpAnyH_take (i := 1) (oi := { dst := some 58, op := Op.fieldAddr 42 (.tmp 3) 10, type := 0, pos := "law.go:100", after := #[], guard := none }) (v := (.pointer (some ⟨w.heap.size, 14, none⟩))) rfl (by kernel_rfl) (by kernel_rfl) (by kernel_rfl) (fun _ _ _ h => h) (Or.inl ⟨by rfl, ?_⟩) hHeld ?_
    · intro w9 hSw
      try dsimp only at hSw
      go_simp
    try simp only [Act.put, List.setIfInBounds_toArray, List.set_cons_zero, List.set_cons_succ]
    refine wpAnyH_take (i := 2) (oi := { dst := some 59, op := Op.load 40 (.tmp 58), type := 40, pos := "law.go:100", after := #[{ on := 1, ground := Ground.data }], guard := none }) (v := (.slice (some ⟨b, off, none⟩) N dc)) rfl (by kernel_rfl) (by kernel_rfl) (by kernel_rfl) (fun _ _ _ h => h) (Or.inl ⟨by rfl, ?_⟩) hHeld ?_
    · intro w9 hSw
      try dsimp only at hSw
      have q9 := hSw
      go_simp
    try simp only [Act.put, List.setIfInBounds_toArray, List.set_cons_zero, List.set_cons_succ]
    refine wpAnyH_take (i := 3) (oi := { dst := some 60, op := Op.move (.tmp 8), type := 3, pos := "law.go:100", after := #[], guard := none }) (v := (.int .i64 ↑k)) rfl (by kernel_rfl) (by kernel_rfl) (by kernel_rfl) (fun _ _ _ h => h) (Or.inl ⟨by rfl, ?_⟩) hHeld ?_
    · intro w9 hSw
      try dsimp only at hSw
      go_simp
    try simp only [Act.put, List.setIfInBounds_toArray, List.set_cons_zero, List.set_cons_succ]
    refine wpAnyH_take (i := 4) (oi := { dst := some 61, op := Op.slice 40 (.tmp 59) (some (.tmp 60)) none none, type := 40, pos := "law.go:100", after := #[{ on := 2, ground := Ground.data }, { on := 3, ground := Ground.data }], guard := none }) (v := (.slice (some ⟨b, off + k, none⟩) N2 (dc - k))) rfl (by kernel_rfl) (by kernel_rfl) (by kernel_rfl) (fun _ _ _ h => h) (Or.inl ⟨by rfl, ?_⟩) hHeld ?_
    · intro w9 hSw
      try dsimp only at hSw
      go_simp
      exact fun hq => absurd hq (by omega)
    try simp only [Act.put, List.setIfInBounds_toArray, List.set_cons_zero, List.set_cons_succ]
    refine wpAnyH_take (i := 5) (oi := { dst := some 62, op := Op.fieldAddr 42 (.tmp 13) 7, type := 0, pos := "law.go:100", after := #[{ on := 0, ground := Ground.phase }, { on := 1, ground := Ground.textOnly Departure.lateStores }, { on := 2, ground := Ground.textOnly Departure.lateStores }, { on := 3, ground := Ground.textOnly Departure.lateStores }, { on := 4, ground := Ground.textOnly Departure.lateStoresUnsure }], guard := none }) (v := (.pointer (some ⟨wc.heap.size, 11, none⟩))) rfl (by kernel_rfl) (by kernel_rfl) (by kernel_rfl) (fun _ _ _ h => h) (Or.inl ⟨by rfl, ?_⟩) hHeld ?_
    · intro w9 hSw
      try dsimp only at hSw
      go_simp
    try simp only [Act.put, List.setIfInBounds_toArray, List.set_cons_zero, List.set_cons_succ]
    have z1 := Qd.frozen 11
    have y1 := Qd.cell 11 (.int .i64 0) rfl
    have Q1 := Qd.put 11 (.int .i64 ↑k)
    have k1 := kd.setCell (p := ⟨wc.heap.size, 11, none⟩) (Nat.le_refl _) (.int .i64 ↑k)
    have p14 := ((Below.refl w.heap.size.succ _).setCell (p := ⟨wc.heap.size, 11, none⟩) (by exact hwr) (.int .i64 ↑k)).cell (p := ⟨w.heap.size, 14, none⟩) (Nat.lt_succ_self _) |>.trans p14
    refine wpAnyH_ready (rs := [6]) (by kernel_rfl) (by simp) ?_
    refine AllReadyH.cons (o := { dst := none, op := Op.store 3 (.tmp 62) (.tmp 57), type := 0, pos := "law.go:100", after := #[{ on := 5, ground := Ground.data }, { on := 0, ground := Ground.data }, { on := 0, ground := Ground.phase }, { on := 1, ground := Ground.textOnly Departure.lateStores }, { on := 2, ground := Ground.textOnly Departure.lateStores }, { on := 3, ground := Ground.textOnly Departure.lateStores }, { on := 4, ground := Ground.textOnly Departure.lateStoresUnsure }], guard := none }) rfl (fun K hK => ?_) AllReadyH.nil
    go_simp
    refine hK.out _ _ (by exact p14) (fun hHeld => ?_)
    clear hK K
    try simp only [Act.put, List.setIfInBounds_toArray, List.set_cons_zero, List.set_cons_succ]
    refine wpAnyH_take (i := 7) (oi := { dst := some 63, op := Op.fieldAddr 42 (.tmp 13) 8, type := 0, pos := "law.go:100", after := #[{ on := 0, ground := Ground.phase }, { on := 1, ground := Ground.textOnly Departure.lateStores }, { on := 2, ground := Ground.textOnly Departure.lateStores }, { on := 3, ground := Ground.textOnly Departure.lateStores }, { on := 4, ground := Ground.textOnly Departure.lateStoresUnsure }, { on := 5, ground := Ground.phase }, { on := 6, ground := Ground.phase }], guard := none }) (v := (.pointer (some ⟨wc.heap.size, 12, none⟩))) rfl (by kernel_rfl) (by kernel_rfl) (by kernel_rfl) (fun _ _ _ h => h) (Or.inl ⟨by rfl, ?_⟩) hHeld ?_
    · intro w9 hSw
      try dsimp only at hSw
      go_simp
    try simp only [Act.put, List.setIfInBounds_toArray, List.set_cons_zero, List.set_cons_succ]
    have z2 := Q1.frozen 12
    have y2 := Q1.cell 12 (.bool false) rfl
    have Q2 := Q1.put 12 (.bool false)
    have k2 := k1.setCell (p := ⟨wc.heap.size, 12, none⟩) (Nat.le_refl _) (.bool false)
    have p14 := ((Below.refl w.heap.size.succ _).setCell (p := ⟨wc.heap.size, 12, none⟩) (by exact hwr) (.bool false)).cell (p := ⟨w.heap.size, 14, none⟩) (Nat.lt_succ_self _) |>.trans p14
    refine wpAnyH_ready (rs := [8]) (by kernel_rfl) (by simp) ?_
    refine AllReadyH.cons (o := { dst := none, op := Op.store 4 (.tmp 63) (.const (.bool false)), type := 0, pos := "law.go:100", after := #[{ on := 7, ground := Ground.data }, { on := 6, ground := Ground.chain }, { on := 0, ground := Ground.phase }, { on := 1, ground := Ground.textOnly Departure.lateStores }, { on := 2, ground := Ground.textOnly Departure.lateStores }, { on := 3, ground := Ground.textOnly Departure.lateStores }, { on := 4, ground := Ground.textOnly Departure.lateStoresUnsure }, { on := 5, ground := Ground.phase }, { on := 6, ground := Ground.phase }], guard := none }) rfl (fun K hK => ?_) AllReadyH.nil
    go_simp
    refine hK.out _ _ (by exact p14) (fun hHeld => ?_)
    clear hK K
    try simp only [Act.put, List.setIfInBounds_toArray, List.set_cons_zero, List.set_cons_succ]
    refine wpAnyH_take (i := 9) (oi := { dst := some 64, op := Op.fieldAddr 42 (.tmp 13) 10, type := 0, pos := "law.go:100", after := #[{ on := 0, ground := Ground.phase }, { on := 1, ground := Ground.phase }, { on := 2, ground := Ground.phase }, { on := 3, ground := Ground.phase }, { on := 4, ground := Ground.phase }, { on := 5, ground := Ground.phase }, { on := 6, ground := Ground.phase }, { on := 7, ground := Ground.phase }, { on := 8, ground := Ground.phase }], guard := none }) (v := (.pointer (some ⟨wc.heap.size, 14, none⟩))) rfl (by kernel_rfl) (by kernel_rfl) (by kernel_rfl) (fun _ _ _ h => h) (Or.inl ⟨by rfl, ?_⟩) hHeld ?_
    · intro w9 hSw
      try dsimp only at hSw
      go_simp
    try simp only [Act.put, List.setIfInBounds_toArray, List.set_cons_zero, List.set_cons_succ]
    have z3 := Q2.frozen 14
    have y3 := Q2.cell 14 (.slice (some ⟨b, off, none⟩) N dc) rfl
    have Q3 := Q2.put 14 (.slice (some ⟨b, off + k, none⟩) N2 (dc - k))
    have k3 := k2.setCell (p := ⟨wc.heap.size, 14, none⟩) (Nat.le_refl _) (.slice (some ⟨b, off + k, none⟩) N2 (dc - k))
    have p14 := ((Below.refl w.heap.size.succ _).setCell (p := ⟨wc.heap.size, 14, none⟩) (by exact hwr) (.slice (some ⟨b, off + k, none⟩) N2 (dc - k))).cell (p := ⟨w.heap.size, 14, none⟩) (Nat.lt_succ_self _) |>.trans p14
    refine wpAnyH_ready (rs := [10]) (by kernel_rfl) (by simp) ?_
    refine AllReadyH.cons (o := { dst := none, op := Op.store 40 (.tmp 64) (.tmp 61), type := 0, pos := "law.go:100", after := #[{ on := 9, ground := Ground.data }, { on := 4, ground := Ground.data }, { on := 8, ground := Ground.chain }, { on := 0, ground := Ground.phase }, { on := 1, ground := Ground.phase }, { on := 2, ground := Ground.phase }, { on := 3, ground := Ground.phase }, { on := 4, ground := Ground.phase }, { on := 5, ground := Ground.phase }, { on := 6, ground := Ground.phase }, { on := 7, ground := Ground.phase }, { on := 8, ground := Ground.phase }], guard := none }) rfl (fun K hK => ?_) AllReadyH.nil
    go_simp
    refine hK.out _ _ (by exact p14) (fun hHeld => ?_)
    clear hK K
    try simp only [Act.put, List.setIfInBounds_toArray, List.set_cons_zero, List.set_cons_succ]
    refine wpAnyH_done (by kernel_rfl) ?_ _
    refine NoPanic.normal ?_
    obtain ⟨V, hV⟩ : ∃ V, ((V0.setCell ⟨wc.heap.size, 11, none⟩ (.int .i64 ↑k)).setCell ⟨wc.heap.size, 12, none⟩ (.bool false)).setCell ⟨wc.heap.size, 14, none⟩ (.slice (some ⟨b, off + k, none⟩) N2 (dc - k)) = V := ⟨_, rfl⟩
    rw [hV] at Q3 k3 ⊢
    have Q3 : Blk V wc.heap.size 42 #[.int .i64 4, .int .i64 4, .int .u64 0, .int .u64 1, .int .i64 4, .int .u64 0, .int .u64 2, .int .i64 17, .int .i64 5, .bool true, .int .u32 9, .int .i64 ↑k, .bool false, .slice none 0 0, .slice (some ⟨b, off + k, none⟩) N2 (dc - k)] := Q3
    clear hV p14 c14 z1 z2 z3 y1 y2 y3 Q1 Q2 k1 k2 Qd kd Qb kb Ba ka Br HWb
    obtain ⟨W5, hW5⟩ : ∃ W, V.alloc (.cells #[.int .i64 4, .int .i64 4, .int .u64 0, .int .u64 1, .int .i64 4, .int .u64 0, .int .u64 2, .int .i64 17, .int .i64 5, .bool true, .int .u32 9, .int .i64 ↑k, .bool false, .slice none 0 0, .slice (some ⟨b, off + k, none⟩) N2 (dc - k)] 42) = W := ⟨_, rfl⟩
    have k5 := bel_nw hW5
    have B5 := blk_nw hW5
    have S5 : CellsAt W5 V.heap.size 0 (mkL data b off dc (k, N2, false)).v := ⟨B5.lt, fun jj v hv => B5.cell (0 + jj) v (by
      rw [Nat.zero_add]
      have e : (mkL data b off dc (k, N2, false)).v = #[.int .i64 4, .int .i64 4, .int .u64 0, .int .u64 1, .int .i64 4, .int .u64 0, .int .u64 2, .int .i64 17, .int .i64 5, .bool true, .int .u32 9, .int .i64 ↑k, .bool false, .slice none 0 0, .slice (some ⟨b, off + k, none⟩) N2 (dc - k)] := by
        simp only [PkIn.v, pkV, hlen9, List.length_nil]
      rw [e] at hv
      exact hv)⟩
    have o5 : ownP W5 a c (D.map (mkL data b off dc)) := (hown.out.below k3).below k5
    obtain ⟨a2, c2, W6, hrun, hown6, hbut6, hnew6⟩ := run_appP W5 54 a c (D.map (mkL data b off dc)) V.heap.size (mkL data b off dc (k, N2, false)) o5 S5 (by simp; omega)
    rw [List.length_map] at hrun
    have k6 : Below W1.heap.size W1 W6 := (hbl.out.trans ((bel_tr k3 k5).mono hbl.out.size)).trans (hbut6.to_below (Nat.le_trans hbl.out.size (bel_tr k3 k5).size) (fun kk hk hF => by
      obtain ⟨x, hx, e⟩ := hF
      have := hnew.out x hx
      omega))
    have n6 : ∀ x, a2 = some x → W1.heap.size ≤ x.block := fun x hx => by
      rcases hnew6 x hx with ⟨y, hy, e⟩ | h
      · have := hnew.out y hy
        omega
      · have := hbl.out.size
        have := (bel_tr k3 k5).size
        omega
    obtain ⟨n2, hn2⟩ : ∃ n, D.length + 1 = n := ⟨_, rfl⟩
    rw [hn2] at hrun
    go_wp2_with (first
      | (refine wpList_load_row rfl _ _ rfl wc.heap.size (by rfl) _ _ _ _ Q3 Try.underlying42 rfl (by kernel_rfl) ?_)
      | (refine wpList_runP _ rfl _ _ rfl _ _ _ _ (by rfl) (by rfl) hrun ?_))
    have hM0 : Hid ((D ++ [(k, N2, false)]).Perm (cutL N cuts 0)) := by rw [hcut2.out, hN2]; exact List.Perm.refl _
    have hown0 : Hid (ownP W6 a2 c2 ((D ++ [(k, N2, false)]).map (mkL data b off dc))) := by rw [List.map_append]; exact hown6
    have n60 : Hid _ := n6
    have k60 : Hid _ := k6
    have hlen0 : Hid ((D ++ [(k, N2, false)]).length = n2) := by rw [List.length_append]; exact hn2
    have hpos : 0 < n2 := by omega
    generalize D ++ [(k, N2, false)] = M0 at hM0 hown0 hlen0
    obtain ⟨q0, hq0⟩ : ∃ q, M0[0]? = some q := ⟨_, List.getElem?_eq_getElem (by rw [hlen0.out]; exact hpos)⟩
    obtain ⟨g2, rfl, h99⟩ := hown0.out.at_ (i := 0) (q := mkL data b off dc q0) (by rw [List.getElem?_map, hq0]; rfl)
    have hg2 : W1.heap.size ≤ g2 := n60.out _ rfl
    clear hown6 n6 k6 hcut2 hlen9 hown hbl hnew Q3 k3 B5 k5 S5 o5 hbut6 hnew6 hrun h99 hq0 hW5
    go_loopw [71] (fun i w2 => ∃ (jj : Nat) (M : List (Nat × Nat × Bool)), jj ≤ ord.length ∧ i = .int .i64 jj ∧ Hid (M.Perm (cutL N cuts 0)) ∧ Hid (M.length = n2) ∧ Hid (ownP w2 (some ⟨g2, 0, none⟩) c2 (M.map (mkL data b off dc))) ∧ Hid (Below W1.heap.size W1 w2)) (fun i _ => ord.length - (intOf i).toNat)
    case atStart => exact ⟨0, M0, by omega, rfl, hM0, hlen0, hown0, k60⟩
    case round =>
      obtain ⟨jj, M, hjj, rfl, hperm, hMl, how, hbw⟩ := hrel
      by_cases hl2 : jj < ord.length
      · have i5 : (↑jj : Int) < ↑ord.length := by omega
        have Hl2 : Hid (jj < ord.length) := hl2
        have Hl3 : Hid (∀ x : Int, x = ↑jj + 1 → ord.length - x.toNat < ord.length - jj) := fun x hx => by subst hx; omega
        have i6 : (0 : Int) ≤ ↑jj := by omega
        obtain ⟨ob, oo, rfl, hoc⟩ := (HO.out.below (hbw.out.mono (Nat.le_refl _))).cells (by omega)
        have oj := hoc jj hl2
        clear hoc
        obtain ⟨y, hy⟩ : ∃ y, ord.getD jj 0 = y := ⟨_, rfl⟩
        have hy01 : 0 ≤ y ∧ y ≤ 255 := by rw [← hy]; exact HO.out.bytes.get jj
        have hy0 := hy01.1
        have hy1 := hy01.2
        rw [hy] at oj
        clear hy hy01
        have hp2 : (0 : Int) < ↑n2 := by omega
        obtain ⟨ki, hki⟩ : ∃ ki : Nat, y % (↑n2 : Int) = ↑ki := ⟨(y % (↑n2 : Int)).toNat, by have := Int.emod_nonneg y (show (↑n2 : Int) ≠ 0 by omega); omega⟩
        have hkl : ki < n2 := by have := Int.emod_lt_of_pos y hp2; omega
        obtain ⟨ji, hji⟩ : ∃ ji : Nat, (↑jj : Int) % (↑n2 : Int) = ↑ji := ⟨((↑jj : Int) % (↑n2 : Int)).toNat, by have := Int.emod_nonneg (↑jj : Int) (show (↑n2 : Int) ≠ 0 by omega); omega⟩
        have hjl : ji < n2 := by have := Int.emod_lt_of_pos (↑jj : Int) hp2; omega
        obtain ⟨x1, hx1⟩ : ∃ q, M[ki]? = some q := ⟨_, List.getElem?_eq_getElem (by rw [hMl.out]; exact hkl)⟩
        obtain ⟨x2, hx2⟩ : ∃ q, M[ji]? = some q := ⟨_, List.getElem?_eq_getElem (by rw [hMl.out]; exact hjl)⟩
        have hq1 : (M.map (mkL data b off dc))[ki]? = some (mkL data b off dc x1) := by rw [List.getElem?_map, hx1]; rfl
        have hq2 : (M.map (mkL data b off dc))[ji]? = some (mkL data b off dc x2) := by rw [List.getElem?_map, hx2]; rfl
        have Hq : Hid (_ ∧ _ ∧ _ ∧ _) := ⟨hx1, hx2, hq1, hq2⟩
        clear hx1 hx2 hq1 hq2
        go_wp2_with fail
        obtain ⟨hx1, hx2, hq1, hq2⟩ := Hq.out
        have hml9 := hMl.out
        have ow9 : ownP wr.drew _ _ _ := how.out.below (Below.refl _ _).drew
        have kw9 : Below W1.heap.size W1 wr.drew := hbw.out.drew
        refine wp_region_noPanic ?_
        refine wp_region_held_drew (S := fun _ => True) (by kernel_rfl) trivial (fun hHeld => ?_)
        refine wpAnyH_take (i := 0) (oi := { dst := some 85, op := Op.move (.tmp 7), type := 54, pos := "law.go:105", after := #[], guard := none }) (v := (.slice (some ⟨g2, 0, none⟩) n2 c2)) rfl (by kernel_rfl) (by kernel_rfl) (by kernel_rfl) (fun _ _ _ h => h) (Or.inl ⟨by rfl, ?_⟩) hHeld ?_
        · intro w9 hSw
          try dsimp only at hSw
          go_simp
        try simp only [Act.put, List.setIfInBounds_toArray, List.set_cons_zero, List.set_cons_succ]
        refine wpAnyH_take (i := 2) (oi := { dst := some 87, op := Op.move (.tmp 7), type := 54, pos := "law.go:105", after := #[{ on := 13, ground := Ground.gcOnly Departure.lateStores }], guard := none }) (v := (.slice (some ⟨g2, 0, none⟩) n2 c2)) rfl (by kernel_rfl) (by kernel_rfl) (by kernel_rfl) (fun _ _ _ h => h) (Or.inl ⟨by rfl, ?_⟩) hHeld ?_
        · intro w9 hSw
          try dsimp only at hSw
          go_simp
        try simp only [Act.put, List.setIfInBounds_toArray, List.set_cons_zero, List.set_cons_succ]
        refine wpAnyH_take (i := 4) (oi := { dst := some 89, op := Op.move (.tmp 7), type := 54, pos := "law.go:105", after := #[], guard := none }) (v := (.slice (some ⟨g2, 0, none⟩) n2 c2)) rfl (by kernel_rfl) (by kernel_rfl) (by kernel_rfl) (fun _ _ _ h => h) (Or.inl ⟨by rfl, ?_⟩) hHeld ?_
        · intro w9 hSw
          try dsimp only at hSw
          go_simp
        try simp only [Act.put, List.setIfInBounds_toArray, List.set_cons_zero, List.set_cons_succ]
        refine wpAnyH_take (i := 8) (oi := { dst := some 93, op := Op.move (.tmp 7), type := 54, pos := "law.go:105", after := #[], guard := none }) (v := (.slice (some ⟨g2, 0, none⟩) n2 c2)) rfl (by kernel_rfl) (by kernel_rfl) (by kernel_rfl) (fun _ _ _ h => h) (Or.inl ⟨by rfl, ?_⟩) hHeld ?_
        · intro w9 hSw
          try dsimp only at hSw
          go_simp
        try simp only [Act.put, List.setIfInBounds_toArray, List.set_cons_zero, List.set_cons_succ]
        refine wpAnyH_take (i := 1) (oi := { dst := some 86, op := Op.move (.tmp 17), type := 3, pos := "law.go:105", after := #[], guard := none }) (v := (.int .i64 ↑ji)) rfl (by kernel_rfl) (by kernel_rfl) (by kernel_rfl) (fun _ _ _ h => h) (Or.inl ⟨by rfl, ?_⟩) hHeld ?_
        · intro w9 hSw
          try dsimp only at hSw
          go_simp
        try simp only [Act.put, List.setIfInBounds_toArray, List.set_cons_zero, List.set_cons_succ]
        refine wpAnyH_take (i := 3) (oi := { dst := some 88, op := Op.move (.tmp 16), type := 3, pos := "law.go:105", after := #[{ on := 13, ground := Ground.gcOnly Departure.lateStores }], guard := none }) (v := (.int .i64 ↑ki)) rfl (by kernel_rfl) (by kernel_rfl) (by kernel_rfl) (fun _ _ _ h => h) (Or.inl ⟨by rfl, ?_⟩) hHeld ?_
        · intro w9 hSw
          try dsimp only at hSw
          go_simp
        try simp only [Act.put, List.setIfInBounds_toArray, List.set_cons_zero, List.set_cons_succ]
        refine wpAnyH_take (i := 5) (oi := { dst := some 90, op := Op.move (.tmp 16), type := 3, pos := "law.go:105", after := #[], guard := none }) (v := (.int .i64 ↑ki)) rfl (by kernel_rfl) (by kernel_rfl) (by kernel_rfl) (fun _ _ _ h => h) (Or.inl ⟨by rfl, ?_⟩) hHeld ?_
        · intro w9 hSw
          try dsimp only at hSw
          go_simp
        try simp only [Act.put, List.setIfInBounds_toArray, List.set_cons_zero, List.set_cons_succ]
        refine wpAnyH_take (i := 9) (oi := { dst := some 94, op := Op.move (.tmp 17), type := 3, pos := "law.go:105", after := #[], guard := none }) (v := (.int .i64 ↑ji)) rfl (by kernel_rfl) (by kernel_rfl) (by kernel_rfl) (fun _ _ _ h => h) (Or.inl ⟨by rfl, ?_⟩) hHeld ?_
        · intro w9 hSw
          try dsimp only at hSw
          go_simp
        try simp only [Act.put, List.setIfInBounds_toArray, List.set_cons_zero, List.set_cons_succ]
        refine wpAnyH_take (i := 6) (oi := { dst := some 91, op := Op.indexAddr 54 (.tmp 89) (.tmp 90), type := 0, pos := "law.go:105", after := #[{ on := 4, ground := Ground.data }, { on := 5, ground := Ground.data }], guard := none }) (v := (.pointer (some ⟨g2, ki * 15, none⟩))) rfl (by kernel_rfl) (by kernel_rfl) (by kernel_rfl) (fun _ _ _ h => h) (Or.inl ⟨by rfl, ?_⟩) hHeld ?_
        · intro w9 hSw
          try dsimp only at hSw
          go_simp
        try simp only [Act.put, List.setIfInBounds_toArray, List.set_cons_zero, List.set_cons_succ]
        refine wpAnyH_take (i := 10) (oi := { dst := some 95, op := Op.indexAddr 54 (.tmp 93) (.tmp 94), type := 0, pos := "law.go:105", after := #[{ on := 8, ground := Ground.data }, { on := 9, ground := Ground.data }], guard := none }) (v := (.pointer (some ⟨g2, ji * 15, none⟩))) rfl (by kernel_rfl) (by kernel_rfl) (by kernel_rfl) (fun _ _ _ h => h) (Or.inl ⟨by rfl, ?_⟩) hHeld ?_
        · intro w9 hSw
          try dsimp only at hSw
          go_simp
        try simp only [Act.put, List.setIfInBounds_toArray, List.set_cons_zero, List.set_cons_succ]
        generalize wr.drew = V9 at ow9 kw9 ⊢
        skip
        obtain ⟨g9, eg9, cA⟩ := ow9.at_ hq1
        cases eg9
        obtain ⟨g9, eg9, cB⟩ := ow9.at_ hq2
        cases eg9
        obtain ⟨g9, cur, eg9, Bc, lc9, ow1⟩ := ow9.put (i := ji) (by simp only [List.length_map]; omega) (mkL data b off dc x1)
        cases eg9
        refine wpAnyH_ready (rs := [7, 11]) (by kernel_rfl) (by simp) ?_
        refine (AllReadyH.cons (o := fga50o17) rfl (fun K hK => ?A) (AllReadyH.cons (o := fga50o16) rfl (fun K hK => ?B) AllReadyH.nil))
        case' A =>
          refine step_load_at rfl _ _ rfl g2 (ki * 15) (by rfl) _ cA Try.underlying42 (by kernel_rfl) ?_
          refine hK.out _ _ trivial (fun hHeld => ?_)
          clear hK K
          try simp only [Act.put, List.setIfInBounds_toArray, List.set_cons_zero, List.set_cons_succ]
          refine wpAnyH_ready (rs := [11]) (by kernel_rfl) (by simp) ?_
          refine (AllReadyH.cons (o := fga50o16) rfl (fun K hK => ?C) AllReadyH.nil)
          refine step_load_at rfl _ _ rfl g2 (ji * 15) (by rfl) _ cB Try.underlying42 (by kernel_rfl) ?_
          refine hK.out _ _ trivial (fun hHeld => ?_)
          clear hK K
          try simp only [Act.put, List.setIfInBounds_toArray, List.set_cons_zero, List.set_cons_succ]
        case' B =>
          refine step_load_at rfl _ _ rfl g2 (ji * 15) (by rfl) _ cB Try.underlying42 (by kernel_rfl) ?_
          refine hK.out _ _ trivial (fun hHeld => ?_)
          clear hK K
          try simp only [Act.put, List.setIfInBounds_toArray, List.set_cons_zero, List.set_cons_succ]
          refine wpAnyH_ready (rs := [7]) (by kernel_rfl) (by simp) ?_
          refine (AllReadyH.cons (o := fga50o17) rfl (fun K hK => ?E) AllReadyH.nil)
          refine step_load_at rfl _ _ rfl g2 (ki * 15) (by rfl) _ cA Try.underlying42 (by kernel_rfl) ?_
          refine hK.out _ _ trivial (fun hHeld => ?_)
          clear hK K
          try simp only [Act.put, List.setIfInBounds_toArray, List.set_cons_zero, List.set_cons_succ]
        all_goals (
          refine wpAnyH_take (i := 12) (oi := { dst := some 97, op := Op.indexAddr 54 (.tmp 85) (.tmp 86), type := 0, pos := "law.go:105", after := #[{ on := 0, ground := Ground.data }, { on := 1, ground := Ground.data }, { on := 0, ground := Ground.phase }, { on := 1, ground := Ground.phase }, { on := 2, ground := Ground.textOnly Departure.lateStores }, { on := 3, ground := Ground.textOnly Departure.lateStores }, { on := 4, ground := Ground.phase }, { on := 5, ground := Ground.phase }, { on := 6, ground := Ground.phase }, { on := 7, ground := Ground.phase }, { on := 8, ground := Ground.textOnly Departure.lateStores }, { on := 9, ground := Ground.textOnly Departure.lateStores }, { on := 10, ground := Ground.textOnly Departure.lateStoresUnsure }, { on := 11, ground := Ground.phase }], guard := none }) (v := (.pointer (some ⟨g2, ji * 15, none⟩))) rfl (by kernel_rfl) (by kernel_rfl) (by kernel_rfl) (fun _ _ _ h => h) (Or.inl ⟨by rfl, ?_⟩) hHeld ?_
          · intro w9 hSw
            try dsimp only at hSw
            go_simp
          try simp only [Act.put, List.setIfInBounds_toArray, List.set_cons_zero, List.set_cons_succ]
          refine wpAnyH_ready (rs := [13]) (by kernel_rfl) (by simp) ?_
          refine AllReadyH.cons (o := { dst := none, op := Op.store 42 (.tmp 97) (.tmp 92), type := 0, pos := "law.go:105", after := #[{ on := 12, ground := Ground.data }, { on := 7, ground := Ground.data }, { on := 0, ground := Ground.phase }, { on := 1, ground := Ground.phase }, { on := 2, ground := Ground.textOnly Departure.lateStores }, { on := 3, ground := Ground.textOnly Departure.lateStores }, { on := 4, ground := Ground.phase }, { on := 5, ground := Ground.phase }, { on := 6, ground := Ground.phase }, { on := 7, ground := Ground.phase }, { on := 8, ground := Ground.textOnly Departure.lateStores }, { on := 9, ground := Ground.textOnly Departure.lateStores }, { on := 10, ground := Ground.textOnly Departure.lateStoresUnsure }, { on := 11, ground := Ground.phase }], guard := none }) rfl (fun K hK => ?_) AllReadyH.nil
          refine step_store_off rfl _ _ _ rfl g2 (ji * 15) 42 (mkL data b off dc x1).v cur _ (by rfl) (by rfl) Bc (by kernel_rfl) lc9 (by kernel_rfl) rfl ?_
          refine hK.out _ _ trivial (fun hHeld => ?_)
          clear hK K
          try simp only [Act.put, List.setIfInBounds_toArray, List.set_cons_zero, List.set_cons_succ]
          obtain ⟨V8, hV8⟩ : ∃ V, V9.setRow g2 (setMany cur (ji * 15) (mkL data b off dc x1).v.toList) = V := ⟨_, rfl⟩
          have e8 : But (fun k => k = g2) V9 V8 := by rw [← hV8]; exact (But.refl (fun k => k = g2) V9).setRow g2 (.inl rfl) _
          rw [hV8] at ow1 ⊢
          have HV8 : Hid _ := hV8
          clear hV8
          obtain ⟨g9, cur2, eg9, Bc2, lc2, ow2⟩ := ow1.put (i := ki) (by simp only [List.length_set, List.length_map]; omega) (mkL data b off dc x2)
          cases eg9
          refine wpAnyH_take (i := 14) (oi := { dst := some 98, op := Op.indexAddr 54 (.tmp 87) (.tmp 88), type := 0, pos := "law.go:105", after := #[{ on := 2, ground := Ground.data }, { on := 3, ground := Ground.data }, { on := 0, ground := Ground.phase }, { on := 1, ground := Ground.phase }, { on := 2, ground := Ground.phase }, { on := 3, ground := Ground.phase }, { on := 4, ground := Ground.phase }, { on := 5, ground := Ground.phase }, { on := 6, ground := Ground.phase }, { on := 7, ground := Ground.phase }, { on := 8, ground := Ground.phase }, { on := 9, ground := Ground.phase }, { on := 10, ground := Ground.phase }, { on := 11, ground := Ground.phase }, { on := 12, ground := Ground.phase }, { on := 13, ground := Ground.phase }], guard := none }) (v := (.pointer (some ⟨g2, ki * 15, none⟩))) rfl (by kernel_rfl) (by kernel_rfl) (by kernel_rfl) (fun _ _ _ h => h) (Or.inl ⟨by rfl, ?_⟩) hHeld ?_
          · intro w9 hSw
            try dsimp only at hSw
            go_simp
          try simp only [Act.put, List.setIfInBounds_toArray, List.set_cons_zero, List.set_cons_succ]
          refine wpAnyH_ready (rs := [15]) (by kernel_rfl) (by simp) ?_
          refine AllReadyH.cons (o := { dst := none, op := Op.store 42 (.tmp 98) (.tmp 96), type := 0, pos := "law.go:105", after := #[{ on := 14, ground := Ground.data }, { on := 11, ground := Ground.data }, { on := 13, ground := Ground.chain }, { on := 0, ground := Ground.phase }, { on := 1, ground := Ground.phase }, { on := 2, ground := Ground.phase }, { on := 3, ground := Ground.phase }, { on := 4, ground := Ground.phase }, { on := 5, ground := Ground.phase }, { on := 6, ground := Ground.phase }, { on := 7, ground := Ground.phase }, { on := 8, ground := Ground.phase }, { on := 9, ground := Ground.phase }, { on := 10, ground := Ground.phase }, { on := 11, ground := Ground.phase }, { on := 12, ground := Ground.phase }, { on := 13, ground := Ground.phase }], guard := none }) rfl (fun K hK => ?_) AllReadyH.nil
          refine step_store_off rfl _ _ _ rfl g2 (ki * 15) 42 (mkL data b off dc x2).v cur2 _ (by rfl) (by rfl) Bc2 (by kernel_rfl) lc2 (by kernel_rfl) rfl ?_
          refine hK.out _ _ trivial (fun hHeld => ?_)
          clear hK K
          try simp only [Act.put, List.setIfInBounds_toArray, List.set_cons_zero, List.set_cons_succ]
          refine wpAnyH_done (by kernel_rfl) ?_ _
          refine NoPanic.normal ?_
          have k8 : Below W1.heap.size W1 (V8.setRow g2 (setMany cur2 (ki * 15) (mkL data b off dc x2).v.toList)) := (kw9.trans (e8.to_below kw9.size (fun kk hk hF => by omega))).trans (((But.refl (fun k => k = g2) V8).setRow g2 (.inl rfl) _).to_below (Nat.le_trans kw9.size e8.size) (fun kk hk hF => by omega))
          generalize V8.setRow g2 _ = V7 at ow2 k8 ⊢
          go_wp2
          have hl9 := Hl2.out
          refine ⟨⟨jj + 1, (M.set ji x1).set ki x2, by omega, int_eq (by omega), (swap_perm hx1 hx2).trans hperm.out, by rw [List.length_set, List.length_set]; exact hMl.out, ?_, k8⟩, by simp [intOf] <;> omega⟩
          rw [List.map_set, List.map_set]
          exact ow2
        )
      · have i5 : ¬ (↑jj : Int) < ↑ord.length := by omega
        go_wp2
        go_ret
        have e9 := hMl.out
        refine ⟨_, c2, M, ?_, hperm.out, how.out, fun x hx => ?_, HB1.out.trans (hbw.out.mono HB1.out.size)⟩
        · first | (rw [e9]; done) | (rw [e9]; rfl)
        · cases hx
          exact Nat.le_trans HB1.out.size hg2
theorem pieces_spec : PiecesSpec := fun data cuts ord b off dc ca cc oa oc w h0 h1 h2 h3 h4 h5 => pieces_any data cuts ord b off dc ca cc oa oc w h0 h1 h2 h3 h4 h5
end Go.Proofs.Ytebdpiedgjdjeaa
