/- Texts joined: CmC CmI CmJ -/
import Derived.Test.YtcoldgpnkdallaaDoorRxa18
namespace Go.Proofs.YtcoldgpnkdallaaDoor
open Go.RowKit
set_option linter.unusedVariables false
set_option linter.unusedSimpArgs false
set_option maxRecDepth 100000 in
set_option maxHeartbeats 8000000 in
theorem less_ck (p q : Pt) (w : World) : Calls Tryd.prog 65 #[.agg p.v, .agg q.v] w fun e w' => e = .returned (.bool (p.less q)) ∧ Below w.heap.size w w' := by
  obtain ⟨a, b, c⟩ := p
  obtain ⟨a', b', c'⟩ := q
  obtain ⟨W1, hW1⟩ : ∃ W1, w.alloc (.cells (Pt.v ⟨a, b, c⟩) 91) = W1 := ⟨_, rfl⟩
  obtain ⟨W2, hW2⟩ : ∃ W2, W1.alloc (.cells (Pt.v ⟨a', b', c'⟩) 91) = W2 := ⟨_, rfl⟩
  have b2 := bel_al (bel_nw hW1) hW2
  have B1 := (blk_nw hW1).al hW2
  have B2 := blk_nw hW2
  have p0 := B1.cell 0 (.int .u64 a) rfl
  have p1 := B1.cell 1 (.int .u64 b) rfl
  have p2 := B1.cell 2 (.int .u64 c) rfl
  have q0 := B2.cell 0 (.int .u64 a') rfl
  have q1 := B2.cell 1 (.int .u64 b') rfl
  have q2 := B2.cell 2 (.int .u64 c') rfl
  clear B1 B2
  obtain ⟨R, hR⟩ : ∃ R, (⟨a, b, c⟩ : Pt).less ⟨a', b', c'⟩ = R := ⟨_, rfl⟩
  rw [hR]
  have HR : Hid ((⟨a, b, c⟩ : Pt).less ⟨a', b', c'⟩ = R) := hR
  clear hR
  rcases Int.lt_trichotomy a a' with h | h | h
  · have eR : R = true := by rw [← HR.out]; simp [Pt.less, h]
    subst eR
    go_enter Tryd.func65, Tryd.ntmps65
    go_wp2
    go_ret
    exact ⟨rfl, b2⟩
  · subst h
    have h0 : ¬ a < a := by omega
    rcases Int.lt_trichotomy b b' with h | h | h
    · have eR : R = true := by rw [← HR.out]; simp [Pt.less, h]
      subst eR
      go_enter Tryd.func65, Tryd.ntmps65
      go_wp2
      go_ret
      exact ⟨rfl, b2⟩
    · subst h
      have h1 : ¬ b < b := by omega
      by_cases h : c < c'
      · have eR : R = true := by rw [← HR.out]; simp [Pt.less, h]
        subst eR
        go_enter Tryd.func65, Tryd.ntmps65
        go_wp2
        go_ret
        exact ⟨rfl, b2⟩
      · have eR : R = false := by rw [← HR.out]; simp [Pt.less]; omega
        subst eR
        go_enter Tryd.func65, Tryd.ntmps65
        go_wp2
        go_ret
        exact ⟨rfl, b2⟩
    · have h1 : ¬ b < b' := by omega
      have h2 : (b == b') = false := by rw [beq_eq_false_iff_ne]; omega
      have eR : R = false := by rw [← HR.out]; simp [Pt.less, h2]; omega
      subst eR
      go_enter Tryd.func65, Tryd.ntmps65
      go_wp2
      go_ret
      exact ⟨rfl, b2⟩
  · have h1 : ¬ a < a' := by omega
    have h2 : (a == a') = false := by rw [beq_eq_false_iff_ne]; omega
    have eR : R = false := by rw [← HR.out]; simp [Pt.less, h2]; omega
    subst eR
    go_enter Tryd.func65, Tryd.ntmps65
    go_wp2
    go_ret
    exact ⟨rfl, b2⟩
set_option maxRecDepth 100000 in
set_option maxHeartbeats 4000000 in
theorem rrising_any (a : Option Addr) (c : Nat) (l : List Int) (w : World) (h : RowI w a l) :
    Calls Tryd.prog 82 #[.slice a l.length c] w fun e w' => Tells e (RiseI l) ∧ Below w.heap.size w w' := by
  have hs := h.small
  obtain ⟨N, hN⟩ : ∃ N, l.length = N := ⟨_, rfl⟩
  have HN : Hid (l.length = N) := hN
  have HR : Hid (RowI w a l) := h
  rw [hN] at hs ⊢
  clear h hN
  go_enter Tryd.func82, Tryd.ntmps82
  go_wp2_with fail
  go_loopw [3] (fun i wr => ∃ (k m : Nat), k ≤ N ∧ i = .int .i64 k ∧ wr = w.drewN m ∧ Hid (∀ (j : Nat) (x : Int), j < k → l[j]? = some x → 0 ≤ x ∧ ∀ y, 0 < j → l[j - 1]? = some y → y < x)) (fun i _ => N - (intOf i).toNat)
  case atStart => exact ⟨0, 0, Nat.zero_le _, rfl, rfl, fun j p hj => by omega⟩
  case round =>
    obtain ⟨k, m, hk, rfl, rfl, qe⟩ := hrel
    by_cases hlt : k < N
    · have ik : (k : Int) < (N : Int) := by omega
      obtain ⟨x, hx⟩ : ∃ x, l[k]? = some x := ⟨_, List.getElem?_eq_getElem (by rw [HN.out]; exact hlt)⟩
      have HX : Hid (l[k]? = some x) := hx
      obtain ⟨b, off, ha, hcs⟩ := (HR.out.drewN m).cells (by rw [HN.out]; omega)
      have q0 := hcs k (by rw [HN.out]; omega)
      rw [show l.getD k 0 = x by simp [hx]] at q0
      have hw2 : IntKind.i64.wrap ((k : Int) + 1) = ((k + 1 : Nat) : Int) := by simp [IntKind.wrap, IntKind.bits, IntKind.signed]; omega
      obtain ⟨WW, hWW⟩ : ∃ WW, w.drewN m = WW := ⟨_, rfl⟩
      have HWW : Hid (w.drewN m = WW) := hWW
      subst ha
      by_cases h0 : x < 0
      · have HF : Hid (¬ RiseI l) := fun hh => by
          have : 0 ≤ x := by
            rcases Nat.eq_zero_or_pos k with e | e
            · subst e; exact hh.1 x HX.out
            · obtain ⟨y0, hy0⟩ : ∃ y, l[0]? = some y := ⟨_, List.getElem?_eq_getElem (by rw [HN.out]; omega)⟩
              have h1 := hh.1 y0 hy0
              have h2 : ∀ (j : Nat) (z : Int), l[j]? = some z → 0 ≤ z := by
                intro j
                induction j with
                | zero => intro z hz; rw [hy0] at hz; cases hz; exact h1
                | succ j ih =>
                  intro z hz
                  obtain ⟨u, hu⟩ : ∃ u, l[j]? = some u := ⟨_, List.getElem?_eq_getElem (by have := (List.getElem?_eq_some_iff.1 hz).1; omega)⟩
                  have := ih u hu
                  have := hh.2 j u z hu hz
                  omega
              exact h2 k x HX.out
          omega
        rw [hWW] at q0 ⊢
        clear hcs hx qe hWW
        go_wp2
        go_quiet (fail)
        have b2 : Below w.heap.size w (WW.drewN nq) := by rw [← HWW.out]; exact below_drewN (below_drewN (Below.refl _ _) m) nq
        go_wp2
        go_ret
        exact ⟨Tells.no HF.out, b2⟩
      · rcases Nat.eq_zero_or_pos k with e | e
        · have qe' : Hid (∀ (j : Nat) (z : Int), j < k + 1 → l[j]? = some z → 0 ≤ z ∧ ∀ y, 0 < j → l[j - 1]? = some y → y < z) := fun j z hj hz => by
            have hj0 : j = k := by omega
            subst hj0
            rw [HX.out] at hz
            cases hz
            exact ⟨by omega, fun y hy => by omega⟩
          have hk0' : decide ((0 : Int) < (k : Int)) = false := by rw [decide_eq_false_iff_not]; omega
          have hk1' : decide (0 < k) = false := by rw [decide_eq_false_iff_not]; omega
          have hx0' : decide (x < 0) = false := by rw [decide_eq_false_iff_not]; omega
          have HE : Hid (k = 0) := e
          rw [hWW] at q0 ⊢
          clear hcs hx qe hWW e
          go_wp2
          refine wp_region_noPanic ?_
          refine wp_region_held_drew (S := fun w'' => w''.cell? ⟨b, off + k, none⟩ = some (.int .i64 x)) (by kernel_rfl) (by exact kept (below_drew WW) q0) (fun hHeld => ?_)
          refine wpAnyH_take (i := 0) (oi := { dst := some 10, op := Op.move (.tmp 0), type := 25, pos := "ref.go:166", after := #[], guard := none }) (v := (.slice (some ⟨b, off, none⟩) N c)) rfl (by kernel_rfl) (by kernel_rfl) (by kernel_rfl) (fun _ _ _ h => h) (Or.inl ⟨by rfl, ?_⟩) hHeld ?_
          · intro w9 hSw
            try dsimp only at hSw
            go_simp
          try simp only [Act.put, List.setIfInBounds_toArray, List.set_cons_zero, List.set_cons_succ]
          refine wpAnyH_take (i := 1) (oi := { dst := some 11, op := Op.move (.tmp 3), type := 3, pos := "ref.go:166", after := #[], guard := none }) (v := (.int .i64 (k : Int))) rfl (by kernel_rfl) (by kernel_rfl) (by kernel_rfl) (fun _ _ _ h => h) (Or.inl ⟨by rfl, ?_⟩) hHeld ?_
          · intro w9 hSw
            try dsimp only at hSw
            go_simp
          try simp only [Act.put, List.setIfInBounds_toArray, List.set_cons_zero, List.set_cons_succ]
          refine wpAnyH_take (i := 2) (oi := { dst := some 12, op := Op.indexAddr 25 (.tmp 10) (.tmp 11), type := 0, pos := "ref.go:166", after := #[{ on := 0, ground := Ground.data }, { on := 1, ground := Ground.data }], guard := none }) (v := (.pointer (some ⟨b, off + k, none⟩))) rfl (by kernel_rfl) (by kernel_rfl) (by kernel_rfl) (fun _ _ _ h => h) (Or.inl ⟨by rfl, ?_⟩) hHeld ?_
          · intro w9 hSw
            try dsimp only at hSw
            go_simp
          try simp only [Act.put, List.setIfInBounds_toArray, List.set_cons_zero, List.set_cons_succ]
          refine wpAnyH_take (i := 3) (oi := { dst := some 13, op := Op.load 3 (.tmp 12), type := 3, pos := "ref.go:166", after := #[{ on := 2, ground := Ground.data }], guard := none }) (v := (.int .i64 x)) rfl (by kernel_rfl) (by kernel_rfl) (by kernel_rfl) (fun _ _ _ h => h) (Or.inl ⟨by rfl, ?_⟩) hHeld ?_
          · intro w9 hSw
            try dsimp only at hSw
            go_simp
          try simp only [Act.put, List.setIfInBounds_toArray, List.set_cons_zero, List.set_cons_succ]
          refine wpAnyH_take (i := 4) (oi := { dst := some 14, op := Op.binOp BinOp.lss 3 (.tmp 13) (.const (.int .i64 0)) 3, type := 4, pos := "ref.go:166", after := #[{ on := 3, ground := Ground.data }], guard := none }) (v := (.bool false)) rfl (by kernel_rfl) (by kernel_rfl) (by kernel_rfl) (fun _ _ _ h => h) (Or.inl ⟨by rfl, ?_⟩) hHeld ?_
          · intro w9 hSw
            try dsimp only at hSw
            go_simp
          try simp only [Act.put, List.setIfInBounds_toArray, List.set_cons_zero, List.set_cons_succ]
          refine wpAnyH_take (i := 5) (oi := { dst := some 15, op := Op.move (.tmp 14), type := 4, pos := "ref.go:166", after := #[{ on := 4, ground := Ground.data }], guard := none }) (v := (.bool false)) rfl (by kernel_rfl) (by kernel_rfl) (by kernel_rfl) (fun _ _ _ h => h) (Or.inl ⟨by rfl, ?_⟩) hHeld ?_
          · intro w9 hSw
            try dsimp only at hSw
            go_simp
          try simp only [Act.put, List.setIfInBounds_toArray, List.set_cons_zero, List.set_cons_succ]
          refine wpAnyH_take (i := 6) (oi := { dst := some 16, op := Op.move (.tmp 3), type := 3, pos := "ref.go:166", after := #[{ on := 5, ground := Ground.guard }], guard := some (5, false) }) (v := (.int .i64 (k : Int))) rfl (by kernel_rfl) (by kernel_rfl) (by kernel_rfl) (fun _ _ _ h => h) (Or.inl ⟨by rfl, ?_⟩) hHeld ?_
          · intro w9 hSw
            try dsimp only at hSw
            go_simp
          try simp only [Act.put, List.setIfInBounds_toArray, List.set_cons_zero, List.set_cons_succ]
          refine wpAnyH_take (i := 7) (oi := { dst := some 17, op := Op.binOp BinOp.gtr 3 (.tmp 16) (.const (.int .i64 0)) 3, type := 4, pos := "ref.go:166", after := #[{ on := 6, ground := Ground.data }, { on := 5, ground := Ground.guard }], guard := some (5, false) }) (v := (.bool false)) rfl (by kernel_rfl) (by kernel_rfl) (by kernel_rfl) (fun _ _ _ h => h) (Or.inl ⟨by rfl, ?_⟩) hHeld ?_
          · intro w9 hSw
            try dsimp only at hSw
            go_simp
          try simp only [Act.put, List.setIfInBounds_toArray, List.set_cons_zero, List.set_cons_succ]
          refine wpAnyH_take (i := 8) (oi := { dst := some 18, op := Op.move (.tmp 17), type := 4, pos := "ref.go:166", after := #[{ on := 7, ground := Ground.data }, { on := 5, ground := Ground.chain }, { on := 5, ground := Ground.guard }], guard := some (5, false) }) (v := (.bool false)) rfl (by kernel_rfl) (by kernel_rfl) (by kernel_rfl) (fun _ _ _ h => h) (Or.inl ⟨by rfl, ?_⟩) hHeld ?_
          · intro w9 hSw
            try dsimp only at hSw
            go_simp
          try simp only [Act.put, List.setIfInBounds_toArray, List.set_cons_zero, List.set_cons_succ]
          refine wpAnyH_take (i := 9) (oi := { dst := some 19, op := Op.move (.tmp 0), type := 25, pos := "ref.go:166", after := #[{ on := 8, ground := Ground.guard }], guard := some (8, true) }) (v := undef) rfl (by kernel_rfl) (by kernel_rfl) (by kernel_rfl) (fun _ _ _ h => h) (Or.inr ⟨by rfl, rfl⟩) hHeld ?_
          try simp only [Act.put, List.setIfInBounds_toArray, List.set_cons_zero, List.set_cons_succ]
          refine wpAnyH_take (i := 10) (oi := { dst := some 20, op := Op.move (.tmp 3), type := 3, pos := "ref.go:166", after := #[{ on := 8, ground := Ground.guard }], guard := some (8, true) }) (v := undef) rfl (by kernel_rfl) (by kernel_rfl) (by kernel_rfl) (fun _ _ _ h => h) (Or.inr ⟨by rfl, rfl⟩) hHeld ?_
          try simp only [Act.put, List.setIfInBounds_toArray, List.set_cons_zero, List.set_cons_succ]
          refine wpAnyH_take (i := 11) (oi := { dst := some 21, op := Op.indexAddr 25 (.tmp 19) (.tmp 20), type := 0, pos := "ref.go:166", after := #[{ on := 9, ground := Ground.data }, { on := 10, ground := Ground.data }, { on := 8, ground := Ground.guard }], guard := some (8, true) }) (v := undef) rfl (by kernel_rfl) (by kernel_rfl) (by kernel_rfl) (fun _ _ _ h => h) (Or.inr ⟨by rfl, rfl⟩) hHeld ?_
          try simp only [Act.put, List.setIfInBounds_toArray, List.set_cons_zero, List.set_cons_succ]
          refine wpAnyH_take (i := 12) (oi := { dst := some 22, op := Op.load 3 (.tmp 21), type := 3, pos := "ref.go:166", after := #[{ on := 11, ground := Ground.data }, { on := 8, ground := Ground.guard }], guard := some (8, true) }) (v := undef) rfl (by kernel_rfl) (by kernel_rfl) (by kernel_rfl) (fun _ _ _ h => h) (Or.inr ⟨by rfl, rfl⟩) hHeld ?_
          try simp only [Act.put, List.setIfInBounds_toArray, List.set_cons_zero, List.set_cons_succ]
          refine wpAnyH_take (i := 13) (oi := { dst := some 23, op := Op.move (.tmp 0), type := 25, pos := "ref.go:166", after := #[{ on := 8, ground := Ground.guard }], guard := some (8, true) }) (v := undef) rfl (by kernel_rfl) (by kernel_rfl) (by kernel_rfl) (fun _ _ _ h => h) (Or.inr ⟨by rfl, rfl⟩) hHeld ?_
          try simp only [Act.put, List.setIfInBounds_toArray, List.set_cons_zero, List.set_cons_succ]
          refine wpAnyH_take (i := 14) (oi := { dst := some 24, op := Op.move (.tmp 3), type := 3, pos := "ref.go:166", after := #[{ on := 8, ground := Ground.guard }], guard := some (8, true) }) (v := undef) rfl (by kernel_rfl) (by kernel_rfl) (by kernel_rfl) (fun _ _ _ h => h) (Or.inr ⟨by rfl, rfl⟩) hHeld ?_
          try simp only [Act.put, List.setIfInBounds_toArray, List.set_cons_zero, List.set_cons_succ]
          refine wpAnyH_take (i := 15) (oi := { dst := some 25, op := Op.binOp BinOp.sub 3 (.tmp 24) (.const (.int .i64 1)) 3, type := 3, pos := "ref.go:166", after := #[{ on := 14, ground := Ground.data }, { on := 8, ground := Ground.guard }], guard := some (8, true) }) (v := undef) rfl (by kernel_rfl) (by kernel_rfl) (by kernel_rfl) (fun _ _ _ h => h) (Or.inr ⟨by rfl, rfl⟩) hHeld ?_
          try simp only [Act.put, List.setIfInBounds_toArray, List.set_cons_zero, List.set_cons_succ]
          refine wpAnyH_take (i := 16) (oi := { dst := some 26, op := Op.indexAddr 25 (.tmp 23) (.tmp 25), type := 0, pos := "ref.go:166", after := #[{ on := 13, ground := Ground.data }, { on := 15, ground := Ground.data }, { on := 8, ground := Ground.guard }], guard := some (8, true) }) (v := undef) rfl (by kernel_rfl) (by kernel_rfl) (by kernel_rfl) (fun _ _ _ h => h) (Or.inr ⟨by rfl, rfl⟩) hHeld ?_
          try simp only [Act.put, List.setIfInBounds_toArray, List.set_cons_zero, List.set_cons_succ]
          refine wpAnyH_take (i := 17) (oi := { dst := some 27, op := Op.load 3 (.tmp 26), type := 3, pos := "ref.go:166", after := #[{ on := 16, ground := Ground.data }, { on := 8, ground := Ground.guard }], guard := some (8, true) }) (v := undef) rfl (by kernel_rfl) (by kernel_rfl) (by kernel_rfl) (fun _ _ _ h => h) (Or.inr ⟨by rfl, rfl⟩) hHeld ?_
          try simp only [Act.put, List.setIfInBounds_toArray, List.set_cons_zero, List.set_cons_succ]
          refine wpAnyH_take (i := 18) (oi := { dst := some 28, op := Op.binOp BinOp.leq 3 (.tmp 22) (.tmp 27) 3, type := 4, pos := "ref.go:166", after := #[{ on := 12, ground := Ground.data }, { on := 17, ground := Ground.data }, { on := 8, ground := Ground.guard }], guard := some (8, true) }) (v := undef) rfl (by kernel_rfl) (by kernel_rfl) (by kernel_rfl) (fun _ _ _ h => h) (Or.inr ⟨by rfl, rfl⟩) hHeld ?_
          try simp only [Act.put, List.setIfInBounds_toArray, List.set_cons_zero, List.set_cons_succ]
          refine wpAnyH_take (i := 19) (oi := { dst := some 29, op := Op.pick (.tmp 18) (.tmp 28) (.const (.bool false)), type := 4, pos := "ref.go:166", after := #[{ on := 8, ground := Ground.data }, { on := 18, ground := Ground.data }, { on := 5, ground := Ground.guard }], guard := some (5, false) }) (v := (.bool false)) rfl (by kernel_rfl) (by kernel_rfl) (by kernel_rfl) (fun _ _ _ h => h) (Or.inl ⟨by rfl, ?_⟩) hHeld ?_
          · intro w9 hSw
            try dsimp only at hSw
            go_simp
          try simp only [Act.put, List.setIfInBounds_toArray, List.set_cons_zero, List.set_cons_succ]
          refine wpAnyH_take (i := 20) (oi := { dst := some 30, op := Op.pick (.tmp 15) (.const (.bool true)) (.tmp 29), type := 4, pos := "ref.go:166", after := #[{ on := 5, ground := Ground.data }, { on := 19, ground := Ground.data }], guard := none }) (v := (.bool false)) rfl (by kernel_rfl) (by kernel_rfl) (by kernel_rfl) (fun _ _ _ h => h) (Or.inl ⟨by rfl, ?_⟩) hHeld ?_
          · intro w9 hSw
            try dsimp only at hSw
            go_simp
          try simp only [Act.put, List.setIfInBounds_toArray, List.set_cons_zero, List.set_cons_succ]
          refine wpAnyH_done (by kernel_rfl) ?_ _
          refine NoPanic.normal ?_
          have HD : Hid (WW.drew = w.drewN (m + 1)) := by show _ = _; rw [← HWW.out]; exact drewN_add w m 1
          go_wp2
          exact ⟨⟨k + 1, m + 1, by omega, by first | rfl | (congr 1), HD.out, qe'⟩, by simp only [intOf]; omega⟩
        · obtain ⟨y, hy⟩ : ∃ y, l[k - 1]? = some y := ⟨_, List.getElem?_eq_getElem (by rw [HN.out]; omega)⟩
          have HY : Hid (l[k - 1]? = some y) := hy
          have q1 := hcs (k - 1) (by rw [HN.out]; omega)
          rw [show l.getD (k - 1) 0 = y by simp [hy]] at q1
          have hw1 : IntKind.i64.wrap ((k : Int) - 1) = ((k - 1 : Nat) : Int) := by simp [IntKind.wrap, IntKind.bits, IntKind.signed]; omega
          have hk0 : (0 : Int) < (k : Int) := by omega
          have hk2 : k - 1 < N := by omega
          rw [hWW] at q0 q1 ⊢
          clear hcs hx hy hWW
          by_cases hxy : x ≤ y
          · have HF : Hid (¬ RiseI l) := fun hh => by
              have := hh.2 (k - 1) y x HY.out (by rw [show k - 1 + 1 = k by omega]; exact HX.out)
              omega
            clear qe
            go_wp2
            go_quiet (fail)
            have b2 : Below w.heap.size w (WW.drewN nq) := by rw [← HWW.out]; exact below_drewN (below_drewN (Below.refl _ _) m) nq
            go_wp2
            go_ret
            exact ⟨Tells.no HF.out, b2⟩
          · have qe' : Hid (∀ (j : Nat) (z : Int), j < k + 1 → l[j]? = some z → 0 ≤ z ∧ ∀ u, 0 < j → l[j - 1]? = some u → u < z) := fun j z hj hz => by
              by_cases e2 : j = k
              · subst e2
                rw [HX.out] at hz
                cases hz
                refine ⟨by omega, fun u hu hu' => ?_⟩
                rw [HY.out] at hu'
                cases hu'
                omega
              · exact qe.out j z (by omega) hz
            clear qe
            go_wp2
            go_quiet (fail)
            have HD : Hid (WW.drewN nq = w.drewN (m + nq)) := by show _ = _; rw [← HWW.out]; exact drewN_add w m nq
            go_wp2
            exact ⟨⟨k + 1, m + nq, by omega, by first | rfl | (congr 1), HD.out, qe'⟩, by simp only [intOf]; omega⟩
    · have ik : ¬ (k : Int) < (N : Int) := by omega
      have HT : Hid (RiseI l) := ⟨fun x hx => (qe.out 0 x (by have := (List.getElem?_eq_some_iff.1 hx).1; have := HN.out; omega) hx).1, fun i x y hx hy => by
        have h1 := (List.getElem?_eq_some_iff.1 hy).1
        have h2 := HN.out
        exact (qe.out (i + 1) y (by omega) hy).2 x (by omega) (by rw [show i + 1 - 1 = i by omega]; exact hx)⟩
      clear qe
      go_wp2
      go_ret
      exact ⟨Tells.yes HT.out, below_drewN (Below.refl _ _) m⟩
set_option maxRecDepth 100000 in
set_option maxHeartbeats 4000000 in
theorem rsameSets_any (a a' : Option Addr) (c c' : Nat) (S S' : List (List Int)) (w : World) (h : RowS w a S) (h' : RowS w a' S') :
    Calls Tryd.prog 33 #[.slice a S.length c, .slice a' S'.length c'] w fun e w' => Tells e (S = S') ∧ Below w.heap.size w w' := by
  have KS : Hid (∀ (W : World) (a b : Option Addr) (c d : Nat) (x y : List Int), RowI W a x → RowI W b y → Calls Tryd.prog 20 #[.slice a x.length c, .slice b y.length d] W fun e w' => e = .returned (.bool (decide (x = y))) ∧ Below W.heap.size W w') := fun W a b c d x y h h' =>
    (sameI_any a b c d x y W h h').mono (by rintro e w' ⟨rfl, n, rfl⟩; exact ⟨rfl, below_drewN (Below.refl _ _) n⟩)
  have hs := h.small
  by_cases hl : S.length = S'.length
  · have HR : Hid (RowS w a S) := h
    have HR' : Hid (RowS w a' S') := h'
    have HL : Hid (S.length = S'.length) := hl
    rw [← hl]
    obtain ⟨N, hN⟩ : ∃ N, S.length = N := ⟨_, rfl⟩
    have HN : Hid (S.length = N) := hN
    rw [hN] at hs ⊢
    clear hN hl h h'
    go_enter Tryd.func33, Tryd.ntmps33
    go_wp2_with fail
    go_loopw [5] (fun i wr => ∃ (k : Nat), k ≤ N ∧ i = .int .i64 k ∧ Below w.heap.size w wr ∧ Hid (S.take k = S'.take k)) (fun i _ => N - (intOf i).toNat)
    case atStart => exact ⟨0, Nat.zero_le _, rfl, Below.refl _ _, by show S.take 0 = S'.take 0; simp⟩
    case round =>
      obtain ⟨k, hk, rfl, qb, qe⟩ := hrel
      by_cases hlt : k < N
      · have ik : (k : Int) < (N : Int) := by omega
        obtain ⟨s, hs1⟩ : ∃ s, S[k]? = some s := ⟨_, List.getElem?_eq_getElem (by rw [HN.out]; exact hlt)⟩
        obtain ⟨t, ht1⟩ : ∃ t, S'[k]? = some t := ⟨_, List.getElem?_eq_getElem (by rw [← HL.out, HN.out]; exact hlt)⟩
        obtain ⟨b, off, ai, ci, ha, x0, r0⟩ := ((HR.out.below qb).below (below_drew wr)).cells k s hs1
        obtain ⟨b', off', ai', ci', ha', y0, r1⟩ := ((HR'.out.below qb).below (below_drew wr)).cells k t ht1
        have KD : Hid _ := KS.out wr.drew ai ai' ci ci' s t r0 r1
        have hst : Hid ((S.take (k + 1) = S'.take (k + 1)) ↔ s = t) := by
          show _ ↔ _
          rw [List.take_add_one, List.take_add_one, qe.out, hs1, ht1]
          simp
        have HST : Hid (S[k]? = some s ∧ S'[k]? = some t) := ⟨hs1, ht1⟩
        subst ha
        subst ha'
        have hw2 : IntKind.i64.wrap ((k : Int) + 1) = ((k + 1 : Nat) : Int) := by simp [IntKind.wrap, IntKind.bits, IntKind.signed]; omega
        have HD : Hid (Below w.heap.size w wr.drew) := qb.drew
        obtain ⟨n1, hn1⟩ : ∃ n, s.length = n := ⟨_, rfl⟩
        obtain ⟨n2, hn2⟩ : ∃ n, t.length = n := ⟨_, rfl⟩
        rw [hn1] at x0 KD
        rw [hn2] at y0 KD
        clear hs1 ht1 r0 r1 hn1 hn2 qe
        go_wp2
        go_region_held3 (fun w'' => w''.cell? ⟨b, off + k, none⟩ = some (.slice ai n1 ci) ∧ w''.cell? ⟨b', off' + k, none⟩ = some (.slice ai' n2 ci')) (first | exact ⟨x0, y0⟩ | exact ⟨kept bb x0, kept bb y0⟩ | go_keep) (first | (go_at_call 20; refine Calls.mono KD.out ?_; rintro e W2 ⟨rfl, bb⟩))
        have b2 := bel_tr HD.out bb
        clear x0 y0 bb KD
        by_cases hst' : s = t
        · have hd : decide (s = t) = true := by simp [hst']
          have qe' : Hid (S.take (k + 1) = S'.take (k + 1)) := hst.out.2 hst'
          rw [hd]
          clear hd
          go_wp2
          exact ⟨⟨k + 1, by omega, by first | rfl | (congr 1), b2, qe'⟩, by simp only [intOf]; omega⟩
        · have hd : decide (s = t) = false := by simp [hst']
          have HF : Hid (¬ S = S') := fun e => hst' (by
            have h1 := HST.out
            rw [e] at h1
            rw [h1.1] at h1
            exact Option.some.inj h1.2)
          rw [hd]
          clear hd
          go_wp2
          go_ret
          exact ⟨Tells.no HF.out, b2⟩
      · have ik : ¬ (k : Int) < (N : Int) := by omega
        have HT : Hid (S = S') := by
          show _ = _
          have h1 := qe.out
          rw [List.take_of_length_le (by rw [HN.out]; omega), List.take_of_length_le (by rw [← HL.out, HN.out]; omega)] at h1
          exact h1
        go_wp2
        go_ret
        exact ⟨Tells.yes HT.out, qb⟩
  · have hl' : ((S.length : Int) != (S'.length : Int)) = true := by simp; omega
    have HF : Hid (¬ S = S') := fun e => hl (by rw [e])
    clear h h' KS hl
    go_enter Tryd.func33, Tryd.ntmps33
    go_wp2
    go_ret
    exact ⟨Tells.no HF.out, Below.refl _ _⟩
theorem RowP.drewN {w : World} {a : Option Addr} {l : List Pt} (h : RowP w a l) (n : Nat) : RowP (w.drewN n) a l := h.low (below_drewN (Below.refl _ _) n)
set_option maxRecDepth 100000 in
set_option maxHeartbeats 8000000 in
theorem rsame_ck (a1 a2 a3 b1 b2 b3 : Option Addr) (c1 c2 c3 d1 d2 d3 : Nat) (L L' : List Pt) (K K' : List Int) (S S' : List (List Int)) (w : World) (hs : L.length ≤ 17592186044416) (h1 : RowP w a1 L) (h2 : RowI w a2 K) (h3 : RowS w a3 S) (g1 : RowP w b1 L') (g2 : RowI w b2 K') (g3 : RowS w b3 S') :
    Calls Tryd.prog 32 #[.agg #[.slice a1 L.length c1, .slice a2 K.length c2, .slice a3 S.length c3], .agg #[.slice b1 L'.length d1, .slice b2 K'.length d2, .slice b3 S'.length d3]] w fun e w' => Tells e (L = L' ∧ K = K' ∧ S = S') ∧ Below w.heap.size w w' := by
  obtain ⟨W1, hW1⟩ : ∃ W1, w.alloc (.cells #[.slice a1 L.length c1, .slice a2 K.length c2, .slice a3 S.length c3] 63) = W1 := ⟨_, rfl⟩
  obtain ⟨W2, hW2⟩ : ∃ W2, W1.alloc (.cells #[.slice b1 L'.length d1, .slice b2 K'.length d2, .slice b3 S'.length d3] 63) = W2 := ⟨_, rfl⟩
  have q2 := bel_al (bel_nw hW1) hW2
  have HB1 : Hid (Blk W2 w.heap.size 63 #[.slice a1 L.length c1, .slice a2 K.length c2, .slice a3 S.length c3]) := (blk_nw hW1).al hW2
  have HB2 : Hid (Blk W2 W1.heap.size 63 #[.slice b1 L'.length d1, .slice b2 K'.length d2, .slice b3 S'.length d3]) := blk_nw hW2
  have HL : Hid (∀ W, Below w.heap.size w W → RowP W a1 L ∧ RowP W b1 L') := fun W hb => ⟨h1.low hb, g1.low hb⟩
  have KI : Hid _ := sameI_any a2 b2 c2 d2 K K' W2 (h2.below q2) (g2.below q2)
  have KS : Hid (∀ W, Below w.heap.size w W → Calls Tryd.prog 33 #[.slice a3 S.length c3, .slice b3 S'.length d3] W fun e w' => Tells e (S = S') ∧ Below W.heap.size W w') := fun W hb => rsameSets_any a3 b3 c3 d3 S S' W (h3.below hb) (g3.below hb)
  obtain ⟨N, hN⟩ : ∃ N, L.length = N := ⟨_, rfl⟩
  obtain ⟨N', hN'⟩ : ∃ N, L'.length = N := ⟨_, rfl⟩
  have HN : Hid (L.length = N ∧ L'.length = N') := ⟨hN, hN'⟩
  rw [hN] at hs HB1 hW1 ⊢
  rw [hN'] at HB2 hW2 ⊢
  generalize K.length = M at *
  generalize K'.length = M' at *
  generalize S.length = Q at *
  generalize S'.length = Q' at *
  clear h1 h2 h3 g1 g2 g3 hN hN'
  have x0 := HB1.out.cell 0 (.slice a1 N c1) rfl
  have x1 := HB1.out.cell 1 (.slice a2 M c2) rfl
  have y0 := HB2.out.cell 0 (.slice b1 N' d1) rfl
  have y1 := HB2.out.cell 1 (.slice b2 M' d2) rfl
  by_cases hl : N = N'
  · subst hl
    go_enter Tryd.func32, Tryd.ntmps32
    go_wp2_with fail
    refine Calls.mono KI.out ?_
    rintro e W3 ⟨rfl, m, rfl⟩
    have q3 : Below w.heap.size w (W2.drewN m) := below_drewN q2 m
    have HB3 : Hid (Blk (W2.drewN m) w.heap.size 63 #[.slice a1 N c1, .slice a2 M c2, .slice a3 Q c3]) := HB1.out.kept (below_drewN (Below.refl _ _) m)
    have HB4 : Hid (Blk (W2.drewN m) W1.heap.size 63 #[.slice b1 N d1, .slice b2 M' d2, .slice b3 Q' d3]) := HB2.out.kept (below_drewN (Below.refl _ _) m)
    generalize W2.drewN m = W3 at *
    clear x0 x1 y0 y1 KI hW1 hW2 q2 HB1 HB2
    obtain ⟨T, hT⟩ : ∃ T, decide (K = K') = T := ⟨_, rfl⟩
    have HT : Hid (decide (K = K') = T) := hT
    rw [hT]
    clear hT
    have x0 := HB3.out.cell 0 (.slice a1 N c1) rfl
    have x2 := HB3.out.cell 2 (.slice a3 Q c3) rfl
    have y0 := HB4.out.cell 0 (.slice b1 N d1) rfl
    have y2 := HB4.out.cell 2 (.slice b3 Q' d3) rfl
    cases T
    · have HF : Hid (¬ (L = L' ∧ K = K' ∧ S = S')) := fun h => by have := HT.out; rw [decide_eq_false_iff_not] at this; exact this h.2.1
      go_wp2
      go_ret
      exact ⟨Tells.no HF.out, q3⟩
    · have HK : Hid (K = K') := (decide_eq_true_iff.1 HT.out : K = K')
      have KD : Hid _ := KS.out W3 q3
      go_wp2_with fail
      refine Calls.mono KD.out ?_
      rintro e W4 ⟨⟨r, rfl, hr⟩, bb⟩
      have HR : Hid (r = true ↔ S = S') := hr
      have q4 := bel_tr q3 bb
      have HB5 : Hid (Blk W4 w.heap.size 63 #[.slice a1 N c1, .slice a2 M c2, .slice a3 Q c3]) := HB3.out.kept bb
      have HB6 : Hid (Blk W4 W1.heap.size 63 #[.slice b1 N d1, .slice b2 M' d2, .slice b3 Q' d3]) := HB4.out.kept bb
      clear x0 x2 y0 y2 HB3 HB4 bb hr KD KS q3
      cases r
      · have HF : Hid (¬ (L = L' ∧ K = K' ∧ S = S')) := fun h => by have := HR.out.2 h.2.2; cases this
        go_wp2
        go_ret
        exact ⟨Tells.no HF.out, q4⟩
      · have HS : Hid (S = S') := HR.out.1 rfl
        have HLN : Hid (∀ m, Blk (W4.drewN m) w.heap.size 63 #[.slice a1 N c1, .slice a2 M c2, .slice a3 Q c3] ∧ Blk (W4.drewN m) W1.heap.size 63 #[.slice b1 N d1, .slice b2 M' d2, .slice b3 Q' d3] ∧ RowP (W4.drewN m) a1 L ∧ RowP (W4.drewN m) b1 L') := fun m => by
          have h := HL.out (W4.drewN m) (below_drewN q4 m)
          exact ⟨HB5.out.kept (below_drewN (Below.refl _ _) m), HB6.out.kept (below_drewN (Below.refl _ _) m), h.1, h.2⟩
        clear HB5 HB6 HL
        go_wp2_with fail
        go_loopw [5] (fun i wr => ∃ (k m : Nat), k ≤ N ∧ i = .int .i64 k ∧ wr = W4.drewN m ∧ Hid (L.take k = L'.take k)) (fun i _ => N - (intOf i).toNat)
        case atStart => exact ⟨0, 0, Nat.zero_le _, rfl, rfl, by show L.take 0 = L'.take 0; simp⟩
        case round =>
          obtain ⟨k, m, hk, rfl, rfl, qe⟩ := hrel
          obtain ⟨B5, B6, r1, r2⟩ := HLN.out m
          have x0 := B5.cell 0 (.slice a1 N c1) rfl
          have y0 := B6.cell 0 (.slice b1 N d1) rfl
          have HWm : Hid (∀ n, (W4.drewN m).drewN n = W4.drewN (m + n)) := fun n => drewN_add W4 m n
          have q5 : Hid (Below w.heap.size w (W4.drewN m)) := below_drewN q4 m
          generalize W4.drewN m = W5 at *
          by_cases hlt : k < N
          · have ik : (k : Int) < (N : Int) := by omega
            obtain ⟨p, hp⟩ : ∃ p, L[k]? = some p := ⟨_, List.getElem?_eq_getElem (by rw [HN.out.1]; exact hlt)⟩
            obtain ⟨q, hq⟩ : ∃ q, L'[k]? = some q := ⟨_, List.getElem?_eq_getElem (by rw [HN.out.2]; exact hlt)⟩
            obtain ⟨b, off, ha, p0, p1, p2⟩ := r1.at_ hp
            obtain ⟨b', off', ha', q0, q1, q2⟩ := r2.at_ hq
            subst ha
            subst ha'
            have hw2 : IntKind.i64.wrap ((k : Int) + 1) = ((k + 1 : Nat) : Int) := by simp [IntKind.wrap, IntKind.bits, IntKind.signed]; omega
            have hst : Hid ((L.take (k + 1) = L'.take (k + 1)) ↔ p = q) := by
              show _ ↔ _
              rw [List.take_add_one, List.take_add_one, qe.out, hp, hq]
              simp
            have HPQ : Hid (L[k]? = some p ∧ L'[k]? = some q) := ⟨hp, hq⟩
            clear r1 r2 hp hq B5 B6 qe
            obtain ⟨pa, pb, pc⟩ := p
            obtain ⟨qa, qb, qc⟩ := q
            simp only at p0 p1 p2 q0 q1 q2
            by_cases hpq : (⟨pa, pb, pc⟩ : Pt) = ⟨qa, qb, qc⟩
            · have HE : Hid (L.take (k + 1) = L'.take (k + 1)) := hst.out.2 hpq
              simp only [Pt.mk.injEq] at hpq
              obtain ⟨rfl, rfl, rfl⟩ := hpq
              go_wp2
              go_quiet (fail)
              go_wp2
              exact ⟨⟨k + 1, m + nq, by omega, by first | rfl | (congr 1), HWm.out nq, HE⟩, by simp only [intOf]; omega⟩
            · have HF : Hid (¬ (L = L' ∧ K = K' ∧ S = S')) := fun h => hpq (by
                have h1 := HPQ.out
                rw [h.1] at h1
                rw [h1.1] at h1
                exact Option.some.inj h1.2)
              have hne := pt_ne hpq
              simp only at hne
              rcases hne with hne | ⟨rfl, hne⟩ | ⟨rfl, rfl, hne⟩
              all_goals (
                go_wp2
                go_quiet (fail)
                have q6 := below_drewN q5.out nq
                go_wp2
                go_ret
                exact ⟨Tells.no HF.out, q6⟩)
          · have ik : ¬ (k : Int) < (N : Int) := by omega
            have HT : Hid (L = L' ∧ K = K' ∧ S = S') := by
              refine ⟨?_, HK.out, HS.out⟩
              have h1 := qe.out
              rw [List.take_of_length_le (by rw [HN.out.1]; omega), List.take_of_length_le (by rw [HN.out.2]; omega)] at h1
              exact h1
            have q6 := q5.out
            go_wp2
            go_ret
            exact ⟨Tells.yes HT.out, q6⟩
  · have hl' : ((N : Int) != (N' : Int)) = true := by simp; omega
    have HF : Hid (¬ (L = L' ∧ K = K' ∧ S = S')) := fun h => hl (by rw [← HN.out.1, ← HN.out.2, h.1])
    clear KI KS HL hl
    go_enter Tryd.func32, Tryd.ntmps32
    go_wp2
    go_ret
    exact ⟨Tells.no HF.out, q2⟩
end Go.Proofs.YtcoldgpnkdallaaDoor
