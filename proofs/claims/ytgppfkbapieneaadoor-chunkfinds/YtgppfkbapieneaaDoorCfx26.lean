/- Texts joined: CmC -/
import Derived.Test.YtgppfkbapieneaaDoorCfx25
namespace Go.Proofs.YtgppfkbapieneaaDoor
open Go.RowKit
set_option linter.unusedVariables false
set_option linter.unusedSimpArgs false
set_option maxRecDepth 100000 in
set_option maxHeartbeats 8000000 in
theorem less_ck (p q : Pt) (w : World) : Calls Tryd.prog 46 #[.agg p.v, .agg q.v] w fun e w' => e = .returned (.bool (p.less q)) ∧ Below w.heap.size w w' := by
  obtain ⟨a, b, c⟩ := p
  obtain ⟨a', b', c'⟩ := q
  obtain ⟨W1, hW1⟩ : ∃ W1, w.alloc (.cells (Pt.v ⟨a, b, c⟩) 42) = W1 := ⟨_, rfl⟩
  obtain ⟨W2, hW2⟩ : ∃ W2, W1.alloc (.cells (Pt.v ⟨a', b', c'⟩) 42) = W2 := ⟨_, rfl⟩
  have b2 := bel_al (bel_nw hW1) hW2
  have B1 := (blk_nw hW1).al hW2
  have B2 := blk_nw hW2
  have p0 := B1.cell 0 (.int .u64 a) rfl
  have p1 := B1.cell 1 (.int .u64 b) rfl
  have p2 := B1.cell 2 (.int .u64 c) rfl
  have q0 := B2.cell 0 (.int .u64 a') rfl
  have q1 := B2.cell 1 (.int .u64 b') rfl
  have q2 := B2.cell 2 (.int .u64 c') rfl
  clear B1 B2
  obtain ⟨R, hR⟩ : ∃ R, (⟨a, b, c⟩ : Pt).less ⟨a', b', c'⟩ = R := ⟨_, rfl⟩
  rw [hR]
  have HR : Hid ((⟨a, b, c⟩ : Pt).less ⟨a', b', c'⟩ = R) := hR
  clear hR
  rcases Int.lt_trichotomy a a' with h | h | h
  · have eR : R = true := by rw [← HR.out]; simp [Pt.less, h]
    subst eR
    go_enter Tryd.func46, Tryd.ntmps46
    go_wp2
    go_ret
    exact ⟨rfl, b2⟩
  · subst h
    have h0 : ¬ a < a := by omega
    rcases Int.lt_trichotomy b b' with h | h | h
    · have eR : R = true := by rw [← HR.out]; simp [Pt.less, h]
      subst eR
      go_enter Tryd.func46, Tryd.ntmps46
      go_wp2
      go_ret
      exact ⟨rfl, b2⟩
    · subst h
      have h1 : ¬ b < b := by omega
      by_cases h : c < c'
      · have eR : R = true := by rw [← HR.out]; simp [Pt.less, h]
        subst eR
        go_enter Tryd.func46, Tryd.ntmps46
        go_wp2
        go_ret
        exact ⟨rfl, b2⟩
      · have eR : R = false := by rw [← HR.out]; simp [Pt.less]; omega
        subst eR
        go_enter Tryd.func46, Tryd.ntmps46
        go_wp2
        go_ret
        exact ⟨rfl, b2⟩
    · have h1 : ¬ b < b' := by omega
      have h2 : (b == b') = false := by rw [beq_eq_false_iff_ne]; omega
      have eR : R = false := by rw [← HR.out]; simp [Pt.less, h2]; omega
      subst eR
      go_enter Tryd.func46, Tryd.ntmps46
      go_wp2
      go_ret
      exact ⟨rfl, b2⟩
  · have h1 : ¬ a < a' := by omega
    have h2 : (a == a') = false := by rw [beq_eq_false_iff_ne]; omega
    have eR : R = false := by rw [← HR.out]; simp [Pt.less, h2]; omega
    subst eR
    go_enter Tryd.func46, Tryd.ntmps46
    go_wp2
    go_ret
    exact ⟨rfl, b2⟩
set_option maxRecDepth 100000 in
set_option maxHeartbeats 4000000 in
theorem rrising_any (a : Option Addr) (c : Nat) (l : List Int) (w : World) (h : RowI w a l) :
    Calls Tryd.prog 50 #[.slice a l.length c] w fun e w' => Tells e (RiseI l) ∧ Below w.heap.size w w' := by
  have hs := h.small
  obtain ⟨N, hN⟩ : ∃ N, l.length = N := ⟨_, rfl⟩
  have HN : Hid (l.length = N) := hN
  have HR : Hid (RowI w a l) := h
  rw [hN] at hs ⊢
  clear h hN
  go_enter Tryd.func50, Tryd.ntmps50
  go_wp2_with fail
  go_loopw [3] (fun i wr => ∃ (k m : Nat), k ≤ N ∧ i = .int .i64 k ∧ wr = w.drewN m ∧ Hid (∀ (j : Nat) (x : Int), j < k → l[j]? = some x → 0 ≤ x ∧ ∀ y, 0 < j → l[j - 1]? = some y → y < x)) (fun i _ => N - (intOf i).toNat)
  case atStart => exact ⟨0, 0, Nat.zero_le _, rfl, rfl, fun j p hj => by omega⟩
  case round =>
    obtain ⟨k, m, hk, rfl, rfl, qe⟩ := hrel
    by_cases hlt : k < N
    · have ik : (k : Int) < (N : Int) := by omega
      obtain ⟨x, hx⟩ : ∃ x, l[k]? = some x := ⟨_, List.getElem?_eq_getElem (by rw [HN.out]; exact hlt)⟩
      have HX : Hid (l[k]? = some x) := hx
      obtain ⟨b, off, ha, hcs⟩ := (HR.out.drewN m).cells (by rw [HN.out]; omega)
      have q0 := hcs k (by rw [HN.out]; omega)
      rw [show l.getD k 0 = x by simp [hx]] at q0
      have hw2 : IntKind.i64.wrap ((k : Int) + 1) = ((k + 1 : Nat) : Int) := by simp [IntKind.wrap, IntKind.bits, IntKind.signed]; omega
      obtain ⟨WW, hWW⟩ : ∃ WW, w.drewN m = WW := ⟨_, rfl⟩
      have HWW : Hid (w.drewN m = WW) := hWW
      subst ha
      by_cases h0 : x < 0
      · have HF : Hid (¬ RiseI l) := fun hh => by
          have : 0 ≤ x := by
            rcases Nat.eq_zero_or_pos k with e | e
            · subst e; exact hh.1 x HX.out
            · obtain ⟨y0, hy0⟩ : ∃ y, l[0]? = some y := ⟨_, List.getElem?_eq_getElem (by rw [HN.out]; omega)⟩
              have h1 := hh.1 y0 hy0
              have h2 : ∀ (j : Nat) (z : Int), l[j]? = some z → 0 ≤ z := by
                intro j
                induction j with
                | zero => intro z hz; rw [hy0] at hz; cases hz; exact h1
                | succ j ih =>
                  intro z hz
                  obtain ⟨u, hu⟩ : ∃ u, l[j]? = some u := ⟨_, List.getElem?_eq_getElem (by have := (List.getElem?_eq_some_iff.1 hz).1; omega)⟩
                  have := ih u hu
                  have := hh.2 j u z hu hz
                  omega
              exact h2 k x HX.out
          omega
        rw [hWW] at q0 ⊢
        clear hcs hx qe hWW
        go_wp2
        go_quiet (fail)
        have b2 : Below w.heap.size w (WW.drewN nq) := by rw [← HWW.out]; exact below_drewN (below_drewN (Below.refl _ _) m) nq
        go_wp2
        go_ret
        exact ⟨Tells.no HF.out, b2⟩
      · rcases Nat.eq_zero_or_pos k with e | e
        · have qe' : Hid (∀ (j : Nat) (z : Int), j < k + 1 → l[j]? = some z → 0 ≤ z ∧ ∀ y, 0 < j → l[j - 1]? = some y → y < z) := fun j z hj hz => by
            have hj0 : j = k := by omega
            subst hj0
            rw [HX.out] at hz
            cases hz
            exact ⟨by omega, fun y hy => by omega⟩
          have hk0' : decide ((0 : Int) < (k : Int)) = false := by rw [decide_eq_false_iff_not]; omega
          have hk1' : decide (0 < k) = false := by rw [decide_eq_false_iff_not]; omega
          have hx0' : decide (x < 0) = false := by rw [decide_eq_false_iff_not]; omega
          have HE : Hid (k = 0) := e
          rw [hWW] at q0 ⊢
          clear hcs hx qe hWW e
          go_wp2
          refine wp_region_noPanic ?_
          refine wp_region_held_drew (S := fun w'' => w''.cell? ⟨b, off + k, none⟩ = some (.int .i64 x)) (by kernel_rfl) (by exact kept (below_drew WW) q0) (fun hHeld => ?_)
          refine wpAnyH_take (i := 0) (oi := { dst := some 10, op := Op.move (.tmp 0), type := 24, pos := "ref.go:166", after := #[], guard := none }) (v := (.slice (some ⟨b, off, none⟩) N c)) rfl (by kernel_rfl) (by kernel_rfl) (by kernel_rfl) (fun _ _ _ h => h) (Or.inl ⟨by rfl, ?_⟩) hHeld ?_
          · intro w9 hSw
            try dsimp only at hSw
            go_simp
          try simp only [Act.put, List.setIfInBounds_toArray, List.set_cons_zero, List.set_cons_succ]
          refine wpAnyH_take (i := 1) (oi := { dst := some 11, op := Op.move (.tmp 3), type := 3, pos := "ref.go:166", after := #[], guard := none }) (v := (.int .i64 (k : Int))) rfl (by kernel_rfl) (by kernel_rfl) (by kernel_rfl) (fun _ _ _ h => h) (Or.inl ⟨by rfl, ?_⟩) hHeld ?_
          · intro w9 hSw
            try dsimp only at hSw
            go_simp
          try simp only [Act.put, List.setIfInBounds_toArray, List.set_cons_zero, List.set_cons_succ]
          refine wpAnyH_take (i := 2) (oi := { dst := some 12, op := Op.indexAddr 24 (.tmp 10) (.tmp 11), type := 0, pos := "ref.go:166", after := #[{ on := 0, ground := Ground.data }, { on := 1, ground := Ground.data }], guard := none }) (v := (.pointer (some ⟨b, off + k, none⟩))) rfl (by kernel_rfl) (by kernel_rfl) (by kernel_rfl) (fun _ _ _ h => h) (Or.inl ⟨by rfl, ?_⟩) hHeld ?_
          · intro w9 hSw
            try dsimp only at hSw
            go_simp
          try simp only [Act.put, List.setIfInBounds_toArray, List.set_cons_zero, List.set_cons_succ]
          refine wpAnyH_take (i := 3) (oi := { dst := some 13, op := Op.load 3 (.tmp 12), type := 3, pos := "ref.go:166", after := #[{ on := 2, ground := Ground.data }], guard := none }) (v := (.int .i64 x)) rfl (by kernel_rfl) (by kernel_rfl) (by kernel_rfl) (fun _ _ _ h => h) (Or.inl ⟨by rfl, ?_⟩) hHeld ?_
          · intro w9 hSw
            try dsimp only at hSw
            go_simp
          try simp only [Act.put, List.setIfInBounds_toArray, List.set_cons_zero, List.set_cons_succ]
          refine wpAnyH_take (i := 4) (oi := { dst := some 14, op := Op.binOp BinOp.lss 3 (.tmp 13) (.const (.int .i64 0)) 3, type := 4, pos := "ref.go:166", after := #[{ on := 3, ground := Ground.data }], guard := none }) (v := (.bool false)) rfl (by kernel_rfl) (by kernel_rfl) (by kernel_rfl) (fun _ _ _ h => h) (Or.inl ⟨by rfl, ?_⟩) hHeld ?_
          · intro w9 hSw
            try dsimp only at hSw
            go_simp
          try simp only [Act.put, List.setIfInBounds_toArray, List.set_cons_zero, List.set_cons_succ]
          refine wpAnyH_take (i := 5) (oi := { dst := some 15, op := Op.move (.tmp 14), type := 4, pos := "ref.go:166", after := #[{ on := 4, ground := Ground.data }], guard := none }) (v := (.bool false)) rfl (by kernel_rfl) (by kernel_rfl) (by kernel_rfl) (fun _ _ _ h => h) (Or.inl ⟨by rfl, ?_⟩) hHeld ?_
          · intro w9 hSw
            try dsimp only at hSw
            go_simp
          try simp only [Act.put, List.setIfInBounds_toArray, List.set_cons_zero, List.set_cons_succ]
          refine wpAnyH_take (i := 6) (oi := { dst := some 16, op := Op.move (.tmp 3), type := 3, pos := "ref.go:166", after := #[{ on := 5, ground := Ground.guard }], guard := some (5, false) }) (v := (.int .i64 (k : Int))) rfl (by kernel_rfl) (by kernel_rfl) (by kernel_rfl) (fun _ _ _ h => h) (Or.inl ⟨by rfl, ?_⟩) hHeld ?_
          · intro w9 hSw
            try dsimp only at hSw
            go_simp
          try simp only [Act.put, List.setIfInBounds_toArray, List.set_cons_zero, List.set_cons_succ]
          refine wpAnyH_take (i := 7) (oi := { dst := some 17, op := Op.binOp BinOp.gtr 3 (.tmp 16) (.const (.int .i64 0)) 3, type := 4, pos := "ref.go:166", after := #[{ on := 6, ground := Ground.data }, { on := 5, ground := Ground.guard }], guard := some (5, false) }) (v := (.bool false)) rfl (by kernel_rfl) (by kernel_rfl) (by kernel_rfl) (fun _ _ _ h => h) (Or.inl ⟨by rfl, ?_⟩) hHeld ?_
          · intro w9 hSw
            try dsimp only at hSw
            go_simp
          try simp only [Act.put, List.setIfInBounds_toArray, List.set_cons_zero, List.set_cons_succ]
          refine wpAnyH_take (i := 8) (oi := { dst := some 18, op := Op.move (.tmp 17), type := 4, pos := "ref.go:166", after := #[{ on := 7, ground := Ground.data }, { on := 5, ground := Ground.chain }, { on := 5, ground := Ground.guard }], guard := some (5, false) }) (v := (.bool false)) rfl (by kernel_rfl) (by kernel_rfl) (by kernel_rfl) (fun _ _ _ h => h) (Or.inl ⟨by rfl, ?_⟩) hHeld ?_
          · intro w9 hSw
            try dsimp only at hSw
            go_simp
          try simp only [Act.put, List.setIfInBounds_toArray, List.set_cons_zero, List.set_cons_succ]
          refine wpAnyH_take (i := 9) (oi := { dst := some 19, op := Op.move (.tmp 0), type := 24, pos := "ref.go:166", after := #[{ on := 8, ground := Ground.guard }], guard := some (8, true) }) (v := undef) rfl (by kernel_rfl) (by kernel_rfl) (by kernel_rfl) (fun _ _ _ h => h) (Or.inr ⟨by rfl, rfl⟩) hHeld ?_
          try simp only [Act.put, List.setIfInBounds_toArray, List.set_cons_zero, List.set_cons_succ]
          refine wpAnyH_take (i := 10) (oi := { dst := some 20, op := Op.move (.tmp 3), type := 3, pos := "ref.go:166", after := #[{ on := 8, ground := Ground.guard }], guard := some (8, true) }) (v := undef) rfl (by kernel_rfl) (by kernel_rfl) (by kernel_rfl) (fun _ _ _ h => h) (Or.inr ⟨by rfl, rfl⟩) hHeld ?_
          try simp only [Act.put, List.setIfInBounds_toArray, List.set_cons_zero, List.set_cons_succ]
          refine wpAnyH_take (i := 11) (oi := { dst := some 21, op := Op.indexAddr 24 (.tmp 19) (.tmp 20), type := 0, pos := "ref.go:166", after := #[{ on := 9, ground := Ground.data }, { on := 10, ground := Ground.data }, { on := 8, ground := Ground.guard }], guard := some (8, true) }) (v := undef) rfl (by kernel_rfl) (by kernel_rfl) (by kernel_rfl) (fun _ _ _ h => h) (Or.inr ⟨by rfl, rfl⟩) hHeld ?_
          try simp only [Act.put, List.setIfInBounds_toArray, List.set_cons_zero, List.set_cons_succ]
          refine wpAnyH_take (i := 12) (oi := { dst := some 22, op := Op.load 3 (.tmp 21), type := 3, pos := "ref.go:166", after := #[{ on := 11, ground := Ground.data }, { on := 8, ground := Ground.guard }], guard := some (8, true) }) (v := undef) rfl (by kernel_rfl) (by kernel_rfl) (by kernel_rfl) (fun _ _ _ h => h) (Or.inr ⟨by rfl, rfl⟩) hHeld ?_
          try simp only [Act.put, List.setIfInBounds_toArray, List.set_cons_zero, List.set_cons_succ]
          refine wpAnyH_take (i := 13) (oi := { dst := some 23, op := Op.move (.tmp 0), type := 24, pos := "ref.go:166", after := #[{ on := 8, ground := Ground.guard }], guard := some (8, true) }) (v := undef) rfl (by kernel_rfl) (by kernel_rfl) (by kernel_rfl) (fun _ _ _ h => h) (Or.inr ⟨by rfl, rfl⟩) hHeld ?_
          try simp only [Act.put, List.setIfInBounds_toArray, List.set_cons_zero, List.set_cons_succ]
          refine wpAnyH_take (i := 14) (oi := { dst := some 24, op := Op.move (.tmp 3), type := 3, pos := "ref.go:166", after := #[{ on := 8, ground := Ground.guard }], guard := some (8, true) }) (v := undef) rfl (by kernel_rfl) (by kernel_rfl) (by kernel_rfl) (fun _ _ _ h => h) (Or.inr ⟨by rfl, rfl⟩) hHeld ?_
          try simp only [Act.put, List.setIfInBounds_toArray, List.set_cons_zero, List.set_cons_succ]
          refine wpAnyH_take (i := 15) (oi := { dst := some 25, op := Op.binOp BinOp.sub 3 (.tmp 24) (.const (.int .i64 1)) 3, type := 3, pos := "ref.go:166", after := #[{ on := 14, ground := Ground.data }, { on := 8, ground := Ground.guard }], guard := some (8, true) }) (v := undef) rfl (by kernel_rfl) (by kernel_rfl) (by kernel_rfl) (fun _ _ _ h => h) (Or.inr ⟨by rfl, rfl⟩) hHeld ?_
          try simp only [Act.put, List.setIfInBounds_toArray, List.set_cons_zero, List.set_cons_succ]
          refine wpAnyH_take (i := 16) (oi := { dst := some 26, op := Op.indexAddr 24 (.tmp 23) (.tmp 25), type := 0, pos := "ref.go:166", after := #[{ on := 13, ground := Ground.data }, { on := 15, ground := Ground.data }, { on := 8, ground := Ground.guard }], guard := some (8, true) }) (v := undef) rfl (by kernel_rfl) (by kernel_rfl) (by kernel_rfl) (fun _ _ _ h => h) (Or.inr ⟨by rfl, rfl⟩) hHeld ?_
          try simp only [Act.put, List.setIfInBounds_toArray, List.set_cons_zero, List.set_cons_succ]
          refine wpAnyH_take (i := 17) (oi := { dst := some 27, op := Op.load 3 (.tmp 26), type := 3, pos := "ref.go:166", after := #[{ on := 16, ground := Ground.data }, { on := 8, ground := Ground.guard }], guard := some (8, true) }) (v := undef) rfl (by kernel_rfl) (by kernel_rfl) (by kernel_rfl) (fun _ _ _ h => h) (Or.inr ⟨by rfl, rfl⟩) hHeld ?_
          try simp only [Act.put, List.setIfInBounds_toArray, List.set_cons_zero, List.set_cons_succ]
          refine wpAnyH_take (i := 18) (oi := { dst := some 28, op := Op.binOp BinOp.leq 3 (.tmp 22) (.tmp 27) 3, type := 4, pos := "ref.go:166", after := #[{ on := 12, ground := Ground.data }, { on := 17, ground := Ground.data }, { on := 8, ground := Ground.guard }], guard := some (8, true) }) (v := undef) rfl (by kernel_rfl) (by kernel_rfl) (by kernel_rfl) (fun _ _ _ h => h) (Or.inr ⟨by rfl, rfl⟩) hHeld ?_
          try simp only [Act.put, List.setIfInBounds_toArray, List.set_cons_zero, List.set_cons_succ]
          refine wpAnyH_take (i := 19) (oi := { dst := some 29, op := Op.pick (.tmp 18) (.tmp 28) (.const (.bool false)), type := 4, pos := "ref.go:166", after := #[{ on := 8, ground := Ground.data }, { on := 18, ground := Ground.data }, { on := 5, ground := Ground.guard }], guard := some (5, false) }) (v := (.bool false)) rfl (by kernel_rfl) (by kernel_rfl) (by kernel_rfl) (fun _ _ _ h => h) (Or.inl ⟨by rfl, ?_⟩) hHeld ?_
          · intro w9 hSw
            try dsimp only at hSw
            go_simp
          try simp only [Act.put, List.setIfInBounds_toArray, List.set_cons_zero, List.set_cons_succ]
          refine wpAnyH_take (i := 20) (oi := { dst := some 30, op := Op.pick (.tmp 15) (.const (.bool true)) (.tmp 29), type := 4, pos := "ref.go:166", after := #[{ on := 5, ground := Ground.data }, { on := 19, ground := Ground.data }], guard := none }) (v := (.bool false)) rfl (by kernel_rfl) (by kernel_rfl) (by kernel_rfl) (fun _ _ _ h => h) (Or.inl ⟨by rfl, ?_⟩) hHeld ?_
          · intro w9 hSw
            try dsimp only at hSw
            go_simp
          try simp only [Act.put, List.setIfInBounds_toArray, List.set_cons_zero, List.set_cons_succ]
          refine wpAnyH_done (by kernel_rfl) ?_ _
          refine NoPanic.normal ?_
          have HD : Hid (WW.drew = w.drewN (m + 1)) := by show _ = _; rw [← HWW.out]; exact drewN_add w m 1
          go_wp2
          exact ⟨⟨k + 1, m + 1, by omega, by first | rfl | (congr 1), HD.out, qe'⟩, by simp only [intOf]; omega⟩
        · obtain ⟨y, hy⟩ : ∃ y, l[k - 1]? = some y := ⟨_, List.getElem?_eq_getElem (by rw [HN.out]; omega)⟩
          have HY : Hid (l[k - 1]? = some y) := hy
          have q1 := hcs (k - 1) (by rw [HN.out]; omega)
          rw [show l.getD (k - 1) 0 = y by simp [hy]] at q1
          have hw1 : IntKind.i64.wrap ((k : Int) - 1) = ((k - 1 : Nat) : Int) := by simp [IntKind.wrap, IntKind.bits, IntKind.signed]; omega
          have hk0 : (0 : Int) < (k : Int) := by omega
          have hk2 : k - 1 < N := by omega
          rw [hWW] at q0 q1 ⊢
          clear hcs hx hy hWW
          by_cases hxy : x ≤ y
          · have HF : Hid (¬ RiseI l) := fun hh => by
              have := hh.2 (k - 1) y x HY.out (by rw [show k - 1 + 1 = k by omega]; exact HX.out)
              omega
            clear qe
            go_wp2
            go_quiet (fail)
            have b2 : Below w.heap.size w (WW.drewN nq) := by rw [← HWW.out]; exact below_drewN (below_drewN (Below.refl _ _) m) nq
            go_wp2
            go_ret
            exact ⟨Tells.no HF.out, b2⟩
          · have qe' : Hid (∀ (j : Nat) (z : Int), j < k + 1 → l[j]? = some z → 0 ≤ z ∧ ∀ u, 0 < j → l[j - 1]? = some u → u < z) := fun j z hj hz => by
              by_cases e2 : j = k
              · subst e2
                rw [HX.out] at hz
                cases hz
                refine ⟨by omega, fun u hu hu' => ?_⟩
                rw [HY.out] at hu'
                cases hu'
                omega
              · exact qe.out j z (by omega) hz
            clear qe
            go_wp2
            go_quiet (fail)
            have HD : Hid (WW.drewN nq = w.drewN (m + nq)) := by show _ = _; rw [← HWW.out]; exact drewN_add w m nq
            go_wp2
            exact ⟨⟨k + 1, m + nq, by omega, by first | rfl | (congr 1), HD.out, qe'⟩, by simp only [intOf]; omega⟩
    · have ik : ¬ (k : Int) < (N : Int) := by omega
      have HT : Hid (RiseI l) := ⟨fun x hx => (qe.out 0 x (by have := (List.getElem?_eq_some_iff.1 hx).1; have := HN.out; omega) hx).1, fun i x y hx hy => by
        have h1 := (List.getElem?_eq_some_iff.1 hy).1
        have h2 := HN.out
        exact (qe.out (i + 1) y (by omega) hy).2 x (by omega) (by rw [show i + 1 - 1 = i by omega]; exact hx)⟩
      clear qe
      go_wp2
      go_ret
      exact ⟨Tells.yes HT.out, below_drewN (Below.refl _ _) m⟩
end Go.Proofs.YtgppfkbapieneaaDoor
