/- Texts joined: CmM -/
import Derived.Test.YtmfgjicfdjjihaaGreatDoorLxa17
namespace Go.Proofs.YtmfgjicfdjjihaaGreatDoor
abbrev lxa18o0 : Oper := { dst := some 47, op := Op.call { callee := Callee.value (.func 54), args := #[.tmp 41, .tmp 46], argTypes := #[86, 86] }, type := 4, pos := "ref.go:179", after := #[{ on := 8, ground := Ground.data }, { on := 13, ground := Ground.data }, { on := 2, ground := Ground.chain }, { on := 2, ground := Ground.guard }], guard := some (2, true) }
abbrev lxa18o1 : Oper := { dst := some 66, op := Op.call { callee := Callee.builtin Builtin.len, args := #[.tmp 65], argTypes := #[58] }, type := 3, pos := "ref.go:179", after := #[{ on := 32, ground := Ground.data }, { on := 25, ground := Ground.guard }], guard := some (25, false) }
abbrev lxa18o2 : Oper := { dst := some 67, op := Op.binOp BinOp.geq 3 (.tmp 63) (.tmp 66) 3, type := 4, pos := "ref.go:179", after := #[{ on := 30, ground := Ground.data }, { on := 33, ground := Ground.data }, { on := 25, ground := Ground.guard }], guard := some (25, false) }
abbrev lxa18o3 : Oper := { dst := some 45, op := Op.indexAddr 61 (.tmp 43) (.tmp 44), type := 0, pos := "ref.go:179", after := #[{ on := 10, ground := Ground.data }, { on := 11, ground := Ground.data }, { on := 2, ground := Ground.guard }], guard := some (2, true) }
abbrev lxa18o4 : Oper := { dst := some 40, op := Op.indexAddr 61 (.tmp 37) (.tmp 39), type := 0, pos := "ref.go:179", after := #[{ on := 4, ground := Ground.data }, { on := 6, ground := Ground.data }, { on := 2, ground := Ground.guard }], guard := some (2, true) }
abbrev lxa18o5 : Oper := { dst := some 54, op := Op.indexAddr 24 (.tmp 52) (.tmp 53), type := 0, pos := "ref.go:179", after := #[{ on := 19, ground := Ground.data }, { on := 20, ground := Ground.data }, { on := 17, ground := Ground.guard }], guard := some (17, false) }
abbrev lxa18o6 : Oper := { dst := some 62, op := Op.indexAddr 24 (.tmp 60) (.tmp 61), type := 0, pos := "ref.go:179", after := #[{ on := 27, ground := Ground.data }, { on := 28, ground := Ground.data }, { on := 25, ground := Ground.guard }], guard := some (25, false) }
abbrev lxa18o7 : Oper := { dst := some 56, op := Op.binOp BinOp.lss 3 (.tmp 55) (.const (.int .i64 0)) 3, type := 4, pos := "ref.go:179", after := #[{ on := 22, ground := Ground.data }, { on := 17, ground := Ground.guard }], guard := some (17, false) }
abbrev lxa18o8 : Oper := { dst := some 39, op := Op.binOp BinOp.sub 3 (.tmp 38) (.const (.int .i64 1)) 3, type := 3, pos := "ref.go:179", after := #[{ on := 5, ground := Ground.data }, { on := 2, ground := Ground.guard }], guard := some (2, true) }
abbrev lxa18o9 : Oper := { dst := some 37, op := Op.load 61 (.tmp 36), type := 61, pos := "ref.go:179", after := #[{ on := 3, ground := Ground.data }, { on := 2, ground := Ground.guard }], guard := some (2, true) }
abbrev lxa18o10 : Oper := { dst := some 43, op := Op.load 61 (.tmp 42), type := 61, pos := "ref.go:179", after := #[{ on := 9, ground := Ground.data }, { on := 2, ground := Ground.guard }], guard := some (2, true) }
abbrev lxa18o11 : Oper := { dst := some 49, op := Op.pick (.tmp 35) (.tmp 48) (.const (.bool false)), type := 4, pos := "ref.go:179", after := #[{ on := 2, ground := Ground.data }, { on := 15, ground := Ground.data }], guard := none }
abbrev lxa18o12 : Oper := { dst := some 57, op := Op.pick (.tmp 50) (.const (.bool true)) (.tmp 56), type := 4, pos := "ref.go:179", after := #[{ on := 17, ground := Ground.data }, { on := 23, ground := Ground.data }], guard := none }
abbrev lxa18o13 : Oper := { dst := some 68, op := Op.pick (.tmp 58) (.const (.bool true)) (.tmp 67), type := 4, pos := "ref.go:179", after := #[{ on := 25, ground := Ground.data }, { on := 34, ground := Ground.data }], guard := none }
abbrev lxa18o14 : Oper := { dst := some 46, op := Op.load 86 (.tmp 45), type := 86, pos := "ref.go:179", after := #[{ on := 12, ground := Ground.data }, { on := 2, ground := Ground.guard }], guard := some (2, true) }
abbrev lxa18o15 : Oper := { dst := some 41, op := Op.load 86 (.tmp 40), type := 86, pos := "ref.go:179", after := #[{ on := 7, ground := Ground.data }, { on := 2, ground := Ground.guard }], guard := some (2, true) }
abbrev lxa18o16 : Oper := { dst := some 48, op := Op.unOp UnOp.not 4 (.tmp 47), type := 4, pos := "ref.go:179", after := #[{ on := 14, ground := Ground.data }, { on := 2, ground := Ground.guard }], guard := some (2, true) }
abbrev lxa18o17 : Oper := { dst := some 65, op := Op.load 58 (.tmp 64), type := 58, pos := "ref.go:179", after := #[{ on := 31, ground := Ground.data }, { on := 25, ground := Ground.guard }], guard := some (25, false) }
abbrev lxa18o18 : Oper := { dst := some 52, op := Op.load 24 (.tmp 51), type := 24, pos := "ref.go:179", after := #[{ on := 18, ground := Ground.data }, { on := 17, ground := Ground.guard }], guard := some (17, false) }
abbrev lxa18o19 : Oper := { dst := some 60, op := Op.load 24 (.tmp 59), type := 24, pos := "ref.go:179", after := #[{ on := 26, ground := Ground.data }, { on := 25, ground := Ground.guard }], guard := some (25, false) }
abbrev lxa18o20 : Oper := { dst := some 55, op := Op.load 3 (.tmp 54), type := 3, pos := "ref.go:179", after := #[{ on := 21, ground := Ground.data }, { on := 17, ground := Ground.guard }], guard := some (17, false) }
abbrev lxa18o21 : Oper := { dst := some 63, op := Op.load 3 (.tmp 62), type := 3, pos := "ref.go:179", after := #[{ on := 29, ground := Ground.data }, { on := 25, ground := Ground.guard }], guard := some (25, false) }
abbrev lxa18o22 : Oper := { dst := some 34, op := Op.binOp BinOp.gtr 3 (.tmp 33) (.const (.int .i64 0)) 3, type := 4, pos := "ref.go:179", after := #[{ on := 0, ground := Ground.data }], guard := none }
abbrev lxa18o23 : Oper := { dst := some 50, op := Op.move (.tmp 49), type := 4, pos := "ref.go:179", after := #[{ on := 16, ground := Ground.data }, { on := 14, ground := Ground.chain }], guard := none }
abbrev lxa18o24 : Oper := { dst := some 58, op := Op.move (.tmp 57), type := 4, pos := "ref.go:179", after := #[{ on := 24, ground := Ground.data }, { on := 17, ground := Ground.chain }], guard := none }
abbrev lxa18o25 : Oper := { dst := some 51, op := Op.fieldAddr 63 (.tmp 1) 1, type := 0, pos := "ref.go:179", after := #[{ on := 17, ground := Ground.guard }], guard := some (17, false) }
abbrev lxa18o26 : Oper := { dst := some 59, op := Op.fieldAddr 63 (.tmp 1) 1, type := 0, pos := "ref.go:179", after := #[{ on := 25, ground := Ground.guard }], guard := some (25, false) }
abbrev lxa18o27 : Oper := { dst := some 64, op := Op.fieldAddr 63 (.tmp 1) 2, type := 0, pos := "ref.go:179", after := #[{ on := 25, ground := Ground.guard }], guard := some (25, false) }
abbrev lxa18o28 : Oper := { dst := some 36, op := Op.fieldAddr 63 (.tmp 1) 0, type := 0, pos := "ref.go:179", after := #[{ on := 2, ground := Ground.guard }], guard := some (2, true) }
abbrev lxa18o29 : Oper := { dst := some 42, op := Op.fieldAddr 63 (.tmp 1) 0, type := 0, pos := "ref.go:179", after := #[{ on := 2, ground := Ground.guard }], guard := some (2, true) }
abbrev lxa18o30 : Oper := { dst := some 53, op := Op.move (.tmp 3), type := 3, pos := "ref.go:179", after := #[{ on := 17, ground := Ground.guard }], guard := some (17, false) }
abbrev lxa18o31 : Oper := { dst := some 61, op := Op.move (.tmp 3), type := 3, pos := "ref.go:179", after := #[{ on := 25, ground := Ground.guard }], guard := some (25, false) }
abbrev lxa18o32 : Oper := { dst := some 38, op := Op.move (.tmp 3), type := 3, pos := "ref.go:179", after := #[{ on := 2, ground := Ground.guard }], guard := some (2, true) }
abbrev lxa18o33 : Oper := { dst := some 44, op := Op.move (.tmp 3), type := 3, pos := "ref.go:179", after := #[{ on := 2, ground := Ground.guard }], guard := some (2, true) }
abbrev lxa18o34 : Oper := { dst := some 35, op := Op.move (.tmp 34), type := 4, pos := "ref.go:179", after := #[{ on := 1, ground := Ground.data }], guard := none }
abbrev lxa18o35 : Oper := { dst := some 33, op := Op.move (.tmp 3), type := 3, pos := "ref.go:179", after := #[], guard := none }
end Go.Proofs.YtmfgjicfdjjihaaGreatDoor
namespace Go.Proofs.YtmfgjicfdjjihaaGreatDoor
open Go.RowKit
set_option linter.unusedVariables false
set_option linter.unusedSimpArgs false
set_option maxRecDepth 100000 in
set_option maxHeartbeats 16000000 in
theorem rright_ck (a1 a2 a3 : Option Addr) (c1 c2 c3 : Nat) (L : List Pt) (K : List Int) (S : List (List Int)) (w : World) (hs : L.length ≤ 17592186044416) (h1 : RowP w a1 L) (h2 : RowI w a2 K) (h3 : RowS w a3 S) :
  Calls Tryz.prog 25 #[.agg #[.slice a1 L.length c1, .slice a2 K.length c2, .slice a3 S.length c3]] w fun e w' => Tells e (RightC L K S) ∧ Below w.heap.size w w' := by
 have hS := h3.small
 obtain ⟨W1, hW1⟩ : ∃ W1, w.alloc (.cells #[.slice a1 L.length c1, .slice a2 K.length c2, .slice a3 S.length c3] 63) = W1 := ⟨_, rfl⟩
 have b1 := bel_nw hW1
 have B1 := blk_nw hW1
 have H1 : Hid (RowP W1 a1 L) := h1.low b1
 have H2 : Hid (RowI W1 a2 K) := h2.below b1
 have H3 : Hid (RowS W1 a3 S) := h3.below b1
 have HB : Hid (Below w.heap.size w W1) := b1
 have d0 := B1.cell 0 (.slice a1 L.length c1) rfl
 have d1 := B1.cell 1 (.slice a2 K.length c2) rfl
 have d2 := B1.cell 2 (.slice a3 S.length c3) rfl
 clear h1 h2 h3 B1
 cases hL : L with
 | nil =>
  subst hL
  have HF : Hid (¬ RightC [] K S) := fun h => by have := h.1; simp at this
  simp only [List.length_nil] at d0 hW1 ⊢
  go_enter Tryz.func25, Tryz.ntmps25
  go_wp2
  go_ret
  exact ⟨Tells.no HF.out, b1⟩
 | cons t0 L' =>
  have hp : L[0]? = some t0 := by rw [hL]; rfl
  rw [← hL]
  obtain ⟨b, off, ha, p0, p1, p2⟩ := H1.out.at_ hp
  have HP : Hid (L[0]? = some t0) := hp
  simp only [Nat.zero_mul, Nat.add_zero] at p0 p1 p2
  have hn0 : 0 < L.length := by rw [hL]; simp
  clear hL hp
  obtain ⟨N, hN⟩ : ∃ N, L.length = N := ⟨_, rfl⟩
  obtain ⟨M, hM⟩ : ∃ M, K.length = M := ⟨_, rfl⟩
  obtain ⟨Q, hQ⟩ : ∃ Q, S.length = Q := ⟨_, rfl⟩
  have HN : Hid (L.length = N ∧ K.length = M ∧ S.length = Q) := ⟨hN, hM, hQ⟩
  rw [hN] at d0 hn0 hs hW1 ⊢
  rw [hM] at d1 hW1 ⊢
  rw [hQ] at hS d2 hW1 ⊢
  have hn0' : (0 : Int) < (N : Int) := by omega
  subst ha
  clear hN hM hQ
  by_cases hp0 : t0 = pt0
  ·have HPZ : Hid (t0 = pt0) := hp0
   rw [hp0] at p0 p1 p2
   simp only [pt0] at p0 p1 p2
   clear hp0
   by_cases hMN : M = N
   ·subst hMN
    obtain ⟨b2, off2, ha2, hcs⟩ := H2.out.cells (by rw [HN.out.2.1]; omega)
    have HCS : Hid (∀ (j : Nat) (x : Int), K[j]? = some x → W1.cell? ⟨b2, off2 + j, none⟩ = some (.int .i64 x)) := fun j x hx => by
     have := hcs j (by have := (List.getElem?_eq_some_iff.1 hx).1; omega)
     rw [show K.getD j 0 = x by simp [hx]] at this
     exact this
    subst ha2
    have HD : Hid (W1.cell? ⟨w.heap.size, 0, none⟩ = some (.slice (some ⟨b, off, none⟩) M c1) ∧ W1.cell? ⟨w.heap.size, 1, none⟩ = some (.slice (some ⟨b2, off2, none⟩) M c2) ∧ W1.cell? ⟨w.heap.size, 2, none⟩ = some (.slice a3 Q c3)) := ⟨d0, d1, d2⟩
    clear hcs
    have hM0 : ((M : Int) == 0) = false := by rw [beq_eq_false_iff_ne]; omega
    have KS : Hid (∀ (W : World) (a : Option Addr) (c : Nat) (s : List Int), RowI W a s → Calls Tryz.prog 28 #[.slice a s.length c] W fun e w' => Tells e (RiseI s) ∧ Below W.heap.size W w') := fun W a c s h => rrising_any a c s W h
    go_enter Tryz.func25, Tryz.ntmps25
    go_wp2_with fail
    clear p0 p1 p2 d0 d1 d2 hW1
    go_loopw [3] (fun i wr => ∃ (k : Nat), k ≤ M ∧ i = .int .i64 k ∧ Below W1.heap.size W1 wr ∧ Hid (∀ (j : Nat) (p q : Pt), j + 1 < k → L[j]? = some p → L[j + 1]? = some q → p.n < q.n) ∧ Hid (∀ (j : Nat) (x : Int), j < k → K[j]? = some x → 0 ≤ x ∧ x < (Q : Int))) (fun i _ => M - (intOf i).toNat)
    case atStart => exact ⟨0, Nat.zero_le _, rfl, Below.refl _ _, fun j p q hj => by omega, fun j x hj => by omega⟩
    case round =>
     obtain ⟨k, hk, rfl, qb, qr, qc⟩ := hrel
     have d0 := kept qb HD.out.1
     have d1 := kept qb HD.out.2.1
     have d2 := kept qb HD.out.2.2
     by_cases hlt : k < M
     ·have ik : (k : Int) < (M : Int) := by omega
      obtain ⟨x, hx⟩ : ∃ x, K[k]? = some x := ⟨_, List.getElem?_eq_getElem (by rw [HN.out.2.1]; exact hlt)⟩
      have x0 := kept qb (HCS.out k x hx)
      have HX : Hid (K[k]? = some x) := hx
      have hw2 : IntKind.i64.wrap ((k : Int) + 1) = ((k + 1 : Nat) : Int) := by simp [IntKind.wrap, IntKind.bits, IntKind.signed]; omega
      clear hx
      have HNX : Hid (¬ (0 ≤ x ∧ x < (Q : Int)) → ¬ RightC L K S) := fun h hr => h (by have := hr.2.2.2.1 x (List.mem_of_getElem? HX.out); rw [HN.out.2.2] at this; exact this)
      have HCX : Hid (0 ≤ x → x < (Q : Int) → ∀ (j : Nat) (y : Int), j < k + 1 → K[j]? = some y → 0 ≤ y ∧ y < (Q : Int)) := fun h0 h1 j y hj hy => by
       by_cases e : j = k
       ·subst e
        rw [HX.out] at hy
        cases hy
        exact ⟨h0, h1⟩
       ·exact qc.out j y (by omega) hy
      clear qc
      rcases Nat.eq_zero_or_pos k with e | e
      ·have HR' : Hid (∀ (j : Nat) (p q : Pt), j + 1 < k + 1 → L[j]? = some p → L[j + 1]? = some q → p.n < q.n) := fun j p q hj => by omega
       have hk0' : decide ((0 : Int) < (k : Int)) = false := by rw [decide_eq_false_iff_not]; omega
       have hk1' : decide (0 < k) = false := by rw [decide_eq_false_iff_not]; omega
       clear e qr
       by_cases hx0 : x < 0
       ·have HF : Hid (¬ RightC L K S) := HNX.out (by omega)
        have hx1 : decide (x < 0) = true := by rw [decide_eq_true_iff]; exact hx0
        clear HNX HCX
        go_wp2
        refine wp_region_noPanic ?_
        refine wp_region_held_drew (S := fun w'' => w''.cell? ⟨w.heap.size, 0, none⟩ = some (.slice (some ⟨b, off, none⟩) M c1) ∧ w''.cell? ⟨w.heap.size, 1, none⟩ = some (.slice (some ⟨b2, off2, none⟩) M c2) ∧ w''.cell? ⟨w.heap.size, 2, none⟩ = some (.slice a3 Q c3) ∧ w''.cell? ⟨b2, off2 + k, none⟩ = some (.int .i64 x)) (by kernel_rfl) (by exact ⟨kept (below_drew wr) d0, kept (below_drew wr) d1, kept (below_drew wr) d2, kept (below_drew wr) x0⟩) (fun hHeld => ?_)
        refine qtk (i := 0) (oi := lxa18o35) (v := (.int .i64 (k : Int))) hHeld ?_ ?_
        ·intro w9 hSw
         try dsimp only at hSw
         go_simp
        try simp only [qpu]
        refine qtk (i := 1) (oi := lxa18o22) (v := (.bool false)) hHeld ?_ ?_
        ·intro w9 hSw
         try dsimp only at hSw
         go_simp
        try simp only [qpu]
        refine qtk (i := 2) (oi := lxa18o34) (v := (.bool false)) hHeld ?_ ?_
        ·intro w9 hSw
         try dsimp only at hSw
         go_simp
        try simp only [qpu]
        refine qtn (i := 3) (oi := lxa18o28) hHeld ?_
        try simp only [qpu]
        refine qtn (i := 4) (oi := lxa18o9) hHeld ?_
        try simp only [qpu]
        refine qtn (i := 5) (oi := lxa18o32) hHeld ?_
        try simp only [qpu]
        refine qtn (i := 6) (oi := lxa18o8) hHeld ?_
        try simp only [qpu]
        refine qtn (i := 7) (oi := lxa18o4) hHeld ?_
        try simp only [qpu]
        refine qtn (i := 8) (oi := lxa18o15) hHeld ?_
        try simp only [qpu]
        refine qtn (i := 9) (oi := lxa18o29) hHeld ?_
        try simp only [qpu]
        refine qtn (i := 10) (oi := lxa18o10) hHeld ?_
        try simp only [qpu]
        refine qtn (i := 11) (oi := lxa18o33) hHeld ?_
        try simp only [qpu]
        refine qtn (i := 12) (oi := lxa18o3) hHeld ?_
        try simp only [qpu]
        refine qtn (i := 13) (oi := lxa18o14) hHeld ?_
        try simp only [qpu]
        refine qtn (i := 14) (oi := lxa18o0) hHeld ?_
        try simp only [qpu]
        refine qtn (i := 15) (oi := lxa18o16) hHeld ?_
        try simp only [qpu]
        refine qtk (i := 16) (oi := lxa18o11) (v := (.bool false)) hHeld ?_ ?_
        ·intro w9 hSw
         try dsimp only at hSw
         go_simp
        try simp only [qpu]
        refine qtk (i := 17) (oi := lxa18o23) (v := (.bool false)) hHeld ?_ ?_
        ·intro w9 hSw
         try dsimp only at hSw
         go_simp
        try simp only [qpu]
        refine qtk (i := 18) (oi := lxa18o25) (v := (.pointer (some ⟨w.heap.size, 1, none⟩))) hHeld ?_ ?_
        ·intro w9 hSw
         try dsimp only at hSw
         go_simp
        try simp only [qpu]
        refine qtk (i := 19) (oi := lxa18o18) (v := (.slice (some ⟨b2, off2, none⟩) M c2)) hHeld ?_ ?_
        ·intro w9 hSw
         try dsimp only at hSw
         go_simp
        try simp only [qpu]
        refine qtk (i := 20) (oi := lxa18o30) (v := (.int .i64 (k : Int))) hHeld ?_ ?_
        ·intro w9 hSw
         try dsimp only at hSw
         go_simp
        try simp only [qpu]
        refine qtk (i := 21) (oi := lxa18o5) (v := (.pointer (some ⟨b2, off2 + k, none⟩))) hHeld ?_ ?_
        ·intro w9 hSw
         try dsimp only at hSw
         go_simp
        try simp only [qpu]
        refine qtk (i := 22) (oi := lxa18o20) (v := (.int .i64 x)) hHeld ?_ ?_
        ·intro w9 hSw
         try dsimp only at hSw
         go_simp
        try simp only [qpu]
        refine qtk (i := 23) (oi := lxa18o7) (v := (.bool true)) hHeld ?_ ?_
        ·intro w9 hSw
         try dsimp only at hSw
         go_simp
        try simp only [qpu]
        refine qtk (i := 24) (oi := lxa18o12) (v := (.bool true)) hHeld ?_ ?_
        ·intro w9 hSw
         try dsimp only at hSw
         go_simp
        try simp only [qpu]
        refine qtk (i := 25) (oi := lxa18o24) (v := (.bool true)) hHeld ?_ ?_
        ·intro w9 hSw
         try dsimp only at hSw
         go_simp
        try simp only [qpu]
        refine qtn (i := 26) (oi := lxa18o26) hHeld ?_
        try simp only [qpu]
        refine qtn (i := 27) (oi := lxa18o19) hHeld ?_
        try simp only [qpu]
        refine qtn (i := 28) (oi := lxa18o31) hHeld ?_
        try simp only [qpu]
        refine qtn (i := 29) (oi := lxa18o6) hHeld ?_
        try simp only [qpu]
        refine qtn (i := 30) (oi := lxa18o21) hHeld ?_
        try simp only [qpu]
        refine qtn (i := 31) (oi := lxa18o27) hHeld ?_
        try simp only [qpu]
        refine qtn (i := 32) (oi := lxa18o17) hHeld ?_
        try simp only [qpu]
        refine qtn (i := 33) (oi := lxa18o1) hHeld ?_
        try simp only [qpu]
        refine qtn (i := 34) (oi := lxa18o2) hHeld ?_
        try simp only [qpu]
        refine qtk (i := 35) (oi := lxa18o13) (v := (.bool true)) hHeld ?_ ?_
        ·intro w9 hSw
         try dsimp only at hSw
         go_simp
        try simp only [qpu]
        refine wpAnyH_done (by kernel_rfl) ?_ _
        refine NoPanic.normal ?_
        have qe := bel_tr HB.out qb.drew
        go_wp2
        go_ret
        exact ⟨Tells.no HF.out, qe⟩
       ·have hx1 : decide (x < 0) = false := by rw [decide_eq_false_iff_not]; exact hx0
        by_cases hxq : (Q : Int) ≤ x
        ·have HF : Hid (¬ RightC L K S) := HNX.out (by omega)
         have hx2 : decide ((Q : Int) ≤ x) = true := by rw [decide_eq_true_iff]; exact hxq
         clear HNX HCX
         go_wp2
         refine wp_region_noPanic ?_
         refine wp_region_held_drew (S := fun w'' => w''.cell? ⟨w.heap.size, 0, none⟩ = some (.slice (some ⟨b, off, none⟩) M c1) ∧ w''.cell? ⟨w.heap.size, 1, none⟩ = some (.slice (some ⟨b2, off2, none⟩) M c2) ∧ w''.cell? ⟨w.heap.size, 2, none⟩ = some (.slice a3 Q c3) ∧ w''.cell? ⟨b2, off2 + k, none⟩ = some (.int .i64 x)) (by kernel_rfl) (by exact ⟨kept (below_drew wr) d0, kept (below_drew wr) d1, kept (below_drew wr) d2, kept (below_drew wr) x0⟩) (fun hHeld => ?_)
         refine qtk (i := 0) (oi := lxa18o35) (v := (.int .i64 (k : Int))) hHeld ?_ ?_
         ·intro w9 hSw
          try dsimp only at hSw
          go_simp
         try simp only [qpu]
         refine qtk (i := 1) (oi := lxa18o22) (v := (.bool false)) hHeld ?_ ?_
         ·intro w9 hSw
          try dsimp only at hSw
          go_simp
         try simp only [qpu]
         refine qtk (i := 2) (oi := lxa18o34) (v := (.bool false)) hHeld ?_ ?_
         ·intro w9 hSw
          try dsimp only at hSw
          go_simp
         try simp only [qpu]
         refine qtn (i := 3) (oi := lxa18o28) hHeld ?_
         try simp only [qpu]
         refine qtn (i := 4) (oi := lxa18o9) hHeld ?_
         try simp only [qpu]
         refine qtn (i := 5) (oi := lxa18o32) hHeld ?_
         try simp only [qpu]
         refine qtn (i := 6) (oi := lxa18o8) hHeld ?_
         try simp only [qpu]
         refine qtn (i := 7) (oi := lxa18o4) hHeld ?_
         try simp only [qpu]
         refine qtn (i := 8) (oi := lxa18o15) hHeld ?_
         try simp only [qpu]
         refine qtn (i := 9) (oi := lxa18o29) hHeld ?_
         try simp only [qpu]
         refine qtn (i := 10) (oi := lxa18o10) hHeld ?_
         try simp only [qpu]
         refine qtn (i := 11) (oi := lxa18o33) hHeld ?_
         try simp only [qpu]
         refine qtn (i := 12) (oi := lxa18o3) hHeld ?_
         try simp only [qpu]
         refine qtn (i := 13) (oi := lxa18o14) hHeld ?_
         try simp only [qpu]
         refine qtn (i := 14) (oi := lxa18o0) hHeld ?_
         try simp only [qpu]
         refine qtn (i := 15) (oi := lxa18o16) hHeld ?_
         try simp only [qpu]
         refine qtk (i := 16) (oi := lxa18o11) (v := (.bool false)) hHeld ?_ ?_
         ·intro w9 hSw
          try dsimp only at hSw
          go_simp
         try simp only [qpu]
         refine qtk (i := 17) (oi := lxa18o23) (v := (.bool false)) hHeld ?_ ?_
         ·intro w9 hSw
          try dsimp only at hSw
          go_simp
         try simp only [qpu]
         refine qtk (i := 18) (oi := lxa18o25) (v := (.pointer (some ⟨w.heap.size, 1, none⟩))) hHeld ?_ ?_
         ·intro w9 hSw
          try dsimp only at hSw
          go_simp
         try simp only [qpu]
         refine qtk (i := 19) (oi := lxa18o18) (v := (.slice (some ⟨b2, off2, none⟩) M c2)) hHeld ?_ ?_
         ·intro w9 hSw
          try dsimp only at hSw
          go_simp
         try simp only [qpu]
         refine qtk (i := 20) (oi := lxa18o30) (v := (.int .i64 (k : Int))) hHeld ?_ ?_
         ·intro w9 hSw
          try dsimp only at hSw
          go_simp
         try simp only [qpu]
         refine qtk (i := 21) (oi := lxa18o5) (v := (.pointer (some ⟨b2, off2 + k, none⟩))) hHeld ?_ ?_
         ·intro w9 hSw
          try dsimp only at hSw
          go_simp
         try simp only [qpu]
         refine qtk (i := 22) (oi := lxa18o20) (v := (.int .i64 x)) hHeld ?_ ?_
         ·intro w9 hSw
          try dsimp only at hSw
          go_simp
         try simp only [qpu]
         refine qtk (i := 23) (oi := lxa18o7) (v := (.bool false)) hHeld ?_ ?_
         ·intro w9 hSw
          try dsimp only at hSw
          go_simp
         try simp only [qpu]
         refine qtk (i := 24) (oi := lxa18o12) (v := (.bool false)) hHeld ?_ ?_
         ·intro w9 hSw
          try dsimp only at hSw
          go_simp
         try simp only [qpu]
         refine qtk (i := 25) (oi := lxa18o24) (v := (.bool false)) hHeld ?_ ?_
         ·intro w9 hSw
          try dsimp only at hSw
          go_simp
         try simp only [qpu]
         refine qtk (i := 26) (oi := lxa18o26) (v := (.pointer (some ⟨w.heap.size, 1, none⟩))) hHeld ?_ ?_
         ·intro w9 hSw
          try dsimp only at hSw
          go_simp
         try simp only [qpu]
         refine qtk (i := 27) (oi := lxa18o19) (v := (.slice (some ⟨b2, off2, none⟩) M c2)) hHeld ?_ ?_
         ·intro w9 hSw
          try dsimp only at hSw
          go_simp
         try simp only [qpu]
         refine qtk (i := 28) (oi := lxa18o31) (v := (.int .i64 (k : Int))) hHeld ?_ ?_
         ·intro w9 hSw
          try dsimp only at hSw
          go_simp
         try simp only [qpu]
         refine qtk (i := 29) (oi := lxa18o6) (v := (.pointer (some ⟨b2, off2 + k, none⟩))) hHeld ?_ ?_
         ·intro w9 hSw
          try dsimp only at hSw
          go_simp
         try simp only [qpu]
         refine qtk (i := 30) (oi := lxa18o21) (v := (.int .i64 x)) hHeld ?_ ?_
         ·intro w9 hSw
          try dsimp only at hSw
          go_simp
         try simp only [qpu]
         refine qtk (i := 31) (oi := lxa18o27) (v := (.pointer (some ⟨w.heap.size, 2, none⟩))) hHeld ?_ ?_
         ·intro w9 hSw
          try dsimp only at hSw
          go_simp
         try simp only [qpu]
         refine qtk (i := 32) (oi := lxa18o17) (v := (.slice a3 Q c3)) hHeld ?_ ?_
         ·intro w9 hSw
          try dsimp only at hSw
          go_simp
         try simp only [qpu]
         refine qtk (i := 33) (oi := lxa18o1) (v := (.int .i64 (Q : Int))) hHeld ?_ ?_
         ·intro w9 hSw
          try dsimp only at hSw
          go_simp
         try simp only [qpu]
         refine qtk (i := 34) (oi := lxa18o2) (v := (.bool true)) hHeld ?_ ?_
         ·intro w9 hSw
          try dsimp only at hSw
          go_simp
         try simp only [qpu]
         refine qtk (i := 35) (oi := lxa18o13) (v := (.bool true)) hHeld ?_ ?_
         ·intro w9 hSw
          try dsimp only at hSw
          go_simp
         try simp only [qpu]
         refine wpAnyH_done (by kernel_rfl) ?_ _
         refine NoPanic.normal ?_
         have qe := bel_tr HB.out qb.drew
         go_wp2
         go_ret
         exact ⟨Tells.no HF.out, qe⟩
        ·have HC : Hid (∀ (j : Nat) (y : Int), j < k + 1 → K[j]? = some y → 0 ≤ y ∧ y < (Q : Int)) := HCX.out (by omega) (by omega)
         have hx2 : decide ((Q : Int) ≤ x) = false := by rw [decide_eq_false_iff_not]; exact hxq
         clear HNX HCX
         go_wp2
         refine wp_region_noPanic ?_
         refine wp_region_held_drew (S := fun w'' => w''.cell? ⟨w.heap.size, 0, none⟩ = some (.slice (some ⟨b, off, none⟩) M c1) ∧ w''.cell? ⟨w.heap.size, 1, none⟩ = some (.slice (some ⟨b2, off2, none⟩) M c2) ∧ w''.cell? ⟨w.heap.size, 2, none⟩ = some (.slice a3 Q c3) ∧ w''.cell? ⟨b2, off2 + k, none⟩ = some (.int .i64 x)) (by kernel_rfl) (by exact ⟨kept (below_drew wr) d0, kept (below_drew wr) d1, kept (below_drew wr) d2, kept (below_drew wr) x0⟩) (fun hHeld => ?_)
         refine qtk (i := 0) (oi := lxa18o35) (v := (.int .i64 (k : Int))) hHeld ?_ ?_
         ·intro w9 hSw
          try dsimp only at hSw
          go_simp
         try simp only [qpu]
         refine qtk (i := 1) (oi := lxa18o22) (v := (.bool false)) hHeld ?_ ?_
         ·intro w9 hSw
          try dsimp only at hSw
          go_simp
         try simp only [qpu]
         refine qtk (i := 2) (oi := lxa18o34) (v := (.bool false)) hHeld ?_ ?_
         ·intro w9 hSw
          try dsimp only at hSw
          go_simp
         try simp only [qpu]
         refine qtn (i := 3) (oi := lxa18o28) hHeld ?_
         try simp only [qpu]
         refine qtn (i := 4) (oi := lxa18o9) hHeld ?_
         try simp only [qpu]
         refine qtn (i := 5) (oi := lxa18o32) hHeld ?_
         try simp only [qpu]
         refine qtn (i := 6) (oi := lxa18o8) hHeld ?_
         try simp only [qpu]
         refine qtn (i := 7) (oi := lxa18o4) hHeld ?_
         try simp only [qpu]
         refine qtn (i := 8) (oi := lxa18o15) hHeld ?_
         try simp only [qpu]
         refine qtn (i := 9) (oi := lxa18o29) hHeld ?_
         try simp only [qpu]
         refine qtn (i := 10) (oi := lxa18o10) hHeld ?_
         try simp only [qpu]
         refine qtn (i := 11) (oi := lxa18o33) hHeld ?_
         try simp only [qpu]
         refine qtn (i := 12) (oi := lxa18o3) hHeld ?_
         try simp only [qpu]
         refine qtn (i := 13) (oi := lxa18o14) hHeld ?_
         try simp only [qpu]
         refine qtn (i := 14) (oi := lxa18o0) hHeld ?_
         try simp only [qpu]
         refine qtn (i := 15) (oi := lxa18o16) hHeld ?_
         try simp only [qpu]
         refine qtk (i := 16) (oi := lxa18o11) (v := (.bool false)) hHeld ?_ ?_
         ·intro w9 hSw
          try dsimp only at hSw
          go_simp
         try simp only [qpu]
         refine qtk (i := 17) (oi := lxa18o23) (v := (.bool false)) hHeld ?_ ?_
         ·intro w9 hSw
          try dsimp only at hSw
          go_simp
         try simp only [qpu]
         refine qtk (i := 18) (oi := lxa18o25) (v := (.pointer (some ⟨w.heap.size, 1, none⟩))) hHeld ?_ ?_
         ·intro w9 hSw
          try dsimp only at hSw
          go_simp
         try simp only [qpu]
         refine qtk (i := 19) (oi := lxa18o18) (v := (.slice (some ⟨b2, off2, none⟩) M c2)) hHeld ?_ ?_
         ·intro w9 hSw
          try dsimp only at hSw
          go_simp
         try simp only [qpu]
         refine qtk (i := 20) (oi := lxa18o30) (v := (.int .i64 (k : Int))) hHeld ?_ ?_
         ·intro w9 hSw
          try dsimp only at hSw
          go_simp
         try simp only [qpu]
         refine qtk (i := 21) (oi := lxa18o5) (v := (.pointer (some ⟨b2, off2 + k, none⟩))) hHeld ?_ ?_
         ·intro w9 hSw
          try dsimp only at hSw
          go_simp
         try simp only [qpu]
         refine qtk (i := 22) (oi := lxa18o20) (v := (.int .i64 x)) hHeld ?_ ?_
         ·intro w9 hSw
          try dsimp only at hSw
          go_simp
         try simp only [qpu]
         refine qtk (i := 23) (oi := lxa18o7) (v := (.bool false)) hHeld ?_ ?_
         ·intro w9 hSw
          try dsimp only at hSw
          go_simp
         try simp only [qpu]
         refine qtk (i := 24) (oi := lxa18o12) (v := (.bool false)) hHeld ?_ ?_
         ·intro w9 hSw
          try dsimp only at hSw
          go_simp
         try simp only [qpu]
         refine qtk (i := 25) (oi := lxa18o24) (v := (.bool false)) hHeld ?_ ?_
         ·intro w9 hSw
          try dsimp only at hSw
          go_simp
         try simp only [qpu]
         refine qtk (i := 26) (oi := lxa18o26) (v := (.pointer (some ⟨w.heap.size, 1, none⟩))) hHeld ?_ ?_
         ·intro w9 hSw
          try dsimp only at hSw
          go_simp
         try simp only [qpu]
         refine qtk (i := 27) (oi := lxa18o19) (v := (.slice (some ⟨b2, off2, none⟩) M c2)) hHeld ?_ ?_
         ·intro w9 hSw
          try dsimp only at hSw
          go_simp
         try simp only [qpu]
         refine qtk (i := 28) (oi := lxa18o31) (v := (.int .i64 (k : Int))) hHeld ?_ ?_
         ·intro w9 hSw
          try dsimp only at hSw
          go_simp
         try simp only [qpu]
         refine qtk (i := 29) (oi := lxa18o6) (v := (.pointer (some ⟨b2, off2 + k, none⟩))) hHeld ?_ ?_
         ·intro w9 hSw
          try dsimp only at hSw
          go_simp
         try simp only [qpu]
         refine qtk (i := 30) (oi := lxa18o21) (v := (.int .i64 x)) hHeld ?_ ?_
         ·intro w9 hSw
          try dsimp only at hSw
          go_simp
         try simp only [qpu]
         refine qtk (i := 31) (oi := lxa18o27) (v := (.pointer (some ⟨w.heap.size, 2, none⟩))) hHeld ?_ ?_
         ·intro w9 hSw
          try dsimp only at hSw
          go_simp
         try simp only [qpu]
         refine qtk (i := 32) (oi := lxa18o17) (v := (.slice a3 Q c3)) hHeld ?_ ?_
         ·intro w9 hSw
          try dsimp only at hSw
          go_simp
         try simp only [qpu]
         refine qtk (i := 33) (oi := lxa18o1) (v := (.int .i64 (Q : Int))) hHeld ?_ ?_
         ·intro w9 hSw
          try dsimp only at hSw
          go_simp
         try simp only [qpu]
         refine qtk (i := 34) (oi := lxa18o2) (v := (.bool false)) hHeld ?_ ?_
         ·intro w9 hSw
          try dsimp only at hSw
          go_simp
         try simp only [qpu]
         refine qtk (i := 35) (oi := lxa18o13) (v := (.bool false)) hHeld ?_ ?_
         ·intro w9 hSw
          try dsimp only at hSw
          go_simp
         try simp only [qpu]
         refine wpAnyH_done (by kernel_rfl) ?_ _
         refine NoPanic.normal ?_
         have qe := qb.drew
         go_wp2
         exact ⟨⟨k + 1, by omega, by first | rfl | (congr 1), qe, HR', HC⟩, by simp only [intOf]; omega⟩
      ·obtain ⟨p, hp⟩ : ∃ p, L[k - 1]? = some p := ⟨_, List.getElem?_eq_getElem (by rw [HN.out.1]; omega)⟩
       obtain ⟨q, hq⟩ : ∃ q, L[k]? = some q := ⟨_, List.getElem?_eq_getElem (by rw [HN.out.1]; omega)⟩
       have HPQ : Hid (L[k - 1]? = some p ∧ L[k - 1 + 1]? = some q) := ⟨hp, by rw [show k - 1 + 1 = k by omega]; exact hq⟩
       have hpo := H1.out.each p (List.mem_of_getElem? hp)
       have hqo := H1.out.each q (List.mem_of_getElem? hq)
       obtain ⟨b', off', hb', p0, p1, p2⟩ := (H1.out.low qb).at_ hp
       cases hb'
       obtain ⟨b', off', hb', q0, q1, q2⟩ := (H1.out.low qb).at_ hq
       cases hb'
       have hle := Pt.less_iff hpo hqo
       have KL : Hid (∀ W, Calls Tryz.prog 54 #[.agg p.v, .agg q.v] W fun e w' => e = .returned (.bool (p.less q)) ∧ Below W.heap.size W w') := fun W => less_ck p q W
       obtain ⟨r, hr⟩ : ∃ r, p.less q = r := ⟨_, rfl⟩
       rw [hr] at KL hle
       have HR' : Hid (r = true → ∀ (j : Nat) (p q : Pt), j + 1 < k + 1 → L[j]? = some p → L[j + 1]? = some q → p.n < q.n) := fun h j p' q' hj hp' hq' => by
        by_cases e2 : j + 1 = k
        ·have hj' : j = k - 1 := by omega
         subst hj'
         rw [HPQ.out.1] at hp'
         rw [HPQ.out.2] at hq'
         cases hp'
         cases hq'
         exact hle.1 h
        ·exact qr.out j p' q' (by omega) hp' hq'
       have HNR : Hid (r = false → ¬ RightC L K S) := fun h hrc => by
        have := hle.2 (hrc.2.1 _ _ _ HPQ.out.1 HPQ.out.2)
        rw [h] at this
        cases this
       have hk0' : (0 : Int) < (k : Int) := by omega
       have hw1 : IntKind.i64.wrap ((k : Int) - 1) = ((k - 1 : Nat) : Int) := by simp [IntKind.wrap, IntKind.bits, IntKind.signed]; omega
       have hk2 : k - 1 < M := by omega
       obtain ⟨pa, pb, pc⟩ := p
       obtain ⟨ua, ub, uc⟩ := q
       simp only at p0 p1 p2 q0 q1 q2
       clear hr hle hp hq hpo hqo qr HPQ
       cases r
       ·have HF : Hid (¬ RightC L K S) := HNR.out rfl
        clear HNR HR' HCX HNX
        go_wp2
        refine wp_region_noPanic ?_
        refine wp_region_held_drew (S := fun w'' => w''.cell? ⟨w.heap.size, 0, none⟩ = some (.slice (some ⟨b, off, none⟩) M c1) ∧ w''.cell? ⟨w.heap.size, 1, none⟩ = some (.slice (some ⟨b2, off2, none⟩) M c2) ∧ w''.cell? ⟨w.heap.size, 2, none⟩ = some (.slice a3 Q c3) ∧ w''.cell? ⟨b2, off2 + k, none⟩ = some (.int .i64 x) ∧ w''.cell? ⟨b, off + (k - 1) * 3, none⟩ = some (.int .u64 pa) ∧ w''.cell? ⟨b, off + (k - 1) * 3 + 1, none⟩ = some (.int .u64 pb) ∧ w''.cell? ⟨b, off + (k - 1) * 3 + 2, none⟩ = some (.int .u64 pc) ∧ w''.cell? ⟨b, off + k * 3, none⟩ = some (.int .u64 ua) ∧ w''.cell? ⟨b, off + k * 3 + 1, none⟩ = some (.int .u64 ub) ∧ w''.cell? ⟨b, off + k * 3 + 2, none⟩ = some (.int .u64 uc)) (by kernel_rfl) (by exact ⟨kept (below_drew wr) d0, kept (below_drew wr) d1, kept (below_drew wr) d2, kept (below_drew wr) x0, kept (below_drew wr) p0, kept (below_drew wr) p1, kept (below_drew wr) p2, kept (below_drew wr) q0, kept (below_drew wr) q1, kept (below_drew wr) q2⟩) (fun hHeld => ?_)
        refine qtk (i := 0) (oi := lxa18o35) (v := (.int .i64 (k : Int))) hHeld ?_ ?_
        ·intro w9 hSw
         try dsimp only at hSw
         go_simp
        try simp only [qpu]
        refine qtk (i := 1) (oi := lxa18o22) (v := (.bool true)) hHeld ?_ ?_
        ·intro w9 hSw
         try dsimp only at hSw
         go_simp
        try simp only [qpu]
        refine qtk (i := 2) (oi := lxa18o34) (v := (.bool true)) hHeld ?_ ?_
        ·intro w9 hSw
         try dsimp only at hSw
         go_simp
        try simp only [qpu]
        refine qtk (i := 3) (oi := lxa18o28) (v := (.pointer (some ⟨w.heap.size, 0, none⟩))) hHeld ?_ ?_
        ·intro w9 hSw
         try dsimp only at hSw
         go_simp
        try simp only [qpu]
        refine qtk (i := 4) (oi := lxa18o9) (v := (.slice (some ⟨b, off, none⟩) M c1)) hHeld ?_ ?_
        ·intro w9 hSw
         try dsimp only at hSw
         go_simp
        try simp only [qpu]
        refine qtk (i := 5) (oi := lxa18o32) (v := (.int .i64 (k : Int))) hHeld ?_ ?_
        ·intro w9 hSw
         try dsimp only at hSw
         go_simp
        try simp only [qpu]
        refine qtk (i := 6) (oi := lxa18o8) (v := (.int .i64 ((k - 1 : Nat) : Int))) hHeld ?_ ?_
        ·intro w9 hSw
         try dsimp only at hSw
         go_simp
        try simp only [qpu]
        refine qtk (i := 7) (oi := lxa18o4) (v := (.pointer (some ⟨b, off + (k - 1) * 3, none⟩))) hHeld ?_ ?_
        ·intro w9 hSw
         try dsimp only at hSw
         go_simp
        try simp only [qpu]
        refine qtk (i := 8) (oi := lxa18o15) (v := (.agg #[.int .u64 pa, .int .u64 pb, .int .u64 pc])) hHeld ?_ ?_
        ·intro w9 hSw
         try dsimp only at hSw
         go_simp
        try simp only [qpu]
        refine qtk (i := 9) (oi := lxa18o29) (v := (.pointer (some ⟨w.heap.size, 0, none⟩))) hHeld ?_ ?_
        ·intro w9 hSw
         try dsimp only at hSw
         go_simp
        try simp only [qpu]
        refine qtk (i := 10) (oi := lxa18o10) (v := (.slice (some ⟨b, off, none⟩) M c1)) hHeld ?_ ?_
        ·intro w9 hSw
         try dsimp only at hSw
         go_simp
        try simp only [qpu]
        refine qtk (i := 11) (oi := lxa18o33) (v := (.int .i64 (k : Int))) hHeld ?_ ?_
        ·intro w9 hSw
         try dsimp only at hSw
         go_simp
        try simp only [qpu]
        refine qtk (i := 12) (oi := lxa18o3) (v := (.pointer (some ⟨b, off + k * 3, none⟩))) hHeld ?_ ?_
        ·intro w9 hSw
         try dsimp only at hSw
         go_simp
        try simp only [qpu]
        refine qtk (i := 13) (oi := lxa18o14) (v := (.agg #[.int .u64 ua, .int .u64 ub, .int .u64 uc])) hHeld ?_ ?_
        ·intro w9 hSw
         try dsimp only at hSw
         go_simp
        try simp only [qpu]
        refine wpAnyH_ready (rs := [14]) (by kernel_rfl) (by simp) ?_
        refine AllReadyH.cons (o := lxa18o0) rfl (fun K hK => ?_) AllReadyH.nil
        go_simp
        refine Calls.mono (KL.out _) ?_
        rintro e W2 ⟨rfl, bb⟩
        have d0' := kept bb (kept (below_drew wr) d0)
        have d1' := kept bb (kept (below_drew wr) d1)
        have d2' := kept bb (kept (below_drew wr) d2)
        have x0' := kept bb (kept (below_drew wr) x0)
        have p0' := kept bb (kept (below_drew wr) p0)
        have p1' := kept bb (kept (below_drew wr) p1)
        have p2' := kept bb (kept (below_drew wr) p2)
        have q0' := kept bb (kept (below_drew wr) q0)
        have q1' := kept bb (kept (below_drew wr) q1)
        have q2' := kept bb (kept (below_drew wr) q2)
        have qb2 := bel_tr qb.drew bb
        refine hK.out _ _ ?_ (fun hHeld => ?_)
        ·exact ⟨d0', d1', d2', x0', p0', p1', p2', q0', q1', q2'⟩
        clear hK K
        try simp only [qpu]
        refine qtk (i := 15) (oi := lxa18o16) (v := (.bool true)) hHeld ?_ ?_
        ·intro w9 hSw
         try dsimp only at hSw
         go_simp
        try simp only [qpu]
        refine qtk (i := 16) (oi := lxa18o11) (v := (.bool true)) hHeld ?_ ?_
        ·intro w9 hSw
         try dsimp only at hSw
         go_simp
        try simp only [qpu]
        refine qtk (i := 17) (oi := lxa18o23) (v := (.bool true)) hHeld ?_ ?_
        ·intro w9 hSw
         try dsimp only at hSw
         go_simp
        try simp only [qpu]
        refine qtn (i := 18) (oi := lxa18o25) hHeld ?_
        try simp only [qpu]
        refine qtn (i := 19) (oi := lxa18o18) hHeld ?_
        try simp only [qpu]
        refine qtn (i := 20) (oi := lxa18o30) hHeld ?_
        try simp only [qpu]
        refine qtn (i := 21) (oi := lxa18o5) hHeld ?_
        try simp only [qpu]
        refine qtn (i := 22) (oi := lxa18o20) hHeld ?_
        try simp only [qpu]
        refine qtn (i := 23) (oi := lxa18o7) hHeld ?_
        try simp only [qpu]
        refine qtk (i := 24) (oi := lxa18o12) (v := (.bool true)) hHeld ?_ ?_
        ·intro w9 hSw
         try dsimp only at hSw
         go_simp
        try simp only [qpu]
        refine qtk (i := 25) (oi := lxa18o24) (v := (.bool true)) hHeld ?_ ?_
        ·intro w9 hSw
         try dsimp only at hSw
         go_simp
        try simp only [qpu]
        refine qtn (i := 26) (oi := lxa18o26) hHeld ?_
        try simp only [qpu]
        refine qtn (i := 27) (oi := lxa18o19) hHeld ?_
        try simp only [qpu]
        refine qtn (i := 28) (oi := lxa18o31) hHeld ?_
        try simp only [qpu]
        refine qtn (i := 29) (oi := lxa18o6) hHeld ?_
        try simp only [qpu]
        refine qtn (i := 30) (oi := lxa18o21) hHeld ?_
        try simp only [qpu]
        refine qtn (i := 31) (oi := lxa18o27) hHeld ?_
        try simp only [qpu]
        refine qtn (i := 32) (oi := lxa18o17) hHeld ?_
        try simp only [qpu]
        refine qtn (i := 33) (oi := lxa18o1) hHeld ?_
        try simp only [qpu]
        refine qtn (i := 34) (oi := lxa18o2) hHeld ?_
        try simp only [qpu]
        refine qtk (i := 35) (oi := lxa18o13) (v := (.bool true)) hHeld ?_ ?_
        ·intro w9 hSw
         try dsimp only at hSw
         go_simp
        try simp only [qpu]
        refine wpAnyH_done (by kernel_rfl) ?_ _
        refine NoPanic.normal ?_
        have qe := bel_tr HB.out qb2
        go_wp2
        go_ret
        exact ⟨Tells.no HF.out, qe⟩
       ·have HR : Hid (∀ (j : Nat) (p q : Pt), j + 1 < k + 1 → L[j]? = some p → L[j + 1]? = some q → p.n < q.n) := HR'.out rfl
        clear HNR HR'
        by_cases hx0 : x < 0
        ·have HF : Hid (¬ RightC L K S) := HNX.out (by omega)
         have hx1 : decide (x < 0) = true := by rw [decide_eq_true_iff]; exact hx0
         clear HNX HCX
         go_wp2
         refine wp_region_noPanic ?_
         refine wp_region_held_drew (S := fun w'' => w''.cell? ⟨w.heap.size, 0, none⟩ = some (.slice (some ⟨b, off, none⟩) M c1) ∧ w''.cell? ⟨w.heap.size, 1, none⟩ = some (.slice (some ⟨b2, off2, none⟩) M c2) ∧ w''.cell? ⟨w.heap.size, 2, none⟩ = some (.slice a3 Q c3) ∧ w''.cell? ⟨b2, off2 + k, none⟩ = some (.int .i64 x) ∧ w''.cell? ⟨b, off + (k - 1) * 3, none⟩ = some (.int .u64 pa) ∧ w''.cell? ⟨b, off + (k - 1) * 3 + 1, none⟩ = some (.int .u64 pb) ∧ w''.cell? ⟨b, off + (k - 1) * 3 + 2, none⟩ = some (.int .u64 pc) ∧ w''.cell? ⟨b, off + k * 3, none⟩ = some (.int .u64 ua) ∧ w''.cell? ⟨b, off + k * 3 + 1, none⟩ = some (.int .u64 ub) ∧ w''.cell? ⟨b, off + k * 3 + 2, none⟩ = some (.int .u64 uc)) (by kernel_rfl) (by exact ⟨kept (below_drew wr) d0, kept (below_drew wr) d1, kept (below_drew wr) d2, kept (below_drew wr) x0, kept (below_drew wr) p0, kept (below_drew wr) p1, kept (below_drew wr) p2, kept (below_drew wr) q0, kept (below_drew wr) q1, kept (below_drew wr) q2⟩) (fun hHeld => ?_)
         refine qtk (i := 0) (oi := lxa18o35) (v := (.int .i64 (k : Int))) hHeld ?_ ?_
         ·intro w9 hSw
          try dsimp only at hSw
          go_simp
         try simp only [qpu]
         refine qtk (i := 1) (oi := lxa18o22) (v := (.bool true)) hHeld ?_ ?_
         ·intro w9 hSw
          try dsimp only at hSw
          go_simp
         try simp only [qpu]
         refine qtk (i := 2) (oi := lxa18o34) (v := (.bool true)) hHeld ?_ ?_
         ·intro w9 hSw
          try dsimp only at hSw
          go_simp
         try simp only [qpu]
         refine qtk (i := 3) (oi := lxa18o28) (v := (.pointer (some ⟨w.heap.size, 0, none⟩))) hHeld ?_ ?_
         ·intro w9 hSw
          try dsimp only at hSw
          go_simp
         try simp only [qpu]
         refine qtk (i := 4) (oi := lxa18o9) (v := (.slice (some ⟨b, off, none⟩) M c1)) hHeld ?_ ?_
         ·intro w9 hSw
          try dsimp only at hSw
          go_simp
         try simp only [qpu]
         refine qtk (i := 5) (oi := lxa18o32) (v := (.int .i64 (k : Int))) hHeld ?_ ?_
         ·intro w9 hSw
          try dsimp only at hSw
          go_simp
         try simp only [qpu]
         refine qtk (i := 6) (oi := lxa18o8) (v := (.int .i64 ((k - 1 : Nat) : Int))) hHeld ?_ ?_
         ·intro w9 hSw
          try dsimp only at hSw
          go_simp
         try simp only [qpu]
         refine qtk (i := 7) (oi := lxa18o4) (v := (.pointer (some ⟨b, off + (k - 1) * 3, none⟩))) hHeld ?_ ?_
         ·intro w9 hSw
          try dsimp only at hSw
          go_simp
         try simp only [qpu]
         refine qtk (i := 8) (oi := lxa18o15) (v := (.agg #[.int .u64 pa, .int .u64 pb, .int .u64 pc])) hHeld ?_ ?_
         ·intro w9 hSw
          try dsimp only at hSw
          go_simp
         try simp only [qpu]
         refine qtk (i := 9) (oi := lxa18o29) (v := (.pointer (some ⟨w.heap.size, 0, none⟩))) hHeld ?_ ?_
         ·intro w9 hSw
          try dsimp only at hSw
          go_simp
         try simp only [qpu]
         refine qtk (i := 10) (oi := lxa18o10) (v := (.slice (some ⟨b, off, none⟩) M c1)) hHeld ?_ ?_
         ·intro w9 hSw
          try dsimp only at hSw
          go_simp
         try simp only [qpu]
         refine qtk (i := 11) (oi := lxa18o33) (v := (.int .i64 (k : Int))) hHeld ?_ ?_
         ·intro w9 hSw
          try dsimp only at hSw
          go_simp
         try simp only [qpu]
         refine qtk (i := 12) (oi := lxa18o3) (v := (.pointer (some ⟨b, off + k * 3, none⟩))) hHeld ?_ ?_
         ·intro w9 hSw
          try dsimp only at hSw
          go_simp
         try simp only [qpu]
         refine qtk (i := 13) (oi := lxa18o14) (v := (.agg #[.int .u64 ua, .int .u64 ub, .int .u64 uc])) hHeld ?_ ?_
         ·intro w9 hSw
          try dsimp only at hSw
          go_simp
         try simp only [qpu]
         refine wpAnyH_ready (rs := [14]) (by kernel_rfl) (by simp) ?_
         refine AllReadyH.cons (o := lxa18o0) rfl (fun K hK => ?_) AllReadyH.nil
         go_simp
         refine Calls.mono (KL.out _) ?_
         rintro e W2 ⟨rfl, bb⟩
         have d0' := kept bb (kept (below_drew wr) d0)
         have d1' := kept bb (kept (below_drew wr) d1)
         have d2' := kept bb (kept (below_drew wr) d2)
         have x0' := kept bb (kept (below_drew wr) x0)
         have p0' := kept bb (kept (below_drew wr) p0)
         have p1' := kept bb (kept (below_drew wr) p1)
         have p2' := kept bb (kept (below_drew wr) p2)
         have q0' := kept bb (kept (below_drew wr) q0)
         have q1' := kept bb (kept (below_drew wr) q1)
         have q2' := kept bb (kept (below_drew wr) q2)
         have qb2 := bel_tr qb.drew bb
         refine hK.out _ _ ?_ (fun hHeld => ?_)
         ·exact ⟨d0', d1', d2', x0', p0', p1', p2', q0', q1', q2'⟩
         clear hK K
         try simp only [qpu]
         refine qtk (i := 15) (oi := lxa18o16) (v := (.bool false)) hHeld ?_ ?_
         ·intro w9 hSw
          try dsimp only at hSw
          go_simp
         try simp only [qpu]
         refine qtk (i := 16) (oi := lxa18o11) (v := (.bool false)) hHeld ?_ ?_
         ·intro w9 hSw
          try dsimp only at hSw
          go_simp
         try simp only [qpu]
         refine qtk (i := 17) (oi := lxa18o23) (v := (.bool false)) hHeld ?_ ?_
         ·intro w9 hSw
          try dsimp only at hSw
          go_simp
         try simp only [qpu]
         refine qtk (i := 18) (oi := lxa18o25) (v := (.pointer (some ⟨w.heap.size, 1, none⟩))) hHeld ?_ ?_
         ·intro w9 hSw
          try dsimp only at hSw
          go_simp
         try simp only [qpu]
         refine qtk (i := 19) (oi := lxa18o18) (v := (.slice (some ⟨b2, off2, none⟩) M c2)) hHeld ?_ ?_
         ·intro w9 hSw
          try dsimp only at hSw
          go_simp
         try simp only [qpu]
         refine qtk (i := 20) (oi := lxa18o30) (v := (.int .i64 (k : Int))) hHeld ?_ ?_
         ·intro w9 hSw
          try dsimp only at hSw
          go_simp
         try simp only [qpu]
         refine qtk (i := 21) (oi := lxa18o5) (v := (.pointer (some ⟨b2, off2 + k, none⟩))) hHeld ?_ ?_
         ·intro w9 hSw
          try dsimp only at hSw
          go_simp
         try simp only [qpu]
         refine qtk (i := 22) (oi := lxa18o20) (v := (.int .i64 x)) hHeld ?_ ?_
         ·intro w9 hSw
          try dsimp only at hSw
          go_simp
         try simp only [qpu]
         refine qtk (i := 23) (oi := lxa18o7) (v := (.bool true)) hHeld ?_ ?_
         ·intro w9 hSw
          try dsimp only at hSw
          go_simp
         try simp only [qpu]
         refine qtk (i := 24) (oi := lxa18o12) (v := (.bool true)) hHeld ?_ ?_
         ·intro w9 hSw
          try dsimp only at hSw
          go_simp
         try simp only [qpu]
         refine qtk (i := 25) (oi := lxa18o24) (v := (.bool true)) hHeld ?_ ?_
         ·intro w9 hSw
          try dsimp only at hSw
          go_simp
         try simp only [qpu]
         refine qtn (i := 26) (oi := lxa18o26) hHeld ?_
         try simp only [qpu]
         refine qtn (i := 27) (oi := lxa18o19) hHeld ?_
         try simp only [qpu]
         refine qtn (i := 28) (oi := lxa18o31) hHeld ?_
         try simp only [qpu]
         refine qtn (i := 29) (oi := lxa18o6) hHeld ?_
         try simp only [qpu]
         refine qtn (i := 30) (oi := lxa18o21) hHeld ?_
         try simp only [qpu]
         refine qtn (i := 31) (oi := lxa18o27) hHeld ?_
         try simp only [qpu]
         refine qtn (i := 32) (oi := lxa18o17) hHeld ?_
         try simp only [qpu]
         refine qtn (i := 33) (oi := lxa18o1) hHeld ?_
         try simp only [qpu]
         refine qtn (i := 34) (oi := lxa18o2) hHeld ?_
         try simp only [qpu]
         refine qtk (i := 35) (oi := lxa18o13) (v := (.bool true)) hHeld ?_ ?_
         ·intro w9 hSw
          try dsimp only at hSw
          go_simp
         try simp only [qpu]
         refine wpAnyH_done (by kernel_rfl) ?_ _
         refine NoPanic.normal ?_
         have qe := bel_tr HB.out qb2
         go_wp2
         go_ret
         exact ⟨Tells.no HF.out, qe⟩
        ·have hx1 : decide (x < 0) = false := by rw [decide_eq_false_iff_not]; exact hx0
         by_cases hxq : (Q : Int) ≤ x
         ·have HF : Hid (¬ RightC L K S) := HNX.out (by omega)
          have hx2 : decide ((Q : Int) ≤ x) = true := by rw [decide_eq_true_iff]; exact hxq
          clear HNX HCX
          go_wp2
          refine wp_region_noPanic ?_
          refine wp_region_held_drew (S := fun w'' => w''.cell? ⟨w.heap.size, 0, none⟩ = some (.slice (some ⟨b, off, none⟩) M c1) ∧ w''.cell? ⟨w.heap.size, 1, none⟩ = some (.slice (some ⟨b2, off2, none⟩) M c2) ∧ w''.cell? ⟨w.heap.size, 2, none⟩ = some (.slice a3 Q c3) ∧ w''.cell? ⟨b2, off2 + k, none⟩ = some (.int .i64 x) ∧ w''.cell? ⟨b, off + (k - 1) * 3, none⟩ = some (.int .u64 pa) ∧ w''.cell? ⟨b, off + (k - 1) * 3 + 1, none⟩ = some (.int .u64 pb) ∧ w''.cell? ⟨b, off + (k - 1) * 3 + 2, none⟩ = some (.int .u64 pc) ∧ w''.cell? ⟨b, off + k * 3, none⟩ = some (.int .u64 ua) ∧ w''.cell? ⟨b, off + k * 3 + 1, none⟩ = some (.int .u64 ub) ∧ w''.cell? ⟨b, off + k * 3 + 2, none⟩ = some (.int .u64 uc)) (by kernel_rfl) (by exact ⟨kept (below_drew wr) d0, kept (below_drew wr) d1, kept (below_drew wr) d2, kept (below_drew wr) x0, kept (below_drew wr) p0, kept (below_drew wr) p1, kept (below_drew wr) p2, kept (below_drew wr) q0, kept (below_drew wr) q1, kept (below_drew wr) q2⟩) (fun hHeld => ?_)
          refine qtk (i := 0) (oi := lxa18o35) (v := (.int .i64 (k : Int))) hHeld ?_ ?_
          ·intro w9 hSw
           try dsimp only at hSw
           go_simp
          try simp only [qpu]
          refine qtk (i := 1) (oi := lxa18o22) (v := (.bool true)) hHeld ?_ ?_
          ·intro w9 hSw
           try dsimp only at hSw
           go_simp
          try simp only [qpu]
          refine qtk (i := 2) (oi := lxa18o34) (v := (.bool true)) hHeld ?_ ?_
          ·intro w9 hSw
           try dsimp only at hSw
           go_simp
          try simp only [qpu]
          refine qtk (i := 3) (oi := lxa18o28) (v := (.pointer (some ⟨w.heap.size, 0, none⟩))) hHeld ?_ ?_
          ·intro w9 hSw
           try dsimp only at hSw
           go_simp
          try simp only [qpu]
          refine qtk (i := 4) (oi := lxa18o9) (v := (.slice (some ⟨b, off, none⟩) M c1)) hHeld ?_ ?_
          ·intro w9 hSw
           try dsimp only at hSw
           go_simp
          try simp only [qpu]
          refine qtk (i := 5) (oi := lxa18o32) (v := (.int .i64 (k : Int))) hHeld ?_ ?_
          ·intro w9 hSw
           try dsimp only at hSw
           go_simp
          try simp only [qpu]
          refine qtk (i := 6) (oi := lxa18o8) (v := (.int .i64 ((k - 1 : Nat) : Int))) hHeld ?_ ?_
          ·intro w9 hSw
           try dsimp only at hSw
           go_simp
          try simp only [qpu]
          refine qtk (i := 7) (oi := lxa18o4) (v := (.pointer (some ⟨b, off + (k - 1) * 3, none⟩))) hHeld ?_ ?_
          ·intro w9 hSw
           try dsimp only at hSw
           go_simp
          try simp only [qpu]
          refine qtk (i := 8) (oi := lxa18o15) (v := (.agg #[.int .u64 pa, .int .u64 pb, .int .u64 pc])) hHeld ?_ ?_
          ·intro w9 hSw
           try dsimp only at hSw
           go_simp
          try simp only [qpu]
          refine qtk (i := 9) (oi := lxa18o29) (v := (.pointer (some ⟨w.heap.size, 0, none⟩))) hHeld ?_ ?_
          ·intro w9 hSw
           try dsimp only at hSw
           go_simp
          try simp only [qpu]
          refine qtk (i := 10) (oi := lxa18o10) (v := (.slice (some ⟨b, off, none⟩) M c1)) hHeld ?_ ?_
          ·intro w9 hSw
           try dsimp only at hSw
           go_simp
          try simp only [qpu]
          refine qtk (i := 11) (oi := lxa18o33) (v := (.int .i64 (k : Int))) hHeld ?_ ?_
          ·intro w9 hSw
           try dsimp only at hSw
           go_simp
          try simp only [qpu]
          refine qtk (i := 12) (oi := lxa18o3) (v := (.pointer (some ⟨b, off + k * 3, none⟩))) hHeld ?_ ?_
          ·intro w9 hSw
           try dsimp only at hSw
           go_simp
          try simp only [qpu]
          refine qtk (i := 13) (oi := lxa18o14) (v := (.agg #[.int .u64 ua, .int .u64 ub, .int .u64 uc])) hHeld ?_ ?_
          ·intro w9 hSw
           try dsimp only at hSw
           go_simp
          try simp only [qpu]
          refine wpAnyH_ready (rs := [14]) (by kernel_rfl) (by simp) ?_
          refine AllReadyH.cons (o := lxa18o0) rfl (fun K hK => ?_) AllReadyH.nil
          go_simp
          refine Calls.mono (KL.out _) ?_
          rintro e W2 ⟨rfl, bb⟩
          have d0' := kept bb (kept (below_drew wr) d0)
          have d1' := kept bb (kept (below_drew wr) d1)
          have d2' := kept bb (kept (below_drew wr) d2)
          have x0' := kept bb (kept (below_drew wr) x0)
          have p0' := kept bb (kept (below_drew wr) p0)
          have p1' := kept bb (kept (below_drew wr) p1)
          have p2' := kept bb (kept (below_drew wr) p2)
          have q0' := kept bb (kept (below_drew wr) q0)
          have q1' := kept bb (kept (below_drew wr) q1)
          have q2' := kept bb (kept (below_drew wr) q2)
          have qb2 := bel_tr qb.drew bb
          refine hK.out _ _ ?_ (fun hHeld => ?_)
          ·exact ⟨d0', d1', d2', x0', p0', p1', p2', q0', q1', q2'⟩
          clear hK K
          try simp only [qpu]
          refine qtk (i := 15) (oi := lxa18o16) (v := (.bool false)) hHeld ?_ ?_
          ·intro w9 hSw
           try dsimp only at hSw
           go_simp
          try simp only [qpu]
          refine qtk (i := 16) (oi := lxa18o11) (v := (.bool false)) hHeld ?_ ?_
          ·intro w9 hSw
           try dsimp only at hSw
           go_simp
          try simp only [qpu]
          refine qtk (i := 17) (oi := lxa18o23) (v := (.bool false)) hHeld ?_ ?_
          ·intro w9 hSw
           try dsimp only at hSw
           go_simp
          try simp only [qpu]
          refine qtk (i := 18) (oi := lxa18o25) (v := (.pointer (some ⟨w.heap.size, 1, none⟩))) hHeld ?_ ?_
          ·intro w9 hSw
           try dsimp only at hSw
           go_simp
          try simp only [qpu]
          refine qtk (i := 19) (oi := lxa18o18) (v := (.slice (some ⟨b2, off2, none⟩) M c2)) hHeld ?_ ?_
          ·intro w9 hSw
           try dsimp only at hSw
           go_simp
          try simp only [qpu]
          refine qtk (i := 20) (oi := lxa18o30) (v := (.int .i64 (k : Int))) hHeld ?_ ?_
          ·intro w9 hSw
           try dsimp only at hSw
           go_simp
          try simp only [qpu]
          refine qtk (i := 21) (oi := lxa18o5) (v := (.pointer (some ⟨b2, off2 + k, none⟩))) hHeld ?_ ?_
          ·intro w9 hSw
           try dsimp only at hSw
           go_simp
          try simp only [qpu]
          refine qtk (i := 22) (oi := lxa18o20) (v := (.int .i64 x)) hHeld ?_ ?_
          ·intro w9 hSw
           try dsimp only at hSw
           go_simp
          try simp only [qpu]
          refine qtk (i := 23) (oi := lxa18o7) (v := (.bool false)) hHeld ?_ ?_
          ·intro w9 hSw
           try dsimp only at hSw
           go_simp
          try simp only [qpu]
          refine qtk (i := 24) (oi := lxa18o12) (v := (.bool false)) hHeld ?_ ?_
          ·intro w9 hSw
           try dsimp only at hSw
           go_simp
          try simp only [qpu]
          refine qtk (i := 25) (oi := lxa18o24) (v := (.bool false)) hHeld ?_ ?_
          ·intro w9 hSw
           try dsimp only at hSw
           go_simp
          try simp only [qpu]
          refine qtk (i := 26) (oi := lxa18o26) (v := (.pointer (some ⟨w.heap.size, 1, none⟩))) hHeld ?_ ?_
          ·intro w9 hSw
           try dsimp only at hSw
           go_simp
          try simp only [qpu]
          refine qtk (i := 27) (oi := lxa18o19) (v := (.slice (some ⟨b2, off2, none⟩) M c2)) hHeld ?_ ?_
          ·intro w9 hSw
           try dsimp only at hSw
           go_simp
          try simp only [qpu]
          refine qtk (i := 28) (oi := lxa18o31) (v := (.int .i64 (k : Int))) hHeld ?_ ?_
          ·intro w9 hSw
           try dsimp only at hSw
           go_simp
          try simp only [qpu]
          refine qtk (i := 29) (oi := lxa18o6) (v := (.pointer (some ⟨b2, off2 + k, none⟩))) hHeld ?_ ?_
          ·intro w9 hSw
           try dsimp only at hSw
           go_simp
          try simp only [qpu]
          refine qtk (i := 30) (oi := lxa18o21) (v := (.int .i64 x)) hHeld ?_ ?_
          ·intro w9 hSw
           try dsimp only at hSw
           go_simp
          try simp only [qpu]
          refine qtk (i := 31) (oi := lxa18o27) (v := (.pointer (some ⟨w.heap.size, 2, none⟩))) hHeld ?_ ?_
          ·intro w9 hSw
           try dsimp only at hSw
           go_simp
          try simp only [qpu]
          refine qtk (i := 32) (oi := lxa18o17) (v := (.slice a3 Q c3)) hHeld ?_ ?_
          ·intro w9 hSw
           try dsimp only at hSw
           go_simp
          try simp only [qpu]
          refine qtk (i := 33) (oi := lxa18o1) (v := (.int .i64 (Q : Int))) hHeld ?_ ?_
          ·intro w9 hSw
           try dsimp only at hSw
           go_simp
          try simp only [qpu]
          refine qtk (i := 34) (oi := lxa18o2) (v := (.bool true)) hHeld ?_ ?_
          ·intro w9 hSw
           try dsimp only at hSw
           go_simp
          try simp only [qpu]
          refine qtk (i := 35) (oi := lxa18o13) (v := (.bool true)) hHeld ?_ ?_
          ·intro w9 hSw
           try dsimp only at hSw
           go_simp
          try simp only [qpu]
          refine wpAnyH_done (by kernel_rfl) ?_ _
          refine NoPanic.normal ?_
          have qe := bel_tr HB.out qb2
          go_wp2
          go_ret
          exact ⟨Tells.no HF.out, qe⟩
         ·have HC : Hid (∀ (j : Nat) (y : Int), j < k + 1 → K[j]? = some y → 0 ≤ y ∧ y < (Q : Int)) := HCX.out (by omega) (by omega)
          have hx2 : decide ((Q : Int) ≤ x) = false := by rw [decide_eq_false_iff_not]; exact hxq
          clear HNX HCX
          go_wp2
          refine wp_region_noPanic ?_
          refine wp_region_held_drew (S := fun w'' => w''.cell? ⟨w.heap.size, 0, none⟩ = some (.slice (some ⟨b, off, none⟩) M c1) ∧ w''.cell? ⟨w.heap.size, 1, none⟩ = some (.slice (some ⟨b2, off2, none⟩) M c2) ∧ w''.cell? ⟨w.heap.size, 2, none⟩ = some (.slice a3 Q c3) ∧ w''.cell? ⟨b2, off2 + k, none⟩ = some (.int .i64 x) ∧ w''.cell? ⟨b, off + (k - 1) * 3, none⟩ = some (.int .u64 pa) ∧ w''.cell? ⟨b, off + (k - 1) * 3 + 1, none⟩ = some (.int .u64 pb) ∧ w''.cell? ⟨b, off + (k - 1) * 3 + 2, none⟩ = some (.int .u64 pc) ∧ w''.cell? ⟨b, off + k * 3, none⟩ = some (.int .u64 ua) ∧ w''.cell? ⟨b, off + k * 3 + 1, none⟩ = some (.int .u64 ub) ∧ w''.cell? ⟨b, off + k * 3 + 2, none⟩ = some (.int .u64 uc)) (by kernel_rfl) (by exact ⟨kept (below_drew wr) d0, kept (below_drew wr) d1, kept (below_drew wr) d2, kept (below_drew wr) x0, kept (below_drew wr) p0, kept (below_drew wr) p1, kept (below_drew wr) p2, kept (below_drew wr) q0, kept (below_drew wr) q1, kept (below_drew wr) q2⟩) (fun hHeld => ?_)
          refine qtk (i := 0) (oi := lxa18o35) (v := (.int .i64 (k : Int))) hHeld ?_ ?_
          ·intro w9 hSw
           try dsimp only at hSw
           go_simp
          try simp only [qpu]
          refine qtk (i := 1) (oi := lxa18o22) (v := (.bool true)) hHeld ?_ ?_
          ·intro w9 hSw
           try dsimp only at hSw
           go_simp
          try simp only [qpu]
          refine qtk (i := 2) (oi := lxa18o34) (v := (.bool true)) hHeld ?_ ?_
          ·intro w9 hSw
           try dsimp only at hSw
           go_simp
          try simp only [qpu]
          refine qtk (i := 3) (oi := lxa18o28) (v := (.pointer (some ⟨w.heap.size, 0, none⟩))) hHeld ?_ ?_
          ·intro w9 hSw
           try dsimp only at hSw
           go_simp
          try simp only [qpu]
          refine qtk (i := 4) (oi := lxa18o9) (v := (.slice (some ⟨b, off, none⟩) M c1)) hHeld ?_ ?_
          ·intro w9 hSw
           try dsimp only at hSw
           go_simp
          try simp only [qpu]
          refine qtk (i := 5) (oi := lxa18o32) (v := (.int .i64 (k : Int))) hHeld ?_ ?_
          ·intro w9 hSw
           try dsimp only at hSw
           go_simp
          try simp only [qpu]
          refine qtk (i := 6) (oi := lxa18o8) (v := (.int .i64 ((k - 1 : Nat) : Int))) hHeld ?_ ?_
          ·intro w9 hSw
           try dsimp only at hSw
           go_simp
          try simp only [qpu]
          refine qtk (i := 7) (oi := lxa18o4) (v := (.pointer (some ⟨b, off + (k - 1) * 3, none⟩))) hHeld ?_ ?_
          ·intro w9 hSw
           try dsimp only at hSw
           go_simp
          try simp only [qpu]
          refine qtk (i := 8) (oi := lxa18o15) (v := (.agg #[.int .u64 pa, .int .u64 pb, .int .u64 pc])) hHeld ?_ ?_
          ·intro w9 hSw
           try dsimp only at hSw
           go_simp
          try simp only [qpu]
          refine qtk (i := 9) (oi := lxa18o29) (v := (.pointer (some ⟨w.heap.size, 0, none⟩))) hHeld ?_ ?_
          ·intro w9 hSw
           try dsimp only at hSw
           go_simp
          try simp only [qpu]
          refine qtk (i := 10) (oi := lxa18o10) (v := (.slice (some ⟨b, off, none⟩) M c1)) hHeld ?_ ?_
          ·intro w9 hSw
           try dsimp only at hSw
           go_simp
          try simp only [qpu]
          refine qtk (i := 11) (oi := lxa18o33) (v := (.int .i64 (k : Int))) hHeld ?_ ?_
          ·intro w9 hSw
           try dsimp only at hSw
           go_simp
          try simp only [qpu]
          refine qtk (i := 12) (oi := lxa18o3) (v := (.pointer (some ⟨b, off + k * 3, none⟩))) hHeld ?_ ?_
          ·intro w9 hSw
           try dsimp only at hSw
           go_simp
          try simp only [qpu]
          refine qtk (i := 13) (oi := lxa18o14) (v := (.agg #[.int .u64 ua, .int .u64 ub, .int .u64 uc])) hHeld ?_ ?_
          ·intro w9 hSw
           try dsimp only at hSw
           go_simp
          try simp only [qpu]
          refine wpAnyH_ready (rs := [14]) (by kernel_rfl) (by simp) ?_
          refine AllReadyH.cons (o := lxa18o0) rfl (fun K hK => ?_) AllReadyH.nil
          go_simp
          refine Calls.mono (KL.out _) ?_
          rintro e W2 ⟨rfl, bb⟩
          have d0' := kept bb (kept (below_drew wr) d0)
          have d1' := kept bb (kept (below_drew wr) d1)
          have d2' := kept bb (kept (below_drew wr) d2)
          have x0' := kept bb (kept (below_drew wr) x0)
          have p0' := kept bb (kept (below_drew wr) p0)
          have p1' := kept bb (kept (below_drew wr) p1)
          have p2' := kept bb (kept (below_drew wr) p2)
          have q0' := kept bb (kept (below_drew wr) q0)
          have q1' := kept bb (kept (below_drew wr) q1)
          have q2' := kept bb (kept (below_drew wr) q2)
          have qb2 := bel_tr qb.drew bb
          refine hK.out _ _ ?_ (fun hHeld => ?_)
          ·exact ⟨d0', d1', d2', x0', p0', p1', p2', q0', q1', q2'⟩
          clear hK K
          try simp only [qpu]
          refine qtk (i := 15) (oi := lxa18o16) (v := (.bool false)) hHeld ?_ ?_
          ·intro w9 hSw
           try dsimp only at hSw
           go_simp
          try simp only [qpu]
          refine qtk (i := 16) (oi := lxa18o11) (v := (.bool false)) hHeld ?_ ?_
          ·intro w9 hSw
           try dsimp only at hSw
           go_simp
          try simp only [qpu]
          refine qtk (i := 17) (oi := lxa18o23) (v := (.bool false)) hHeld ?_ ?_
          ·intro w9 hSw
           try dsimp only at hSw
           go_simp
          try simp only [qpu]
          refine qtk (i := 18) (oi := lxa18o25) (v := (.pointer (some ⟨w.heap.size, 1, none⟩))) hHeld ?_ ?_
          ·intro w9 hSw
           try dsimp only at hSw
           go_simp
          try simp only [qpu]
          refine qtk (i := 19) (oi := lxa18o18) (v := (.slice (some ⟨b2, off2, none⟩) M c2)) hHeld ?_ ?_
          ·intro w9 hSw
           try dsimp only at hSw
           go_simp
          try simp only [qpu]
          refine qtk (i := 20) (oi := lxa18o30) (v := (.int .i64 (k : Int))) hHeld ?_ ?_
          ·intro w9 hSw
           try dsimp only at hSw
           go_simp
          try simp only [qpu]
          refine qtk (i := 21) (oi := lxa18o5) (v := (.pointer (some ⟨b2, off2 + k, none⟩))) hHeld ?_ ?_
          ·intro w9 hSw
           try dsimp only at hSw
           go_simp
          try simp only [qpu]
          refine qtk (i := 22) (oi := lxa18o20) (v := (.int .i64 x)) hHeld ?_ ?_
          ·intro w9 hSw
           try dsimp only at hSw
           go_simp
          try simp only [qpu]
          refine qtk (i := 23) (oi := lxa18o7) (v := (.bool false)) hHeld ?_ ?_
          ·intro w9 hSw
           try dsimp only at hSw
           go_simp
          try simp only [qpu]
          refine qtk (i := 24) (oi := lxa18o12) (v := (.bool false)) hHeld ?_ ?_
          ·intro w9 hSw
           try dsimp only at hSw
           go_simp
          try simp only [qpu]
          refine qtk (i := 25) (oi := lxa18o24) (v := (.bool false)) hHeld ?_ ?_
          ·intro w9 hSw
           try dsimp only at hSw
           go_simp
          try simp only [qpu]
          refine qtk (i := 26) (oi := lxa18o26) (v := (.pointer (some ⟨w.heap.size, 1, none⟩))) hHeld ?_ ?_
          ·intro w9 hSw
           try dsimp only at hSw
           go_simp
          try simp only [qpu]
          refine qtk (i := 27) (oi := lxa18o19) (v := (.slice (some ⟨b2, off2, none⟩) M c2)) hHeld ?_ ?_
          ·intro w9 hSw
           try dsimp only at hSw
           go_simp
          try simp only [qpu]
          refine qtk (i := 28) (oi := lxa18o31) (v := (.int .i64 (k : Int))) hHeld ?_ ?_
          ·intro w9 hSw
           try dsimp only at hSw
           go_simp
          try simp only [qpu]
          refine qtk (i := 29) (oi := lxa18o6) (v := (.pointer (some ⟨b2, off2 + k, none⟩))) hHeld ?_ ?_
          ·intro w9 hSw
           try dsimp only at hSw
           go_simp
          try simp only [qpu]
          refine qtk (i := 30) (oi := lxa18o21) (v := (.int .i64 x)) hHeld ?_ ?_
          ·intro w9 hSw
           try dsimp only at hSw
           go_simp
          try simp only [qpu]
          refine qtk (i := 31) (oi := lxa18o27) (v := (.pointer (some ⟨w.heap.size, 2, none⟩))) hHeld ?_ ?_
          ·intro w9 hSw
           try dsimp only at hSw
           go_simp
          try simp only [qpu]
          refine qtk (i := 32) (oi := lxa18o17) (v := (.slice a3 Q c3)) hHeld ?_ ?_
          ·intro w9 hSw
           try dsimp only at hSw
           go_simp
          try simp only [qpu]
          refine qtk (i := 33) (oi := lxa18o1) (v := (.int .i64 (Q : Int))) hHeld ?_ ?_
          ·intro w9 hSw
           try dsimp only at hSw
           go_simp
          try simp only [qpu]
          refine qtk (i := 34) (oi := lxa18o2) (v := (.bool false)) hHeld ?_ ?_
          ·intro w9 hSw
           try dsimp only at hSw
           go_simp
          try simp only [qpu]
          refine qtk (i := 35) (oi := lxa18o13) (v := (.bool false)) hHeld ?_ ?_
          ·intro w9 hSw
           try dsimp only at hSw
           go_simp
          try simp only [qpu]
          refine wpAnyH_done (by kernel_rfl) ?_ _
          refine NoPanic.normal ?_
          have qe := qb2
          go_wp2
          exact ⟨⟨k + 1, by omega, by first | rfl | (congr 1), qe, HR, HC⟩, by simp only [intOf]; omega⟩
     ·have ik : ¬ (k : Int) < (M : Int) := by omega
      have HRP : Hid (RiseP L) := fun j p q hp hq => qr.out j p q (by have := (List.getElem?_eq_some_iff.1 hq).1; have := HN.out.1; omega) hp hq
      have HRK : Hid (RightK K Q) := fun x hx => by
       obtain ⟨j, hj⟩ := List.getElem?_of_mem hx
       exact qc.out j x (by have := (List.getElem?_eq_some_iff.1 hj).1; have := HN.out.2.1; omega) hj
      clear qr qc
      go_wp2_with fail
      clear d0 d1 d2
      go_loopw [4] (fun i wr => ∃ (k : Nat), k ≤ Q ∧ i = .int .i64 k ∧ Below W1.heap.size W1 wr ∧ Hid (∀ (j : Nat) (s : List Int), j < k → S[j]? = some s → RiseI s)) (fun i _ => Q - (intOf i).toNat)
      case atStart => exact ⟨0, Nat.zero_le _, rfl, qb, fun j x hj => by omega⟩
      case round =>
       obtain ⟨k2, hk2, rfl, qb2, qs⟩ := hrel
       have d2 := kept qb2 HD.out.2.2
       by_cases hlt : k2 < Q
       ·have ik2 : (k2 : Int) < (Q : Int) := by omega
        obtain ⟨s, hs1⟩ : ∃ s, S[k2]? = some s := ⟨_, List.getElem?_eq_getElem (by rw [HN.out.2.2]; exact hlt)⟩
        have HS1 : Hid (S[k2]? = some s) := hs1
        obtain ⟨b3, off3, ai, ci, ha3, y0, r0⟩ := (H3.out.below qb2).cells k2 s hs1
        have KD : Hid _ := KS.out wr ai ci s r0
        subst ha3
        have hw3 : IntKind.i64.wrap ((k2 : Int) + 1) = ((k2 + 1 : Nat) : Int) := by simp [IntKind.wrap, IntKind.bits, IntKind.signed]; omega
        obtain ⟨n1, hn1⟩ : ∃ n, s.length = n := ⟨_, rfl⟩
        rw [hn1] at y0 KD
        clear hs1 hn1 r0
        go_wp2_with fail
        refine Calls.mono KD.out ?_
        rintro e W3 ⟨⟨r, rfl, hr⟩, bb⟩
        have HR : Hid (r = true ↔ RiseI s) := hr
        have qb3 := bel_tr qb2 bb
        clear hr bb KD y0 d2
        cases r
        ·have HF : Hid (¬ RightC L K S) := fun h => by have := HR.out.2 (h.2.2.2.2 s (List.mem_of_getElem? HS1.out)); cases this
         have qe := bel_tr HB.out qb3
         go_wp2
         go_ret
         exact ⟨Tells.no HF.out, qe⟩
        ·have HQS : Hid (∀ (j : Nat) (s : List Int), j < k2 + 1 → S[j]? = some s → RiseI s) := fun j t hj ht => by
          by_cases e : j = k2
          ·subst e
           rw [HS1.out] at ht
           cases ht
           exact HR.out.1 rfl
          ·exact qs.out j t (by omega) ht
         clear qs
         go_wp2
         exact ⟨⟨k2 + 1, by omega, by first | rfl | (congr 1), qb3, HQS⟩, by simp only [intOf]; omega⟩
       ·have ik2 : ¬ (k2 : Int) < (Q : Int) := by omega
        have HT : Hid (RightC L K S) := by
         refine ⟨by rw [HP.out, HPZ.out], HRP.out, by rw [HN.out.2.1, HN.out.1], by rw [HN.out.2.2]; exact HRK.out, fun s hs' => ?_⟩
         obtain ⟨j, hj⟩ := List.getElem?_of_mem hs'
         exact qs.out j s (by have := (List.getElem?_eq_some_iff.1 hj).1; have := HN.out.2.2; omega) hj
        have qe := bel_tr HB.out qb2
        clear qs
        go_wp2
        go_ret
        exact ⟨Tells.yes HT.out, qe⟩
   ·have hMN' : ((M : Int) != (N : Int)) = true := by simp; omega
    have HF : Hid (¬ RightC L K S) := fun h => by have := h.2.2.1; rw [HN.out.1, HN.out.2.1] at this; exact hMN this
    clear hMN
    go_enter Tryz.func25, Tryz.ntmps25
    go_wp2
    go_ret
    exact ⟨Tells.no HF.out, b1⟩
  ·have HF : Hid (¬ RightC L K S) := fun h => by have := h.1; rw [HP.out] at this; exact hp0 (Option.some.inj this)
   obtain ⟨pa, pb, pc⟩ := t0
   have hne := pt_ne hp0
   simp only [pt0] at hne p0 p1 p2
   clear hp0
   rcases hne with hne | ⟨rfl, hne⟩ | ⟨rfl, rfl, hne⟩
   all_goals (
    go_enter Tryz.func25, Tryz.ntmps25
    go_wp2
    go_ret
    exact ⟨Tells.no HF.out, b1⟩)
end Go.Proofs.YtmfgjicfdjjihaaGreatDoor
