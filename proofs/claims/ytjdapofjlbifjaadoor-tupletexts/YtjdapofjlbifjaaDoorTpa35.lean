/- Texts joined: TuI -/
import Derived.Test.YtjdapofjlbifjaaDoorTpa29
import Derived.Test.YtjdapofjlbifjaaDoorTpa34
namespace Go.Proofs.YtjdapofjlbifjaaDoor
abbrev tpa35o0 : Oper := { dst := some 2, op := Op.assign (.tmp 28), type := 9, pos := "ref.go:66", after := #[{ on := 13, ground := Ground.data }, { on := 12, ground := Ground.chain }, { on := 0, ground := Ground.phase }, { on := 1, ground := Ground.phase }, { on := 2, ground := Ground.phase }, { on := 3, ground := Ground.phase }, { on := 4, ground := Ground.phase }, { on := 5, ground := Ground.phase }, { on := 6, ground := Ground.phase }, { on := 7, ground := Ground.phase }, { on := 8, ground := Ground.phase }, { on := 9, ground := Ground.phase }, { on := 10, ground := Ground.phase }, { on := 11, ground := Ground.phase }, { on := 12, ground := Ground.phase }, { on := 13, ground := Ground.phase }], guard := none }
abbrev tpa35o1 : Oper := { dst := some 27, op := Op.call { callee := Callee.value (.func 34), args := #[.tmp 24, .tmp 26], argTypes := #[24, 3] }, type := 9, pos := "ref.go:66", after := #[{ on := 9, ground := Ground.data }, { on := 11, ground := Ground.data }, { on := 5, ground := Ground.chain }], guard := none }
abbrev tpa35o2 : Oper := { dst := some 20, op := Op.call { callee := Callee.value (.func 34), args := #[.tmp 17, .tmp 19], argTypes := #[24, 3] }, type := 9, pos := "ref.go:66", after := #[{ on := 2, ground := Ground.data }, { on := 4, ground := Ground.data }], guard := none }
abbrev tpa35o3 : Oper := { dst := some 22, op := Op.binOp BinOp.add 9 (.tmp 21) (.const (Value.string { data := #[32, 62, 32] })) 9, type := 9, pos := "ref.go:66", after := #[{ on := 6, ground := Ground.data }], guard := none }
abbrev tpa35o4 : Oper := { dst := some 28, op := Op.binOp BinOp.add 9 (.tmp 22) (.tmp 27) 9, type := 9, pos := "ref.go:66", after := #[{ on := 7, ground := Ground.data }, { on := 12, ground := Ground.data }], guard := none }
abbrev tpa35o5 : Oper := { dst := some 21, op := Op.binOp BinOp.add 9 (.tmp 15) (.tmp 20) 9, type := 9, pos := "ref.go:66", after := #[{ on := 0, ground := Ground.data }, { on := 5, ground := Ground.data }], guard := none }
abbrev tpa35o6 : Oper := { dst := some 17, op := Op.load 24 (.tmp 16), type := 24, pos := "ref.go:66", after := #[{ on := 1, ground := Ground.data }], guard := none }
abbrev tpa35o7 : Oper := { dst := some 24, op := Op.load 24 (.tmp 23), type := 24, pos := "ref.go:66", after := #[{ on := 8, ground := Ground.data }], guard := none }
abbrev tpa35o8 : Oper := { dst := some 26, op := Op.load 3 (.tmp 25), type := 3, pos := "ref.go:66", after := #[{ on := 10, ground := Ground.data }], guard := none }
abbrev tpa35o9 : Oper := { dst := some 19, op := Op.load 3 (.tmp 18), type := 3, pos := "ref.go:66", after := #[{ on := 3, ground := Ground.data }], guard := none }
abbrev tpa35o10 : Oper := { dst := some 16, op := Op.fieldAddr 26 (.tmp 1) 2, type := 0, pos := "ref.go:66", after := #[], guard := none }
abbrev tpa35o11 : Oper := { dst := some 18, op := Op.fieldAddr 26 (.tmp 1) 4, type := 0, pos := "ref.go:66", after := #[], guard := none }
abbrev tpa35o12 : Oper := { dst := some 23, op := Op.fieldAddr 26 (.tmp 1) 3, type := 0, pos := "ref.go:66", after := #[], guard := none }
abbrev tpa35o13 : Oper := { dst := some 25, op := Op.fieldAddr 26 (.tmp 1) 5, type := 0, pos := "ref.go:66", after := #[], guard := none }
abbrev tpa35o14 : Oper := { dst := some 15, op := Op.move (.tmp 3), type := 9, pos := "ref.go:66", after := #[], guard := none }
end Go.Proofs.YtjdapofjlbifjaaDoor
namespace Go.Proofs.YtjdapofjlbifjaaDoor
open Go.RowKit
set_option linter.unusedVariables false
set_option linter.unusedSimpArgs false
set_option maxRecDepth 100000 in
set_option maxHeartbeats 2000000 in
theorem rend_t (f h l p : Int) (w : World) (ho : Ad.ok ⟨f, h, l⟩) (hp0 : 0 ≤ p) (hp1 : p ≤ 65535) :
    Calls Tryd.prog 34 #[.agg #[.int .i64 f, .int .u64 h, .int .u64 l], .int .i64 p] w fun e w' => e = .returned (.string (ByteArray.mk (sideT ⟨f, h, l⟩ p).toArray)) ∧ Below w.heap.size w w' := by
  obtain ⟨T, hT⟩ : ∃ T, sideT ⟨f, h, l⟩ p = T := ⟨_, rfl⟩
  rw [hT]
  have HT : Hid ((if f = 6 then [91] ++ Ad.text ⟨f, h, l⟩ ++ [93] else Ad.text ⟨f, h, l⟩) ++ [58] ++ Lib.itoa p = T) := hT
  have hlen := text_len2 ho
  have hil := itoa_len hp0 hp1
  have ktx := fun w => rtext_any f h l w ho
  generalize Ad.text ⟨f, h, l⟩ = X at *
  clear hT ho
  obtain ⟨W0, hW0⟩ : ∃ W0, w.alloc (.cells #[.int .i64 f, .int .u64 h, .int .u64 l] 24) = W0 := ⟨_, rfl⟩
  have A0 : W0.cell? ⟨w.heap.size, 0, none⟩ = some (.int .i64 f) := by rw [← hW0]; simp
  have A1 : W0.cell? ⟨w.heap.size, 1, none⟩ = some (.int .u64 h) := by rw [← hW0]; simp
  have A2 : W0.cell? ⟨w.heap.size, 2, none⟩ = some (.int .u64 l) := by rw [← hW0]; simp
  have B0 : Below w.heap.size w W0 := by rw [← hW0]; exact (Below.refl _ _).alloc (Nat.le_refl _) _
  have z0 := B0.size
  obtain ⟨pn, rfl⟩ := Int.eq_ofNat_of_zero_le hp0
  have kD : Hid (∀ W', Calls Tryd.prog 45 #[.int .i64 (pn : Int), .int .i64 10] W' fun e w' => e = .returned (.string (ByteArray.mk (Lib.itoa (pn : Int)).toArray)) ∧ Below W'.heap.size W' w') := fun W' => by
    have hdg := rdigits10_any pn W' (by omega)
    rw [dg10 40 pn [] (by show pn < 2 ^ 40; omega) (by omega), List.append_nil, ← Lib.itoa_nonneg] at hdg
    refine hdg.mono ?_
    rintro e w' ⟨rfl, n, rfl⟩
    exact ⟨rfl, below_drewN (Below.refl _ _) n⟩
  go_enter Tryd.func34, Tryd.ntmps34
  go_wp2_with fail
  clear hW0
  refine (ktx W0).mono ?_
  rintro e w1 ⟨rfl, b1⟩
  have B1 : Below w.heap.size w w1 := B0.trans (b1.mono z0)
  replace A0 := kept b1 A0
  clear ktx b1 B0 A1 A2 z0
  by_cases h6 : f = 6
  · rw [if_pos h6] at HT
    have a1 : ∀ W, (Op.stringOp .add (ByteArray.mk #[91]) (ByteArray.mk X.toArray)).run Tryd.prog W = .ok (.string (ByteArray.mk ([91] ++ X).toArray)) W := add_lists2 [91] X (by simp) (by omega)
    have l1 : ([91] ++ X).length ≤ 1001 := by simp; omega
    generalize [91] ++ X = X1 at *
    have a2 : ∀ W, (Op.stringOp .add (ByteArray.mk X1.toArray) (ByteArray.mk #[93])).run Tryd.prog W = .ok (.string (ByteArray.mk (X1 ++ [93]).toArray)) W := add_lists2 X1 [93] (by omega) (by simp)
    have l2 : (X1 ++ [93]).length ≤ 1002 := by simp; omega
    generalize X1 ++ [93] = X2 at *
    have a3 : ∀ W, (Op.stringOp .add (ByteArray.mk X2.toArray) (ByteArray.mk #[58])).run Tryd.prog W = .ok (.string (ByteArray.mk (X2 ++ [58]).toArray)) W := add_lists2 X2 [58] (by omega) (by simp)
    have l3 : (X2 ++ [58]).length ≤ 1003 := by simp; omega
    generalize X2 ++ [58] = X3 at *
    have a4 := add_lists2 X3 (Lib.itoa (pn : Int)) (by omega) (by omega)
    rw [HT.out] at a4
    clear HT
    generalize Lib.itoa (pn : Int) = D at *
    have n6 : (f == 6) = true := by simpa using h6
    clear h6
    go_wp2_with (go_at_call 45; refine (kD.out _).mono ?_; rintro e w2 ⟨rfl, b2⟩)
    go_ret
    exact ⟨rfl, bel_tr B1 b2⟩
  · rw [if_neg h6] at HT
    have a3 : ∀ W, (Op.stringOp .add (ByteArray.mk X.toArray) (ByteArray.mk #[58])).run Tryd.prog W = .ok (.string (ByteArray.mk (X ++ [58]).toArray)) W := add_lists2 X [58] (by omega) (by simp)
    have l3 : (X ++ [58]).length ≤ 1003 := by simp; omega
    generalize X ++ [58] = X3 at *
    have a4 := add_lists2 X3 (Lib.itoa (pn : Int)) (by omega) (by omega)
    rw [HT.out] at a4
    clear HT
    generalize Lib.itoa (pn : Int) = D at *
    have n6 : (f == 6) = false := by simpa using h6
    clear h6
    go_wp2_with (go_at_call 45; refine (kD.out _).mono ?_; rintro e w2 ⟨rfl, b2⟩)
    go_ret
    exact ⟨rfl, bel_tr B1 b2⟩
set_option maxRecDepth 100000 in
set_option maxHeartbeats 4000000 in
theorem rtext_tcp (f pr sf sh sl df dh dl sp dp : Int) (w : World) (ho : Wy.ok ⟨f, pr, ⟨sf, sh, sl⟩, ⟨df, dh, dl⟩, sp, dp⟩) (hR : Wy.right ⟨f, pr, ⟨sf, sh, sl⟩, ⟨df, dh, dl⟩, sp, dp⟩ = true) (h1 : pr = 6) :
    Calls Tryd.prog 17 #[.agg #[.int .i64 f, .int .i64 pr, .int .i64 sf, .int .u64 sh, .int .u64 sl, .int .i64 df, .int .u64 dh, .int .u64 dl, .int .i64 sp, .int .i64 dp]] w fun e w' => e = .returned (.string (ByteArray.mk (Wy.text ⟨f, pr, ⟨sf, sh, sl⟩, ⟨df, dh, dl⟩, sp, dp⟩).toArray)) ∧ Below w.heap.size w w' := by
  have KR : Hid (∀ W, Calls Tryd.prog 10 #[.agg #[.int .i64 f, .int .i64 pr, .int .i64 sf, .int .u64 sh, .int .u64 sl, .int .i64 df, .int .u64 dh, .int .u64 dl, .int .i64 sp, .int .i64 dp]] W _) := fun W => rright_t ⟨f, pr, ⟨sf, sh, sl⟩, ⟨df, dh, dl⟩, sp, dp⟩ W ho
  rw [hR] at KR
  obtain ⟨T, hT⟩ : ∃ T, Wy.text ⟨f, pr, ⟨sf, sh, sl⟩, ⟨df, dh, dl⟩, sp, dp⟩ = T := ⟨_, rfl⟩
  rw [hT]
  obtain ⟨q1, q2, q3⟩ := Wy.right_iff.1 hR
  have Q1 := sideB_iff.1 q1
  have Q2 := sideB_iff.1 q2
  simp only at Q1 Q2 q3
  have hN : nameB f pr ++ [32] = [116, 99, 112, 32] := by
    rw [h1]; rfl
  have hT' : [116, 99, 112, 32] ++ sideT ⟨sf, sh, sl⟩ sp ++ [32, 62, 32] ++ sideT ⟨df, dh, dl⟩ dp = T := by
    rw [← hT, ← hN]; unfold Wy.text; rw [if_pos hR]
  have K1 : Hid (∀ W, Calls Tryd.prog 34 #[.agg #[.int .i64 sf, .int .u64 sh, .int .u64 sl], .int .i64 sp] W _) := fun W => rend_t sf sh sl sp W ho.s Q1.2.2.1 Q1.2.2.2
  have K2 : Hid (∀ W, Calls Tryd.prog 34 #[.agg #[.int .i64 df, .int .u64 dh, .int .u64 dl], .int .i64 dp] W _) := fun W => rend_t df dh dl dp W ho.d Q2.2.2.1 Q2.2.2.2
  have l1 := side_len ho.s Q1.2.2.1 Q1.2.2.2
  have l2 := side_len ho.d Q2.2.2.1 Q2.2.2.2
  simp only at l1 l2
  clear ho hT hR q1 q2 q3 Q1 Q2 hN
  generalize sideT ⟨sf, sh, sl⟩ sp = S1 at *
  generalize sideT ⟨df, dh, dl⟩ dp = S2 at *
  have a2 : ∀ W, (Op.stringOp .add (ByteArray.mk #[116, 99, 112, 32]) (ByteArray.mk S1.toArray)).run Tryd.prog W = .ok (.string (ByteArray.mk ([116, 99, 112, 32] ++ S1).toArray)) W := add_lists2 [116, 99, 112, 32] S1 (by simp) (by omega)
  have m2 : (([116, 99, 112, 32] : List UInt8) ++ S1).length ≤ 1106 := by rw [List.length_append]; simp only [List.length_cons, List.length_nil]; omega
  generalize [116, 99, 112, 32] ++ S1 = X2 at *
  have a3 : ∀ W, (Op.stringOp .add (ByteArray.mk X2.toArray) (ByteArray.mk #[32, 62, 32])).run Tryd.prog W = .ok (.string (ByteArray.mk (X2 ++ [32, 62, 32]).toArray)) W := add_lists2 X2 [32, 62, 32] (by omega) (by simp)
  have m3 : (X2 ++ [32, 62, 32]).length ≤ 1109 := by simp; omega
  generalize X2 ++ [32, 62, 32] = X3 at *
  have a4 := add_lists2 X3 S2 (by omega) (by omega)
  rw [hT'] at a4
  clear hT' l1 l2 m2 m3
  obtain ⟨W1, hW1⟩ : ∃ W1, w.alloc (.cells #[.int .i64 f, .int .i64 pr, .int .i64 sf, .int .u64 sh, .int .u64 sl, .int .i64 df, .int .u64 dh, .int .u64 dl, .int .i64 sp, .int .i64 dp] 26) = W1 := ⟨_, rfl⟩
  have b1 := bel_nw hW1
  have A1 := blk_nw hW1
  obtain ⟨k0, k1, k2, k3, k4, k5, k6, k7, k8, k9⟩ := Blk.wy (r := ⟨f, pr, ⟨sf, sh, sl⟩, ⟨df, dh, dl⟩, sp, dp⟩) A1
  have n1 : (pr == 6) = true := by simpa using h1
  clear h1
  go_enter Tryd.func17, Tryd.ntmps17
  go_wp2_with fail
  refine (KR.out _).mono ?_
  rintro e W2 ⟨rfl, bb⟩
  have A2 := A1.kept bb
  have b2 := bel_tr b1 bb
  clear k0 k1 k2 k3 k4 k5 k6 k7 k8 k9 bb KR A1 b1 hW1
  obtain ⟨k0, k1, k2, k3, k4, k5, k6, k7, k8, k9⟩ := Blk.wy (r := ⟨f, pr, ⟨sf, sh, sl⟩, ⟨df, dh, dl⟩, sp, dp⟩) A2
  go_wp2_with fail
  clear k0 k1 k2 k3 k4 k5 k6 k7 k8 k9
  have Ad_ := A2.drew
  have bd := b2.drew
  refine wp_region_noPanic ?_
  refine wp_region_held_drew (S := fun w' => Blk w' w.heap.size 26 #[.int .i64 f, .int .i64 pr, .int .i64 sf, .int .u64 sh, .int .u64 sl, .int .i64 df, .int .u64 dh, .int .u64 dl, .int .i64 sp, .int .i64 dp]) (by kernel_rfl) (by exact Ad_) (fun hHeld => ?_)
  refine wpAnyH_take (i := 0) (oi := tpa35o14) (v := (.string (ByteArray.mk #[116, 99, 112, 32]))) rfl (by kernel_rfl) (by kernel_rfl) (by kernel_rfl) (fun _ _ _ h => h) (Or.inl ⟨by rfl, ?_⟩) hHeld ?_
  · intro w9 hSw
    try dsimp only at hSw
    go_simp
  try simp only [Act.put, List.setIfInBounds_toArray, List.set_cons_zero, List.set_cons_succ]
  refine wpAnyH_take (i := 1) (oi := tpa35o10) (v := (.pointer (some ⟨w.heap.size, 2, none⟩))) rfl (by kernel_rfl) (by kernel_rfl) (by kernel_rfl) (fun _ _ _ h => h) (Or.inl ⟨by rfl, ?_⟩) hHeld ?_
  · intro w9 hSw
    try dsimp only at hSw
    go_simp
  try simp only [Act.put, List.setIfInBounds_toArray, List.set_cons_zero, List.set_cons_succ]
  refine wpAnyH_take (i := 2) (oi := tpa35o6) (v := (.agg #[.int .i64 sf, .int .u64 sh, .int .u64 sl])) rfl (by kernel_rfl) (by kernel_rfl) (by kernel_rfl) (fun _ _ _ h => h) (Or.inl ⟨by rfl, ?_⟩) hHeld ?_
  · intro w9 hSw
    try dsimp only at hSw
    have hcc := Blk.wy (r := ⟨f, pr, ⟨sf, sh, sl⟩, ⟨df, dh, dl⟩, sp, dp⟩) hSw
    go_simp
  try simp only [Act.put, List.setIfInBounds_toArray, List.set_cons_zero, List.set_cons_succ]
  refine wpAnyH_take (i := 3) (oi := tpa35o11) (v := (.pointer (some ⟨w.heap.size, 8, none⟩))) rfl (by kernel_rfl) (by kernel_rfl) (by kernel_rfl) (fun _ _ _ h => h) (Or.inl ⟨by rfl, ?_⟩) hHeld ?_
  · intro w9 hSw
    try dsimp only at hSw
    go_simp
  try simp only [Act.put, List.setIfInBounds_toArray, List.set_cons_zero, List.set_cons_succ]
  refine wpAnyH_take (i := 4) (oi := tpa35o9) (v := (.int .i64 sp)) rfl (by kernel_rfl) (by kernel_rfl) (by kernel_rfl) (fun _ _ _ h => h) (Or.inl ⟨by rfl, ?_⟩) hHeld ?_
  · intro w9 hSw
    try dsimp only at hSw
    have hcc := Blk.wy (r := ⟨f, pr, ⟨sf, sh, sl⟩, ⟨df, dh, dl⟩, sp, dp⟩) hSw
    go_simp
  try simp only [Act.put, List.setIfInBounds_toArray, List.set_cons_zero, List.set_cons_succ]
  refine wpAnyH_take (i := 8) (oi := tpa35o12) (v := (.pointer (some ⟨w.heap.size, 5, none⟩))) rfl (by kernel_rfl) (by kernel_rfl) (by kernel_rfl) (fun _ _ _ h => h) (Or.inl ⟨by rfl, ?_⟩) hHeld ?_
  · intro w9 hSw
    try dsimp only at hSw
    go_simp
  try simp only [Act.put, List.setIfInBounds_toArray, List.set_cons_zero, List.set_cons_succ]
  refine wpAnyH_take (i := 9) (oi := tpa35o7) (v := (.agg #[.int .i64 df, .int .u64 dh, .int .u64 dl])) rfl (by kernel_rfl) (by kernel_rfl) (by kernel_rfl) (fun _ _ _ h => h) (Or.inl ⟨by rfl, ?_⟩) hHeld ?_
  · intro w9 hSw
    try dsimp only at hSw
    have hcc := Blk.wy (r := ⟨f, pr, ⟨sf, sh, sl⟩, ⟨df, dh, dl⟩, sp, dp⟩) hSw
    go_simp
  try simp only [Act.put, List.setIfInBounds_toArray, List.set_cons_zero, List.set_cons_succ]
  refine wpAnyH_take (i := 10) (oi := tpa35o13) (v := (.pointer (some ⟨w.heap.size, 9, none⟩))) rfl (by kernel_rfl) (by kernel_rfl) (by kernel_rfl) (fun _ _ _ h => h) (Or.inl ⟨by rfl, ?_⟩) hHeld ?_
  · intro w9 hSw
    try dsimp only at hSw
    go_simp
  try simp only [Act.put, List.setIfInBounds_toArray, List.set_cons_zero, List.set_cons_succ]
  refine wpAnyH_take (i := 11) (oi := tpa35o8) (v := (.int .i64 dp)) rfl (by kernel_rfl) (by kernel_rfl) (by kernel_rfl) (fun _ _ _ h => h) (Or.inl ⟨by rfl, ?_⟩) hHeld ?_
  · intro w9 hSw
    try dsimp only at hSw
    have hcc := Blk.wy (r := ⟨f, pr, ⟨sf, sh, sl⟩, ⟨df, dh, dl⟩, sp, dp⟩) hSw
    go_simp
  try simp only [Act.put, List.setIfInBounds_toArray, List.set_cons_zero, List.set_cons_succ]
  refine wpAnyH_ready (rs := [5]) (by kernel_rfl) (by simp) ?_
  refine AllReadyH.cons (o := tpa35o2) rfl (fun K hK => ?_) AllReadyH.nil
  go_simp
  refine Calls.mono (K1.out _) ?_
  rintro e W6 ⟨rfl, bb⟩
  have AW6 := Ad_.kept bb
  have bW6 := bel_tr bd bb
  clear bb
  refine hK.out _ _ (by exact AW6) (fun hHeld => ?_)
  clear hK K
  try simp only [Act.put, List.setIfInBounds_toArray, List.set_cons_zero, List.set_cons_succ]
  refine wpAnyH_take (i := 6) (oi := tpa35o5) (v := (.string (ByteArray.mk X2.toArray))) rfl (by kernel_rfl) (by kernel_rfl) (by kernel_rfl) (fun _ _ _ h => h) (Or.inl ⟨by rfl, ?_⟩) hHeld ?_
  · intro w9 hSw
    try dsimp only at hSw
    go_simp
  try simp only [Act.put, List.setIfInBounds_toArray, List.set_cons_zero, List.set_cons_succ]
  refine wpAnyH_take (i := 7) (oi := tpa35o3) (v := (.string (ByteArray.mk X3.toArray))) rfl (by kernel_rfl) (by kernel_rfl) (by kernel_rfl) (fun _ _ _ h => h) (Or.inl ⟨by rfl, ?_⟩) hHeld ?_
  · intro w9 hSw
    try dsimp only at hSw
    go_simp
  try simp only [Act.put, List.setIfInBounds_toArray, List.set_cons_zero, List.set_cons_succ]
  refine wpAnyH_ready (rs := [12]) (by kernel_rfl) (by simp) ?_
  refine AllReadyH.cons (o := tpa35o1) rfl (fun K hK => ?_) AllReadyH.nil
  go_simp
  refine Calls.mono (K2.out _) ?_
  rintro e W7 ⟨rfl, bb⟩
  have AW7 := AW6.kept bb
  have bW7 := bel_tr bW6 bb
  clear bb
  refine hK.out _ _ (by exact AW7) (fun hHeld => ?_)
  clear hK K
  try simp only [Act.put, List.setIfInBounds_toArray, List.set_cons_zero, List.set_cons_succ]
  refine wpAnyH_take (i := 13) (oi := tpa35o4) (v := (.string (ByteArray.mk T.toArray))) rfl (by kernel_rfl) (by kernel_rfl) (by kernel_rfl) (fun _ _ _ h => h) (Or.inl ⟨by rfl, ?_⟩) hHeld ?_
  · intro w9 hSw
    try dsimp only at hSw
    go_simp
  try simp only [Act.put, List.setIfInBounds_toArray, List.set_cons_zero, List.set_cons_succ]
  refine wpAnyH_take (i := 14) (oi := tpa35o0) (v := (.string (ByteArray.mk T.toArray))) rfl (by kernel_rfl) (by kernel_rfl) (by kernel_rfl) (fun _ _ _ h => h) (Or.inl ⟨by rfl, ?_⟩) hHeld ?_
  · intro w9 hSw
    try dsimp only at hSw
    go_simp
  try simp only [Act.put, List.setIfInBounds_toArray, List.set_cons_zero, List.set_cons_succ]
  refine wpAnyH_done (by kernel_rfl) ?_ _
  refine NoPanic.normal ?_
  go_wp2
  go_ret
  exact ⟨rfl, bW7⟩
set_option maxRecDepth 100000 in
set_option maxHeartbeats 4000000 in
theorem rtext_udp (f pr sf sh sl df dh dl sp dp : Int) (w : World) (ho : Wy.ok ⟨f, pr, ⟨sf, sh, sl⟩, ⟨df, dh, dl⟩, sp, dp⟩) (hR : Wy.right ⟨f, pr, ⟨sf, sh, sl⟩, ⟨df, dh, dl⟩, sp, dp⟩ = true) (h1 : pr = 17) :
    Calls Tryd.prog 17 #[.agg #[.int .i64 f, .int .i64 pr, .int .i64 sf, .int .u64 sh, .int .u64 sl, .int .i64 df, .int .u64 dh, .int .u64 dl, .int .i64 sp, .int .i64 dp]] w fun e w' => e = .returned (.string (ByteArray.mk (Wy.text ⟨f, pr, ⟨sf, sh, sl⟩, ⟨df, dh, dl⟩, sp, dp⟩).toArray)) ∧ Below w.heap.size w w' := by
  have KR : Hid (∀ W, Calls Tryd.prog 10 #[.agg #[.int .i64 f, .int .i64 pr, .int .i64 sf, .int .u64 sh, .int .u64 sl, .int .i64 df, .int .u64 dh, .int .u64 dl, .int .i64 sp, .int .i64 dp]] W _) := fun W => rright_t ⟨f, pr, ⟨sf, sh, sl⟩, ⟨df, dh, dl⟩, sp, dp⟩ W ho
  rw [hR] at KR
  obtain ⟨T, hT⟩ : ∃ T, Wy.text ⟨f, pr, ⟨sf, sh, sl⟩, ⟨df, dh, dl⟩, sp, dp⟩ = T := ⟨_, rfl⟩
  rw [hT]
  obtain ⟨q1, q2, q3⟩ := Wy.right_iff.1 hR
  have Q1 := sideB_iff.1 q1
  have Q2 := sideB_iff.1 q2
  simp only at Q1 Q2 q3
  have hN : nameB f pr ++ [32] = [117, 100, 112, 32] := by
    rw [h1]; rfl
  have hT' : [117, 100, 112, 32] ++ sideT ⟨sf, sh, sl⟩ sp ++ [32, 62, 32] ++ sideT ⟨df, dh, dl⟩ dp = T := by
    rw [← hT, ← hN]; unfold Wy.text; rw [if_pos hR]
  have K1 : Hid (∀ W, Calls Tryd.prog 34 #[.agg #[.int .i64 sf, .int .u64 sh, .int .u64 sl], .int .i64 sp] W _) := fun W => rend_t sf sh sl sp W ho.s Q1.2.2.1 Q1.2.2.2
  have K2 : Hid (∀ W, Calls Tryd.prog 34 #[.agg #[.int .i64 df, .int .u64 dh, .int .u64 dl], .int .i64 dp] W _) := fun W => rend_t df dh dl dp W ho.d Q2.2.2.1 Q2.2.2.2
  have l1 := side_len ho.s Q1.2.2.1 Q1.2.2.2
  have l2 := side_len ho.d Q2.2.2.1 Q2.2.2.2
  simp only at l1 l2
  clear ho hT hR q1 q2 q3 Q1 Q2 hN
  generalize sideT ⟨sf, sh, sl⟩ sp = S1 at *
  generalize sideT ⟨df, dh, dl⟩ dp = S2 at *
  have a2 : ∀ W, (Op.stringOp .add (ByteArray.mk #[117, 100, 112, 32]) (ByteArray.mk S1.toArray)).run Tryd.prog W = .ok (.string (ByteArray.mk ([117, 100, 112, 32] ++ S1).toArray)) W := add_lists2 [117, 100, 112, 32] S1 (by simp) (by omega)
  have m2 : (([117, 100, 112, 32] : List UInt8) ++ S1).length ≤ 1106 := by rw [List.length_append]; simp only [List.length_cons, List.length_nil]; omega
  generalize [117, 100, 112, 32] ++ S1 = X2 at *
  have a3 : ∀ W, (Op.stringOp .add (ByteArray.mk X2.toArray) (ByteArray.mk #[32, 62, 32])).run Tryd.prog W = .ok (.string (ByteArray.mk (X2 ++ [32, 62, 32]).toArray)) W := add_lists2 X2 [32, 62, 32] (by omega) (by simp)
  have m3 : (X2 ++ [32, 62, 32]).length ≤ 1109 := by simp; omega
  generalize X2 ++ [32, 62, 32] = X3 at *
  have a4 := add_lists2 X3 S2 (by omega) (by omega)
  rw [hT'] at a4
  clear hT' l1 l2 m2 m3
  obtain ⟨W1, hW1⟩ : ∃ W1, w.alloc (.cells #[.int .i64 f, .int .i64 pr, .int .i64 sf, .int .u64 sh, .int .u64 sl, .int .i64 df, .int .u64 dh, .int .u64 dl, .int .i64 sp, .int .i64 dp] 26) = W1 := ⟨_, rfl⟩
  have b1 := bel_nw hW1
  have A1 := blk_nw hW1
  obtain ⟨k0, k1, k2, k3, k4, k5, k6, k7, k8, k9⟩ := Blk.wy (r := ⟨f, pr, ⟨sf, sh, sl⟩, ⟨df, dh, dl⟩, sp, dp⟩) A1
  have n1 : (pr == 6) = false := by rw [h1]; rfl
  have n2 : (pr == 17) = true := by simpa using h1
  clear h1
  go_enter Tryd.func17, Tryd.ntmps17
  go_wp2_with fail
  refine (KR.out _).mono ?_
  rintro e W2 ⟨rfl, bb⟩
  have A2 := A1.kept bb
  have b2 := bel_tr b1 bb
  clear k0 k1 k2 k3 k4 k5 k6 k7 k8 k9 bb KR A1 b1 hW1
  obtain ⟨k0, k1, k2, k3, k4, k5, k6, k7, k8, k9⟩ := Blk.wy (r := ⟨f, pr, ⟨sf, sh, sl⟩, ⟨df, dh, dl⟩, sp, dp⟩) A2
  go_wp2_with fail
  clear k0 k1 k2 k3 k4 k5 k6 k7 k8 k9
  have Ad_ := A2.drew
  have bd := b2.drew
  refine wp_region_noPanic ?_
  refine wp_region_held_drew (S := fun w' => Blk w' w.heap.size 26 #[.int .i64 f, .int .i64 pr, .int .i64 sf, .int .u64 sh, .int .u64 sl, .int .i64 df, .int .u64 dh, .int .u64 dl, .int .i64 sp, .int .i64 dp]) (by kernel_rfl) (by exact Ad_) (fun hHeld => ?_)
  refine wpAnyH_take (i := 0) (oi := tpa35o14) (v := (.string (ByteArray.mk #[117, 100, 112, 32]))) rfl (by kernel_rfl) (by kernel_rfl) (by kernel_rfl) (fun _ _ _ h => h) (Or.inl ⟨by rfl, ?_⟩) hHeld ?_
  · intro w9 hSw
    try dsimp only at hSw
    go_simp
  try simp only [Act.put, List.setIfInBounds_toArray, List.set_cons_zero, List.set_cons_succ]
  refine wpAnyH_take (i := 1) (oi := tpa35o10) (v := (.pointer (some ⟨w.heap.size, 2, none⟩))) rfl (by kernel_rfl) (by kernel_rfl) (by kernel_rfl) (fun _ _ _ h => h) (Or.inl ⟨by rfl, ?_⟩) hHeld ?_
  · intro w9 hSw
    try dsimp only at hSw
    go_simp
  try simp only [Act.put, List.setIfInBounds_toArray, List.set_cons_zero, List.set_cons_succ]
  refine wpAnyH_take (i := 2) (oi := tpa35o6) (v := (.agg #[.int .i64 sf, .int .u64 sh, .int .u64 sl])) rfl (by kernel_rfl) (by kernel_rfl) (by kernel_rfl) (fun _ _ _ h => h) (Or.inl ⟨by rfl, ?_⟩) hHeld ?_
  · intro w9 hSw
    try dsimp only at hSw
    have hcc := Blk.wy (r := ⟨f, pr, ⟨sf, sh, sl⟩, ⟨df, dh, dl⟩, sp, dp⟩) hSw
    go_simp
  try simp only [Act.put, List.setIfInBounds_toArray, List.set_cons_zero, List.set_cons_succ]
  refine wpAnyH_take (i := 3) (oi := tpa35o11) (v := (.pointer (some ⟨w.heap.size, 8, none⟩))) rfl (by kernel_rfl) (by kernel_rfl) (by kernel_rfl) (fun _ _ _ h => h) (Or.inl ⟨by rfl, ?_⟩) hHeld ?_
  · intro w9 hSw
    try dsimp only at hSw
    go_simp
  try simp only [Act.put, List.setIfInBounds_toArray, List.set_cons_zero, List.set_cons_succ]
  refine wpAnyH_take (i := 4) (oi := tpa35o9) (v := (.int .i64 sp)) rfl (by kernel_rfl) (by kernel_rfl) (by kernel_rfl) (fun _ _ _ h => h) (Or.inl ⟨by rfl, ?_⟩) hHeld ?_
  · intro w9 hSw
    try dsimp only at hSw
    have hcc := Blk.wy (r := ⟨f, pr, ⟨sf, sh, sl⟩, ⟨df, dh, dl⟩, sp, dp⟩) hSw
    go_simp
  try simp only [Act.put, List.setIfInBounds_toArray, List.set_cons_zero, List.set_cons_succ]
  refine wpAnyH_take (i := 8) (oi := tpa35o12) (v := (.pointer (some ⟨w.heap.size, 5, none⟩))) rfl (by kernel_rfl) (by kernel_rfl) (by kernel_rfl) (fun _ _ _ h => h) (Or.inl ⟨by rfl, ?_⟩) hHeld ?_
  · intro w9 hSw
    try dsimp only at hSw
    go_simp
  try simp only [Act.put, List.setIfInBounds_toArray, List.set_cons_zero, List.set_cons_succ]
  refine wpAnyH_take (i := 9) (oi := tpa35o7) (v := (.agg #[.int .i64 df, .int .u64 dh, .int .u64 dl])) rfl (by kernel_rfl) (by kernel_rfl) (by kernel_rfl) (fun _ _ _ h => h) (Or.inl ⟨by rfl, ?_⟩) hHeld ?_
  · intro w9 hSw
    try dsimp only at hSw
    have hcc := Blk.wy (r := ⟨f, pr, ⟨sf, sh, sl⟩, ⟨df, dh, dl⟩, sp, dp⟩) hSw
    go_simp
  try simp only [Act.put, List.setIfInBounds_toArray, List.set_cons_zero, List.set_cons_succ]
  refine wpAnyH_take (i := 10) (oi := tpa35o13) (v := (.pointer (some ⟨w.heap.size, 9, none⟩))) rfl (by kernel_rfl) (by kernel_rfl) (by kernel_rfl) (fun _ _ _ h => h) (Or.inl ⟨by rfl, ?_⟩) hHeld ?_
  · intro w9 hSw
    try dsimp only at hSw
    go_simp
  try simp only [Act.put, List.setIfInBounds_toArray, List.set_cons_zero, List.set_cons_succ]
  refine wpAnyH_take (i := 11) (oi := tpa35o8) (v := (.int .i64 dp)) rfl (by kernel_rfl) (by kernel_rfl) (by kernel_rfl) (fun _ _ _ h => h) (Or.inl ⟨by rfl, ?_⟩) hHeld ?_
  · intro w9 hSw
    try dsimp only at hSw
    have hcc := Blk.wy (r := ⟨f, pr, ⟨sf, sh, sl⟩, ⟨df, dh, dl⟩, sp, dp⟩) hSw
    go_simp
  try simp only [Act.put, List.setIfInBounds_toArray, List.set_cons_zero, List.set_cons_succ]
  refine wpAnyH_ready (rs := [5]) (by kernel_rfl) (by simp) ?_
  refine AllReadyH.cons (o := tpa35o2) rfl (fun K hK => ?_) AllReadyH.nil
  go_simp
  refine Calls.mono (K1.out _) ?_
  rintro e W6 ⟨rfl, bb⟩
  have AW6 := Ad_.kept bb
  have bW6 := bel_tr bd bb
  clear bb
  refine hK.out _ _ (by exact AW6) (fun hHeld => ?_)
  clear hK K
  try simp only [Act.put, List.setIfInBounds_toArray, List.set_cons_zero, List.set_cons_succ]
  refine wpAnyH_take (i := 6) (oi := tpa35o5) (v := (.string (ByteArray.mk X2.toArray))) rfl (by kernel_rfl) (by kernel_rfl) (by kernel_rfl) (fun _ _ _ h => h) (Or.inl ⟨by rfl, ?_⟩) hHeld ?_
  · intro w9 hSw
    try dsimp only at hSw
    go_simp
  try simp only [Act.put, List.setIfInBounds_toArray, List.set_cons_zero, List.set_cons_succ]
  refine wpAnyH_take (i := 7) (oi := tpa35o3) (v := (.string (ByteArray.mk X3.toArray))) rfl (by kernel_rfl) (by kernel_rfl) (by kernel_rfl) (fun _ _ _ h => h) (Or.inl ⟨by rfl, ?_⟩) hHeld ?_
  · intro w9 hSw
    try dsimp only at hSw
    go_simp
  try simp only [Act.put, List.setIfInBounds_toArray, List.set_cons_zero, List.set_cons_succ]
  refine wpAnyH_ready (rs := [12]) (by kernel_rfl) (by simp) ?_
  refine AllReadyH.cons (o := tpa35o1) rfl (fun K hK => ?_) AllReadyH.nil
  go_simp
  refine Calls.mono (K2.out _) ?_
  rintro e W7 ⟨rfl, bb⟩
  have AW7 := AW6.kept bb
  have bW7 := bel_tr bW6 bb
  clear bb
  refine hK.out _ _ (by exact AW7) (fun hHeld => ?_)
  clear hK K
  try simp only [Act.put, List.setIfInBounds_toArray, List.set_cons_zero, List.set_cons_succ]
  refine wpAnyH_take (i := 13) (oi := tpa35o4) (v := (.string (ByteArray.mk T.toArray))) rfl (by kernel_rfl) (by kernel_rfl) (by kernel_rfl) (fun _ _ _ h => h) (Or.inl ⟨by rfl, ?_⟩) hHeld ?_
  · intro w9 hSw
    try dsimp only at hSw
    go_simp
  try simp only [Act.put, List.setIfInBounds_toArray, List.set_cons_zero, List.set_cons_succ]
  refine wpAnyH_take (i := 14) (oi := tpa35o0) (v := (.string (ByteArray.mk T.toArray))) rfl (by kernel_rfl) (by kernel_rfl) (by kernel_rfl) (fun _ _ _ h => h) (Or.inl ⟨by rfl, ?_⟩) hHeld ?_
  · intro w9 hSw
    try dsimp only at hSw
    go_simp
  try simp only [Act.put, List.setIfInBounds_toArray, List.set_cons_zero, List.set_cons_succ]
  refine wpAnyH_done (by kernel_rfl) ?_ _
  refine NoPanic.normal ?_
  go_wp2
  go_ret
  exact ⟨rfl, bW7⟩
set_option maxRecDepth 100000 in
set_option maxHeartbeats 4000000 in
theorem rtext_icmp (f pr sf sh sl df dh dl sp dp : Int) (w : World) (ho : Wy.ok ⟨f, pr, ⟨sf, sh, sl⟩, ⟨df, dh, dl⟩, sp, dp⟩) (hR : Wy.right ⟨f, pr, ⟨sf, sh, sl⟩, ⟨df, dh, dl⟩, sp, dp⟩ = true) (h1 : pr = 1) :
    Calls Tryd.prog 17 #[.agg #[.int .i64 f, .int .i64 pr, .int .i64 sf, .int .u64 sh, .int .u64 sl, .int .i64 df, .int .u64 dh, .int .u64 dl, .int .i64 sp, .int .i64 dp]] w fun e w' => e = .returned (.string (ByteArray.mk (Wy.text ⟨f, pr, ⟨sf, sh, sl⟩, ⟨df, dh, dl⟩, sp, dp⟩).toArray)) ∧ Below w.heap.size w w' := by
  have KR : Hid (∀ W, Calls Tryd.prog 10 #[.agg #[.int .i64 f, .int .i64 pr, .int .i64 sf, .int .u64 sh, .int .u64 sl, .int .i64 df, .int .u64 dh, .int .u64 dl, .int .i64 sp, .int .i64 dp]] W _) := fun W => rright_t ⟨f, pr, ⟨sf, sh, sl⟩, ⟨df, dh, dl⟩, sp, dp⟩ W ho
  rw [hR] at KR
  obtain ⟨T, hT⟩ : ∃ T, Wy.text ⟨f, pr, ⟨sf, sh, sl⟩, ⟨df, dh, dl⟩, sp, dp⟩ = T := ⟨_, rfl⟩
  rw [hT]
  obtain ⟨q1, q2, q3⟩ := Wy.right_iff.1 hR
  have Q1 := sideB_iff.1 q1
  have Q2 := sideB_iff.1 q2
  simp only at Q1 Q2 q3
  have hN : nameB f pr ++ [32] = [105, 99, 109, 112, 32] := by
    unfold nameB at q3 ⊢; rw [h1] at q3 ⊢; by_cases h4 : f = 4 <;> simp [h4] at q3 ⊢
  have hT' : [105, 99, 109, 112, 32] ++ sideT ⟨sf, sh, sl⟩ sp ++ [32, 62, 32] ++ sideT ⟨df, dh, dl⟩ dp = T := by
    rw [← hT, ← hN]; unfold Wy.text; rw [if_pos hR]
  have K1 : Hid (∀ W, Calls Tryd.prog 34 #[.agg #[.int .i64 sf, .int .u64 sh, .int .u64 sl], .int .i64 sp] W _) := fun W => rend_t sf sh sl sp W ho.s Q1.2.2.1 Q1.2.2.2
  have K2 : Hid (∀ W, Calls Tryd.prog 34 #[.agg #[.int .i64 df, .int .u64 dh, .int .u64 dl], .int .i64 dp] W _) := fun W => rend_t df dh dl dp W ho.d Q2.2.2.1 Q2.2.2.2
  have l1 := side_len ho.s Q1.2.2.1 Q1.2.2.2
  have l2 := side_len ho.d Q2.2.2.1 Q2.2.2.2
  simp only at l1 l2
  clear ho hT hR q1 q2 q3 Q1 Q2 hN
  generalize sideT ⟨sf, sh, sl⟩ sp = S1 at *
  generalize sideT ⟨df, dh, dl⟩ dp = S2 at *
  have a2 : ∀ W, (Op.stringOp .add (ByteArray.mk #[105, 99, 109, 112, 32]) (ByteArray.mk S1.toArray)).run Tryd.prog W = .ok (.string (ByteArray.mk ([105, 99, 109, 112, 32] ++ S1).toArray)) W := add_lists2 [105, 99, 109, 112, 32] S1 (by simp) (by omega)
  have m2 : (([105, 99, 109, 112, 32] : List UInt8) ++ S1).length ≤ 1106 := by rw [List.length_append]; simp only [List.length_cons, List.length_nil]; omega
  generalize [105, 99, 109, 112, 32] ++ S1 = X2 at *
  have a3 : ∀ W, (Op.stringOp .add (ByteArray.mk X2.toArray) (ByteArray.mk #[32, 62, 32])).run Tryd.prog W = .ok (.string (ByteArray.mk (X2 ++ [32, 62, 32]).toArray)) W := add_lists2 X2 [32, 62, 32] (by omega) (by simp)
  have m3 : (X2 ++ [32, 62, 32]).length ≤ 1109 := by simp; omega
  generalize X2 ++ [32, 62, 32] = X3 at *
  have a4 := add_lists2 X3 S2 (by omega) (by omega)
  rw [hT'] at a4
  clear hT' l1 l2 m2 m3
  obtain ⟨W1, hW1⟩ : ∃ W1, w.alloc (.cells #[.int .i64 f, .int .i64 pr, .int .i64 sf, .int .u64 sh, .int .u64 sl, .int .i64 df, .int .u64 dh, .int .u64 dl, .int .i64 sp, .int .i64 dp] 26) = W1 := ⟨_, rfl⟩
  have b1 := bel_nw hW1
  have A1 := blk_nw hW1
  obtain ⟨k0, k1, k2, k3, k4, k5, k6, k7, k8, k9⟩ := Blk.wy (r := ⟨f, pr, ⟨sf, sh, sl⟩, ⟨df, dh, dl⟩, sp, dp⟩) A1
  have n1 : (pr == 6) = false := by rw [h1]; rfl
  have n2 : (pr == 17) = false := by rw [h1]; rfl
  have n3 : (pr == 1) = true := by simpa using h1
  clear h1
  go_enter Tryd.func17, Tryd.ntmps17
  go_wp2_with fail
  refine (KR.out _).mono ?_
  rintro e W2 ⟨rfl, bb⟩
  have A2 := A1.kept bb
  have b2 := bel_tr b1 bb
  clear k0 k1 k2 k3 k4 k5 k6 k7 k8 k9 bb KR A1 b1 hW1
  obtain ⟨k0, k1, k2, k3, k4, k5, k6, k7, k8, k9⟩ := Blk.wy (r := ⟨f, pr, ⟨sf, sh, sl⟩, ⟨df, dh, dl⟩, sp, dp⟩) A2
  go_wp2_with fail
  clear k0 k1 k2 k3 k4 k5 k6 k7 k8 k9
  have Ad_ := A2.drew
  have bd := b2.drew
  refine wp_region_noPanic ?_
  refine wp_region_held_drew (S := fun w' => Blk w' w.heap.size 26 #[.int .i64 f, .int .i64 pr, .int .i64 sf, .int .u64 sh, .int .u64 sl, .int .i64 df, .int .u64 dh, .int .u64 dl, .int .i64 sp, .int .i64 dp]) (by kernel_rfl) (by exact Ad_) (fun hHeld => ?_)
  refine wpAnyH_take (i := 0) (oi := tpa35o14) (v := (.string (ByteArray.mk #[105, 99, 109, 112, 32]))) rfl (by kernel_rfl) (by kernel_rfl) (by kernel_rfl) (fun _ _ _ h => h) (Or.inl ⟨by rfl, ?_⟩) hHeld ?_
  · intro w9 hSw
    try dsimp only at hSw
    go_simp
  try simp only [Act.put, List.setIfInBounds_toArray, List.set_cons_zero, List.set_cons_succ]
  refine wpAnyH_take (i := 1) (oi := tpa35o10) (v := (.pointer (some ⟨w.heap.size, 2, none⟩))) rfl (by kernel_rfl) (by kernel_rfl) (by kernel_rfl) (fun _ _ _ h => h) (Or.inl ⟨by rfl, ?_⟩) hHeld ?_
  · intro w9 hSw
    try dsimp only at hSw
    go_simp
  try simp only [Act.put, List.setIfInBounds_toArray, List.set_cons_zero, List.set_cons_succ]
  refine wpAnyH_take (i := 2) (oi := tpa35o6) (v := (.agg #[.int .i64 sf, .int .u64 sh, .int .u64 sl])) rfl (by kernel_rfl) (by kernel_rfl) (by kernel_rfl) (fun _ _ _ h => h) (Or.inl ⟨by rfl, ?_⟩) hHeld ?_
  · intro w9 hSw
    try dsimp only at hSw
    have hcc := Blk.wy (r := ⟨f, pr, ⟨sf, sh, sl⟩, ⟨df, dh, dl⟩, sp, dp⟩) hSw
    go_simp
  try simp only [Act.put, List.setIfInBounds_toArray, List.set_cons_zero, List.set_cons_succ]
  refine wpAnyH_take (i := 3) (oi := tpa35o11) (v := (.pointer (some ⟨w.heap.size, 8, none⟩))) rfl (by kernel_rfl) (by kernel_rfl) (by kernel_rfl) (fun _ _ _ h => h) (Or.inl ⟨by rfl, ?_⟩) hHeld ?_
  · intro w9 hSw
    try dsimp only at hSw
    go_simp
  try simp only [Act.put, List.setIfInBounds_toArray, List.set_cons_zero, List.set_cons_succ]
  refine wpAnyH_take (i := 4) (oi := tpa35o9) (v := (.int .i64 sp)) rfl (by kernel_rfl) (by kernel_rfl) (by kernel_rfl) (fun _ _ _ h => h) (Or.inl ⟨by rfl, ?_⟩) hHeld ?_
  · intro w9 hSw
    try dsimp only at hSw
    have hcc := Blk.wy (r := ⟨f, pr, ⟨sf, sh, sl⟩, ⟨df, dh, dl⟩, sp, dp⟩) hSw
    go_simp
  try simp only [Act.put, List.setIfInBounds_toArray, List.set_cons_zero, List.set_cons_succ]
  refine wpAnyH_take (i := 8) (oi := tpa35o12) (v := (.pointer (some ⟨w.heap.size, 5, none⟩))) rfl (by kernel_rfl) (by kernel_rfl) (by kernel_rfl) (fun _ _ _ h => h) (Or.inl ⟨by rfl, ?_⟩) hHeld ?_
  · intro w9 hSw
    try dsimp only at hSw
    go_simp
  try simp only [Act.put, List.setIfInBounds_toArray, List.set_cons_zero, List.set_cons_succ]
  refine wpAnyH_take (i := 9) (oi := tpa35o7) (v := (.agg #[.int .i64 df, .int .u64 dh, .int .u64 dl])) rfl (by kernel_rfl) (by kernel_rfl) (by kernel_rfl) (fun _ _ _ h => h) (Or.inl ⟨by rfl, ?_⟩) hHeld ?_
  · intro w9 hSw
    try dsimp only at hSw
    have hcc := Blk.wy (r := ⟨f, pr, ⟨sf, sh, sl⟩, ⟨df, dh, dl⟩, sp, dp⟩) hSw
    go_simp
  try simp only [Act.put, List.setIfInBounds_toArray, List.set_cons_zero, List.set_cons_succ]
  refine wpAnyH_take (i := 10) (oi := tpa35o13) (v := (.pointer (some ⟨w.heap.size, 9, none⟩))) rfl (by kernel_rfl) (by kernel_rfl) (by kernel_rfl) (fun _ _ _ h => h) (Or.inl ⟨by rfl, ?_⟩) hHeld ?_
  · intro w9 hSw
    try dsimp only at hSw
    go_simp
  try simp only [Act.put, List.setIfInBounds_toArray, List.set_cons_zero, List.set_cons_succ]
  refine wpAnyH_take (i := 11) (oi := tpa35o8) (v := (.int .i64 dp)) rfl (by kernel_rfl) (by kernel_rfl) (by kernel_rfl) (fun _ _ _ h => h) (Or.inl ⟨by rfl, ?_⟩) hHeld ?_
  · intro w9 hSw
    try dsimp only at hSw
    have hcc := Blk.wy (r := ⟨f, pr, ⟨sf, sh, sl⟩, ⟨df, dh, dl⟩, sp, dp⟩) hSw
    go_simp
  try simp only [Act.put, List.setIfInBounds_toArray, List.set_cons_zero, List.set_cons_succ]
  refine wpAnyH_ready (rs := [5]) (by kernel_rfl) (by simp) ?_
  refine AllReadyH.cons (o := tpa35o2) rfl (fun K hK => ?_) AllReadyH.nil
  go_simp
  refine Calls.mono (K1.out _) ?_
  rintro e W6 ⟨rfl, bb⟩
  have AW6 := Ad_.kept bb
  have bW6 := bel_tr bd bb
  clear bb
  refine hK.out _ _ (by exact AW6) (fun hHeld => ?_)
  clear hK K
  try simp only [Act.put, List.setIfInBounds_toArray, List.set_cons_zero, List.set_cons_succ]
  refine wpAnyH_take (i := 6) (oi := tpa35o5) (v := (.string (ByteArray.mk X2.toArray))) rfl (by kernel_rfl) (by kernel_rfl) (by kernel_rfl) (fun _ _ _ h => h) (Or.inl ⟨by rfl, ?_⟩) hHeld ?_
  · intro w9 hSw
    try dsimp only at hSw
    go_simp
  try simp only [Act.put, List.setIfInBounds_toArray, List.set_cons_zero, List.set_cons_succ]
  refine wpAnyH_take (i := 7) (oi := tpa35o3) (v := (.string (ByteArray.mk X3.toArray))) rfl (by kernel_rfl) (by kernel_rfl) (by kernel_rfl) (fun _ _ _ h => h) (Or.inl ⟨by rfl, ?_⟩) hHeld ?_
  · intro w9 hSw
    try dsimp only at hSw
    go_simp
  try simp only [Act.put, List.setIfInBounds_toArray, List.set_cons_zero, List.set_cons_succ]
  refine wpAnyH_ready (rs := [12]) (by kernel_rfl) (by simp) ?_
  refine AllReadyH.cons (o := tpa35o1) rfl (fun K hK => ?_) AllReadyH.nil
  go_simp
  refine Calls.mono (K2.out _) ?_
  rintro e W7 ⟨rfl, bb⟩
  have AW7 := AW6.kept bb
  have bW7 := bel_tr bW6 bb
  clear bb
  refine hK.out _ _ (by exact AW7) (fun hHeld => ?_)
  clear hK K
  try simp only [Act.put, List.setIfInBounds_toArray, List.set_cons_zero, List.set_cons_succ]
  refine wpAnyH_take (i := 13) (oi := tpa35o4) (v := (.string (ByteArray.mk T.toArray))) rfl (by kernel_rfl) (by kernel_rfl) (by kernel_rfl) (fun _ _ _ h => h) (Or.inl ⟨by rfl, ?_⟩) hHeld ?_
  · intro w9 hSw
    try dsimp only at hSw
    go_simp
  try simp only [Act.put, List.setIfInBounds_toArray, List.set_cons_zero, List.set_cons_succ]
  refine wpAnyH_take (i := 14) (oi := tpa35o0) (v := (.string (ByteArray.mk T.toArray))) rfl (by kernel_rfl) (by kernel_rfl) (by kernel_rfl) (fun _ _ _ h => h) (Or.inl ⟨by rfl, ?_⟩) hHeld ?_
  · intro w9 hSw
    try dsimp only at hSw
    go_simp
  try simp only [Act.put, List.setIfInBounds_toArray, List.set_cons_zero, List.set_cons_succ]
  refine wpAnyH_done (by kernel_rfl) ?_ _
  refine NoPanic.normal ?_
  go_wp2
  go_ret
  exact ⟨rfl, bW7⟩
set_option maxRecDepth 100000 in
set_option maxHeartbeats 4000000 in
theorem rtext_six (f pr sf sh sl df dh dl sp dp : Int) (w : World) (ho : Wy.ok ⟨f, pr, ⟨sf, sh, sl⟩, ⟨df, dh, dl⟩, sp, dp⟩) (hR : Wy.right ⟨f, pr, ⟨sf, sh, sl⟩, ⟨df, dh, dl⟩, sp, dp⟩ = true) (h1 : ¬ pr = 6) (h2 : ¬ pr = 17) (h3 : ¬ pr = 1) :
    Calls Tryd.prog 17 #[.agg #[.int .i64 f, .int .i64 pr, .int .i64 sf, .int .u64 sh, .int .u64 sl, .int .i64 df, .int .u64 dh, .int .u64 dl, .int .i64 sp, .int .i64 dp]] w fun e w' => e = .returned (.string (ByteArray.mk (Wy.text ⟨f, pr, ⟨sf, sh, sl⟩, ⟨df, dh, dl⟩, sp, dp⟩).toArray)) ∧ Below w.heap.size w w' := by
  have KR : Hid (∀ W, Calls Tryd.prog 10 #[.agg #[.int .i64 f, .int .i64 pr, .int .i64 sf, .int .u64 sh, .int .u64 sl, .int .i64 df, .int .u64 dh, .int .u64 dl, .int .i64 sp, .int .i64 dp]] W _) := fun W => rright_t ⟨f, pr, ⟨sf, sh, sl⟩, ⟨df, dh, dl⟩, sp, dp⟩ W ho
  rw [hR] at KR
  obtain ⟨T, hT⟩ : ∃ T, Wy.text ⟨f, pr, ⟨sf, sh, sl⟩, ⟨df, dh, dl⟩, sp, dp⟩ = T := ⟨_, rfl⟩
  rw [hT]
  obtain ⟨q1, q2, q3⟩ := Wy.right_iff.1 hR
  have Q1 := sideB_iff.1 q1
  have Q2 := sideB_iff.1 q2
  simp only at Q1 Q2 q3
  have hN : nameB f pr ++ [32] = [105, 99, 109, 112, 54, 32] := by
    unfold nameB at q3 ⊢; by_cases h4 : pr = 58 ∧ f = 6 <;> simp [h1, h2, h3, h4] at q3 ⊢
  have hT' : [105, 99, 109, 112, 54, 32] ++ sideT ⟨sf, sh, sl⟩ sp ++ [32, 62, 32] ++ sideT ⟨df, dh, dl⟩ dp = T := by
    rw [← hT, ← hN]; unfold Wy.text; rw [if_pos hR]
  have K1 : Hid (∀ W, Calls Tryd.prog 34 #[.agg #[.int .i64 sf, .int .u64 sh, .int .u64 sl], .int .i64 sp] W _) := fun W => rend_t sf sh sl sp W ho.s Q1.2.2.1 Q1.2.2.2
  have K2 : Hid (∀ W, Calls Tryd.prog 34 #[.agg #[.int .i64 df, .int .u64 dh, .int .u64 dl], .int .i64 dp] W _) := fun W => rend_t df dh dl dp W ho.d Q2.2.2.1 Q2.2.2.2
  have l1 := side_len ho.s Q1.2.2.1 Q1.2.2.2
  have l2 := side_len ho.d Q2.2.2.1 Q2.2.2.2
  simp only at l1 l2
  clear ho hT hR q1 q2 q3 Q1 Q2 hN
  generalize sideT ⟨sf, sh, sl⟩ sp = S1 at *
  generalize sideT ⟨df, dh, dl⟩ dp = S2 at *
  have a2 : ∀ W, (Op.stringOp .add (ByteArray.mk #[105, 99, 109, 112, 54, 32]) (ByteArray.mk S1.toArray)).run Tryd.prog W = .ok (.string (ByteArray.mk ([105, 99, 109, 112, 54, 32] ++ S1).toArray)) W := add_lists2 [105, 99, 109, 112, 54, 32] S1 (by simp) (by omega)
  have m2 : (([105, 99, 109, 112, 54, 32] : List UInt8) ++ S1).length ≤ 1106 := by rw [List.length_append]; simp only [List.length_cons, List.length_nil]; omega
  generalize [105, 99, 109, 112, 54, 32] ++ S1 = X2 at *
  have a3 : ∀ W, (Op.stringOp .add (ByteArray.mk X2.toArray) (ByteArray.mk #[32, 62, 32])).run Tryd.prog W = .ok (.string (ByteArray.mk (X2 ++ [32, 62, 32]).toArray)) W := add_lists2 X2 [32, 62, 32] (by omega) (by simp)
  have m3 : (X2 ++ [32, 62, 32]).length ≤ 1109 := by simp; omega
  generalize X2 ++ [32, 62, 32] = X3 at *
  have a4 := add_lists2 X3 S2 (by omega) (by omega)
  rw [hT'] at a4
  clear hT' l1 l2 m2 m3
  obtain ⟨W1, hW1⟩ : ∃ W1, w.alloc (.cells #[.int .i64 f, .int .i64 pr, .int .i64 sf, .int .u64 sh, .int .u64 sl, .int .i64 df, .int .u64 dh, .int .u64 dl, .int .i64 sp, .int .i64 dp] 26) = W1 := ⟨_, rfl⟩
  have b1 := bel_nw hW1
  have A1 := blk_nw hW1
  obtain ⟨k0, k1, k2, k3, k4, k5, k6, k7, k8, k9⟩ := Blk.wy (r := ⟨f, pr, ⟨sf, sh, sl⟩, ⟨df, dh, dl⟩, sp, dp⟩) A1
  have n1 : (pr == 6) = false := by simpa using h1
  have n2 : (pr == 17) = false := by simpa using h2
  have n3 : (pr == 1) = false := by simpa using h3
  clear h1 h2 h3
  go_enter Tryd.func17, Tryd.ntmps17
  go_wp2_with fail
  refine (KR.out _).mono ?_
  rintro e W2 ⟨rfl, bb⟩
  have A2 := A1.kept bb
  have b2 := bel_tr b1 bb
  clear k0 k1 k2 k3 k4 k5 k6 k7 k8 k9 bb KR A1 b1 hW1
  obtain ⟨k0, k1, k2, k3, k4, k5, k6, k7, k8, k9⟩ := Blk.wy (r := ⟨f, pr, ⟨sf, sh, sl⟩, ⟨df, dh, dl⟩, sp, dp⟩) A2
  go_wp2_with fail
  clear k0 k1 k2 k3 k4 k5 k6 k7 k8 k9
  have Ad_ := A2.drew
  have bd := b2.drew
  refine wp_region_noPanic ?_
  refine wp_region_held_drew (S := fun w' => Blk w' w.heap.size 26 #[.int .i64 f, .int .i64 pr, .int .i64 sf, .int .u64 sh, .int .u64 sl, .int .i64 df, .int .u64 dh, .int .u64 dl, .int .i64 sp, .int .i64 dp]) (by kernel_rfl) (by exact Ad_) (fun hHeld => ?_)
  refine wpAnyH_take (i := 0) (oi := tpa35o14) (v := (.string (ByteArray.mk #[105, 99, 109, 112, 54, 32]))) rfl (by kernel_rfl) (by kernel_rfl) (by kernel_rfl) (fun _ _ _ h => h) (Or.inl ⟨by rfl, ?_⟩) hHeld ?_
  · intro w9 hSw
    try dsimp only at hSw
    go_simp
  try simp only [Act.put, List.setIfInBounds_toArray, List.set_cons_zero, List.set_cons_succ]
  refine wpAnyH_take (i := 1) (oi := tpa35o10) (v := (.pointer (some ⟨w.heap.size, 2, none⟩))) rfl (by kernel_rfl) (by kernel_rfl) (by kernel_rfl) (fun _ _ _ h => h) (Or.inl ⟨by rfl, ?_⟩) hHeld ?_
  · intro w9 hSw
    try dsimp only at hSw
    go_simp
  try simp only [Act.put, List.setIfInBounds_toArray, List.set_cons_zero, List.set_cons_succ]
  refine wpAnyH_take (i := 2) (oi := tpa35o6) (v := (.agg #[.int .i64 sf, .int .u64 sh, .int .u64 sl])) rfl (by kernel_rfl) (by kernel_rfl) (by kernel_rfl) (fun _ _ _ h => h) (Or.inl ⟨by rfl, ?_⟩) hHeld ?_
  · intro w9 hSw
    try dsimp only at hSw
    have hcc := Blk.wy (r := ⟨f, pr, ⟨sf, sh, sl⟩, ⟨df, dh, dl⟩, sp, dp⟩) hSw
    go_simp
  try simp only [Act.put, List.setIfInBounds_toArray, List.set_cons_zero, List.set_cons_succ]
  refine wpAnyH_take (i := 3) (oi := tpa35o11) (v := (.pointer (some ⟨w.heap.size, 8, none⟩))) rfl (by kernel_rfl) (by kernel_rfl) (by kernel_rfl) (fun _ _ _ h => h) (Or.inl ⟨by rfl, ?_⟩) hHeld ?_
  · intro w9 hSw
    try dsimp only at hSw
    go_simp
  try simp only [Act.put, List.setIfInBounds_toArray, List.set_cons_zero, List.set_cons_succ]
  refine wpAnyH_take (i := 4) (oi := tpa35o9) (v := (.int .i64 sp)) rfl (by kernel_rfl) (by kernel_rfl) (by kernel_rfl) (fun _ _ _ h => h) (Or.inl ⟨by rfl, ?_⟩) hHeld ?_
  · intro w9 hSw
    try dsimp only at hSw
    have hcc := Blk.wy (r := ⟨f, pr, ⟨sf, sh, sl⟩, ⟨df, dh, dl⟩, sp, dp⟩) hSw
    go_simp
  try simp only [Act.put, List.setIfInBounds_toArray, List.set_cons_zero, List.set_cons_succ]
  refine wpAnyH_take (i := 8) (oi := tpa35o12) (v := (.pointer (some ⟨w.heap.size, 5, none⟩))) rfl (by kernel_rfl) (by kernel_rfl) (by kernel_rfl) (fun _ _ _ h => h) (Or.inl ⟨by rfl, ?_⟩) hHeld ?_
  · intro w9 hSw
    try dsimp only at hSw
    go_simp
  try simp only [Act.put, List.setIfInBounds_toArray, List.set_cons_zero, List.set_cons_succ]
  refine wpAnyH_take (i := 9) (oi := tpa35o7) (v := (.agg #[.int .i64 df, .int .u64 dh, .int .u64 dl])) rfl (by kernel_rfl) (by kernel_rfl) (by kernel_rfl) (fun _ _ _ h => h) (Or.inl ⟨by rfl, ?_⟩) hHeld ?_
  · intro w9 hSw
    try dsimp only at hSw
    have hcc := Blk.wy (r := ⟨f, pr, ⟨sf, sh, sl⟩, ⟨df, dh, dl⟩, sp, dp⟩) hSw
    go_simp
  try simp only [Act.put, List.setIfInBounds_toArray, List.set_cons_zero, List.set_cons_succ]
  refine wpAnyH_take (i := 10) (oi := tpa35o13) (v := (.pointer (some ⟨w.heap.size, 9, none⟩))) rfl (by kernel_rfl) (by kernel_rfl) (by kernel_rfl) (fun _ _ _ h => h) (Or.inl ⟨by rfl, ?_⟩) hHeld ?_
  · intro w9 hSw
    try dsimp only at hSw
    go_simp
  try simp only [Act.put, List.setIfInBounds_toArray, List.set_cons_zero, List.set_cons_succ]
  refine wpAnyH_take (i := 11) (oi := tpa35o8) (v := (.int .i64 dp)) rfl (by kernel_rfl) (by kernel_rfl) (by kernel_rfl) (fun _ _ _ h => h) (Or.inl ⟨by rfl, ?_⟩) hHeld ?_
  · intro w9 hSw
    try dsimp only at hSw
    have hcc := Blk.wy (r := ⟨f, pr, ⟨sf, sh, sl⟩, ⟨df, dh, dl⟩, sp, dp⟩) hSw
    go_simp
  try simp only [Act.put, List.setIfInBounds_toArray, List.set_cons_zero, List.set_cons_succ]
  refine wpAnyH_ready (rs := [5]) (by kernel_rfl) (by simp) ?_
  refine AllReadyH.cons (o := tpa35o2) rfl (fun K hK => ?_) AllReadyH.nil
  go_simp
  refine Calls.mono (K1.out _) ?_
  rintro e W6 ⟨rfl, bb⟩
  have AW6 := Ad_.kept bb
  have bW6 := bel_tr bd bb
  clear bb
  refine hK.out _ _ (by exact AW6) (fun hHeld => ?_)
  clear hK K
  try simp only [Act.put, List.setIfInBounds_toArray, List.set_cons_zero, List.set_cons_succ]
  refine wpAnyH_take (i := 6) (oi := tpa35o5) (v := (.string (ByteArray.mk X2.toArray))) rfl (by kernel_rfl) (by kernel_rfl) (by kernel_rfl) (fun _ _ _ h => h) (Or.inl ⟨by rfl, ?_⟩) hHeld ?_
  · intro w9 hSw
    try dsimp only at hSw
    go_simp
  try simp only [Act.put, List.setIfInBounds_toArray, List.set_cons_zero, List.set_cons_succ]
  refine wpAnyH_take (i := 7) (oi := tpa35o3) (v := (.string (ByteArray.mk X3.toArray))) rfl (by kernel_rfl) (by kernel_rfl) (by kernel_rfl) (fun _ _ _ h => h) (Or.inl ⟨by rfl, ?_⟩) hHeld ?_
  · intro w9 hSw
    try dsimp only at hSw
    go_simp
  try simp only [Act.put, List.setIfInBounds_toArray, List.set_cons_zero, List.set_cons_succ]
  refine wpAnyH_ready (rs := [12]) (by kernel_rfl) (by simp) ?_
  refine AllReadyH.cons (o := tpa35o1) rfl (fun K hK => ?_) AllReadyH.nil
  go_simp
  refine Calls.mono (K2.out _) ?_
  rintro e W7 ⟨rfl, bb⟩
  have AW7 := AW6.kept bb
  have bW7 := bel_tr bW6 bb
  clear bb
  refine hK.out _ _ (by exact AW7) (fun hHeld => ?_)
  clear hK K
  try simp only [Act.put, List.setIfInBounds_toArray, List.set_cons_zero, List.set_cons_succ]
  refine wpAnyH_take (i := 13) (oi := tpa35o4) (v := (.string (ByteArray.mk T.toArray))) rfl (by kernel_rfl) (by kernel_rfl) (by kernel_rfl) (fun _ _ _ h => h) (Or.inl ⟨by rfl, ?_⟩) hHeld ?_
  · intro w9 hSw
    try dsimp only at hSw
    go_simp
  try simp only [Act.put, List.setIfInBounds_toArray, List.set_cons_zero, List.set_cons_succ]
  refine wpAnyH_take (i := 14) (oi := tpa35o0) (v := (.string (ByteArray.mk T.toArray))) rfl (by kernel_rfl) (by kernel_rfl) (by kernel_rfl) (fun _ _ _ h => h) (Or.inl ⟨by rfl, ?_⟩) hHeld ?_
  · intro w9 hSw
    try dsimp only at hSw
    go_simp
  try simp only [Act.put, List.setIfInBounds_toArray, List.set_cons_zero, List.set_cons_succ]
  refine wpAnyH_done (by kernel_rfl) ?_ _
  refine NoPanic.normal ?_
  go_wp2
  go_ret
  exact ⟨rfl, bW7⟩
set_option maxRecDepth 100000 in
set_option maxHeartbeats 4000000 in
theorem rtext_t (t : Wy) (w : World) (ho : t.ok) :
    Calls Tryd.prog 17 #[.agg t.v] w fun e w' => e = .returned (.string (ByteArray.mk t.text.toArray)) ∧ Below w.heap.size w w' := by
  obtain ⟨f, pr, ⟨sf, sh, sl⟩, ⟨df, dh, dl⟩, sp, dp⟩ := t
  cases hR : Wy.right ⟨f, pr, ⟨sf, sh, sl⟩, ⟨df, dh, dl⟩, sp, dp⟩ with
  | false =>
    have KR : Hid (∀ W, Calls Tryd.prog 10 #[.agg #[.int .i64 f, .int .i64 pr, .int .i64 sf, .int .u64 sh, .int .u64 sl, .int .i64 df, .int .u64 dh, .int .u64 dl, .int .i64 sp, .int .i64 dp]] W _) := fun W => rright_t ⟨f, pr, ⟨sf, sh, sl⟩, ⟨df, dh, dl⟩, sp, dp⟩ W ho
    rw [hR] at KR
    rw [rright_iff_no hR]
    clear hR ho
    have b1 : Below w.heap.size w (w.alloc (.cells (Wy.v ⟨f, pr, ⟨sf, sh, sl⟩, ⟨df, dh, dl⟩, sp, dp⟩) 26)) := bel_nw rfl
    go_enter Tryd.func17, Tryd.ntmps17
    go_wp2_with (go_at_call 10; refine (KR.out _).mono ?_; rintro e w2 ⟨rfl, bb⟩)
    go_ret
    exact ⟨rfl, bel_tr b1 bb⟩
  | true =>
    by_cases h1 : pr = 6
    · exact rtext_tcp f pr sf sh sl df dh dl sp dp w ho hR h1
    by_cases h2 : pr = 17
    · exact rtext_udp f pr sf sh sl df dh dl sp dp w ho hR h2
    by_cases h3 : pr = 1
    · exact rtext_icmp f pr sf sh sl df dh dl sp dp w ho hR h3
    · exact rtext_six f pr sf sh sl df dh dl sp dp w ho hR h1 h2 h3
end Go.Proofs.YtjdapofjlbifjaaDoor
