/- Texts joined: TuG -/
import Derived.Test.YtmjjdbkipagkbaaFyp21
import Derived.Test.YtmjjdbkipagkbaaFyp26
namespace Go.Proofs.Ytmjjdbkipagkbaa
abbrev fyp27o0 : Oper := { dst := some 2, op := Op.assign (.tmp 49), type := 4, pos := "ref.go:13", after := #[{ on := 27, ground := Ground.data }, { on := 25, ground := Ground.chain }, { on := 0, ground := Ground.phase }, { on := 1, ground := Ground.phase }, { on := 2, ground := Ground.phase }, { on := 3, ground := Ground.phase }, { on := 4, ground := Ground.phase }, { on := 5, ground := Ground.phase }, { on := 6, ground := Ground.phase }, { on := 7, ground := Ground.phase }, { on := 8, ground := Ground.phase }, { on := 9, ground := Ground.phase }, { on := 10, ground := Ground.phase }, { on := 11, ground := Ground.phase }, { on := 12, ground := Ground.phase }, { on := 13, ground := Ground.phase }, { on := 14, ground := Ground.phase }, { on := 15, ground := Ground.phase }, { on := 16, ground := Ground.phase }, { on := 17, ground := Ground.phase }, { on := 18, ground := Ground.phase }, { on := 19, ground := Ground.phase }, { on := 20, ground := Ground.phase }, { on := 21, ground := Ground.phase }, { on := 22, ground := Ground.phase }, { on := 23, ground := Ground.phase }, { on := 24, ground := Ground.phase }, { on := 25, ground := Ground.phase }, { on := 26, ground := Ground.phase }, { on := 27, ground := Ground.phase }], guard := none }
abbrev fyp27o1 : Oper := { dst := some 28, op := Op.call { callee := Callee.value (.func 63), args := #[.tmp 23, .tmp 25, .tmp 27], argTypes := #[3, 24, 24] }, type := 4, pos := "ref.go:13", after := #[{ on := 1, ground := Ground.data }, { on := 3, ground := Ground.data }, { on := 5, ground := Ground.data }], guard := none }
abbrev fyp27o2 : Oper := { dst := some 43, op := Op.call { callee := Callee.value (.func 64), args := #[.tmp 42], argTypes := #[3] }, type := 3, pos := "ref.go:13", after := #[{ on := 20, ground := Ground.data }, { on := 16, ground := Ground.chain }, { on := 16, ground := Ground.guard }], guard := some (16, false) }
abbrev fyp27o3 : Oper := { dst := some 44, op := Op.binOp BinOp.eql 3 (.tmp 40) (.tmp 43) 3, type := 4, pos := "ref.go:13", after := #[{ on := 18, ground := Ground.data }, { on := 21, ground := Ground.data }, { on := 16, ground := Ground.guard }], guard := some (16, false) }
abbrev fyp27o4 : Oper := { dst := some 37, op := Op.pick (.tmp 33) (.const (.bool true)) (.tmp 36), type := 4, pos := "ref.go:13", after := #[{ on := 11, ground := Ground.data }, { on := 14, ground := Ground.data }, { on := 7, ground := Ground.guard }], guard := some (7, true) }
abbrev fyp27o5 : Oper := { dst := some 45, op := Op.pick (.tmp 38) (.const (.bool true)) (.tmp 44), type := 4, pos := "ref.go:13", after := #[{ on := 16, ground := Ground.data }, { on := 22, ground := Ground.data }, { on := 7, ground := Ground.guard }], guard := some (7, true) }
abbrev fyp27o6 : Oper := { dst := some 36, op := Op.binOp BinOp.eql 3 (.tmp 35) (.const (.int .i64 17)) 3, type := 4, pos := "ref.go:13", after := #[{ on := 13, ground := Ground.data }, { on := 11, ground := Ground.guard }], guard := some (11, false) }
abbrev fyp27o7 : Oper := { dst := some 32, op := Op.binOp BinOp.eql 3 (.tmp 31) (.const (.int .i64 6)) 3, type := 4, pos := "ref.go:13", after := #[{ on := 9, ground := Ground.data }, { on := 7, ground := Ground.guard }], guard := some (7, true) }
abbrev fyp27o8 : Oper := { dst := some 38, op := Op.move (.tmp 37), type := 4, pos := "ref.go:13", after := #[{ on := 15, ground := Ground.data }, { on := 11, ground := Ground.chain }, { on := 7, ground := Ground.guard }], guard := some (7, true) }
abbrev fyp27o9 : Oper := { dst := some 33, op := Op.move (.tmp 32), type := 4, pos := "ref.go:13", after := #[{ on := 10, ground := Ground.data }, { on := 7, ground := Ground.chain }, { on := 7, ground := Ground.guard }], guard := some (7, true) }
abbrev fyp27o10 : Oper := { dst := some 49, op := Op.pick (.tmp 47) (.tmp 48) (.const (.bool false)), type := 4, pos := "ref.go:13", after := #[{ on := 25, ground := Ground.data }, { on := 26, ground := Ground.data }], guard := none }
abbrev fyp27o11 : Oper := { dst := some 46, op := Op.pick (.tmp 29) (.tmp 45) (.const (.bool false)), type := 4, pos := "ref.go:13", after := #[{ on := 7, ground := Ground.data }, { on := 23, ground := Ground.data }], guard := none }
abbrev fyp27o12 : Oper := { dst := some 35, op := Op.load 3 (.tmp 34), type := 3, pos := "ref.go:13", after := #[{ on := 12, ground := Ground.data }, { on := 11, ground := Ground.guard }], guard := some (11, false) }
abbrev fyp27o13 : Oper := { dst := some 40, op := Op.load 3 (.tmp 39), type := 3, pos := "ref.go:13", after := #[{ on := 17, ground := Ground.data }, { on := 16, ground := Ground.guard }], guard := some (16, false) }
abbrev fyp27o14 : Oper := { dst := some 42, op := Op.load 3 (.tmp 41), type := 3, pos := "ref.go:13", after := #[{ on := 19, ground := Ground.data }, { on := 16, ground := Ground.guard }], guard := some (16, false) }
abbrev fyp27o15 : Oper := { dst := some 31, op := Op.load 3 (.tmp 30), type := 3, pos := "ref.go:13", after := #[{ on := 8, ground := Ground.data }, { on := 7, ground := Ground.guard }], guard := some (7, true) }
abbrev fyp27o16 : Oper := { dst := some 47, op := Op.move (.tmp 46), type := 4, pos := "ref.go:13", after := #[{ on := 24, ground := Ground.data }, { on := 21, ground := Ground.chain }], guard := none }
abbrev fyp27o17 : Oper := { dst := some 29, op := Op.move (.tmp 28), type := 4, pos := "ref.go:13", after := #[{ on := 6, ground := Ground.data }, { on := 6, ground := Ground.chain }], guard := none }
abbrev fyp27o18 : Oper := { dst := some 34, op := Op.fieldAddr 26 (.tmp 1) 1, type := 0, pos := "ref.go:13", after := #[{ on := 11, ground := Ground.guard }], guard := some (11, false) }
abbrev fyp27o19 : Oper := { dst := some 39, op := Op.fieldAddr 26 (.tmp 1) 1, type := 0, pos := "ref.go:13", after := #[{ on := 16, ground := Ground.guard }], guard := some (16, false) }
abbrev fyp27o20 : Oper := { dst := some 41, op := Op.fieldAddr 26 (.tmp 1) 0, type := 0, pos := "ref.go:13", after := #[{ on := 16, ground := Ground.guard }], guard := some (16, false) }
abbrev fyp27o21 : Oper := { dst := some 30, op := Op.fieldAddr 26 (.tmp 1) 1, type := 0, pos := "ref.go:13", after := #[{ on := 7, ground := Ground.guard }], guard := some (7, true) }
abbrev fyp27o22 : Oper := { dst := some 25, op := Op.load 24 (.tmp 24), type := 24, pos := "ref.go:13", after := #[{ on := 2, ground := Ground.data }], guard := none }
abbrev fyp27o23 : Oper := { dst := some 27, op := Op.load 24 (.tmp 26), type := 24, pos := "ref.go:13", after := #[{ on := 4, ground := Ground.data }], guard := none }
abbrev fyp27o24 : Oper := { dst := some 48, op := Op.move (.tmp 3), type := 4, pos := "ref.go:13", after := #[{ on := 25, ground := Ground.guard }], guard := some (25, true) }
abbrev fyp27o25 : Oper := { dst := some 23, op := Op.load 3 (.tmp 22), type := 3, pos := "ref.go:13", after := #[{ on := 0, ground := Ground.data }], guard := none }
abbrev fyp27o26 : Oper := { dst := some 22, op := Op.fieldAddr 26 (.tmp 1) 0, type := 0, pos := "ref.go:13", after := #[], guard := none }
abbrev fyp27o27 : Oper := { dst := some 24, op := Op.fieldAddr 26 (.tmp 1) 2, type := 0, pos := "ref.go:13", after := #[], guard := none }
abbrev fyp27o28 : Oper := { dst := some 26, op := Op.fieldAddr 26 (.tmp 1) 3, type := 0, pos := "ref.go:13", after := #[], guard := none }
end Go.Proofs.Ytmjjdbkipagkbaa
namespace Go.Proofs.Ytmjjdbkipagkbaa
open Go.RowKit
set_option linter.unusedVariables false
set_option linter.unusedSimpArgs false
theorem icmp_t (f : Int) (w : World) : Calls Try.prog 64 #[.int .i64 f] w fun e w' => e = .returned (.int .i64 (if f = 4 then 1 else 58)) ∧ w' = w := by
  by_cases h : f = 4
  · rw [if_pos h]
    go_enter Try.func64, Try.ntmps64
    go_wp2
    go_ret
    exact ⟨rfl, rfl⟩
  · rw [if_neg h]
    go_enter Try.func64, Try.ntmps64
    go_wp2
    go_ret
    exact ⟨rfl, rfl⟩
def portsB (p q : Int) : Bool := decide (0 ≤ p) && (decide (p ≤ 65535) && (decide (0 ≤ q) && decide (q ≤ 65535)))
def protoB (f p : Int) : Bool := decide (p = 6) || (decide (p = 17) || decide (p = if f = 4 then 1 else 58))
theorem proto_name {f : Int} (p : Int) (h : f = 4 ∨ f = 6) : (nameB f p != []) = protoB f p := by
  unfold nameB protoB
  by_cases h1 : p = 6
  · simp [h1]
  by_cases h2 : p = 17
  · simp [h2]
  rcases h with rfl | rfl
  · by_cases h3 : p = 1 <;> simp [h1, h2, h3]
  · by_cases h3 : p = 58 <;> simp [h1, h2, h3]
/-- Which ways may be, as the document has it. -/
theorem Wy.right_doc (t : Wy) : t.right = (endsB t.fam t.s t.d && (protoB t.fam t.pr && portsB t.sp t.dp)) := by
  cases h : endsB t.fam t.s t.d with
  | false =>
    have : ¬ t.right = true := fun e => by
      obtain ⟨e1, e2, _⟩ := Wy.right_iff.1 e
      have E1 := sideB_iff.1 e1
      have E2 := sideB_iff.1 e2
      rw [(endsB_iff _ _ _).2 ⟨E1.2.1, E2.2.1, E1.1, E2.1⟩] at h
      cases h
    simpa using this
  | true =>
    rw [← proto_name t.pr (fam_46' h)]
    obtain ⟨h1, h2, h3, h4⟩ := (endsB_iff _ _ _).1 h
    unfold Wy.right sideB portsB
    rw [h1, h2, h3, h4]
    simp only [beq_self_eq_true, Bool.true_and]
    cases decide (0 ≤ t.sp) <;> cases decide (t.sp ≤ 65535) <;> cases decide (0 ≤ t.dp) <;> cases decide (t.dp ≤ 65535) <;> cases (nameB t.fam t.pr != []) <;> rfl
set_option maxRecDepth 100000 in
set_option maxHeartbeats 4000000 in
theorem rright_y (f pr sf sh sl df dh dl sp dp : Int) (w : World) (hsl : 0 ≤ sl) (hdl : 0 ≤ dl) (c1 : 0 ≤ sp) (c2 : sp ≤ 65535) (c3 : 0 ≤ dp) (c4 : dp ≤ 65535) :
    Calls Try.prog 35 #[.agg #[.int .i64 f, .int .i64 pr, .int .i64 sf, .int .u64 sh, .int .u64 sl, .int .i64 df, .int .u64 dh, .int .u64 dl, .int .i64 sp, .int .i64 dp]] w fun e w' => e = .returned (.bool (endsB f ⟨sf, sh, sl⟩ ⟨df, dh, dl⟩ && (protoB f pr && true))) ∧ Below w.heap.size w w' := by
  have KE : Hid (∀ W, Calls Try.prog 63 #[.int .i64 f, .agg #[.int .i64 sf, .int .u64 sh, .int .u64 sl], .agg #[.int .i64 df, .int .u64 dh, .int .u64 dl]] W _) := fun W => rEnds_any f sf sh sl df dh dl W hsl hdl
  have KI : Hid (∀ W, Calls Try.prog 64 #[.int .i64 f] W _) := fun W => icmp_t f W
  have HP : Hid (protoB f pr = (decide (pr = 6) || (decide (pr = 17) || decide (pr = if f = 4 then 1 else 58)))) := rfl
  obtain ⟨T, hT⟩ : ∃ T, (endsB f ⟨sf, sh, sl⟩ ⟨df, dh, dl⟩ && (protoB f pr && true)) = T := ⟨_, rfl⟩
  rw [hT]
  have HT : Hid (T = (endsB f ⟨sf, sh, sl⟩ ⟨df, dh, dl⟩ && (protoB f pr && true))) := hT.symm
  clear hT
  rw [HP.out] at HT
  clear HP hsl hdl
  generalize (if f = 4 then 1 else 58 : Int) = I at *
  generalize endsB f ⟨sf, sh, sl⟩ ⟨df, dh, dl⟩ = E at *
  obtain ⟨W1, hW1⟩ : ∃ W1, w.alloc (.cells #[.int .i64 f, .int .i64 pr, .int .i64 sf, .int .u64 sh, .int .u64 sl, .int .i64 df, .int .u64 dh, .int .u64 dl, .int .i64 sp, .int .i64 dp] 26) = W1 := ⟨_, rfl⟩
  have b1 := bel_nw hW1
  have A1 := blk_nw hW1
  obtain ⟨k0, k1, k2, k3, k4, k5, k6, k7, k8, k9⟩ := Blk.wy (r := ⟨f, pr, ⟨sf, sh, sl⟩, ⟨df, dh, dl⟩, sp, dp⟩) A1
  cases E with
  | false =>
    go_enter Try.func35, Try.ntmps35
    go_wp2_with fail
    have Ad_ := A1.drew
    have bd := b1.drew
    clear k0 k1 k2 k3 k4 k5 k6 k7 k8 k9
    refine wp_region_noPanic ?_
    refine wp_region_held_drew (S := fun w' => Blk w' w.heap.size 26 #[.int .i64 f, .int .i64 pr, .int .i64 sf, .int .u64 sh, .int .u64 sl, .int .i64 df, .int .u64 dh, .int .u64 dl, .int .i64 sp, .int .i64 dp]) (by kernel_rfl) (by exact Ad_) (fun hHeld => ?_)
    refine qtk (i := 0) (oi := fyp27o26) (v := (.pointer (some ⟨w.heap.size, 0, none⟩))) hHeld ?_ ?_
    · intro w9 hSw
      try dsimp only at hSw
      go_simp
    try simp only [qpu]
    refine qtk (i := 1) (oi := fyp27o25) (v := (.int .i64 f)) hHeld ?_ ?_
    · intro w9 hSw
      try dsimp only at hSw
      have hcc := Blk.wy (r := ⟨f, pr, ⟨sf, sh, sl⟩, ⟨df, dh, dl⟩, sp, dp⟩) hSw
      go_simp
    try simp only [qpu]
    refine qtk (i := 2) (oi := fyp27o27) (v := (.pointer (some ⟨w.heap.size, 2, none⟩))) hHeld ?_ ?_
    · intro w9 hSw
      try dsimp only at hSw
      go_simp
    try simp only [qpu]
    refine qtk (i := 3) (oi := fyp27o22) (v := (.agg #[.int .i64 sf, .int .u64 sh, .int .u64 sl])) hHeld ?_ ?_
    · intro w9 hSw
      try dsimp only at hSw
      have hcc := Blk.wy (r := ⟨f, pr, ⟨sf, sh, sl⟩, ⟨df, dh, dl⟩, sp, dp⟩) hSw
      go_simp
    try simp only [qpu]
    refine qtk (i := 4) (oi := fyp27o28) (v := (.pointer (some ⟨w.heap.size, 5, none⟩))) hHeld ?_ ?_
    · intro w9 hSw
      try dsimp only at hSw
      go_simp
    try simp only [qpu]
    refine qtk (i := 5) (oi := fyp27o23) (v := (.agg #[.int .i64 df, .int .u64 dh, .int .u64 dl])) hHeld ?_ ?_
    · intro w9 hSw
      try dsimp only at hSw
      have hcc := Blk.wy (r := ⟨f, pr, ⟨sf, sh, sl⟩, ⟨df, dh, dl⟩, sp, dp⟩) hSw
      go_simp
    try simp only [qpu]
    refine wpAnyH_ready (rs := [6]) (by kernel_rfl) (by simp) ?_
    refine AllReadyH.cons (o := fyp27o1) rfl (fun K hK => ?_) AllReadyH.nil
    go_simp
    refine Calls.mono (KE.out _) ?_
    rintro e W3 ⟨rfl, bb⟩
    have A3 := Ad_.kept bb
    have b3 := bel_tr bd bb
    clear bb KE
    refine hK.out _ _ (by exact A3) (fun hHeld => ?_)
    clear hK K
    try simp only [qpu]
    refine qtk (i := 7) (oi := fyp27o17) (v := (.bool false)) hHeld ?_ ?_
    · intro w9 hSw
      try dsimp only at hSw
      go_simp
    try simp only [qpu]
    refine qtn (i := 8) (oi := fyp27o21) hHeld ?_
    try simp only [qpu]
    refine qtn (i := 9) (oi := fyp27o15) hHeld ?_
    try simp only [qpu]
    refine qtn (i := 10) (oi := fyp27o7) hHeld ?_
    try simp only [qpu]
    refine qtn (i := 11) (oi := fyp27o9) hHeld ?_
    try simp only [qpu]
    refine qtn (i := 12) (oi := fyp27o18) hHeld ?_
    try simp only [qpu]
    refine qtn (i := 13) (oi := fyp27o12) hHeld ?_
    try simp only [qpu]
    refine qtn (i := 14) (oi := fyp27o6) hHeld ?_
    try simp only [qpu]
    refine qtn (i := 15) (oi := fyp27o4) hHeld ?_
    try simp only [qpu]
    refine qtn (i := 16) (oi := fyp27o8) hHeld ?_
    try simp only [qpu]
    refine qtn (i := 17) (oi := fyp27o19) hHeld ?_
    try simp only [qpu]
    refine qtn (i := 18) (oi := fyp27o13) hHeld ?_
    try simp only [qpu]
    refine qtn (i := 19) (oi := fyp27o20) hHeld ?_
    try simp only [qpu]
    refine qtn (i := 20) (oi := fyp27o14) hHeld ?_
    try simp only [qpu]
    refine qtn (i := 21) (oi := fyp27o2) hHeld ?_
    try simp only [qpu]
    refine qtn (i := 22) (oi := fyp27o3) hHeld ?_
    try simp only [qpu]
    refine qtn (i := 23) (oi := fyp27o5) hHeld ?_
    try simp only [qpu]
    refine qtk (i := 24) (oi := fyp27o11) (v := (.bool false)) hHeld ?_ ?_
    · intro w9 hSw
      try dsimp only at hSw
      go_simp
    try simp only [qpu]
    refine qtk (i := 25) (oi := fyp27o16) (v := (.bool false)) hHeld ?_ ?_
    · intro w9 hSw
      try dsimp only at hSw
      go_simp
    try simp only [qpu]
    refine qtn (i := 26) (oi := fyp27o24) hHeld ?_
    try simp only [qpu]
    refine qtk (i := 27) (oi := fyp27o10) (v := (.bool false)) hHeld ?_ ?_
    · intro w9 hSw
      try dsimp only at hSw
      go_simp
    try simp only [qpu]
    refine qtk (i := 28) (oi := fyp27o0) (v := (.bool false)) hHeld ?_ ?_
    · intro w9 hSw
      try dsimp only at hSw
      go_simp
    try simp only [qpu]
    refine wpAnyH_done (by kernel_rfl) ?_ _
    refine NoPanic.normal ?_
    go_wp2
    go_ret
    exact ⟨retB_tu (by rw [HT.out]; simp []), b3⟩
  | true =>
    by_cases p1 : pr = 6
    · have n1 : (pr == 6) = true := by simpa using p1
      have P1 : Hid _ := p1
      clear p1
      go_enter Try.func35, Try.ntmps35
      go_wp2_with fail
      have Ad_ := A1.drew
      have bd := b1.drew
      clear k0 k1 k2 k3 k4 k5 k6 k7 k8 k9
      refine wp_region_noPanic ?_
      refine wp_region_held_drew (S := fun w' => Blk w' w.heap.size 26 #[.int .i64 f, .int .i64 pr, .int .i64 sf, .int .u64 sh, .int .u64 sl, .int .i64 df, .int .u64 dh, .int .u64 dl, .int .i64 sp, .int .i64 dp]) (by kernel_rfl) (by exact Ad_) (fun hHeld => ?_)
      refine qtk (i := 0) (oi := fyp27o26) (v := (.pointer (some ⟨w.heap.size, 0, none⟩))) hHeld ?_ ?_
      · intro w9 hSw
        try dsimp only at hSw
        go_simp
      try simp only [qpu]
      refine qtk (i := 1) (oi := fyp27o25) (v := (.int .i64 f)) hHeld ?_ ?_
      · intro w9 hSw
        try dsimp only at hSw
        have hcc := Blk.wy (r := ⟨f, pr, ⟨sf, sh, sl⟩, ⟨df, dh, dl⟩, sp, dp⟩) hSw
        go_simp
      try simp only [qpu]
      refine qtk (i := 2) (oi := fyp27o27) (v := (.pointer (some ⟨w.heap.size, 2, none⟩))) hHeld ?_ ?_
      · intro w9 hSw
        try dsimp only at hSw
        go_simp
      try simp only [qpu]
      refine qtk (i := 3) (oi := fyp27o22) (v := (.agg #[.int .i64 sf, .int .u64 sh, .int .u64 sl])) hHeld ?_ ?_
      · intro w9 hSw
        try dsimp only at hSw
        have hcc := Blk.wy (r := ⟨f, pr, ⟨sf, sh, sl⟩, ⟨df, dh, dl⟩, sp, dp⟩) hSw
        go_simp
      try simp only [qpu]
      refine qtk (i := 4) (oi := fyp27o28) (v := (.pointer (some ⟨w.heap.size, 5, none⟩))) hHeld ?_ ?_
      · intro w9 hSw
        try dsimp only at hSw
        go_simp
      try simp only [qpu]
      refine qtk (i := 5) (oi := fyp27o23) (v := (.agg #[.int .i64 df, .int .u64 dh, .int .u64 dl])) hHeld ?_ ?_
      · intro w9 hSw
        try dsimp only at hSw
        have hcc := Blk.wy (r := ⟨f, pr, ⟨sf, sh, sl⟩, ⟨df, dh, dl⟩, sp, dp⟩) hSw
        go_simp
      try simp only [qpu]
      refine wpAnyH_ready (rs := [6]) (by kernel_rfl) (by simp) ?_
      refine AllReadyH.cons (o := fyp27o1) rfl (fun K hK => ?_) AllReadyH.nil
      go_simp
      refine Calls.mono (KE.out _) ?_
      rintro e W3 ⟨rfl, bb⟩
      have A3 := Ad_.kept bb
      have b3 := bel_tr bd bb
      clear bb KE
      refine hK.out _ _ (by exact A3) (fun hHeld => ?_)
      clear hK K
      try simp only [qpu]
      refine qtk (i := 7) (oi := fyp27o17) (v := (.bool true)) hHeld ?_ ?_
      · intro w9 hSw
        try dsimp only at hSw
        go_simp
      try simp only [qpu]
      refine qtk (i := 8) (oi := fyp27o21) (v := (.pointer (some ⟨w.heap.size, 1, none⟩))) hHeld ?_ ?_
      · intro w9 hSw
        try dsimp only at hSw
        go_simp
      try simp only [qpu]
      refine qtk (i := 9) (oi := fyp27o15) (v := (.int .i64 pr)) hHeld ?_ ?_
      · intro w9 hSw
        try dsimp only at hSw
        have hcc := Blk.wy (r := ⟨f, pr, ⟨sf, sh, sl⟩, ⟨df, dh, dl⟩, sp, dp⟩) hSw
        go_simp
      try simp only [qpu]
      refine qtk (i := 10) (oi := fyp27o7) (v := (.bool true)) hHeld ?_ ?_
      · intro w9 hSw
        try dsimp only at hSw
        go_simp
      try simp only [qpu]
      refine qtk (i := 11) (oi := fyp27o9) (v := (.bool true)) hHeld ?_ ?_
      · intro w9 hSw
        try dsimp only at hSw
        go_simp
      try simp only [qpu]
      refine qtn (i := 12) (oi := fyp27o18) hHeld ?_
      try simp only [qpu]
      refine qtn (i := 13) (oi := fyp27o12) hHeld ?_
      try simp only [qpu]
      refine qtn (i := 14) (oi := fyp27o6) hHeld ?_
      try simp only [qpu]
      refine qtk (i := 15) (oi := fyp27o4) (v := (.bool true)) hHeld ?_ ?_
      · intro w9 hSw
        try dsimp only at hSw
        go_simp
      try simp only [qpu]
      refine qtk (i := 16) (oi := fyp27o8) (v := (.bool true)) hHeld ?_ ?_
      · intro w9 hSw
        try dsimp only at hSw
        go_simp
      try simp only [qpu]
      refine qtn (i := 17) (oi := fyp27o19) hHeld ?_
      try simp only [qpu]
      refine qtn (i := 18) (oi := fyp27o13) hHeld ?_
      try simp only [qpu]
      refine qtn (i := 19) (oi := fyp27o20) hHeld ?_
      try simp only [qpu]
      refine qtn (i := 20) (oi := fyp27o14) hHeld ?_
      try simp only [qpu]
      refine qtn (i := 21) (oi := fyp27o2) hHeld ?_
      try simp only [qpu]
      refine qtn (i := 22) (oi := fyp27o3) hHeld ?_
      try simp only [qpu]
      refine qtk (i := 23) (oi := fyp27o5) (v := (.bool true)) hHeld ?_ ?_
      · intro w9 hSw
        try dsimp only at hSw
        go_simp
      try simp only [qpu]
      refine qtk (i := 24) (oi := fyp27o11) (v := (.bool true)) hHeld ?_ ?_
      · intro w9 hSw
        try dsimp only at hSw
        go_simp
      try simp only [qpu]
      refine qtk (i := 25) (oi := fyp27o16) (v := (.bool true)) hHeld ?_ ?_
      · intro w9 hSw
        try dsimp only at hSw
        go_simp
      try simp only [qpu]
      refine qtk (i := 26) (oi := fyp27o24) (v := (.bool true)) hHeld ?_ ?_
      · intro w9 hSw
        try dsimp only at hSw
        go_simp
      try simp only [qpu]
      refine qtk (i := 27) (oi := fyp27o10) (v := (.bool true)) hHeld ?_ ?_
      · intro w9 hSw
        try dsimp only at hSw
        go_simp
      try simp only [qpu]
      refine qtk (i := 28) (oi := fyp27o0) (v := (.bool true)) hHeld ?_ ?_
      · intro w9 hSw
        try dsimp only at hSw
        go_simp
      try simp only [qpu]
      refine wpAnyH_done (by kernel_rfl) ?_ _
      refine NoPanic.normal ?_
      go_wp2
      go_ret
      exact ⟨retB_tu (by rw [HT.out]; simp [P1.out]), b3⟩
    have n1 : (pr == 6) = false := by simpa using p1
    have P1 : Hid _ := p1
    clear p1
    by_cases p2 : pr = 17
    · have n2 : (pr == 17) = true := by simpa using p2
      have P2 : Hid _ := p2
      clear p2
      go_enter Try.func35, Try.ntmps35
      go_wp2_with fail
      have Ad_ := A1.drew
      have bd := b1.drew
      clear k0 k1 k2 k3 k4 k5 k6 k7 k8 k9
      refine wp_region_noPanic ?_
      refine wp_region_held_drew (S := fun w' => Blk w' w.heap.size 26 #[.int .i64 f, .int .i64 pr, .int .i64 sf, .int .u64 sh, .int .u64 sl, .int .i64 df, .int .u64 dh, .int .u64 dl, .int .i64 sp, .int .i64 dp]) (by kernel_rfl) (by exact Ad_) (fun hHeld => ?_)
      refine qtk (i := 0) (oi := fyp27o26) (v := (.pointer (some ⟨w.heap.size, 0, none⟩))) hHeld ?_ ?_
      · intro w9 hSw
        try dsimp only at hSw
        go_simp
      try simp only [qpu]
      refine qtk (i := 1) (oi := fyp27o25) (v := (.int .i64 f)) hHeld ?_ ?_
      · intro w9 hSw
        try dsimp only at hSw
        have hcc := Blk.wy (r := ⟨f, pr, ⟨sf, sh, sl⟩, ⟨df, dh, dl⟩, sp, dp⟩) hSw
        go_simp
      try simp only [qpu]
      refine qtk (i := 2) (oi := fyp27o27) (v := (.pointer (some ⟨w.heap.size, 2, none⟩))) hHeld ?_ ?_
      · intro w9 hSw
        try dsimp only at hSw
        go_simp
      try simp only [qpu]
      refine qtk (i := 3) (oi := fyp27o22) (v := (.agg #[.int .i64 sf, .int .u64 sh, .int .u64 sl])) hHeld ?_ ?_
      · intro w9 hSw
        try dsimp only at hSw
        have hcc := Blk.wy (r := ⟨f, pr, ⟨sf, sh, sl⟩, ⟨df, dh, dl⟩, sp, dp⟩) hSw
        go_simp
      try simp only [qpu]
      refine qtk (i := 4) (oi := fyp27o28) (v := (.pointer (some ⟨w.heap.size, 5, none⟩))) hHeld ?_ ?_
      · intro w9 hSw
        try dsimp only at hSw
        go_simp
      try simp only [qpu]
      refine qtk (i := 5) (oi := fyp27o23) (v := (.agg #[.int .i64 df, .int .u64 dh, .int .u64 dl])) hHeld ?_ ?_
      · intro w9 hSw
        try dsimp only at hSw
        have hcc := Blk.wy (r := ⟨f, pr, ⟨sf, sh, sl⟩, ⟨df, dh, dl⟩, sp, dp⟩) hSw
        go_simp
      try simp only [qpu]
      refine wpAnyH_ready (rs := [6]) (by kernel_rfl) (by simp) ?_
      refine AllReadyH.cons (o := fyp27o1) rfl (fun K hK => ?_) AllReadyH.nil
      go_simp
      refine Calls.mono (KE.out _) ?_
      rintro e W3 ⟨rfl, bb⟩
      have A3 := Ad_.kept bb
      have b3 := bel_tr bd bb
      clear bb KE
      refine hK.out _ _ (by exact A3) (fun hHeld => ?_)
      clear hK K
      try simp only [qpu]
      refine qtk (i := 7) (oi := fyp27o17) (v := (.bool true)) hHeld ?_ ?_
      · intro w9 hSw
        try dsimp only at hSw
        go_simp
      try simp only [qpu]
      refine qtk (i := 8) (oi := fyp27o21) (v := (.pointer (some ⟨w.heap.size, 1, none⟩))) hHeld ?_ ?_
      · intro w9 hSw
        try dsimp only at hSw
        go_simp
      try simp only [qpu]
      refine qtk (i := 9) (oi := fyp27o15) (v := (.int .i64 pr)) hHeld ?_ ?_
      · intro w9 hSw
        try dsimp only at hSw
        have hcc := Blk.wy (r := ⟨f, pr, ⟨sf, sh, sl⟩, ⟨df, dh, dl⟩, sp, dp⟩) hSw
        go_simp
      try simp only [qpu]
      refine qtk (i := 10) (oi := fyp27o7) (v := (.bool false)) hHeld ?_ ?_
      · intro w9 hSw
        try dsimp only at hSw
        go_simp
      try simp only [qpu]
      refine qtk (i := 11) (oi := fyp27o9) (v := (.bool false)) hHeld ?_ ?_
      · intro w9 hSw
        try dsimp only at hSw
        go_simp
      try simp only [qpu]
      refine qtk (i := 12) (oi := fyp27o18) (v := (.pointer (some ⟨w.heap.size, 1, none⟩))) hHeld ?_ ?_
      · intro w9 hSw
        try dsimp only at hSw
        go_simp
      try simp only [qpu]
      refine qtk (i := 13) (oi := fyp27o12) (v := (.int .i64 pr)) hHeld ?_ ?_
      · intro w9 hSw
        try dsimp only at hSw
        have hcc := Blk.wy (r := ⟨f, pr, ⟨sf, sh, sl⟩, ⟨df, dh, dl⟩, sp, dp⟩) hSw
        go_simp
      try simp only [qpu]
      refine qtk (i := 14) (oi := fyp27o6) (v := (.bool true)) hHeld ?_ ?_
      · intro w9 hSw
        try dsimp only at hSw
        go_simp
      try simp only [qpu]
      refine qtk (i := 15) (oi := fyp27o4) (v := (.bool true)) hHeld ?_ ?_
      · intro w9 hSw
        try dsimp only at hSw
        go_simp
      try simp only [qpu]
      refine qtk (i := 16) (oi := fyp27o8) (v := (.bool true)) hHeld ?_ ?_
      · intro w9 hSw
        try dsimp only at hSw
        go_simp
      try simp only [qpu]
      refine qtn (i := 17) (oi := fyp27o19) hHeld ?_
      try simp only [qpu]
      refine qtn (i := 18) (oi := fyp27o13) hHeld ?_
      try simp only [qpu]
      refine qtn (i := 19) (oi := fyp27o20) hHeld ?_
      try simp only [qpu]
      refine qtn (i := 20) (oi := fyp27o14) hHeld ?_
      try simp only [qpu]
      refine qtn (i := 21) (oi := fyp27o2) hHeld ?_
      try simp only [qpu]
      refine qtn (i := 22) (oi := fyp27o3) hHeld ?_
      try simp only [qpu]
      refine qtk (i := 23) (oi := fyp27o5) (v := (.bool true)) hHeld ?_ ?_
      · intro w9 hSw
        try dsimp only at hSw
        go_simp
      try simp only [qpu]
      refine qtk (i := 24) (oi := fyp27o11) (v := (.bool true)) hHeld ?_ ?_
      · intro w9 hSw
        try dsimp only at hSw
        go_simp
      try simp only [qpu]
      refine qtk (i := 25) (oi := fyp27o16) (v := (.bool true)) hHeld ?_ ?_
      · intro w9 hSw
        try dsimp only at hSw
        go_simp
      try simp only [qpu]
      refine qtk (i := 26) (oi := fyp27o24) (v := (.bool true)) hHeld ?_ ?_
      · intro w9 hSw
        try dsimp only at hSw
        go_simp
      try simp only [qpu]
      refine qtk (i := 27) (oi := fyp27o10) (v := (.bool true)) hHeld ?_ ?_
      · intro w9 hSw
        try dsimp only at hSw
        go_simp
      try simp only [qpu]
      refine qtk (i := 28) (oi := fyp27o0) (v := (.bool true)) hHeld ?_ ?_
      · intro w9 hSw
        try dsimp only at hSw
        go_simp
      try simp only [qpu]
      refine wpAnyH_done (by kernel_rfl) ?_ _
      refine NoPanic.normal ?_
      go_wp2
      go_ret
      exact ⟨retB_tu (by rw [HT.out]; simp [P1.out, P2.out]), b3⟩
    have n2 : (pr == 17) = false := by simpa using p2
    have P2 : Hid _ := p2
    clear p2
    by_cases p3 : pr = I
    · have n3 : (pr == I) = true := by simpa using p3
      have P3 : Hid _ := p3
      clear p3
      go_enter Try.func35, Try.ntmps35
      go_wp2_with fail
      have Ad_ := A1.drew
      have bd := b1.drew
      clear k0 k1 k2 k3 k4 k5 k6 k7 k8 k9
      refine wp_region_noPanic ?_
      refine wp_region_held_drew (S := fun w' => Blk w' w.heap.size 26 #[.int .i64 f, .int .i64 pr, .int .i64 sf, .int .u64 sh, .int .u64 sl, .int .i64 df, .int .u64 dh, .int .u64 dl, .int .i64 sp, .int .i64 dp]) (by kernel_rfl) (by exact Ad_) (fun hHeld => ?_)
      refine qtk (i := 0) (oi := fyp27o26) (v := (.pointer (some ⟨w.heap.size, 0, none⟩))) hHeld ?_ ?_
      · intro w9 hSw
        try dsimp only at hSw
        go_simp
      try simp only [qpu]
      refine qtk (i := 1) (oi := fyp27o25) (v := (.int .i64 f)) hHeld ?_ ?_
      · intro w9 hSw
        try dsimp only at hSw
        have hcc := Blk.wy (r := ⟨f, pr, ⟨sf, sh, sl⟩, ⟨df, dh, dl⟩, sp, dp⟩) hSw
        go_simp
      try simp only [qpu]
      refine qtk (i := 2) (oi := fyp27o27) (v := (.pointer (some ⟨w.heap.size, 2, none⟩))) hHeld ?_ ?_
      · intro w9 hSw
        try dsimp only at hSw
        go_simp
      try simp only [qpu]
      refine qtk (i := 3) (oi := fyp27o22) (v := (.agg #[.int .i64 sf, .int .u64 sh, .int .u64 sl])) hHeld ?_ ?_
      · intro w9 hSw
        try dsimp only at hSw
        have hcc := Blk.wy (r := ⟨f, pr, ⟨sf, sh, sl⟩, ⟨df, dh, dl⟩, sp, dp⟩) hSw
        go_simp
      try simp only [qpu]
      refine qtk (i := 4) (oi := fyp27o28) (v := (.pointer (some ⟨w.heap.size, 5, none⟩))) hHeld ?_ ?_
      · intro w9 hSw
        try dsimp only at hSw
        go_simp
      try simp only [qpu]
      refine qtk (i := 5) (oi := fyp27o23) (v := (.agg #[.int .i64 df, .int .u64 dh, .int .u64 dl])) hHeld ?_ ?_
      · intro w9 hSw
        try dsimp only at hSw
        have hcc := Blk.wy (r := ⟨f, pr, ⟨sf, sh, sl⟩, ⟨df, dh, dl⟩, sp, dp⟩) hSw
        go_simp
      try simp only [qpu]
      refine wpAnyH_ready (rs := [6]) (by kernel_rfl) (by simp) ?_
      refine AllReadyH.cons (o := fyp27o1) rfl (fun K hK => ?_) AllReadyH.nil
      go_simp
      refine Calls.mono (KE.out _) ?_
      rintro e W3 ⟨rfl, bb⟩
      have A3 := Ad_.kept bb
      have b3 := bel_tr bd bb
      clear bb KE
      refine hK.out _ _ (by exact A3) (fun hHeld => ?_)
      clear hK K
      try simp only [qpu]
      refine qtk (i := 7) (oi := fyp27o17) (v := (.bool true)) hHeld ?_ ?_
      · intro w9 hSw
        try dsimp only at hSw
        go_simp
      try simp only [qpu]
      refine qtk (i := 8) (oi := fyp27o21) (v := (.pointer (some ⟨w.heap.size, 1, none⟩))) hHeld ?_ ?_
      · intro w9 hSw
        try dsimp only at hSw
        go_simp
      try simp only [qpu]
      refine qtk (i := 9) (oi := fyp27o15) (v := (.int .i64 pr)) hHeld ?_ ?_
      · intro w9 hSw
        try dsimp only at hSw
        have hcc := Blk.wy (r := ⟨f, pr, ⟨sf, sh, sl⟩, ⟨df, dh, dl⟩, sp, dp⟩) hSw
        go_simp
      try simp only [qpu]
      refine qtk (i := 10) (oi := fyp27o7) (v := (.bool false)) hHeld ?_ ?_
      · intro w9 hSw
        try dsimp only at hSw
        go_simp
      try simp only [qpu]
      refine qtk (i := 11) (oi := fyp27o9) (v := (.bool false)) hHeld ?_ ?_
      · intro w9 hSw
        try dsimp only at hSw
        go_simp
      try simp only [qpu]
      refine qtk (i := 12) (oi := fyp27o18) (v := (.pointer (some ⟨w.heap.size, 1, none⟩))) hHeld ?_ ?_
      · intro w9 hSw
        try dsimp only at hSw
        go_simp
      try simp only [qpu]
      refine qtk (i := 13) (oi := fyp27o12) (v := (.int .i64 pr)) hHeld ?_ ?_
      · intro w9 hSw
        try dsimp only at hSw
        have hcc := Blk.wy (r := ⟨f, pr, ⟨sf, sh, sl⟩, ⟨df, dh, dl⟩, sp, dp⟩) hSw
        go_simp
      try simp only [qpu]
      refine qtk (i := 14) (oi := fyp27o6) (v := (.bool false)) hHeld ?_ ?_
      · intro w9 hSw
        try dsimp only at hSw
        go_simp
      try simp only [qpu]
      refine qtk (i := 15) (oi := fyp27o4) (v := (.bool false)) hHeld ?_ ?_
      · intro w9 hSw
        try dsimp only at hSw
        go_simp
      try simp only [qpu]
      refine qtk (i := 16) (oi := fyp27o8) (v := (.bool false)) hHeld ?_ ?_
      · intro w9 hSw
        try dsimp only at hSw
        go_simp
      try simp only [qpu]
      refine qtk (i := 17) (oi := fyp27o19) (v := (.pointer (some ⟨w.heap.size, 1, none⟩))) hHeld ?_ ?_
      · intro w9 hSw
        try dsimp only at hSw
        go_simp
      try simp only [qpu]
      refine qtk (i := 18) (oi := fyp27o13) (v := (.int .i64 pr)) hHeld ?_ ?_
      · intro w9 hSw
        try dsimp only at hSw
        have hcc := Blk.wy (r := ⟨f, pr, ⟨sf, sh, sl⟩, ⟨df, dh, dl⟩, sp, dp⟩) hSw
        go_simp
      try simp only [qpu]
      refine qtk (i := 19) (oi := fyp27o20) (v := (.pointer (some ⟨w.heap.size, 0, none⟩))) hHeld ?_ ?_
      · intro w9 hSw
        try dsimp only at hSw
        go_simp
      try simp only [qpu]
      refine qtk (i := 20) (oi := fyp27o14) (v := (.int .i64 f)) hHeld ?_ ?_
      · intro w9 hSw
        try dsimp only at hSw
        have hcc := Blk.wy (r := ⟨f, pr, ⟨sf, sh, sl⟩, ⟨df, dh, dl⟩, sp, dp⟩) hSw
        go_simp
      try simp only [qpu]
      refine wpAnyH_ready (rs := [21]) (by kernel_rfl) (by simp) ?_
      refine AllReadyH.cons (o := fyp27o2) rfl (fun K hK => ?_) AllReadyH.nil
      go_simp
      refine Calls.mono (KI.out _) ?_
      rintro e _ ⟨rfl, rfl⟩
      clear KI
      refine hK.out _ _ (by exact A3) (fun hHeld => ?_)
      clear hK K
      try simp only [qpu]
      refine qtk (i := 22) (oi := fyp27o3) (v := (.bool true)) hHeld ?_ ?_
      · intro w9 hSw
        try dsimp only at hSw
        go_simp
      try simp only [qpu]
      refine qtk (i := 23) (oi := fyp27o5) (v := (.bool true)) hHeld ?_ ?_
      · intro w9 hSw
        try dsimp only at hSw
        go_simp
      try simp only [qpu]
      refine qtk (i := 24) (oi := fyp27o11) (v := (.bool true)) hHeld ?_ ?_
      · intro w9 hSw
        try dsimp only at hSw
        go_simp
      try simp only [qpu]
      refine qtk (i := 25) (oi := fyp27o16) (v := (.bool true)) hHeld ?_ ?_
      · intro w9 hSw
        try dsimp only at hSw
        go_simp
      try simp only [qpu]
      refine qtk (i := 26) (oi := fyp27o24) (v := (.bool true)) hHeld ?_ ?_
      · intro w9 hSw
        try dsimp only at hSw
        go_simp
      try simp only [qpu]
      refine qtk (i := 27) (oi := fyp27o10) (v := (.bool true)) hHeld ?_ ?_
      · intro w9 hSw
        try dsimp only at hSw
        go_simp
      try simp only [qpu]
      refine qtk (i := 28) (oi := fyp27o0) (v := (.bool true)) hHeld ?_ ?_
      · intro w9 hSw
        try dsimp only at hSw
        go_simp
      try simp only [qpu]
      refine wpAnyH_done (by kernel_rfl) ?_ _
      refine NoPanic.normal ?_
      go_wp2
      go_ret
      exact ⟨retB_tu (by rw [HT.out]; simp [P1.out, P2.out, P3.out]), b3⟩
    have n3 : (pr == I) = false := by simpa using p3
    have P3 : Hid _ := p3
    clear p3
    go_enter Try.func35, Try.ntmps35
    go_wp2_with fail
    have Ad_ := A1.drew
    have bd := b1.drew
    clear k0 k1 k2 k3 k4 k5 k6 k7 k8 k9
    refine wp_region_noPanic ?_
    refine wp_region_held_drew (S := fun w' => Blk w' w.heap.size 26 #[.int .i64 f, .int .i64 pr, .int .i64 sf, .int .u64 sh, .int .u64 sl, .int .i64 df, .int .u64 dh, .int .u64 dl, .int .i64 sp, .int .i64 dp]) (by kernel_rfl) (by exact Ad_) (fun hHeld => ?_)
    refine qtk (i := 0) (oi := fyp27o26) (v := (.pointer (some ⟨w.heap.size, 0, none⟩))) hHeld ?_ ?_
    · intro w9 hSw
      try dsimp only at hSw
      go_simp
    try simp only [qpu]
    refine qtk (i := 1) (oi := fyp27o25) (v := (.int .i64 f)) hHeld ?_ ?_
    · intro w9 hSw
      try dsimp only at hSw
      have hcc := Blk.wy (r := ⟨f, pr, ⟨sf, sh, sl⟩, ⟨df, dh, dl⟩, sp, dp⟩) hSw
      go_simp
    try simp only [qpu]
    refine qtk (i := 2) (oi := fyp27o27) (v := (.pointer (some ⟨w.heap.size, 2, none⟩))) hHeld ?_ ?_
    · intro w9 hSw
      try dsimp only at hSw
      go_simp
    try simp only [qpu]
    refine qtk (i := 3) (oi := fyp27o22) (v := (.agg #[.int .i64 sf, .int .u64 sh, .int .u64 sl])) hHeld ?_ ?_
    · intro w9 hSw
      try dsimp only at hSw
      have hcc := Blk.wy (r := ⟨f, pr, ⟨sf, sh, sl⟩, ⟨df, dh, dl⟩, sp, dp⟩) hSw
      go_simp
    try simp only [qpu]
    refine qtk (i := 4) (oi := fyp27o28) (v := (.pointer (some ⟨w.heap.size, 5, none⟩))) hHeld ?_ ?_
    · intro w9 hSw
      try dsimp only at hSw
      go_simp
    try simp only [qpu]
    refine qtk (i := 5) (oi := fyp27o23) (v := (.agg #[.int .i64 df, .int .u64 dh, .int .u64 dl])) hHeld ?_ ?_
    · intro w9 hSw
      try dsimp only at hSw
      have hcc := Blk.wy (r := ⟨f, pr, ⟨sf, sh, sl⟩, ⟨df, dh, dl⟩, sp, dp⟩) hSw
      go_simp
    try simp only [qpu]
    refine wpAnyH_ready (rs := [6]) (by kernel_rfl) (by simp) ?_
    refine AllReadyH.cons (o := fyp27o1) rfl (fun K hK => ?_) AllReadyH.nil
    go_simp
    refine Calls.mono (KE.out _) ?_
    rintro e W3 ⟨rfl, bb⟩
    have A3 := Ad_.kept bb
    have b3 := bel_tr bd bb
    clear bb KE
    refine hK.out _ _ (by exact A3) (fun hHeld => ?_)
    clear hK K
    try simp only [qpu]
    refine qtk (i := 7) (oi := fyp27o17) (v := (.bool true)) hHeld ?_ ?_
    · intro w9 hSw
      try dsimp only at hSw
      go_simp
    try simp only [qpu]
    refine qtk (i := 8) (oi := fyp27o21) (v := (.pointer (some ⟨w.heap.size, 1, none⟩))) hHeld ?_ ?_
    · intro w9 hSw
      try dsimp only at hSw
      go_simp
    try simp only [qpu]
    refine qtk (i := 9) (oi := fyp27o15) (v := (.int .i64 pr)) hHeld ?_ ?_
    · intro w9 hSw
      try dsimp only at hSw
      have hcc := Blk.wy (r := ⟨f, pr, ⟨sf, sh, sl⟩, ⟨df, dh, dl⟩, sp, dp⟩) hSw
      go_simp
    try simp only [qpu]
    refine qtk (i := 10) (oi := fyp27o7) (v := (.bool false)) hHeld ?_ ?_
    · intro w9 hSw
      try dsimp only at hSw
      go_simp
    try simp only [qpu]
    refine qtk (i := 11) (oi := fyp27o9) (v := (.bool false)) hHeld ?_ ?_
    · intro w9 hSw
      try dsimp only at hSw
      go_simp
    try simp only [qpu]
    refine qtk (i := 12) (oi := fyp27o18) (v := (.pointer (some ⟨w.heap.size, 1, none⟩))) hHeld ?_ ?_
    · intro w9 hSw
      try dsimp only at hSw
      go_simp
    try simp only [qpu]
    refine qtk (i := 13) (oi := fyp27o12) (v := (.int .i64 pr)) hHeld ?_ ?_
    · intro w9 hSw
      try dsimp only at hSw
      have hcc := Blk.wy (r := ⟨f, pr, ⟨sf, sh, sl⟩, ⟨df, dh, dl⟩, sp, dp⟩) hSw
      go_simp
    try simp only [qpu]
    refine qtk (i := 14) (oi := fyp27o6) (v := (.bool false)) hHeld ?_ ?_
    · intro w9 hSw
      try dsimp only at hSw
      go_simp
    try simp only [qpu]
    refine qtk (i := 15) (oi := fyp27o4) (v := (.bool false)) hHeld ?_ ?_
    · intro w9 hSw
      try dsimp only at hSw
      go_simp
    try simp only [qpu]
    refine qtk (i := 16) (oi := fyp27o8) (v := (.bool false)) hHeld ?_ ?_
    · intro w9 hSw
      try dsimp only at hSw
      go_simp
    try simp only [qpu]
    refine qtk (i := 17) (oi := fyp27o19) (v := (.pointer (some ⟨w.heap.size, 1, none⟩))) hHeld ?_ ?_
    · intro w9 hSw
      try dsimp only at hSw
      go_simp
    try simp only [qpu]
    refine qtk (i := 18) (oi := fyp27o13) (v := (.int .i64 pr)) hHeld ?_ ?_
    · intro w9 hSw
      try dsimp only at hSw
      have hcc := Blk.wy (r := ⟨f, pr, ⟨sf, sh, sl⟩, ⟨df, dh, dl⟩, sp, dp⟩) hSw
      go_simp
    try simp only [qpu]
    refine qtk (i := 19) (oi := fyp27o20) (v := (.pointer (some ⟨w.heap.size, 0, none⟩))) hHeld ?_ ?_
    · intro w9 hSw
      try dsimp only at hSw
      go_simp
    try simp only [qpu]
    refine qtk (i := 20) (oi := fyp27o14) (v := (.int .i64 f)) hHeld ?_ ?_
    · intro w9 hSw
      try dsimp only at hSw
      have hcc := Blk.wy (r := ⟨f, pr, ⟨sf, sh, sl⟩, ⟨df, dh, dl⟩, sp, dp⟩) hSw
      go_simp
    try simp only [qpu]
    refine wpAnyH_ready (rs := [21]) (by kernel_rfl) (by simp) ?_
    refine AllReadyH.cons (o := fyp27o2) rfl (fun K hK => ?_) AllReadyH.nil
    go_simp
    refine Calls.mono (KI.out _) ?_
    rintro e _ ⟨rfl, rfl⟩
    clear KI
    refine hK.out _ _ (by exact A3) (fun hHeld => ?_)
    clear hK K
    try simp only [qpu]
    refine qtk (i := 22) (oi := fyp27o3) (v := (.bool false)) hHeld ?_ ?_
    · intro w9 hSw
      try dsimp only at hSw
      go_simp
    try simp only [qpu]
    refine qtk (i := 23) (oi := fyp27o5) (v := (.bool false)) hHeld ?_ ?_
    · intro w9 hSw
      try dsimp only at hSw
      go_simp
    try simp only [qpu]
    refine qtk (i := 24) (oi := fyp27o11) (v := (.bool false)) hHeld ?_ ?_
    · intro w9 hSw
      try dsimp only at hSw
      go_simp
    try simp only [qpu]
    refine qtk (i := 25) (oi := fyp27o16) (v := (.bool false)) hHeld ?_ ?_
    · intro w9 hSw
      try dsimp only at hSw
      go_simp
    try simp only [qpu]
    refine qtn (i := 26) (oi := fyp27o24) hHeld ?_
    try simp only [qpu]
    refine qtk (i := 27) (oi := fyp27o10) (v := (.bool false)) hHeld ?_ ?_
    · intro w9 hSw
      try dsimp only at hSw
      go_simp
    try simp only [qpu]
    refine qtk (i := 28) (oi := fyp27o0) (v := (.bool false)) hHeld ?_ ?_
    · intro w9 hSw
      try dsimp only at hSw
      go_simp
    try simp only [qpu]
    refine wpAnyH_done (by kernel_rfl) ?_ _
    refine NoPanic.normal ?_
    go_wp2
    go_ret
    exact ⟨retB_tu (by rw [HT.out]; simp [P1.out, P2.out, P3.out]; exact ⟨P1.out, P2.out, P3.out⟩), b3⟩
set_option maxRecDepth 100000 in
set_option maxHeartbeats 4000000 in
theorem rright_a (f pr sf sh sl df dh dl sp dp : Int) (w : World) (hsl : 0 ≤ sl) (hdl : 0 ≤ dl) (c1 : ¬ 0 ≤ sp) :
    Calls Try.prog 35 #[.agg #[.int .i64 f, .int .i64 pr, .int .i64 sf, .int .u64 sh, .int .u64 sl, .int .i64 df, .int .u64 dh, .int .u64 dl, .int .i64 sp, .int .i64 dp]] w fun e w' => e = .returned (.bool (endsB f ⟨sf, sh, sl⟩ ⟨df, dh, dl⟩ && (protoB f pr && false))) ∧ Below w.heap.size w w' := by
  have KE : Hid (∀ W, Calls Try.prog 63 #[.int .i64 f, .agg #[.int .i64 sf, .int .u64 sh, .int .u64 sl], .agg #[.int .i64 df, .int .u64 dh, .int .u64 dl]] W _) := fun W => rEnds_any f sf sh sl df dh dl W hsl hdl
  have KI : Hid (∀ W, Calls Try.prog 64 #[.int .i64 f] W _) := fun W => icmp_t f W
  have HP : Hid (protoB f pr = (decide (pr = 6) || (decide (pr = 17) || decide (pr = if f = 4 then 1 else 58)))) := rfl
  obtain ⟨T, hT⟩ : ∃ T, (endsB f ⟨sf, sh, sl⟩ ⟨df, dh, dl⟩ && (protoB f pr && false)) = T := ⟨_, rfl⟩
  rw [hT]
  have HT : Hid (T = (endsB f ⟨sf, sh, sl⟩ ⟨df, dh, dl⟩ && (protoB f pr && false))) := hT.symm
  clear hT
  rw [HP.out] at HT
  clear HP hsl hdl
  generalize (if f = 4 then 1 else 58 : Int) = I at *
  generalize endsB f ⟨sf, sh, sl⟩ ⟨df, dh, dl⟩ = E at *
  obtain ⟨W1, hW1⟩ : ∃ W1, w.alloc (.cells #[.int .i64 f, .int .i64 pr, .int .i64 sf, .int .u64 sh, .int .u64 sl, .int .i64 df, .int .u64 dh, .int .u64 dl, .int .i64 sp, .int .i64 dp] 26) = W1 := ⟨_, rfl⟩
  have b1 := bel_nw hW1
  have A1 := blk_nw hW1
  obtain ⟨k0, k1, k2, k3, k4, k5, k6, k7, k8, k9⟩ := Blk.wy (r := ⟨f, pr, ⟨sf, sh, sl⟩, ⟨df, dh, dl⟩, sp, dp⟩) A1
  cases E with
  | false =>
    go_enter Try.func35, Try.ntmps35
    go_wp2_with fail
    have Ad_ := A1.drew
    have bd := b1.drew
    clear k0 k1 k2 k3 k4 k5 k6 k7 k8 k9
    refine wp_region_noPanic ?_
    refine wp_region_held_drew (S := fun w' => Blk w' w.heap.size 26 #[.int .i64 f, .int .i64 pr, .int .i64 sf, .int .u64 sh, .int .u64 sl, .int .i64 df, .int .u64 dh, .int .u64 dl, .int .i64 sp, .int .i64 dp]) (by kernel_rfl) (by exact Ad_) (fun hHeld => ?_)
    refine qtk (i := 0) (oi := fyp27o26) (v := (.pointer (some ⟨w.heap.size, 0, none⟩))) hHeld ?_ ?_
    · intro w9 hSw
      try dsimp only at hSw
      go_simp
    try simp only [qpu]
    refine qtk (i := 1) (oi := fyp27o25) (v := (.int .i64 f)) hHeld ?_ ?_
    · intro w9 hSw
      try dsimp only at hSw
      have hcc := Blk.wy (r := ⟨f, pr, ⟨sf, sh, sl⟩, ⟨df, dh, dl⟩, sp, dp⟩) hSw
      go_simp
    try simp only [qpu]
    refine qtk (i := 2) (oi := fyp27o27) (v := (.pointer (some ⟨w.heap.size, 2, none⟩))) hHeld ?_ ?_
    · intro w9 hSw
      try dsimp only at hSw
      go_simp
    try simp only [qpu]
    refine qtk (i := 3) (oi := fyp27o22) (v := (.agg #[.int .i64 sf, .int .u64 sh, .int .u64 sl])) hHeld ?_ ?_
    · intro w9 hSw
      try dsimp only at hSw
      have hcc := Blk.wy (r := ⟨f, pr, ⟨sf, sh, sl⟩, ⟨df, dh, dl⟩, sp, dp⟩) hSw
      go_simp
    try simp only [qpu]
    refine qtk (i := 4) (oi := fyp27o28) (v := (.pointer (some ⟨w.heap.size, 5, none⟩))) hHeld ?_ ?_
    · intro w9 hSw
      try dsimp only at hSw
      go_simp
    try simp only [qpu]
    refine qtk (i := 5) (oi := fyp27o23) (v := (.agg #[.int .i64 df, .int .u64 dh, .int .u64 dl])) hHeld ?_ ?_
    · intro w9 hSw
      try dsimp only at hSw
      have hcc := Blk.wy (r := ⟨f, pr, ⟨sf, sh, sl⟩, ⟨df, dh, dl⟩, sp, dp⟩) hSw
      go_simp
    try simp only [qpu]
    refine wpAnyH_ready (rs := [6]) (by kernel_rfl) (by simp) ?_
    refine AllReadyH.cons (o := fyp27o1) rfl (fun K hK => ?_) AllReadyH.nil
    go_simp
    refine Calls.mono (KE.out _) ?_
    rintro e W3 ⟨rfl, bb⟩
    have A3 := Ad_.kept bb
    have b3 := bel_tr bd bb
    clear bb KE
    refine hK.out _ _ (by exact A3) (fun hHeld => ?_)
    clear hK K
    try simp only [qpu]
    refine qtk (i := 7) (oi := fyp27o17) (v := (.bool false)) hHeld ?_ ?_
    · intro w9 hSw
      try dsimp only at hSw
      go_simp
    try simp only [qpu]
    refine qtn (i := 8) (oi := fyp27o21) hHeld ?_
    try simp only [qpu]
    refine qtn (i := 9) (oi := fyp27o15) hHeld ?_
    try simp only [qpu]
    refine qtn (i := 10) (oi := fyp27o7) hHeld ?_
    try simp only [qpu]
    refine qtn (i := 11) (oi := fyp27o9) hHeld ?_
    try simp only [qpu]
    refine qtn (i := 12) (oi := fyp27o18) hHeld ?_
    try simp only [qpu]
    refine qtn (i := 13) (oi := fyp27o12) hHeld ?_
    try simp only [qpu]
    refine qtn (i := 14) (oi := fyp27o6) hHeld ?_
    try simp only [qpu]
    refine qtn (i := 15) (oi := fyp27o4) hHeld ?_
    try simp only [qpu]
    refine qtn (i := 16) (oi := fyp27o8) hHeld ?_
    try simp only [qpu]
    refine qtn (i := 17) (oi := fyp27o19) hHeld ?_
    try simp only [qpu]
    refine qtn (i := 18) (oi := fyp27o13) hHeld ?_
    try simp only [qpu]
    refine qtn (i := 19) (oi := fyp27o20) hHeld ?_
    try simp only [qpu]
    refine qtn (i := 20) (oi := fyp27o14) hHeld ?_
    try simp only [qpu]
    refine qtn (i := 21) (oi := fyp27o2) hHeld ?_
    try simp only [qpu]
    refine qtn (i := 22) (oi := fyp27o3) hHeld ?_
    try simp only [qpu]
    refine qtn (i := 23) (oi := fyp27o5) hHeld ?_
    try simp only [qpu]
    refine qtk (i := 24) (oi := fyp27o11) (v := (.bool false)) hHeld ?_ ?_
    · intro w9 hSw
      try dsimp only at hSw
      go_simp
    try simp only [qpu]
    refine qtk (i := 25) (oi := fyp27o16) (v := (.bool false)) hHeld ?_ ?_
    · intro w9 hSw
      try dsimp only at hSw
      go_simp
    try simp only [qpu]
    refine qtn (i := 26) (oi := fyp27o24) hHeld ?_
    try simp only [qpu]
    refine qtk (i := 27) (oi := fyp27o10) (v := (.bool false)) hHeld ?_ ?_
    · intro w9 hSw
      try dsimp only at hSw
      go_simp
    try simp only [qpu]
    refine qtk (i := 28) (oi := fyp27o0) (v := (.bool false)) hHeld ?_ ?_
    · intro w9 hSw
      try dsimp only at hSw
      go_simp
    try simp only [qpu]
    refine wpAnyH_done (by kernel_rfl) ?_ _
    refine NoPanic.normal ?_
    go_wp2
    go_ret
    exact ⟨retB_tu (by rw [HT.out]; simp []), b3⟩
  | true =>
    by_cases p1 : pr = 6
    · have n1 : (pr == 6) = true := by simpa using p1
      have P1 : Hid _ := p1
      clear p1
      go_enter Try.func35, Try.ntmps35
      go_wp2_with fail
      have Ad_ := A1.drew
      have bd := b1.drew
      clear k0 k1 k2 k3 k4 k5 k6 k7 k8 k9
      refine wp_region_noPanic ?_
      refine wp_region_held_drew (S := fun w' => Blk w' w.heap.size 26 #[.int .i64 f, .int .i64 pr, .int .i64 sf, .int .u64 sh, .int .u64 sl, .int .i64 df, .int .u64 dh, .int .u64 dl, .int .i64 sp, .int .i64 dp]) (by kernel_rfl) (by exact Ad_) (fun hHeld => ?_)
      refine qtk (i := 0) (oi := fyp27o26) (v := (.pointer (some ⟨w.heap.size, 0, none⟩))) hHeld ?_ ?_
      · intro w9 hSw
        try dsimp only at hSw
        go_simp
      try simp only [qpu]
      refine qtk (i := 1) (oi := fyp27o25) (v := (.int .i64 f)) hHeld ?_ ?_
      · intro w9 hSw
        try dsimp only at hSw
        have hcc := Blk.wy (r := ⟨f, pr, ⟨sf, sh, sl⟩, ⟨df, dh, dl⟩, sp, dp⟩) hSw
        go_simp
      try simp only [qpu]
      refine qtk (i := 2) (oi := fyp27o27) (v := (.pointer (some ⟨w.heap.size, 2, none⟩))) hHeld ?_ ?_
      · intro w9 hSw
        try dsimp only at hSw
        go_simp
      try simp only [qpu]
      refine qtk (i := 3) (oi := fyp27o22) (v := (.agg #[.int .i64 sf, .int .u64 sh, .int .u64 sl])) hHeld ?_ ?_
      · intro w9 hSw
        try dsimp only at hSw
        have hcc := Blk.wy (r := ⟨f, pr, ⟨sf, sh, sl⟩, ⟨df, dh, dl⟩, sp, dp⟩) hSw
        go_simp
      try simp only [qpu]
      refine qtk (i := 4) (oi := fyp27o28) (v := (.pointer (some ⟨w.heap.size, 5, none⟩))) hHeld ?_ ?_
      · intro w9 hSw
        try dsimp only at hSw
        go_simp
      try simp only [qpu]
      refine qtk (i := 5) (oi := fyp27o23) (v := (.agg #[.int .i64 df, .int .u64 dh, .int .u64 dl])) hHeld ?_ ?_
      · intro w9 hSw
        try dsimp only at hSw
        have hcc := Blk.wy (r := ⟨f, pr, ⟨sf, sh, sl⟩, ⟨df, dh, dl⟩, sp, dp⟩) hSw
        go_simp
      try simp only [qpu]
      refine wpAnyH_ready (rs := [6]) (by kernel_rfl) (by simp) ?_
      refine AllReadyH.cons (o := fyp27o1) rfl (fun K hK => ?_) AllReadyH.nil
      go_simp
      refine Calls.mono (KE.out _) ?_
      rintro e W3 ⟨rfl, bb⟩
      have A3 := Ad_.kept bb
      have b3 := bel_tr bd bb
      clear bb KE
      refine hK.out _ _ (by exact A3) (fun hHeld => ?_)
      clear hK K
      try simp only [qpu]
      refine qtk (i := 7) (oi := fyp27o17) (v := (.bool true)) hHeld ?_ ?_
      · intro w9 hSw
        try dsimp only at hSw
        go_simp
      try simp only [qpu]
      refine qtk (i := 8) (oi := fyp27o21) (v := (.pointer (some ⟨w.heap.size, 1, none⟩))) hHeld ?_ ?_
      · intro w9 hSw
        try dsimp only at hSw
        go_simp
      try simp only [qpu]
      refine qtk (i := 9) (oi := fyp27o15) (v := (.int .i64 pr)) hHeld ?_ ?_
      · intro w9 hSw
        try dsimp only at hSw
        have hcc := Blk.wy (r := ⟨f, pr, ⟨sf, sh, sl⟩, ⟨df, dh, dl⟩, sp, dp⟩) hSw
        go_simp
      try simp only [qpu]
      refine qtk (i := 10) (oi := fyp27o7) (v := (.bool true)) hHeld ?_ ?_
      · intro w9 hSw
        try dsimp only at hSw
        go_simp
      try simp only [qpu]
      refine qtk (i := 11) (oi := fyp27o9) (v := (.bool true)) hHeld ?_ ?_
      · intro w9 hSw
        try dsimp only at hSw
        go_simp
      try simp only [qpu]
      refine qtn (i := 12) (oi := fyp27o18) hHeld ?_
      try simp only [qpu]
      refine qtn (i := 13) (oi := fyp27o12) hHeld ?_
      try simp only [qpu]
      refine qtn (i := 14) (oi := fyp27o6) hHeld ?_
      try simp only [qpu]
      refine qtk (i := 15) (oi := fyp27o4) (v := (.bool true)) hHeld ?_ ?_
      · intro w9 hSw
        try dsimp only at hSw
        go_simp
      try simp only [qpu]
      refine qtk (i := 16) (oi := fyp27o8) (v := (.bool true)) hHeld ?_ ?_
      · intro w9 hSw
        try dsimp only at hSw
        go_simp
      try simp only [qpu]
      refine qtn (i := 17) (oi := fyp27o19) hHeld ?_
      try simp only [qpu]
      refine qtn (i := 18) (oi := fyp27o13) hHeld ?_
      try simp only [qpu]
      refine qtn (i := 19) (oi := fyp27o20) hHeld ?_
      try simp only [qpu]
      refine qtn (i := 20) (oi := fyp27o14) hHeld ?_
      try simp only [qpu]
      refine qtn (i := 21) (oi := fyp27o2) hHeld ?_
      try simp only [qpu]
      refine qtn (i := 22) (oi := fyp27o3) hHeld ?_
      try simp only [qpu]
      refine qtk (i := 23) (oi := fyp27o5) (v := (.bool true)) hHeld ?_ ?_
      · intro w9 hSw
        try dsimp only at hSw
        go_simp
      try simp only [qpu]
      refine qtk (i := 24) (oi := fyp27o11) (v := (.bool true)) hHeld ?_ ?_
      · intro w9 hSw
        try dsimp only at hSw
        go_simp
      try simp only [qpu]
      refine qtk (i := 25) (oi := fyp27o16) (v := (.bool true)) hHeld ?_ ?_
      · intro w9 hSw
        try dsimp only at hSw
        go_simp
      try simp only [qpu]
      refine qtk (i := 26) (oi := fyp27o24) (v := (.bool false)) hHeld ?_ ?_
      · intro w9 hSw
        try dsimp only at hSw
        go_simp
      try simp only [qpu]
      refine qtk (i := 27) (oi := fyp27o10) (v := (.bool false)) hHeld ?_ ?_
      · intro w9 hSw
        try dsimp only at hSw
        go_simp
      try simp only [qpu]
      refine qtk (i := 28) (oi := fyp27o0) (v := (.bool false)) hHeld ?_ ?_
      · intro w9 hSw
        try dsimp only at hSw
        go_simp
      try simp only [qpu]
      refine wpAnyH_done (by kernel_rfl) ?_ _
      refine NoPanic.normal ?_
      go_wp2
      go_ret
      exact ⟨retB_tu (by rw [HT.out]; simp [P1.out]), b3⟩
    have n1 : (pr == 6) = false := by simpa using p1
    have P1 : Hid _ := p1
    clear p1
    by_cases p2 : pr = 17
    · have n2 : (pr == 17) = true := by simpa using p2
      have P2 : Hid _ := p2
      clear p2
      go_enter Try.func35, Try.ntmps35
      go_wp2_with fail
      have Ad_ := A1.drew
      have bd := b1.drew
      clear k0 k1 k2 k3 k4 k5 k6 k7 k8 k9
      refine wp_region_noPanic ?_
      refine wp_region_held_drew (S := fun w' => Blk w' w.heap.size 26 #[.int .i64 f, .int .i64 pr, .int .i64 sf, .int .u64 sh, .int .u64 sl, .int .i64 df, .int .u64 dh, .int .u64 dl, .int .i64 sp, .int .i64 dp]) (by kernel_rfl) (by exact Ad_) (fun hHeld => ?_)
      refine qtk (i := 0) (oi := fyp27o26) (v := (.pointer (some ⟨w.heap.size, 0, none⟩))) hHeld ?_ ?_
      · intro w9 hSw
        try dsimp only at hSw
        go_simp
      try simp only [qpu]
      refine qtk (i := 1) (oi := fyp27o25) (v := (.int .i64 f)) hHeld ?_ ?_
      · intro w9 hSw
        try dsimp only at hSw
        have hcc := Blk.wy (r := ⟨f, pr, ⟨sf, sh, sl⟩, ⟨df, dh, dl⟩, sp, dp⟩) hSw
        go_simp
      try simp only [qpu]
      refine qtk (i := 2) (oi := fyp27o27) (v := (.pointer (some ⟨w.heap.size, 2, none⟩))) hHeld ?_ ?_
      · intro w9 hSw
        try dsimp only at hSw
        go_simp
      try simp only [qpu]
      refine qtk (i := 3) (oi := fyp27o22) (v := (.agg #[.int .i64 sf, .int .u64 sh, .int .u64 sl])) hHeld ?_ ?_
      · intro w9 hSw
        try dsimp only at hSw
        have hcc := Blk.wy (r := ⟨f, pr, ⟨sf, sh, sl⟩, ⟨df, dh, dl⟩, sp, dp⟩) hSw
        go_simp
      try simp only [qpu]
      refine qtk (i := 4) (oi := fyp27o28) (v := (.pointer (some ⟨w.heap.size, 5, none⟩))) hHeld ?_ ?_
      · intro w9 hSw
        try dsimp only at hSw
        go_simp
      try simp only [qpu]
      refine qtk (i := 5) (oi := fyp27o23) (v := (.agg #[.int .i64 df, .int .u64 dh, .int .u64 dl])) hHeld ?_ ?_
      · intro w9 hSw
        try dsimp only at hSw
        have hcc := Blk.wy (r := ⟨f, pr, ⟨sf, sh, sl⟩, ⟨df, dh, dl⟩, sp, dp⟩) hSw
        go_simp
      try simp only [qpu]
      refine wpAnyH_ready (rs := [6]) (by kernel_rfl) (by simp) ?_
      refine AllReadyH.cons (o := fyp27o1) rfl (fun K hK => ?_) AllReadyH.nil
      go_simp
      refine Calls.mono (KE.out _) ?_
      rintro e W3 ⟨rfl, bb⟩
      have A3 := Ad_.kept bb
      have b3 := bel_tr bd bb
      clear bb KE
      refine hK.out _ _ (by exact A3) (fun hHeld => ?_)
      clear hK K
      try simp only [qpu]
      refine qtk (i := 7) (oi := fyp27o17) (v := (.bool true)) hHeld ?_ ?_
      · intro w9 hSw
        try dsimp only at hSw
        go_simp
      try simp only [qpu]
      refine qtk (i := 8) (oi := fyp27o21) (v := (.pointer (some ⟨w.heap.size, 1, none⟩))) hHeld ?_ ?_
      · intro w9 hSw
        try dsimp only at hSw
        go_simp
      try simp only [qpu]
      refine qtk (i := 9) (oi := fyp27o15) (v := (.int .i64 pr)) hHeld ?_ ?_
      · intro w9 hSw
        try dsimp only at hSw
        have hcc := Blk.wy (r := ⟨f, pr, ⟨sf, sh, sl⟩, ⟨df, dh, dl⟩, sp, dp⟩) hSw
        go_simp
      try simp only [qpu]
      refine qtk (i := 10) (oi := fyp27o7) (v := (.bool false)) hHeld ?_ ?_
      · intro w9 hSw
        try dsimp only at hSw
        go_simp
      try simp only [qpu]
      refine qtk (i := 11) (oi := fyp27o9) (v := (.bool false)) hHeld ?_ ?_
      · intro w9 hSw
        try dsimp only at hSw
        go_simp
      try simp only [qpu]
      refine qtk (i := 12) (oi := fyp27o18) (v := (.pointer (some ⟨w.heap.size, 1, none⟩))) hHeld ?_ ?_
      · intro w9 hSw
        try dsimp only at hSw
        go_simp
      try simp only [qpu]
      refine qtk (i := 13) (oi := fyp27o12) (v := (.int .i64 pr)) hHeld ?_ ?_
      · intro w9 hSw
        try dsimp only at hSw
        have hcc := Blk.wy (r := ⟨f, pr, ⟨sf, sh, sl⟩, ⟨df, dh, dl⟩, sp, dp⟩) hSw
        go_simp
      try simp only [qpu]
      refine qtk (i := 14) (oi := fyp27o6) (v := (.bool true)) hHeld ?_ ?_
      · intro w9 hSw
        try dsimp only at hSw
        go_simp
      try simp only [qpu]
      refine qtk (i := 15) (oi := fyp27o4) (v := (.bool true)) hHeld ?_ ?_
      · intro w9 hSw
        try dsimp only at hSw
        go_simp
      try simp only [qpu]
      refine qtk (i := 16) (oi := fyp27o8) (v := (.bool true)) hHeld ?_ ?_
      · intro w9 hSw
        try dsimp only at hSw
        go_simp
      try simp only [qpu]
      refine qtn (i := 17) (oi := fyp27o19) hHeld ?_
      try simp only [qpu]
      refine qtn (i := 18) (oi := fyp27o13) hHeld ?_
      try simp only [qpu]
      refine qtn (i := 19) (oi := fyp27o20) hHeld ?_
      try simp only [qpu]
      refine qtn (i := 20) (oi := fyp27o14) hHeld ?_
      try simp only [qpu]
      refine qtn (i := 21) (oi := fyp27o2) hHeld ?_
      try simp only [qpu]
      refine qtn (i := 22) (oi := fyp27o3) hHeld ?_
      try simp only [qpu]
      refine qtk (i := 23) (oi := fyp27o5) (v := (.bool true)) hHeld ?_ ?_
      · intro w9 hSw
        try dsimp only at hSw
        go_simp
      try simp only [qpu]
      refine qtk (i := 24) (oi := fyp27o11) (v := (.bool true)) hHeld ?_ ?_
      · intro w9 hSw
        try dsimp only at hSw
        go_simp
      try simp only [qpu]
      refine qtk (i := 25) (oi := fyp27o16) (v := (.bool true)) hHeld ?_ ?_
      · intro w9 hSw
        try dsimp only at hSw
        go_simp
      try simp only [qpu]
      refine qtk (i := 26) (oi := fyp27o24) (v := (.bool false)) hHeld ?_ ?_
      · intro w9 hSw
        try dsimp only at hSw
        go_simp
      try simp only [qpu]
      refine qtk (i := 27) (oi := fyp27o10) (v := (.bool false)) hHeld ?_ ?_
      · intro w9 hSw
        try dsimp only at hSw
        go_simp
      try simp only [qpu]
      refine qtk (i := 28) (oi := fyp27o0) (v := (.bool false)) hHeld ?_ ?_
      · intro w9 hSw
        try dsimp only at hSw
        go_simp
      try simp only [qpu]
      refine wpAnyH_done (by kernel_rfl) ?_ _
      refine NoPanic.normal ?_
      go_wp2
      go_ret
      exact ⟨retB_tu (by rw [HT.out]; simp [P1.out, P2.out]), b3⟩
    have n2 : (pr == 17) = false := by simpa using p2
    have P2 : Hid _ := p2
    clear p2
    by_cases p3 : pr = I
    · have n3 : (pr == I) = true := by simpa using p3
      have P3 : Hid _ := p3
      clear p3
      go_enter Try.func35, Try.ntmps35
      go_wp2_with fail
      have Ad_ := A1.drew
      have bd := b1.drew
      clear k0 k1 k2 k3 k4 k5 k6 k7 k8 k9
      refine wp_region_noPanic ?_
      refine wp_region_held_drew (S := fun w' => Blk w' w.heap.size 26 #[.int .i64 f, .int .i64 pr, .int .i64 sf, .int .u64 sh, .int .u64 sl, .int .i64 df, .int .u64 dh, .int .u64 dl, .int .i64 sp, .int .i64 dp]) (by kernel_rfl) (by exact Ad_) (fun hHeld => ?_)
      refine qtk (i := 0) (oi := fyp27o26) (v := (.pointer (some ⟨w.heap.size, 0, none⟩))) hHeld ?_ ?_
      · intro w9 hSw
        try dsimp only at hSw
        go_simp
      try simp only [qpu]
      refine qtk (i := 1) (oi := fyp27o25) (v := (.int .i64 f)) hHeld ?_ ?_
      · intro w9 hSw
        try dsimp only at hSw
        have hcc := Blk.wy (r := ⟨f, pr, ⟨sf, sh, sl⟩, ⟨df, dh, dl⟩, sp, dp⟩) hSw
        go_simp
      try simp only [qpu]
      refine qtk (i := 2) (oi := fyp27o27) (v := (.pointer (some ⟨w.heap.size, 2, none⟩))) hHeld ?_ ?_
      · intro w9 hSw
        try dsimp only at hSw
        go_simp
      try simp only [qpu]
      refine qtk (i := 3) (oi := fyp27o22) (v := (.agg #[.int .i64 sf, .int .u64 sh, .int .u64 sl])) hHeld ?_ ?_
      · intro w9 hSw
        try dsimp only at hSw
        have hcc := Blk.wy (r := ⟨f, pr, ⟨sf, sh, sl⟩, ⟨df, dh, dl⟩, sp, dp⟩) hSw
        go_simp
      try simp only [qpu]
      refine qtk (i := 4) (oi := fyp27o28) (v := (.pointer (some ⟨w.heap.size, 5, none⟩))) hHeld ?_ ?_
      · intro w9 hSw
        try dsimp only at hSw
        go_simp
      try simp only [qpu]
      refine qtk (i := 5) (oi := fyp27o23) (v := (.agg #[.int .i64 df, .int .u64 dh, .int .u64 dl])) hHeld ?_ ?_
      · intro w9 hSw
        try dsimp only at hSw
        have hcc := Blk.wy (r := ⟨f, pr, ⟨sf, sh, sl⟩, ⟨df, dh, dl⟩, sp, dp⟩) hSw
        go_simp
      try simp only [qpu]
      refine wpAnyH_ready (rs := [6]) (by kernel_rfl) (by simp) ?_
      refine AllReadyH.cons (o := fyp27o1) rfl (fun K hK => ?_) AllReadyH.nil
      go_simp
      refine Calls.mono (KE.out _) ?_
      rintro e W3 ⟨rfl, bb⟩
      have A3 := Ad_.kept bb
      have b3 := bel_tr bd bb
      clear bb KE
      refine hK.out _ _ (by exact A3) (fun hHeld => ?_)
      clear hK K
      try simp only [qpu]
      refine qtk (i := 7) (oi := fyp27o17) (v := (.bool true)) hHeld ?_ ?_
      · intro w9 hSw
        try dsimp only at hSw
        go_simp
      try simp only [qpu]
      refine qtk (i := 8) (oi := fyp27o21) (v := (.pointer (some ⟨w.heap.size, 1, none⟩))) hHeld ?_ ?_
      · intro w9 hSw
        try dsimp only at hSw
        go_simp
      try simp only [qpu]
      refine qtk (i := 9) (oi := fyp27o15) (v := (.int .i64 pr)) hHeld ?_ ?_
      · intro w9 hSw
        try dsimp only at hSw
        have hcc := Blk.wy (r := ⟨f, pr, ⟨sf, sh, sl⟩, ⟨df, dh, dl⟩, sp, dp⟩) hSw
        go_simp
      try simp only [qpu]
      refine qtk (i := 10) (oi := fyp27o7) (v := (.bool false)) hHeld ?_ ?_
      · intro w9 hSw
        try dsimp only at hSw
        go_simp
      try simp only [qpu]
      refine qtk (i := 11) (oi := fyp27o9) (v := (.bool false)) hHeld ?_ ?_
      · intro w9 hSw
        try dsimp only at hSw
        go_simp
      try simp only [qpu]
      refine qtk (i := 12) (oi := fyp27o18) (v := (.pointer (some ⟨w.heap.size, 1, none⟩))) hHeld ?_ ?_
      · intro w9 hSw
        try dsimp only at hSw
        go_simp
      try simp only [qpu]
      refine qtk (i := 13) (oi := fyp27o12) (v := (.int .i64 pr)) hHeld ?_ ?_
      · intro w9 hSw
        try dsimp only at hSw
        have hcc := Blk.wy (r := ⟨f, pr, ⟨sf, sh, sl⟩, ⟨df, dh, dl⟩, sp, dp⟩) hSw
        go_simp
      try simp only [qpu]
      refine qtk (i := 14) (oi := fyp27o6) (v := (.bool false)) hHeld ?_ ?_
      · intro w9 hSw
        try dsimp only at hSw
        go_simp
      try simp only [qpu]
      refine qtk (i := 15) (oi := fyp27o4) (v := (.bool false)) hHeld ?_ ?_
      · intro w9 hSw
        try dsimp only at hSw
        go_simp
      try simp only [qpu]
      refine qtk (i := 16) (oi := fyp27o8) (v := (.bool false)) hHeld ?_ ?_
      · intro w9 hSw
        try dsimp only at hSw
        go_simp
      try simp only [qpu]
      refine qtk (i := 17) (oi := fyp27o19) (v := (.pointer (some ⟨w.heap.size, 1, none⟩))) hHeld ?_ ?_
      · intro w9 hSw
        try dsimp only at hSw
        go_simp
      try simp only [qpu]
      refine qtk (i := 18) (oi := fyp27o13) (v := (.int .i64 pr)) hHeld ?_ ?_
      · intro w9 hSw
        try dsimp only at hSw
        have hcc := Blk.wy (r := ⟨f, pr, ⟨sf, sh, sl⟩, ⟨df, dh, dl⟩, sp, dp⟩) hSw
        go_simp
      try simp only [qpu]
      refine qtk (i := 19) (oi := fyp27o20) (v := (.pointer (some ⟨w.heap.size, 0, none⟩))) hHeld ?_ ?_
      · intro w9 hSw
        try dsimp only at hSw
        go_simp
      try simp only [qpu]
      refine qtk (i := 20) (oi := fyp27o14) (v := (.int .i64 f)) hHeld ?_ ?_
      · intro w9 hSw
        try dsimp only at hSw
        have hcc := Blk.wy (r := ⟨f, pr, ⟨sf, sh, sl⟩, ⟨df, dh, dl⟩, sp, dp⟩) hSw
        go_simp
      try simp only [qpu]
      refine wpAnyH_ready (rs := [21]) (by kernel_rfl) (by simp) ?_
      refine AllReadyH.cons (o := fyp27o2) rfl (fun K hK => ?_) AllReadyH.nil
      go_simp
      refine Calls.mono (KI.out _) ?_
      rintro e _ ⟨rfl, rfl⟩
      clear KI
      refine hK.out _ _ (by exact A3) (fun hHeld => ?_)
      clear hK K
      try simp only [qpu]
      refine qtk (i := 22) (oi := fyp27o3) (v := (.bool true)) hHeld ?_ ?_
      · intro w9 hSw
        try dsimp only at hSw
        go_simp
      try simp only [qpu]
      refine qtk (i := 23) (oi := fyp27o5) (v := (.bool true)) hHeld ?_ ?_
      · intro w9 hSw
        try dsimp only at hSw
        go_simp
      try simp only [qpu]
      refine qtk (i := 24) (oi := fyp27o11) (v := (.bool true)) hHeld ?_ ?_
      · intro w9 hSw
        try dsimp only at hSw
        go_simp
      try simp only [qpu]
      refine qtk (i := 25) (oi := fyp27o16) (v := (.bool true)) hHeld ?_ ?_
      · intro w9 hSw
        try dsimp only at hSw
        go_simp
      try simp only [qpu]
      refine qtk (i := 26) (oi := fyp27o24) (v := (.bool false)) hHeld ?_ ?_
      · intro w9 hSw
        try dsimp only at hSw
        go_simp
      try simp only [qpu]
      refine qtk (i := 27) (oi := fyp27o10) (v := (.bool false)) hHeld ?_ ?_
      · intro w9 hSw
        try dsimp only at hSw
        go_simp
      try simp only [qpu]
      refine qtk (i := 28) (oi := fyp27o0) (v := (.bool false)) hHeld ?_ ?_
      · intro w9 hSw
        try dsimp only at hSw
        go_simp
      try simp only [qpu]
      refine wpAnyH_done (by kernel_rfl) ?_ _
      refine NoPanic.normal ?_
      go_wp2
      go_ret
      exact ⟨retB_tu (by rw [HT.out]; simp [P1.out, P2.out, P3.out]), b3⟩
    have n3 : (pr == I) = false := by simpa using p3
    have P3 : Hid _ := p3
    clear p3
    go_enter Try.func35, Try.ntmps35
    go_wp2_with fail
    have Ad_ := A1.drew
    have bd := b1.drew
    clear k0 k1 k2 k3 k4 k5 k6 k7 k8 k9
    refine wp_region_noPanic ?_
    refine wp_region_held_drew (S := fun w' => Blk w' w.heap.size 26 #[.int .i64 f, .int .i64 pr, .int .i64 sf, .int .u64 sh, .int .u64 sl, .int .i64 df, .int .u64 dh, .int .u64 dl, .int .i64 sp, .int .i64 dp]) (by kernel_rfl) (by exact Ad_) (fun hHeld => ?_)
    refine qtk (i := 0) (oi := fyp27o26) (v := (.pointer (some ⟨w.heap.size, 0, none⟩))) hHeld ?_ ?_
    · intro w9 hSw
      try dsimp only at hSw
      go_simp
    try simp only [qpu]
    refine qtk (i := 1) (oi := fyp27o25) (v := (.int .i64 f)) hHeld ?_ ?_
    · intro w9 hSw
      try dsimp only at hSw
      have hcc := Blk.wy (r := ⟨f, pr, ⟨sf, sh, sl⟩, ⟨df, dh, dl⟩, sp, dp⟩) hSw
      go_simp
    try simp only [qpu]
    refine qtk (i := 2) (oi := fyp27o27) (v := (.pointer (some ⟨w.heap.size, 2, none⟩))) hHeld ?_ ?_
    · intro w9 hSw
      try dsimp only at hSw
      go_simp
    try simp only [qpu]
    refine qtk (i := 3) (oi := fyp27o22) (v := (.agg #[.int .i64 sf, .int .u64 sh, .int .u64 sl])) hHeld ?_ ?_
    · intro w9 hSw
      try dsimp only at hSw
      have hcc := Blk.wy (r := ⟨f, pr, ⟨sf, sh, sl⟩, ⟨df, dh, dl⟩, sp, dp⟩) hSw
      go_simp
    try simp only [qpu]
    refine qtk (i := 4) (oi := fyp27o28) (v := (.pointer (some ⟨w.heap.size, 5, none⟩))) hHeld ?_ ?_
    · intro w9 hSw
      try dsimp only at hSw
      go_simp
    try simp only [qpu]
    refine qtk (i := 5) (oi := fyp27o23) (v := (.agg #[.int .i64 df, .int .u64 dh, .int .u64 dl])) hHeld ?_ ?_
    · intro w9 hSw
      try dsimp only at hSw
      have hcc := Blk.wy (r := ⟨f, pr, ⟨sf, sh, sl⟩, ⟨df, dh, dl⟩, sp, dp⟩) hSw
      go_simp
    try simp only [qpu]
    refine wpAnyH_ready (rs := [6]) (by kernel_rfl) (by simp) ?_
    refine AllReadyH.cons (o := fyp27o1) rfl (fun K hK => ?_) AllReadyH.nil
    go_simp
    refine Calls.mono (KE.out _) ?_
    rintro e W3 ⟨rfl, bb⟩
    have A3 := Ad_.kept bb
    have b3 := bel_tr bd bb
    clear bb KE
    refine hK.out _ _ (by exact A3) (fun hHeld => ?_)
    clear hK K
    try simp only [qpu]
    refine qtk (i := 7) (oi := fyp27o17) (v := (.bool true)) hHeld ?_ ?_
    · intro w9 hSw
      try dsimp only at hSw
      go_simp
    try simp only [qpu]
    refine qtk (i := 8) (oi := fyp27o21) (v := (.pointer (some ⟨w.heap.size, 1, none⟩))) hHeld ?_ ?_
    · intro w9 hSw
      try dsimp only at hSw
      go_simp
    try simp only [qpu]
    refine qtk (i := 9) (oi := fyp27o15) (v := (.int .i64 pr)) hHeld ?_ ?_
    · intro w9 hSw
      try dsimp only at hSw
      have hcc := Blk.wy (r := ⟨f, pr, ⟨sf, sh, sl⟩, ⟨df, dh, dl⟩, sp, dp⟩) hSw
      go_simp
    try simp only [qpu]
    refine qtk (i := 10) (oi := fyp27o7) (v := (.bool false)) hHeld ?_ ?_
    · intro w9 hSw
      try dsimp only at hSw
      go_simp
    try simp only [qpu]
    refine qtk (i := 11) (oi := fyp27o9) (v := (.bool false)) hHeld ?_ ?_
    · intro w9 hSw
      try dsimp only at hSw
      go_simp
    try simp only [qpu]
    refine qtk (i := 12) (oi := fyp27o18) (v := (.pointer (some ⟨w.heap.size, 1, none⟩))) hHeld ?_ ?_
    · intro w9 hSw
      try dsimp only at hSw
      go_simp
    try simp only [qpu]
    refine qtk (i := 13) (oi := fyp27o12) (v := (.int .i64 pr)) hHeld ?_ ?_
    · intro w9 hSw
      try dsimp only at hSw
      have hcc := Blk.wy (r := ⟨f, pr, ⟨sf, sh, sl⟩, ⟨df, dh, dl⟩, sp, dp⟩) hSw
      go_simp
    try simp only [qpu]
    refine qtk (i := 14) (oi := fyp27o6) (v := (.bool false)) hHeld ?_ ?_
    · intro w9 hSw
      try dsimp only at hSw
      go_simp
    try simp only [qpu]
    refine qtk (i := 15) (oi := fyp27o4) (v := (.bool false)) hHeld ?_ ?_
    · intro w9 hSw
      try dsimp only at hSw
      go_simp
    try simp only [qpu]
    refine qtk (i := 16) (oi := fyp27o8) (v := (.bool false)) hHeld ?_ ?_
    · intro w9 hSw
      try dsimp only at hSw
      go_simp
    try simp only [qpu]
    refine qtk (i := 17) (oi := fyp27o19) (v := (.pointer (some ⟨w.heap.size, 1, none⟩))) hHeld ?_ ?_
    · intro w9 hSw
      try dsimp only at hSw
      go_simp
    try simp only [qpu]
    refine qtk (i := 18) (oi := fyp27o13) (v := (.int .i64 pr)) hHeld ?_ ?_
    · intro w9 hSw
      try dsimp only at hSw
      have hcc := Blk.wy (r := ⟨f, pr, ⟨sf, sh, sl⟩, ⟨df, dh, dl⟩, sp, dp⟩) hSw
      go_simp
    try simp only [qpu]
    refine qtk (i := 19) (oi := fyp27o20) (v := (.pointer (some ⟨w.heap.size, 0, none⟩))) hHeld ?_ ?_
    · intro w9 hSw
      try dsimp only at hSw
      go_simp
    try simp only [qpu]
    refine qtk (i := 20) (oi := fyp27o14) (v := (.int .i64 f)) hHeld ?_ ?_
    · intro w9 hSw
      try dsimp only at hSw
      have hcc := Blk.wy (r := ⟨f, pr, ⟨sf, sh, sl⟩, ⟨df, dh, dl⟩, sp, dp⟩) hSw
      go_simp
    try simp only [qpu]
    refine wpAnyH_ready (rs := [21]) (by kernel_rfl) (by simp) ?_
    refine AllReadyH.cons (o := fyp27o2) rfl (fun K hK => ?_) AllReadyH.nil
    go_simp
    refine Calls.mono (KI.out _) ?_
    rintro e _ ⟨rfl, rfl⟩
    clear KI
    refine hK.out _ _ (by exact A3) (fun hHeld => ?_)
    clear hK K
    try simp only [qpu]
    refine qtk (i := 22) (oi := fyp27o3) (v := (.bool false)) hHeld ?_ ?_
    · intro w9 hSw
      try dsimp only at hSw
      go_simp
    try simp only [qpu]
    refine qtk (i := 23) (oi := fyp27o5) (v := (.bool false)) hHeld ?_ ?_
    · intro w9 hSw
      try dsimp only at hSw
      go_simp
    try simp only [qpu]
    refine qtk (i := 24) (oi := fyp27o11) (v := (.bool false)) hHeld ?_ ?_
    · intro w9 hSw
      try dsimp only at hSw
      go_simp
    try simp only [qpu]
    refine qtk (i := 25) (oi := fyp27o16) (v := (.bool false)) hHeld ?_ ?_
    · intro w9 hSw
      try dsimp only at hSw
      go_simp
    try simp only [qpu]
    refine qtn (i := 26) (oi := fyp27o24) hHeld ?_
    try simp only [qpu]
    refine qtk (i := 27) (oi := fyp27o10) (v := (.bool false)) hHeld ?_ ?_
    · intro w9 hSw
      try dsimp only at hSw
      go_simp
    try simp only [qpu]
    refine qtk (i := 28) (oi := fyp27o0) (v := (.bool false)) hHeld ?_ ?_
    · intro w9 hSw
      try dsimp only at hSw
      go_simp
    try simp only [qpu]
    refine wpAnyH_done (by kernel_rfl) ?_ _
    refine NoPanic.normal ?_
    go_wp2
    go_ret
    exact ⟨retB_tu (by rw [HT.out]; simp [P1.out, P2.out, P3.out]), b3⟩
set_option maxRecDepth 100000 in
set_option maxHeartbeats 4000000 in
theorem rright_b (f pr sf sh sl df dh dl sp dp : Int) (w : World) (hsl : 0 ≤ sl) (hdl : 0 ≤ dl) (c1 : 0 ≤ sp) (c2 : ¬ sp ≤ 65535) :
    Calls Try.prog 35 #[.agg #[.int .i64 f, .int .i64 pr, .int .i64 sf, .int .u64 sh, .int .u64 sl, .int .i64 df, .int .u64 dh, .int .u64 dl, .int .i64 sp, .int .i64 dp]] w fun e w' => e = .returned (.bool (endsB f ⟨sf, sh, sl⟩ ⟨df, dh, dl⟩ && (protoB f pr && false))) ∧ Below w.heap.size w w' := by
  have KE : Hid (∀ W, Calls Try.prog 63 #[.int .i64 f, .agg #[.int .i64 sf, .int .u64 sh, .int .u64 sl], .agg #[.int .i64 df, .int .u64 dh, .int .u64 dl]] W _) := fun W => rEnds_any f sf sh sl df dh dl W hsl hdl
  have KI : Hid (∀ W, Calls Try.prog 64 #[.int .i64 f] W _) := fun W => icmp_t f W
  have HP : Hid (protoB f pr = (decide (pr = 6) || (decide (pr = 17) || decide (pr = if f = 4 then 1 else 58)))) := rfl
  obtain ⟨T, hT⟩ : ∃ T, (endsB f ⟨sf, sh, sl⟩ ⟨df, dh, dl⟩ && (protoB f pr && false)) = T := ⟨_, rfl⟩
  rw [hT]
  have HT : Hid (T = (endsB f ⟨sf, sh, sl⟩ ⟨df, dh, dl⟩ && (protoB f pr && false))) := hT.symm
  clear hT
  rw [HP.out] at HT
  clear HP hsl hdl
  generalize (if f = 4 then 1 else 58 : Int) = I at *
  generalize endsB f ⟨sf, sh, sl⟩ ⟨df, dh, dl⟩ = E at *
  obtain ⟨W1, hW1⟩ : ∃ W1, w.alloc (.cells #[.int .i64 f, .int .i64 pr, .int .i64 sf, .int .u64 sh, .int .u64 sl, .int .i64 df, .int .u64 dh, .int .u64 dl, .int .i64 sp, .int .i64 dp] 26) = W1 := ⟨_, rfl⟩
  have b1 := bel_nw hW1
  have A1 := blk_nw hW1
  obtain ⟨k0, k1, k2, k3, k4, k5, k6, k7, k8, k9⟩ := Blk.wy (r := ⟨f, pr, ⟨sf, sh, sl⟩, ⟨df, dh, dl⟩, sp, dp⟩) A1
  cases E with
  | false =>
    go_enter Try.func35, Try.ntmps35
    go_wp2_with fail
    have Ad_ := A1.drew
    have bd := b1.drew
    clear k0 k1 k2 k3 k4 k5 k6 k7 k8 k9
    refine wp_region_noPanic ?_
    refine wp_region_held_drew (S := fun w' => Blk w' w.heap.size 26 #[.int .i64 f, .int .i64 pr, .int .i64 sf, .int .u64 sh, .int .u64 sl, .int .i64 df, .int .u64 dh, .int .u64 dl, .int .i64 sp, .int .i64 dp]) (by kernel_rfl) (by exact Ad_) (fun hHeld => ?_)
    refine qtk (i := 0) (oi := fyp27o26) (v := (.pointer (some ⟨w.heap.size, 0, none⟩))) hHeld ?_ ?_
    · intro w9 hSw
      try dsimp only at hSw
      go_simp
    try simp only [qpu]
    refine qtk (i := 1) (oi := fyp27o25) (v := (.int .i64 f)) hHeld ?_ ?_
    · intro w9 hSw
      try dsimp only at hSw
      have hcc := Blk.wy (r := ⟨f, pr, ⟨sf, sh, sl⟩, ⟨df, dh, dl⟩, sp, dp⟩) hSw
      go_simp
    try simp only [qpu]
    refine qtk (i := 2) (oi := fyp27o27) (v := (.pointer (some ⟨w.heap.size, 2, none⟩))) hHeld ?_ ?_
    · intro w9 hSw
      try dsimp only at hSw
      go_simp
    try simp only [qpu]
    refine qtk (i := 3) (oi := fyp27o22) (v := (.agg #[.int .i64 sf, .int .u64 sh, .int .u64 sl])) hHeld ?_ ?_
    · intro w9 hSw
      try dsimp only at hSw
      have hcc := Blk.wy (r := ⟨f, pr, ⟨sf, sh, sl⟩, ⟨df, dh, dl⟩, sp, dp⟩) hSw
      go_simp
    try simp only [qpu]
    refine qtk (i := 4) (oi := fyp27o28) (v := (.pointer (some ⟨w.heap.size, 5, none⟩))) hHeld ?_ ?_
    · intro w9 hSw
      try dsimp only at hSw
      go_simp
    try simp only [qpu]
    refine qtk (i := 5) (oi := fyp27o23) (v := (.agg #[.int .i64 df, .int .u64 dh, .int .u64 dl])) hHeld ?_ ?_
    · intro w9 hSw
      try dsimp only at hSw
      have hcc := Blk.wy (r := ⟨f, pr, ⟨sf, sh, sl⟩, ⟨df, dh, dl⟩, sp, dp⟩) hSw
      go_simp
    try simp only [qpu]
    refine wpAnyH_ready (rs := [6]) (by kernel_rfl) (by simp) ?_
    refine AllReadyH.cons (o := fyp27o1) rfl (fun K hK => ?_) AllReadyH.nil
    go_simp
    refine Calls.mono (KE.out _) ?_
    rintro e W3 ⟨rfl, bb⟩
    have A3 := Ad_.kept bb
    have b3 := bel_tr bd bb
    clear bb KE
    refine hK.out _ _ (by exact A3) (fun hHeld => ?_)
    clear hK K
    try simp only [qpu]
    refine qtk (i := 7) (oi := fyp27o17) (v := (.bool false)) hHeld ?_ ?_
    · intro w9 hSw
      try dsimp only at hSw
      go_simp
    try simp only [qpu]
    refine qtn (i := 8) (oi := fyp27o21) hHeld ?_
    try simp only [qpu]
    refine qtn (i := 9) (oi := fyp27o15) hHeld ?_
    try simp only [qpu]
    refine qtn (i := 10) (oi := fyp27o7) hHeld ?_
    try simp only [qpu]
    refine qtn (i := 11) (oi := fyp27o9) hHeld ?_
    try simp only [qpu]
    refine qtn (i := 12) (oi := fyp27o18) hHeld ?_
    try simp only [qpu]
    refine qtn (i := 13) (oi := fyp27o12) hHeld ?_
    try simp only [qpu]
    refine qtn (i := 14) (oi := fyp27o6) hHeld ?_
    try simp only [qpu]
    refine qtn (i := 15) (oi := fyp27o4) hHeld ?_
    try simp only [qpu]
    refine qtn (i := 16) (oi := fyp27o8) hHeld ?_
    try simp only [qpu]
    refine qtn (i := 17) (oi := fyp27o19) hHeld ?_
    try simp only [qpu]
    refine qtn (i := 18) (oi := fyp27o13) hHeld ?_
    try simp only [qpu]
    refine qtn (i := 19) (oi := fyp27o20) hHeld ?_
    try simp only [qpu]
    refine qtn (i := 20) (oi := fyp27o14) hHeld ?_
    try simp only [qpu]
    refine qtn (i := 21) (oi := fyp27o2) hHeld ?_
    try simp only [qpu]
    refine qtn (i := 22) (oi := fyp27o3) hHeld ?_
    try simp only [qpu]
    refine qtn (i := 23) (oi := fyp27o5) hHeld ?_
    try simp only [qpu]
    refine qtk (i := 24) (oi := fyp27o11) (v := (.bool false)) hHeld ?_ ?_
    · intro w9 hSw
      try dsimp only at hSw
      go_simp
    try simp only [qpu]
    refine qtk (i := 25) (oi := fyp27o16) (v := (.bool false)) hHeld ?_ ?_
    · intro w9 hSw
      try dsimp only at hSw
      go_simp
    try simp only [qpu]
    refine qtn (i := 26) (oi := fyp27o24) hHeld ?_
    try simp only [qpu]
    refine qtk (i := 27) (oi := fyp27o10) (v := (.bool false)) hHeld ?_ ?_
    · intro w9 hSw
      try dsimp only at hSw
      go_simp
    try simp only [qpu]
    refine qtk (i := 28) (oi := fyp27o0) (v := (.bool false)) hHeld ?_ ?_
    · intro w9 hSw
      try dsimp only at hSw
      go_simp
    try simp only [qpu]
    refine wpAnyH_done (by kernel_rfl) ?_ _
    refine NoPanic.normal ?_
    go_wp2
    go_ret
    exact ⟨retB_tu (by rw [HT.out]; simp []), b3⟩
  | true =>
    by_cases p1 : pr = 6
    · have n1 : (pr == 6) = true := by simpa using p1
      have P1 : Hid _ := p1
      clear p1
      go_enter Try.func35, Try.ntmps35
      go_wp2_with fail
      have Ad_ := A1.drew
      have bd := b1.drew
      clear k0 k1 k2 k3 k4 k5 k6 k7 k8 k9
      refine wp_region_noPanic ?_
      refine wp_region_held_drew (S := fun w' => Blk w' w.heap.size 26 #[.int .i64 f, .int .i64 pr, .int .i64 sf, .int .u64 sh, .int .u64 sl, .int .i64 df, .int .u64 dh, .int .u64 dl, .int .i64 sp, .int .i64 dp]) (by kernel_rfl) (by exact Ad_) (fun hHeld => ?_)
      refine qtk (i := 0) (oi := fyp27o26) (v := (.pointer (some ⟨w.heap.size, 0, none⟩))) hHeld ?_ ?_
      · intro w9 hSw
        try dsimp only at hSw
        go_simp
      try simp only [qpu]
      refine qtk (i := 1) (oi := fyp27o25) (v := (.int .i64 f)) hHeld ?_ ?_
      · intro w9 hSw
        try dsimp only at hSw
        have hcc := Blk.wy (r := ⟨f, pr, ⟨sf, sh, sl⟩, ⟨df, dh, dl⟩, sp, dp⟩) hSw
        go_simp
      try simp only [qpu]
      refine qtk (i := 2) (oi := fyp27o27) (v := (.pointer (some ⟨w.heap.size, 2, none⟩))) hHeld ?_ ?_
      · intro w9 hSw
        try dsimp only at hSw
        go_simp
      try simp only [qpu]
      refine qtk (i := 3) (oi := fyp27o22) (v := (.agg #[.int .i64 sf, .int .u64 sh, .int .u64 sl])) hHeld ?_ ?_
      · intro w9 hSw
        try dsimp only at hSw
        have hcc := Blk.wy (r := ⟨f, pr, ⟨sf, sh, sl⟩, ⟨df, dh, dl⟩, sp, dp⟩) hSw
        go_simp
      try simp only [qpu]
      refine qtk (i := 4) (oi := fyp27o28) (v := (.pointer (some ⟨w.heap.size, 5, none⟩))) hHeld ?_ ?_
      · intro w9 hSw
        try dsimp only at hSw
        go_simp
      try simp only [qpu]
      refine qtk (i := 5) (oi := fyp27o23) (v := (.agg #[.int .i64 df, .int .u64 dh, .int .u64 dl])) hHeld ?_ ?_
      · intro w9 hSw
        try dsimp only at hSw
        have hcc := Blk.wy (r := ⟨f, pr, ⟨sf, sh, sl⟩, ⟨df, dh, dl⟩, sp, dp⟩) hSw
        go_simp
      try simp only [qpu]
      refine wpAnyH_ready (rs := [6]) (by kernel_rfl) (by simp) ?_
      refine AllReadyH.cons (o := fyp27o1) rfl (fun K hK => ?_) AllReadyH.nil
      go_simp
      refine Calls.mono (KE.out _) ?_
      rintro e W3 ⟨rfl, bb⟩
      have A3 := Ad_.kept bb
      have b3 := bel_tr bd bb
      clear bb KE
      refine hK.out _ _ (by exact A3) (fun hHeld => ?_)
      clear hK K
      try simp only [qpu]
      refine qtk (i := 7) (oi := fyp27o17) (v := (.bool true)) hHeld ?_ ?_
      · intro w9 hSw
        try dsimp only at hSw
        go_simp
      try simp only [qpu]
      refine qtk (i := 8) (oi := fyp27o21) (v := (.pointer (some ⟨w.heap.size, 1, none⟩))) hHeld ?_ ?_
      · intro w9 hSw
        try dsimp only at hSw
        go_simp
      try simp only [qpu]
      refine qtk (i := 9) (oi := fyp27o15) (v := (.int .i64 pr)) hHeld ?_ ?_
      · intro w9 hSw
        try dsimp only at hSw
        have hcc := Blk.wy (r := ⟨f, pr, ⟨sf, sh, sl⟩, ⟨df, dh, dl⟩, sp, dp⟩) hSw
        go_simp
      try simp only [qpu]
      refine qtk (i := 10) (oi := fyp27o7) (v := (.bool true)) hHeld ?_ ?_
      · intro w9 hSw
        try dsimp only at hSw
        go_simp
      try simp only [qpu]
      refine qtk (i := 11) (oi := fyp27o9) (v := (.bool true)) hHeld ?_ ?_
      · intro w9 hSw
        try dsimp only at hSw
        go_simp
      try simp only [qpu]
      refine qtn (i := 12) (oi := fyp27o18) hHeld ?_
      try simp only [qpu]
      refine qtn (i := 13) (oi := fyp27o12) hHeld ?_
      try simp only [qpu]
      refine qtn (i := 14) (oi := fyp27o6) hHeld ?_
      try simp only [qpu]
      refine qtk (i := 15) (oi := fyp27o4) (v := (.bool true)) hHeld ?_ ?_
      · intro w9 hSw
        try dsimp only at hSw
        go_simp
      try simp only [qpu]
      refine qtk (i := 16) (oi := fyp27o8) (v := (.bool true)) hHeld ?_ ?_
      · intro w9 hSw
        try dsimp only at hSw
        go_simp
      try simp only [qpu]
      refine qtn (i := 17) (oi := fyp27o19) hHeld ?_
      try simp only [qpu]
      refine qtn (i := 18) (oi := fyp27o13) hHeld ?_
      try simp only [qpu]
      refine qtn (i := 19) (oi := fyp27o20) hHeld ?_
      try simp only [qpu]
      refine qtn (i := 20) (oi := fyp27o14) hHeld ?_
      try simp only [qpu]
      refine qtn (i := 21) (oi := fyp27o2) hHeld ?_
      try simp only [qpu]
      refine qtn (i := 22) (oi := fyp27o3) hHeld ?_
      try simp only [qpu]
      refine qtk (i := 23) (oi := fyp27o5) (v := (.bool true)) hHeld ?_ ?_
      · intro w9 hSw
        try dsimp only at hSw
        go_simp
      try simp only [qpu]
      refine qtk (i := 24) (oi := fyp27o11) (v := (.bool true)) hHeld ?_ ?_
      · intro w9 hSw
        try dsimp only at hSw
        go_simp
      try simp only [qpu]
      refine qtk (i := 25) (oi := fyp27o16) (v := (.bool true)) hHeld ?_ ?_
      · intro w9 hSw
        try dsimp only at hSw
        go_simp
      try simp only [qpu]
      refine qtk (i := 26) (oi := fyp27o24) (v := (.bool false)) hHeld ?_ ?_
      · intro w9 hSw
        try dsimp only at hSw
        go_simp
      try simp only [qpu]
      refine qtk (i := 27) (oi := fyp27o10) (v := (.bool false)) hHeld ?_ ?_
      · intro w9 hSw
        try dsimp only at hSw
        go_simp
      try simp only [qpu]
      refine qtk (i := 28) (oi := fyp27o0) (v := (.bool false)) hHeld ?_ ?_
      · intro w9 hSw
        try dsimp only at hSw
        go_simp
      try simp only [qpu]
      refine wpAnyH_done (by kernel_rfl) ?_ _
      refine NoPanic.normal ?_
      go_wp2
      go_ret
      exact ⟨retB_tu (by rw [HT.out]; simp [P1.out]), b3⟩
    have n1 : (pr == 6) = false := by simpa using p1
    have P1 : Hid _ := p1
    clear p1
    by_cases p2 : pr = 17
    · have n2 : (pr == 17) = true := by simpa using p2
      have P2 : Hid _ := p2
      clear p2
      go_enter Try.func35, Try.ntmps35
      go_wp2_with fail
      have Ad_ := A1.drew
      have bd := b1.drew
      clear k0 k1 k2 k3 k4 k5 k6 k7 k8 k9
      refine wp_region_noPanic ?_
      refine wp_region_held_drew (S := fun w' => Blk w' w.heap.size 26 #[.int .i64 f, .int .i64 pr, .int .i64 sf, .int .u64 sh, .int .u64 sl, .int .i64 df, .int .u64 dh, .int .u64 dl, .int .i64 sp, .int .i64 dp]) (by kernel_rfl) (by exact Ad_) (fun hHeld => ?_)
      refine qtk (i := 0) (oi := fyp27o26) (v := (.pointer (some ⟨w.heap.size, 0, none⟩))) hHeld ?_ ?_
      · intro w9 hSw
        try dsimp only at hSw
        go_simp
      try simp only [qpu]
      refine qtk (i := 1) (oi := fyp27o25) (v := (.int .i64 f)) hHeld ?_ ?_
      · intro w9 hSw
        try dsimp only at hSw
        have hcc := Blk.wy (r := ⟨f, pr, ⟨sf, sh, sl⟩, ⟨df, dh, dl⟩, sp, dp⟩) hSw
        go_simp
      try simp only [qpu]
      refine qtk (i := 2) (oi := fyp27o27) (v := (.pointer (some ⟨w.heap.size, 2, none⟩))) hHeld ?_ ?_
      · intro w9 hSw
        try dsimp only at hSw
        go_simp
      try simp only [qpu]
      refine qtk (i := 3) (oi := fyp27o22) (v := (.agg #[.int .i64 sf, .int .u64 sh, .int .u64 sl])) hHeld ?_ ?_
      · intro w9 hSw
        try dsimp only at hSw
        have hcc := Blk.wy (r := ⟨f, pr, ⟨sf, sh, sl⟩, ⟨df, dh, dl⟩, sp, dp⟩) hSw
        go_simp
      try simp only [qpu]
      refine qtk (i := 4) (oi := fyp27o28) (v := (.pointer (some ⟨w.heap.size, 5, none⟩))) hHeld ?_ ?_
      · intro w9 hSw
        try dsimp only at hSw
        go_simp
      try simp only [qpu]
      refine qtk (i := 5) (oi := fyp27o23) (v := (.agg #[.int .i64 df, .int .u64 dh, .int .u64 dl])) hHeld ?_ ?_
      · intro w9 hSw
        try dsimp only at hSw
        have hcc := Blk.wy (r := ⟨f, pr, ⟨sf, sh, sl⟩, ⟨df, dh, dl⟩, sp, dp⟩) hSw
        go_simp
      try simp only [qpu]
      refine wpAnyH_ready (rs := [6]) (by kernel_rfl) (by simp) ?_
      refine AllReadyH.cons (o := fyp27o1) rfl (fun K hK => ?_) AllReadyH.nil
      go_simp
      refine Calls.mono (KE.out _) ?_
      rintro e W3 ⟨rfl, bb⟩
      have A3 := Ad_.kept bb
      have b3 := bel_tr bd bb
      clear bb KE
      refine hK.out _ _ (by exact A3) (fun hHeld => ?_)
      clear hK K
      try simp only [qpu]
      refine qtk (i := 7) (oi := fyp27o17) (v := (.bool true)) hHeld ?_ ?_
      · intro w9 hSw
        try dsimp only at hSw
        go_simp
      try simp only [qpu]
      refine qtk (i := 8) (oi := fyp27o21) (v := (.pointer (some ⟨w.heap.size, 1, none⟩))) hHeld ?_ ?_
      · intro w9 hSw
        try dsimp only at hSw
        go_simp
      try simp only [qpu]
      refine qtk (i := 9) (oi := fyp27o15) (v := (.int .i64 pr)) hHeld ?_ ?_
      · intro w9 hSw
        try dsimp only at hSw
        have hcc := Blk.wy (r := ⟨f, pr, ⟨sf, sh, sl⟩, ⟨df, dh, dl⟩, sp, dp⟩) hSw
        go_simp
      try simp only [qpu]
      refine qtk (i := 10) (oi := fyp27o7) (v := (.bool false)) hHeld ?_ ?_
      · intro w9 hSw
        try dsimp only at hSw
        go_simp
      try simp only [qpu]
      refine qtk (i := 11) (oi := fyp27o9) (v := (.bool false)) hHeld ?_ ?_
      · intro w9 hSw
        try dsimp only at hSw
        go_simp
      try simp only [qpu]
      refine qtk (i := 12) (oi := fyp27o18) (v := (.pointer (some ⟨w.heap.size, 1, none⟩))) hHeld ?_ ?_
      · intro w9 hSw
        try dsimp only at hSw
        go_simp
      try simp only [qpu]
      refine qtk (i := 13) (oi := fyp27o12) (v := (.int .i64 pr)) hHeld ?_ ?_
      · intro w9 hSw
        try dsimp only at hSw
        have hcc := Blk.wy (r := ⟨f, pr, ⟨sf, sh, sl⟩, ⟨df, dh, dl⟩, sp, dp⟩) hSw
        go_simp
      try simp only [qpu]
      refine qtk (i := 14) (oi := fyp27o6) (v := (.bool true)) hHeld ?_ ?_
      · intro w9 hSw
        try dsimp only at hSw
        go_simp
      try simp only [qpu]
      refine qtk (i := 15) (oi := fyp27o4) (v := (.bool true)) hHeld ?_ ?_
      · intro w9 hSw
        try dsimp only at hSw
        go_simp
      try simp only [qpu]
      refine qtk (i := 16) (oi := fyp27o8) (v := (.bool true)) hHeld ?_ ?_
      · intro w9 hSw
        try dsimp only at hSw
        go_simp
      try simp only [qpu]
      refine qtn (i := 17) (oi := fyp27o19) hHeld ?_
      try simp only [qpu]
      refine qtn (i := 18) (oi := fyp27o13) hHeld ?_
      try simp only [qpu]
      refine qtn (i := 19) (oi := fyp27o20) hHeld ?_
      try simp only [qpu]
      refine qtn (i := 20) (oi := fyp27o14) hHeld ?_
      try simp only [qpu]
      refine qtn (i := 21) (oi := fyp27o2) hHeld ?_
      try simp only [qpu]
      refine qtn (i := 22) (oi := fyp27o3) hHeld ?_
      try simp only [qpu]
      refine qtk (i := 23) (oi := fyp27o5) (v := (.bool true)) hHeld ?_ ?_
      · intro w9 hSw
        try dsimp only at hSw
        go_simp
      try simp only [qpu]
      refine qtk (i := 24) (oi := fyp27o11) (v := (.bool true)) hHeld ?_ ?_
      · intro w9 hSw
        try dsimp only at hSw
        go_simp
      try simp only [qpu]
      refine qtk (i := 25) (oi := fyp27o16) (v := (.bool true)) hHeld ?_ ?_
      · intro w9 hSw
        try dsimp only at hSw
        go_simp
      try simp only [qpu]
      refine qtk (i := 26) (oi := fyp27o24) (v := (.bool false)) hHeld ?_ ?_
      · intro w9 hSw
        try dsimp only at hSw
        go_simp
      try simp only [qpu]
      refine qtk (i := 27) (oi := fyp27o10) (v := (.bool false)) hHeld ?_ ?_
      · intro w9 hSw
        try dsimp only at hSw
        go_simp
      try simp only [qpu]
      refine qtk (i := 28) (oi := fyp27o0) (v := (.bool false)) hHeld ?_ ?_
      · intro w9 hSw
        try dsimp only at hSw
        go_simp
      try simp only [qpu]
      refine wpAnyH_done (by kernel_rfl) ?_ _
      refine NoPanic.normal ?_
      go_wp2
      go_ret
      exact ⟨retB_tu (by rw [HT.out]; simp [P1.out, P2.out]), b3⟩
    have n2 : (pr == 17) = false := by simpa using p2
    have P2 : Hid _ := p2
    clear p2
    by_cases p3 : pr = I
    · have n3 : (pr == I) = true := by simpa using p3
      have P3 : Hid _ := p3
      clear p3
      go_enter Try.func35, Try.ntmps35
      go_wp2_with fail
      have Ad_ := A1.drew
      have bd := b1.drew
      clear k0 k1 k2 k3 k4 k5 k6 k7 k8 k9
      refine wp_region_noPanic ?_
      refine wp_region_held_drew (S := fun w' => Blk w' w.heap.size 26 #[.int .i64 f, .int .i64 pr, .int .i64 sf, .int .u64 sh, .int .u64 sl, .int .i64 df, .int .u64 dh, .int .u64 dl, .int .i64 sp, .int .i64 dp]) (by kernel_rfl) (by exact Ad_) (fun hHeld => ?_)
      refine qtk (i := 0) (oi := fyp27o26) (v := (.pointer (some ⟨w.heap.size, 0, none⟩))) hHeld ?_ ?_
      · intro w9 hSw
        try dsimp only at hSw
        go_simp
      try simp only [qpu]
      refine qtk (i := 1) (oi := fyp27o25) (v := (.int .i64 f)) hHeld ?_ ?_
      · intro w9 hSw
        try dsimp only at hSw
        have hcc := Blk.wy (r := ⟨f, pr, ⟨sf, sh, sl⟩, ⟨df, dh, dl⟩, sp, dp⟩) hSw
        go_simp
      try simp only [qpu]
      refine qtk (i := 2) (oi := fyp27o27) (v := (.pointer (some ⟨w.heap.size, 2, none⟩))) hHeld ?_ ?_
      · intro w9 hSw
        try dsimp only at hSw
        go_simp
      try simp only [qpu]
      refine qtk (i := 3) (oi := fyp27o22) (v := (.agg #[.int .i64 sf, .int .u64 sh, .int .u64 sl])) hHeld ?_ ?_
      · intro w9 hSw
        try dsimp only at hSw
        have hcc := Blk.wy (r := ⟨f, pr, ⟨sf, sh, sl⟩, ⟨df, dh, dl⟩, sp, dp⟩) hSw
        go_simp
      try simp only [qpu]
      refine qtk (i := 4) (oi := fyp27o28) (v := (.pointer (some ⟨w.heap.size, 5, none⟩))) hHeld ?_ ?_
      · intro w9 hSw
        try dsimp only at hSw
        go_simp
      try simp only [qpu]
      refine qtk (i := 5) (oi := fyp27o23) (v := (.agg #[.int .i64 df, .int .u64 dh, .int .u64 dl])) hHeld ?_ ?_
      · intro w9 hSw
        try dsimp only at hSw
        have hcc := Blk.wy (r := ⟨f, pr, ⟨sf, sh, sl⟩, ⟨df, dh, dl⟩, sp, dp⟩) hSw
        go_simp
      try simp only [qpu]
      refine wpAnyH_ready (rs := [6]) (by kernel_rfl) (by simp) ?_
      refine AllReadyH.cons (o := fyp27o1) rfl (fun K hK => ?_) AllReadyH.nil
      go_simp
      refine Calls.mono (KE.out _) ?_
      rintro e W3 ⟨rfl, bb⟩
      have A3 := Ad_.kept bb
      have b3 := bel_tr bd bb
      clear bb KE
      refine hK.out _ _ (by exact A3) (fun hHeld => ?_)
      clear hK K
      try simp only [qpu]
      refine qtk (i := 7) (oi := fyp27o17) (v := (.bool true)) hHeld ?_ ?_
      · intro w9 hSw
        try dsimp only at hSw
        go_simp
      try simp only [qpu]
      refine qtk (i := 8) (oi := fyp27o21) (v := (.pointer (some ⟨w.heap.size, 1, none⟩))) hHeld ?_ ?_
      · intro w9 hSw
        try dsimp only at hSw
        go_simp
      try simp only [qpu]
      refine qtk (i := 9) (oi := fyp27o15) (v := (.int .i64 pr)) hHeld ?_ ?_
      · intro w9 hSw
        try dsimp only at hSw
        have hcc := Blk.wy (r := ⟨f, pr, ⟨sf, sh, sl⟩, ⟨df, dh, dl⟩, sp, dp⟩) hSw
        go_simp
      try simp only [qpu]
      refine qtk (i := 10) (oi := fyp27o7) (v := (.bool false)) hHeld ?_ ?_
      · intro w9 hSw
        try dsimp only at hSw
        go_simp
      try simp only [qpu]
      refine qtk (i := 11) (oi := fyp27o9) (v := (.bool false)) hHeld ?_ ?_
      · intro w9 hSw
        try dsimp only at hSw
        go_simp
      try simp only [qpu]
      refine qtk (i := 12) (oi := fyp27o18) (v := (.pointer (some ⟨w.heap.size, 1, none⟩))) hHeld ?_ ?_
      · intro w9 hSw
        try dsimp only at hSw
        go_simp
      try simp only [qpu]
      refine qtk (i := 13) (oi := fyp27o12) (v := (.int .i64 pr)) hHeld ?_ ?_
      · intro w9 hSw
        try dsimp only at hSw
        have hcc := Blk.wy (r := ⟨f, pr, ⟨sf, sh, sl⟩, ⟨df, dh, dl⟩, sp, dp⟩) hSw
        go_simp
      try simp only [qpu]
      refine qtk (i := 14) (oi := fyp27o6) (v := (.bool false)) hHeld ?_ ?_
      · intro w9 hSw
        try dsimp only at hSw
        go_simp
      try simp only [qpu]
      refine qtk (i := 15) (oi := fyp27o4) (v := (.bool false)) hHeld ?_ ?_
      · intro w9 hSw
        try dsimp only at hSw
        go_simp
      try simp only [qpu]
      refine qtk (i := 16) (oi := fyp27o8) (v := (.bool false)) hHeld ?_ ?_
      · intro w9 hSw
        try dsimp only at hSw
        go_simp
      try simp only [qpu]
      refine qtk (i := 17) (oi := fyp27o19) (v := (.pointer (some ⟨w.heap.size, 1, none⟩))) hHeld ?_ ?_
      · intro w9 hSw
        try dsimp only at hSw
        go_simp
      try simp only [qpu]
      refine qtk (i := 18) (oi := fyp27o13) (v := (.int .i64 pr)) hHeld ?_ ?_
      · intro w9 hSw
        try dsimp only at hSw
        have hcc := Blk.wy (r := ⟨f, pr, ⟨sf, sh, sl⟩, ⟨df, dh, dl⟩, sp, dp⟩) hSw
        go_simp
      try simp only [qpu]
      refine qtk (i := 19) (oi := fyp27o20) (v := (.pointer (some ⟨w.heap.size, 0, none⟩))) hHeld ?_ ?_
      · intro w9 hSw
        try dsimp only at hSw
        go_simp
      try simp only [qpu]
      refine qtk (i := 20) (oi := fyp27o14) (v := (.int .i64 f)) hHeld ?_ ?_
      · intro w9 hSw
        try dsimp only at hSw
        have hcc := Blk.wy (r := ⟨f, pr, ⟨sf, sh, sl⟩, ⟨df, dh, dl⟩, sp, dp⟩) hSw
        go_simp
      try simp only [qpu]
      refine wpAnyH_ready (rs := [21]) (by kernel_rfl) (by simp) ?_
      refine AllReadyH.cons (o := fyp27o2) rfl (fun K hK => ?_) AllReadyH.nil
      go_simp
      refine Calls.mono (KI.out _) ?_
      rintro e _ ⟨rfl, rfl⟩
      clear KI
      refine hK.out _ _ (by exact A3) (fun hHeld => ?_)
      clear hK K
      try simp only [qpu]
      refine qtk (i := 22) (oi := fyp27o3) (v := (.bool true)) hHeld ?_ ?_
      · intro w9 hSw
        try dsimp only at hSw
        go_simp
      try simp only [qpu]
      refine qtk (i := 23) (oi := fyp27o5) (v := (.bool true)) hHeld ?_ ?_
      · intro w9 hSw
        try dsimp only at hSw
        go_simp
      try simp only [qpu]
      refine qtk (i := 24) (oi := fyp27o11) (v := (.bool true)) hHeld ?_ ?_
      · intro w9 hSw
        try dsimp only at hSw
        go_simp
      try simp only [qpu]
      refine qtk (i := 25) (oi := fyp27o16) (v := (.bool true)) hHeld ?_ ?_
      · intro w9 hSw
        try dsimp only at hSw
        go_simp
      try simp only [qpu]
      refine qtk (i := 26) (oi := fyp27o24) (v := (.bool false)) hHeld ?_ ?_
      · intro w9 hSw
        try dsimp only at hSw
        go_simp
      try simp only [qpu]
      refine qtk (i := 27) (oi := fyp27o10) (v := (.bool false)) hHeld ?_ ?_
      · intro w9 hSw
        try dsimp only at hSw
        go_simp
      try simp only [qpu]
      refine qtk (i := 28) (oi := fyp27o0) (v := (.bool false)) hHeld ?_ ?_
      · intro w9 hSw
        try dsimp only at hSw
        go_simp
      try simp only [qpu]
      refine wpAnyH_done (by kernel_rfl) ?_ _
      refine NoPanic.normal ?_
      go_wp2
      go_ret
      exact ⟨retB_tu (by rw [HT.out]; simp [P1.out, P2.out, P3.out]), b3⟩
    have n3 : (pr == I) = false := by simpa using p3
    have P3 : Hid _ := p3
    clear p3
    go_enter Try.func35, Try.ntmps35
    go_wp2_with fail
    have Ad_ := A1.drew
    have bd := b1.drew
    clear k0 k1 k2 k3 k4 k5 k6 k7 k8 k9
    refine wp_region_noPanic ?_
    refine wp_region_held_drew (S := fun w' => Blk w' w.heap.size 26 #[.int .i64 f, .int .i64 pr, .int .i64 sf, .int .u64 sh, .int .u64 sl, .int .i64 df, .int .u64 dh, .int .u64 dl, .int .i64 sp, .int .i64 dp]) (by kernel_rfl) (by exact Ad_) (fun hHeld => ?_)
    refine qtk (i := 0) (oi := fyp27o26) (v := (.pointer (some ⟨w.heap.size, 0, none⟩))) hHeld ?_ ?_
    · intro w9 hSw
      try dsimp only at hSw
      go_simp
    try simp only [qpu]
    refine qtk (i := 1) (oi := fyp27o25) (v := (.int .i64 f)) hHeld ?_ ?_
    · intro w9 hSw
      try dsimp only at hSw
      have hcc := Blk.wy (r := ⟨f, pr, ⟨sf, sh, sl⟩, ⟨df, dh, dl⟩, sp, dp⟩) hSw
      go_simp
    try simp only [qpu]
    refine qtk (i := 2) (oi := fyp27o27) (v := (.pointer (some ⟨w.heap.size, 2, none⟩))) hHeld ?_ ?_
    · intro w9 hSw
      try dsimp only at hSw
      go_simp
    try simp only [qpu]
    refine qtk (i := 3) (oi := fyp27o22) (v := (.agg #[.int .i64 sf, .int .u64 sh, .int .u64 sl])) hHeld ?_ ?_
    · intro w9 hSw
      try dsimp only at hSw
      have hcc := Blk.wy (r := ⟨f, pr, ⟨sf, sh, sl⟩, ⟨df, dh, dl⟩, sp, dp⟩) hSw
      go_simp
    try simp only [qpu]
    refine qtk (i := 4) (oi := fyp27o28) (v := (.pointer (some ⟨w.heap.size, 5, none⟩))) hHeld ?_ ?_
    · intro w9 hSw
      try dsimp only at hSw
      go_simp
    try simp only [qpu]
    refine qtk (i := 5) (oi := fyp27o23) (v := (.agg #[.int .i64 df, .int .u64 dh, .int .u64 dl])) hHeld ?_ ?_
    · intro w9 hSw
      try dsimp only at hSw
      have hcc := Blk.wy (r := ⟨f, pr, ⟨sf, sh, sl⟩, ⟨df, dh, dl⟩, sp, dp⟩) hSw
      go_simp
    try simp only [qpu]
    refine wpAnyH_ready (rs := [6]) (by kernel_rfl) (by simp) ?_
    refine AllReadyH.cons (o := fyp27o1) rfl (fun K hK => ?_) AllReadyH.nil
    go_simp
    refine Calls.mono (KE.out _) ?_
    rintro e W3 ⟨rfl, bb⟩
    have A3 := Ad_.kept bb
    have b3 := bel_tr bd bb
    clear bb KE
    refine hK.out _ _ (by exact A3) (fun hHeld => ?_)
    clear hK K
    try simp only [qpu]
    refine qtk (i := 7) (oi := fyp27o17) (v := (.bool true)) hHeld ?_ ?_
    · intro w9 hSw
      try dsimp only at hSw
      go_simp
    try simp only [qpu]
    refine qtk (i := 8) (oi := fyp27o21) (v := (.pointer (some ⟨w.heap.size, 1, none⟩))) hHeld ?_ ?_
    · intro w9 hSw
      try dsimp only at hSw
      go_simp
    try simp only [qpu]
    refine qtk (i := 9) (oi := fyp27o15) (v := (.int .i64 pr)) hHeld ?_ ?_
    · intro w9 hSw
      try dsimp only at hSw
      have hcc := Blk.wy (r := ⟨f, pr, ⟨sf, sh, sl⟩, ⟨df, dh, dl⟩, sp, dp⟩) hSw
      go_simp
    try simp only [qpu]
    refine qtk (i := 10) (oi := fyp27o7) (v := (.bool false)) hHeld ?_ ?_
    · intro w9 hSw
      try dsimp only at hSw
      go_simp
    try simp only [qpu]
    refine qtk (i := 11) (oi := fyp27o9) (v := (.bool false)) hHeld ?_ ?_
    · intro w9 hSw
      try dsimp only at hSw
      go_simp
    try simp only [qpu]
    refine qtk (i := 12) (oi := fyp27o18) (v := (.pointer (some ⟨w.heap.size, 1, none⟩))) hHeld ?_ ?_
    · intro w9 hSw
      try dsimp only at hSw
      go_simp
    try simp only [qpu]
    refine qtk (i := 13) (oi := fyp27o12) (v := (.int .i64 pr)) hHeld ?_ ?_
    · intro w9 hSw
      try dsimp only at hSw
      have hcc := Blk.wy (r := ⟨f, pr, ⟨sf, sh, sl⟩, ⟨df, dh, dl⟩, sp, dp⟩) hSw
      go_simp
    try simp only [qpu]
    refine qtk (i := 14) (oi := fyp27o6) (v := (.bool false)) hHeld ?_ ?_
    · intro w9 hSw
      try dsimp only at hSw
      go_simp
    try simp only [qpu]
    refine qtk (i := 15) (oi := fyp27o4) (v := (.bool false)) hHeld ?_ ?_
    · intro w9 hSw
      try dsimp only at hSw
      go_simp
    try simp only [qpu]
    refine qtk (i := 16) (oi := fyp27o8) (v := (.bool false)) hHeld ?_ ?_
    · intro w9 hSw
      try dsimp only at hSw
      go_simp
    try simp only [qpu]
    refine qtk (i := 17) (oi := fyp27o19) (v := (.pointer (some ⟨w.heap.size, 1, none⟩))) hHeld ?_ ?_
    · intro w9 hSw
      try dsimp only at hSw
      go_simp
    try simp only [qpu]
    refine qtk (i := 18) (oi := fyp27o13) (v := (.int .i64 pr)) hHeld ?_ ?_
    · intro w9 hSw
      try dsimp only at hSw
      have hcc := Blk.wy (r := ⟨f, pr, ⟨sf, sh, sl⟩, ⟨df, dh, dl⟩, sp, dp⟩) hSw
      go_simp
    try simp only [qpu]
    refine qtk (i := 19) (oi := fyp27o20) (v := (.pointer (some ⟨w.heap.size, 0, none⟩))) hHeld ?_ ?_
    · intro w9 hSw
      try dsimp only at hSw
      go_simp
    try simp only [qpu]
    refine qtk (i := 20) (oi := fyp27o14) (v := (.int .i64 f)) hHeld ?_ ?_
    · intro w9 hSw
      try dsimp only at hSw
      have hcc := Blk.wy (r := ⟨f, pr, ⟨sf, sh, sl⟩, ⟨df, dh, dl⟩, sp, dp⟩) hSw
      go_simp
    try simp only [qpu]
    refine wpAnyH_ready (rs := [21]) (by kernel_rfl) (by simp) ?_
    refine AllReadyH.cons (o := fyp27o2) rfl (fun K hK => ?_) AllReadyH.nil
    go_simp
    refine Calls.mono (KI.out _) ?_
    rintro e _ ⟨rfl, rfl⟩
    clear KI
    refine hK.out _ _ (by exact A3) (fun hHeld => ?_)
    clear hK K
    try simp only [qpu]
    refine qtk (i := 22) (oi := fyp27o3) (v := (.bool false)) hHeld ?_ ?_
    · intro w9 hSw
      try dsimp only at hSw
      go_simp
    try simp only [qpu]
    refine qtk (i := 23) (oi := fyp27o5) (v := (.bool false)) hHeld ?_ ?_
    · intro w9 hSw
      try dsimp only at hSw
      go_simp
    try simp only [qpu]
    refine qtk (i := 24) (oi := fyp27o11) (v := (.bool false)) hHeld ?_ ?_
    · intro w9 hSw
      try dsimp only at hSw
      go_simp
    try simp only [qpu]
    refine qtk (i := 25) (oi := fyp27o16) (v := (.bool false)) hHeld ?_ ?_
    · intro w9 hSw
      try dsimp only at hSw
      go_simp
    try simp only [qpu]
    refine qtn (i := 26) (oi := fyp27o24) hHeld ?_
    try simp only [qpu]
    refine qtk (i := 27) (oi := fyp27o10) (v := (.bool false)) hHeld ?_ ?_
    · intro w9 hSw
      try dsimp only at hSw
      go_simp
    try simp only [qpu]
    refine qtk (i := 28) (oi := fyp27o0) (v := (.bool false)) hHeld ?_ ?_
    · intro w9 hSw
      try dsimp only at hSw
      go_simp
    try simp only [qpu]
    refine wpAnyH_done (by kernel_rfl) ?_ _
    refine NoPanic.normal ?_
    go_wp2
    go_ret
    exact ⟨retB_tu (by rw [HT.out]; simp [P1.out, P2.out, P3.out]), b3⟩
set_option maxRecDepth 100000 in
set_option maxHeartbeats 4000000 in
theorem rright_c (f pr sf sh sl df dh dl sp dp : Int) (w : World) (hsl : 0 ≤ sl) (hdl : 0 ≤ dl) (c1 : 0 ≤ sp) (c2 : sp ≤ 65535) (c3 : ¬ 0 ≤ dp) :
    Calls Try.prog 35 #[.agg #[.int .i64 f, .int .i64 pr, .int .i64 sf, .int .u64 sh, .int .u64 sl, .int .i64 df, .int .u64 dh, .int .u64 dl, .int .i64 sp, .int .i64 dp]] w fun e w' => e = .returned (.bool (endsB f ⟨sf, sh, sl⟩ ⟨df, dh, dl⟩ && (protoB f pr && false))) ∧ Below w.heap.size w w' := by
  have KE : Hid (∀ W, Calls Try.prog 63 #[.int .i64 f, .agg #[.int .i64 sf, .int .u64 sh, .int .u64 sl], .agg #[.int .i64 df, .int .u64 dh, .int .u64 dl]] W _) := fun W => rEnds_any f sf sh sl df dh dl W hsl hdl
  have KI : Hid (∀ W, Calls Try.prog 64 #[.int .i64 f] W _) := fun W => icmp_t f W
  have HP : Hid (protoB f pr = (decide (pr = 6) || (decide (pr = 17) || decide (pr = if f = 4 then 1 else 58)))) := rfl
  obtain ⟨T, hT⟩ : ∃ T, (endsB f ⟨sf, sh, sl⟩ ⟨df, dh, dl⟩ && (protoB f pr && false)) = T := ⟨_, rfl⟩
  rw [hT]
  have HT : Hid (T = (endsB f ⟨sf, sh, sl⟩ ⟨df, dh, dl⟩ && (protoB f pr && false))) := hT.symm
  clear hT
  rw [HP.out] at HT
  clear HP hsl hdl
  generalize (if f = 4 then 1 else 58 : Int) = I at *
  generalize endsB f ⟨sf, sh, sl⟩ ⟨df, dh, dl⟩ = E at *
  obtain ⟨W1, hW1⟩ : ∃ W1, w.alloc (.cells #[.int .i64 f, .int .i64 pr, .int .i64 sf, .int .u64 sh, .int .u64 sl, .int .i64 df, .int .u64 dh, .int .u64 dl, .int .i64 sp, .int .i64 dp] 26) = W1 := ⟨_, rfl⟩
  have b1 := bel_nw hW1
  have A1 := blk_nw hW1
  obtain ⟨k0, k1, k2, k3, k4, k5, k6, k7, k8, k9⟩ := Blk.wy (r := ⟨f, pr, ⟨sf, sh, sl⟩, ⟨df, dh, dl⟩, sp, dp⟩) A1
  cases E with
  | false =>
    go_enter Try.func35, Try.ntmps35
    go_wp2_with fail
    have Ad_ := A1.drew
    have bd := b1.drew
    clear k0 k1 k2 k3 k4 k5 k6 k7 k8 k9
    refine wp_region_noPanic ?_
    refine wp_region_held_drew (S := fun w' => Blk w' w.heap.size 26 #[.int .i64 f, .int .i64 pr, .int .i64 sf, .int .u64 sh, .int .u64 sl, .int .i64 df, .int .u64 dh, .int .u64 dl, .int .i64 sp, .int .i64 dp]) (by kernel_rfl) (by exact Ad_) (fun hHeld => ?_)
    refine qtk (i := 0) (oi := fyp27o26) (v := (.pointer (some ⟨w.heap.size, 0, none⟩))) hHeld ?_ ?_
    · intro w9 hSw
      try dsimp only at hSw
      go_simp
    try simp only [qpu]
    refine qtk (i := 1) (oi := fyp27o25) (v := (.int .i64 f)) hHeld ?_ ?_
    · intro w9 hSw
      try dsimp only at hSw
      have hcc := Blk.wy (r := ⟨f, pr, ⟨sf, sh, sl⟩, ⟨df, dh, dl⟩, sp, dp⟩) hSw
      go_simp
    try simp only [qpu]
    refine qtk (i := 2) (oi := fyp27o27) (v := (.pointer (some ⟨w.heap.size, 2, none⟩))) hHeld ?_ ?_
    · intro w9 hSw
      try dsimp only at hSw
      go_simp
    try simp only [qpu]
    refine qtk (i := 3) (oi := fyp27o22) (v := (.agg #[.int .i64 sf, .int .u64 sh, .int .u64 sl])) hHeld ?_ ?_
    · intro w9 hSw
      try dsimp only at hSw
      have hcc := Blk.wy (r := ⟨f, pr, ⟨sf, sh, sl⟩, ⟨df, dh, dl⟩, sp, dp⟩) hSw
      go_simp
    try simp only [qpu]
    refine qtk (i := 4) (oi := fyp27o28) (v := (.pointer (some ⟨w.heap.size, 5, none⟩))) hHeld ?_ ?_
    · intro w9 hSw
      try dsimp only at hSw
      go_simp
    try simp only [qpu]
    refine qtk (i := 5) (oi := fyp27o23) (v := (.agg #[.int .i64 df, .int .u64 dh, .int .u64 dl])) hHeld ?_ ?_
    · intro w9 hSw
      try dsimp only at hSw
      have hcc := Blk.wy (r := ⟨f, pr, ⟨sf, sh, sl⟩, ⟨df, dh, dl⟩, sp, dp⟩) hSw
      go_simp
    try simp only [qpu]
    refine wpAnyH_ready (rs := [6]) (by kernel_rfl) (by simp) ?_
    refine AllReadyH.cons (o := fyp27o1) rfl (fun K hK => ?_) AllReadyH.nil
    go_simp
    refine Calls.mono (KE.out _) ?_
    rintro e W3 ⟨rfl, bb⟩
    have A3 := Ad_.kept bb
    have b3 := bel_tr bd bb
    clear bb KE
    refine hK.out _ _ (by exact A3) (fun hHeld => ?_)
    clear hK K
    try simp only [qpu]
    refine qtk (i := 7) (oi := fyp27o17) (v := (.bool false)) hHeld ?_ ?_
    · intro w9 hSw
      try dsimp only at hSw
      go_simp
    try simp only [qpu]
    refine qtn (i := 8) (oi := fyp27o21) hHeld ?_
    try simp only [qpu]
    refine qtn (i := 9) (oi := fyp27o15) hHeld ?_
    try simp only [qpu]
    refine qtn (i := 10) (oi := fyp27o7) hHeld ?_
    try simp only [qpu]
    refine qtn (i := 11) (oi := fyp27o9) hHeld ?_
    try simp only [qpu]
    refine qtn (i := 12) (oi := fyp27o18) hHeld ?_
    try simp only [qpu]
    refine qtn (i := 13) (oi := fyp27o12) hHeld ?_
    try simp only [qpu]
    refine qtn (i := 14) (oi := fyp27o6) hHeld ?_
    try simp only [qpu]
    refine qtn (i := 15) (oi := fyp27o4) hHeld ?_
    try simp only [qpu]
    refine qtn (i := 16) (oi := fyp27o8) hHeld ?_
    try simp only [qpu]
    refine qtn (i := 17) (oi := fyp27o19) hHeld ?_
    try simp only [qpu]
    refine qtn (i := 18) (oi := fyp27o13) hHeld ?_
    try simp only [qpu]
    refine qtn (i := 19) (oi := fyp27o20) hHeld ?_
    try simp only [qpu]
    refine qtn (i := 20) (oi := fyp27o14) hHeld ?_
    try simp only [qpu]
    refine qtn (i := 21) (oi := fyp27o2) hHeld ?_
    try simp only [qpu]
    refine qtn (i := 22) (oi := fyp27o3) hHeld ?_
    try simp only [qpu]
    refine qtn (i := 23) (oi := fyp27o5) hHeld ?_
    try simp only [qpu]
    refine qtk (i := 24) (oi := fyp27o11) (v := (.bool false)) hHeld ?_ ?_
    · intro w9 hSw
      try dsimp only at hSw
      go_simp
    try simp only [qpu]
    refine qtk (i := 25) (oi := fyp27o16) (v := (.bool false)) hHeld ?_ ?_
    · intro w9 hSw
      try dsimp only at hSw
      go_simp
    try simp only [qpu]
    refine qtn (i := 26) (oi := fyp27o24) hHeld ?_
    try simp only [qpu]
    refine qtk (i := 27) (oi := fyp27o10) (v := (.bool false)) hHeld ?_ ?_
    · intro w9 hSw
      try dsimp only at hSw
      go_simp
    try simp only [qpu]
    refine qtk (i := 28) (oi := fyp27o0) (v := (.bool false)) hHeld ?_ ?_
    · intro w9 hSw
      try dsimp only at hSw
      go_simp
    try simp only [qpu]
    refine wpAnyH_done (by kernel_rfl) ?_ _
    refine NoPanic.normal ?_
    go_wp2
    go_ret
    exact ⟨retB_tu (by rw [HT.out]; simp []), b3⟩
  | true =>
    by_cases p1 : pr = 6
    · have n1 : (pr == 6) = true := by simpa using p1
      have P1 : Hid _ := p1
      clear p1
      go_enter Try.func35, Try.ntmps35
      go_wp2_with fail
      have Ad_ := A1.drew
      have bd := b1.drew
      clear k0 k1 k2 k3 k4 k5 k6 k7 k8 k9
      refine wp_region_noPanic ?_
      refine wp_region_held_drew (S := fun w' => Blk w' w.heap.size 26 #[.int .i64 f, .int .i64 pr, .int .i64 sf, .int .u64 sh, .int .u64 sl, .int .i64 df, .int .u64 dh, .int .u64 dl, .int .i64 sp, .int .i64 dp]) (by kernel_rfl) (by exact Ad_) (fun hHeld => ?_)
      refine qtk (i := 0) (oi := fyp27o26) (v := (.pointer (some ⟨w.heap.size, 0, none⟩))) hHeld ?_ ?_
      · intro w9 hSw
        try dsimp only at hSw
        go_simp
      try simp only [qpu]
      refine qtk (i := 1) (oi := fyp27o25) (v := (.int .i64 f)) hHeld ?_ ?_
      · intro w9 hSw
        try dsimp only at hSw
        have hcc := Blk.wy (r := ⟨f, pr, ⟨sf, sh, sl⟩, ⟨df, dh, dl⟩, sp, dp⟩) hSw
        go_simp
      try simp only [qpu]
      refine qtk (i := 2) (oi := fyp27o27) (v := (.pointer (some ⟨w.heap.size, 2, none⟩))) hHeld ?_ ?_
      · intro w9 hSw
        try dsimp only at hSw
        go_simp
      try simp only [qpu]
      refine qtk (i := 3) (oi := fyp27o22) (v := (.agg #[.int .i64 sf, .int .u64 sh, .int .u64 sl])) hHeld ?_ ?_
      · intro w9 hSw
        try dsimp only at hSw
        have hcc := Blk.wy (r := ⟨f, pr, ⟨sf, sh, sl⟩, ⟨df, dh, dl⟩, sp, dp⟩) hSw
        go_simp
      try simp only [qpu]
      refine qtk (i := 4) (oi := fyp27o28) (v := (.pointer (some ⟨w.heap.size, 5, none⟩))) hHeld ?_ ?_
      · intro w9 hSw
        try dsimp only at hSw
        go_simp
      try simp only [qpu]
      refine qtk (i := 5) (oi := fyp27o23) (v := (.agg #[.int .i64 df, .int .u64 dh, .int .u64 dl])) hHeld ?_ ?_
      · intro w9 hSw
        try dsimp only at hSw
        have hcc := Blk.wy (r := ⟨f, pr, ⟨sf, sh, sl⟩, ⟨df, dh, dl⟩, sp, dp⟩) hSw
        go_simp
      try simp only [qpu]
      refine wpAnyH_ready (rs := [6]) (by kernel_rfl) (by simp) ?_
      refine AllReadyH.cons (o := fyp27o1) rfl (fun K hK => ?_) AllReadyH.nil
      go_simp
      refine Calls.mono (KE.out _) ?_
      rintro e W3 ⟨rfl, bb⟩
      have A3 := Ad_.kept bb
      have b3 := bel_tr bd bb
      clear bb KE
      refine hK.out _ _ (by exact A3) (fun hHeld => ?_)
      clear hK K
      try simp only [qpu]
      refine qtk (i := 7) (oi := fyp27o17) (v := (.bool true)) hHeld ?_ ?_
      · intro w9 hSw
        try dsimp only at hSw
        go_simp
      try simp only [qpu]
      refine qtk (i := 8) (oi := fyp27o21) (v := (.pointer (some ⟨w.heap.size, 1, none⟩))) hHeld ?_ ?_
      · intro w9 hSw
        try dsimp only at hSw
        go_simp
      try simp only [qpu]
      refine qtk (i := 9) (oi := fyp27o15) (v := (.int .i64 pr)) hHeld ?_ ?_
      · intro w9 hSw
        try dsimp only at hSw
        have hcc := Blk.wy (r := ⟨f, pr, ⟨sf, sh, sl⟩, ⟨df, dh, dl⟩, sp, dp⟩) hSw
        go_simp
      try simp only [qpu]
      refine qtk (i := 10) (oi := fyp27o7) (v := (.bool true)) hHeld ?_ ?_
      · intro w9 hSw
        try dsimp only at hSw
        go_simp
      try simp only [qpu]
      refine qtk (i := 11) (oi := fyp27o9) (v := (.bool true)) hHeld ?_ ?_
      · intro w9 hSw
        try dsimp only at hSw
        go_simp
      try simp only [qpu]
      refine qtn (i := 12) (oi := fyp27o18) hHeld ?_
      try simp only [qpu]
      refine qtn (i := 13) (oi := fyp27o12) hHeld ?_
      try simp only [qpu]
      refine qtn (i := 14) (oi := fyp27o6) hHeld ?_
      try simp only [qpu]
      refine qtk (i := 15) (oi := fyp27o4) (v := (.bool true)) hHeld ?_ ?_
      · intro w9 hSw
        try dsimp only at hSw
        go_simp
      try simp only [qpu]
      refine qtk (i := 16) (oi := fyp27o8) (v := (.bool true)) hHeld ?_ ?_
      · intro w9 hSw
        try dsimp only at hSw
        go_simp
      try simp only [qpu]
      refine qtn (i := 17) (oi := fyp27o19) hHeld ?_
      try simp only [qpu]
      refine qtn (i := 18) (oi := fyp27o13) hHeld ?_
      try simp only [qpu]
      refine qtn (i := 19) (oi := fyp27o20) hHeld ?_
      try simp only [qpu]
      refine qtn (i := 20) (oi := fyp27o14) hHeld ?_
      try simp only [qpu]
      refine qtn (i := 21) (oi := fyp27o2) hHeld ?_
      try simp only [qpu]
      refine qtn (i := 22) (oi := fyp27o3) hHeld ?_
      try simp only [qpu]
      refine qtk (i := 23) (oi := fyp27o5) (v := (.bool true)) hHeld ?_ ?_
      · intro w9 hSw
        try dsimp only at hSw
        go_simp
      try simp only [qpu]
      refine qtk (i := 24) (oi := fyp27o11) (v := (.bool true)) hHeld ?_ ?_
      · intro w9 hSw
        try dsimp only at hSw
        go_simp
      try simp only [qpu]
      refine qtk (i := 25) (oi := fyp27o16) (v := (.bool true)) hHeld ?_ ?_
      · intro w9 hSw
        try dsimp only at hSw
        go_simp
      try simp only [qpu]
      refine qtk (i := 26) (oi := fyp27o24) (v := (.bool false)) hHeld ?_ ?_
      · intro w9 hSw
        try dsimp only at hSw
        go_simp
      try simp only [qpu]
      refine qtk (i := 27) (oi := fyp27o10) (v := (.bool false)) hHeld ?_ ?_
      · intro w9 hSw
        try dsimp only at hSw
        go_simp
      try simp only [qpu]
      refine qtk (i := 28) (oi := fyp27o0) (v := (.bool false)) hHeld ?_ ?_
      · intro w9 hSw
        try dsimp only at hSw
        go_simp
      try simp only [qpu]
      refine wpAnyH_done (by kernel_rfl) ?_ _
      refine NoPanic.normal ?_
      go_wp2
      go_ret
      exact ⟨retB_tu (by rw [HT.out]; simp [P1.out]), b3⟩
    have n1 : (pr == 6) = false := by simpa using p1
    have P1 : Hid _ := p1
    clear p1
    by_cases p2 : pr = 17
    · have n2 : (pr == 17) = true := by simpa using p2
      have P2 : Hid _ := p2
      clear p2
      go_enter Try.func35, Try.ntmps35
      go_wp2_with fail
      have Ad_ := A1.drew
      have bd := b1.drew
      clear k0 k1 k2 k3 k4 k5 k6 k7 k8 k9
      refine wp_region_noPanic ?_
      refine wp_region_held_drew (S := fun w' => Blk w' w.heap.size 26 #[.int .i64 f, .int .i64 pr, .int .i64 sf, .int .u64 sh, .int .u64 sl, .int .i64 df, .int .u64 dh, .int .u64 dl, .int .i64 sp, .int .i64 dp]) (by kernel_rfl) (by exact Ad_) (fun hHeld => ?_)
      refine qtk (i := 0) (oi := fyp27o26) (v := (.pointer (some ⟨w.heap.size, 0, none⟩))) hHeld ?_ ?_
      · intro w9 hSw
        try dsimp only at hSw
        go_simp
      try simp only [qpu]
      refine qtk (i := 1) (oi := fyp27o25) (v := (.int .i64 f)) hHeld ?_ ?_
      · intro w9 hSw
        try dsimp only at hSw
        have hcc := Blk.wy (r := ⟨f, pr, ⟨sf, sh, sl⟩, ⟨df, dh, dl⟩, sp, dp⟩) hSw
        go_simp
      try simp only [qpu]
      refine qtk (i := 2) (oi := fyp27o27) (v := (.pointer (some ⟨w.heap.size, 2, none⟩))) hHeld ?_ ?_
      · intro w9 hSw
        try dsimp only at hSw
        go_simp
      try simp only [qpu]
      refine qtk (i := 3) (oi := fyp27o22) (v := (.agg #[.int .i64 sf, .int .u64 sh, .int .u64 sl])) hHeld ?_ ?_
      · intro w9 hSw
        try dsimp only at hSw
        have hcc := Blk.wy (r := ⟨f, pr, ⟨sf, sh, sl⟩, ⟨df, dh, dl⟩, sp, dp⟩) hSw
        go_simp
      try simp only [qpu]
      refine qtk (i := 4) (oi := fyp27o28) (v := (.pointer (some ⟨w.heap.size, 5, none⟩))) hHeld ?_ ?_
      · intro w9 hSw
        try dsimp only at hSw
        go_simp
      try simp only [qpu]
      refine qtk (i := 5) (oi := fyp27o23) (v := (.agg #[.int .i64 df, .int .u64 dh, .int .u64 dl])) hHeld ?_ ?_
      · intro w9 hSw
        try dsimp only at hSw
        have hcc := Blk.wy (r := ⟨f, pr, ⟨sf, sh, sl⟩, ⟨df, dh, dl⟩, sp, dp⟩) hSw
        go_simp
      try simp only [qpu]
      refine wpAnyH_ready (rs := [6]) (by kernel_rfl) (by simp) ?_
      refine AllReadyH.cons (o := fyp27o1) rfl (fun K hK => ?_) AllReadyH.nil
      go_simp
      refine Calls.mono (KE.out _) ?_
      rintro e W3 ⟨rfl, bb⟩
      have A3 := Ad_.kept bb
      have b3 := bel_tr bd bb
      clear bb KE
      refine hK.out _ _ (by exact A3) (fun hHeld => ?_)
      clear hK K
      try simp only [qpu]
      refine qtk (i := 7) (oi := fyp27o17) (v := (.bool true)) hHeld ?_ ?_
      · intro w9 hSw
        try dsimp only at hSw
        go_simp
      try simp only [qpu]
      refine qtk (i := 8) (oi := fyp27o21) (v := (.pointer (some ⟨w.heap.size, 1, none⟩))) hHeld ?_ ?_
      · intro w9 hSw
        try dsimp only at hSw
        go_simp
      try simp only [qpu]
      refine qtk (i := 9) (oi := fyp27o15) (v := (.int .i64 pr)) hHeld ?_ ?_
      · intro w9 hSw
        try dsimp only at hSw
        have hcc := Blk.wy (r := ⟨f, pr, ⟨sf, sh, sl⟩, ⟨df, dh, dl⟩, sp, dp⟩) hSw
        go_simp
      try simp only [qpu]
      refine qtk (i := 10) (oi := fyp27o7) (v := (.bool false)) hHeld ?_ ?_
      · intro w9 hSw
        try dsimp only at hSw
        go_simp
      try simp only [qpu]
      refine qtk (i := 11) (oi := fyp27o9) (v := (.bool false)) hHeld ?_ ?_
      · intro w9 hSw
        try dsimp only at hSw
        go_simp
      try simp only [qpu]
      refine qtk (i := 12) (oi := fyp27o18) (v := (.pointer (some ⟨w.heap.size, 1, none⟩))) hHeld ?_ ?_
      · intro w9 hSw
        try dsimp only at hSw
        go_simp
      try simp only [qpu]
      refine qtk (i := 13) (oi := fyp27o12) (v := (.int .i64 pr)) hHeld ?_ ?_
      · intro w9 hSw
        try dsimp only at hSw
        have hcc := Blk.wy (r := ⟨f, pr, ⟨sf, sh, sl⟩, ⟨df, dh, dl⟩, sp, dp⟩) hSw
        go_simp
      try simp only [qpu]
      refine qtk (i := 14) (oi := fyp27o6) (v := (.bool true)) hHeld ?_ ?_
      · intro w9 hSw
        try dsimp only at hSw
        go_simp
      try simp only [qpu]
      refine qtk (i := 15) (oi := fyp27o4) (v := (.bool true)) hHeld ?_ ?_
      · intro w9 hSw
        try dsimp only at hSw
        go_simp
      try simp only [qpu]
      refine qtk (i := 16) (oi := fyp27o8) (v := (.bool true)) hHeld ?_ ?_
      · intro w9 hSw
        try dsimp only at hSw
        go_simp
      try simp only [qpu]
      refine qtn (i := 17) (oi := fyp27o19) hHeld ?_
      try simp only [qpu]
      refine qtn (i := 18) (oi := fyp27o13) hHeld ?_
      try simp only [qpu]
      refine qtn (i := 19) (oi := fyp27o20) hHeld ?_
      try simp only [qpu]
      refine qtn (i := 20) (oi := fyp27o14) hHeld ?_
      try simp only [qpu]
      refine qtn (i := 21) (oi := fyp27o2) hHeld ?_
      try simp only [qpu]
      refine qtn (i := 22) (oi := fyp27o3) hHeld ?_
      try simp only [qpu]
      refine qtk (i := 23) (oi := fyp27o5) (v := (.bool true)) hHeld ?_ ?_
      · intro w9 hSw
        try dsimp only at hSw
        go_simp
      try simp only [qpu]
      refine qtk (i := 24) (oi := fyp27o11) (v := (.bool true)) hHeld ?_ ?_
      · intro w9 hSw
        try dsimp only at hSw
        go_simp
      try simp only [qpu]
      refine qtk (i := 25) (oi := fyp27o16) (v := (.bool true)) hHeld ?_ ?_
      · intro w9 hSw
        try dsimp only at hSw
        go_simp
      try simp only [qpu]
      refine qtk (i := 26) (oi := fyp27o24) (v := (.bool false)) hHeld ?_ ?_
      · intro w9 hSw
        try dsimp only at hSw
        go_simp
      try simp only [qpu]
      refine qtk (i := 27) (oi := fyp27o10) (v := (.bool false)) hHeld ?_ ?_
      · intro w9 hSw
        try dsimp only at hSw
        go_simp
      try simp only [qpu]
      refine qtk (i := 28) (oi := fyp27o0) (v := (.bool false)) hHeld ?_ ?_
      · intro w9 hSw
        try dsimp only at hSw
        go_simp
      try simp only [qpu]
      refine wpAnyH_done (by kernel_rfl) ?_ _
      refine NoPanic.normal ?_
      go_wp2
      go_ret
      exact ⟨retB_tu (by rw [HT.out]; simp [P1.out, P2.out]), b3⟩
    have n2 : (pr == 17) = false := by simpa using p2
    have P2 : Hid _ := p2
    clear p2
    by_cases p3 : pr = I
    · have n3 : (pr == I) = true := by simpa using p3
      have P3 : Hid _ := p3
      clear p3
      go_enter Try.func35, Try.ntmps35
      go_wp2_with fail
      have Ad_ := A1.drew
      have bd := b1.drew
      clear k0 k1 k2 k3 k4 k5 k6 k7 k8 k9
      refine wp_region_noPanic ?_
      refine wp_region_held_drew (S := fun w' => Blk w' w.heap.size 26 #[.int .i64 f, .int .i64 pr, .int .i64 sf, .int .u64 sh, .int .u64 sl, .int .i64 df, .int .u64 dh, .int .u64 dl, .int .i64 sp, .int .i64 dp]) (by kernel_rfl) (by exact Ad_) (fun hHeld => ?_)
      refine qtk (i := 0) (oi := fyp27o26) (v := (.pointer (some ⟨w.heap.size, 0, none⟩))) hHeld ?_ ?_
      · intro w9 hSw
        try dsimp only at hSw
        go_simp
      try simp only [qpu]
      refine qtk (i := 1) (oi := fyp27o25) (v := (.int .i64 f)) hHeld ?_ ?_
      · intro w9 hSw
        try dsimp only at hSw
        have hcc := Blk.wy (r := ⟨f, pr, ⟨sf, sh, sl⟩, ⟨df, dh, dl⟩, sp, dp⟩) hSw
        go_simp
      try simp only [qpu]
      refine qtk (i := 2) (oi := fyp27o27) (v := (.pointer (some ⟨w.heap.size, 2, none⟩))) hHeld ?_ ?_
      · intro w9 hSw
        try dsimp only at hSw
        go_simp
      try simp only [qpu]
      refine qtk (i := 3) (oi := fyp27o22) (v := (.agg #[.int .i64 sf, .int .u64 sh, .int .u64 sl])) hHeld ?_ ?_
      · intro w9 hSw
        try dsimp only at hSw
        have hcc := Blk.wy (r := ⟨f, pr, ⟨sf, sh, sl⟩, ⟨df, dh, dl⟩, sp, dp⟩) hSw
        go_simp
      try simp only [qpu]
      refine qtk (i := 4) (oi := fyp27o28) (v := (.pointer (some ⟨w.heap.size, 5, none⟩))) hHeld ?_ ?_
      · intro w9 hSw
        try dsimp only at hSw
        go_simp
      try simp only [qpu]
      refine qtk (i := 5) (oi := fyp27o23) (v := (.agg #[.int .i64 df, .int .u64 dh, .int .u64 dl])) hHeld ?_ ?_
      · intro w9 hSw
        try dsimp only at hSw
        have hcc := Blk.wy (r := ⟨f, pr, ⟨sf, sh, sl⟩, ⟨df, dh, dl⟩, sp, dp⟩) hSw
        go_simp
      try simp only [qpu]
      refine wpAnyH_ready (rs := [6]) (by kernel_rfl) (by simp) ?_
      refine AllReadyH.cons (o := fyp27o1) rfl (fun K hK => ?_) AllReadyH.nil
      go_simp
      refine Calls.mono (KE.out _) ?_
      rintro e W3 ⟨rfl, bb⟩
      have A3 := Ad_.kept bb
      have b3 := bel_tr bd bb
      clear bb KE
      refine hK.out _ _ (by exact A3) (fun hHeld => ?_)
      clear hK K
      try simp only [qpu]
      refine qtk (i := 7) (oi := fyp27o17) (v := (.bool true)) hHeld ?_ ?_
      · intro w9 hSw
        try dsimp only at hSw
        go_simp
      try simp only [qpu]
      refine qtk (i := 8) (oi := fyp27o21) (v := (.pointer (some ⟨w.heap.size, 1, none⟩))) hHeld ?_ ?_
      · intro w9 hSw
        try dsimp only at hSw
        go_simp
      try simp only [qpu]
      refine qtk (i := 9) (oi := fyp27o15) (v := (.int .i64 pr)) hHeld ?_ ?_
      · intro w9 hSw
        try dsimp only at hSw
        have hcc := Blk.wy (r := ⟨f, pr, ⟨sf, sh, sl⟩, ⟨df, dh, dl⟩, sp, dp⟩) hSw
        go_simp
      try simp only [qpu]
      refine qtk (i := 10) (oi := fyp27o7) (v := (.bool false)) hHeld ?_ ?_
      · intro w9 hSw
        try dsimp only at hSw
        go_simp
      try simp only [qpu]
      refine qtk (i := 11) (oi := fyp27o9) (v := (.bool false)) hHeld ?_ ?_
      · intro w9 hSw
        try dsimp only at hSw
        go_simp
      try simp only [qpu]
      refine qtk (i := 12) (oi := fyp27o18) (v := (.pointer (some ⟨w.heap.size, 1, none⟩))) hHeld ?_ ?_
      · intro w9 hSw
        try dsimp only at hSw
        go_simp
      try simp only [qpu]
      refine qtk (i := 13) (oi := fyp27o12) (v := (.int .i64 pr)) hHeld ?_ ?_
      · intro w9 hSw
        try dsimp only at hSw
        have hcc := Blk.wy (r := ⟨f, pr, ⟨sf, sh, sl⟩, ⟨df, dh, dl⟩, sp, dp⟩) hSw
        go_simp
      try simp only [qpu]
      refine qtk (i := 14) (oi := fyp27o6) (v := (.bool false)) hHeld ?_ ?_
      · intro w9 hSw
        try dsimp only at hSw
        go_simp
      try simp only [qpu]
      refine qtk (i := 15) (oi := fyp27o4) (v := (.bool false)) hHeld ?_ ?_
      · intro w9 hSw
        try dsimp only at hSw
        go_simp
      try simp only [qpu]
      refine qtk (i := 16) (oi := fyp27o8) (v := (.bool false)) hHeld ?_ ?_
      · intro w9 hSw
        try dsimp only at hSw
        go_simp
      try simp only [qpu]
      refine qtk (i := 17) (oi := fyp27o19) (v := (.pointer (some ⟨w.heap.size, 1, none⟩))) hHeld ?_ ?_
      · intro w9 hSw
        try dsimp only at hSw
        go_simp
      try simp only [qpu]
      refine qtk (i := 18) (oi := fyp27o13) (v := (.int .i64 pr)) hHeld ?_ ?_
      · intro w9 hSw
        try dsimp only at hSw
        have hcc := Blk.wy (r := ⟨f, pr, ⟨sf, sh, sl⟩, ⟨df, dh, dl⟩, sp, dp⟩) hSw
        go_simp
      try simp only [qpu]
      refine qtk (i := 19) (oi := fyp27o20) (v := (.pointer (some ⟨w.heap.size, 0, none⟩))) hHeld ?_ ?_
      · intro w9 hSw
        try dsimp only at hSw
        go_simp
      try simp only [qpu]
      refine qtk (i := 20) (oi := fyp27o14) (v := (.int .i64 f)) hHeld ?_ ?_
      · intro w9 hSw
        try dsimp only at hSw
        have hcc := Blk.wy (r := ⟨f, pr, ⟨sf, sh, sl⟩, ⟨df, dh, dl⟩, sp, dp⟩) hSw
        go_simp
      try simp only [qpu]
      refine wpAnyH_ready (rs := [21]) (by kernel_rfl) (by simp) ?_
      refine AllReadyH.cons (o := fyp27o2) rfl (fun K hK => ?_) AllReadyH.nil
      go_simp
      refine Calls.mono (KI.out _) ?_
      rintro e _ ⟨rfl, rfl⟩
      clear KI
      refine hK.out _ _ (by exact A3) (fun hHeld => ?_)
      clear hK K
      try simp only [qpu]
      refine qtk (i := 22) (oi := fyp27o3) (v := (.bool true)) hHeld ?_ ?_
      · intro w9 hSw
        try dsimp only at hSw
        go_simp
      try simp only [qpu]
      refine qtk (i := 23) (oi := fyp27o5) (v := (.bool true)) hHeld ?_ ?_
      · intro w9 hSw
        try dsimp only at hSw
        go_simp
      try simp only [qpu]
      refine qtk (i := 24) (oi := fyp27o11) (v := (.bool true)) hHeld ?_ ?_
      · intro w9 hSw
        try dsimp only at hSw
        go_simp
      try simp only [qpu]
      refine qtk (i := 25) (oi := fyp27o16) (v := (.bool true)) hHeld ?_ ?_
      · intro w9 hSw
        try dsimp only at hSw
        go_simp
      try simp only [qpu]
      refine qtk (i := 26) (oi := fyp27o24) (v := (.bool false)) hHeld ?_ ?_
      · intro w9 hSw
        try dsimp only at hSw
        go_simp
      try simp only [qpu]
      refine qtk (i := 27) (oi := fyp27o10) (v := (.bool false)) hHeld ?_ ?_
      · intro w9 hSw
        try dsimp only at hSw
        go_simp
      try simp only [qpu]
      refine qtk (i := 28) (oi := fyp27o0) (v := (.bool false)) hHeld ?_ ?_
      · intro w9 hSw
        try dsimp only at hSw
        go_simp
      try simp only [qpu]
      refine wpAnyH_done (by kernel_rfl) ?_ _
      refine NoPanic.normal ?_
      go_wp2
      go_ret
      exact ⟨retB_tu (by rw [HT.out]; simp [P1.out, P2.out, P3.out]), b3⟩
    have n3 : (pr == I) = false := by simpa using p3
    have P3 : Hid _ := p3
    clear p3
    go_enter Try.func35, Try.ntmps35
    go_wp2_with fail
    have Ad_ := A1.drew
    have bd := b1.drew
    clear k0 k1 k2 k3 k4 k5 k6 k7 k8 k9
    refine wp_region_noPanic ?_
    refine wp_region_held_drew (S := fun w' => Blk w' w.heap.size 26 #[.int .i64 f, .int .i64 pr, .int .i64 sf, .int .u64 sh, .int .u64 sl, .int .i64 df, .int .u64 dh, .int .u64 dl, .int .i64 sp, .int .i64 dp]) (by kernel_rfl) (by exact Ad_) (fun hHeld => ?_)
    refine qtk (i := 0) (oi := fyp27o26) (v := (.pointer (some ⟨w.heap.size, 0, none⟩))) hHeld ?_ ?_
    · intro w9 hSw
      try dsimp only at hSw
      go_simp
    try simp only [qpu]
    refine qtk (i := 1) (oi := fyp27o25) (v := (.int .i64 f)) hHeld ?_ ?_
    · intro w9 hSw
      try dsimp only at hSw
      have hcc := Blk.wy (r := ⟨f, pr, ⟨sf, sh, sl⟩, ⟨df, dh, dl⟩, sp, dp⟩) hSw
      go_simp
    try simp only [qpu]
    refine qtk (i := 2) (oi := fyp27o27) (v := (.pointer (some ⟨w.heap.size, 2, none⟩))) hHeld ?_ ?_
    · intro w9 hSw
      try dsimp only at hSw
      go_simp
    try simp only [qpu]
    refine qtk (i := 3) (oi := fyp27o22) (v := (.agg #[.int .i64 sf, .int .u64 sh, .int .u64 sl])) hHeld ?_ ?_
    · intro w9 hSw
      try dsimp only at hSw
      have hcc := Blk.wy (r := ⟨f, pr, ⟨sf, sh, sl⟩, ⟨df, dh, dl⟩, sp, dp⟩) hSw
      go_simp
    try simp only [qpu]
    refine qtk (i := 4) (oi := fyp27o28) (v := (.pointer (some ⟨w.heap.size, 5, none⟩))) hHeld ?_ ?_
    · intro w9 hSw
      try dsimp only at hSw
      go_simp
    try simp only [qpu]
    refine qtk (i := 5) (oi := fyp27o23) (v := (.agg #[.int .i64 df, .int .u64 dh, .int .u64 dl])) hHeld ?_ ?_
    · intro w9 hSw
      try dsimp only at hSw
      have hcc := Blk.wy (r := ⟨f, pr, ⟨sf, sh, sl⟩, ⟨df, dh, dl⟩, sp, dp⟩) hSw
      go_simp
    try simp only [qpu]
    refine wpAnyH_ready (rs := [6]) (by kernel_rfl) (by simp) ?_
    refine AllReadyH.cons (o := fyp27o1) rfl (fun K hK => ?_) AllReadyH.nil
    go_simp
    refine Calls.mono (KE.out _) ?_
    rintro e W3 ⟨rfl, bb⟩
    have A3 := Ad_.kept bb
    have b3 := bel_tr bd bb
    clear bb KE
    refine hK.out _ _ (by exact A3) (fun hHeld => ?_)
    clear hK K
    try simp only [qpu]
    refine qtk (i := 7) (oi := fyp27o17) (v := (.bool true)) hHeld ?_ ?_
    · intro w9 hSw
      try dsimp only at hSw
      go_simp
    try simp only [qpu]
    refine qtk (i := 8) (oi := fyp27o21) (v := (.pointer (some ⟨w.heap.size, 1, none⟩))) hHeld ?_ ?_
    · intro w9 hSw
      try dsimp only at hSw
      go_simp
    try simp only [qpu]
    refine qtk (i := 9) (oi := fyp27o15) (v := (.int .i64 pr)) hHeld ?_ ?_
    · intro w9 hSw
      try dsimp only at hSw
      have hcc := Blk.wy (r := ⟨f, pr, ⟨sf, sh, sl⟩, ⟨df, dh, dl⟩, sp, dp⟩) hSw
      go_simp
    try simp only [qpu]
    refine qtk (i := 10) (oi := fyp27o7) (v := (.bool false)) hHeld ?_ ?_
    · intro w9 hSw
      try dsimp only at hSw
      go_simp
    try simp only [qpu]
    refine qtk (i := 11) (oi := fyp27o9) (v := (.bool false)) hHeld ?_ ?_
    · intro w9 hSw
      try dsimp only at hSw
      go_simp
    try simp only [qpu]
    refine qtk (i := 12) (oi := fyp27o18) (v := (.pointer (some ⟨w.heap.size, 1, none⟩))) hHeld ?_ ?_
    · intro w9 hSw
      try dsimp only at hSw
      go_simp
    try simp only [qpu]
    refine qtk (i := 13) (oi := fyp27o12) (v := (.int .i64 pr)) hHeld ?_ ?_
    · intro w9 hSw
      try dsimp only at hSw
      have hcc := Blk.wy (r := ⟨f, pr, ⟨sf, sh, sl⟩, ⟨df, dh, dl⟩, sp, dp⟩) hSw
      go_simp
    try simp only [qpu]
    refine qtk (i := 14) (oi := fyp27o6) (v := (.bool false)) hHeld ?_ ?_
    · intro w9 hSw
      try dsimp only at hSw
      go_simp
    try simp only [qpu]
    refine qtk (i := 15) (oi := fyp27o4) (v := (.bool false)) hHeld ?_ ?_
    · intro w9 hSw
      try dsimp only at hSw
      go_simp
    try simp only [qpu]
    refine qtk (i := 16) (oi := fyp27o8) (v := (.bool false)) hHeld ?_ ?_
    · intro w9 hSw
      try dsimp only at hSw
      go_simp
    try simp only [qpu]
    refine qtk (i := 17) (oi := fyp27o19) (v := (.pointer (some ⟨w.heap.size, 1, none⟩))) hHeld ?_ ?_
    · intro w9 hSw
      try dsimp only at hSw
      go_simp
    try simp only [qpu]
    refine qtk (i := 18) (oi := fyp27o13) (v := (.int .i64 pr)) hHeld ?_ ?_
    · intro w9 hSw
      try dsimp only at hSw
      have hcc := Blk.wy (r := ⟨f, pr, ⟨sf, sh, sl⟩, ⟨df, dh, dl⟩, sp, dp⟩) hSw
      go_simp
    try simp only [qpu]
    refine qtk (i := 19) (oi := fyp27o20) (v := (.pointer (some ⟨w.heap.size, 0, none⟩))) hHeld ?_ ?_
    · intro w9 hSw
      try dsimp only at hSw
      go_simp
    try simp only [qpu]
    refine qtk (i := 20) (oi := fyp27o14) (v := (.int .i64 f)) hHeld ?_ ?_
    · intro w9 hSw
      try dsimp only at hSw
      have hcc := Blk.wy (r := ⟨f, pr, ⟨sf, sh, sl⟩, ⟨df, dh, dl⟩, sp, dp⟩) hSw
      go_simp
    try simp only [qpu]
    refine wpAnyH_ready (rs := [21]) (by kernel_rfl) (by simp) ?_
    refine AllReadyH.cons (o := fyp27o2) rfl (fun K hK => ?_) AllReadyH.nil
    go_simp
    refine Calls.mono (KI.out _) ?_
    rintro e _ ⟨rfl, rfl⟩
    clear KI
    refine hK.out _ _ (by exact A3) (fun hHeld => ?_)
    clear hK K
    try simp only [qpu]
    refine qtk (i := 22) (oi := fyp27o3) (v := (.bool false)) hHeld ?_ ?_
    · intro w9 hSw
      try dsimp only at hSw
      go_simp
    try simp only [qpu]
    refine qtk (i := 23) (oi := fyp27o5) (v := (.bool false)) hHeld ?_ ?_
    · intro w9 hSw
      try dsimp only at hSw
      go_simp
    try simp only [qpu]
    refine qtk (i := 24) (oi := fyp27o11) (v := (.bool false)) hHeld ?_ ?_
    · intro w9 hSw
      try dsimp only at hSw
      go_simp
    try simp only [qpu]
    refine qtk (i := 25) (oi := fyp27o16) (v := (.bool false)) hHeld ?_ ?_
    · intro w9 hSw
      try dsimp only at hSw
      go_simp
    try simp only [qpu]
    refine qtn (i := 26) (oi := fyp27o24) hHeld ?_
    try simp only [qpu]
    refine qtk (i := 27) (oi := fyp27o10) (v := (.bool false)) hHeld ?_ ?_
    · intro w9 hSw
      try dsimp only at hSw
      go_simp
    try simp only [qpu]
    refine qtk (i := 28) (oi := fyp27o0) (v := (.bool false)) hHeld ?_ ?_
    · intro w9 hSw
      try dsimp only at hSw
      go_simp
    try simp only [qpu]
    refine wpAnyH_done (by kernel_rfl) ?_ _
    refine NoPanic.normal ?_
    go_wp2
    go_ret
    exact ⟨retB_tu (by rw [HT.out]; simp [P1.out, P2.out, P3.out]), b3⟩
set_option maxRecDepth 100000 in
set_option maxHeartbeats 4000000 in
theorem rright_d (f pr sf sh sl df dh dl sp dp : Int) (w : World) (hsl : 0 ≤ sl) (hdl : 0 ≤ dl) (c1 : 0 ≤ sp) (c2 : sp ≤ 65535) (c3 : 0 ≤ dp) (c4 : ¬ dp ≤ 65535) :
    Calls Try.prog 35 #[.agg #[.int .i64 f, .int .i64 pr, .int .i64 sf, .int .u64 sh, .int .u64 sl, .int .i64 df, .int .u64 dh, .int .u64 dl, .int .i64 sp, .int .i64 dp]] w fun e w' => e = .returned (.bool (endsB f ⟨sf, sh, sl⟩ ⟨df, dh, dl⟩ && (protoB f pr && false))) ∧ Below w.heap.size w w' := by
  have KE : Hid (∀ W, Calls Try.prog 63 #[.int .i64 f, .agg #[.int .i64 sf, .int .u64 sh, .int .u64 sl], .agg #[.int .i64 df, .int .u64 dh, .int .u64 dl]] W _) := fun W => rEnds_any f sf sh sl df dh dl W hsl hdl
  have KI : Hid (∀ W, Calls Try.prog 64 #[.int .i64 f] W _) := fun W => icmp_t f W
  have HP : Hid (protoB f pr = (decide (pr = 6) || (decide (pr = 17) || decide (pr = if f = 4 then 1 else 58)))) := rfl
  obtain ⟨T, hT⟩ : ∃ T, (endsB f ⟨sf, sh, sl⟩ ⟨df, dh, dl⟩ && (protoB f pr && false)) = T := ⟨_, rfl⟩
  rw [hT]
  have HT : Hid (T = (endsB f ⟨sf, sh, sl⟩ ⟨df, dh, dl⟩ && (protoB f pr && false))) := hT.symm
  clear hT
  rw [HP.out] at HT
  clear HP hsl hdl
  generalize (if f = 4 then 1 else 58 : Int) = I at *
  generalize endsB f ⟨sf, sh, sl⟩ ⟨df, dh, dl⟩ = E at *
  obtain ⟨W1, hW1⟩ : ∃ W1, w.alloc (.cells #[.int .i64 f, .int .i64 pr, .int .i64 sf, .int .u64 sh, .int .u64 sl, .int .i64 df, .int .u64 dh, .int .u64 dl, .int .i64 sp, .int .i64 dp] 26) = W1 := ⟨_, rfl⟩
  have b1 := bel_nw hW1
  have A1 := blk_nw hW1
  obtain ⟨k0, k1, k2, k3, k4, k5, k6, k7, k8, k9⟩ := Blk.wy (r := ⟨f, pr, ⟨sf, sh, sl⟩, ⟨df, dh, dl⟩, sp, dp⟩) A1
  cases E with
  | false =>
    go_enter Try.func35, Try.ntmps35
    go_wp2_with fail
    have Ad_ := A1.drew
    have bd := b1.drew
    clear k0 k1 k2 k3 k4 k5 k6 k7 k8 k9
    refine wp_region_noPanic ?_
    refine wp_region_held_drew (S := fun w' => Blk w' w.heap.size 26 #[.int .i64 f, .int .i64 pr, .int .i64 sf, .int .u64 sh, .int .u64 sl, .int .i64 df, .int .u64 dh, .int .u64 dl, .int .i64 sp, .int .i64 dp]) (by kernel_rfl) (by exact Ad_) (fun hHeld => ?_)
    refine qtk (i := 0) (oi := fyp27o26) (v := (.pointer (some ⟨w.heap.size, 0, none⟩))) hHeld ?_ ?_
    · intro w9 hSw
      try dsimp only at hSw
      go_simp
    try simp only [qpu]
    refine qtk (i := 1) (oi := fyp27o25) (v := (.int .i64 f)) hHeld ?_ ?_
    · intro w9 hSw
      try dsimp only at hSw
      have hcc := Blk.wy (r := ⟨f, pr, ⟨sf, sh, sl⟩, ⟨df, dh, dl⟩, sp, dp⟩) hSw
      go_simp
    try simp only [qpu]
    refine qtk (i := 2) (oi := fyp27o27) (v := (.pointer (some ⟨w.heap.size, 2, none⟩))) hHeld ?_ ?_
    · intro w9 hSw
      try dsimp only at hSw
      go_simp
    try simp only [qpu]
    refine qtk (i := 3) (oi := fyp27o22) (v := (.agg #[.int .i64 sf, .int .u64 sh, .int .u64 sl])) hHeld ?_ ?_
    · intro w9 hSw
      try dsimp only at hSw
      have hcc := Blk.wy (r := ⟨f, pr, ⟨sf, sh, sl⟩, ⟨df, dh, dl⟩, sp, dp⟩) hSw
      go_simp
    try simp only [qpu]
    refine qtk (i := 4) (oi := fyp27o28) (v := (.pointer (some ⟨w.heap.size, 5, none⟩))) hHeld ?_ ?_
    · intro w9 hSw
      try dsimp only at hSw
      go_simp
    try simp only [qpu]
    refine qtk (i := 5) (oi := fyp27o23) (v := (.agg #[.int .i64 df, .int .u64 dh, .int .u64 dl])) hHeld ?_ ?_
    · intro w9 hSw
      try dsimp only at hSw
      have hcc := Blk.wy (r := ⟨f, pr, ⟨sf, sh, sl⟩, ⟨df, dh, dl⟩, sp, dp⟩) hSw
      go_simp
    try simp only [qpu]
    refine wpAnyH_ready (rs := [6]) (by kernel_rfl) (by simp) ?_
    refine AllReadyH.cons (o := fyp27o1) rfl (fun K hK => ?_) AllReadyH.nil
    go_simp
    refine Calls.mono (KE.out _) ?_
    rintro e W3 ⟨rfl, bb⟩
    have A3 := Ad_.kept bb
    have b3 := bel_tr bd bb
    clear bb KE
    refine hK.out _ _ (by exact A3) (fun hHeld => ?_)
    clear hK K
    try simp only [qpu]
    refine qtk (i := 7) (oi := fyp27o17) (v := (.bool false)) hHeld ?_ ?_
    · intro w9 hSw
      try dsimp only at hSw
      go_simp
    try simp only [qpu]
    refine qtn (i := 8) (oi := fyp27o21) hHeld ?_
    try simp only [qpu]
    refine qtn (i := 9) (oi := fyp27o15) hHeld ?_
    try simp only [qpu]
    refine qtn (i := 10) (oi := fyp27o7) hHeld ?_
    try simp only [qpu]
    refine qtn (i := 11) (oi := fyp27o9) hHeld ?_
    try simp only [qpu]
    refine qtn (i := 12) (oi := fyp27o18) hHeld ?_
    try simp only [qpu]
    refine qtn (i := 13) (oi := fyp27o12) hHeld ?_
    try simp only [qpu]
    refine qtn (i := 14) (oi := fyp27o6) hHeld ?_
    try simp only [qpu]
    refine qtn (i := 15) (oi := fyp27o4) hHeld ?_
    try simp only [qpu]
    refine qtn (i := 16) (oi := fyp27o8) hHeld ?_
    try simp only [qpu]
    refine qtn (i := 17) (oi := fyp27o19) hHeld ?_
    try simp only [qpu]
    refine qtn (i := 18) (oi := fyp27o13) hHeld ?_
    try simp only [qpu]
    refine qtn (i := 19) (oi := fyp27o20) hHeld ?_
    try simp only [qpu]
    refine qtn (i := 20) (oi := fyp27o14) hHeld ?_
    try simp only [qpu]
    refine qtn (i := 21) (oi := fyp27o2) hHeld ?_
    try simp only [qpu]
    refine qtn (i := 22) (oi := fyp27o3) hHeld ?_
    try simp only [qpu]
    refine qtn (i := 23) (oi := fyp27o5) hHeld ?_
    try simp only [qpu]
    refine qtk (i := 24) (oi := fyp27o11) (v := (.bool false)) hHeld ?_ ?_
    · intro w9 hSw
      try dsimp only at hSw
      go_simp
    try simp only [qpu]
    refine qtk (i := 25) (oi := fyp27o16) (v := (.bool false)) hHeld ?_ ?_
    · intro w9 hSw
      try dsimp only at hSw
      go_simp
    try simp only [qpu]
    refine qtn (i := 26) (oi := fyp27o24) hHeld ?_
    try simp only [qpu]
    refine qtk (i := 27) (oi := fyp27o10) (v := (.bool false)) hHeld ?_ ?_
    · intro w9 hSw
      try dsimp only at hSw
      go_simp
    try simp only [qpu]
    refine qtk (i := 28) (oi := fyp27o0) (v := (.bool false)) hHeld ?_ ?_
    · intro w9 hSw
      try dsimp only at hSw
      go_simp
    try simp only [qpu]
    refine wpAnyH_done (by kernel_rfl) ?_ _
    refine NoPanic.normal ?_
    go_wp2
    go_ret
    exact ⟨retB_tu (by rw [HT.out]; simp []), b3⟩
  | true =>
    by_cases p1 : pr = 6
    · have n1 : (pr == 6) = true := by simpa using p1
      have P1 : Hid _ := p1
      clear p1
      go_enter Try.func35, Try.ntmps35
      go_wp2_with fail
      have Ad_ := A1.drew
      have bd := b1.drew
      clear k0 k1 k2 k3 k4 k5 k6 k7 k8 k9
      refine wp_region_noPanic ?_
      refine wp_region_held_drew (S := fun w' => Blk w' w.heap.size 26 #[.int .i64 f, .int .i64 pr, .int .i64 sf, .int .u64 sh, .int .u64 sl, .int .i64 df, .int .u64 dh, .int .u64 dl, .int .i64 sp, .int .i64 dp]) (by kernel_rfl) (by exact Ad_) (fun hHeld => ?_)
      refine qtk (i := 0) (oi := fyp27o26) (v := (.pointer (some ⟨w.heap.size, 0, none⟩))) hHeld ?_ ?_
      · intro w9 hSw
        try dsimp only at hSw
        go_simp
      try simp only [qpu]
      refine qtk (i := 1) (oi := fyp27o25) (v := (.int .i64 f)) hHeld ?_ ?_
      · intro w9 hSw
        try dsimp only at hSw
        have hcc := Blk.wy (r := ⟨f, pr, ⟨sf, sh, sl⟩, ⟨df, dh, dl⟩, sp, dp⟩) hSw
        go_simp
      try simp only [qpu]
      refine qtk (i := 2) (oi := fyp27o27) (v := (.pointer (some ⟨w.heap.size, 2, none⟩))) hHeld ?_ ?_
      · intro w9 hSw
        try dsimp only at hSw
        go_simp
      try simp only [qpu]
      refine qtk (i := 3) (oi := fyp27o22) (v := (.agg #[.int .i64 sf, .int .u64 sh, .int .u64 sl])) hHeld ?_ ?_
      · intro w9 hSw
        try dsimp only at hSw
        have hcc := Blk.wy (r := ⟨f, pr, ⟨sf, sh, sl⟩, ⟨df, dh, dl⟩, sp, dp⟩) hSw
        go_simp
      try simp only [qpu]
      refine qtk (i := 4) (oi := fyp27o28) (v := (.pointer (some ⟨w.heap.size, 5, none⟩))) hHeld ?_ ?_
      · intro w9 hSw
        try dsimp only at hSw
        go_simp
      try simp only [qpu]
      refine qtk (i := 5) (oi := fyp27o23) (v := (.agg #[.int .i64 df, .int .u64 dh, .int .u64 dl])) hHeld ?_ ?_
      · intro w9 hSw
        try dsimp only at hSw
        have hcc := Blk.wy (r := ⟨f, pr, ⟨sf, sh, sl⟩, ⟨df, dh, dl⟩, sp, dp⟩) hSw
        go_simp
      try simp only [qpu]
      refine wpAnyH_ready (rs := [6]) (by kernel_rfl) (by simp) ?_
      refine AllReadyH.cons (o := fyp27o1) rfl (fun K hK => ?_) AllReadyH.nil
      go_simp
      refine Calls.mono (KE.out _) ?_
      rintro e W3 ⟨rfl, bb⟩
      have A3 := Ad_.kept bb
      have b3 := bel_tr bd bb
      clear bb KE
      refine hK.out _ _ (by exact A3) (fun hHeld => ?_)
      clear hK K
      try simp only [qpu]
      refine qtk (i := 7) (oi := fyp27o17) (v := (.bool true)) hHeld ?_ ?_
      · intro w9 hSw
        try dsimp only at hSw
        go_simp
      try simp only [qpu]
      refine qtk (i := 8) (oi := fyp27o21) (v := (.pointer (some ⟨w.heap.size, 1, none⟩))) hHeld ?_ ?_
      · intro w9 hSw
        try dsimp only at hSw
        go_simp
      try simp only [qpu]
      refine qtk (i := 9) (oi := fyp27o15) (v := (.int .i64 pr)) hHeld ?_ ?_
      · intro w9 hSw
        try dsimp only at hSw
        have hcc := Blk.wy (r := ⟨f, pr, ⟨sf, sh, sl⟩, ⟨df, dh, dl⟩, sp, dp⟩) hSw
        go_simp
      try simp only [qpu]
      refine qtk (i := 10) (oi := fyp27o7) (v := (.bool true)) hHeld ?_ ?_
      · intro w9 hSw
        try dsimp only at hSw
        go_simp
      try simp only [qpu]
      refine qtk (i := 11) (oi := fyp27o9) (v := (.bool true)) hHeld ?_ ?_
      · intro w9 hSw
        try dsimp only at hSw
        go_simp
      try simp only [qpu]
      refine qtn (i := 12) (oi := fyp27o18) hHeld ?_
      try simp only [qpu]
      refine qtn (i := 13) (oi := fyp27o12) hHeld ?_
      try simp only [qpu]
      refine qtn (i := 14) (oi := fyp27o6) hHeld ?_
      try simp only [qpu]
      refine qtk (i := 15) (oi := fyp27o4) (v := (.bool true)) hHeld ?_ ?_
      · intro w9 hSw
        try dsimp only at hSw
        go_simp
      try simp only [qpu]
      refine qtk (i := 16) (oi := fyp27o8) (v := (.bool true)) hHeld ?_ ?_
      · intro w9 hSw
        try dsimp only at hSw
        go_simp
      try simp only [qpu]
      refine qtn (i := 17) (oi := fyp27o19) hHeld ?_
      try simp only [qpu]
      refine qtn (i := 18) (oi := fyp27o13) hHeld ?_
      try simp only [qpu]
      refine qtn (i := 19) (oi := fyp27o20) hHeld ?_
      try simp only [qpu]
      refine qtn (i := 20) (oi := fyp27o14) hHeld ?_
      try simp only [qpu]
      refine qtn (i := 21) (oi := fyp27o2) hHeld ?_
      try simp only [qpu]
      refine qtn (i := 22) (oi := fyp27o3) hHeld ?_
      try simp only [qpu]
      refine qtk (i := 23) (oi := fyp27o5) (v := (.bool true)) hHeld ?_ ?_
      · intro w9 hSw
        try dsimp only at hSw
        go_simp
      try simp only [qpu]
      refine qtk (i := 24) (oi := fyp27o11) (v := (.bool true)) hHeld ?_ ?_
      · intro w9 hSw
        try dsimp only at hSw
        go_simp
      try simp only [qpu]
      refine qtk (i := 25) (oi := fyp27o16) (v := (.bool true)) hHeld ?_ ?_
      · intro w9 hSw
        try dsimp only at hSw
        go_simp
      try simp only [qpu]
      refine qtk (i := 26) (oi := fyp27o24) (v := (.bool false)) hHeld ?_ ?_
      · intro w9 hSw
        try dsimp only at hSw
        go_simp
      try simp only [qpu]
      refine qtk (i := 27) (oi := fyp27o10) (v := (.bool false)) hHeld ?_ ?_
      · intro w9 hSw
        try dsimp only at hSw
        go_simp
      try simp only [qpu]
      refine qtk (i := 28) (oi := fyp27o0) (v := (.bool false)) hHeld ?_ ?_
      · intro w9 hSw
        try dsimp only at hSw
        go_simp
      try simp only [qpu]
      refine wpAnyH_done (by kernel_rfl) ?_ _
      refine NoPanic.normal ?_
      go_wp2
      go_ret
      exact ⟨retB_tu (by rw [HT.out]; simp [P1.out]), b3⟩
    have n1 : (pr == 6) = false := by simpa using p1
    have P1 : Hid _ := p1
    clear p1
    by_cases p2 : pr = 17
    · have n2 : (pr == 17) = true := by simpa using p2
      have P2 : Hid _ := p2
      clear p2
      go_enter Try.func35, Try.ntmps35
      go_wp2_with fail
      have Ad_ := A1.drew
      have bd := b1.drew
      clear k0 k1 k2 k3 k4 k5 k6 k7 k8 k9
      refine wp_region_noPanic ?_
      refine wp_region_held_drew (S := fun w' => Blk w' w.heap.size 26 #[.int .i64 f, .int .i64 pr, .int .i64 sf, .int .u64 sh, .int .u64 sl, .int .i64 df, .int .u64 dh, .int .u64 dl, .int .i64 sp, .int .i64 dp]) (by kernel_rfl) (by exact Ad_) (fun hHeld => ?_)
      refine qtk (i := 0) (oi := fyp27o26) (v := (.pointer (some ⟨w.heap.size, 0, none⟩))) hHeld ?_ ?_
      · intro w9 hSw
        try dsimp only at hSw
        go_simp
      try simp only [qpu]
      refine qtk (i := 1) (oi := fyp27o25) (v := (.int .i64 f)) hHeld ?_ ?_
      · intro w9 hSw
        try dsimp only at hSw
        have hcc := Blk.wy (r := ⟨f, pr, ⟨sf, sh, sl⟩, ⟨df, dh, dl⟩, sp, dp⟩) hSw
        go_simp
      try simp only [qpu]
      refine qtk (i := 2) (oi := fyp27o27) (v := (.pointer (some ⟨w.heap.size, 2, none⟩))) hHeld ?_ ?_
      · intro w9 hSw
        try dsimp only at hSw
        go_simp
      try simp only [qpu]
      refine qtk (i := 3) (oi := fyp27o22) (v := (.agg #[.int .i64 sf, .int .u64 sh, .int .u64 sl])) hHeld ?_ ?_
      · intro w9 hSw
        try dsimp only at hSw
        have hcc := Blk.wy (r := ⟨f, pr, ⟨sf, sh, sl⟩, ⟨df, dh, dl⟩, sp, dp⟩) hSw
        go_simp
      try simp only [qpu]
      refine qtk (i := 4) (oi := fyp27o28) (v := (.pointer (some ⟨w.heap.size, 5, none⟩))) hHeld ?_ ?_
      · intro w9 hSw
        try dsimp only at hSw
        go_simp
      try simp only [qpu]
      refine qtk (i := 5) (oi := fyp27o23) (v := (.agg #[.int .i64 df, .int .u64 dh, .int .u64 dl])) hHeld ?_ ?_
      · intro w9 hSw
        try dsimp only at hSw
        have hcc := Blk.wy (r := ⟨f, pr, ⟨sf, sh, sl⟩, ⟨df, dh, dl⟩, sp, dp⟩) hSw
        go_simp
      try simp only [qpu]
      refine wpAnyH_ready (rs := [6]) (by kernel_rfl) (by simp) ?_
      refine AllReadyH.cons (o := fyp27o1) rfl (fun K hK => ?_) AllReadyH.nil
      go_simp
      refine Calls.mono (KE.out _) ?_
      rintro e W3 ⟨rfl, bb⟩
      have A3 := Ad_.kept bb
      have b3 := bel_tr bd bb
      clear bb KE
      refine hK.out _ _ (by exact A3) (fun hHeld => ?_)
      clear hK K
      try simp only [qpu]
      refine qtk (i := 7) (oi := fyp27o17) (v := (.bool true)) hHeld ?_ ?_
      · intro w9 hSw
        try dsimp only at hSw
        go_simp
      try simp only [qpu]
      refine qtk (i := 8) (oi := fyp27o21) (v := (.pointer (some ⟨w.heap.size, 1, none⟩))) hHeld ?_ ?_
      · intro w9 hSw
        try dsimp only at hSw
        go_simp
      try simp only [qpu]
      refine qtk (i := 9) (oi := fyp27o15) (v := (.int .i64 pr)) hHeld ?_ ?_
      · intro w9 hSw
        try dsimp only at hSw
        have hcc := Blk.wy (r := ⟨f, pr, ⟨sf, sh, sl⟩, ⟨df, dh, dl⟩, sp, dp⟩) hSw
        go_simp
      try simp only [qpu]
      refine qtk (i := 10) (oi := fyp27o7) (v := (.bool false)) hHeld ?_ ?_
      · intro w9 hSw
        try dsimp only at hSw
        go_simp
      try simp only [qpu]
      refine qtk (i := 11) (oi := fyp27o9) (v := (.bool false)) hHeld ?_ ?_
      · intro w9 hSw
        try dsimp only at hSw
        go_simp
      try simp only [qpu]
      refine qtk (i := 12) (oi := fyp27o18) (v := (.pointer (some ⟨w.heap.size, 1, none⟩))) hHeld ?_ ?_
      · intro w9 hSw
        try dsimp only at hSw
        go_simp
      try simp only [qpu]
      refine qtk (i := 13) (oi := fyp27o12) (v := (.int .i64 pr)) hHeld ?_ ?_
      · intro w9 hSw
        try dsimp only at hSw
        have hcc := Blk.wy (r := ⟨f, pr, ⟨sf, sh, sl⟩, ⟨df, dh, dl⟩, sp, dp⟩) hSw
        go_simp
      try simp only [qpu]
      refine qtk (i := 14) (oi := fyp27o6) (v := (.bool true)) hHeld ?_ ?_
      · intro w9 hSw
        try dsimp only at hSw
        go_simp
      try simp only [qpu]
      refine qtk (i := 15) (oi := fyp27o4) (v := (.bool true)) hHeld ?_ ?_
      · intro w9 hSw
        try dsimp only at hSw
        go_simp
      try simp only [qpu]
      refine qtk (i := 16) (oi := fyp27o8) (v := (.bool true)) hHeld ?_ ?_
      · intro w9 hSw
        try dsimp only at hSw
        go_simp
      try simp only [qpu]
      refine qtn (i := 17) (oi := fyp27o19) hHeld ?_
      try simp only [qpu]
      refine qtn (i := 18) (oi := fyp27o13) hHeld ?_
      try simp only [qpu]
      refine qtn (i := 19) (oi := fyp27o20) hHeld ?_
      try simp only [qpu]
      refine qtn (i := 20) (oi := fyp27o14) hHeld ?_
      try simp only [qpu]
      refine qtn (i := 21) (oi := fyp27o2) hHeld ?_
      try simp only [qpu]
      refine qtn (i := 22) (oi := fyp27o3) hHeld ?_
      try simp only [qpu]
      refine qtk (i := 23) (oi := fyp27o5) (v := (.bool true)) hHeld ?_ ?_
      · intro w9 hSw
        try dsimp only at hSw
        go_simp
      try simp only [qpu]
      refine qtk (i := 24) (oi := fyp27o11) (v := (.bool true)) hHeld ?_ ?_
      · intro w9 hSw
        try dsimp only at hSw
        go_simp
      try simp only [qpu]
      refine qtk (i := 25) (oi := fyp27o16) (v := (.bool true)) hHeld ?_ ?_
      · intro w9 hSw
        try dsimp only at hSw
        go_simp
      try simp only [qpu]
      refine qtk (i := 26) (oi := fyp27o24) (v := (.bool false)) hHeld ?_ ?_
      · intro w9 hSw
        try dsimp only at hSw
        go_simp
      try simp only [qpu]
      refine qtk (i := 27) (oi := fyp27o10) (v := (.bool false)) hHeld ?_ ?_
      · intro w9 hSw
        try dsimp only at hSw
        go_simp
      try simp only [qpu]
      refine qtk (i := 28) (oi := fyp27o0) (v := (.bool false)) hHeld ?_ ?_
      · intro w9 hSw
        try dsimp only at hSw
        go_simp
      try simp only [qpu]
      refine wpAnyH_done (by kernel_rfl) ?_ _
      refine NoPanic.normal ?_
      go_wp2
      go_ret
      exact ⟨retB_tu (by rw [HT.out]; simp [P1.out, P2.out]), b3⟩
    have n2 : (pr == 17) = false := by simpa using p2
    have P2 : Hid _ := p2
    clear p2
    by_cases p3 : pr = I
    · have n3 : (pr == I) = true := by simpa using p3
      have P3 : Hid _ := p3
      clear p3
      go_enter Try.func35, Try.ntmps35
      go_wp2_with fail
      have Ad_ := A1.drew
      have bd := b1.drew
      clear k0 k1 k2 k3 k4 k5 k6 k7 k8 k9
      refine wp_region_noPanic ?_
      refine wp_region_held_drew (S := fun w' => Blk w' w.heap.size 26 #[.int .i64 f, .int .i64 pr, .int .i64 sf, .int .u64 sh, .int .u64 sl, .int .i64 df, .int .u64 dh, .int .u64 dl, .int .i64 sp, .int .i64 dp]) (by kernel_rfl) (by exact Ad_) (fun hHeld => ?_)
      refine qtk (i := 0) (oi := fyp27o26) (v := (.pointer (some ⟨w.heap.size, 0, none⟩))) hHeld ?_ ?_
      · intro w9 hSw
        try dsimp only at hSw
        go_simp
      try simp only [qpu]
      refine qtk (i := 1) (oi := fyp27o25) (v := (.int .i64 f)) hHeld ?_ ?_
      · intro w9 hSw
        try dsimp only at hSw
        have hcc := Blk.wy (r := ⟨f, pr, ⟨sf, sh, sl⟩, ⟨df, dh, dl⟩, sp, dp⟩) hSw
        go_simp
      try simp only [qpu]
      refine qtk (i := 2) (oi := fyp27o27) (v := (.pointer (some ⟨w.heap.size, 2, none⟩))) hHeld ?_ ?_
      · intro w9 hSw
        try dsimp only at hSw
        go_simp
      try simp only [qpu]
      refine qtk (i := 3) (oi := fyp27o22) (v := (.agg #[.int .i64 sf, .int .u64 sh, .int .u64 sl])) hHeld ?_ ?_
      · intro w9 hSw
        try dsimp only at hSw
        have hcc := Blk.wy (r := ⟨f, pr, ⟨sf, sh, sl⟩, ⟨df, dh, dl⟩, sp, dp⟩) hSw
        go_simp
      try simp only [qpu]
      refine qtk (i := 4) (oi := fyp27o28) (v := (.pointer (some ⟨w.heap.size, 5, none⟩))) hHeld ?_ ?_
      · intro w9 hSw
        try dsimp only at hSw
        go_simp
      try simp only [qpu]
      refine qtk (i := 5) (oi := fyp27o23) (v := (.agg #[.int .i64 df, .int .u64 dh, .int .u64 dl])) hHeld ?_ ?_
      · intro w9 hSw
        try dsimp only at hSw
        have hcc := Blk.wy (r := ⟨f, pr, ⟨sf, sh, sl⟩, ⟨df, dh, dl⟩, sp, dp⟩) hSw
        go_simp
      try simp only [qpu]
      refine wpAnyH_ready (rs := [6]) (by kernel_rfl) (by simp) ?_
      refine AllReadyH.cons (o := fyp27o1) rfl (fun K hK => ?_) AllReadyH.nil
      go_simp
      refine Calls.mono (KE.out _) ?_
      rintro e W3 ⟨rfl, bb⟩
      have A3 := Ad_.kept bb
      have b3 := bel_tr bd bb
      clear bb KE
      refine hK.out _ _ (by exact A3) (fun hHeld => ?_)
      clear hK K
      try simp only [qpu]
      refine qtk (i := 7) (oi := fyp27o17) (v := (.bool true)) hHeld ?_ ?_
      · intro w9 hSw
        try dsimp only at hSw
        go_simp
      try simp only [qpu]
      refine qtk (i := 8) (oi := fyp27o21) (v := (.pointer (some ⟨w.heap.size, 1, none⟩))) hHeld ?_ ?_
      · intro w9 hSw
        try dsimp only at hSw
        go_simp
      try simp only [qpu]
      refine qtk (i := 9) (oi := fyp27o15) (v := (.int .i64 pr)) hHeld ?_ ?_
      · intro w9 hSw
        try dsimp only at hSw
        have hcc := Blk.wy (r := ⟨f, pr, ⟨sf, sh, sl⟩, ⟨df, dh, dl⟩, sp, dp⟩) hSw
        go_simp
      try simp only [qpu]
      refine qtk (i := 10) (oi := fyp27o7) (v := (.bool false)) hHeld ?_ ?_
      · intro w9 hSw
        try dsimp only at hSw
        go_simp
      try simp only [qpu]
      refine qtk (i := 11) (oi := fyp27o9) (v := (.bool false)) hHeld ?_ ?_
      · intro w9 hSw
        try dsimp only at hSw
        go_simp
      try simp only [qpu]
      refine qtk (i := 12) (oi := fyp27o18) (v := (.pointer (some ⟨w.heap.size, 1, none⟩))) hHeld ?_ ?_
      · intro w9 hSw
        try dsimp only at hSw
        go_simp
      try simp only [qpu]
      refine qtk (i := 13) (oi := fyp27o12) (v := (.int .i64 pr)) hHeld ?_ ?_
      · intro w9 hSw
        try dsimp only at hSw
        have hcc := Blk.wy (r := ⟨f, pr, ⟨sf, sh, sl⟩, ⟨df, dh, dl⟩, sp, dp⟩) hSw
        go_simp
      try simp only [qpu]
      refine qtk (i := 14) (oi := fyp27o6) (v := (.bool false)) hHeld ?_ ?_
      · intro w9 hSw
        try dsimp only at hSw
        go_simp
      try simp only [qpu]
      refine qtk (i := 15) (oi := fyp27o4) (v := (.bool false)) hHeld ?_ ?_
      · intro w9 hSw
        try dsimp only at hSw
        go_simp
      try simp only [qpu]
      refine qtk (i := 16) (oi := fyp27o8) (v := (.bool false)) hHeld ?_ ?_
      · intro w9 hSw
        try dsimp only at hSw
        go_simp
      try simp only [qpu]
      refine qtk (i := 17) (oi := fyp27o19) (v := (.pointer (some ⟨w.heap.size, 1, none⟩))) hHeld ?_ ?_
      · intro w9 hSw
        try dsimp only at hSw
        go_simp
      try simp only [qpu]
      refine qtk (i := 18) (oi := fyp27o13) (v := (.int .i64 pr)) hHeld ?_ ?_
      · intro w9 hSw
        try dsimp only at hSw
        have hcc := Blk.wy (r := ⟨f, pr, ⟨sf, sh, sl⟩, ⟨df, dh, dl⟩, sp, dp⟩) hSw
        go_simp
      try simp only [qpu]
      refine qtk (i := 19) (oi := fyp27o20) (v := (.pointer (some ⟨w.heap.size, 0, none⟩))) hHeld ?_ ?_
      · intro w9 hSw
        try dsimp only at hSw
        go_simp
      try simp only [qpu]
      refine qtk (i := 20) (oi := fyp27o14) (v := (.int .i64 f)) hHeld ?_ ?_
      · intro w9 hSw
        try dsimp only at hSw
        have hcc := Blk.wy (r := ⟨f, pr, ⟨sf, sh, sl⟩, ⟨df, dh, dl⟩, sp, dp⟩) hSw
        go_simp
      try simp only [qpu]
      refine wpAnyH_ready (rs := [21]) (by kernel_rfl) (by simp) ?_
      refine AllReadyH.cons (o := fyp27o2) rfl (fun K hK => ?_) AllReadyH.nil
      go_simp
      refine Calls.mono (KI.out _) ?_
      rintro e _ ⟨rfl, rfl⟩
      clear KI
      refine hK.out _ _ (by exact A3) (fun hHeld => ?_)
      clear hK K
      try simp only [qpu]
      refine qtk (i := 22) (oi := fyp27o3) (v := (.bool true)) hHeld ?_ ?_
      · intro w9 hSw
        try dsimp only at hSw
        go_simp
      try simp only [qpu]
      refine qtk (i := 23) (oi := fyp27o5) (v := (.bool true)) hHeld ?_ ?_
      · intro w9 hSw
        try dsimp only at hSw
        go_simp
      try simp only [qpu]
      refine qtk (i := 24) (oi := fyp27o11) (v := (.bool true)) hHeld ?_ ?_
      · intro w9 hSw
        try dsimp only at hSw
        go_simp
      try simp only [qpu]
      refine qtk (i := 25) (oi := fyp27o16) (v := (.bool true)) hHeld ?_ ?_
      · intro w9 hSw
        try dsimp only at hSw
        go_simp
      try simp only [qpu]
      refine qtk (i := 26) (oi := fyp27o24) (v := (.bool false)) hHeld ?_ ?_
      · intro w9 hSw
        try dsimp only at hSw
        go_simp
      try simp only [qpu]
      refine qtk (i := 27) (oi := fyp27o10) (v := (.bool false)) hHeld ?_ ?_
      · intro w9 hSw
        try dsimp only at hSw
        go_simp
      try simp only [qpu]
      refine qtk (i := 28) (oi := fyp27o0) (v := (.bool false)) hHeld ?_ ?_
      · intro w9 hSw
        try dsimp only at hSw
        go_simp
      try simp only [qpu]
      refine wpAnyH_done (by kernel_rfl) ?_ _
      refine NoPanic.normal ?_
      go_wp2
      go_ret
      exact ⟨retB_tu (by rw [HT.out]; simp [P1.out, P2.out, P3.out]), b3⟩
    have n3 : (pr == I) = false := by simpa using p3
    have P3 : Hid _ := p3
    clear p3
    go_enter Try.func35, Try.ntmps35
    go_wp2_with fail
    have Ad_ := A1.drew
    have bd := b1.drew
    clear k0 k1 k2 k3 k4 k5 k6 k7 k8 k9
    refine wp_region_noPanic ?_
    refine wp_region_held_drew (S := fun w' => Blk w' w.heap.size 26 #[.int .i64 f, .int .i64 pr, .int .i64 sf, .int .u64 sh, .int .u64 sl, .int .i64 df, .int .u64 dh, .int .u64 dl, .int .i64 sp, .int .i64 dp]) (by kernel_rfl) (by exact Ad_) (fun hHeld => ?_)
    refine qtk (i := 0) (oi := fyp27o26) (v := (.pointer (some ⟨w.heap.size, 0, none⟩))) hHeld ?_ ?_
    · intro w9 hSw
      try dsimp only at hSw
      go_simp
    try simp only [qpu]
    refine qtk (i := 1) (oi := fyp27o25) (v := (.int .i64 f)) hHeld ?_ ?_
    · intro w9 hSw
      try dsimp only at hSw
      have hcc := Blk.wy (r := ⟨f, pr, ⟨sf, sh, sl⟩, ⟨df, dh, dl⟩, sp, dp⟩) hSw
      go_simp
    try simp only [qpu]
    refine qtk (i := 2) (oi := fyp27o27) (v := (.pointer (some ⟨w.heap.size, 2, none⟩))) hHeld ?_ ?_
    · intro w9 hSw
      try dsimp only at hSw
      go_simp
    try simp only [qpu]
    refine qtk (i := 3) (oi := fyp27o22) (v := (.agg #[.int .i64 sf, .int .u64 sh, .int .u64 sl])) hHeld ?_ ?_
    · intro w9 hSw
      try dsimp only at hSw
      have hcc := Blk.wy (r := ⟨f, pr, ⟨sf, sh, sl⟩, ⟨df, dh, dl⟩, sp, dp⟩) hSw
      go_simp
    try simp only [qpu]
    refine qtk (i := 4) (oi := fyp27o28) (v := (.pointer (some ⟨w.heap.size, 5, none⟩))) hHeld ?_ ?_
    · intro w9 hSw
      try dsimp only at hSw
      go_simp
    try simp only [qpu]
    refine qtk (i := 5) (oi := fyp27o23) (v := (.agg #[.int .i64 df, .int .u64 dh, .int .u64 dl])) hHeld ?_ ?_
    · intro w9 hSw
      try dsimp only at hSw
      have hcc := Blk.wy (r := ⟨f, pr, ⟨sf, sh, sl⟩, ⟨df, dh, dl⟩, sp, dp⟩) hSw
      go_simp
    try simp only [qpu]
    refine wpAnyH_ready (rs := [6]) (by kernel_rfl) (by simp) ?_
    refine AllReadyH.cons (o := fyp27o1) rfl (fun K hK => ?_) AllReadyH.nil
    go_simp
    refine Calls.mono (KE.out _) ?_
    rintro e W3 ⟨rfl, bb⟩
    have A3 := Ad_.kept bb
    have b3 := bel_tr bd bb
    clear bb KE
    refine hK.out _ _ (by exact A3) (fun hHeld => ?_)
    clear hK K
    try simp only [qpu]
    refine qtk (i := 7) (oi := fyp27o17) (v := (.bool true)) hHeld ?_ ?_
    · intro w9 hSw
      try dsimp only at hSw
      go_simp
    try simp only [qpu]
    refine qtk (i := 8) (oi := fyp27o21) (v := (.pointer (some ⟨w.heap.size, 1, none⟩))) hHeld ?_ ?_
    · intro w9 hSw
      try dsimp only at hSw
      go_simp
    try simp only [qpu]
    refine qtk (i := 9) (oi := fyp27o15) (v := (.int .i64 pr)) hHeld ?_ ?_
    · intro w9 hSw
      try dsimp only at hSw
      have hcc := Blk.wy (r := ⟨f, pr, ⟨sf, sh, sl⟩, ⟨df, dh, dl⟩, sp, dp⟩) hSw
      go_simp
    try simp only [qpu]
    refine qtk (i := 10) (oi := fyp27o7) (v := (.bool false)) hHeld ?_ ?_
    · intro w9 hSw
      try dsimp only at hSw
      go_simp
    try simp only [qpu]
    refine qtk (i := 11) (oi := fyp27o9) (v := (.bool false)) hHeld ?_ ?_
    · intro w9 hSw
      try dsimp only at hSw
      go_simp
    try simp only [qpu]
    refine qtk (i := 12) (oi := fyp27o18) (v := (.pointer (some ⟨w.heap.size, 1, none⟩))) hHeld ?_ ?_
    · intro w9 hSw
      try dsimp only at hSw
      go_simp
    try simp only [qpu]
    refine qtk (i := 13) (oi := fyp27o12) (v := (.int .i64 pr)) hHeld ?_ ?_
    · intro w9 hSw
      try dsimp only at hSw
      have hcc := Blk.wy (r := ⟨f, pr, ⟨sf, sh, sl⟩, ⟨df, dh, dl⟩, sp, dp⟩) hSw
      go_simp
    try simp only [qpu]
    refine qtk (i := 14) (oi := fyp27o6) (v := (.bool false)) hHeld ?_ ?_
    · intro w9 hSw
      try dsimp only at hSw
      go_simp
    try simp only [qpu]
    refine qtk (i := 15) (oi := fyp27o4) (v := (.bool false)) hHeld ?_ ?_
    · intro w9 hSw
      try dsimp only at hSw
      go_simp
    try simp only [qpu]
    refine qtk (i := 16) (oi := fyp27o8) (v := (.bool false)) hHeld ?_ ?_
    · intro w9 hSw
      try dsimp only at hSw
      go_simp
    try simp only [qpu]
    refine qtk (i := 17) (oi := fyp27o19) (v := (.pointer (some ⟨w.heap.size, 1, none⟩))) hHeld ?_ ?_
    · intro w9 hSw
      try dsimp only at hSw
      go_simp
    try simp only [qpu]
    refine qtk (i := 18) (oi := fyp27o13) (v := (.int .i64 pr)) hHeld ?_ ?_
    · intro w9 hSw
      try dsimp only at hSw
      have hcc := Blk.wy (r := ⟨f, pr, ⟨sf, sh, sl⟩, ⟨df, dh, dl⟩, sp, dp⟩) hSw
      go_simp
    try simp only [qpu]
    refine qtk (i := 19) (oi := fyp27o20) (v := (.pointer (some ⟨w.heap.size, 0, none⟩))) hHeld ?_ ?_
    · intro w9 hSw
      try dsimp only at hSw
      go_simp
    try simp only [qpu]
    refine qtk (i := 20) (oi := fyp27o14) (v := (.int .i64 f)) hHeld ?_ ?_
    · intro w9 hSw
      try dsimp only at hSw
      have hcc := Blk.wy (r := ⟨f, pr, ⟨sf, sh, sl⟩, ⟨df, dh, dl⟩, sp, dp⟩) hSw
      go_simp
    try simp only [qpu]
    refine wpAnyH_ready (rs := [21]) (by kernel_rfl) (by simp) ?_
    refine AllReadyH.cons (o := fyp27o2) rfl (fun K hK => ?_) AllReadyH.nil
    go_simp
    refine Calls.mono (KI.out _) ?_
    rintro e _ ⟨rfl, rfl⟩
    clear KI
    refine hK.out _ _ (by exact A3) (fun hHeld => ?_)
    clear hK K
    try simp only [qpu]
    refine qtk (i := 22) (oi := fyp27o3) (v := (.bool false)) hHeld ?_ ?_
    · intro w9 hSw
      try dsimp only at hSw
      go_simp
    try simp only [qpu]
    refine qtk (i := 23) (oi := fyp27o5) (v := (.bool false)) hHeld ?_ ?_
    · intro w9 hSw
      try dsimp only at hSw
      go_simp
    try simp only [qpu]
    refine qtk (i := 24) (oi := fyp27o11) (v := (.bool false)) hHeld ?_ ?_
    · intro w9 hSw
      try dsimp only at hSw
      go_simp
    try simp only [qpu]
    refine qtk (i := 25) (oi := fyp27o16) (v := (.bool false)) hHeld ?_ ?_
    · intro w9 hSw
      try dsimp only at hSw
      go_simp
    try simp only [qpu]
    refine qtn (i := 26) (oi := fyp27o24) hHeld ?_
    try simp only [qpu]
    refine qtk (i := 27) (oi := fyp27o10) (v := (.bool false)) hHeld ?_ ?_
    · intro w9 hSw
      try dsimp only at hSw
      go_simp
    try simp only [qpu]
    refine qtk (i := 28) (oi := fyp27o0) (v := (.bool false)) hHeld ?_ ?_
    · intro w9 hSw
      try dsimp only at hSw
      go_simp
    try simp only [qpu]
    refine wpAnyH_done (by kernel_rfl) ?_ _
    refine NoPanic.normal ?_
    go_wp2
    go_ret
    exact ⟨retB_tu (by rw [HT.out]; simp [P1.out, P2.out, P3.out]), b3⟩
theorem rright_t (t : Wy) (w : World) (ho : t.ok) : Calls Try.prog 35 #[.agg t.v] w fun e w' => e = .returned (.bool t.right) ∧ Below w.heap.size w w' := by
  rw [Wy.right_doc]
  obtain ⟨f, pr, ⟨sf, sh, sl⟩, ⟨df, dh, dl⟩, sp, dp⟩ := t
  have h1 := ho.s.2.2.1
  have h2 := ho.d.2.2.1
  have e : ∀ P, portsB sp dp = P → Calls Try.prog 35 #[.agg #[.int .i64 f, .int .i64 pr, .int .i64 sf, .int .u64 sh, .int .u64 sl, .int .i64 df, .int .u64 dh, .int .u64 dl, .int .i64 sp, .int .i64 dp]] w (fun e w' => e = .returned (.bool (endsB f ⟨sf, sh, sl⟩ ⟨df, dh, dl⟩ && (protoB f pr && P))) ∧ Below w.heap.size w w') → Calls Try.prog 35 #[.agg #[.int .i64 f, .int .i64 pr, .int .i64 sf, .int .u64 sh, .int .u64 sl, .int .i64 df, .int .u64 dh, .int .u64 dl, .int .i64 sp, .int .i64 dp]] w (fun e w' => e = .returned (.bool (endsB f ⟨sf, sh, sl⟩ ⟨df, dh, dl⟩ && (protoB f pr && portsB sp dp))) ∧ Below w.heap.size w w') := fun P hP h => by rw [hP]; exact h
  by_cases c1 : 0 ≤ sp
  · by_cases c2 : sp ≤ 65535
    · by_cases c3 : 0 ≤ dp
      · by_cases c4 : dp ≤ 65535
        · exact e true (by simp [portsB, c1, c2, c3, c4]) (rright_y f pr sf sh sl df dh dl sp dp w h1 h2 c1 c2 c3 c4)
        · exact e false (by simp [portsB, c4]) (rright_d f pr sf sh sl df dh dl sp dp w h1 h2 c1 c2 c3 c4)
      · exact e false (by simp [portsB, c3]) (rright_c f pr sf sh sl df dh dl sp dp w h1 h2 c1 c2 c3)
    · exact e false (by simp [portsB, c2]) (rright_b f pr sf sh sl df dh dl sp dp w h1 h2 c1 c2)
  · exact e false (by simp [portsB, c1]) (rright_a f pr sf sh sl df dh dl sp dp w h1 h2 c1)
end Go.Proofs.Ytmjjdbkipagkbaa
