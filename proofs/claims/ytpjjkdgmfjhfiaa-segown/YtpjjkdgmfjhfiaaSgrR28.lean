/- Texts joined: SgAm SgBk SgRb SgRt -/
import Derived.Test.YtpjjkdgmfjhfiaaSgrR27
namespace Go.Proofs.Ytpjjkdgmfjhfiaa
open Go.RowKit
set_option linter.unusedVariables false
set_option linter.unusedSimpArgs false
set_option maxRecDepth 100000 in
theorem small_may : mayB smallSg = true := by decide
set_option maxRecDepth 100000 in
theorem small_made : madeB smallSg = [0, 53, 4, 0, 0, 12, 227, 152, 1, 2, 3, 4] := by decide
set_option maxRecDepth 100000 in
theorem small_E : segE 4 17 ⟨4, 0, 167772161⟩ ⟨4, 0, 167772162⟩ [0, 53, 4, 0, 0, 12, 227, 152, 1, 2, 3, 4] = 0 := by decide
set_option maxRecDepth 100000 in
theorem small_X : segX 4 17 ⟨4, 0, 167772161⟩ ⟨4, 0, 167772162⟩ [0, 53, 4, 0, 0, 12, 227, 152, 1, 2, 3, 4] = smallSg := by
  unfold segX
  rw [small_E]
  rfl
theorem small_ok : smallSg.ok := ⟨by unfold Ad.ok; decide, by unfold Ad.ok; decide, by decide, by decide⟩
theorem yieldsIf_blk_w {ops : Array Oper} {S : World → Prop} {o : Oper} {ac : Act} (hw : Region.wanted o (yielded ops ac.tmps) = true) (t : TypeId) (p : Operand) (ho : o.op = Op.load t p) (g : Nat) (hp : ac.eval p = .pointer (some ⟨g, 0, none⟩)) (cs : Array Value)
    (hS : ∀ w, S w → Blk w g t cs) {fs : _} (hu : Try.prog.underlying t = some (.struct fs)) (hi : (Try.prog.info? t).map (·.size) = some cs.size) : YieldsIf Try.prog ops S o (.agg cs) ac := by
  refine .inl ⟨hw, fun w hw' => ?_⟩
  have hl := load_blk (hS w hw') hu hi
  simp [execOp, ho, hp, Instr.loadAt, Instr.sureAddr, hl, Result.andThen]
set_option maxRecDepth 100000 in
set_option maxHeartbeats 4000000 in
theorem segAlive_any (w : World) : Calls Try.prog 15 #[] w fun e w' => e = .returned (.bool true) ∧ Below w.heap.size w w' := by
  have KS : Hid _ := small_any
  have KE : Hid (∀ W, Calls Try.prog 13 #[.int .i64 4, .int .i64 3] W fun e w' => e = .returned (.bool true) ∧ w' = W) := fun W => isError_any 4 3 W
  have KB : Hid (∀ W G, Row W (some ⟨G, 0, none⟩) [1, 2, 3, 4] → Calls Try.prog 19 #[.agg (sRc 4 17 4 0 167772161 4 0 167772162 53 1024 0 0 0 0 0 0 false 0 0 0 0 0 0 0 0 0 0 (some ⟨G, 0, none⟩) 4 4)] W fun e w' => ∃ a' c', e = .returned (.tuple #[.slice a' 12 c', .int .i64 0]) ∧ Fresh W w' a' c' [0, 53, 4, 0, 0, 12, 227, 152, 1, 2, 3, 4]) := fun W G hr => by
    have := build_any smallSg (some ⟨G, 0, none⟩) 4 W hr (fun e => by cases e) small_ok
    rw [small_may, if_pos rfl, if_pos rfl, small_made] at this
    exact this
  have KP : Hid (∀ W a' c' b d, Calls Try.prog 21 #[.agg (sRc 4 17 4 0 167772161 4 0 167772162 53 1024 0 0 0 0 0 0 false 0 0 0 0 0 0 0 0 0 0 a' 4 c'), .slice b 12 d] W fun e w' => e = .returned (.agg (sRa 4 4 0 167772161 4 0 167772162 17 1 false 0 0 false none 0 0 b 12 d)) ∧ Below W.heap.size W w') := fun W a' c' b d => packet_any smallSg a' c' b 12 d W
  have KR : Hid (∀ W b d, Row W b [0, 53, 4, 0, 0, 12, 227, 152, 1, 2, 3, 4] → (b = none → d = 0) → 12 ≤ d → d ≤ 9223372036854775807 → Calls Try.prog 16 #[.agg (sRa 4 4 0 167772161 4 0 167772162 17 1 false 0 0 false none 0 0 b 12 d)] W fun e w' => ∃ a5 c5, e = .returned (.tuple #[.agg (sRc 4 17 4 0 167772161 4 0 167772162 53 1024 0 0 0 0 0 0 false 0 0 0 0 0 0 0 0 0 0 a5 4 c5), .int .i64 0]) ∧ Fresh W w' a5 c5 [1, 2, 3, 4]) := fun W b d hr hn h1 h2 => by
    have := segParse_any 4 4 0 167772161 4 0 167772162 17 1 false 0 0 false none 0 0 b d [0, 53, 4, 0, 0, 12, 227, 152, 1, 2, 3, 4] W hr hn (by simpa using h1) h2 (by decide) (by unfold Ad.ok; decide) (by unfold Ad.ok; decide)
    rw [small_E, small_X] at this
    exact this
  go_enter Try.func15, Try.ntmps15
  go_wp2_with fail
  refine Calls.mono (KS.out _) ?_
  rintro e W1 ⟨G, rfl, r1, b1⟩
  go_wp2_with fail
  refine Calls.mono (KB.out _ _ r1) ?_
  rintro e W2 ⟨a2, c2, rfl, f2⟩
  have b2 := bel_tr b1 f2.below
  have r2 := f2.row
  have n2 := f2.nil
  have m2 := f2.room
  have o2 := f2.owns.cap_le
  clear KB r1 b1 f2
  go_wp2_with fail
  refine Calls.mono (KS.out _) ?_
  rintro e W3 ⟨G3, rfl, r3, bb⟩
  have b3 := bel_tr b2 bb
  replace r2 := r2.below bb
  clear bb b2 r3
  go_wp2_with fail
  refine Calls.mono (KP.out _ _ _ _ _) ?_
  rintro e W4 ⟨rfl, bb⟩
  have b4 := bel_tr b3 bb
  replace r2 := r2.below bb
  clear bb b3 KP
  go_wp2_with fail
  refine Calls.mono (KR.out _ _ _ r2 n2 m2 o2) ?_
  rintro e W5 ⟨a5, c5, rfl, f5⟩
  have b5 := bel_tr b4 f5.below
  have r5 := f5.row
  clear f5 b4 r2 n2 m2 o2 KR
  obtain ⟨W6', hW6'⟩ : ∃ W, W5.alloc (.cells (sRc 0 0 0 0 0 0 0 0 0 0 0 0 0 0 0 0 false 0 0 0 0 0 0 0 0 0 0 none 0 0) 38) = W := ⟨_, rfl⟩
  have B6' : Blk W6' W5.heap.size 38 (sRc 0 0 0 0 0 0 0 0 0 0 0 0 0 0 0 0 false 0 0 0 0 0 0 0 0 0 0 none 0 0) := by rw [← hW6']; exact blk_new _ _ _
  obtain ⟨W6, hW6⟩ : ∃ W, W6'.setRow W5.heap.size (sRc 4 17 4 0 167772161 4 0 167772162 53 1024 0 0 0 0 0 0 false 0 0 0 0 0 0 0 0 0 0 a5 4 c5) = W := ⟨_, rfl⟩
  have B6 : Blk W6 W5.heap.size 38 (sRc 4 17 4 0 167772161 4 0 167772162 53 1024 0 0 0 0 0 0 false 0 0 0 0 0 0 0 0 0 0 a5 4 c5) := by rw [← hW6]; exact B6'.set _
  have b56 : Below W5.heap.size W5 W6 := by rw [← hW6, ← hW6']; exact below_setRow ((Below.refl _ _).alloc (Nat.le_refl _) _) (Nat.le_refl _) _
  have b6 := bel_tr b5 b56
  have r6 := r5.below b56
  have HW6 : Hid _ := hW6
  clear hW6 b56 r5 b5
  go_wp2_with (refine wpList_store_row rfl _ _ _ rfl W5.heap.size (sRc 4 17 4 0 167772161 4 0 167772162 53 1024 0 0 0 0 0 0 false 0 0 0 0 0 0 0 0 0 0 a5 4 c5) (by rfl) (by rfl) _ _ B6' (by kernel_rfl) (by rfl) (by kernel_rfl) ?_; rw [HW6.out])
  clear HW6 B6' hW6'
  refine wp_region_noPanic ?_
  refine wp_region_held_drew (S := fun w' => Blk w' W5.heap.size 38 (sRc 4 17 4 0 167772161 4 0 167772162 53 1024 0 0 0 0 0 0 false 0 0 0 0 0 0 0 0 0 0 a5 4 c5)) (by kernel_rfl) (by exact B6.drew) (fun hHeld => ?_)
  refine tk (i := 0) (oi := { dst := some 17, op := Op.move (.tmp 2), type := 39, pos := "law.go:26", after := #[], guard := none }) (v := (.int .i64 0)) hHeld ?_ ?_
  · intro w9 hSw
    try dsimp only at hSw
    go_simp
  try simp only [pu]
  refine tk (i := 1) (oi := { dst := some 18, op := Op.binOp BinOp.eql 39 (.tmp 17) (.const (.int .i64 0)) 39, type := 4, pos := "law.go:26", after := #[{ on := 0, ground := Ground.data }], guard := none }) (v := (.bool true)) hHeld ?_ ?_
  · intro w9 hSw
    try dsimp only at hSw
    go_simp
  try simp only [pu]
  refine tk (i := 2) (oi := { dst := some 19, op := Op.move (.tmp 18), type := 4, pos := "law.go:26", after := #[{ on := 1, ground := Ground.data }], guard := none }) (v := (.bool true)) hHeld ?_ ?_
  · intro w9 hSw
    try dsimp only at hSw
    go_simp
  try simp only [pu]
  refine tk (i := 3) (oi := { dst := some 20, op := Op.move (.tmp 4), type := 39, pos := "law.go:26", after := #[{ on := 2, ground := Ground.guard }], guard := some (2, true) }) (v := (.int .i64 0)) hHeld ?_ ?_
  · intro w9 hSw
    try dsimp only at hSw
    go_simp
  try simp only [pu]
  refine tk (i := 4) (oi := { dst := some 21, op := Op.binOp BinOp.eql 39 (.tmp 20) (.const (.int .i64 0)) 39, type := 4, pos := "law.go:26", after := #[{ on := 3, ground := Ground.data }, { on := 2, ground := Ground.guard }], guard := some (2, true) }) (v := (.bool true)) hHeld ?_ ?_
  · intro w9 hSw
    try dsimp only at hSw
    go_simp
  try simp only [pu]
  refine tk (i := 5) (oi := { dst := some 22, op := Op.pick (.tmp 19) (.tmp 21) (.const (.bool false)), type := 4, pos := "law.go:26", after := #[{ on := 2, ground := Ground.data }, { on := 4, ground := Ground.data }], guard := none }) (v := (.bool true)) hHeld ?_ ?_
  · intro w9 hSw
    try dsimp only at hSw
    go_simp
  try simp only [pu]
  refine tk (i := 6) (oi := { dst := some 23, op := Op.move (.tmp 22), type := 4, pos := "law.go:26", after := #[{ on := 5, ground := Ground.data }, { on := 2, ground := Ground.chain }], guard := none }) (v := (.bool true)) hHeld ?_ ?_
  · intro w9 hSw
    try dsimp only at hSw
    go_simp
  try simp only [pu]
  refine tk (i := 7) (oi := { dst := some 24, op := Op.move (.tmp 1), type := 28, pos := "law.go:26", after := #[{ on := 6, ground := Ground.guard }], guard := some (6, true) }) (v := (.slice a2 12 c2)) hHeld ?_ ?_
  · intro w9 hSw
    try dsimp only at hSw
    go_simp
  try simp only [pu]
  refine tk (i := 8) (oi := { dst := some 25, op := Op.call { callee := Callee.builtin Builtin.len, args := #[.tmp 24], argTypes := #[28] }, type := 3, pos := "law.go:26", after := #[{ on := 7, ground := Ground.data }, { on := 6, ground := Ground.guard }], guard := some (6, true) }) (v := (.int .i64 12)) hHeld ?_ ?_
  · intro w9 hSw
    try dsimp only at hSw
    go_simp
  try simp only [pu]
  refine tk (i := 9) (oi := { dst := some 26, op := Op.binOp BinOp.eql 3 (.tmp 25) (.const (.int .i64 12)) 3, type := 4, pos := "law.go:26", after := #[{ on := 8, ground := Ground.data }, { on := 6, ground := Ground.guard }], guard := some (6, true) }) (v := (.bool true)) hHeld ?_ ?_
  · intro w9 hSw
    try dsimp only at hSw
    go_simp
  try simp only [pu]
  refine tk (i := 10) (oi := { dst := some 27, op := Op.pick (.tmp 23) (.tmp 26) (.const (.bool false)), type := 4, pos := "law.go:26", after := #[{ on := 6, ground := Ground.data }, { on := 9, ground := Ground.data }], guard := none }) (v := (.bool true)) hHeld ?_ ?_
  · intro w9 hSw
    try dsimp only at hSw
    go_simp
  try simp only [pu]
  refine tk (i := 11) (oi := { dst := some 28, op := Op.move (.tmp 27), type := 4, pos := "law.go:26", after := #[{ on := 10, ground := Ground.data }, { on := 6, ground := Ground.chain }], guard := none }) (v := (.bool true)) hHeld ?_ ?_
  · intro w9 hSw
    try dsimp only at hSw
    go_simp
  try simp only [pu]
  refine wpAnyH_take (i := 12) (oi := { dst := some 29, op := Op.load 38 (.tmp 3), type := 38, pos := "law.go:26", after := #[{ on := 11, ground := Ground.guard }], guard := some (11, true) }) (v := (.agg (sRc 4 17 4 0 167772161 4 0 167772162 53 1024 0 0 0 0 0 0 false 0 0 0 0 0 0 0 0 0 0 a5 4 c5))) rfl (by kernel_rfl) (by kernel_rfl) (by kernel_rfl) (fun _ _ _ h => h) (yieldsIf_blk_w (by kernel_rfl) _ _ rfl W5.heap.size (by rfl) _ (fun _ hSw => hSw) Try.underlying38 (by kernel_rfl)) hHeld ?_
  try simp only [pu]
  refine wpAnyH_ready (rs := [13]) (by kernel_rfl) (by simp) ?_
  refine AllReadyH.cons (o := { dst := some 30, op := Op.call { callee := Callee.value (.func 32), args := #[], argTypes := #[] }, type := 38, pos := "law.go:26", after := #[{ on := 11, ground := Ground.chain }, { on := 11, ground := Ground.guard }], guard := some (11, true) }) rfl (fun K hK => ?_) AllReadyH.nil
  go_simp
  refine Calls.mono (KS.out _) ?_
  rintro e W7 ⟨G7, rfl, r7, bb⟩
  have B7 := B6.drew.kept bb
  have rr7 := (r6.below ((Below.refl _ _).drew)).below bb
  have b7 : Below w.heap.size w W7 := b6.drew.trans (bb.mono b6.drew.size)
  refine hK.out _ _ ?_ (fun hHeld => ?_)
  · exact B7
  clear hK K
  try simp only [pu]
  refine wpAnyH_ready (rs := [14]) (by kernel_rfl) (by simp) ?_
  refine AllReadyH.cons (o := { dst := some 31, op := Op.call { callee := Callee.value (.func 18), args := #[.tmp 29, .tmp 30], argTypes := #[38, 38] }, type := 4, pos := "law.go:26", after := #[{ on := 12, ground := Ground.data }, { on := 13, ground := Ground.data }, { on := 13, ground := Ground.chain }, { on := 11, ground := Ground.guard }], guard := some (11, true) }) rfl (fun K hK => ?_) AllReadyH.nil
  go_simp
  refine Calls.mono (same_seg smallSg a5 (some ⟨G7, 0, none⟩) c5 4 _ rr7 r7) ?_
  rintro e W8 ⟨rfl, bb⟩
  have B8 := B7.kept bb
  have b8 := bel_tr b7 bb
  refine hK.out _ _ ?_ (fun hHeld => ?_)
  · exact B8
  clear hK K
  try simp only [pu]
  refine tk (i := 15) (oi := { dst := some 32, op := Op.pick (.tmp 28) (.tmp 31) (.const (.bool false)), type := 4, pos := "law.go:26", after := #[{ on := 11, ground := Ground.data }, { on := 14, ground := Ground.data }], guard := none }) (v := (.bool true)) hHeld ?_ ?_
  · intro w9 hSw
    try dsimp only at hSw
    go_simp
  try simp only [pu]
  refine tk (i := 16) (oi := { dst := some 33, op := Op.move (.tmp 32), type := 4, pos := "law.go:26", after := #[{ on := 15, ground := Ground.data }, { on := 14, ground := Ground.chain }], guard := none }) (v := (.bool true)) hHeld ?_ ?_
  · intro w9 hSw
    try dsimp only at hSw
    go_simp
  try simp only [pu]
  refine wpAnyH_ready (rs := [17]) (by kernel_rfl) (by simp) ?_
  refine AllReadyH.cons (o := { dst := some 34, op := Op.call { callee := Callee.value (.func 13), args := #[.const (.int .i64 4), .const (.int .i64 3)], argTypes := #[3, 3] }, type := 4, pos := "law.go:26", after := #[{ on := 16, ground := Ground.chain }, { on := 16, ground := Ground.guard }], guard := some (16, true) }) rfl (fun K hK => ?_) AllReadyH.nil
  go_simp
  refine Calls.mono (KE.out _) ?_
  rintro e W9 ⟨rfl, hW9⟩
  rw [hW9]
  clear hW9 W9
  refine hK.out _ _ ?_ (fun hHeld => ?_)
  · exact B8
  clear hK K
  try simp only [pu]
  refine tk (i := 18) (oi := { dst := some 35, op := Op.pick (.tmp 33) (.tmp 34) (.const (.bool false)), type := 4, pos := "law.go:26", after := #[{ on := 16, ground := Ground.data }, { on := 17, ground := Ground.data }], guard := none }) (v := (.bool true)) hHeld ?_ ?_
  · intro w9 hSw
    try dsimp only at hSw
    go_simp
  try simp only [pu]
  refine tk (i := 19) (oi := { dst := some 0, op := Op.assign (.tmp 35), type := 4, pos := "law.go:26", after := #[{ on := 18, ground := Ground.data }, { on := 17, ground := Ground.chain }, { on := 0, ground := Ground.phase }, { on := 1, ground := Ground.phase }, { on := 2, ground := Ground.phase }, { on := 3, ground := Ground.phase }, { on := 4, ground := Ground.phase }, { on := 5, ground := Ground.phase }, { on := 6, ground := Ground.phase }, { on := 7, ground := Ground.phase }, { on := 8, ground := Ground.phase }, { on := 9, ground := Ground.phase }, { on := 10, ground := Ground.phase }, { on := 11, ground := Ground.phase }, { on := 12, ground := Ground.phase }, { on := 13, ground := Ground.phase }, { on := 14, ground := Ground.phase }, { on := 15, ground := Ground.phase }, { on := 16, ground := Ground.phase }, { on := 17, ground := Ground.phase }, { on := 18, ground := Ground.phase }], guard := none }) (v := (.bool true)) hHeld ?_ ?_
  · intro w9 hSw
    try dsimp only at hSw
    go_simp
  try simp only [pu]
  refine wpAnyH_done (by kernel_rfl) ?_ _
  refine NoPanic.normal ?_
  go_wp2
  go_ret
  exact ⟨rfl, b8⟩
theorem rFlags_any (x : Int) (w : World) : Calls Try.prog 47 #[.int .i64 x] w fun e w' => e = .returned (.bool (flagsB x)) ∧ w' = w := by
  go_enter Try.func47, Try.ntmps47
  go_wp2_with fail
  all_goals (go_ret; exact ⟨retB (by unfold flagsB; generalize bits .and .i64 x 22 = p at *; generalize bits .and .i64 x 2 = q at *; generalize bits .and .i64 x 5 = r at *; generalize bits .and .i64 x 1 = s at *; generalize bits .and .i64 x 16 = t at *; cases hp : (p == 0) <;> cases hq : (q == 0) <;> cases hr : (r == 0) <;> cases hs : (s == 0) <;> cases ht : (t == 0) <;> simp_all [bne]), rfl⟩)
theorem rIsError_any (f k : Int) (w : World) : Calls Try.prog 14 #[.int .i64 f, .int .i64 k] w fun e w' => e = .returned (.bool (isErr f k)) ∧ w' = w := by
  go_enter Try.func14, Try.ntmps14
  go_wp2_with fail
  all_goals (go_ret; exact ⟨retB (by unfold isErr; simp_all <;> omega), rfl⟩)
def rEcho (f k : Int) : Bool := (f == 4 && (k == 8 || k == 0)) || (f == 6 && (k == 128 || k == 129))
theorem rIsEcho_any (f k : Int) (w : World) : Calls Try.prog 45 #[.int .i64 f, .int .i64 k] w fun e w' => e = .returned (.bool (rEcho f k)) ∧ w' = w := by
  go_enter Try.func45, Try.ntmps45
  go_wp2_with fail
  all_goals (go_ret; exact ⟨retB (by unfold rEcho; simp_all <;> omega), rfl⟩)
theorem echo_eq' {f k : Int} (h : f = 4 ∨ f = 6) : rEcho f k = isEcho f k := by
  unfold rEcho isEcho
  rcases h with rfl | rfl <;> simp
set_option maxRecDepth 100000 in
set_option maxHeartbeats 4000000 in
theorem rports_6 (f pr : Int) (a : Option Addr) (c : Nat) (l : List Int) (w : World) (h : Row w a l) (hnil : a = none → c = 0) (hll : l.length ≤ 140737488351232) (hc : l.length ≤ c) (hcm : c ≤ 9223372036854775807) (h8 : 8 ≤ l.length) (hf : f = 4 ∨ f = 6) (h6 : pr = 6) :
    Calls Try.prog 38 #[.int .i64 f, .int .i64 pr, .slice a l.length c] w fun e w' => e = .returned (.tuple #[.int .i64 (portsOf f pr l).1, .int .i64 (portsOf f pr l).2]) ∧ Below w.heap.size w w' := by
  obtain ⟨V, hV⟩ : ∃ V, portsOf f pr l = V := ⟨_, rfl⟩
  have HV : Hid (portsOf f pr l = V) := hV
  rw [hV]
  clear hV
  obtain ⟨p0, hp0⟩ : ∃ p, u16v l 0 = p := ⟨_, rfl⟩
  obtain ⟨p2, hp2⟩ : ∃ p, u16v l 2 = p := ⟨_, rfl⟩
  obtain ⟨p4, hp4⟩ : ∃ p, u16v l 4 = p := ⟨_, rfl⟩
  obtain ⟨q0, hq0⟩ : ∃ p, liesB l.length 0 2 = p := ⟨_, rfl⟩
  obtain ⟨q2, hq2⟩ : ∃ p, liesB l.length 2 2 = p := ⟨_, rfl⟩
  obtain ⟨q4, hq4⟩ : ∃ p, liesB l.length 4 2 = p := ⟨_, rfl⟩
  have K0 : Hid (∀ W, Row W a l → Calls Try.prog 60 #[.slice a l.length c, .int .i64 0] W fun e w' => e = .returned (.tuple #[.int .i64 p0, .bool q0]) ∧ Below W.heap.size W w') := fun W hW => by
    have := ru16_any a c l 0 W hW hnil hll hc hcm (by decide)
    rw [hp0, hq0] at this
    exact this
  have K2 : Hid (∀ W, Row W a l → Calls Try.prog 60 #[.slice a l.length c, .int .i64 2] W fun e w' => e = .returned (.tuple #[.int .i64 p2, .bool q2]) ∧ Below W.heap.size W w') := fun W hW => by
    have := ru16_any a c l 2 W hW hnil hll hc hcm (by decide)
    rw [hp2, hq2] at this
    exact this
  have K4 : Hid (∀ W, Row W a l → Calls Try.prog 60 #[.slice a l.length c, .int .i64 4] W fun e w' => e = .returned (.tuple #[.int .i64 p4, .bool q4]) ∧ Below W.heap.size W w') := fun W hW => by
    have := ru16_any a c l 4 W hW hnil hll hc hcm (by decide)
    rw [hp4, hq4] at this
    exact this
  have e : V = (p0, p2) := by rw [← HV.out, ← hp0, ← hp2]; unfold portsOf; rw [if_pos h6]
  subst e
  have h6' : (pr == 6) = true := by simpa using h6
  clear h6
  clear hp0 hp2 hp4 hq0 hq2 hq4 HV
  go_enter Try.func38, Try.ntmps38
  go_wp2_with fail
  refine Calls.mono (K0.out _ h) ?_
  rintro e W1 ⟨rfl, b1⟩
  have r1 := h.below b1
  clear K0
  go_wp2_with fail
  refine Calls.mono (K2.out _ r1) ?_
  rintro e W2 ⟨rfl, bb⟩
  have b2 := bel_tr b1 bb
  have r2 := r1.below bb
  clear K2 bb b1 r1
  go_wp2_with fail
  refine Calls.mono (K4.out _ r2) ?_
  rintro e W3 ⟨rfl, bb⟩
  have b3 := bel_tr b2 bb
  have r3 := r2.below bb
  clear K4 bb b2 r2
  go_wp2
  go_ret2
  exact ⟨rfl, b3⟩
set_option maxRecDepth 100000 in
set_option maxHeartbeats 4000000 in
theorem rports_17 (f pr : Int) (a : Option Addr) (c : Nat) (l : List Int) (w : World) (h : Row w a l) (hnil : a = none → c = 0) (hll : l.length ≤ 140737488351232) (hc : l.length ≤ c) (hcm : c ≤ 9223372036854775807) (h8 : 8 ≤ l.length) (hf : f = 4 ∨ f = 6) (h6 : ¬ pr = 6) (h17 : pr = 17) :
    Calls Try.prog 38 #[.int .i64 f, .int .i64 pr, .slice a l.length c] w fun e w' => e = .returned (.tuple #[.int .i64 (portsOf f pr l).1, .int .i64 (portsOf f pr l).2]) ∧ Below w.heap.size w w' := by
  obtain ⟨V, hV⟩ : ∃ V, portsOf f pr l = V := ⟨_, rfl⟩
  have HV : Hid (portsOf f pr l = V) := hV
  rw [hV]
  clear hV
  obtain ⟨p0, hp0⟩ : ∃ p, u16v l 0 = p := ⟨_, rfl⟩
  obtain ⟨p2, hp2⟩ : ∃ p, u16v l 2 = p := ⟨_, rfl⟩
  obtain ⟨p4, hp4⟩ : ∃ p, u16v l 4 = p := ⟨_, rfl⟩
  obtain ⟨q0, hq0⟩ : ∃ p, liesB l.length 0 2 = p := ⟨_, rfl⟩
  obtain ⟨q2, hq2⟩ : ∃ p, liesB l.length 2 2 = p := ⟨_, rfl⟩
  obtain ⟨q4, hq4⟩ : ∃ p, liesB l.length 4 2 = p := ⟨_, rfl⟩
  have K0 : Hid (∀ W, Row W a l → Calls Try.prog 60 #[.slice a l.length c, .int .i64 0] W fun e w' => e = .returned (.tuple #[.int .i64 p0, .bool q0]) ∧ Below W.heap.size W w') := fun W hW => by
    have := ru16_any a c l 0 W hW hnil hll hc hcm (by decide)
    rw [hp0, hq0] at this
    exact this
  have K2 : Hid (∀ W, Row W a l → Calls Try.prog 60 #[.slice a l.length c, .int .i64 2] W fun e w' => e = .returned (.tuple #[.int .i64 p2, .bool q2]) ∧ Below W.heap.size W w') := fun W hW => by
    have := ru16_any a c l 2 W hW hnil hll hc hcm (by decide)
    rw [hp2, hq2] at this
    exact this
  have K4 : Hid (∀ W, Row W a l → Calls Try.prog 60 #[.slice a l.length c, .int .i64 4] W fun e w' => e = .returned (.tuple #[.int .i64 p4, .bool q4]) ∧ Below W.heap.size W w') := fun W hW => by
    have := ru16_any a c l 4 W hW hnil hll hc hcm (by decide)
    rw [hp4, hq4] at this
    exact this
  have e : V = (p0, p2) := by rw [← HV.out, ← hp0, ← hp2]; unfold portsOf; rw [if_neg h6, if_pos h17]
  subst e
  have h6' : (pr == 6) = false := by simpa using h6
  have h17' : (pr == 17) = true := by simpa using h17
  clear h6 h17
  clear hp0 hp2 hp4 hq0 hq2 hq4 HV
  go_enter Try.func38, Try.ntmps38
  go_wp2_with fail
  refine Calls.mono (K0.out _ h) ?_
  rintro e W1 ⟨rfl, b1⟩
  have r1 := h.below b1
  clear K0
  go_wp2_with fail
  refine Calls.mono (K2.out _ r1) ?_
  rintro e W2 ⟨rfl, bb⟩
  have b2 := bel_tr b1 bb
  have r2 := r1.below bb
  clear K2 bb b1 r1
  go_wp2_with fail
  refine Calls.mono (K4.out _ r2) ?_
  rintro e W3 ⟨rfl, bb⟩
  have b3 := bel_tr b2 bb
  have r3 := r2.below bb
  clear K4 bb b2 r2
  go_wp2
  go_ret2
  exact ⟨rfl, b3⟩
set_option maxRecDepth 100000 in
set_option maxHeartbeats 4000000 in
theorem rports_n (f pr : Int) (a : Option Addr) (c : Nat) (l : List Int) (w : World) (h : Row w a l) (hnil : a = none → c = 0) (hll : l.length ≤ 140737488351232) (hc : l.length ≤ c) (hcm : c ≤ 9223372036854775807) (h8 : 8 ≤ l.length) (hf : f = 4 ∨ f = 6) (h6 : ¬ pr = 6) (h17 : ¬ pr = 17) (hi : ¬ pr = icmpOf f) :
    Calls Try.prog 38 #[.int .i64 f, .int .i64 pr, .slice a l.length c] w fun e w' => e = .returned (.tuple #[.int .i64 (portsOf f pr l).1, .int .i64 (portsOf f pr l).2]) ∧ Below w.heap.size w w' := by
  obtain ⟨V, hV⟩ : ∃ V, portsOf f pr l = V := ⟨_, rfl⟩
  have HV : Hid (portsOf f pr l = V) := hV
  rw [hV]
  clear hV
  obtain ⟨p0, hp0⟩ : ∃ p, u16v l 0 = p := ⟨_, rfl⟩
  obtain ⟨p2, hp2⟩ : ∃ p, u16v l 2 = p := ⟨_, rfl⟩
  obtain ⟨p4, hp4⟩ : ∃ p, u16v l 4 = p := ⟨_, rfl⟩
  obtain ⟨q0, hq0⟩ : ∃ p, liesB l.length 0 2 = p := ⟨_, rfl⟩
  obtain ⟨q2, hq2⟩ : ∃ p, liesB l.length 2 2 = p := ⟨_, rfl⟩
  obtain ⟨q4, hq4⟩ : ∃ p, liesB l.length 4 2 = p := ⟨_, rfl⟩
  have K0 : Hid (∀ W, Row W a l → Calls Try.prog 60 #[.slice a l.length c, .int .i64 0] W fun e w' => e = .returned (.tuple #[.int .i64 p0, .bool q0]) ∧ Below W.heap.size W w') := fun W hW => by
    have := ru16_any a c l 0 W hW hnil hll hc hcm (by decide)
    rw [hp0, hq0] at this
    exact this
  have K2 : Hid (∀ W, Row W a l → Calls Try.prog 60 #[.slice a l.length c, .int .i64 2] W fun e w' => e = .returned (.tuple #[.int .i64 p2, .bool q2]) ∧ Below W.heap.size W w') := fun W hW => by
    have := ru16_any a c l 2 W hW hnil hll hc hcm (by decide)
    rw [hp2, hq2] at this
    exact this
  have K4 : Hid (∀ W, Row W a l → Calls Try.prog 60 #[.slice a l.length c, .int .i64 4] W fun e w' => e = .returned (.tuple #[.int .i64 p4, .bool q4]) ∧ Below W.heap.size W w') := fun W hW => by
    have := ru16_any a c l 4 W hW hnil hll hc hcm (by decide)
    rw [hp4, hq4] at this
    exact this
  have h6' : (pr == 6) = false := by simpa using h6
  have h17' : (pr == 17) = false := by simpa using h17
  have KI : Hid (∀ W, Calls Try.prog 36 #[.int .i64 f] W _) := fun W => rIcmp_any f W
  have e : V = (0, 0) := by rw [← HV.out]; unfold portsOf; rw [if_neg h6, if_neg h17, if_neg hi]
  subst e
  have hi' : (pr == icmpOf f) = false := by simpa using hi
  generalize icmpOf f = I at *
  clear h6 h17 hi
  clear hp0 hp2 hp4 hq0 hq2 hq4 HV
  go_enter Try.func38, Try.ntmps38
  go_wp2_with fail
  refine Calls.mono (K0.out _ h) ?_
  rintro e W1 ⟨rfl, b1⟩
  have r1 := h.below b1
  clear K0
  go_wp2_with fail
  refine Calls.mono (K2.out _ r1) ?_
  rintro e W2 ⟨rfl, bb⟩
  have b2 := bel_tr b1 bb
  have r2 := r1.below bb
  clear K2 bb b1 r1
  go_wp2_with fail
  refine Calls.mono (K4.out _ r2) ?_
  rintro e W3 ⟨rfl, bb⟩
  have b3 := bel_tr b2 bb
  have r3 := r2.below bb
  clear K4 bb b2 r2
  go_wp2_with fail
  refine Calls.mono (KI.out _) ?_
  rintro e W4 ⟨rfl, hW4⟩
  rw [hW4]
  clear hW4 W4 KI
  go_wp2
  go_ret2
  exact ⟨rfl, b3⟩
set_option maxRecDepth 100000 in
set_option maxHeartbeats 4000000 in
theorem rports_ie (f pr : Int) (a : Option Addr) (c : Nat) (l : List Int) (w : World) (h : Row w a l) (hnil : a = none → c = 0) (hll : l.length ≤ 140737488351232) (hc : l.length ≤ c) (hcm : c ≤ 9223372036854775807) (h8 : 8 ≤ l.length) (hf : f = 4 ∨ f = 6) (h6 : ¬ pr = 6) (h17 : ¬ pr = 17) (hi : pr = icmpOf f) (he : isEcho f (l.getD 0 0) = true) :
    Calls Try.prog 38 #[.int .i64 f, .int .i64 pr, .slice a l.length c] w fun e w' => e = .returned (.tuple #[.int .i64 (portsOf f pr l).1, .int .i64 (portsOf f pr l).2]) ∧ Below w.heap.size w w' := by
  obtain ⟨V, hV⟩ : ∃ V, portsOf f pr l = V := ⟨_, rfl⟩
  have HV : Hid (portsOf f pr l = V) := hV
  rw [hV]
  clear hV
  obtain ⟨p0, hp0⟩ : ∃ p, u16v l 0 = p := ⟨_, rfl⟩
  obtain ⟨p2, hp2⟩ : ∃ p, u16v l 2 = p := ⟨_, rfl⟩
  obtain ⟨p4, hp4⟩ : ∃ p, u16v l 4 = p := ⟨_, rfl⟩
  obtain ⟨q0, hq0⟩ : ∃ p, liesB l.length 0 2 = p := ⟨_, rfl⟩
  obtain ⟨q2, hq2⟩ : ∃ p, liesB l.length 2 2 = p := ⟨_, rfl⟩
  obtain ⟨q4, hq4⟩ : ∃ p, liesB l.length 4 2 = p := ⟨_, rfl⟩
  have K0 : Hid (∀ W, Row W a l → Calls Try.prog 60 #[.slice a l.length c, .int .i64 0] W fun e w' => e = .returned (.tuple #[.int .i64 p0, .bool q0]) ∧ Below W.heap.size W w') := fun W hW => by
    have := ru16_any a c l 0 W hW hnil hll hc hcm (by decide)
    rw [hp0, hq0] at this
    exact this
  have K2 : Hid (∀ W, Row W a l → Calls Try.prog 60 #[.slice a l.length c, .int .i64 2] W fun e w' => e = .returned (.tuple #[.int .i64 p2, .bool q2]) ∧ Below W.heap.size W w') := fun W hW => by
    have := ru16_any a c l 2 W hW hnil hll hc hcm (by decide)
    rw [hp2, hq2] at this
    exact this
  have K4 : Hid (∀ W, Row W a l → Calls Try.prog 60 #[.slice a l.length c, .int .i64 4] W fun e w' => e = .returned (.tuple #[.int .i64 p4, .bool q4]) ∧ Below W.heap.size W w') := fun W hW => by
    have := ru16_any a c l 4 W hW hnil hll hc hcm (by decide)
    rw [hp4, hq4] at this
    exact this
  have h6' : (pr == 6) = false := by simpa using h6
  have h17' : (pr == 17) = false := by simpa using h17
  have KI : Hid (∀ W, Calls Try.prog 36 #[.int .i64 f] W _) := fun W => rIcmp_any f W
  have e : V = (p4, p4) := by rw [← HV.out, ← hp4]; unfold portsOf; rw [if_neg h6, if_neg h17, if_pos hi, if_pos he]
  subst e
  have hi' : (pr == icmpOf f) = true := by simpa using hi
  generalize icmpOf f = I at *
  obtain ⟨x0, e0⟩ : ∃ x, l.getD 0 0 = x := ⟨_, rfl⟩
  have z0 := h.bytes.get 0
  rw [e0] at z0 he
  obtain ⟨bk, off, rfl, hcl⟩ := h.cells (by omega)
  have u0 := hcl 0 (by omega)
  rw [e0, Nat.add_zero] at u0
  have wx0 : IntKind.i64.wrap x0 = x0 := wraps_i64 _ (by omega) (by omega)
  have i0 : (0 : Int) < (l.length : Int) := by omega
  have hne : ¬ l = [] := by intro e; rw [e] at h8; simp at h8
  have KE : Hid (∀ W, Calls Try.prog 45 #[.int .i64 f, .int .i64 x0] W fun e w' => e = .returned (.bool true) ∧ w' = W) := fun W => by
    have := rIsEcho_any f x0 W
    rw [echo_eq' hf, he] at this
    exact this
  clear h6 h17 hi he hcl e0 hf
  clear hp0 hp2 hp4 hq0 hq2 hq4 HV
  go_enter Try.func38, Try.ntmps38
  go_wp2_with fail
  refine Calls.mono (K0.out _ h) ?_
  rintro e W1 ⟨rfl, b1⟩
  have r1 := h.below b1
  clear K0
  go_wp2_with fail
  refine Calls.mono (K2.out _ r1) ?_
  rintro e W2 ⟨rfl, bb⟩
  have b2 := bel_tr b1 bb
  have r2 := r1.below bb
  clear K2 bb b1 r1
  go_wp2_with fail
  refine Calls.mono (K4.out _ r2) ?_
  rintro e W3 ⟨rfl, bb⟩
  have b3 := bel_tr b2 bb
  have r3 := r2.below bb
  clear K4 bb b2 r2
  have y0 := kept (b := bk) (o := off) b3 u0
  go_wp2_with fail
  refine Calls.mono (KI.out _) ?_
  rintro e W4 ⟨rfl, hW4⟩
  rw [hW4]
  clear hW4 W4 KI
  go_wp2_with fail
  refine Calls.mono (KE.out _) ?_
  rintro e W4 ⟨rfl, hW4⟩
  rw [hW4]
  clear hW4 W4 KE
  go_wp2
  go_ret2
  exact ⟨rfl, b3⟩
set_option maxRecDepth 100000 in
set_option maxHeartbeats 4000000 in
theorem rports_im (f pr : Int) (a : Option Addr) (c : Nat) (l : List Int) (w : World) (h : Row w a l) (hnil : a = none → c = 0) (hll : l.length ≤ 140737488351232) (hc : l.length ≤ c) (hcm : c ≤ 9223372036854775807) (h8 : 8 ≤ l.length) (hf : f = 4 ∨ f = 6) (h6 : ¬ pr = 6) (h17 : ¬ pr = 17) (hi : pr = icmpOf f) (he : isEcho f (l.getD 0 0) = false) :
    Calls Try.prog 38 #[.int .i64 f, .int .i64 pr, .slice a l.length c] w fun e w' => e = .returned (.tuple #[.int .i64 (portsOf f pr l).1, .int .i64 (portsOf f pr l).2]) ∧ Below w.heap.size w w' := by
  obtain ⟨V, hV⟩ : ∃ V, portsOf f pr l = V := ⟨_, rfl⟩
  have HV : Hid (portsOf f pr l = V) := hV
  rw [hV]
  clear hV
  obtain ⟨p0, hp0⟩ : ∃ p, u16v l 0 = p := ⟨_, rfl⟩
  obtain ⟨p2, hp2⟩ : ∃ p, u16v l 2 = p := ⟨_, rfl⟩
  obtain ⟨p4, hp4⟩ : ∃ p, u16v l 4 = p := ⟨_, rfl⟩
  obtain ⟨q0, hq0⟩ : ∃ p, liesB l.length 0 2 = p := ⟨_, rfl⟩
  obtain ⟨q2, hq2⟩ : ∃ p, liesB l.length 2 2 = p := ⟨_, rfl⟩
  obtain ⟨q4, hq4⟩ : ∃ p, liesB l.length 4 2 = p := ⟨_, rfl⟩
  have K0 : Hid (∀ W, Row W a l → Calls Try.prog 60 #[.slice a l.length c, .int .i64 0] W fun e w' => e = .returned (.tuple #[.int .i64 p0, .bool q0]) ∧ Below W.heap.size W w') := fun W hW => by
    have := ru16_any a c l 0 W hW hnil hll hc hcm (by decide)
    rw [hp0, hq0] at this
    exact this
  have K2 : Hid (∀ W, Row W a l → Calls Try.prog 60 #[.slice a l.length c, .int .i64 2] W fun e w' => e = .returned (.tuple #[.int .i64 p2, .bool q2]) ∧ Below W.heap.size W w') := fun W hW => by
    have := ru16_any a c l 2 W hW hnil hll hc hcm (by decide)
    rw [hp2, hq2] at this
    exact this
  have K4 : Hid (∀ W, Row W a l → Calls Try.prog 60 #[.slice a l.length c, .int .i64 4] W fun e w' => e = .returned (.tuple #[.int .i64 p4, .bool q4]) ∧ Below W.heap.size W w') := fun W hW => by
    have := ru16_any a c l 4 W hW hnil hll hc hcm (by decide)
    rw [hp4, hq4] at this
    exact this
  have h6' : (pr == 6) = false := by simpa using h6
  have h17' : (pr == 17) = false := by simpa using h17
  have KI : Hid (∀ W, Calls Try.prog 36 #[.int .i64 f] W _) := fun W => rIcmp_any f W
  have e : V = (0, 0) := by rw [← HV.out]; unfold portsOf; rw [if_neg h6, if_neg h17, if_pos hi, if_neg (by rw [he]; decide)]
  subst e
  have hi' : (pr == icmpOf f) = true := by simpa using hi
  generalize icmpOf f = I at *
  obtain ⟨x0, e0⟩ : ∃ x, l.getD 0 0 = x := ⟨_, rfl⟩
  have z0 := h.bytes.get 0
  rw [e0] at z0 he
  obtain ⟨bk, off, rfl, hcl⟩ := h.cells (by omega)
  have u0 := hcl 0 (by omega)
  rw [e0, Nat.add_zero] at u0
  have wx0 : IntKind.i64.wrap x0 = x0 := wraps_i64 _ (by omega) (by omega)
  have i0 : (0 : Int) < (l.length : Int) := by omega
  have hne : ¬ l = [] := by intro e; rw [e] at h8; simp at h8
  have KE : Hid (∀ W, Calls Try.prog 45 #[.int .i64 f, .int .i64 x0] W fun e w' => e = .returned (.bool false) ∧ w' = W) := fun W => by
    have := rIsEcho_any f x0 W
    rw [echo_eq' hf, he] at this
    exact this
  clear h6 h17 hi he hcl e0 hf
  clear hp0 hp2 hp4 hq0 hq2 hq4 HV
  go_enter Try.func38, Try.ntmps38
  go_wp2_with fail
  refine Calls.mono (K0.out _ h) ?_
  rintro e W1 ⟨rfl, b1⟩
  have r1 := h.below b1
  clear K0
  go_wp2_with fail
  refine Calls.mono (K2.out _ r1) ?_
  rintro e W2 ⟨rfl, bb⟩
  have b2 := bel_tr b1 bb
  have r2 := r1.below bb
  clear K2 bb b1 r1
  go_wp2_with fail
  refine Calls.mono (K4.out _ r2) ?_
  rintro e W3 ⟨rfl, bb⟩
  have b3 := bel_tr b2 bb
  have r3 := r2.below bb
  clear K4 bb b2 r2
  have y0 := kept (b := bk) (o := off) b3 u0
  go_wp2_with fail
  refine Calls.mono (KI.out _) ?_
  rintro e W4 ⟨rfl, hW4⟩
  rw [hW4]
  clear hW4 W4 KI
  go_wp2_with fail
  refine Calls.mono (KE.out _) ?_
  rintro e W4 ⟨rfl, hW4⟩
  rw [hW4]
  clear hW4 W4 KE
  go_wp2
  go_ret2
  exact ⟨rfl, b3⟩
theorem rports_any (f pr : Int) (a : Option Addr) (c : Nat) (l : List Int) (w : World) (h : Row w a l) (hnil : a = none → c = 0) (hll : l.length ≤ 140737488351232) (hc : l.length ≤ c) (hcm : c ≤ 9223372036854775807) (h8 : 8 ≤ l.length) (hf : f = 4 ∨ f = 6) :
    Calls Try.prog 38 #[.int .i64 f, .int .i64 pr, .slice a l.length c] w fun e w' => e = .returned (.tuple #[.int .i64 (portsOf f pr l).1, .int .i64 (portsOf f pr l).2]) ∧ Below w.heap.size w w' := by
  by_cases h6 : pr = 6
  · exact rports_6 f pr a c l w h hnil hll hc hcm h8 hf h6
  by_cases h17 : pr = 17
  · exact rports_17 f pr a c l w h hnil hll hc hcm h8 hf h6 h17
  by_cases hi : pr = icmpOf f
  · cases he : isEcho f (l.getD 0 0) with
    | true => exact rports_ie f pr a c l w h hnil hll hc hcm h8 hf h6 h17 hi he
    | false => exact rports_im f pr a c l w h hnil hll hc hcm h8 hf h6 h17 hi he
  · exact rports_n f pr a c l w h hnil hll hc hcm h8 hf h6 h17 hi
end Go.Proofs.Ytpjjkdgmfjhfiaa
