/- Texts joined: XpO -/
import Derived.Test.YtmflogmocgbmhaaXpa23
namespace Go.Proofs.Ytmflogmocgbmhaa
abbrev xpa24o0 : Oper := { dst := some 18, op := Op.binOp BinOp.gtr 3 (.tmp 17) (.const (.int .i64 4611686018427387904)) 3, type := 4, pos := "table.go:122", after := #[{ on := 7, ground := Ground.data }, { on := 6, ground := Ground.guard }], guard := some (6, false) }
abbrev xpa24o1 : Oper := { dst := some 19, op := Op.pick (.tmp 16) (.const (.bool true)) (.tmp 18), type := 4, pos := "table.go:122", after := #[{ on := 6, ground := Ground.data }, { on := 8, ground := Ground.data }], guard := none }
abbrev xpa24o2 : Oper := { dst := some 9, op := Op.assign (.tmp 19), type := 4, pos := "table.go:122", after := #[{ on := 9, ground := Ground.data }, { on := 6, ground := Ground.chain }], guard := none }
abbrev xpa24o3 : Oper := { dst := some 17, op := Op.load 3 (.tmp 3), type := 3, pos := "table.go:122", after := #[{ on := 6, ground := Ground.guard }], guard := some (6, false) }
end Go.Proofs.Ytmflogmocgbmhaa
namespace Go.Proofs.Ytmflogmocgbmhaa
open Go.RowKit
set_option linter.unusedVariables false
set_option linter.unusedSimpArgs false
def capX (n : Int) : Bool := decide (0 ≤ n) && decide (n ≤ 256)
set_option maxRecDepth 100000 in
set_option maxHeartbeats 4000000 in
theorem cap_xp (n : Int) (w : World) :
    Calls Try.prog 35 #[.int .i64 n] w fun e w' => e = .returned (.bool (capX n)) ∧ Below w.heap.size w w' := by
  obtain ⟨R, hR⟩ : ∃ R, capX n = R := ⟨_, rfl⟩
  have HR : Hid (capX n = R) := hR
  try rw [hR]
  clear hR
  have b := Below.refl w.heap.size w
  go_enter Try.func35, Try.ntmps35
  cases hq1 : (decide (0 ≤ n)) with
  | false =>
    go_wp2_with fail
    go_ret
    exact ⟨retB_fw (by (try rw [← HR.out]) <;> first | rfl | (simp [capX, hq1]; done) | (simp [capX, hq1]; rfl)), b⟩

  | true =>
    go_wp2_with fail
    go_ret
    exact ⟨retB_fw (by (try rw [← HR.out]) <;> first | rfl | (simp [capX, hq1]; done) | (simp [capX, hq1]; rfl)), b⟩
set_option maxRecDepth 100000 in
set_option maxHeartbeats 8000000 in
theorem forget_xp (tb : Nat) (s : Xt) (a : Option Addr) (c : Nat) (m : Wy) (w : World) (T : Blk w tb 61 (tabW s a c)) (O : OwnW w 0 a c s.L) (nOT : ∀ y : Addr, a = some y → y.block ≠ tb) (hll : s.L.length ≤ 1000000) :
    Calls Try.prog 27 #[.pointer (some ⟨tb, 0, none⟩), .agg m.v] w fun e w' => e = .returned (.int .i64 (s.forget m).2) ∧ Blk w' tb 61 (tabW (s.forget m).1 a c) ∧ OwnW w' 0 a c (s.forget m).1.L ∧ But (fun k => k = tb ∨ a.map (·.block) = some k) w w' := by
  have hmf : ∀ (fn : Fn) (first cap : Array Value) (W : World), (Instr.makeFunc fn first cap).run Try.prog W = .ok (.func fn first cap) W := fun _ _ _ _ => rfl
  obtain ⟨R, hR⟩ : ∃ R, (7777 : Int) = R := ⟨_, rfl⟩
  have HR : Hid ((7777 : Int) = R) := hR
  try rw [hR]
  clear hR
  have b := But.refl (fun k => k = tb ∨ a.map (·.block) = some k) w
  go_enter Try.func27, Try.ntmps27
  obtain ⟨Wm1, hWm1⟩ : ∃ W, w.alloc (.cells m.v 26) = W := ⟨_, rfl⟩
  have bm1 := but_al b hWm1
  have Tm1 := T.al hWm1
  have Om1 := O.al hWm1
  have Am1 := blk_nw hWm1
  have gA : (fun k => k = tb ∨ a.map (·.block) = some k) w.heap.size ∨ w.heap.size ≤ w.heap.size := .inr b.size
  have nTA : tb ≠ w.heap.size := by have := T.lt; omega
  have nAT : w.heap.size ≠ tb := fun e => nTA e.symm
  have nOA : ∀ y : Addr, a = some y → y.block ≠ w.heap.size := fun y hy => by have := O.lt_size y hy; omega
  go_wp2_with fail
  refine Calls.mono (made_at_xp tb s a c _ Tm1) ?_
  rintro e Wm2 ⟨rfl, bb⟩
  have Tm2 := Tm1.kept bb
  have Om2 := Om1.kept bb
  have Am2 := Am1.kept bb
  have bm2 := bm1.below bb
  clear bb
  clear Tm1 Om1 Am1 bm1
  go_wp2_with (refine wpList_load_blk_w (by rfl) _ _ rfl w.heap.size (by rfl) _ Am2 Try.underlying26 (by kernel_rfl) ?_)
  refine Calls.mono (ofmas_xp m _) ?_
  rintro e Wm3 ⟨gf3, rfl, hgf3, Km3, bb⟩
  have Tm3 := Tm2.kept bb
  have Om3 := Om2.kept bb
  have Am3 := Am2.kept bb
  have bm3 := bm2.below bb
  clear bb
  have nTK : tb ≠ gf3 := by have := Tm2.lt; omega
  have nKT : gf3 ≠ tb := fun e => nTK e.symm
  have nAK : w.heap.size ≠ gf3 := by have := Am2.lt; omega
  have nKA : gf3 ≠ w.heap.size := fun e => nAK e.symm
  have nOK : ∀ y : Addr, a = some y → y.block ≠ gf3 := fun y hy => by have := Om2.lt_size y hy; omega
  clear Tm2 Om2 Am2 bm2
  go_wp2_with fail
  refine Calls.mono (cut_mas tb gf3 s a c m _ Tm3 Om3 nOT Km3 nOK nTK hll) ?_
  rintro e Wm4 ⟨rfl, Tm4, Om4, bb⟩
  have Am4 := Am3.but bb (fun e => e.elim (fun e => nAT e) (map_ne nOA))
  have bm4 := bm3.trans bb (fun n _ e => e)
  clear bb
  clear Tm3 Om3 Am3 Km3 bm3
  go_wp2_with fail
  go_ret
  exact ⟨rfl, Tm4, Om4, bm4⟩
set_option maxRecDepth 100000 in
set_option maxHeartbeats 8000000 in
theorem tick_xp (tb : Nat) (s : Xt) (a : Option Addr) (c : Nat) (now : Int) (w : World) (T : Blk w tb 61 (tabW s a c)) (O : OwnW w 0 a c s.L) (nOT : ∀ y : Addr, a = some y → y.block ≠ tb) (hll : s.L.length ≤ 1000000) :
    Calls Try.prog 24 #[.pointer (some ⟨tb, 0, none⟩), .int .i64 now] w fun e w' => e = .returned (.int .i64 (s.tick now).2) ∧ Blk w' tb 61 (tabW (s.tick now).1 a c) ∧ OwnW w' 0 a c (s.tick now).1.L ∧ But (fun k => k = tb ∨ a.map (·.block) = some k) w w' := by
  have hmf : ∀ (fn : Fn) (first cap : Array Value) (W : World), (Instr.makeFunc fn first cap).run Try.prog W = .ok (.func fn first cap) W := fun _ _ _ _ => rfl
  obtain ⟨R, hR⟩ : ∃ R, s.tick now = R := ⟨_, rfl⟩
  have HR : Hid (s.tick now = R) := hR
  try rw [hR]
  clear hR
  have b := But.refl (fun k => k = tb ∨ a.map (·.block) = some k) w
  go_enter Try.func24, Try.ntmps24
  obtain ⟨Wm1, hWm1⟩ : ∃ W, w.alloc (.cells #[.int .i64 now] 3) = W := ⟨_, rfl⟩
  have bm1 := but_al b hWm1
  have Tm1 := T.al hWm1
  have Om1 := O.al hWm1
  have Am1 := blk_nw hWm1
  have gA : (fun k => k = tb ∨ a.map (·.block) = some k) w.heap.size ∨ w.heap.size ≤ w.heap.size := .inr b.size
  have nTA : tb ≠ w.heap.size := by have := T.lt; omega
  have nAT : w.heap.size ≠ tb := fun e => nTA e.symm
  have nOA : ∀ y : Addr, a = some y → y.block ≠ w.heap.size := fun y hy => by have := O.lt_size y hy; omega
  go_wp2_with fail
  refine Calls.mono (made_at_xp tb s a c _ Tm1) ?_
  rintro e Wm2 ⟨rfl, bb⟩
  have Tm2 := Tm1.kept bb
  have Om2 := Om1.kept bb
  have Am2 := Am1.kept bb
  have bm2 := bm1.below bb
  clear bb
  clear Tm1 Om1 Am1 bm1
  go_wp2_with fail
  obtain ⟨Wdq3, hWdq3⟩ : ∃ W, Wm2.drew = W := ⟨_, rfl⟩
  have Tdq3 := hWdq3 ▸ Tm2.drew
  have Odq3 := hWdq3 ▸ Om2.drew
  have Adq3 := hWdq3 ▸ Am2.drew
  have bdq3 := hWdq3 ▸ bm2.drew
  refine wp_region_noPanic ?_
  refine wp_region_held_drew (S := fun w' => Blk w' tb 61 (tabW s a c) ∧ OwnW w' 0 a c s.L ∧ Blk w' w.heap.size 3 #[.int .i64 now]) (by kernel_rfl) (by rw [hWdq3]; exact ⟨Tdq3, Odq3, Adq3⟩) (fun hHeld => ?_)
  rw [hWdq3] at hHeld ⊢
  refine qtk (i := 0) (oi := { dst := some 10, op := Op.load 3 (.tmp 3), type := 3, pos := "table.go:122", after := #[], guard := none }) (v := (.int .i64 now)) hHeld ?_ ?_
  · intro w9 hSw
    try dsimp only at hSw
    have hcc := hSw.2.2.cell 0 (.int .i64 now) rfl
    go_simp
  try simp only [qpu]
  refine qtk (i := 1) (oi := { dst := some 11, op := Op.move (.tmp 0), type := 35, pos := "table.go:122", after := #[], guard := none }) (v := (.pointer (some ⟨tb, 0, none⟩))) hHeld ?_ ?_
  · intro w9 hSw
    try dsimp only at hSw
    go_simp
  try simp only [qpu]
  refine qtk (i := 2) (oi := { dst := some 12, op := Op.nilCheck (.tmp 11), type := 0, pos := "table.go:122", after := #[{ on := 1, ground := Ground.data }], guard := none }) (v := (.pointer (some ⟨tb, 0, none⟩))) hHeld ?_ ?_
  · intro w9 hSw
    try dsimp only at hSw
    go_simp
  try simp only [qpu]
  refine qtk (i := 3) (oi := { dst := some 13, op := Op.fieldAddr 61 (.tmp 12) 3, type := 0, pos := "table.go:122", after := #[{ on := 2, ground := Ground.data }], guard := none }) (v := (.pointer (some ⟨tb, 3, none⟩))) hHeld ?_ ?_
  · intro w9 hSw
    try dsimp only at hSw
    go_simp
  try simp only [qpu]
  refine qtk (i := 4) (oi := { dst := some 14, op := Op.load 3 (.tmp 13), type := 3, pos := "table.go:122", after := #[{ on := 3, ground := Ground.data }], guard := none }) (v := (.int .i64 s.now)) hHeld ?_ ?_
  · intro w9 hSw
    try dsimp only at hSw
    have hcc := hSw.1.cell 3 (.int .i64 s.now) rfl
    go_simp
  try simp only [qpu]
  refine qtk (i := 5) (oi := { dst := some 15, op := Op.binOp BinOp.lss 3 (.tmp 10) (.tmp 14) 3, type := 4, pos := "table.go:122", after := #[{ on := 0, ground := Ground.data }, { on := 4, ground := Ground.data }], guard := none }) (v := (.bool (decide (now < s.now)))) hHeld ?_ ?_
  · intro w9 hSw
    try dsimp only at hSw
    go_simp
  try simp only [qpu]
  refine qtk (i := 6) (oi := { dst := some 16, op := Op.move (.tmp 15), type := 4, pos := "table.go:122", after := #[{ on := 5, ground := Ground.data }], guard := none }) (v := (.bool (decide (now < s.now)))) hHeld ?_ ?_
  · intro w9 hSw
    try dsimp only at hSw
    go_simp
  try simp only [qpu]
  cases hq4 : (decide (now < s.now)) with
  | false =>
    refine qtk (i := 7) (oi := xpa24o3) (v := (.int .i64 now)) hHeld ?_ ?_
    · intro w9 hSw
      try dsimp only at hSw
      have hcc := hSw.2.2.cell 0 (.int .i64 now) rfl
      go_simp
    try simp only [qpu]
    refine qtk (i := 8) (oi := xpa24o0) (v := (.bool (decide (4611686018427387904 < now)))) hHeld ?_ ?_
    · intro w9 hSw
      try dsimp only at hSw
      go_simp
    try simp only [qpu]
    refine qtk (i := 9) (oi := xpa24o1) (v := (.bool (decide (4611686018427387904 < now)))) hHeld ?_ ?_
    · intro w9 hSw
      try dsimp only at hSw
      go_simp
    try simp only [qpu]
    refine qtk (i := 10) (oi := xpa24o2) (v := (.bool (decide (4611686018427387904 < now)))) hHeld ?_ ?_
    · intro w9 hSw
      try dsimp only at hSw
      go_simp
    try simp only [qpu]
    refine wpAnyH_done (by kernel_rfl) ?_ _
    refine NoPanic.normal ?_
    cases hq5 : (decide (4611686018427387904 < now)) with
    | false =>
      have c6 := Adq3.cell 0 (.int .i64 now) rfl
      have y8 := Tdq3.cell 3 (.int .i64 s.now) rfl
      have z9 := Tdq3.frozen 3
      obtain ⟨Wm7, hWm7⟩ : ∃ W, Wdq3.setCell ⟨tb, 3, none⟩ (.int .i64 now) = W := ⟨_, rfl⟩
      have Tm7 : Blk Wm7 tb 61 (tabW ⟨s.most, s.quota, now, s.L⟩ a c) := hWm7 ▸ Tdq3.put 3 (.int .i64 now)
      have Om7 := hWm7 ▸ Odq3.put_other Tdq3 nOT 3 (.int .i64 now)
      have Am7 := hWm7 ▸ Adq3.put_other Tdq3 nAT 3 (.int .i64 now)
      have bm7 := hWm7 ▸ bdq3.setCell tb 3 (.inl (.inl rfl)) (.int .i64 now)
      go_wp2_with fail
      clear c6 y8 z9
      refine Calls.mono (cut_end tb w.heap.size ⟨s.most, s.quota, now, s.L⟩ a c now _ Tm7 Om7 nOT Am7 nOA nTA hll) ?_
      rintro e Wm10 ⟨rfl, Tm10, Om10, bb⟩
      have bm10 := bm7.trans bb (fun n _ e => e)
      clear bb
      clear Tm7 Om7 Am7 bm7
      go_wp2_with fail
      have hR2 : R = (((⟨s.most, s.quota, now, s.L.filter fun q : Wt => !(decide (q.ends ≤ now))⟩, 0) : Xt × Int)) := by rw [← HR.out]; unfold Xt.tick; rw [hq4, hq5]; rfl
      subst hR2
      go_ret
      exact ⟨rfl, Tm10, Om10, bm10⟩

    | true =>
      go_wp2_with fail
      have hR2 : R = (((s, 25) : Xt × Int)) := by rw [← HR.out]; unfold Xt.tick; rw [hq4, hq5]; rfl
      subst hR2
      go_ret
      exact ⟨rfl, Tdq3, Odq3, bdq3⟩


  | true =>
    refine qtn (i := 7) (oi := xpa24o3) hHeld ?_
    try simp only [qpu]
    refine qtn (i := 8) (oi := xpa24o0) hHeld ?_
    try simp only [qpu]
    refine qtk (i := 9) (oi := xpa24o1) (v := (.bool true)) hHeld ?_ ?_
    · intro w9 hSw
      try dsimp only at hSw
      go_simp
    try simp only [qpu]
    refine qtk (i := 10) (oi := xpa24o2) (v := (.bool true)) hHeld ?_ ?_
    · intro w9 hSw
      try dsimp only at hSw
      go_simp
    try simp only [qpu]
    refine wpAnyH_done (by kernel_rfl) ?_ _
    refine NoPanic.normal ?_
    go_wp2_with fail
    have hR2 : R = (((s, 25) : Xt × Int)) := by rw [← HR.out]; unfold Xt.tick; rw [hq4]; rfl
    subst hR2
    go_ret
    exact ⟨rfl, Tdq3, Odq3, bdq3⟩
set_option maxRecDepth 100000 in
set_option maxHeartbeats 4000000 in
theorem all_xp (tb : Nat) (s : Xt) (a : Option Addr) (c : Nat) (w : World) (T : Blk w tb 61 (tabW s a c)) (O : OwnW w 0 a c s.L) (nOT : ∀ y : Addr, a = some y → y.block ≠ tb) (hll : s.L.length ≤ 1000000) :
    Calls Try.prog 19 #[.pointer (some ⟨tb, 0, none⟩)] w fun e w' => ∃ a' c', e = .returned (.slice a' s.L.length c') ∧ OwnW w' w.heap.size a' c' s.L ∧ Below w.heap.size w w' := by
  obtain ⟨R, hR⟩ : ∃ R, (7777 : Int) = R := ⟨_, rfl⟩
  have HR : Hid ((7777 : Int) = R) := hR
  try rw [hR]
  clear hR
  have b := Below.refl w.heap.size w
  go_enter Try.func19, Try.ntmps19
  go_wp2_with fail
  refine Calls.mono (made_at_xp tb s a c _ T) ?_
  rintro e Wm1 ⟨rfl, bb⟩
  have Tm1 := T.kept bb
  have Om1 := O.kept bb
  have bm1 := bel_tr b bb
  clear bb
  have c2 := Tm1.cell 4 (.slice a s.L.length c) rfl
  go_wp2_with fail
  clear c2
  have bN := bm1.size
  refine Calls.mono (clone_xp 0 a c s.L _ Om1 hll) ?_
  rintro e Wm3 ⟨aa, ca, rfl, Nm3, bb⟩
  have Tm3 := Tm1.kept bb
  have Om3 := Om1.kept bb
  have bm3 := bel_tr bm1 bb
  clear bb
  clear Tm1 Om1 bm1
  go_wp2_with fail
  go_ret
  exact ⟨aa, ca, rfl, Nm3.base bN, bm3⟩
set_option maxRecDepth 100000 in
set_option maxHeartbeats 4000000 in
theorem len_xp (tb : Nat) (s : Xt) (a : Option Addr) (c : Nat) (w : World) (T : Blk w tb 61 (tabW s a c)) :
    Calls Try.prog 20 #[.pointer (some ⟨tb, 0, none⟩)] w fun e w' => e = .returned (.int .i64 (s.L.length : Int)) ∧ Below w.heap.size w w' := by
  obtain ⟨R, hR⟩ : ∃ R, (s.L.length : Int) = R := ⟨_, rfl⟩
  have HR : Hid ((s.L.length : Int) = R) := hR
  try rw [hR]
  clear hR
  have b := Below.refl w.heap.size w
  go_enter Try.func20, Try.ntmps20
  go_wp2_with fail
  refine Calls.mono (made_at_xp tb s a c _ T) ?_
  rintro e Wm1 ⟨rfl, bb⟩
  have Tm1 := T.kept bb
  have bm1 := bel_tr b bb
  clear bb
  have c2 := Tm1.cell 4 (.slice a s.L.length c) rfl
  go_wp2_with fail
  go_ret
  exact ⟨retN_fw (by (try rw [← HR.out]) <;> first | rfl | (simp []; done) | (simp []; rfl)), bm1⟩
set_option maxRecDepth 100000 in
set_option maxHeartbeats 4000000 in
theorem now_xp (tb : Nat) (s : Xt) (a : Option Addr) (c : Nat) (w : World) (T : Blk w tb 61 (tabW s a c)) :
    Calls Try.prog 21 #[.pointer (some ⟨tb, 0, none⟩)] w fun e w' => e = .returned (.int .i64 s.now) ∧ Below w.heap.size w w' := by
  obtain ⟨R, hR⟩ : ∃ R, s.now = R := ⟨_, rfl⟩
  have HR : Hid (s.now = R) := hR
  try rw [hR]
  clear hR
  have b := Below.refl w.heap.size w
  go_enter Try.func21, Try.ntmps21
  go_wp2_with fail
  refine Calls.mono (made_at_xp tb s a c _ T) ?_
  rintro e Wm1 ⟨rfl, bb⟩
  have Tm1 := T.kept bb
  have bm1 := bel_tr b bb
  clear bb
  have c2 := Tm1.cell 3 (.int .i64 s.now) rfl
  go_wp2_with fail
  go_ret
  exact ⟨retN_fw (by (try rw [← HR.out]) <;> first | rfl | (simp []; done) | (simp []; rfl)), bm1⟩
set_option maxRecDepth 100000 in
set_option maxHeartbeats 4000000 in
theorem add_nil_xp (f : Wt) (w : World) :
    Calls Try.prog 25 #[.pointer none, .agg f.v] w fun e w' => e = .returned (.int .i64 13) ∧ Below w.heap.size w w' := by
  obtain ⟨R, hR⟩ : ∃ R, (7777 : Int) = R := ⟨_, rfl⟩
  have HR : Hid ((7777 : Int) = R) := hR
  try rw [hR]
  clear hR
  have b := Below.refl w.heap.size w
  go_enter Try.func25, Try.ntmps25
  obtain ⟨Wm1, hWm1⟩ : ∃ W, w.alloc (.cells f.v 28) = W := ⟨_, rfl⟩
  have bm1 := bel_al b hWm1
  have Am1 := blk_nw hWm1
  have gA : w.heap.size ≤ w.heap.size := b.size
  go_wp2_with fail
  refine Calls.mono (made_nil_xp _) ?_
  rintro e Wm2 ⟨rfl, bb⟩
  have Am2 := Am1.kept bb
  have bm2 := bel_tr bm1 bb
  clear bb
  clear Am1 bm1
  go_wp2_with fail
  go_ret
  exact ⟨rfl, bm2⟩
set_option maxRecDepth 100000 in
set_option maxHeartbeats 4000000 in
theorem add_un_xp (tb : Nat) (f : Wt) (w : World) (T : Blk w tb 61 #[.bool false, .int .i64 0, .int .i64 0, .int .i64 0, .slice none 0 0]) :
    Calls Try.prog 25 #[.pointer (some ⟨tb, 0, none⟩), .agg f.v] w fun e w' => e = .returned (.int .i64 13) ∧ Below w.heap.size w w' := by
  obtain ⟨R, hR⟩ : ∃ R, (7777 : Int) = R := ⟨_, rfl⟩
  have HR : Hid ((7777 : Int) = R) := hR
  try rw [hR]
  clear hR
  have b := Below.refl w.heap.size w
  go_enter Try.func25, Try.ntmps25
  obtain ⟨Wm1, hWm1⟩ : ∃ W, w.alloc (.cells f.v 28) = W := ⟨_, rfl⟩
  have bm1 := bel_al b hWm1
  have Tm1 := T.al hWm1
  have Am1 := blk_nw hWm1
  have gA : w.heap.size ≤ w.heap.size := b.size
  have nTA : tb ≠ w.heap.size := by have := T.lt; omega
  have nAT : w.heap.size ≠ tb := fun e => nTA e.symm
  go_wp2_with fail
  refine Calls.mono (made_un_xp tb _ Tm1) ?_
  rintro e Wm2 ⟨rfl, bb⟩
  have Tm2 := Tm1.kept bb
  have Am2 := Am1.kept bb
  have bm2 := bel_tr bm1 bb
  clear bb
  clear Tm1 Am1 bm1
  go_wp2_with fail
  go_ret
  exact ⟨rfl, bm2⟩
set_option maxRecDepth 100000 in
set_option maxHeartbeats 4000000 in
theorem forget_nil_xp (m : Wy) (w : World) :
    Calls Try.prog 27 #[.pointer none, .agg m.v] w fun e w' => e = .returned (.int .i64 0) ∧ Below w.heap.size w w' := by
  obtain ⟨R, hR⟩ : ∃ R, (7777 : Int) = R := ⟨_, rfl⟩
  have HR : Hid ((7777 : Int) = R) := hR
  try rw [hR]
  clear hR
  have b := Below.refl w.heap.size w
  go_enter Try.func27, Try.ntmps27
  obtain ⟨Wm1, hWm1⟩ : ∃ W, w.alloc (.cells m.v 26) = W := ⟨_, rfl⟩
  have bm1 := bel_al b hWm1
  have Am1 := blk_nw hWm1
  have gA : w.heap.size ≤ w.heap.size := b.size
  go_wp2_with fail
  refine Calls.mono (made_nil_xp _) ?_
  rintro e Wm2 ⟨rfl, bb⟩
  have Am2 := Am1.kept bb
  have bm2 := bel_tr bm1 bb
  clear bb
  clear Am1 bm1
  go_wp2_with fail
  go_ret
  exact ⟨rfl, bm2⟩
set_option maxRecDepth 100000 in
set_option maxHeartbeats 4000000 in
theorem forget_un_xp (tb : Nat) (m : Wy) (w : World) (T : Blk w tb 61 #[.bool false, .int .i64 0, .int .i64 0, .int .i64 0, .slice none 0 0]) :
    Calls Try.prog 27 #[.pointer (some ⟨tb, 0, none⟩), .agg m.v] w fun e w' => e = .returned (.int .i64 0) ∧ Below w.heap.size w w' := by
  obtain ⟨R, hR⟩ : ∃ R, (7777 : Int) = R := ⟨_, rfl⟩
  have HR : Hid ((7777 : Int) = R) := hR
  try rw [hR]
  clear hR
  have b := Below.refl w.heap.size w
  go_enter Try.func27, Try.ntmps27
  obtain ⟨Wm1, hWm1⟩ : ∃ W, w.alloc (.cells m.v 26) = W := ⟨_, rfl⟩
  have bm1 := bel_al b hWm1
  have Tm1 := T.al hWm1
  have Am1 := blk_nw hWm1
  have gA : w.heap.size ≤ w.heap.size := b.size
  have nTA : tb ≠ w.heap.size := by have := T.lt; omega
  have nAT : w.heap.size ≠ tb := fun e => nTA e.symm
  go_wp2_with fail
  refine Calls.mono (made_un_xp tb _ Tm1) ?_
  rintro e Wm2 ⟨rfl, bb⟩
  have Tm2 := Tm1.kept bb
  have Am2 := Am1.kept bb
  have bm2 := bel_tr bm1 bb
  clear bb
  clear Tm1 Am1 bm1
  go_wp2_with fail
  go_ret
  exact ⟨rfl, bm2⟩
set_option maxRecDepth 100000 in
set_option maxHeartbeats 4000000 in
theorem tick_nil_xp (now : Int) (w : World) :
    Calls Try.prog 24 #[.pointer none, .int .i64 now] w fun e w' => e = .returned (.int .i64 13) ∧ Below w.heap.size w w' := by
  obtain ⟨R, hR⟩ : ∃ R, (7777 : Int) = R := ⟨_, rfl⟩
  have HR : Hid ((7777 : Int) = R) := hR
  try rw [hR]
  clear hR
  have b := Below.refl w.heap.size w
  go_enter Try.func24, Try.ntmps24
  obtain ⟨Wm1, hWm1⟩ : ∃ W, w.alloc (.cells #[.int .i64 now] 3) = W := ⟨_, rfl⟩
  have bm1 := bel_al b hWm1
  have Am1 := blk_nw hWm1
  have gA : w.heap.size ≤ w.heap.size := b.size
  go_wp2_with fail
  refine Calls.mono (made_nil_xp _) ?_
  rintro e Wm2 ⟨rfl, bb⟩
  have Am2 := Am1.kept bb
  have bm2 := bel_tr bm1 bb
  clear bb
  clear Am1 bm1
  go_wp2_with fail
  go_ret
  exact ⟨rfl, bm2⟩
set_option maxRecDepth 100000 in
set_option maxHeartbeats 4000000 in
theorem tick_un_xp (tb : Nat) (now : Int) (w : World) (T : Blk w tb 61 #[.bool false, .int .i64 0, .int .i64 0, .int .i64 0, .slice none 0 0]) :
    Calls Try.prog 24 #[.pointer (some ⟨tb, 0, none⟩), .int .i64 now] w fun e w' => e = .returned (.int .i64 13) ∧ Below w.heap.size w w' := by
  obtain ⟨R, hR⟩ : ∃ R, (7777 : Int) = R := ⟨_, rfl⟩
  have HR : Hid ((7777 : Int) = R) := hR
  try rw [hR]
  clear hR
  have b := Below.refl w.heap.size w
  go_enter Try.func24, Try.ntmps24
  obtain ⟨Wm1, hWm1⟩ : ∃ W, w.alloc (.cells #[.int .i64 now] 3) = W := ⟨_, rfl⟩
  have bm1 := bel_al b hWm1
  have Tm1 := T.al hWm1
  have Am1 := blk_nw hWm1
  have gA : w.heap.size ≤ w.heap.size := b.size
  have nTA : tb ≠ w.heap.size := by have := T.lt; omega
  have nAT : w.heap.size ≠ tb := fun e => nTA e.symm
  go_wp2_with fail
  refine Calls.mono (made_un_xp tb _ Tm1) ?_
  rintro e Wm2 ⟨rfl, bb⟩
  have Tm2 := Tm1.kept bb
  have Am2 := Am1.kept bb
  have bm2 := bel_tr bm1 bb
  clear bb
  clear Tm1 Am1 bm1
  go_wp2_with fail
  go_ret
  exact ⟨rfl, bm2⟩
set_option maxRecDepth 100000 in
set_option maxHeartbeats 4000000 in
theorem all_nil_xp (w : World) :
    Calls Try.prog 19 #[.pointer none] w fun e w' => e = .returned (.slice none 0 0) ∧ Below w.heap.size w w' := by
  obtain ⟨R, hR⟩ : ∃ R, (7777 : Int) = R := ⟨_, rfl⟩
  have HR : Hid ((7777 : Int) = R) := hR
  try rw [hR]
  clear hR
  have b := Below.refl w.heap.size w
  go_enter Try.func19, Try.ntmps19
  go_wp2_with fail
  refine Calls.mono (made_nil_xp _) ?_
  rintro e Wm1 ⟨rfl, bb⟩
  have bm1 := bel_tr b bb
  clear bb
  go_wp2_with fail
  go_ret
  exact ⟨rfl, bm1⟩
set_option maxRecDepth 100000 in
set_option maxHeartbeats 4000000 in
theorem all_un_xp (tb : Nat)  (w : World) (T : Blk w tb 61 #[.bool false, .int .i64 0, .int .i64 0, .int .i64 0, .slice none 0 0]) :
    Calls Try.prog 19 #[.pointer (some ⟨tb, 0, none⟩)] w fun e w' => e = .returned (.slice none 0 0) ∧ Below w.heap.size w w' := by
  obtain ⟨R, hR⟩ : ∃ R, (7777 : Int) = R := ⟨_, rfl⟩
  have HR : Hid ((7777 : Int) = R) := hR
  try rw [hR]
  clear hR
  have b := Below.refl w.heap.size w
  go_enter Try.func19, Try.ntmps19
  go_wp2_with fail
  refine Calls.mono (made_un_xp tb _ T) ?_
  rintro e Wm1 ⟨rfl, bb⟩
  have Tm1 := T.kept bb
  have bm1 := bel_tr b bb
  clear bb
  go_wp2_with fail
  go_ret
  exact ⟨rfl, bm1⟩
set_option maxRecDepth 100000 in
set_option maxHeartbeats 4000000 in
theorem len_nil_xp (w : World) :
    Calls Try.prog 20 #[.pointer none] w fun e w' => e = .returned (.int .i64 0) ∧ Below w.heap.size w w' := by
  obtain ⟨R, hR⟩ : ∃ R, (7777 : Int) = R := ⟨_, rfl⟩
  have HR : Hid ((7777 : Int) = R) := hR
  try rw [hR]
  clear hR
  have b := Below.refl w.heap.size w
  go_enter Try.func20, Try.ntmps20
  go_wp2_with fail
  refine Calls.mono (made_nil_xp _) ?_
  rintro e Wm1 ⟨rfl, bb⟩
  have bm1 := bel_tr b bb
  clear bb
  go_wp2_with fail
  go_ret
  exact ⟨rfl, bm1⟩
set_option maxRecDepth 100000 in
set_option maxHeartbeats 4000000 in
theorem len_un_xp (tb : Nat)  (w : World) (T : Blk w tb 61 #[.bool false, .int .i64 0, .int .i64 0, .int .i64 0, .slice none 0 0]) :
    Calls Try.prog 20 #[.pointer (some ⟨tb, 0, none⟩)] w fun e w' => e = .returned (.int .i64 0) ∧ Below w.heap.size w w' := by
  obtain ⟨R, hR⟩ : ∃ R, (7777 : Int) = R := ⟨_, rfl⟩
  have HR : Hid ((7777 : Int) = R) := hR
  try rw [hR]
  clear hR
  have b := Below.refl w.heap.size w
  go_enter Try.func20, Try.ntmps20
  go_wp2_with fail
  refine Calls.mono (made_un_xp tb _ T) ?_
  rintro e Wm1 ⟨rfl, bb⟩
  have Tm1 := T.kept bb
  have bm1 := bel_tr b bb
  clear bb
  go_wp2_with fail
  go_ret
  exact ⟨rfl, bm1⟩
set_option maxRecDepth 100000 in
set_option maxHeartbeats 4000000 in
theorem now_nil_xp (w : World) :
    Calls Try.prog 21 #[.pointer none] w fun e w' => e = .returned (.int .i64 0) ∧ Below w.heap.size w w' := by
  obtain ⟨R, hR⟩ : ∃ R, (7777 : Int) = R := ⟨_, rfl⟩
  have HR : Hid ((7777 : Int) = R) := hR
  try rw [hR]
  clear hR
  have b := Below.refl w.heap.size w
  go_enter Try.func21, Try.ntmps21
  go_wp2_with fail
  refine Calls.mono (made_nil_xp _) ?_
  rintro e Wm1 ⟨rfl, bb⟩
  have bm1 := bel_tr b bb
  clear bb
  go_wp2_with fail
  go_ret
  exact ⟨rfl, bm1⟩
set_option maxRecDepth 100000 in
set_option maxHeartbeats 4000000 in
theorem now_un_xp (tb : Nat)  (w : World) (T : Blk w tb 61 #[.bool false, .int .i64 0, .int .i64 0, .int .i64 0, .slice none 0 0]) :
    Calls Try.prog 21 #[.pointer (some ⟨tb, 0, none⟩)] w fun e w' => e = .returned (.int .i64 0) ∧ Below w.heap.size w w' := by
  obtain ⟨R, hR⟩ : ∃ R, (7777 : Int) = R := ⟨_, rfl⟩
  have HR : Hid ((7777 : Int) = R) := hR
  try rw [hR]
  clear hR
  have b := Below.refl w.heap.size w
  go_enter Try.func21, Try.ntmps21
  go_wp2_with fail
  refine Calls.mono (made_un_xp tb _ T) ?_
  rintro e Wm1 ⟨rfl, bb⟩
  have Tm1 := T.kept bb
  have bm1 := bel_tr b bb
  clear bb
  go_wp2_with fail
  go_ret
  exact ⟨rfl, bm1⟩
set_option maxRecDepth 100000 in
set_option maxHeartbeats 4000000 in
theorem take_nil_xp (x : Wy) (w : World) :
    Calls Try.prog 22 #[.pointer none, .agg x.v] w fun e w' => e = .returned (.tuple #[.agg wt0.v, .bool false]) ∧ Below w.heap.size w w' := by
  obtain ⟨R, hR⟩ : ∃ R, (7777 : Int) = R := ⟨_, rfl⟩
  have HR : Hid ((7777 : Int) = R) := hR
  try rw [hR]
  clear hR
  have b := Below.refl w.heap.size w
  go_enter Try.func22, Try.ntmps22
  obtain ⟨Wm1, hWm1⟩ : ∃ W, w.alloc (.cells x.v 26) = W := ⟨_, rfl⟩
  have bm1 := bel_al b hWm1
  have Am1 := blk_nw hWm1
  have gA : w.heap.size ≤ w.heap.size := b.size
  obtain ⟨Wm2, hWm2⟩ : ∃ W, Wm1.alloc (.cells #[.int .i64 0, .int .i64 0, .int .i64 0, .int .u64 0, .int .u64 0, .int .i64 0, .int .u64 0, .int .u64 0, .int .i64 0, .int .i64 0, .int .i64 0, .int .i64 0, .int .i64 0, .int .u64 0, .int .u64 0, .int .i64 0, .int .u64 0, .int .u64 0, .int .i64 0, .int .i64 0, .int .i64 0, .int .i64 0] 28) = W := ⟨_, rfl⟩
  have bm2 := bel_al bm1 hWm2
  have Am2 := Am1.al hWm2
  have Bm2 := blk_nw hWm2
  have gB : w.heap.size ≤ Wm1.heap.size := bm1.size
  have nAB : w.heap.size ≠ Wm1.heap.size := by have := Am1.lt; omega
  have nBA : Wm1.heap.size ≠ w.heap.size := fun e => nAB e.symm
  go_wp2_with fail
  refine Calls.mono (made_nil_xp _) ?_
  rintro e Wm3 ⟨rfl, bb⟩
  have Am3 := Am2.kept bb
  have Bm3 := Bm2.kept bb
  have bm3 := bel_tr bm2 bb
  clear bb
  clear Am2 Bm2 bm2
  obtain ⟨Wm4, hWm4⟩ : ∃ W, Wm3.setRow Wm1.heap.size wt0.v = W := ⟨_, rfl⟩
  have Bm4 : Blk Wm4 Wm1.heap.size 28 wt0.v := hWm4 ▸ Bm3.set wt0.v
  have Am4 := hWm4 ▸ Am3.other nAB wt0.v
  have bm4 := hWm4 ▸ below_setRow bm3 gB wt0.v
  go_wp2_with (refine wpList_store_row rfl _ _ _ rfl Wm1.heap.size wt0.v (by rfl) (by rfl) _ _ Bm3 (by kernel_rfl) (by rfl) (by kernel_rfl) ?_; rw [hWm4])
  exact ret_cell_tmp (k := 4) (j := 5) Try.f22 (by kernel_rfl) Bm4 Try.underlying28 (by kernel_rfl) (by rfl) (by rfl) rfl ⟨rfl, bm4⟩
set_option maxRecDepth 100000 in
set_option maxHeartbeats 4000000 in
theorem take_un_xp (tb : Nat) (x : Wy) (w : World) (T : Blk w tb 61 #[.bool false, .int .i64 0, .int .i64 0, .int .i64 0, .slice none 0 0]) :
    Calls Try.prog 22 #[.pointer (some ⟨tb, 0, none⟩), .agg x.v] w fun e w' => e = .returned (.tuple #[.agg wt0.v, .bool false]) ∧ Below w.heap.size w w' := by
  obtain ⟨R, hR⟩ : ∃ R, (7777 : Int) = R := ⟨_, rfl⟩
  have HR : Hid ((7777 : Int) = R) := hR
  try rw [hR]
  clear hR
  have b := Below.refl w.heap.size w
  go_enter Try.func22, Try.ntmps22
  obtain ⟨Wm1, hWm1⟩ : ∃ W, w.alloc (.cells x.v 26) = W := ⟨_, rfl⟩
  have bm1 := bel_al b hWm1
  have Tm1 := T.al hWm1
  have Am1 := blk_nw hWm1
  have gA : w.heap.size ≤ w.heap.size := b.size
  have nTA : tb ≠ w.heap.size := by have := T.lt; omega
  have nAT : w.heap.size ≠ tb := fun e => nTA e.symm
  obtain ⟨Wm2, hWm2⟩ : ∃ W, Wm1.alloc (.cells #[.int .i64 0, .int .i64 0, .int .i64 0, .int .u64 0, .int .u64 0, .int .i64 0, .int .u64 0, .int .u64 0, .int .i64 0, .int .i64 0, .int .i64 0, .int .i64 0, .int .i64 0, .int .u64 0, .int .u64 0, .int .i64 0, .int .u64 0, .int .u64 0, .int .i64 0, .int .i64 0, .int .i64 0, .int .i64 0] 28) = W := ⟨_, rfl⟩
  have bm2 := bel_al bm1 hWm2
  have Tm2 := Tm1.al hWm2
  have Am2 := Am1.al hWm2
  have Bm2 := blk_nw hWm2
  have gB : w.heap.size ≤ Wm1.heap.size := bm1.size
  have nTB : tb ≠ Wm1.heap.size := by have := Tm1.lt; omega
  have nBT : Wm1.heap.size ≠ tb := fun e => nTB e.symm
  have nAB : w.heap.size ≠ Wm1.heap.size := by have := Am1.lt; omega
  have nBA : Wm1.heap.size ≠ w.heap.size := fun e => nAB e.symm
  go_wp2_with fail
  refine Calls.mono (made_un_xp tb _ Tm2) ?_
  rintro e Wm3 ⟨rfl, bb⟩
  have Tm3 := Tm2.kept bb
  have Am3 := Am2.kept bb
  have Bm3 := Bm2.kept bb
  have bm3 := bel_tr bm2 bb
  clear bb
  clear Tm2 Am2 Bm2 bm2
  obtain ⟨Wm4, hWm4⟩ : ∃ W, Wm3.setRow Wm1.heap.size wt0.v = W := ⟨_, rfl⟩
  have Bm4 : Blk Wm4 Wm1.heap.size 28 wt0.v := hWm4 ▸ Bm3.set wt0.v
  have Tm4 := hWm4 ▸ Tm3.other nTB wt0.v
  have Am4 := hWm4 ▸ Am3.other nAB wt0.v
  have bm4 := hWm4 ▸ below_setRow bm3 gB wt0.v
  go_wp2_with (refine wpList_store_row rfl _ _ _ rfl Wm1.heap.size wt0.v (by rfl) (by rfl) _ _ Bm3 (by kernel_rfl) (by rfl) (by kernel_rfl) ?_; rw [hWm4])
  exact ret_cell_tmp (k := 4) (j := 5) Try.f22 (by kernel_rfl) Bm4 Try.underlying28 (by kernel_rfl) (by rfl) (by rfl) rfl ⟨rfl, bm4⟩
set_option maxRecDepth 100000 in
set_option maxHeartbeats 4000000 in
theorem newY_xp (m q : Int) (w : World) (hm : capX m = true) (hq : capX q = true) :
    Calls Try.prog 15 #[.int .i64 m, .int .i64 q] w fun e w' => ∃ tb, e = .returned (.tuple #[.pointer (some ⟨tb, 0, none⟩), .int .i64 0]) ∧ Blk w' tb 61 (tabW ⟨m, q, 0, []⟩ none 0) ∧ w.heap.size ≤ tb ∧ Below w.heap.size w w' := by
  have hbu : ∀ W, (Instr.build 61 #[(0, .bool true), (1, .int .i64 m), (2, .int .i64 q)]).run Try.prog W = .ok (.agg #[.bool true, .int .i64 m, .int .i64 q, .int .i64 0, .slice none 0 0]) W := fun W => by kernel_rfl
  obtain ⟨R, hR⟩ : ∃ R, (7777 : Int) = R := ⟨_, rfl⟩
  have HR : Hid ((7777 : Int) = R) := hR
  try rw [hR]
  clear hR
  have b := Below.refl w.heap.size w
  go_enter Try.func15, Try.ntmps15
  go_wp2_with fail
  refine Calls.mono (cap_xp m _) ?_
  rintro e Wm1 ⟨rfl, bb⟩
  have bm1 := bel_tr b bb
  clear bb
  go_wp2_with fail
  refine Calls.mono (cap_xp q _) ?_
  rintro e Wm2 ⟨rfl, bb⟩
  have bm2 := bel_tr bm1 bb
  clear bb
  clear  bm1
  obtain ⟨Wm3, hWm3⟩ : ∃ W, Wm2.alloc (.cells #[.bool true, .int .i64 m, .int .i64 q, .int .i64 0, .slice none 0 0] 61) = W := ⟨_, rfl⟩
  have bm3 := bel_al bm2 hWm3
  have Am3 := blk_nw hWm3
  have gA : w.heap.size ≤ Wm2.heap.size := bm2.size
  go_wp2_with fail
  go_ret2
  exact ⟨Wm2.heap.size, rfl, Am3, gA, bm3⟩
set_option maxRecDepth 100000 in
set_option maxHeartbeats 4000000 in
theorem newN_xp (m q : Int) (w : World) (hc : ¬ (capX m = true ∧ capX q = true)) :
    Calls Try.prog 15 #[.int .i64 m, .int .i64 q] w fun e w' => e = .returned (.tuple #[.pointer none, .int .i64 1]) ∧ Below w.heap.size w w' := by
  obtain ⟨R, hR⟩ : ∃ R, (7777 : Int) = R := ⟨_, rfl⟩
  have HR : Hid ((7777 : Int) = R) := hR
  try rw [hR]
  clear hR
  have b := Below.refl w.heap.size w
  go_enter Try.func15, Try.ntmps15
  go_wp2_with fail
  refine Calls.mono (cap_xp m _) ?_
  rintro e Wm1 ⟨rfl, bb⟩
  have bm1 := bel_tr b bb
  clear bb
  cases hq2 : (capX m) with
  | false =>
    go_wp2_with fail
    go_ret2
    exact ⟨rfl, bm1⟩

  | true =>
    go_wp2_with fail
    refine Calls.mono (cap_xp q _) ?_
    rintro e Wm3 ⟨rfl, bb⟩
    have bm3 := bel_tr bm1 bb
    clear bb
    clear  bm1
    cases hq4 : (capX q) with
    | false =>
      go_wp2_with fail
      go_ret2
      exact ⟨rfl, bm3⟩

    | true =>
      obtain ⟨Wm5, hWm5⟩ : ∃ W, Wm3.alloc (.cells #[.bool true, .int .i64 m, .int .i64 q, .int .i64 0, .slice none 0 0] 61) = W := ⟨_, rfl⟩
      have bm5 := bel_al bm3 hWm5
      have Am5 := blk_nw hWm5
      have gA : w.heap.size ≤ Wm3.heap.size := bm3.size
      go_wp2_with fail
      exact absurd ⟨by assumption, by assumption⟩ hc
end Go.Proofs.Ytmflogmocgbmhaa
