/- Texts joined: XpM -/
import Derived.Test.YtmflogmocgbmhaaXpa21
namespace Go.Proofs.Ytmflogmocgbmhaa
abbrev xpa22o0 : Oper := { dst := some 21, op := Op.binOp BinOp.leq 3 (.tmp 16) (.tmp 20) 3, type := 4, pos := "table.go:54", after := #[{ on := 5, ground := Ground.data }, { on := 9, ground := Ground.data }, { on := 3, ground := Ground.guard }], guard := some (3, false) }
abbrev xpa22o1 : Oper := { dst := some 5, op := Op.assign (.tmp 30), type := 3, pos := "table.go:57", after := #[{ on := 7, ground := Ground.data }, { on := 7, ground := Ground.chain }, { on := 0, ground := Ground.phase }, { on := 1, ground := Ground.phase }, { on := 2, ground := Ground.phase }, { on := 3, ground := Ground.phase }, { on := 4, ground := Ground.phase }, { on := 5, ground := Ground.phase }, { on := 6, ground := Ground.phase }, { on := 7, ground := Ground.phase }], guard := none }
abbrev xpa22o2 : Oper := { dst := some 22, op := Op.pick (.tmp 14) (.const (.bool true)) (.tmp 21), type := 4, pos := "table.go:54", after := #[{ on := 3, ground := Ground.data }, { on := 10, ground := Ground.data }], guard := none }
abbrev xpa22o3 : Oper := { dst := some 19, op := Op.fieldAddr 61 (.tmp 18) 3, type := 0, pos := "table.go:54", after := #[{ on := 7, ground := Ground.data }, { on := 3, ground := Ground.guard }], guard := some (3, false) }
abbrev xpa22o4 : Oper := { dst := some 16, op := Op.load 3 (.tmp 15), type := 3, pos := "table.go:54", after := #[{ on := 4, ground := Ground.data }, { on := 3, ground := Ground.guard }], guard := some (3, false) }
abbrev xpa22o5 : Oper := { dst := some 20, op := Op.load 3 (.tmp 19), type := 3, pos := "table.go:54", after := #[{ on := 8, ground := Ground.data }, { on := 3, ground := Ground.guard }], guard := some (3, false) }
abbrev xpa22o6 : Oper := { dst := some 30, op := Op.call { callee := Callee.value (.func 41), args := #[.tmp 26, .tmp 29], argTypes := #[39, 29] }, type := 3, pos := "table.go:57", after := #[{ on := 3, ground := Ground.data }, { on := 6, ground := Ground.data }, { on := 6, ground := Ground.chain }], guard := none }
abbrev xpa22o7 : Oper := { dst := some 18, op := Op.nilCheck (.tmp 17), type := 0, pos := "table.go:54", after := #[{ on := 6, ground := Ground.data }, { on := 3, ground := Ground.guard }], guard := some (3, false) }
abbrev xpa22o8 : Oper := { dst := some 10, op := Op.assign (.tmp 22), type := 4, pos := "table.go:54", after := #[{ on := 11, ground := Ground.data }, { on := 3, ground := Ground.chain }], guard := none }
abbrev xpa22o9 : Oper := { dst := some 15, op := Op.fieldAddr 28 (.tmp 3) 2, type := 0, pos := "table.go:54", after := #[{ on := 3, ground := Ground.guard }], guard := some (3, false) }
abbrev xpa22o10 : Oper := { dst := some 17, op := Op.move (.tmp 0), type := 35, pos := "table.go:54", after := #[{ on := 3, ground := Ground.guard }], guard := some (3, false) }
abbrev xpa22o11 : Oper := { dst := some 29, op := Op.call { callee := Callee.value (.func 44), args := #[.tmp 28], argTypes := #[26] }, type := 29, pos := "table.go:57", after := #[{ on := 5, ground := Ground.data }], guard := none }
abbrev xpa22o12 : Oper := { dst := some 12, op := Op.call { callee := Callee.value (.func 10), args := #[.tmp 11], argTypes := #[28] }, type := 4, pos := "table.go:54", after := #[{ on := 0, ground := Ground.data }], guard := none }
abbrev xpa22o13 : Oper := { dst := some 14, op := Op.move (.tmp 13), type := 4, pos := "table.go:54", after := #[{ on := 2, ground := Ground.data }, { on := 1, ground := Ground.chain }], guard := none }
abbrev xpa22o14 : Oper := { dst := some 26, op := Op.load 39 (.tmp 25), type := 39, pos := "table.go:57", after := #[{ on := 2, ground := Ground.data }], guard := none }
abbrev xpa22o15 : Oper := { dst := some 28, op := Op.load 26 (.tmp 27), type := 26, pos := "table.go:57", after := #[{ on := 4, ground := Ground.data }], guard := none }
abbrev xpa22o16 : Oper := { dst := some 13, op := Op.unOp UnOp.not 4 (.tmp 12), type := 4, pos := "table.go:54", after := #[{ on := 1, ground := Ground.data }], guard := none }
abbrev xpa22o17 : Oper := { dst := some 25, op := Op.fieldAddr 61 (.tmp 24) 4, type := 0, pos := "table.go:57", after := #[{ on := 1, ground := Ground.data }], guard := none }
abbrev xpa22o18 : Oper := { dst := some 24, op := Op.nilCheck (.tmp 23), type := 0, pos := "table.go:57", after := #[{ on := 0, ground := Ground.data }], guard := none }
abbrev xpa22o19 : Oper := { dst := some 11, op := Op.load 28 (.tmp 3), type := 28, pos := "table.go:54", after := #[], guard := none }
abbrev xpa22o20 : Oper := { dst := some 27, op := Op.fieldAddr 28 (.tmp 3) 0, type := 0, pos := "table.go:57", after := #[], guard := none }
abbrev xpa22o21 : Oper := { dst := some 23, op := Op.move (.tmp 0), type := 35, pos := "table.go:57", after := #[], guard := none }
end Go.Proofs.Ytmflogmocgbmhaa
namespace Go.Proofs.Ytmflogmocgbmhaa
open Go.RowKit
set_option linter.unusedVariables false
set_option linter.unusedSimpArgs false
def Xt.putA (s : Xt) (k : Nat) (q f : Wt) : Xt × Int := if q.m.eqB f.m then ({ s with L := s.L.set k f }, 0) else (s, 17)
theorem putatX (tb lb : Nat) (s : Xt) (c k : Nat) (q f : Wt) (w : World) (T : Blk w tb 61 (tabW s (some ⟨lb, 0, none⟩) c)) (O : OwnW w 0 (some ⟨lb, 0, none⟩) c s.L) (nTO : tb ≠ lb) (hq0 : s.L[k]? = some q) (hll : s.L.length ≤ 1000000) :
    Calls Try.prog 46 #[.pointer (some ⟨tb, 0, none⟩), .int .i64 (k : Int), .agg f.v] w fun e w' => e = .returned (.int .i64 (s.putA k q f).2) ∧ Blk w' tb 61 (tabW (s.putA k q f).1 (some ⟨lb, 0, none⟩) c) ∧ OwnW w' 0 (some ⟨lb, 0, none⟩) c (s.putA k q f).1.L ∧ But (fun k => k = lb) w w' := by
  refine (putat_xp tb lb s c k q f w T O nTO hq0 hll).mono ?_
  rintro e w' ⟨h1, h2, h3, h4⟩
  unfold Xt.putA
  split
  · rename_i h
    rw [if_pos h] at h1 h3
    refine ⟨h1, ?_, h3, h4⟩
    show Blk _ _ _ #[.bool true, .int .i64 s.most, .int .i64 s.quota, .int .i64 s.now, .slice (some ⟨lb, 0, none⟩) (s.L.set k f).length c]
    rw [List.length_set]
    exact h2
  · rename_i h
    rw [if_neg h] at h1 h3
    exact ⟨h1, h2, h3, h4⟩
theorem indexN_way (a : Option Addr) (c : Nat) (l : List Wt) (x : Wy) (g : Nat) (w : World) (hrow : RowW w a l) (hl : l.length ≤ 1000000) (hg : Blk w g 26 x.v) (hf : (l.findIdx? fun q => q.w.eqB x) = none) :
    Calls Try.prog 41 #[.slice a l.length c, .func (.func 55) #[] #[.pointer (some ⟨g, 0, none⟩)]] w fun e w' => e = .returned (.int .i64 (-1)) ∧ Below w.heap.size w w' := by
  have h := index_way a c l x g w hrow hl hg
  rw [hf] at h
  exact h
theorem indexS_way (a : Option Addr) (c : Nat) (l : List Wt) (x : Wy) (g : Nat) (k : Nat) (w : World) (hrow : RowW w a l) (hl : l.length ≤ 1000000) (hg : Blk w g 26 x.v) (hf : (l.findIdx? fun q => q.w.eqB x) = some k) :
    Calls Try.prog 41 #[.slice a l.length c, .func (.func 55) #[] #[.pointer (some ⟨g, 0, none⟩)]] w fun e w' => e = .returned (.int .i64 (k : Int)) ∧ Below w.heap.size w w' := by
  have h := index_way a c l x g w hrow hl hg
  rw [hf] at h
  exact h
theorem indexN_wts (a : Option Addr) (c : Nat) (l : List Wt) (x : Wy) (g : Nat) (w : World) (hrow : RowW w a l) (hl : l.length ≤ 1000000) (hg : Blk w g 26 x.v) (hf : (l.findIdx? fun q => q.waits x) = none) :
    Calls Try.prog 41 #[.slice a l.length c, .func (.func 42) #[] #[.pointer (some ⟨g, 0, none⟩)]] w fun e w' => e = .returned (.int .i64 (-1)) ∧ Below w.heap.size w w' := by
  have h := index_wts a c l x g w hrow hl hg
  rw [hf] at h
  exact h
theorem indexS_wts (a : Option Addr) (c : Nat) (l : List Wt) (x : Wy) (g : Nat) (k : Nat) (w : World) (hrow : RowW w a l) (hl : l.length ≤ 1000000) (hg : Blk w g 26 x.v) (hf : (l.findIdx? fun q => q.waits x) = some k) :
    Calls Try.prog 41 #[.slice a l.length c, .func (.func 42) #[] #[.pointer (some ⟨g, 0, none⟩)]] w fun e w' => e = .returned (.int .i64 (k : Int)) ∧ Below w.heap.size w w' := by
  have h := index_wts a c l x g w hrow hl hg
  rw [hf] at h
  exact h
set_option maxRecDepth 100000 in
set_option maxHeartbeats 16000000 in
theorem addS_xp (tb lb : Nat) (s : Xt) (c k : Nat) (q f : Wt) (w : World) (T : Blk w tb 61 (tabW s (some ⟨lb, 0, none⟩) c)) (O : OwnW w 0 (some ⟨lb, 0, none⟩) c s.L) (nTO : tb ≠ lb) (hq0 : s.L[k]? = some q) (hll : s.L.length ≤ 1000000) (hfi : ixW f.w s.L = some k) :
    Calls Try.prog 25 #[.pointer (some ⟨tb, 0, none⟩), .agg f.v] w fun e w' => e = .returned (.int .i64 (s.add f).2) ∧ Blk w' tb 61 (tabW (s.add f).1 (some ⟨lb, 0, none⟩) c) ∧ OwnW w' 0 (some ⟨lb, 0, none⟩) c (s.add f).1.L ∧ But (fun k => k = tb ∨ k = lb) w w' := by
  have HFI : Hid _ := hfi
  have HQ : Hid (s.L[k]? = some q) := hq0
  have hkl := (List.getElem?_eq_some_iff.1 hq0).1
  have ik0 : (0 : Int) ≤ (k : Int) := by omega
  have ik1 : (k : Int) < (s.L.length : Int) := by omega
  have ik2 : decide ((0 : Int) ≤ (k : Int)) = true := by simp
  have ik3 : decide ((k : Int) < 0) = false := by simp
  have nOT : ∀ y : Addr, some ⟨lb, 0, none⟩ = some y → y.block ≠ tb := fun y hy => by cases hy; exact fun e => nTO e.symm
  have hlb := O.lt_size _ rfl
  clear hq0 hfi
  obtain ⟨R, hR⟩ : ∃ R, s.add f = R := ⟨_, rfl⟩
  have HR : Hid (s.add f = R) := hR
  try rw [hR]
  clear hR
  have b := But.refl (fun k => k = tb ∨ k = lb) w
  go_enter Try.func25, Try.ntmps25
  obtain ⟨Wm1, hWm1⟩ : ∃ W, w.alloc (.cells f.v 28) = W := ⟨_, rfl⟩
  have bm1 := but_al b hWm1
  have Tm1 := T.al hWm1
  have Om1 := O.al hWm1
  have Am1 := blk_nw hWm1
  have gA : (fun k => k = tb ∨ k = lb) w.heap.size ∨ w.heap.size ≤ w.heap.size := .inr b.size
  have nTA : tb ≠ w.heap.size := by have := T.lt; omega
  have nAT : w.heap.size ≠ tb := fun e => nTA e.symm
  have nOA : ∀ y : Addr, some ⟨lb, 0, none⟩ = some y → y.block ≠ w.heap.size := fun y hy => by have := O.lt_size y hy; omega
  have nAO : w.heap.size ≠ lb := by have h9 : lb < _ := O.lt_size _ rfl; omega
  go_wp2_with fail
  refine Calls.mono (made_at_xp tb s _ c _ Tm1) ?_
  rintro e Wm2 ⟨rfl, bb⟩
  have Tm2 := Tm1.kept bb
  have Om2 := Om1.kept bb
  have Am2 := Am1.kept bb
  have bm2 := bm1.below bb
  clear bb
  clear Tm1 Om1 Am1 bm1
  go_wp2_with fail
  obtain ⟨Wdq3, hWdq3⟩ : ∃ W, Wm2.drew = W := ⟨_, rfl⟩
  have Tdq3 := hWdq3 ▸ Tm2.drew
  have Odq3 := hWdq3 ▸ Om2.drew
  have Adq3 := hWdq3 ▸ Am2.drew
  have bdq3 := hWdq3 ▸ bm2.drew
  refine wp_region_noPanic ?_
  refine wp_region_held_drew (S := fun w' => Blk w' tb 61 (tabW s (some ⟨lb, 0, none⟩) c) ∧ OwnW w' 0 (some ⟨lb, 0, none⟩) c s.L ∧ Blk w' w.heap.size 28 f.v) (by kernel_rfl) (by rw [hWdq3]; exact ⟨Tdq3, Odq3, Adq3⟩) (fun hHeld => ?_)
  rw [hWdq3] at hHeld ⊢
  refine qty (i := 0) (oi := xpa22o19) (v := (.agg f.v)) (yieldsIf_blk_w (by kernel_rfl) _ _ rfl w.heap.size (by rfl) _ (fun _ hSw => hSw.2.2) Try.underlying28 (by kernel_rfl)) hHeld ?_
  try simp only [qpu]
  refine wpAnyH_ready (rs := [1]) (by kernel_rfl) (by simp) ?_
  refine AllReadyH.cons (o := xpa22o12) rfl (fun K hK => ?_) AllReadyH.nil
  go_simp
  refine Calls.mono (right_xp f _) ?_
  rintro e Wx4 ⟨rfl, bb⟩
  have Tx4 := Tdq3.kept bb
  have Ox4 := Odq3.kept bb
  have Ax4 := Adq3.kept bb
  have bx4 := bdq3.below bb
  clear bb
  refine hK.out _ _ (by exact ⟨Tx4, Ox4, Ax4⟩) (fun hHeld => ?_)
  clear hK K
  try simp only [qpu]
  refine qtk (i := 2) (oi := xpa22o16) (v := (.bool (!(Wt.right f)))) hHeld ?_ ?_
  · intro w9 hSw
    try dsimp only at hSw
    go_simp
  try simp only [qpu]
  refine qtk (i := 3) (oi := xpa22o13) (v := (.bool (!(Wt.right f)))) hHeld ?_ ?_
  · intro w9 hSw
    try dsimp only at hSw
    go_simp
  try simp only [qpu]
  cases hq5 : (Wt.right f) with
  | false =>
    refine qtn (i := 4) (oi := xpa22o9) hHeld ?_
    try simp only [qpu]
    refine qtn (i := 5) (oi := xpa22o4) hHeld ?_
    try simp only [qpu]
    refine qtn (i := 6) (oi := xpa22o10) hHeld ?_
    try simp only [qpu]
    refine qtn (i := 7) (oi := xpa22o7) hHeld ?_
    try simp only [qpu]
    refine qtn (i := 8) (oi := xpa22o3) hHeld ?_
    try simp only [qpu]
    refine qtn (i := 9) (oi := xpa22o5) hHeld ?_
    try simp only [qpu]
    refine qtn (i := 10) (oi := xpa22o0) hHeld ?_
    try simp only [qpu]
    refine qtk (i := 11) (oi := xpa22o2) (v := (.bool true)) hHeld ?_ ?_
    · intro w9 hSw
      try dsimp only at hSw
      go_simp
    try simp only [qpu]
    refine qtk (i := 12) (oi := xpa22o8) (v := (.bool true)) hHeld ?_ ?_
    · intro w9 hSw
      try dsimp only at hSw
      go_simp
    try simp only [qpu]
    refine wpAnyH_done (by kernel_rfl) ?_ _
    refine NoPanic.normal ?_
    go_wp2_with fail
    have hR2 : R = (((s, 1) : Xt × Int)) := by rw [← HR.out]; unfold Xt.add; rw [hq5]; rfl
    subst hR2
    go_ret
    exact ⟨rfl, Tx4, Ox4, bx4⟩

  | true =>
    refine qtk (i := 4) (oi := xpa22o9) (v := (.pointer (some ⟨w.heap.size, 20, none⟩))) hHeld ?_ ?_
    · intro w9 hSw
      try dsimp only at hSw
      go_simp
    try simp only [qpu]
    refine qtk (i := 5) (oi := xpa22o4) (v := (.int .i64 f.ends)) hHeld ?_ ?_
    · intro w9 hSw
      try dsimp only at hSw
      have hcc := hSw.2.2.cell 20 (.int .i64 f.ends) rfl
      go_simp
    try simp only [qpu]
    refine qtk (i := 6) (oi := xpa22o10) (v := (.pointer (some ⟨tb, 0, none⟩))) hHeld ?_ ?_
    · intro w9 hSw
      try dsimp only at hSw
      go_simp
    try simp only [qpu]
    refine qtk (i := 7) (oi := xpa22o7) (v := (.pointer (some ⟨tb, 0, none⟩))) hHeld ?_ ?_
    · intro w9 hSw
      try dsimp only at hSw
      go_simp
    try simp only [qpu]
    refine qtk (i := 8) (oi := xpa22o3) (v := (.pointer (some ⟨tb, 3, none⟩))) hHeld ?_ ?_
    · intro w9 hSw
      try dsimp only at hSw
      go_simp
    try simp only [qpu]
    refine qtk (i := 9) (oi := xpa22o5) (v := (.int .i64 s.now)) hHeld ?_ ?_
    · intro w9 hSw
      try dsimp only at hSw
      have hcc := hSw.1.cell 3 (.int .i64 s.now) rfl
      go_simp
    try simp only [qpu]
    refine qtk (i := 10) (oi := xpa22o0) (v := (.bool (decide (f.ends ≤ s.now)))) hHeld ?_ ?_
    · intro w9 hSw
      try dsimp only at hSw
      go_simp
    try simp only [qpu]
    refine qtk (i := 11) (oi := xpa22o2) (v := (.bool (decide (f.ends ≤ s.now)))) hHeld ?_ ?_
    · intro w9 hSw
      try dsimp only at hSw
      go_simp
    try simp only [qpu]
    refine qtk (i := 12) (oi := xpa22o8) (v := (.bool (decide (f.ends ≤ s.now)))) hHeld ?_ ?_
    · intro w9 hSw
      try dsimp only at hSw
      go_simp
    try simp only [qpu]
    refine wpAnyH_done (by kernel_rfl) ?_ _
    refine NoPanic.normal ?_
    cases hq6 : (decide (f.ends ≤ s.now)) with
    | false =>
      go_wp2_with fail
      obtain ⟨Wdq7, hWdq7⟩ : ∃ W, Wx4.drew = W := ⟨_, rfl⟩
      have Tdq7 := hWdq7 ▸ Tx4.drew
      have Odq7 := hWdq7 ▸ Ox4.drew
      have Adq7 := hWdq7 ▸ Ax4.drew
      have bdq7 := hWdq7 ▸ bx4.drew
      refine wp_region_noPanic ?_
      refine wp_region_held_drew (S := fun w' => Blk w' tb 61 (tabW s (some ⟨lb, 0, none⟩) c) ∧ OwnW w' 0 (some ⟨lb, 0, none⟩) c s.L ∧ Blk w' w.heap.size 28 f.v) (by kernel_rfl) (by rw [hWdq7]; exact ⟨Tdq7, Odq7, Adq7⟩) (fun hHeld => ?_)
      rw [hWdq7] at hHeld ⊢
      refine qtk (i := 0) (oi := xpa22o21) (v := (.pointer (some ⟨tb, 0, none⟩))) hHeld ?_ ?_
      · intro w9 hSw
        try dsimp only at hSw
        go_simp
      try simp only [qpu]
      refine qtk (i := 1) (oi := xpa22o18) (v := (.pointer (some ⟨tb, 0, none⟩))) hHeld ?_ ?_
      · intro w9 hSw
        try dsimp only at hSw
        go_simp
      try simp only [qpu]
      refine qtk (i := 2) (oi := xpa22o17) (v := (.pointer (some ⟨tb, 4, none⟩))) hHeld ?_ ?_
      · intro w9 hSw
        try dsimp only at hSw
        go_simp
      try simp only [qpu]
      refine qtk (i := 3) (oi := xpa22o14) (v := (.slice (some ⟨lb, 0, none⟩) s.L.length c)) hHeld ?_ ?_
      · intro w9 hSw
        try dsimp only at hSw
        have hcc := hSw.1.cell 4 (.slice (some ⟨lb, 0, none⟩) s.L.length c) rfl
        go_simp
      try simp only [qpu]
      refine qtk (i := 4) (oi := xpa22o20) (v := (.pointer (some ⟨w.heap.size, 0, none⟩))) hHeld ?_ ?_
      · intro w9 hSw
        try dsimp only at hSw
        go_simp
      try simp only [qpu]
      refine qty (i := 5) (oi := xpa22o15) (v := (.agg f.w.v)) (yieldsIf_sub_w (by kernel_rfl) _ _ rfl w.heap.size 0 _ (by rfl) _ f.w.v (fun _ hSw => hSw.2.2) (by rfl) Try.underlying26 (by kernel_rfl)) hHeld ?_
      try simp only [qpu]
      refine wpAnyH_ready (rs := [6]) (by kernel_rfl) (by simp) ?_
      refine AllReadyH.cons (o := xpa22o11) rfl (fun K hK => ?_) AllReadyH.nil
      go_simp
      refine Calls.mono (ofway_xp f.w _) ?_
      rintro e Wx8 ⟨gf8, rfl, hgf8, Kx8, bb⟩
      have Tx8 := Tdq7.kept bb
      have Ox8 := Odq7.kept bb
      have Ax8 := Adq7.kept bb
      have bx8 := bdq7.below bb
      clear bb
      refine hK.out _ _ (by exact ⟨Tx8, Ox8, Ax8⟩) (fun hHeld => ?_)
      clear hK K
      try simp only [qpu]
      refine wpAnyH_ready (rs := [7]) (by kernel_rfl) (by simp) ?_
      refine AllReadyH.cons (o := xpa22o6) rfl (fun K hK => ?_) AllReadyH.nil
      go_simp
      refine Calls.mono (indexS_way (some ⟨lb, 0, none⟩) c s.L f.w gf8 k _ (Ox8.row fun _ _ => trivial) hll Kx8 HFI.out) ?_
      rintro e Wx9 ⟨rfl, bb⟩
      have Tx9 := Tx8.kept bb
      have Ox9 := Ox8.kept bb
      have Ax9 := Ax8.kept bb
      have Kx9 := Kx8.kept bb
      have bx9 := bx8.below bb
      clear bb
      refine hK.out _ _ (by exact ⟨Tx9, Ox9, Ax9⟩) (fun hHeld => ?_)
      clear hK K
      try simp only [qpu]
      refine qtk (i := 8) (oi := xpa22o1) (v := (.int .i64 (k : Int))) hHeld ?_ ?_
      · intro w9 hSw
        try dsimp only at hSw
        go_simp
      try simp only [qpu]
      refine wpAnyH_done (by kernel_rfl) ?_ _
      refine NoPanic.normal ?_
      go_wp2_with (refine wpList_load_blk_w (by rfl) _ _ rfl w.heap.size (by rfl) _ Ax9 Try.underlying28 (by kernel_rfl) ?_)
      refine Calls.mono (putatX tb lb s c k q f _ Tx9 Ox9 nTO HQ.out hll) ?_
      rintro e Wm10 ⟨rfl, Tm10, Om10, bb⟩
      have bm10 := bx9.trans bb (fun n _ e => .inr e)
      clear bb
      clear Tx9 Ox9 Ax9 bx9
      go_wp2_with fail
      have hR2 : R = ((s.putA k q f : Xt × Int)) := by rw [← HR.out]; unfold Xt.add; rw [hq5, hq6]; show s.put f = _; unfold Xt.put; rw [HFI.out]; show (if (s.L.getD k wt0).m.eqB f.m = true then _ else _) = _; rw [getD_at HQ.out]; rfl
      subst hR2
      go_ret
      exact ⟨rfl, Tm10, Om10, bm10⟩

    | true =>
      go_wp2_with fail
      have hR2 : R = (((s, 1) : Xt × Int)) := by rw [← HR.out]; unfold Xt.add; rw [hq5, hq6]; rfl
      subst hR2
      go_ret
      exact ⟨rfl, Tx4, Ox4, bx4⟩
set_option maxRecDepth 100000 in
set_option maxHeartbeats 16000000 in
theorem addN_xp (tb : Nat) (s : Xt) (a : Option Addr) (c : Nat) (f : Wt) (w : World) (T : Blk w tb 61 (tabW s a c)) (O : OwnW w 0 a c s.L) (nOT : ∀ y : Addr, a = some y → y.block ≠ tb) (hll : s.L.length ≤ 1000000) (hfi : ixW f.w s.L = none) :
    Calls Try.prog 25 #[.pointer (some ⟨tb, 0, none⟩), .agg f.v] w fun e w' => ∃ a' c', e = .returned (.int .i64 (s.add f).2) ∧ Blk w' tb 61 (tabW (s.add f).1 a' c') ∧ OwnW w' 0 a' c' (s.add f).1.L ∧ (∀ y : Addr, a' = some y → y.block ≠ tb ∧ (a.map (·.block) = some y.block ∨ w.heap.size ≤ y.block)) ∧ But (fun k => k = tb ∨ a.map (·.block) = some k) w w' := by
  have HFI : Hid _ := hfi
  clear hfi
  obtain ⟨R, hR⟩ : ∃ R, s.add f = R := ⟨_, rfl⟩
  have HR : Hid (s.add f = R) := hR
  try rw [hR]
  clear hR
  have b := But.refl (fun k => k = tb ∨ a.map (·.block) = some k) w
  go_enter Try.func25, Try.ntmps25
  obtain ⟨Wm1, hWm1⟩ : ∃ W, w.alloc (.cells f.v 28) = W := ⟨_, rfl⟩
  have bm1 := but_al b hWm1
  have Tm1 := T.al hWm1
  have Om1 := O.al hWm1
  have Am1 := blk_nw hWm1
  have gA : (fun k => k = tb ∨ a.map (·.block) = some k) w.heap.size ∨ w.heap.size ≤ w.heap.size := .inr b.size
  have nTA : tb ≠ w.heap.size := by have := T.lt; omega
  have nAT : w.heap.size ≠ tb := fun e => nTA e.symm
  have nOA : ∀ y : Addr, a = some y → y.block ≠ w.heap.size := fun y hy => by have := O.lt_size y hy; omega
  go_wp2_with fail
  refine Calls.mono (made_at_xp tb s a c _ Tm1) ?_
  rintro e Wm2 ⟨rfl, bb⟩
  have Tm2 := Tm1.kept bb
  have Om2 := Om1.kept bb
  have Am2 := Am1.kept bb
  have bm2 := bm1.below bb
  clear bb
  clear Tm1 Om1 Am1 bm1
  go_wp2_with fail
  obtain ⟨Wdq3, hWdq3⟩ : ∃ W, Wm2.drew = W := ⟨_, rfl⟩
  have Tdq3 := hWdq3 ▸ Tm2.drew
  have Odq3 := hWdq3 ▸ Om2.drew
  have Adq3 := hWdq3 ▸ Am2.drew
  have bdq3 := hWdq3 ▸ bm2.drew
  refine wp_region_noPanic ?_
  refine wp_region_held_drew (S := fun w' => Blk w' tb 61 (tabW s a c) ∧ OwnW w' 0 a c s.L ∧ Blk w' w.heap.size 28 f.v) (by kernel_rfl) (by rw [hWdq3]; exact ⟨Tdq3, Odq3, Adq3⟩) (fun hHeld => ?_)
  rw [hWdq3] at hHeld ⊢
  refine qty (i := 0) (oi := xpa22o19) (v := (.agg f.v)) (yieldsIf_blk_w (by kernel_rfl) _ _ rfl w.heap.size (by rfl) _ (fun _ hSw => hSw.2.2) Try.underlying28 (by kernel_rfl)) hHeld ?_
  try simp only [qpu]
  refine wpAnyH_ready (rs := [1]) (by kernel_rfl) (by simp) ?_
  refine AllReadyH.cons (o := xpa22o12) rfl (fun K hK => ?_) AllReadyH.nil
  go_simp
  refine Calls.mono (right_xp f _) ?_
  rintro e Wx4 ⟨rfl, bb⟩
  have Tx4 := Tdq3.kept bb
  have Ox4 := Odq3.kept bb
  have Ax4 := Adq3.kept bb
  have bx4 := bdq3.below bb
  clear bb
  refine hK.out _ _ (by exact ⟨Tx4, Ox4, Ax4⟩) (fun hHeld => ?_)
  clear hK K
  try simp only [qpu]
  refine qtk (i := 2) (oi := xpa22o16) (v := (.bool (!(Wt.right f)))) hHeld ?_ ?_
  · intro w9 hSw
    try dsimp only at hSw
    go_simp
  try simp only [qpu]
  refine qtk (i := 3) (oi := xpa22o13) (v := (.bool (!(Wt.right f)))) hHeld ?_ ?_
  · intro w9 hSw
    try dsimp only at hSw
    go_simp
  try simp only [qpu]
  cases hq5 : (Wt.right f) with
  | false =>
    refine qtn (i := 4) (oi := xpa22o9) hHeld ?_
    try simp only [qpu]
    refine qtn (i := 5) (oi := xpa22o4) hHeld ?_
    try simp only [qpu]
    refine qtn (i := 6) (oi := xpa22o10) hHeld ?_
    try simp only [qpu]
    refine qtn (i := 7) (oi := xpa22o7) hHeld ?_
    try simp only [qpu]
    refine qtn (i := 8) (oi := xpa22o3) hHeld ?_
    try simp only [qpu]
    refine qtn (i := 9) (oi := xpa22o5) hHeld ?_
    try simp only [qpu]
    refine qtn (i := 10) (oi := xpa22o0) hHeld ?_
    try simp only [qpu]
    refine qtk (i := 11) (oi := xpa22o2) (v := (.bool true)) hHeld ?_ ?_
    · intro w9 hSw
      try dsimp only at hSw
      go_simp
    try simp only [qpu]
    refine qtk (i := 12) (oi := xpa22o8) (v := (.bool true)) hHeld ?_ ?_
    · intro w9 hSw
      try dsimp only at hSw
      go_simp
    try simp only [qpu]
    refine wpAnyH_done (by kernel_rfl) ?_ _
    refine NoPanic.normal ?_
    go_wp2_with fail
    have hR2 : R = (((s, 1) : Xt × Int)) := by rw [← HR.out]; unfold Xt.add; rw [hq5]; rfl
    subst hR2
    go_ret
    exact ⟨a, c, rfl, Tx4, Ox4, (fun y hy => ⟨nOT y hy, .inl (by rw [hy]; rfl)⟩), bx4⟩

  | true =>
    refine qtk (i := 4) (oi := xpa22o9) (v := (.pointer (some ⟨w.heap.size, 20, none⟩))) hHeld ?_ ?_
    · intro w9 hSw
      try dsimp only at hSw
      go_simp
    try simp only [qpu]
    refine qtk (i := 5) (oi := xpa22o4) (v := (.int .i64 f.ends)) hHeld ?_ ?_
    · intro w9 hSw
      try dsimp only at hSw
      have hcc := hSw.2.2.cell 20 (.int .i64 f.ends) rfl
      go_simp
    try simp only [qpu]
    refine qtk (i := 6) (oi := xpa22o10) (v := (.pointer (some ⟨tb, 0, none⟩))) hHeld ?_ ?_
    · intro w9 hSw
      try dsimp only at hSw
      go_simp
    try simp only [qpu]
    refine qtk (i := 7) (oi := xpa22o7) (v := (.pointer (some ⟨tb, 0, none⟩))) hHeld ?_ ?_
    · intro w9 hSw
      try dsimp only at hSw
      go_simp
    try simp only [qpu]
    refine qtk (i := 8) (oi := xpa22o3) (v := (.pointer (some ⟨tb, 3, none⟩))) hHeld ?_ ?_
    · intro w9 hSw
      try dsimp only at hSw
      go_simp
    try simp only [qpu]
    refine qtk (i := 9) (oi := xpa22o5) (v := (.int .i64 s.now)) hHeld ?_ ?_
    · intro w9 hSw
      try dsimp only at hSw
      have hcc := hSw.1.cell 3 (.int .i64 s.now) rfl
      go_simp
    try simp only [qpu]
    refine qtk (i := 10) (oi := xpa22o0) (v := (.bool (decide (f.ends ≤ s.now)))) hHeld ?_ ?_
    · intro w9 hSw
      try dsimp only at hSw
      go_simp
    try simp only [qpu]
    refine qtk (i := 11) (oi := xpa22o2) (v := (.bool (decide (f.ends ≤ s.now)))) hHeld ?_ ?_
    · intro w9 hSw
      try dsimp only at hSw
      go_simp
    try simp only [qpu]
    refine qtk (i := 12) (oi := xpa22o8) (v := (.bool (decide (f.ends ≤ s.now)))) hHeld ?_ ?_
    · intro w9 hSw
      try dsimp only at hSw
      go_simp
    try simp only [qpu]
    refine wpAnyH_done (by kernel_rfl) ?_ _
    refine NoPanic.normal ?_
    cases hq6 : (decide (f.ends ≤ s.now)) with
    | false =>
      go_wp2_with fail
      obtain ⟨Wdq7, hWdq7⟩ : ∃ W, Wx4.drew = W := ⟨_, rfl⟩
      have Tdq7 := hWdq7 ▸ Tx4.drew
      have Odq7 := hWdq7 ▸ Ox4.drew
      have Adq7 := hWdq7 ▸ Ax4.drew
      have bdq7 := hWdq7 ▸ bx4.drew
      refine wp_region_noPanic ?_
      refine wp_region_held_drew (S := fun w' => Blk w' tb 61 (tabW s a c) ∧ OwnW w' 0 a c s.L ∧ Blk w' w.heap.size 28 f.v) (by kernel_rfl) (by rw [hWdq7]; exact ⟨Tdq7, Odq7, Adq7⟩) (fun hHeld => ?_)
      rw [hWdq7] at hHeld ⊢
      refine qtk (i := 0) (oi := xpa22o21) (v := (.pointer (some ⟨tb, 0, none⟩))) hHeld ?_ ?_
      · intro w9 hSw
        try dsimp only at hSw
        go_simp
      try simp only [qpu]
      refine qtk (i := 1) (oi := xpa22o18) (v := (.pointer (some ⟨tb, 0, none⟩))) hHeld ?_ ?_
      · intro w9 hSw
        try dsimp only at hSw
        go_simp
      try simp only [qpu]
      refine qtk (i := 2) (oi := xpa22o17) (v := (.pointer (some ⟨tb, 4, none⟩))) hHeld ?_ ?_
      · intro w9 hSw
        try dsimp only at hSw
        go_simp
      try simp only [qpu]
      refine qtk (i := 3) (oi := xpa22o14) (v := (.slice a s.L.length c)) hHeld ?_ ?_
      · intro w9 hSw
        try dsimp only at hSw
        have hcc := hSw.1.cell 4 (.slice a s.L.length c) rfl
        go_simp
      try simp only [qpu]
      refine qtk (i := 4) (oi := xpa22o20) (v := (.pointer (some ⟨w.heap.size, 0, none⟩))) hHeld ?_ ?_
      · intro w9 hSw
        try dsimp only at hSw
        go_simp
      try simp only [qpu]
      refine qty (i := 5) (oi := xpa22o15) (v := (.agg f.w.v)) (yieldsIf_sub_w (by kernel_rfl) _ _ rfl w.heap.size 0 _ (by rfl) _ f.w.v (fun _ hSw => hSw.2.2) (by rfl) Try.underlying26 (by kernel_rfl)) hHeld ?_
      try simp only [qpu]
      refine wpAnyH_ready (rs := [6]) (by kernel_rfl) (by simp) ?_
      refine AllReadyH.cons (o := xpa22o11) rfl (fun K hK => ?_) AllReadyH.nil
      go_simp
      refine Calls.mono (ofway_xp f.w _) ?_
      rintro e Wx8 ⟨gf8, rfl, hgf8, Kx8, bb⟩
      have Tx8 := Tdq7.kept bb
      have Ox8 := Odq7.kept bb
      have Ax8 := Adq7.kept bb
      have bx8 := bdq7.below bb
      clear bb
      refine hK.out _ _ (by exact ⟨Tx8, Ox8, Ax8⟩) (fun hHeld => ?_)
      clear hK K
      try simp only [qpu]
      refine wpAnyH_ready (rs := [7]) (by kernel_rfl) (by simp) ?_
      refine AllReadyH.cons (o := xpa22o6) rfl (fun K hK => ?_) AllReadyH.nil
      go_simp
      refine Calls.mono (indexN_way a c s.L f.w gf8 _ (Ox8.row fun _ _ => trivial) hll Kx8 HFI.out) ?_
      rintro e Wx9 ⟨rfl, bb⟩
      have Tx9 := Tx8.kept bb
      have Ox9 := Ox8.kept bb
      have Ax9 := Ax8.kept bb
      have Kx9 := Kx8.kept bb
      have bx9 := bx8.below bb
      clear bb
      refine hK.out _ _ (by exact ⟨Tx9, Ox9, Ax9⟩) (fun hHeld => ?_)
      clear hK K
      try simp only [qpu]
      refine qtk (i := 8) (oi := xpa22o1) (v := (.int .i64 (-1))) hHeld ?_ ?_
      · intro w9 hSw
        try dsimp only at hSw
        go_simp
      try simp only [qpu]
      refine wpAnyH_done (by kernel_rfl) ?_ _
      refine NoPanic.normal ?_
      go_wp2_with (refine wpList_load_blk_w (by rfl) _ _ rfl w.heap.size (by rfl) _ Ax9 Try.underlying28 (by kernel_rfl) ?_)
      refine Calls.mono (putb_xp tb s a c f _ Tx9 Ox9 nOT hll) ?_
      rintro e Wm10 ⟨aa, ca, rfl, Tm10, Om10, hy0, bb⟩
      have bm10 := bx9.trans bb (fun n _ e => e)
      have hy := fun y h => (hy0 y h).imp id (Or.imp id (Nat.le_trans bx9.size))
      clear bb hy0
      clear Tx9 Ox9 Ax9 bx9
      go_wp2_with fail
      have hR2 : R = ((s.putB f : Xt × Int)) := by rw [← HR.out]; unfold Xt.add; rw [hq5, hq6]; show s.put f = _; unfold Xt.put Xt.putB; rw [HFI.out]; simp only [decide_eq_true_eq]
      subst hR2
      go_ret
      exact ⟨aa, ca, rfl, Tm10, Om10, hy, bm10⟩

    | true =>
      go_wp2_with fail
      have hR2 : R = (((s, 1) : Xt × Int)) := by rw [← HR.out]; unfold Xt.add; rw [hq5, hq6]; rfl
      subst hR2
      go_ret
      exact ⟨a, c, rfl, Tx4, Ox4, (fun y hy => ⟨nOT y hy, .inl (by rw [hy]; rfl)⟩), bx4⟩
end Go.Proofs.Ytmflogmocgbmhaa
