/- Texts joined: XpL -/
import Derived.Test.YtmflogmocgbmhaaXpa20
namespace Go.Proofs.Ytmflogmocgbmhaa
abbrev xpa21o0 : Oper := { dst := none, op := Op.store 39 (.tmp 36) (.tmp 34), type := 0, pos := "table.go:80", after := #[{ on := 9, ground := Ground.data }, { on := 7, ground := Ground.data }, { on := 7, ground := Ground.chain }, { on := 0, ground := Ground.phase }, { on := 1, ground := Ground.phase }, { on := 2, ground := Ground.phase }, { on := 3, ground := Ground.phase }, { on := 4, ground := Ground.phase }, { on := 5, ground := Ground.phase }, { on := 6, ground := Ground.phase }, { on := 7, ground := Ground.phase }], guard := none }
abbrev xpa21o1 : Oper := { dst := some 36, op := Op.fieldAddr 61 (.tmp 35) 4, type := 0, pos := "table.go:80", after := #[{ on := 8, ground := Ground.data }, { on := 0, ground := Ground.phase }, { on := 1, ground := Ground.phase }, { on := 2, ground := Ground.phase }, { on := 3, ground := Ground.phase }, { on := 4, ground := Ground.phase }, { on := 5, ground := Ground.phase }, { on := 6, ground := Ground.phase }, { on := 7, ground := Ground.phase }], guard := none }
abbrev xpa21o2 : Oper := { dst := some 35, op := Op.nilCheck (.tmp 27), type := 0, pos := "table.go:80", after := #[{ on := 0, ground := Ground.data }, { on := 0, ground := Ground.phase }, { on := 1, ground := Ground.phase }, { on := 2, ground := Ground.phase }, { on := 3, ground := Ground.phase }, { on := 4, ground := Ground.phase }, { on := 5, ground := Ground.phase }, { on := 6, ground := Ground.phase }, { on := 7, ground := Ground.phase }], guard := none }
abbrev xpa21o3 : Oper := { dst := some 34, op := Op.call { callee := Callee.builtin Builtin.append, args := #[.tmp 31, .tmp 33], argTypes := #[39, 39] }, type := 39, pos := "table.go:80", after := #[{ on := 4, ground := Ground.data }, { on := 6, ground := Ground.data }], guard := none }
abbrev xpa21o5 : Oper := { dst := some 33, op := Op.buildSlice 39 1 #[(0, .tmp 32)], type := 39, pos := "table.go:80", after := #[{ on := 5, ground := Ground.data }], guard := none }
abbrev xpa21o6 : Oper := { dst := some 31, op := Op.load 39 (.tmp 30), type := 39, pos := "table.go:80", after := #[{ on := 3, ground := Ground.data }], guard := none }
end Go.Proofs.Ytmflogmocgbmhaa
namespace Go.Proofs.Ytmflogmocgbmhaa
open Go.RowKit
set_option linter.unusedVariables false
set_option linter.unusedSimpArgs false
/-- A want of a new way. -/
def Xt.putB (s : Xt) (f : Wt) : Xt × Int := if decide (s.quota ≤ (cntW f.m s.L : Int)) then (s, 17) else if decide (s.most ≤ (s.L.length : Int)) then (s, 12) else ({ s with L := s.L ++ [f] }, 0)
set_option maxRecDepth 100000 in
set_option maxHeartbeats 16000000 in
theorem putb_xp (tb : Nat) (s : Xt) (a : Option Addr) (c : Nat) (f : Wt) (w : World) (T : Blk w tb 61 (tabW s a c)) (O : OwnW w 0 a c s.L) (nOT : ∀ y : Addr, a = some y → y.block ≠ tb) (hll : s.L.length ≤ 1000000) :
    Calls Try.prog 47 #[.pointer (some ⟨tb, 0, none⟩), .agg f.v] w fun e w' => ∃ a' c', e = .returned (.int .i64 (s.putB f).2) ∧ Blk w' tb 61 (tabW (s.putB f).1 a' c') ∧ OwnW w' 0 a' c' (s.putB f).1.L ∧ (∀ y : Addr, a' = some y → y.block ≠ tb ∧ (a.map (·.block) = some y.block ∨ w.heap.size ≤ y.block)) ∧ But (fun k => k = tb ∨ a.map (·.block) = some k) w w' := by
  obtain ⟨R, hR⟩ : ∃ R, s.putB f = R := ⟨_, rfl⟩
  have HR : Hid (s.putB f = R) := hR
  try rw [hR]
  clear hR
  have b := But.refl (fun k => k = tb ∨ a.map (·.block) = some k) w
  go_enter Try.func47, Try.ntmps47
  obtain ⟨Wm1, hWm1⟩ : ∃ W, w.alloc (.cells f.v 28) = W := ⟨_, rfl⟩
  have bm1 := but_al b hWm1
  have Tm1 := T.al hWm1
  have Om1 := O.al hWm1
  have Am1 := blk_nw hWm1
  have gA : (fun k => k = tb ∨ a.map (·.block) = some k) w.heap.size ∨ w.heap.size ≤ w.heap.size := .inr b.size
  have nTA : tb ≠ w.heap.size := by have := T.lt; omega
  have nAT : w.heap.size ≠ tb := fun e => nTA e.symm
  have nOA : ∀ y : Addr, a = some y → y.block ≠ w.heap.size := fun y hy => by have := O.lt_size y hy; omega
  go_wp2_with fail
  obtain ⟨Wdq2, hWdq2⟩ : ∃ W, Wm1.drew = W := ⟨_, rfl⟩
  have Tdq2 := hWdq2 ▸ Tm1.drew
  have Odq2 := hWdq2 ▸ Om1.drew
  have Adq2 := hWdq2 ▸ Am1.drew
  have bdq2 := hWdq2 ▸ bm1.drew
  refine wp_region_noPanic ?_
  refine wp_region_held_drew (S := fun w' => Blk w' tb 61 (tabW s a c) ∧ OwnW w' 0 a c s.L ∧ Blk w' w.heap.size 28 f.v) (by kernel_rfl) (by rw [hWdq2]; exact ⟨Tdq2, Odq2, Adq2⟩) (fun hHeld => ?_)
  rw [hWdq2] at hHeld ⊢
  refine qtk (i := 0) (oi := { dst := some 6, op := Op.move (.tmp 0), type := 35, pos := "table.go:75", after := #[], guard := none }) (v := (.pointer (some ⟨tb, 0, none⟩))) hHeld ?_ ?_
  · intro w9 hSw
    try dsimp only at hSw
    go_simp
  try simp only [qpu]
  refine qtk (i := 1) (oi := { dst := some 7, op := Op.fieldAddr 28 (.tmp 3) 1, type := 0, pos := "table.go:75", after := #[], guard := none }) (v := (.pointer (some ⟨w.heap.size, 10, none⟩))) hHeld ?_ ?_
  · intro w9 hSw
    try dsimp only at hSw
    go_simp
  try simp only [qpu]
  refine qty (i := 2) (oi := { dst := some 8, op := Op.load 26 (.tmp 7), type := 26, pos := "table.go:75", after := #[{ on := 1, ground := Ground.data }], guard := none }) (v := (.agg f.m.v)) (yieldsIf_sub_w (by kernel_rfl) _ _ rfl w.heap.size 10 _ (by rfl) _ f.m.v (fun _ hSw => hSw.2.2) (by rfl) Try.underlying26 (by kernel_rfl)) hHeld ?_
  try simp only [qpu]
  refine qtk (i := 5) (oi := { dst := some 11, op := Op.move (.tmp 0), type := 35, pos := "table.go:75", after := #[], guard := none }) (v := (.pointer (some ⟨tb, 0, none⟩))) hHeld ?_ ?_
  · intro w9 hSw
    try dsimp only at hSw
    go_simp
  try simp only [qpu]
  refine qtk (i := 6) (oi := { dst := some 12, op := Op.nilCheck (.tmp 11), type := 0, pos := "table.go:75", after := #[{ on := 5, ground := Ground.data }], guard := none }) (v := (.pointer (some ⟨tb, 0, none⟩))) hHeld ?_ ?_
  · intro w9 hSw
    try dsimp only at hSw
    go_simp
  try simp only [qpu]
  refine qtk (i := 7) (oi := { dst := some 13, op := Op.fieldAddr 61 (.tmp 12) 2, type := 0, pos := "table.go:75", after := #[{ on := 6, ground := Ground.data }], guard := none }) (v := (.pointer (some ⟨tb, 2, none⟩))) hHeld ?_ ?_
  · intro w9 hSw
    try dsimp only at hSw
    go_simp
  try simp only [qpu]
  refine qtk (i := 8) (oi := { dst := some 14, op := Op.load 3 (.tmp 13), type := 3, pos := "table.go:75", after := #[{ on := 7, ground := Ground.data }], guard := none }) (v := (.int .i64 s.quota)) hHeld ?_ ?_
  · intro w9 hSw
    try dsimp only at hSw
    have hcc := hSw.1.cell 2 (.int .i64 s.quota) rfl
    go_simp
  try simp only [qpu]
  refine wpAnyH_ready (rs := [3]) (by kernel_rfl) (by simp) ?_
  refine AllReadyH.cons (o := { dst := some 9, op := Op.call { callee := Callee.value (.func 48), args := #[.tmp 8], argTypes := #[26] }, type := 29, pos := "table.go:75", after := #[{ on := 2, ground := Ground.data }], guard := none }) rfl (fun K hK => ?_) AllReadyH.nil
  go_simp
  refine Calls.mono (ofmas_xp f.m _) ?_
  rintro e Wx3 ⟨gf3, rfl, hgf3, Kx3, bb⟩
  have Tx3 := Tdq2.kept bb
  have Ox3 := Odq2.kept bb
  have Ax3 := Adq2.kept bb
  have bx3 := bdq2.below bb
  clear bb
  refine hK.out _ _ (by exact ⟨Tx3, Ox3, Ax3⟩) (fun hHeld => ?_)
  clear hK K
  try simp only [qpu]
  refine wpAnyH_ready (rs := [4]) (by kernel_rfl) (by simp) ?_
  refine AllReadyH.cons (o := { dst := some 10, op := Op.call { callee := Callee.value (.func 56), args := #[.tmp 6, .tmp 9], argTypes := #[35, 29] }, type := 3, pos := "table.go:75", after := #[{ on := 0, ground := Ground.data }, { on := 3, ground := Ground.data }, { on := 3, ground := Ground.chain }], guard := none }) rfl (fun K hK => ?_) AllReadyH.nil
  go_simp
  refine Calls.mono (count_mas tb gf3 s a c f.m _ Tx3 Ox3 Kx3 hll) ?_
  rintro e Wx4 ⟨rfl, bb⟩
  have Tx4 := Tx3.kept bb
  have Ox4 := Ox3.kept bb
  have Ax4 := Ax3.kept bb
  have Kx4 := Kx3.kept bb
  have bx4 := bx3.below bb
  clear bb
  refine hK.out _ _ (by exact ⟨Tx4, Ox4, Ax4⟩) (fun hHeld => ?_)
  clear hK K
  try simp only [qpu]
  refine qtk (i := 9) (oi := { dst := some 15, op := Op.binOp BinOp.geq 3 (.tmp 10) (.tmp 14) 3, type := 4, pos := "table.go:75", after := #[{ on := 4, ground := Ground.data }, { on := 8, ground := Ground.data }], guard := none }) (v := (.bool (decide (s.quota ≤ (cntW f.m s.L : Int))))) hHeld ?_ ?_
  · intro w9 hSw
    try dsimp only at hSw
    go_simp
  try simp only [qpu]
  refine qtk (i := 10) (oi := { dst := some 5, op := Op.assign (.tmp 15), type := 4, pos := "table.go:75", after := #[{ on := 9, ground := Ground.data }, { on := 4, ground := Ground.chain }], guard := none }) (v := (.bool (decide (s.quota ≤ (cntW f.m s.L : Int))))) hHeld ?_ ?_
  · intro w9 hSw
    try dsimp only at hSw
    go_simp
  try simp only [qpu]
  refine wpAnyH_done (by kernel_rfl) ?_ _
  refine NoPanic.normal ?_
  cases hq5 : (decide (s.quota ≤ (cntW f.m s.L : Int))) with
  | false =>
    go_wp2_with fail
    obtain ⟨Wdq6, hWdq6⟩ : ∃ W, Wx4.drew = W := ⟨_, rfl⟩
    have Tdq6 := hWdq6 ▸ Tx4.drew
    have Odq6 := hWdq6 ▸ Ox4.drew
    have Adq6 := hWdq6 ▸ Ax4.drew
    have bdq6 := hWdq6 ▸ bx4.drew
    refine wp_region_noPanic ?_
    refine wp_region_held_drew (S := fun w' => Blk w' tb 61 (tabW s a c) ∧ OwnW w' 0 a c s.L ∧ Blk w' w.heap.size 28 f.v) (by kernel_rfl) (by rw [hWdq6]; exact ⟨Tdq6, Odq6, Adq6⟩) (fun hHeld => ?_)
    rw [hWdq6] at hHeld ⊢
    refine qtk (i := 0) (oi := { dst := some 17, op := Op.move (.tmp 0), type := 35, pos := "table.go:77", after := #[], guard := none }) (v := (.pointer (some ⟨tb, 0, none⟩))) hHeld ?_ ?_
    · intro w9 hSw
      try dsimp only at hSw
      go_simp
    try simp only [qpu]
    refine qtk (i := 1) (oi := { dst := some 18, op := Op.nilCheck (.tmp 17), type := 0, pos := "table.go:77", after := #[{ on := 0, ground := Ground.data }], guard := none }) (v := (.pointer (some ⟨tb, 0, none⟩))) hHeld ?_ ?_
    · intro w9 hSw
      try dsimp only at hSw
      go_simp
    try simp only [qpu]
    refine qtk (i := 2) (oi := { dst := some 19, op := Op.fieldAddr 61 (.tmp 18) 4, type := 0, pos := "table.go:77", after := #[{ on := 1, ground := Ground.data }], guard := none }) (v := (.pointer (some ⟨tb, 4, none⟩))) hHeld ?_ ?_
    · intro w9 hSw
      try dsimp only at hSw
      go_simp
    try simp only [qpu]
    refine qtk (i := 3) (oi := { dst := some 20, op := Op.load 39 (.tmp 19), type := 39, pos := "table.go:77", after := #[{ on := 2, ground := Ground.data }], guard := none }) (v := (.slice a s.L.length c)) hHeld ?_ ?_
    · intro w9 hSw
      try dsimp only at hSw
      have hcc := hSw.1.cell 4 (.slice a s.L.length c) rfl
      go_simp
    try simp only [qpu]
    refine qtk (i := 4) (oi := { dst := some 21, op := Op.call { callee := Callee.builtin Builtin.len, args := #[.tmp 20], argTypes := #[39] }, type := 3, pos := "table.go:77", after := #[{ on := 3, ground := Ground.data }], guard := none }) (v := (.int .i64 (s.L.length : Int))) hHeld ?_ ?_
    · intro w9 hSw
      try dsimp only at hSw
      go_simp
    try simp only [qpu]
    refine qtk (i := 5) (oi := { dst := some 22, op := Op.move (.tmp 0), type := 35, pos := "table.go:77", after := #[], guard := none }) (v := (.pointer (some ⟨tb, 0, none⟩))) hHeld ?_ ?_
    · intro w9 hSw
      try dsimp only at hSw
      go_simp
    try simp only [qpu]
    refine qtk (i := 6) (oi := { dst := some 23, op := Op.nilCheck (.tmp 22), type := 0, pos := "table.go:77", after := #[{ on := 5, ground := Ground.data }], guard := none }) (v := (.pointer (some ⟨tb, 0, none⟩))) hHeld ?_ ?_
    · intro w9 hSw
      try dsimp only at hSw
      go_simp
    try simp only [qpu]
    refine qtk (i := 7) (oi := { dst := some 24, op := Op.fieldAddr 61 (.tmp 23) 1, type := 0, pos := "table.go:77", after := #[{ on := 6, ground := Ground.data }], guard := none }) (v := (.pointer (some ⟨tb, 1, none⟩))) hHeld ?_ ?_
    · intro w9 hSw
      try dsimp only at hSw
      go_simp
    try simp only [qpu]
    refine qtk (i := 8) (oi := { dst := some 25, op := Op.load 3 (.tmp 24), type := 3, pos := "table.go:77", after := #[{ on := 7, ground := Ground.data }], guard := none }) (v := (.int .i64 s.most)) hHeld ?_ ?_
    · intro w9 hSw
      try dsimp only at hSw
      have hcc := hSw.1.cell 1 (.int .i64 s.most) rfl
      go_simp
    try simp only [qpu]
    refine qtk (i := 9) (oi := { dst := some 26, op := Op.binOp BinOp.geq 3 (.tmp 21) (.tmp 25) 3, type := 4, pos := "table.go:77", after := #[{ on := 4, ground := Ground.data }, { on := 8, ground := Ground.data }], guard := none }) (v := (.bool (decide (s.most ≤ (s.L.length : Int))))) hHeld ?_ ?_
    · intro w9 hSw
      try dsimp only at hSw
      go_simp
    try simp only [qpu]
    refine qtk (i := 10) (oi := { dst := some 16, op := Op.assign (.tmp 26), type := 4, pos := "table.go:77", after := #[{ on := 9, ground := Ground.data }], guard := none }) (v := (.bool (decide (s.most ≤ (s.L.length : Int))))) hHeld ?_ ?_
    · intro w9 hSw
      try dsimp only at hSw
      go_simp
    try simp only [qpu]
    refine wpAnyH_done (by kernel_rfl) ?_ _
    refine NoPanic.normal ?_
    cases hq7 : (decide (s.most ≤ (s.L.length : Int))) with
    | false =>
      go_wp2_with fail
      obtain ⟨Wdq8, hWdq8⟩ : ∃ W, Wdq6.drew = W := ⟨_, rfl⟩
      have Tdq8 := hWdq8 ▸ Tdq6.drew
      have Odq8 := hWdq8 ▸ Odq6.drew
      have Adq8 := hWdq8 ▸ Adq6.drew
      have bdq8 := hWdq8 ▸ bdq6.drew
      refine wp_region_noPanic ?_
      refine wp_region_held_drew (S := fun w' => Blk w' w.heap.size 28 f.v) (by kernel_rfl) (by rw [hWdq8]; exact Adq8) (fun hHeld => ?_)
      rw [hWdq8] at hHeld ⊢
      refine qtk (i := 0) (oi := { dst := some 27, op := Op.move (.tmp 0), type := 35, pos := "table.go:80", after := #[], guard := none }) (v := (.pointer (some ⟨tb, 0, none⟩))) hHeld ?_ ?_
      · intro w9 hSw
        try dsimp only at hSw
        go_simp
      try simp only [qpu]
      refine qtk (i := 1) (oi := { dst := some 28, op := Op.move (.tmp 0), type := 35, pos := "table.go:80", after := #[], guard := none }) (v := (.pointer (some ⟨tb, 0, none⟩))) hHeld ?_ ?_
      · intro w9 hSw
        try dsimp only at hSw
        go_simp
      try simp only [qpu]
      refine qtk (i := 2) (oi := { dst := some 29, op := Op.nilCheck (.tmp 28), type := 0, pos := "table.go:80", after := #[{ on := 1, ground := Ground.data }], guard := none }) (v := (.pointer (some ⟨tb, 0, none⟩))) hHeld ?_ ?_
      · intro w9 hSw
        try dsimp only at hSw
        go_simp
      try simp only [qpu]
      refine qtk (i := 3) (oi := { dst := some 30, op := Op.fieldAddr 61 (.tmp 29) 4, type := 0, pos := "table.go:80", after := #[{ on := 2, ground := Ground.data }], guard := none }) (v := (.pointer (some ⟨tb, 4, none⟩))) hHeld ?_ ?_
      · intro w9 hSw
        try dsimp only at hSw
        go_simp
      try simp only [qpu]
      refine qty (i := 5) (oi := { dst := some 32, op := Op.load 28 (.tmp 3), type := 28, pos := "table.go:80", after := #[], guard := none }) (v := (.agg f.v)) (yieldsIf_blk_w (by kernel_rfl) _ _ rfl w.heap.size (by rfl) _ (fun _ hSw => hSw) Try.underlying28 (by kernel_rfl)) hHeld ?_
      try simp only [qpu]
      refine wpAnyH_ready (rs := [4, 6]) (by kernel_rfl) (by simp) ?_
      refine AllReadyH.cons (o := xpa21o6) rfl (fun K hK => ?_) (AllReadyH.cons (o := xpa21o5) rfl (fun K hK => ?_) AllReadyH.nil)
      · have cld := Tdq8.cell 4 (.slice a s.L.length c) rfl
        go_simp
        clear cld
        refine hK.out _ _ (by exact Adq8) (fun hHeld => ?_)
        clear hK K
        try simp only [qpu]
        refine wpAnyH_ready (rs := [6]) (by kernel_rfl) (by simp) ?_
        refine AllReadyH.cons (o := xpa21o5) rfl (fun K hK => ?_) AllReadyH.nil
        go_simp
        obtain ⟨Ws9, hWs9⟩ : ∃ W, Wdq8.alloc (.cells f.v 28) = W := ⟨_, rfl⟩
        rw [hWs9]
        have As9 := Adq8.al hWs9
        have Ts9 := Tdq8.al hWs9
        have Os9 := Odq8.al hWs9
        have Ys9 := blk_nw hWs9
        have bs9 := but_al bdq8 hWs9
        refine hK.out _ _ (by exact As9) (fun hHeld => ?_)
        clear hK K
        try simp only [qpu]
        refine wpAnyH_ready (rs := [7]) (by kernel_rfl) (by simp) ?_
        refine AllReadyH.cons (o := xpa21o3) rfl (fun K hK => ?_) AllReadyH.nil
        obtain ⟨ga, ca, Wp10, hrun, Op10, gr, hga⟩ := run_appW2 Ws9 39 a c s.L Os9 Wdq8.heap.size 1 _ f Ys9 (by omega)
        refine step_rnW rfl _ _ _ rfl _ _ (by rfl) (by rfl) _ _ hrun ?_
        have bg : But (fun k => a.map (·.block) = some k) Ws9 Wp10 := (But.refl _ _).grown gr (fun n hn => .inl hn)
        have hgt : ga ≠ tb := by
          rcases hga with h | h
          · exact fun e => map_ne nOT (e ▸ h)
          · have := Ts9.lt; omega
        have hgw : a.map (·.block) = some ga ∨ w.heap.size ≤ ga := hga.imp id (fun h => by rw [h]; exact bs9.size)
        have bp10 := bs9.trans bg (fun n _ e => .inr e)
        have Ap10 := As9.but bg (map_ne nOA)
        have Tp10 := Ts9.but bg (map_ne nOT)
        clear hrun gr bg hga
        have nOT : ∀ y : Addr, some ⟨ga, 0, none⟩ = some y → y.block ≠ tb := fun y hy => by cases hy; exact hgt
        refine hK.out _ _ (by exact Ap10) (fun hHeld => ?_)
        clear hK K
        try simp only [qpu]
        refine qtk (i := 8) (oi := xpa21o2) (v := (.pointer (some ⟨tb, 0, none⟩))) hHeld ?_ ?_
        · intro w9 hSw
          try dsimp only at hSw
          go_simp
        try simp only [qpu]
        refine qtk (i := 9) (oi := xpa21o1) (v := (.pointer (some ⟨tb, 4, none⟩))) hHeld ?_ ?_
        · intro w9 hSw
          try dsimp only at hSw
          go_simp
        try simp only [qpu]
        refine wpAnyH_ready (rs := [10]) (by kernel_rfl) (by simp) ?_
        refine AllReadyH.cons (o := xpa21o0) rfl (fun K hK => ?_) AllReadyH.nil
        refine step_store_one rfl _ _ _ rfl tb 4 _ (.slice (some ⟨ga, 0, none⟩) (s.L.length + 1) ca) (tabW s a c) #[.bool true, .int .i64 s.most, .int .i64 s.quota, .int .i64 s.now, .slice (some ⟨ga, 0, none⟩) (s.L.length + 1) ca] (by rfl) (by rfl) rfl rfl Tp10 (by kernel_rfl) (by simp) (by rfl) ?_
        obtain ⟨Wx11, hWx11⟩ : ∃ W, Wp10.setRow tb #[.bool true, .int .i64 s.most, .int .i64 s.quota, .int .i64 s.now, .slice (some ⟨ga, 0, none⟩) (s.L.length + 1) ca] = W := ⟨_, rfl⟩
        rw [hWx11]
        have Tx11 : Blk Wx11 tb 61 #[.bool true, .int .i64 s.most, .int .i64 s.quota, .int .i64 s.now, .slice (some ⟨ga, 0, none⟩) (s.L.length + 1) ca] := hWx11 ▸ Tp10.set #[.bool true, .int .i64 s.most, .int .i64 s.quota, .int .i64 s.now, .slice (some ⟨ga, 0, none⟩) (s.L.length + 1) ca]
        have Ax11 := hWx11 ▸ Ap10.other nAT #[.bool true, .int .i64 s.most, .int .i64 s.quota, .int .i64 s.now, .slice (some ⟨ga, 0, none⟩) (s.L.length + 1) ca]
        have Ox11 := hWx11 ▸ Op10.other nOT #[.bool true, .int .i64 s.most, .int .i64 s.quota, .int .i64 s.now, .slice (some ⟨ga, 0, none⟩) (s.L.length + 1) ca]
        have bx11 := hWx11 ▸ bp10.setRow tb (.inl (.inl rfl)) #[.bool true, .int .i64 s.most, .int .i64 s.quota, .int .i64 s.now, .slice (some ⟨ga, 0, none⟩) (s.L.length + 1) ca]
        refine hK.out _ _ (by exact Ax11) (fun hHeld => ?_)
        clear hK K
        try simp only [qpu]
        refine wpAnyH_done (by kernel_rfl) ?_ _
        refine NoPanic.normal ?_
        go_wp2_with fail
        have hR2 : R = ((({ s with L := s.L ++ [f] }, 0) : Xt × Int)) := by rw [← HR.out]; unfold Xt.putB; rw [hq5, hq7]; rfl
        subst hR2
        go_ret
        exact ⟨some ⟨ga, 0, none⟩, ca, rfl, (by show Blk _ _ _ #[.bool true, .int .i64 s.most, .int .i64 s.quota, .int .i64 s.now, .slice (some ⟨ga, 0, none⟩) (s.L ++ [f]).length ca]; rw [List.length_append]; exact Tx11), Ox11, (fun y hy => by cases hy; exact ⟨hgt, hgw⟩), bx11⟩
      · go_simp
        obtain ⟨Ws12, hWs12⟩ : ∃ W, Wdq8.alloc (.cells f.v 28) = W := ⟨_, rfl⟩
        rw [hWs12]
        have As12 := Adq8.al hWs12
        have Ts12 := Tdq8.al hWs12
        have Os12 := Odq8.al hWs12
        have Ys12 := blk_nw hWs12
        have bs12 := but_al bdq8 hWs12
        refine hK.out _ _ (by exact As12) (fun hHeld => ?_)
        clear hK K
        try simp only [qpu]
        refine wpAnyH_ready (rs := [4]) (by kernel_rfl) (by simp) ?_
        refine AllReadyH.cons (o := xpa21o6) rfl (fun K hK => ?_) AllReadyH.nil
        have cld := Ts12.cell 4 (.slice a s.L.length c) rfl
        go_simp
        clear cld
        refine hK.out _ _ (by exact As12) (fun hHeld => ?_)
        clear hK K
        try simp only [qpu]
        refine wpAnyH_ready (rs := [7]) (by kernel_rfl) (by simp) ?_
        refine AllReadyH.cons (o := xpa21o3) rfl (fun K hK => ?_) AllReadyH.nil
        obtain ⟨ga, ca, Wp13, hrun, Op13, gr, hga⟩ := run_appW2 Ws12 39 a c s.L Os12 Wdq8.heap.size 1 _ f Ys12 (by omega)
        refine step_rnW rfl _ _ _ rfl _ _ (by rfl) (by rfl) _ _ hrun ?_
        have bg : But (fun k => a.map (·.block) = some k) Ws12 Wp13 := (But.refl _ _).grown gr (fun n hn => .inl hn)
        have hgt : ga ≠ tb := by
          rcases hga with h | h
          · exact fun e => map_ne nOT (e ▸ h)
          · have := Ts12.lt; omega
        have hgw : a.map (·.block) = some ga ∨ w.heap.size ≤ ga := hga.imp id (fun h => by rw [h]; exact bs12.size)
        have bp13 := bs12.trans bg (fun n _ e => .inr e)
        have Ap13 := As12.but bg (map_ne nOA)
        have Tp13 := Ts12.but bg (map_ne nOT)
        clear hrun gr bg hga
        have nOT : ∀ y : Addr, some ⟨ga, 0, none⟩ = some y → y.block ≠ tb := fun y hy => by cases hy; exact hgt
        refine hK.out _ _ (by exact Ap13) (fun hHeld => ?_)
        clear hK K
        try simp only [qpu]
        refine qtk (i := 8) (oi := xpa21o2) (v := (.pointer (some ⟨tb, 0, none⟩))) hHeld ?_ ?_
        · intro w9 hSw
          try dsimp only at hSw
          go_simp
        try simp only [qpu]
        refine qtk (i := 9) (oi := xpa21o1) (v := (.pointer (some ⟨tb, 4, none⟩))) hHeld ?_ ?_
        · intro w9 hSw
          try dsimp only at hSw
          go_simp
        try simp only [qpu]
        refine wpAnyH_ready (rs := [10]) (by kernel_rfl) (by simp) ?_
        refine AllReadyH.cons (o := xpa21o0) rfl (fun K hK => ?_) AllReadyH.nil
        refine step_store_one rfl _ _ _ rfl tb 4 _ (.slice (some ⟨ga, 0, none⟩) (s.L.length + 1) ca) (tabW s a c) #[.bool true, .int .i64 s.most, .int .i64 s.quota, .int .i64 s.now, .slice (some ⟨ga, 0, none⟩) (s.L.length + 1) ca] (by rfl) (by rfl) rfl rfl Tp13 (by kernel_rfl) (by simp) (by rfl) ?_
        obtain ⟨Wx14, hWx14⟩ : ∃ W, Wp13.setRow tb #[.bool true, .int .i64 s.most, .int .i64 s.quota, .int .i64 s.now, .slice (some ⟨ga, 0, none⟩) (s.L.length + 1) ca] = W := ⟨_, rfl⟩
        rw [hWx14]
        have Tx14 : Blk Wx14 tb 61 #[.bool true, .int .i64 s.most, .int .i64 s.quota, .int .i64 s.now, .slice (some ⟨ga, 0, none⟩) (s.L.length + 1) ca] := hWx14 ▸ Tp13.set #[.bool true, .int .i64 s.most, .int .i64 s.quota, .int .i64 s.now, .slice (some ⟨ga, 0, none⟩) (s.L.length + 1) ca]
        have Ax14 := hWx14 ▸ Ap13.other nAT #[.bool true, .int .i64 s.most, .int .i64 s.quota, .int .i64 s.now, .slice (some ⟨ga, 0, none⟩) (s.L.length + 1) ca]
        have Ox14 := hWx14 ▸ Op13.other nOT #[.bool true, .int .i64 s.most, .int .i64 s.quota, .int .i64 s.now, .slice (some ⟨ga, 0, none⟩) (s.L.length + 1) ca]
        have bx14 := hWx14 ▸ bp13.setRow tb (.inl (.inl rfl)) #[.bool true, .int .i64 s.most, .int .i64 s.quota, .int .i64 s.now, .slice (some ⟨ga, 0, none⟩) (s.L.length + 1) ca]
        refine hK.out _ _ (by exact Ax14) (fun hHeld => ?_)
        clear hK K
        try simp only [qpu]
        refine wpAnyH_done (by kernel_rfl) ?_ _
        refine NoPanic.normal ?_
        go_wp2_with fail
        have hR2 : R = ((({ s with L := s.L ++ [f] }, 0) : Xt × Int)) := by rw [← HR.out]; unfold Xt.putB; rw [hq5, hq7]; rfl
        subst hR2
        go_ret
        exact ⟨some ⟨ga, 0, none⟩, ca, rfl, (by show Blk _ _ _ #[.bool true, .int .i64 s.most, .int .i64 s.quota, .int .i64 s.now, .slice (some ⟨ga, 0, none⟩) (s.L ++ [f]).length ca]; rw [List.length_append]; exact Tx14), Ox14, (fun y hy => by cases hy; exact ⟨hgt, hgw⟩), bx14⟩

    | true =>
      go_wp2_with fail
      have hR2 : R = (((s, 12) : Xt × Int)) := by rw [← HR.out]; unfold Xt.putB; rw [hq5, hq7]; rfl
      subst hR2
      go_ret
      exact ⟨a, c, rfl, Tdq6, Odq6, (fun y hy => ⟨nOT y hy, .inl (by rw [hy]; rfl)⟩), bdq6⟩


  | true =>
    go_wp2_with fail
    have hR2 : R = (((s, 17) : Xt × Int)) := by rw [← HR.out]; unfold Xt.putB; rw [hq5]; rfl
    subst hR2
    go_ret
    exact ⟨a, c, rfl, Tx4, Ox4, (fun y hy => ⟨nOT y hy, .inl (by rw [hy]; rfl)⟩), bx4⟩
end Go.Proofs.Ytmflogmocgbmhaa
