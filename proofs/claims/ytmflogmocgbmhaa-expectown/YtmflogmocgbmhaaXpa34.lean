/- Texts joined: XpW -/
import Derived.Test.YtmflogmocgbmhaaXpa33
namespace Go.Proofs.Ytmflogmocgbmhaa
abbrev xpa34o0 : Oper := { dst := none, op := Op.store 39 (.tmp 103) (.tmp 101), type := 0, pos := "ref.go:84", after := #[{ on := 10, ground := Ground.data }, { on := 8, ground := Ground.data }, { on := 8, ground := Ground.chain }, { on := 0, ground := Ground.phase }, { on := 1, ground := Ground.phase }, { on := 2, ground := Ground.phase }, { on := 3, ground := Ground.phase }, { on := 4, ground := Ground.phase }, { on := 5, ground := Ground.phase }, { on := 6, ground := Ground.phase }, { on := 7, ground := Ground.phase }, { on := 8, ground := Ground.phase }], guard := none }
abbrev xpa34o1 : Oper := { dst := some 103, op := Op.fieldAddr 41 (.tmp 102) 3, type := 0, pos := "ref.go:84", after := #[{ on := 9, ground := Ground.data }, { on := 0, ground := Ground.phase }, { on := 1, ground := Ground.phase }, { on := 2, ground := Ground.phase }, { on := 3, ground := Ground.phase }, { on := 4, ground := Ground.phase }, { on := 5, ground := Ground.phase }, { on := 6, ground := Ground.phase }, { on := 7, ground := Ground.phase }, { on := 8, ground := Ground.phase }], guard := none }
abbrev xpa34o2 : Oper := { dst := some 102, op := Op.nilCheck (.tmp 93), type := 0, pos := "ref.go:84", after := #[{ on := 0, ground := Ground.data }, { on := 0, ground := Ground.phase }, { on := 1, ground := Ground.phase }, { on := 2, ground := Ground.phase }, { on := 3, ground := Ground.phase }, { on := 4, ground := Ground.phase }, { on := 5, ground := Ground.phase }, { on := 6, ground := Ground.phase }, { on := 7, ground := Ground.phase }, { on := 8, ground := Ground.phase }], guard := none }
abbrev xpa34o3 : Oper := { dst := some 101, op := Op.call { callee := Callee.builtin Builtin.append, args := #[.tmp 98, .tmp 100], argTypes := #[39, 39] }, type := 39, pos := "ref.go:84", after := #[{ on := 5, ground := Ground.data }, { on := 7, ground := Ground.data }, { on := 5, ground := Ground.chain }], guard := none }
abbrev xpa34o4 : Oper := { dst := some 98, op := Op.call { callee := Callee.builtin Builtin.append, args := #[.const (Value.slice none 0 0), .tmp 97], argTypes := #[39, 39] }, type := 39, pos := "ref.go:84", after := #[{ on := 4, ground := Ground.data }], guard := none }
abbrev xpa34o5 : Oper := { dst := some 100, op := Op.buildSlice 39 1 #[(0, .tmp 99)], type := 39, pos := "ref.go:84", after := #[{ on := 6, ground := Ground.data }], guard := none }
abbrev xpa34o6 : Oper := { dst := some 18, op := Op.binOp BinOp.leq 3 (.tmp 13) (.tmp 17) 3, type := 4, pos := "ref.go:60", after := #[{ on := 5, ground := Ground.data }, { on := 9, ground := Ground.data }, { on := 3, ground := Ground.guard }], guard := some (3, false) }
abbrev xpa34o7 : Oper := { dst := some 16, op := Op.fieldAddr 41 (.tmp 15) 2, type := 0, pos := "ref.go:60", after := #[{ on := 7, ground := Ground.data }, { on := 3, ground := Ground.guard }], guard := some (3, false) }
abbrev xpa34o8 : Oper := { dst := some 19, op := Op.pick (.tmp 11) (.const (.bool true)) (.tmp 18), type := 4, pos := "ref.go:60", after := #[{ on := 3, ground := Ground.data }, { on := 10, ground := Ground.data }], guard := none }
abbrev xpa34o9 : Oper := { dst := some 13, op := Op.load 3 (.tmp 12), type := 3, pos := "ref.go:60", after := #[{ on := 4, ground := Ground.data }, { on := 3, ground := Ground.guard }], guard := some (3, false) }
abbrev xpa34o10 : Oper := { dst := some 17, op := Op.load 3 (.tmp 16), type := 3, pos := "ref.go:60", after := #[{ on := 8, ground := Ground.data }, { on := 3, ground := Ground.guard }], guard := some (3, false) }
abbrev xpa34o11 : Oper := { dst := some 15, op := Op.nilCheck (.tmp 14), type := 0, pos := "ref.go:60", after := #[{ on := 6, ground := Ground.data }, { on := 3, ground := Ground.guard }], guard := some (3, false) }
abbrev xpa34o12 : Oper := { dst := some 14, op := Op.move (.tmp 0), type := 47, pos := "ref.go:60", after := #[{ on := 3, ground := Ground.guard }], guard := some (3, false) }
abbrev xpa34o13 : Oper := { dst := some 12, op := Op.fieldAddr 28 (.tmp 3) 2, type := 0, pos := "ref.go:60", after := #[{ on := 3, ground := Ground.guard }], guard := some (3, false) }
abbrev xpa34o14 : Oper := { dst := some 97, op := Op.load 39 (.tmp 96), type := 39, pos := "ref.go:84", after := #[{ on := 3, ground := Ground.data }], guard := none }
end Go.Proofs.Ytmflogmocgbmhaa
namespace Go.Proofs.Ytmflogmocgbmhaa
open Go.RowKit
set_option linter.unusedVariables false
set_option linter.unusedSimpArgs false
theorem sub_m {x : Wt} {j : Nat} {v : Value} (hj : x.m.v[j]? = some v) : x.v[10 + j]? = some v := by
  have hj' : j < 10 := (Array.getElem?_eq_some_iff.1 hj).1
  rw [← hj]
  match j, hj' with
  | 0, _ => rfl
  | 1, _ => rfl
  | 2, _ => rfl
  | 3, _ => rfl
  | 4, _ => rfl
  | 5, _ => rfl
  | 6, _ => rfl
  | 7, _ => rfl
  | 8, _ => rfl
  | 9, _ => rfl
theorem cells_w {W : World} {b k : Nat} {x : Wt} (h : CellsAt W b k x.v) : CellsAt W b k x.w.v := ⟨h.1, fun j v hj => h.2 j v (by
  have hj' : j < 10 := (Array.getElem?_eq_some_iff.1 hj).1
  rw [← hj]
  match j, hj' with
  | 0, _ => rfl
  | 1, _ => rfl
  | 2, _ => rfl
  | 3, _ => rfl
  | 4, _ => rfl
  | 5, _ => rfl
  | 6, _ => rfl
  | 7, _ => rfl
  | 8, _ => rfl
  | 9, _ => rfl)⟩
theorem alloc_lt_x (w : World) (o : Obj) : w.heap.size < (w.alloc o).heap.size := by show w.heap.size < (w.heap.push o).size; rw [Array.size_push]; exact Nat.lt_succ_self _
theorem alloc_le_x (w : World) (o : Obj) : w.heap.size ≤ (w.alloc o).heap.size := Nat.le_of_lt (alloc_lt_x w o)
/-- The document's table behind a call: its list is the one that was, or new. -/
def DocN (sz : Nat) (a : Option Addr) (w : World) (rb : Nat) (s : Xt) : Prop := ∃ a' c', DocO w rb s a' c' ∧ ∀ y : Addr, a' = some y → a = some y ∨ sz ≤ y.block
theorem OwnW.some_of {w : World} {B : Nat} {a : Option Addr} {c : Nat} {l : List Wt} (h : OwnW w B a c l) (hl : 0 < l.length) : ∃ lb, a = some ⟨lb, 0, none⟩ := by
  rcases h.2 with ⟨_, h6⟩ | ⟨g, cap', cur, h6, _⟩
  · omega
  · simp only [Value.slice.injEq] at h6
    exact ⟨g, h6.1⟩
set_option maxRecDepth 100000 in
set_option maxHeartbeats 16000000 in
theorem radd_xp (rb : Nat) (s : Xt) (a : Option Addr) (c : Nat) (f : Wt) (w : World) (ho : f.ok) (hll : s.L.length ≤ 100000) (H : DocO w rb s a c) :
    Calls Try.prog 28 #[.pointer (some ⟨rb, 0, none⟩), .agg f.v] w fun e w' => e = .returned (.int .i64 (s.add f).2) ∧ DocN w.heap.size a w' rb (s.add f).1 ∧ But (fun k => k = rb) w w' := by
  have T := H.tab
  have E := H.row
  have hne := H.ne
  have hgl := T.lt
  have hal := E.lt
  have nET : ∀ y : Addr, a = some y → y.block ≠ rb := hne
  clear H
  obtain ⟨R, hR⟩ : ∃ R, s.add f = R := ⟨_, rfl⟩
  have HR : Hid (s.add f = R) := hR
  try rw [hR]
  clear hR
  have b := But.refl (fun k => k = rb) w
  go_enter Try.func28, Try.ntmps28
  obtain ⟨Wm1, hWm1⟩ : ∃ W, w.alloc (.cells f.v 28) = W := ⟨_, rfl⟩
  have bm1 := but_al b hWm1
  have Tm1 := T.al hWm1
  have Em1 := E.al hWm1
  have Am1 := blk_nw hWm1
  have gA : (fun k => k = rb) w.heap.size ∨ w.heap.size ≤ w.heap.size := .inr b.size
  have nTA : rb ≠ w.heap.size := by have := T.lt; omega
  have nAT : w.heap.size ≠ rb := fun e => nTA e.symm
  have nEA : ∀ y : Addr, a = some y → y.block ≠ w.heap.size := fun y hy => by have := E.lt y hy; omega
  go_wp2_with fail
  obtain ⟨Wdq2, hWdq2⟩ : ∃ W, Wm1.drew = W := ⟨_, rfl⟩
  have Tdq2 := hWdq2 ▸ Tm1.drew
  have Edq2 := hWdq2 ▸ Em1.drew
  have Adq2 := hWdq2 ▸ Am1.drew
  have bdq2 := hWdq2 ▸ bm1.drew
  refine wp_region_noPanic ?_
  refine wp_region_held_drew (S := fun w' => Blk w' rb 41 #[.int .i64 s.most, .int .i64 s.quota, .int .i64 s.now, .slice a s.L.length c] ∧ RowE w' a c s.L ∧ Blk w' w.heap.size 28 f.v) (by kernel_rfl) (by rw [hWdq2]; exact ⟨Tdq2, Edq2, Adq2⟩) (fun hHeld => ?_)
  rw [hWdq2] at hHeld ⊢
  refine qty (i := 0) (oi := { dst := some 8, op := Op.load 28 (.tmp 3), type := 28, pos := "ref.go:60", after := #[], guard := none }) (v := (.agg f.v)) (yieldsIf_blk_w (by kernel_rfl) _ _ rfl w.heap.size (by rfl) _ (fun _ hSw => hSw.2.2) Try.underlying28 (by kernel_rfl)) hHeld ?_
  try simp only [qpu]
  refine wpAnyH_ready (rs := [1]) (by kernel_rfl) (by simp) ?_
  refine AllReadyH.cons (o := { dst := some 9, op := Op.call { callee := Callee.value (.func 11), args := #[.tmp 8], argTypes := #[28] }, type := 4, pos := "ref.go:60", after := #[{ on := 0, ground := Ground.data }], guard := none }) rfl (fun K hK => ?_) AllReadyH.nil
  go_simp
  refine Calls.mono (rright_xp f _ (by first | assumption | exact hok)) ?_
  rintro e Wx3 ⟨rfl, bb⟩
  have Tx3 := Tdq2.kept bb
  have Ex3 := Edq2.kept bb
  have Ax3 := Adq2.kept bb
  have bx3 := bdq2.below bb
  clear bb
  refine hK.out _ _ (by exact ⟨Tx3, Ex3, Ax3⟩) (fun hHeld => ?_)
  clear hK K
  try simp only [qpu]
  refine qtk (i := 2) (oi := { dst := some 10, op := Op.unOp UnOp.not 4 (.tmp 9), type := 4, pos := "ref.go:60", after := #[{ on := 1, ground := Ground.data }], guard := none }) (v := (.bool (!(Wt.right f)))) hHeld ?_ ?_
  · intro w9 hSw
    try dsimp only at hSw
    go_simp
  try simp only [qpu]
  refine qtk (i := 3) (oi := { dst := some 11, op := Op.move (.tmp 10), type := 4, pos := "ref.go:60", after := #[{ on := 2, ground := Ground.data }, { on := 1, ground := Ground.chain }], guard := none }) (v := (.bool (!(Wt.right f)))) hHeld ?_ ?_
  · intro w9 hSw
    try dsimp only at hSw
    go_simp
  try simp only [qpu]
  cases hq4 : (Wt.right f) with
  | false =>
    refine qtn (i := 4) (oi := xpa34o13) hHeld ?_
    try simp only [qpu]
    refine qtn (i := 5) (oi := xpa34o9) hHeld ?_
    try simp only [qpu]
    refine qtn (i := 6) (oi := xpa34o12) hHeld ?_
    try simp only [qpu]
    refine qtn (i := 7) (oi := xpa34o11) hHeld ?_
    try simp only [qpu]
    refine qtn (i := 8) (oi := xpa34o7) hHeld ?_
    try simp only [qpu]
    refine qtn (i := 9) (oi := xpa34o10) hHeld ?_
    try simp only [qpu]
    refine qtn (i := 10) (oi := xpa34o6) hHeld ?_
    try simp only [qpu]
    refine qtk (i := 11) (oi := xpa34o8) (v := (.bool true)) hHeld ?_ ?_
    · intro w9 hSw
      try dsimp only at hSw
      go_simp
    try simp only [qpu]
    refine wpAnyH_done (by kernel_rfl) ?_ _
    refine NoPanic.normal ?_
    go_wp2_with fail
    have hR2 : R = (((s, 1) : Xt × Int)) := by rw [← HR.out]; exact add_bad (by assumption)
    subst hR2
    go_ret
    exact ⟨rfl, ⟨a, c, ⟨Tx3, Ex3, nET⟩, (fun y hy => .inl hy)⟩, bx3⟩

  | true =>
    refine qtk (i := 4) (oi := xpa34o13) (v := (.pointer (some ⟨w.heap.size, 20, none⟩))) hHeld ?_ ?_
    · intro w9 hSw
      try dsimp only at hSw
      go_simp
    try simp only [qpu]
    refine qtk (i := 5) (oi := xpa34o9) (v := (.int .i64 f.ends)) hHeld ?_ ?_
    · intro w9 hSw
      try dsimp only at hSw
      have hcc := hSw.2.2.cell 20 (.int .i64 f.ends) rfl
      go_simp
    try simp only [qpu]
    refine qtk (i := 6) (oi := xpa34o12) (v := (.pointer (some ⟨rb, 0, none⟩))) hHeld ?_ ?_
    · intro w9 hSw
      try dsimp only at hSw
      go_simp
    try simp only [qpu]
    refine qtk (i := 7) (oi := xpa34o11) (v := (.pointer (some ⟨rb, 0, none⟩))) hHeld ?_ ?_
    · intro w9 hSw
      try dsimp only at hSw
      go_simp
    try simp only [qpu]
    refine qtk (i := 8) (oi := xpa34o7) (v := (.pointer (some ⟨rb, 2, none⟩))) hHeld ?_ ?_
    · intro w9 hSw
      try dsimp only at hSw
      go_simp
    try simp only [qpu]
    refine qtk (i := 9) (oi := xpa34o10) (v := (.int .i64 s.now)) hHeld ?_ ?_
    · intro w9 hSw
      try dsimp only at hSw
      have hcc := hSw.1.cell 2 (.int .i64 s.now) rfl
      go_simp
    try simp only [qpu]
    refine qtk (i := 10) (oi := xpa34o6) (v := (.bool (decide (f.ends ≤ s.now)))) hHeld ?_ ?_
    · intro w9 hSw
      try dsimp only at hSw
      go_simp
    try simp only [qpu]
    refine qtk (i := 11) (oi := xpa34o8) (v := (.bool (decide (f.ends ≤ s.now)))) hHeld ?_ ?_
    · intro w9 hSw
      try dsimp only at hSw
      go_simp
    try simp only [qpu]
    refine wpAnyH_done (by kernel_rfl) ?_ _
    refine NoPanic.normal ?_
    cases hq5 : (decide (f.ends ≤ s.now)) with
    | false =>
      go_wp2_with fail
      go_loopw [5, 6] (fun nv i wr => ∃ k : Nat, k ≤ s.L.length ∧ nv = .int .i64 (cntW f.m (s.L.take k)) ∧ i = .int .i64 k ∧ Hid (∀ j q, j < k → s.L[j]? = some q → Wy.eqB q.w f.w = false) ∧ Blk wr rb 41 #[.int .i64 s.most, .int .i64 s.quota, .int .i64 s.now, .slice a s.L.length c] ∧ RowE wr a c s.L ∧ Blk wr w.heap.size 28 f.v ∧ But (fun k => k = rb) w wr) (fun _ i _ => s.L.length - (intOf i).toNat)
      case atStart => exact ⟨0, Nat.zero_le _, rfl, rfl, fun j q hj => absurd hj (Nat.not_lt_zero _), Tx3, Ex3, Ax3, bx3⟩
      case round =>
        obtain ⟨k, hk, rfl, rfl, HB, Tr, Er, Ar, br⟩ := hrel
        obtain ⟨Wr, rfl⟩ : ∃ W, W = wr := ⟨_, rfl⟩
        have hcl : cntW f.m (s.L.take k) ≤ 1000000 := by
          have h8 : cntW f.m (s.L.take k) ≤ (s.L.take k).length := List.countP_le_length
          have h9 := List.length_take_le k s.L
          omega
        have in0 : (0 : Int) ≤ (k : Int) := by omega
        by_cases hlt : k < s.L.length
        · have ik : (k : Int) < (s.L.length : Int) := by omega
          have ik' : decide ((k : Int) < (s.L.length : Int)) = true := by simpa using ik
          obtain ⟨x, hx⟩ : ∃ q, s.L[k]? = some q := ⟨_, List.getElem?_eq_getElem hlt⟩
          have HX : Hid (s.L[k]? = some x) := hx
          obtain ⟨p2, off2, rfl, hcells⟩ := Er.row.cells k x hx
          clear hcells hx
          have c6 := Tr.cell 3 (.slice (some ⟨p2, off2, none⟩) s.L.length c) rfl
          go_wp2_with fail
          clear c6
          obtain ⟨Wdq7, hWdq7⟩ : ∃ W, Wr.drew = W := ⟨_, rfl⟩
          have Tdq7 := hWdq7 ▸ Tr.drew
          have Edq7 := hWdq7 ▸ Er.drew
          have Adq7 := hWdq7 ▸ Ar.drew
          have bdq7 := hWdq7 ▸ br.drew
          refine wp_region_noPanic ?_
          refine wp_region_held_drew (S := fun w' => Blk w' rb 41 #[.int .i64 s.most, .int .i64 s.quota, .int .i64 s.now, .slice (some ⟨p2, off2, none⟩) s.L.length c] ∧ RowE w' (some ⟨p2, off2, none⟩) c s.L ∧ Blk w' w.heap.size 28 f.v) (by kernel_rfl) (by rw [hWdq7]; exact ⟨Tdq7, Edq7, Adq7⟩) (fun hHeld => ?_)
          rw [hWdq7] at hHeld ⊢
          refine qtk (i := 0) (oi := { dst := some 29, op := Op.move (.tmp 0), type := 47, pos := "ref.go:65", after := #[], guard := none }) (v := (.pointer (some ⟨rb, 0, none⟩))) hHeld ?_ ?_
          · intro w9 hSw
            try dsimp only at hSw
            go_simp
          try simp only [qpu]
          refine qtk (i := 1) (oi := { dst := some 30, op := Op.nilCheck (.tmp 29), type := 0, pos := "ref.go:65", after := #[{ on := 0, ground := Ground.data }], guard := none }) (v := (.pointer (some ⟨rb, 0, none⟩))) hHeld ?_ ?_
          · intro w9 hSw
            try dsimp only at hSw
            go_simp
          try simp only [qpu]
          refine qtk (i := 2) (oi := { dst := some 31, op := Op.fieldAddr 41 (.tmp 30) 3, type := 0, pos := "ref.go:65", after := #[{ on := 1, ground := Ground.data }], guard := none }) (v := (.pointer (some ⟨rb, 3, none⟩))) hHeld ?_ ?_
          · intro w9 hSw
            try dsimp only at hSw
            go_simp
          try simp only [qpu]
          refine qtk (i := 3) (oi := { dst := some 32, op := Op.load 39 (.tmp 31), type := 39, pos := "ref.go:65", after := #[{ on := 2, ground := Ground.data }], guard := none }) (v := (.slice (some ⟨p2, off2, none⟩) s.L.length c)) hHeld ?_ ?_
          · intro w9 hSw
            try dsimp only at hSw
            have hcc := hSw.1.cell 3 (.slice (some ⟨p2, off2, none⟩) s.L.length c) rfl
            go_simp
          try simp only [qpu]
          refine qtk (i := 4) (oi := { dst := some 33, op := Op.move (.tmp 6), type := 3, pos := "ref.go:65", after := #[], guard := none }) (v := (.int .i64 (k : Int))) hHeld ?_ ?_
          · intro w9 hSw
            try dsimp only at hSw
            go_simp
          try simp only [qpu]
          refine qtk (i := 5) (oi := { dst := some 34, op := Op.indexAddr 39 (.tmp 32) (.tmp 33), type := 0, pos := "ref.go:65", after := #[{ on := 3, ground := Ground.data }, { on := 4, ground := Ground.data }], guard := none }) (v := (.pointer (some ⟨p2, off2 + k * 22, none⟩))) hHeld ?_ ?_
          · intro w9 hSw
            try dsimp only at hSw
            go_simp
          try simp only [qpu]
          refine qtk (i := 6) (oi := { dst := some 35, op := Op.fieldAddr 28 (.tmp 34) 0, type := 0, pos := "ref.go:65", after := #[{ on := 5, ground := Ground.data }], guard := none }) (v := (.pointer (some ⟨p2, off2 + k * 22, none⟩))) hHeld ?_ ?_
          · intro w9 hSw
            try dsimp only at hSw
            go_simp
          try simp only [qpu]
          refine qty (i := 7) (oi := { dst := some 36, op := Op.load 26 (.tmp 35), type := 26, pos := "ref.go:65", after := #[{ on := 6, ground := Ground.data }], guard := none }) (v := (.agg x.w.v)) (yieldsIf_at (by kernel_rfl) _ _ rfl p2 (off2 + k * 22) (by rfl) _ (fun _ hSw => cells_w ((hSw.2.1).at_ HX.out)) Try.underlying26 (by kernel_rfl)) hHeld ?_
          try simp only [qpu]
          refine qtk (i := 8) (oi := { dst := some 37, op := Op.fieldAddr 28 (.tmp 3) 0, type := 0, pos := "ref.go:65", after := #[], guard := none }) (v := (.pointer (some ⟨w.heap.size, 0, none⟩))) hHeld ?_ ?_
          · intro w9 hSw
            try dsimp only at hSw
            go_simp
          try simp only [qpu]
          refine qty (i := 9) (oi := { dst := some 38, op := Op.load 26 (.tmp 37), type := 26, pos := "ref.go:65", after := #[{ on := 8, ground := Ground.data }], guard := none }) (v := (.agg f.w.v)) (yieldsIf_sub_w (by kernel_rfl) _ _ rfl w.heap.size 0 _ (by rfl) _ f.w.v (fun _ hSw => hSw.2.2) (by rfl) Try.underlying26 (by kernel_rfl)) hHeld ?_
          try simp only [qpu]
          refine qtk (i := 10) (oi := { dst := some 39, op := Op.binOp BinOp.eql 26 (.tmp 36) (.tmp 38) 26, type := 4, pos := "ref.go:65", after := #[{ on := 7, ground := Ground.data }, { on := 9, ground := Ground.data }], guard := none }) (v := (.bool (Wy.eqB x.w f.w))) hHeld ?_ ?_
          · intro w9 hSw
            try dsimp only at hSw
            have hcc := eql_way x.w f.w
            go_simp
          try simp only [qpu]
          refine wpAnyH_done (by kernel_rfl) ?_ _
          refine NoPanic.normal ?_
          cases hq8 : (Wy.eqB x.w f.w) with
          | false =>
            go_wp2_with fail
            obtain ⟨Wdq9, hWdq9⟩ : ∃ W, Wdq7.drew = W := ⟨_, rfl⟩
            have Tdq9 := hWdq9 ▸ Tdq7.drew
            have Edq9 := hWdq9 ▸ Edq7.drew
            have Adq9 := hWdq9 ▸ Adq7.drew
            have bdq9 := hWdq9 ▸ bdq7.drew
            refine wp_region_noPanic ?_
            refine wp_region_held_drew (S := fun w' => Blk w' rb 41 #[.int .i64 s.most, .int .i64 s.quota, .int .i64 s.now, .slice (some ⟨p2, off2, none⟩) s.L.length c] ∧ RowE w' (some ⟨p2, off2, none⟩) c s.L ∧ Blk w' w.heap.size 28 f.v) (by kernel_rfl) (by rw [hWdq9]; exact ⟨Tdq9, Edq9, Adq9⟩) (fun hHeld => ?_)
            rw [hWdq9] at hHeld ⊢
            refine qtk (i := 0) (oi := { dst := some 64, op := Op.move (.tmp 0), type := 47, pos := "ref.go:74", after := #[], guard := none }) (v := (.pointer (some ⟨rb, 0, none⟩))) hHeld ?_ ?_
            · intro w9 hSw
              try dsimp only at hSw
              go_simp
            try simp only [qpu]
            refine qtk (i := 1) (oi := { dst := some 65, op := Op.nilCheck (.tmp 64), type := 0, pos := "ref.go:74", after := #[{ on := 0, ground := Ground.data }], guard := none }) (v := (.pointer (some ⟨rb, 0, none⟩))) hHeld ?_ ?_
            · intro w9 hSw
              try dsimp only at hSw
              go_simp
            try simp only [qpu]
            refine qtk (i := 2) (oi := { dst := some 66, op := Op.fieldAddr 41 (.tmp 65) 3, type := 0, pos := "ref.go:74", after := #[{ on := 1, ground := Ground.data }], guard := none }) (v := (.pointer (some ⟨rb, 3, none⟩))) hHeld ?_ ?_
            · intro w9 hSw
              try dsimp only at hSw
              go_simp
            try simp only [qpu]
            refine qtk (i := 3) (oi := { dst := some 67, op := Op.load 39 (.tmp 66), type := 39, pos := "ref.go:74", after := #[{ on := 2, ground := Ground.data }], guard := none }) (v := (.slice (some ⟨p2, off2, none⟩) s.L.length c)) hHeld ?_ ?_
            · intro w9 hSw
              try dsimp only at hSw
              have hcc := hSw.1.cell 3 (.slice (some ⟨p2, off2, none⟩) s.L.length c) rfl
              go_simp
            try simp only [qpu]
            refine qtk (i := 4) (oi := { dst := some 68, op := Op.move (.tmp 6), type := 3, pos := "ref.go:74", after := #[], guard := none }) (v := (.int .i64 (k : Int))) hHeld ?_ ?_
            · intro w9 hSw
              try dsimp only at hSw
              go_simp
            try simp only [qpu]
            refine qtk (i := 5) (oi := { dst := some 69, op := Op.indexAddr 39 (.tmp 67) (.tmp 68), type := 0, pos := "ref.go:74", after := #[{ on := 3, ground := Ground.data }, { on := 4, ground := Ground.data }], guard := none }) (v := (.pointer (some ⟨p2, off2 + k * 22, none⟩))) hHeld ?_ ?_
            · intro w9 hSw
              try dsimp only at hSw
              go_simp
            try simp only [qpu]
            refine qtk (i := 6) (oi := { dst := some 70, op := Op.fieldAddr 28 (.tmp 69) 1, type := 0, pos := "ref.go:74", after := #[{ on := 5, ground := Ground.data }], guard := none }) (v := (.pointer (some ⟨p2, off2 + k * 22 + 10, none⟩))) hHeld ?_ ?_
            · intro w9 hSw
              try dsimp only at hSw
              go_simp
            try simp only [qpu]
            refine qty (i := 7) (oi := { dst := some 71, op := Op.load 26 (.tmp 70), type := 26, pos := "ref.go:74", after := #[{ on := 6, ground := Ground.data }], guard := none }) (v := (.agg x.m.v)) (yieldsIf_at (by kernel_rfl) _ _ rfl p2 (off2 + k * 22 + 10) (by rfl) _ (fun _ hSw => cells_drop ((hSw.2.1).at_ HX.out) (fun j v hj => sub_m hj)) Try.underlying26 (by kernel_rfl)) hHeld ?_
            try simp only [qpu]
            refine qtk (i := 8) (oi := { dst := some 72, op := Op.fieldAddr 28 (.tmp 3) 1, type := 0, pos := "ref.go:74", after := #[], guard := none }) (v := (.pointer (some ⟨w.heap.size, 10, none⟩))) hHeld ?_ ?_
            · intro w9 hSw
              try dsimp only at hSw
              go_simp
            try simp only [qpu]
            refine qty (i := 9) (oi := { dst := some 73, op := Op.load 26 (.tmp 72), type := 26, pos := "ref.go:74", after := #[{ on := 8, ground := Ground.data }], guard := none }) (v := (.agg f.m.v)) (yieldsIf_sub_w (by kernel_rfl) _ _ rfl w.heap.size 10 _ (by rfl) _ f.m.v (fun _ hSw => hSw.2.2) (by rfl) Try.underlying26 (by kernel_rfl)) hHeld ?_
            try simp only [qpu]
            refine qtk (i := 10) (oi := { dst := some 74, op := Op.binOp BinOp.eql 26 (.tmp 71) (.tmp 73) 26, type := 4, pos := "ref.go:74", after := #[{ on := 7, ground := Ground.data }, { on := 9, ground := Ground.data }], guard := none }) (v := (.bool (Wy.eqB x.m f.m))) hHeld ?_ ?_
            · intro w9 hSw
              try dsimp only at hSw
              have hcc := eql_way x.m f.m
              go_simp
            try simp only [qpu]
            refine wpAnyH_done (by kernel_rfl) ?_ _
            refine NoPanic.normal ?_
            cases hq10 : (Wy.eqB x.m f.m) with
            | false =>
              go_wp2_with fail
              refine ⟨⟨k + 1, by omega, by rw [cnt_at HX.out, hq10]; first | rfl | go_num, by go_num, fun j q hj hf => ?_, Tdq9, Edq9, Adq9, bdq9⟩, by simp [intOf]; omega⟩
              rcases Nat.lt_succ_iff_lt_or_eq.1 hj with h | rfl
              · exact HB.out j q h hf
              · rw [HX.out] at hf
                cases hf
                assumption

            | true =>
              go_wp2_with fail
              refine ⟨⟨k + 1, by omega, by rw [cnt_at HX.out, hq10]; first | rfl | go_num, by go_num, fun j q hj hf => ?_, Tdq9, Edq9, Adq9, bdq9⟩, by simp [intOf]; omega⟩
              rcases Nat.lt_succ_iff_lt_or_eq.1 hj with h | rfl
              · exact HB.out j q h hf
              · rw [HX.out] at hf
                cases hf
                assumption


          | true =>
            go_wp2_with fail
            obtain ⟨Wdq11, hWdq11⟩ : ∃ W, Wdq7.drew = W := ⟨_, rfl⟩
            have Tdq11 := hWdq11 ▸ Tdq7.drew
            have Edq11 := hWdq11 ▸ Edq7.drew
            have Adq11 := hWdq11 ▸ Adq7.drew
            have bdq11 := hWdq11 ▸ bdq7.drew
            refine wp_region_noPanic ?_
            refine wp_region_held_drew (S := fun w' => Blk w' rb 41 #[.int .i64 s.most, .int .i64 s.quota, .int .i64 s.now, .slice (some ⟨p2, off2, none⟩) s.L.length c] ∧ RowE w' (some ⟨p2, off2, none⟩) c s.L ∧ Blk w' w.heap.size 28 f.v) (by kernel_rfl) (by rw [hWdq11]; exact ⟨Tdq11, Edq11, Adq11⟩) (fun hHeld => ?_)
            rw [hWdq11] at hHeld ⊢
            refine qtk (i := 0) (oi := { dst := some 40, op := Op.move (.tmp 0), type := 47, pos := "ref.go:66", after := #[], guard := none }) (v := (.pointer (some ⟨rb, 0, none⟩))) hHeld ?_ ?_
            · intro w9 hSw
              try dsimp only at hSw
              go_simp
            try simp only [qpu]
            refine qtk (i := 1) (oi := { dst := some 41, op := Op.nilCheck (.tmp 40), type := 0, pos := "ref.go:66", after := #[{ on := 0, ground := Ground.data }], guard := none }) (v := (.pointer (some ⟨rb, 0, none⟩))) hHeld ?_ ?_
            · intro w9 hSw
              try dsimp only at hSw
              go_simp
            try simp only [qpu]
            refine qtk (i := 2) (oi := { dst := some 42, op := Op.fieldAddr 41 (.tmp 41) 3, type := 0, pos := "ref.go:66", after := #[{ on := 1, ground := Ground.data }], guard := none }) (v := (.pointer (some ⟨rb, 3, none⟩))) hHeld ?_ ?_
            · intro w9 hSw
              try dsimp only at hSw
              go_simp
            try simp only [qpu]
            refine qtk (i := 3) (oi := { dst := some 43, op := Op.load 39 (.tmp 42), type := 39, pos := "ref.go:66", after := #[{ on := 2, ground := Ground.data }], guard := none }) (v := (.slice (some ⟨p2, off2, none⟩) s.L.length c)) hHeld ?_ ?_
            · intro w9 hSw
              try dsimp only at hSw
              have hcc := hSw.1.cell 3 (.slice (some ⟨p2, off2, none⟩) s.L.length c) rfl
              go_simp
            try simp only [qpu]
            refine qtk (i := 4) (oi := { dst := some 44, op := Op.move (.tmp 6), type := 3, pos := "ref.go:66", after := #[], guard := none }) (v := (.int .i64 (k : Int))) hHeld ?_ ?_
            · intro w9 hSw
              try dsimp only at hSw
              go_simp
            try simp only [qpu]
            refine qtk (i := 5) (oi := { dst := some 45, op := Op.indexAddr 39 (.tmp 43) (.tmp 44), type := 0, pos := "ref.go:66", after := #[{ on := 3, ground := Ground.data }, { on := 4, ground := Ground.data }], guard := none }) (v := (.pointer (some ⟨p2, off2 + k * 22, none⟩))) hHeld ?_ ?_
            · intro w9 hSw
              try dsimp only at hSw
              go_simp
            try simp only [qpu]
            refine qtk (i := 6) (oi := { dst := some 46, op := Op.fieldAddr 28 (.tmp 45) 1, type := 0, pos := "ref.go:66", after := #[{ on := 5, ground := Ground.data }], guard := none }) (v := (.pointer (some ⟨p2, off2 + k * 22 + 10, none⟩))) hHeld ?_ ?_
            · intro w9 hSw
              try dsimp only at hSw
              go_simp
            try simp only [qpu]
            refine qty (i := 7) (oi := { dst := some 47, op := Op.load 26 (.tmp 46), type := 26, pos := "ref.go:66", after := #[{ on := 6, ground := Ground.data }], guard := none }) (v := (.agg x.m.v)) (yieldsIf_at (by kernel_rfl) _ _ rfl p2 (off2 + k * 22 + 10) (by rfl) _ (fun _ hSw => cells_drop ((hSw.2.1).at_ HX.out) (fun j v hj => sub_m hj)) Try.underlying26 (by kernel_rfl)) hHeld ?_
            try simp only [qpu]
            refine qtk (i := 8) (oi := { dst := some 48, op := Op.fieldAddr 28 (.tmp 3) 1, type := 0, pos := "ref.go:66", after := #[], guard := none }) (v := (.pointer (some ⟨w.heap.size, 10, none⟩))) hHeld ?_ ?_
            · intro w9 hSw
              try dsimp only at hSw
              go_simp
            try simp only [qpu]
            refine qty (i := 9) (oi := { dst := some 49, op := Op.load 26 (.tmp 48), type := 26, pos := "ref.go:66", after := #[{ on := 8, ground := Ground.data }], guard := none }) (v := (.agg f.m.v)) (yieldsIf_sub_w (by kernel_rfl) _ _ rfl w.heap.size 10 _ (by rfl) _ f.m.v (fun _ hSw => hSw.2.2) (by rfl) Try.underlying26 (by kernel_rfl)) hHeld ?_
            try simp only [qpu]
            refine qtk (i := 10) (oi := { dst := some 50, op := Op.binOp BinOp.neq 26 (.tmp 47) (.tmp 49) 26, type := 4, pos := "ref.go:66", after := #[{ on := 7, ground := Ground.data }, { on := 9, ground := Ground.data }], guard := none }) (v := (.bool (!(Wy.eqB x.m f.m)))) hHeld ?_ ?_
            · intro w9 hSw
              try dsimp only at hSw
              have hcc := neq_way x.m f.m
              go_simp
            try simp only [qpu]
            refine wpAnyH_done (by kernel_rfl) ?_ _
            refine NoPanic.normal ?_
            cases hq12 : (Wy.eqB x.m f.m) with
            | false =>
              go_wp2_with fail
              have hR2 : R = (((s, 17) : Xt × Int)) := by rw [← HR.out]; exact (add_put (by assumption) (by assumption)).trans (xput_else (ix_at HX.out (by assumption) HB.out) HX.out (by assumption))
              subst hR2
              go_ret
              exact ⟨rfl, ⟨(some ⟨p2, off2, none⟩), c, ⟨Tdq11, Edq11, nET⟩, (fun y hy => .inl hy)⟩, bdq11⟩

            | true =>
              have c13 := Tdq11.cell 3 (.slice (some ⟨p2, off2, none⟩) s.L.length c) rfl
              go_wp2_with (first | (refine wpList_rnWs _ rfl _ _ rfl Wdq11.heap.size none 0 [] _ _ rfl (by rfl) (own_noneW _ _) (some ⟨p2, off2, none⟩) c s.L rfl (by rfl) Edq11 (by simp; omega) (Nat.le_refl _) ?_; intro a8 c8 Wa14 Oa14 Hg9; have bg : But (fun _ => False) Wdq11 Wa14 := (But.refl _ _).grown Hg9 (fun n hn => by cases hn); have Ta14 := Tdq11.but bg (fun h => h); have Ea14 := Edq11.but bg (fun _ _ h => h); have Aa14 := Adq11.but bg (fun h => h); have ba14 := bdq11.trans bg (fun n _ e => e.elim); have hTl := Tdq11.lt; have hAl := Adq11.lt; have hEl := Edq11.lt; have hbs := bdq11.size; have hl8 := Oa14.lt; clear bg Hg9; obtain ⟨lb, hlb0⟩ : ∃ lb, a8 = some ⟨lb, 0, none⟩ := Oa14.some_of (by rw [List.nil_append]; omega); subst hlb0; rw [List.nil_append] at Oa14; obtain ⟨cr8, hb8, hsz8, hB8, O8q⟩ := Oa14.put k f hlt; have hlbT : rb ≠ lb := by { have := hl8 _ rfl; have h4 : _ ≤ lb := this; omega }; have hlbA : w.heap.size ≠ lb := by { have := hl8 _ rfl; have h4 : _ ≤ lb := this; omega }; have hlbE : ∀ y : Addr, (some ⟨p2, off2, none⟩) = some y → y.block ≠ lb := fun y hy => by { have := hl8 _ rfl; have h4 : _ ≤ lb := this; have := hEl y hy; omega }; have hlbw : w.heap.size ≤ lb := by { have := hl8 _ rfl; have h4 : _ ≤ lb := this; omega }; try rw [List.nil_append]; have hsz8' : k * 22 + f.v.size ≤ cr8.size := hsz8; obtain ⟨Wy15, hWy15⟩ : ∃ W, Wa14.setRow lb (setMany cr8 (k * 22) f.v.toList) = W := ⟨_, rfl⟩; have Oy15 : OwnW Wy15 _ (some ⟨lb, 0, none⟩) c8 (s.L.set k f) := hWy15 ▸ O8q; have Ty15 := hWy15 ▸ Ta14.other hlbT (setMany cr8 (k * 22) f.v.toList); have Ey15 := hWy15 ▸ Ea14.other hlbE (setMany cr8 (k * 22) f.v.toList); have Ay15 := hWy15 ▸ Aa14.other hlbA (setMany cr8 (k * 22) f.v.toList); have by15 := hWy15 ▸ ba14.setRow lb (.inr hlbw) (setMany cr8 (k * 22) f.v.toList); have nOT : ∀ y : Addr, (some ⟨lb, 0, none⟩ : Option Addr) = some y → y.block ≠ rb := fun y hy => by { cases hy; exact fun e => hlbT e.symm }; have y17 := Ty15.cell 3 (.slice (some ⟨p2, off2, none⟩) s.L.length c) rfl; have z18 := Ty15.frozen 3; obtain ⟨Wm16, hWm16⟩ : ∃ W, Wy15.setCell ⟨rb, 3, none⟩ (.slice (some ⟨lb, 0, none⟩) s.L.length c8) = W := ⟨_, rfl⟩; have Tm16 : Blk Wm16 rb 41 #[.int .i64 s.most, .int .i64 s.quota, .int .i64 s.now, .slice (some ⟨lb, 0, none⟩) s.L.length c8] := hWm16 ▸ Ty15.put 3 (.slice (some ⟨lb, 0, none⟩) s.L.length c8); have Em16 := hWm16 ▸ Ey15.put_other Ty15 nET 3 (.slice (some ⟨lb, 0, none⟩) s.L.length c8); have Am16 := hWm16 ▸ Ay15.put_other Ty15 nAT 3 (.slice (some ⟨lb, 0, none⟩) s.L.length c8); have Om16 := hWm16 ▸ Oy15.put_other Ty15 nOT 3 (.slice (some ⟨lb, 0, none⟩) s.L.length c8); have bm16 := hWm16 ▸ by15.setCell rb 3 (.inl rfl) (.slice (some ⟨lb, 0, none⟩) s.L.length c8)) | (refine wpList_load_blk_w (by rfl) _ _ rfl w.heap.size (by rfl) _ Aa14 Try.underlying28 (by kernel_rfl) ?_) | (refine wpList_store_off rfl _ _ _ rfl lb (k * 22) _ f.v cr8 _ (by rfl) (by rfl) hb8 (by kernel_rfl) hsz8' (by kernel_rfl) rfl ?_; rw [hWy15]))
              have hR2 : R = (((⟨s.most, s.quota, s.now, s.L.set k f⟩, 0) : Xt × Int)) := by rw [← HR.out]; exact (add_put (by assumption) (by assumption)).trans (xput_same (ix_at HX.out (by assumption) HB.out) HX.out (by assumption))
              subst hR2
              go_ret
              exact ⟨rfl, ⟨some ⟨lb, 0, none⟩, c8, ⟨(by show Blk _ _ _ #[.int .i64 s.most, .int .i64 s.quota, .int .i64 s.now, .slice (some ⟨lb, 0, none⟩) (s.L.set k f).length c8]; rw [List.length_set]; exact Tm16), Om16.toE, nOT⟩, (fun y hy => by cases hy; exact .inr hlbw)⟩, bm16⟩



        · have ik : ¬ (k : Int) < (s.L.length : Int) := by omega
          have ik' : decide ((k : Int) < (s.L.length : Int)) = false := by simpa using ik
          have hke : k = s.L.length := by omega
          have htk : s.L.take k = s.L := List.take_of_length_le (by omega)
          rw [htk]
          rw [htk] at hcl
          have hIX := ix_no (fun j q hj hf => HB.out j q (by omega) hf)
          cases hq21 : (decide (s.quota ≤ (cntW f.m s.L : Int))) with
          | false =>
            have c22 := Tr.cell 3 (.slice a s.L.length c) rfl
            have c23 := Tr.cell 1 (.int .i64 s.quota) rfl
            go_wp2_with fail
            clear c22 c23
            obtain ⟨Wdq24, hWdq24⟩ : ∃ W, Wr.drew = W := ⟨_, rfl⟩
            have Tdq24 := hWdq24 ▸ Tr.drew
            have Edq24 := hWdq24 ▸ Er.drew
            have Adq24 := hWdq24 ▸ Ar.drew
            have bdq24 := hWdq24 ▸ br.drew
            refine wp_region_noPanic ?_
            refine wp_region_held_drew (S := fun w' => Blk w' rb 41 #[.int .i64 s.most, .int .i64 s.quota, .int .i64 s.now, .slice a s.L.length c] ∧ RowE w' a c s.L ∧ Blk w' w.heap.size 28 f.v) (by kernel_rfl) (by rw [hWdq24]; exact ⟨Tdq24, Edq24, Adq24⟩) (fun hHeld => ?_)
            rw [hWdq24] at hHeld ⊢
            refine qtk (i := 0) (oi := { dst := some 83, op := Op.move (.tmp 0), type := 47, pos := "ref.go:81", after := #[], guard := none }) (v := (.pointer (some ⟨rb, 0, none⟩))) hHeld ?_ ?_
            · intro w9 hSw
              try dsimp only at hSw
              go_simp
            try simp only [qpu]
            refine qtk (i := 1) (oi := { dst := some 84, op := Op.nilCheck (.tmp 83), type := 0, pos := "ref.go:81", after := #[{ on := 0, ground := Ground.data }], guard := none }) (v := (.pointer (some ⟨rb, 0, none⟩))) hHeld ?_ ?_
            · intro w9 hSw
              try dsimp only at hSw
              go_simp
            try simp only [qpu]
            refine qtk (i := 2) (oi := { dst := some 85, op := Op.fieldAddr 41 (.tmp 84) 3, type := 0, pos := "ref.go:81", after := #[{ on := 1, ground := Ground.data }], guard := none }) (v := (.pointer (some ⟨rb, 3, none⟩))) hHeld ?_ ?_
            · intro w9 hSw
              try dsimp only at hSw
              go_simp
            try simp only [qpu]
            refine qtk (i := 3) (oi := { dst := some 86, op := Op.load 39 (.tmp 85), type := 39, pos := "ref.go:81", after := #[{ on := 2, ground := Ground.data }], guard := none }) (v := (.slice a s.L.length c)) hHeld ?_ ?_
            · intro w9 hSw
              try dsimp only at hSw
              have hcc := hSw.1.cell 3 (.slice a s.L.length c) rfl
              go_simp
            try simp only [qpu]
            refine qtk (i := 4) (oi := { dst := some 87, op := Op.call { callee := Callee.builtin Builtin.len, args := #[.tmp 86], argTypes := #[39] }, type := 3, pos := "ref.go:81", after := #[{ on := 3, ground := Ground.data }], guard := none }) (v := (.int .i64 (s.L.length : Int))) hHeld ?_ ?_
            · intro w9 hSw
              try dsimp only at hSw
              go_simp
            try simp only [qpu]
            refine qtk (i := 5) (oi := { dst := some 88, op := Op.move (.tmp 0), type := 47, pos := "ref.go:81", after := #[], guard := none }) (v := (.pointer (some ⟨rb, 0, none⟩))) hHeld ?_ ?_
            · intro w9 hSw
              try dsimp only at hSw
              go_simp
            try simp only [qpu]
            refine qtk (i := 6) (oi := { dst := some 89, op := Op.nilCheck (.tmp 88), type := 0, pos := "ref.go:81", after := #[{ on := 5, ground := Ground.data }], guard := none }) (v := (.pointer (some ⟨rb, 0, none⟩))) hHeld ?_ ?_
            · intro w9 hSw
              try dsimp only at hSw
              go_simp
            try simp only [qpu]
            refine qtk (i := 7) (oi := { dst := some 90, op := Op.fieldAddr 41 (.tmp 89) 0, type := 0, pos := "ref.go:81", after := #[{ on := 6, ground := Ground.data }], guard := none }) (v := (.pointer (some ⟨rb, 0, none⟩))) hHeld ?_ ?_
            · intro w9 hSw
              try dsimp only at hSw
              go_simp
            try simp only [qpu]
            refine qtk (i := 8) (oi := { dst := some 91, op := Op.load 3 (.tmp 90), type := 3, pos := "ref.go:81", after := #[{ on := 7, ground := Ground.data }], guard := none }) (v := (.int .i64 s.most)) hHeld ?_ ?_
            · intro w9 hSw
              try dsimp only at hSw
              have hcc := hSw.1.cell 0 (.int .i64 s.most) rfl
              go_simp
            try simp only [qpu]
            refine qtk (i := 9) (oi := { dst := some 92, op := Op.binOp BinOp.geq 3 (.tmp 87) (.tmp 91) 3, type := 4, pos := "ref.go:81", after := #[{ on := 4, ground := Ground.data }, { on := 8, ground := Ground.data }], guard := none }) (v := (.bool (decide (s.most ≤ (s.L.length : Int))))) hHeld ?_ ?_
            · intro w9 hSw
              try dsimp only at hSw
              go_simp
            try simp only [qpu]
            refine wpAnyH_done (by kernel_rfl) ?_ _
            refine NoPanic.normal ?_
            cases hq25 : (decide (s.most ≤ (s.L.length : Int))) with
            | false =>
              go_wp2_with fail
              obtain ⟨Wdq26, hWdq26⟩ : ∃ W, Wdq24.drew = W := ⟨_, rfl⟩
              have Tdq26 := hWdq26 ▸ Tdq24.drew
              have Edq26 := hWdq26 ▸ Edq24.drew
              have Adq26 := hWdq26 ▸ Adq24.drew
              have bdq26 := hWdq26 ▸ bdq24.drew
              refine wp_region_noPanic ?_
              refine wp_region_held_drew (S := fun w' => RowE w' a c s.L ∧ Blk w' w.heap.size 28 f.v) (by kernel_rfl) (by rw [hWdq26]; exact ⟨Edq26, Adq26⟩) (fun hHeld => ?_)
              rw [hWdq26] at hHeld ⊢
              refine qtk (i := 0) (oi := { dst := some 93, op := Op.move (.tmp 0), type := 47, pos := "ref.go:84", after := #[], guard := none }) (v := (.pointer (some ⟨rb, 0, none⟩))) hHeld ?_ ?_
              · intro w9 hSw
                try dsimp only at hSw
                go_simp
              try simp only [qpu]
              refine qtk (i := 1) (oi := { dst := some 94, op := Op.move (.tmp 0), type := 47, pos := "ref.go:84", after := #[], guard := none }) (v := (.pointer (some ⟨rb, 0, none⟩))) hHeld ?_ ?_
              · intro w9 hSw
                try dsimp only at hSw
                go_simp
              try simp only [qpu]
              refine qtk (i := 2) (oi := { dst := some 95, op := Op.nilCheck (.tmp 94), type := 0, pos := "ref.go:84", after := #[{ on := 1, ground := Ground.data }], guard := none }) (v := (.pointer (some ⟨rb, 0, none⟩))) hHeld ?_ ?_
              · intro w9 hSw
                try dsimp only at hSw
                go_simp
              try simp only [qpu]
              refine qtk (i := 3) (oi := { dst := some 96, op := Op.fieldAddr 41 (.tmp 95) 3, type := 0, pos := "ref.go:84", after := #[{ on := 2, ground := Ground.data }], guard := none }) (v := (.pointer (some ⟨rb, 3, none⟩))) hHeld ?_ ?_
              · intro w9 hSw
                try dsimp only at hSw
                go_simp
              try simp only [qpu]
              refine qty (i := 6) (oi := { dst := some 99, op := Op.load 28 (.tmp 3), type := 28, pos := "ref.go:84", after := #[], guard := none }) (v := (.agg f.v)) (yieldsIf_blk_w (by kernel_rfl) _ _ rfl w.heap.size (by rfl) _ (fun _ hSw => hSw.2) Try.underlying28 (by kernel_rfl)) hHeld ?_
              try simp only [qpu]
              refine wpAnyH_ready (rs := [4, 7]) (by kernel_rfl) (by simp) ?_
              refine AllReadyH.cons (o := xpa34o14) rfl (fun K hK => ?_) (AllReadyH.cons (o := xpa34o5) rfl (fun K hK => ?_) AllReadyH.nil)
              · have cld := Tdq26.cell 3 (.slice a s.L.length c) rfl
                go_simp
                clear cld
                refine hK.out _ _ (by exact ⟨Edq26, Adq26⟩) (fun hHeld => ?_)
                clear hK K
                try simp only [qpu]
                refine wpAnyH_ready (rs := [5, 7]) (by kernel_rfl) (by simp) ?_
                refine AllReadyH.cons (o := xpa34o4) rfl (fun K hK => ?_) (AllReadyH.cons (o := xpa34o5) rfl (fun K hK => ?_) AllReadyH.nil)
                · obtain ⟨a8, c8, Wp27, hrun, Op27, gr⟩ := run_appWs Wdq26 39 Wdq26.heap.size none 0 [] (own_noneW _ _) a c s.L Edq26 (by simp; omega) (Nat.le_refl _)
                  refine step_rnW rfl _ _ _ rfl _ _ (by rfl) (by rfl) _ _ hrun ?_
                  have bg : But (fun _ => False) Wdq26 Wp27 := (But.refl _ _).grown gr (fun n hn => by cases hn)
                  have bp27 := bdq26.trans bg (fun n _ e => e.elim)
                  obtain ⟨B8, hB8⟩ : ∃ B, Wdq26.heap.size = B := ⟨_, rfl⟩
                  rw [hB8] at Op27
                  have hw8 : w.heap.size ≤ B8 := by rw [← hB8]; exact bdq26.size
                  have hlE : ∀ y : Addr, a = some y → y.block < B8 := by rw [← hB8]; exact Edq26.lt
                  have Ep27 := Edq26.but bg (fun _ _ h => h)
                  have hlA : w.heap.size < B8 := by rw [← hB8]; exact Adq26.lt
                  have Ap27 := Adq26.but bg (fun h => h)
                  have hlT : rb < B8 := by rw [← hB8]; exact Tdq26.lt
                  have Tp27 := Tdq26.but bg (fun h => h)
                  have hsz8 : B8 ≤ Wp27.heap.size := by rw [← hB8]; exact bg.size
                  clear hrun gr bg hB8
                  refine hK.out _ _ (by exact ⟨Ep27, Ap27⟩) (fun hHeld => ?_)
                  clear hK K
                  try simp only [qpu]
                  refine wpAnyH_ready (rs := [7]) (by kernel_rfl) (by simp) ?_
                  refine AllReadyH.cons (o := xpa34o5) rfl (fun K hK => ?_) AllReadyH.nil
                  go_simp
                  obtain ⟨Ws28, hWs28⟩ : ∃ W, Wp27.alloc (.cells f.v 28) = W := ⟨_, rfl⟩
                  rw [hWs28]
                  have Es28 := Ep27.al hWs28
                  have As28 := Ap27.al hWs28
                  have Ts28 := Tp27.al hWs28
                  have Os28 := Op27.al hWs28
                  have hlY : ∀ y : Addr, a8 = some y → y.block ≠ Wp27.heap.size := fun y hy => by have := Op27.lt_size y hy; omega
                  have hsz8 : B8 ≤ Ws28.heap.size := Nat.le_trans hsz8 (by rw [← hWs28]; exact alloc_le_x _ _)
                  have Ys28 := blk_nw hWs28
                  have bs28 := but_al bp27 hWs28
                  refine hK.out _ _ (by exact ⟨Es28, As28⟩) (fun hHeld => ?_)
                  clear hK K
                  try simp only [qpu]
                  refine wpAnyH_ready (rs := [8]) (by kernel_rfl) (by simp) ?_
                  refine AllReadyH.cons (o := xpa34o3) rfl (fun K hK => ?_) AllReadyH.nil
                  obtain ⟨ga, ca, Wp29, hrun, Op29, gr, _⟩ := run_appW1 Ws28 39 B8 a8 c8 ([] ++ s.L) Os28 Wp27.heap.size 1 _ f Ys28 (by simp; omega) hsz8
                  refine step_rnW rfl _ _ _ rfl _ _ (by rfl) (by rfl) _ _ hrun ?_
                  have bg : But (fun k => a8.map (·.block) = some k) Ws28 Wp29 := (But.refl _ _).grown gr (fun n hn => .inl hn)
                  have hga : B8 ≤ ga := Op29.lt _ rfl
                  have bp29 : But (fun k => k = rb) w Wp29 := bs28.trans bg (fun n hn e => absurd e (map_geW Os28.lt (Nat.lt_of_lt_of_le hn hw8)))
                  have Ep29 := Es28.but bg (fun y hy => map_geW Os28.lt (hlE y hy))
                  have Ap29 := As28.but bg (map_geW Os28.lt hlA)
                  have Tp29 := Ts28.but bg (map_geW Os28.lt hlT)
                  clear hrun gr bg
                  refine hK.out _ _ (by exact ⟨Ep29, Ap29⟩) (fun hHeld => ?_)
                  clear hK K
                  try simp only [qpu]
                  refine qtk (i := 9) (oi := xpa34o2) (v := (.pointer (some ⟨rb, 0, none⟩))) hHeld ?_ ?_
                  · intro w9 hSw
                    try dsimp only at hSw
                    go_simp
                  try simp only [qpu]
                  refine qtk (i := 10) (oi := xpa34o1) (v := (.pointer (some ⟨rb, 3, none⟩))) hHeld ?_ ?_
                  · intro w9 hSw
                    try dsimp only at hSw
                    go_simp
                  try simp only [qpu]
                  refine wpAnyH_ready (rs := [11]) (by kernel_rfl) (by simp) ?_
                  refine AllReadyH.cons (o := xpa34o0) rfl (fun K hK => ?_) AllReadyH.nil
                  refine step_store_one rfl _ _ _ rfl rb 3 _ (.slice (some ⟨ga, 0, none⟩) (([] ++ s.L).length + 1) ca) #[.int .i64 s.most, .int .i64 s.quota, .int .i64 s.now, .slice a s.L.length c] #[.int .i64 s.most, .int .i64 s.quota, .int .i64 s.now, .slice (some ⟨ga, 0, none⟩) (([] ++ s.L).length + 1) ca] (by rfl) (by rfl) rfl rfl Tp29 (by kernel_rfl) (by simp) (by rfl) ?_
                  obtain ⟨Wx30, hWx30⟩ : ∃ W, Wp29.setRow rb #[.int .i64 s.most, .int .i64 s.quota, .int .i64 s.now, .slice (some ⟨ga, 0, none⟩) (([] ++ s.L).length + 1) ca] = W := ⟨_, rfl⟩
                  rw [hWx30]
                  have Tx30 : Blk Wx30 rb 41 #[.int .i64 s.most, .int .i64 s.quota, .int .i64 s.now, .slice (some ⟨ga, 0, none⟩) (([] ++ s.L).length + 1) ca] := hWx30 ▸ Tp29.set #[.int .i64 s.most, .int .i64 s.quota, .int .i64 s.now, .slice (some ⟨ga, 0, none⟩) (([] ++ s.L).length + 1) ca]
                  have Ex30 := hWx30 ▸ Ep29.other nET #[.int .i64 s.most, .int .i64 s.quota, .int .i64 s.now, .slice (some ⟨ga, 0, none⟩) (([] ++ s.L).length + 1) ca]
                  have Ax30 := hWx30 ▸ Ap29.other nAT #[.int .i64 s.most, .int .i64 s.quota, .int .i64 s.now, .slice (some ⟨ga, 0, none⟩) (([] ++ s.L).length + 1) ca]
                  have Ox30 := hWx30 ▸ Op29.other (fun y hy => by have := Op29.lt y hy; have := hlT; omega) #[.int .i64 s.most, .int .i64 s.quota, .int .i64 s.now, .slice (some ⟨ga, 0, none⟩) (([] ++ s.L).length + 1) ca]
                  have bx30 := hWx30 ▸ bp29.setRow rb (.inl rfl) #[.int .i64 s.most, .int .i64 s.quota, .int .i64 s.now, .slice (some ⟨ga, 0, none⟩) (([] ++ s.L).length + 1) ca]
                  refine hK.out _ _ (by exact ⟨Ex30, Ax30⟩) (fun hHeld => ?_)
                  clear hK K
                  try simp only [qpu]
                  refine wpAnyH_done (by kernel_rfl) ?_ _
                  refine NoPanic.normal ?_
                  go_wp2_with fail
                  have hR2 : R = (((⟨s.most, s.quota, s.now, s.L ++ [f]⟩, 0) : Xt × Int)) := by rw [← HR.out]; exact (add_put (by assumption) (by assumption)).trans (xput_new hIX (of_decide_eq_false (by assumption)) (of_decide_eq_false (by assumption)))
                  subst hR2
                  go_ret
                  exact ⟨rfl, ⟨some ⟨ga, 0, none⟩, ca, ⟨(by show Blk _ _ _ #[.int .i64 s.most, .int .i64 s.quota, .int .i64 s.now, .slice (some ⟨ga, 0, none⟩) (s.L ++ [f]).length ca]; rw [List.length_append]; exact Tx30), Ox30.toE, (fun y hy => by cases hy; show ga ≠ rb; have := hlT; omega)⟩, (fun y hy => by cases hy; exact .inr (Nat.le_trans hw8 hga))⟩, bx30⟩
                · go_simp
                  obtain ⟨Ws31, hWs31⟩ : ∃ W, Wdq26.alloc (.cells f.v 28) = W := ⟨_, rfl⟩
                  rw [hWs31]
                  have Es31 := Edq26.al hWs31
                  have As31 := Adq26.al hWs31
                  have Ts31 := Tdq26.al hWs31
                  have hwY : Wdq26.heap.size < Ws31.heap.size := by rw [← hWs31]; exact alloc_lt_x _ _
                  have Ys31 := blk_nw hWs31
                  have bs31 := but_al bdq26 hWs31
                  refine hK.out _ _ (by exact ⟨Es31, As31⟩) (fun hHeld => ?_)
                  clear hK K
                  try simp only [qpu]
                  refine wpAnyH_ready (rs := [5]) (by kernel_rfl) (by simp) ?_
                  refine AllReadyH.cons (o := xpa34o4) rfl (fun K hK => ?_) AllReadyH.nil
                  obtain ⟨a8, c8, Wp32, hrun, Op32, gr⟩ := run_appWs Ws31 39 Ws31.heap.size none 0 [] (own_noneW _ _) a c s.L Es31 (by simp; omega) (Nat.le_refl _)
                  refine step_rnW rfl _ _ _ rfl _ _ (by rfl) (by rfl) _ _ hrun ?_
                  have bg : But (fun _ => False) Ws31 Wp32 := (But.refl _ _).grown gr (fun n hn => by cases hn)
                  have bp32 := bs31.trans bg (fun n _ e => e.elim)
                  obtain ⟨B8, hB8⟩ : ∃ B, Ws31.heap.size = B := ⟨_, rfl⟩
                  rw [hB8] at Op32
                  have hw8 : w.heap.size ≤ B8 := by rw [← hB8]; exact bs31.size
                  have hlE : ∀ y : Addr, a = some y → y.block < B8 := by rw [← hB8]; exact Es31.lt
                  have Ep32 := Es31.but bg (fun _ _ h => h)
                  have hlA : w.heap.size < B8 := by rw [← hB8]; exact As31.lt
                  have Ap32 := As31.but bg (fun h => h)
                  have hlT : rb < B8 := by rw [← hB8]; exact Ts31.lt
                  have Tp32 := Ts31.but bg (fun h => h)
                  have hlY : Wdq26.heap.size < B8 := by rw [← hB8]; exact Ys31.lt
                  have Yp32 := Ys31.but bg (fun h => h)
                  have hsz8 : B8 ≤ Wp32.heap.size := by rw [← hB8]; exact bg.size
                  clear hrun gr bg hB8
                  refine hK.out _ _ (by exact ⟨Ep32, Ap32⟩) (fun hHeld => ?_)
                  clear hK K
                  try simp only [qpu]
                  refine wpAnyH_ready (rs := [8]) (by kernel_rfl) (by simp) ?_
                  refine AllReadyH.cons (o := xpa34o3) rfl (fun K hK => ?_) AllReadyH.nil
                  obtain ⟨ga, ca, Wp33, hrun, Op33, gr, _⟩ := run_appW1 Wp32 39 B8 a8 c8 ([] ++ s.L) Op32 Wdq26.heap.size 1 _ f Yp32 (by simp; omega) hsz8
                  refine step_rnW rfl _ _ _ rfl _ _ (by rfl) (by rfl) _ _ hrun ?_
                  have bg : But (fun k => a8.map (·.block) = some k) Wp32 Wp33 := (But.refl _ _).grown gr (fun n hn => .inl hn)
                  have hga : B8 ≤ ga := Op33.lt _ rfl
                  have bp33 : But (fun k => k = rb) w Wp33 := bp32.trans bg (fun n hn e => absurd e (map_geW Op32.lt (Nat.lt_of_lt_of_le hn hw8)))
                  have Ep33 := Ep32.but bg (fun y hy => map_geW Op32.lt (hlE y hy))
                  have Ap33 := Ap32.but bg (map_geW Op32.lt hlA)
                  have Tp33 := Tp32.but bg (map_geW Op32.lt hlT)
                  clear hrun gr bg
                  refine hK.out _ _ (by exact ⟨Ep33, Ap33⟩) (fun hHeld => ?_)
                  clear hK K
                  try simp only [qpu]
                  refine qtk (i := 9) (oi := xpa34o2) (v := (.pointer (some ⟨rb, 0, none⟩))) hHeld ?_ ?_
                  · intro w9 hSw
                    try dsimp only at hSw
                    go_simp
                  try simp only [qpu]
                  refine qtk (i := 10) (oi := xpa34o1) (v := (.pointer (some ⟨rb, 3, none⟩))) hHeld ?_ ?_
                  · intro w9 hSw
                    try dsimp only at hSw
                    go_simp
                  try simp only [qpu]
                  refine wpAnyH_ready (rs := [11]) (by kernel_rfl) (by simp) ?_
                  refine AllReadyH.cons (o := xpa34o0) rfl (fun K hK => ?_) AllReadyH.nil
                  refine step_store_one rfl _ _ _ rfl rb 3 _ (.slice (some ⟨ga, 0, none⟩) (([] ++ s.L).length + 1) ca) #[.int .i64 s.most, .int .i64 s.quota, .int .i64 s.now, .slice a s.L.length c] #[.int .i64 s.most, .int .i64 s.quota, .int .i64 s.now, .slice (some ⟨ga, 0, none⟩) (([] ++ s.L).length + 1) ca] (by rfl) (by rfl) rfl rfl Tp33 (by kernel_rfl) (by simp) (by rfl) ?_
                  obtain ⟨Wx34, hWx34⟩ : ∃ W, Wp33.setRow rb #[.int .i64 s.most, .int .i64 s.quota, .int .i64 s.now, .slice (some ⟨ga, 0, none⟩) (([] ++ s.L).length + 1) ca] = W := ⟨_, rfl⟩
                  rw [hWx34]
                  have Tx34 : Blk Wx34 rb 41 #[.int .i64 s.most, .int .i64 s.quota, .int .i64 s.now, .slice (some ⟨ga, 0, none⟩) (([] ++ s.L).length + 1) ca] := hWx34 ▸ Tp33.set #[.int .i64 s.most, .int .i64 s.quota, .int .i64 s.now, .slice (some ⟨ga, 0, none⟩) (([] ++ s.L).length + 1) ca]
                  have Ex34 := hWx34 ▸ Ep33.other nET #[.int .i64 s.most, .int .i64 s.quota, .int .i64 s.now, .slice (some ⟨ga, 0, none⟩) (([] ++ s.L).length + 1) ca]
                  have Ax34 := hWx34 ▸ Ap33.other nAT #[.int .i64 s.most, .int .i64 s.quota, .int .i64 s.now, .slice (some ⟨ga, 0, none⟩) (([] ++ s.L).length + 1) ca]
                  have Ox34 := hWx34 ▸ Op33.other (fun y hy => by have := Op33.lt y hy; have := hlT; omega) #[.int .i64 s.most, .int .i64 s.quota, .int .i64 s.now, .slice (some ⟨ga, 0, none⟩) (([] ++ s.L).length + 1) ca]
                  have bx34 := hWx34 ▸ bp33.setRow rb (.inl rfl) #[.int .i64 s.most, .int .i64 s.quota, .int .i64 s.now, .slice (some ⟨ga, 0, none⟩) (([] ++ s.L).length + 1) ca]
                  refine hK.out _ _ (by exact ⟨Ex34, Ax34⟩) (fun hHeld => ?_)
                  clear hK K
                  try simp only [qpu]
                  refine wpAnyH_done (by kernel_rfl) ?_ _
                  refine NoPanic.normal ?_
                  go_wp2_with fail
                  have hR2 : R = (((⟨s.most, s.quota, s.now, s.L ++ [f]⟩, 0) : Xt × Int)) := by rw [← HR.out]; exact (add_put (by assumption) (by assumption)).trans (xput_new hIX (of_decide_eq_false (by assumption)) (of_decide_eq_false (by assumption)))
                  subst hR2
                  go_ret
                  exact ⟨rfl, ⟨some ⟨ga, 0, none⟩, ca, ⟨(by show Blk _ _ _ #[.int .i64 s.most, .int .i64 s.quota, .int .i64 s.now, .slice (some ⟨ga, 0, none⟩) (s.L ++ [f]).length ca]; rw [List.length_append]; exact Tx34), Ox34.toE, (fun y hy => by cases hy; show ga ≠ rb; have := hlT; omega)⟩, (fun y hy => by cases hy; exact .inr (Nat.le_trans hw8 hga))⟩, bx34⟩
              · go_simp
                obtain ⟨Ws35, hWs35⟩ : ∃ W, Wdq26.alloc (.cells f.v 28) = W := ⟨_, rfl⟩
                rw [hWs35]
                have Es35 := Edq26.al hWs35
                have As35 := Adq26.al hWs35
                have Ts35 := Tdq26.al hWs35
                have hwY : Wdq26.heap.size < Ws35.heap.size := by rw [← hWs35]; exact alloc_lt_x _ _
                have Ys35 := blk_nw hWs35
                have bs35 := but_al bdq26 hWs35
                refine hK.out _ _ (by exact ⟨Es35, As35⟩) (fun hHeld => ?_)
                clear hK K
                try simp only [qpu]
                refine wpAnyH_ready (rs := [4]) (by kernel_rfl) (by simp) ?_
                refine AllReadyH.cons (o := xpa34o14) rfl (fun K hK => ?_) AllReadyH.nil
                have cld := Ts35.cell 3 (.slice a s.L.length c) rfl
                go_simp
                clear cld
                refine hK.out _ _ (by exact ⟨Es35, As35⟩) (fun hHeld => ?_)
                clear hK K
                try simp only [qpu]
                refine wpAnyH_ready (rs := [5]) (by kernel_rfl) (by simp) ?_
                refine AllReadyH.cons (o := xpa34o4) rfl (fun K hK => ?_) AllReadyH.nil
                obtain ⟨a8, c8, Wp36, hrun, Op36, gr⟩ := run_appWs Ws35 39 Ws35.heap.size none 0 [] (own_noneW _ _) a c s.L Es35 (by simp; omega) (Nat.le_refl _)
                refine step_rnW rfl _ _ _ rfl _ _ (by rfl) (by rfl) _ _ hrun ?_
                have bg : But (fun _ => False) Ws35 Wp36 := (But.refl _ _).grown gr (fun n hn => by cases hn)
                have bp36 := bs35.trans bg (fun n _ e => e.elim)
                obtain ⟨B8, hB8⟩ : ∃ B, Ws35.heap.size = B := ⟨_, rfl⟩
                rw [hB8] at Op36
                have hw8 : w.heap.size ≤ B8 := by rw [← hB8]; exact bs35.size
                have hlE : ∀ y : Addr, a = some y → y.block < B8 := by rw [← hB8]; exact Es35.lt
                have Ep36 := Es35.but bg (fun _ _ h => h)
                have hlA : w.heap.size < B8 := by rw [← hB8]; exact As35.lt
                have Ap36 := As35.but bg (fun h => h)
                have hlT : rb < B8 := by rw [← hB8]; exact Ts35.lt
                have Tp36 := Ts35.but bg (fun h => h)
                have hlY : Wdq26.heap.size < B8 := by rw [← hB8]; exact Ys35.lt
                have Yp36 := Ys35.but bg (fun h => h)
                have hsz8 : B8 ≤ Wp36.heap.size := by rw [← hB8]; exact bg.size
                clear hrun gr bg hB8
                refine hK.out _ _ (by exact ⟨Ep36, Ap36⟩) (fun hHeld => ?_)
                clear hK K
                try simp only [qpu]
                refine wpAnyH_ready (rs := [8]) (by kernel_rfl) (by simp) ?_
                refine AllReadyH.cons (o := xpa34o3) rfl (fun K hK => ?_) AllReadyH.nil
                obtain ⟨ga, ca, Wp37, hrun, Op37, gr, _⟩ := run_appW1 Wp36 39 B8 a8 c8 ([] ++ s.L) Op36 Wdq26.heap.size 1 _ f Yp36 (by simp; omega) hsz8
                refine step_rnW rfl _ _ _ rfl _ _ (by rfl) (by rfl) _ _ hrun ?_
                have bg : But (fun k => a8.map (·.block) = some k) Wp36 Wp37 := (But.refl _ _).grown gr (fun n hn => .inl hn)
                have hga : B8 ≤ ga := Op37.lt _ rfl
                have bp37 : But (fun k => k = rb) w Wp37 := bp36.trans bg (fun n hn e => absurd e (map_geW Op36.lt (Nat.lt_of_lt_of_le hn hw8)))
                have Ep37 := Ep36.but bg (fun y hy => map_geW Op36.lt (hlE y hy))
                have Ap37 := Ap36.but bg (map_geW Op36.lt hlA)
                have Tp37 := Tp36.but bg (map_geW Op36.lt hlT)
                clear hrun gr bg
                refine hK.out _ _ (by exact ⟨Ep37, Ap37⟩) (fun hHeld => ?_)
                clear hK K
                try simp only [qpu]
                refine qtk (i := 9) (oi := xpa34o2) (v := (.pointer (some ⟨rb, 0, none⟩))) hHeld ?_ ?_
                · intro w9 hSw
                  try dsimp only at hSw
                  go_simp
                try simp only [qpu]
                refine qtk (i := 10) (oi := xpa34o1) (v := (.pointer (some ⟨rb, 3, none⟩))) hHeld ?_ ?_
                · intro w9 hSw
                  try dsimp only at hSw
                  go_simp
                try simp only [qpu]
                refine wpAnyH_ready (rs := [11]) (by kernel_rfl) (by simp) ?_
                refine AllReadyH.cons (o := xpa34o0) rfl (fun K hK => ?_) AllReadyH.nil
                refine step_store_one rfl _ _ _ rfl rb 3 _ (.slice (some ⟨ga, 0, none⟩) (([] ++ s.L).length + 1) ca) #[.int .i64 s.most, .int .i64 s.quota, .int .i64 s.now, .slice a s.L.length c] #[.int .i64 s.most, .int .i64 s.quota, .int .i64 s.now, .slice (some ⟨ga, 0, none⟩) (([] ++ s.L).length + 1) ca] (by rfl) (by rfl) rfl rfl Tp37 (by kernel_rfl) (by simp) (by rfl) ?_
                obtain ⟨Wx38, hWx38⟩ : ∃ W, Wp37.setRow rb #[.int .i64 s.most, .int .i64 s.quota, .int .i64 s.now, .slice (some ⟨ga, 0, none⟩) (([] ++ s.L).length + 1) ca] = W := ⟨_, rfl⟩
                rw [hWx38]
                have Tx38 : Blk Wx38 rb 41 #[.int .i64 s.most, .int .i64 s.quota, .int .i64 s.now, .slice (some ⟨ga, 0, none⟩) (([] ++ s.L).length + 1) ca] := hWx38 ▸ Tp37.set #[.int .i64 s.most, .int .i64 s.quota, .int .i64 s.now, .slice (some ⟨ga, 0, none⟩) (([] ++ s.L).length + 1) ca]
                have Ex38 := hWx38 ▸ Ep37.other nET #[.int .i64 s.most, .int .i64 s.quota, .int .i64 s.now, .slice (some ⟨ga, 0, none⟩) (([] ++ s.L).length + 1) ca]
                have Ax38 := hWx38 ▸ Ap37.other nAT #[.int .i64 s.most, .int .i64 s.quota, .int .i64 s.now, .slice (some ⟨ga, 0, none⟩) (([] ++ s.L).length + 1) ca]
                have Ox38 := hWx38 ▸ Op37.other (fun y hy => by have := Op37.lt y hy; have := hlT; omega) #[.int .i64 s.most, .int .i64 s.quota, .int .i64 s.now, .slice (some ⟨ga, 0, none⟩) (([] ++ s.L).length + 1) ca]
                have bx38 := hWx38 ▸ bp37.setRow rb (.inl rfl) #[.int .i64 s.most, .int .i64 s.quota, .int .i64 s.now, .slice (some ⟨ga, 0, none⟩) (([] ++ s.L).length + 1) ca]
                refine hK.out _ _ (by exact ⟨Ex38, Ax38⟩) (fun hHeld => ?_)
                clear hK K
                try simp only [qpu]
                refine wpAnyH_done (by kernel_rfl) ?_ _
                refine NoPanic.normal ?_
                go_wp2_with fail
                have hR2 : R = (((⟨s.most, s.quota, s.now, s.L ++ [f]⟩, 0) : Xt × Int)) := by rw [← HR.out]; exact (add_put (by assumption) (by assumption)).trans (xput_new hIX (of_decide_eq_false (by assumption)) (of_decide_eq_false (by assumption)))
                subst hR2
                go_ret
                exact ⟨rfl, ⟨some ⟨ga, 0, none⟩, ca, ⟨(by show Blk _ _ _ #[.int .i64 s.most, .int .i64 s.quota, .int .i64 s.now, .slice (some ⟨ga, 0, none⟩) (s.L ++ [f]).length ca]; rw [List.length_append]; exact Tx38), Ox38.toE, (fun y hy => by cases hy; show ga ≠ rb; have := hlT; omega)⟩, (fun y hy => by cases hy; exact .inr (Nat.le_trans hw8 hga))⟩, bx38⟩

            | true =>
              go_wp2_with fail
              have hR2 : R = (((s, 12) : Xt × Int)) := by rw [← HR.out]; exact (add_put (by assumption) (by assumption)).trans (xput_full hIX (of_decide_eq_false (by assumption)) (of_decide_eq_true (by assumption)))
              subst hR2
              go_ret
              exact ⟨rfl, ⟨a, c, ⟨Tdq24, Edq24, nET⟩, (fun y hy => .inl hy)⟩, bdq24⟩


          | true =>
            have c39 := Tr.cell 3 (.slice a s.L.length c) rfl
            have c40 := Tr.cell 1 (.int .i64 s.quota) rfl
            go_wp2_with fail
            have hR2 : R = (((s, 17) : Xt × Int)) := by rw [← HR.out]; exact (add_put (by assumption) (by assumption)).trans (xput_quota hIX (of_decide_eq_true (by assumption)))
            subst hR2
            go_ret
            exact ⟨rfl, ⟨a, c, ⟨Tr, Er, nET⟩, (fun y hy => .inl hy)⟩, br⟩


    | true =>
      go_wp2_with fail
      have hR2 : R = (((s, 1) : Xt × Int)) := by rw [← HR.out]; exact add_late (by assumption)
      subst hR2
      go_ret
      exact ⟨rfl, ⟨a, c, ⟨Tx3, Ex3, nET⟩, (fun y hy => .inl hy)⟩, bx3⟩
end Go.Proofs.Ytmflogmocgbmhaa
