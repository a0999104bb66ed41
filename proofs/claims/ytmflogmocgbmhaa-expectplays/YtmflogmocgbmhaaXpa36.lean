/- Texts joined: XpY -/
import Derived.Test.YtmflogmocgbmhaaXpa35
namespace Go.Proofs.Ytmflogmocgbmhaa
abbrev xpa36o0 : Oper := { dst := some 44, op := Op.binOp BinOp.neq 26 (.tmp 42) (.tmp 43) 26, type := 4, pos := "ref.go:105", after := #[{ on := 15, ground := Ground.data }, { on := 16, ground := Ground.data }, { on := 13, ground := Ground.guard }], guard := some (13, true) }
abbrev xpa36o1 : Oper := { dst := some 45, op := Op.pick (.tmp 40) (.tmp 44) (.const (.bool false)), type := 4, pos := "ref.go:105", after := #[{ on := 13, ground := Ground.data }, { on := 17, ground := Ground.data }, { on := 10, ground := Ground.guard }], guard := some (10, false) }
abbrev xpa36o2 : Oper := { dst := some 40, op := Op.move (.tmp 39), type := 4, pos := "ref.go:105", after := #[{ on := 12, ground := Ground.data }, { on := 10, ground := Ground.chain }, { on := 10, ground := Ground.guard }], guard := some (10, false) }
abbrev xpa36o3 : Oper := { dst := some 46, op := Op.pick (.tmp 37) (.const (.bool true)) (.tmp 45), type := 4, pos := "ref.go:105", after := #[{ on := 10, ground := Ground.data }, { on := 18, ground := Ground.data }], guard := none }
abbrev xpa36o4 : Oper := { dst := some 39, op := Op.unOp UnOp.not 4 (.tmp 38), type := 4, pos := "ref.go:105", after := #[{ on := 11, ground := Ground.data }, { on := 10, ground := Ground.guard }], guard := some (10, false) }
abbrev xpa36o5 : Oper := { dst := some 42, op := Op.load 26 (.tmp 41), type := 26, pos := "ref.go:105", after := #[{ on := 14, ground := Ground.data }, { on := 13, ground := Ground.guard }], guard := some (13, true) }
abbrev xpa36o6 : Oper := { dst := some 35, op := Op.binOp BinOp.gtr 3 (.tmp 30) (.tmp 34) 3, type := 4, pos := "ref.go:105", after := #[{ on := 3, ground := Ground.data }, { on := 7, ground := Ground.data }, { on := 1, ground := Ground.guard }], guard := some (1, true) }
abbrev xpa36o7 : Oper := { dst := some 43, op := Op.load 26 (.tmp 4), type := 26, pos := "ref.go:105", after := #[{ on := 13, ground := Ground.guard }], guard := some (13, true) }
abbrev xpa36o8 : Oper := { dst := some 41, op := Op.fieldAddr 28 (.tmp 9) 1, type := 0, pos := "ref.go:105", after := #[{ on := 13, ground := Ground.guard }], guard := some (13, true) }
abbrev xpa36o9 : Oper := { dst := some 38, op := Op.move (.tmp 2), type := 4, pos := "ref.go:105", after := #[{ on := 10, ground := Ground.guard }], guard := some (10, false) }
abbrev xpa36o10 : Oper := { dst := some 33, op := Op.fieldAddr 41 (.tmp 32) 2, type := 0, pos := "ref.go:105", after := #[{ on := 5, ground := Ground.data }, { on := 1, ground := Ground.guard }], guard := some (1, true) }
abbrev xpa36o11 : Oper := { dst := some 36, op := Op.pick (.tmp 28) (.tmp 35) (.const (.bool false)), type := 4, pos := "ref.go:105", after := #[{ on := 1, ground := Ground.data }, { on := 8, ground := Ground.data }], guard := none }
abbrev xpa36o12 : Oper := { dst := some 30, op := Op.load 3 (.tmp 29), type := 3, pos := "ref.go:105", after := #[{ on := 2, ground := Ground.data }, { on := 1, ground := Ground.guard }], guard := some (1, true) }
abbrev xpa36o13 : Oper := { dst := some 34, op := Op.load 3 (.tmp 33), type := 3, pos := "ref.go:105", after := #[{ on := 6, ground := Ground.data }, { on := 1, ground := Ground.guard }], guard := some (1, true) }
abbrev xpa36o14 : Oper := { dst := some 32, op := Op.nilCheck (.tmp 31), type := 0, pos := "ref.go:105", after := #[{ on := 4, ground := Ground.data }, { on := 1, ground := Ground.guard }], guard := some (1, true) }
abbrev xpa36o15 : Oper := { dst := some 37, op := Op.move (.tmp 36), type := 4, pos := "ref.go:105", after := #[{ on := 9, ground := Ground.data }, { on := 1, ground := Ground.chain }], guard := none }
abbrev xpa36o16 : Oper := { dst := some 31, op := Op.move (.tmp 0), type := 47, pos := "ref.go:105", after := #[{ on := 1, ground := Ground.guard }], guard := some (1, true) }
abbrev xpa36o17 : Oper := { dst := some 29, op := Op.fieldAddr 28 (.tmp 9) 2, type := 0, pos := "ref.go:105", after := #[{ on := 1, ground := Ground.guard }], guard := some (1, true) }
abbrev xpa36o18 : Oper := { dst := some 28, op := Op.move (.tmp 27), type := 4, pos := "ref.go:105", after := #[{ on := 0, ground := Ground.data }], guard := none }
abbrev xpa36o19 : Oper := { dst := some 27, op := Op.move (.tmp 2), type := 4, pos := "ref.go:105", after := #[], guard := none }
end Go.Proofs.Ytmflogmocgbmhaa
namespace Go.Proofs.Ytmflogmocgbmhaa
open Go.RowKit
set_option linter.unusedVariables false
set_option linter.unusedSimpArgs false
def FiltIs (p : Wt → Bool) (acc L : List Wt) (k : Nat) : Prop := acc = (L.take k).filter p
theorem filt_at {p : Wt → Bool} {acc L : List Wt} {k : Nat} {x : Wt} (h : FiltIs p acc L k) (hx : L[k]? = some x) (hp : p x = true) : FiltIs p (acc ++ [x]) L (k + 1) := by
  unfold FiltIs at h ⊢
  rw [List.take_add_one, hx, List.filter_append, h]
  simp [hp]
theorem filt_no {p : Wt → Bool} {acc L : List Wt} {k : Nat} {x : Wt} (h : FiltIs p acc L k) (hx : L[k]? = some x) (hp : p x = false) : FiltIs p acc L (k + 1) := by
  unfold FiltIs at h ⊢
  rw [List.take_add_one, hx, List.filter_append, h]
  simp [hp]
theorem filt_len {p : Wt → Bool} {acc L : List Wt} {k : Nat} (h : FiltIs p acc L k) : acc.length ≤ k := by
  unfold FiltIs at h
  rw [h]
  exact Nat.le_trans (List.length_filter_le _ _) (List.length_take_le _ _)
theorem filt_end {p : Wt → Bool} {acc L : List Wt} {k : Nat} (h : FiltIs p acc L k) (hk : ¬ k < L.length) : acc = L.filter p := by
  unfold FiltIs at h
  rw [h, List.take_of_length_le (by omega)]
theorem row_oneW {w : World} {g : Nat} {t : TypeId} {x : Wt} (h : Blk w g t x.v) : RowE w (some ⟨g, 0, none⟩) 1 [x] := ⟨⟨fun _ _ => trivial, fun i q hi => by
  obtain ⟨h1, rfl⟩ := List.getElem?_eq_some_iff.1 hi
  have h2 : i = 0 := by simpa using h1
  subst h2
  exact ⟨g, 0, rfl, h.lt, fun j v hj => by rw [Nat.zero_mul, Nat.add_zero, Nat.zero_add]; exact h.cell j v hj⟩⟩, fun y hy => by cases hy; exact h.lt, Nat.le_refl _, fun e => by cases e⟩
theorem DocN.up {sz sz' : Nat} {a : Option Addr} {w : World} {rb : Nat} {s : Xt} (h : DocN sz a w rb s) (hs : sz' ≤ sz) : DocN sz' a w rb s := by
  obtain ⟨a', c', D, hy⟩ := h
  exact ⟨a', c', D, fun y h => (hy y h).imp id (Nat.le_trans hs)⟩
theorem filter_ends (n : Int) (L : List Wt) : (L.filter fun q => decide (n < q.ends)) = L.filter fun q => !(decide (q.ends ≤ n)) := by
  congr 1
  funext q
  by_cases h : n < q.ends
  · simp [h]
  · simp [h]; omega
set_option maxRecDepth 100000 in
set_option maxHeartbeats 16000000 in
theorem rkeepF_xp (rb : Nat) (s : Xt) (a : Option Addr) (c : Nat) (m : Wy) (w : World) (hll : s.L.length ≤ 100000) (H : DocO w rb s a c) :
    Calls Try.prog 53 #[.pointer (some ⟨rb, 0, none⟩), .agg m.v, .bool false] w fun e w' => e = .returned (.int .i64 ((s.L.length : Int) - ((s.L.filter (fun q : Wt => !(q.m.eqB m))).length : Int))) ∧ DocN w.heap.size a w' rb ⟨s.most, s.quota, s.now, (s.L.filter (fun q : Wt => !(q.m.eqB m)))⟩ ∧ But (fun k => k = rb) w w' := by
  have T := H.tab
  have E := H.row
  have hne := H.ne
  have hgl := T.lt
  have hal := E.lt
  have nET : ∀ y : Addr, a = some y → y.block ≠ rb := hne
  clear H
  obtain ⟨R, hR⟩ : ∃ R, (0 : Int) = R := ⟨_, rfl⟩
  have HR : Hid ((0 : Int) = R) := hR
  try rw [hR]
  clear hR
  have b := But.refl (fun k => k = rb) w
  go_enter Try.func53, Try.ntmps53
  obtain ⟨Wm1, hWm1⟩ : ∃ W, w.alloc (.cells m.v 26) = W := ⟨_, rfl⟩
  have bm1 := but_al b hWm1
  have Tm1 := T.al hWm1
  have Em1 := E.al hWm1
  have Am1 := blk_nw hWm1
  have gA : (fun k => k = rb) w.heap.size ∨ w.heap.size ≤ w.heap.size := .inr b.size
  have nTA : rb ≠ w.heap.size := by have := T.lt; omega
  have nAT : w.heap.size ≠ rb := fun e => nTA e.symm
  have nEA : ∀ y : Addr, a = some y → y.block ≠ w.heap.size := fun y hy => by have := E.lt y hy; omega
  go_wp2_with fail
  go_loopw [7, 8] (fun v i wr => ∃ (k : Nat) (a2 : Option Addr) (c2 : Nat) (acc : List Wt), k ≤ s.L.length ∧ v = .slice a2 acc.length c2 ∧ i = .int .i64 k ∧ FiltIs (fun q : Wt => !(q.m.eqB m)) acc s.L k ∧ Hid (OwnW wr (w.heap.size + 1) a2 c2 acc) ∧ Blk wr rb 41 #[.int .i64 s.most, .int .i64 s.quota, .int .i64 s.now, .slice a s.L.length c] ∧ RowE wr a c s.L ∧ Blk wr w.heap.size 26 m.v ∧ But (fun k => k = rb) w wr) (fun _ i _ => s.L.length - (intOf i).toNat)
  case atStart => exact ⟨0, none, 0, [], Nat.zero_le _, rfl, rfl, rfl, own_noneW _ _, Tm1, Em1, Am1, bm1⟩
  case round =>
    obtain ⟨k, a2, c2, acc, hk, rfl, rfl, HA, HO, Tv, Ev, Av, bv⟩ := hrel
    obtain ⟨Wv, rfl⟩ : ∃ W, W = wr := ⟨_, rfl⟩
    have in0 : (0 : Int) ≤ (k : Int) := by omega
    have hac : acc.length ≤ 100000 := by have := filt_len HA; omega
    by_cases hlt : k < s.L.length
    · have ik : (k : Int) < (s.L.length : Int) := by omega
      have ik' : decide ((k : Int) < (s.L.length : Int)) = true := by simpa using ik
      obtain ⟨x, hx⟩ : ∃ q, s.L[k]? = some q := ⟨_, List.getElem?_eq_getElem hlt⟩
      have HX : Hid (s.L[k]? = some x) := hx
      obtain ⟨p2, off2, rfl, hcells⟩ := Ev.row.cells k x hx
      have hcb := Ev.at_ HX.out
      clear hcells hx
      have Ov : OwnW Wv (w.heap.size + 1) a2 c2 acc := HO
      have c2 := Tv.cell 3 (.slice (some ⟨p2, off2, none⟩) s.L.length c) rfl
      obtain ⟨Wm3, hWm3⟩ : ∃ W, Wv.alloc (.cells #[.int .i64 0, .int .i64 0, .int .i64 0, .int .u64 0, .int .u64 0, .int .i64 0, .int .u64 0, .int .u64 0, .int .i64 0, .int .i64 0, .int .i64 0, .int .i64 0, .int .i64 0, .int .u64 0, .int .u64 0, .int .i64 0, .int .u64 0, .int .u64 0, .int .i64 0, .int .i64 0, .int .i64 0, .int .i64 0] 28) = W := ⟨_, rfl⟩
      have bm3 := but_al bv hWm3
      have Tm3 := Tv.al hWm3
      have Em3 := Ev.al hWm3
      have Am3 := Av.al hWm3
      have Om3 := Ov.al hWm3
      have Bm3 := blk_nw hWm3
      have gB : (fun k => k = rb) Wv.heap.size ∨ w.heap.size ≤ Wv.heap.size := .inr bv.size
      have nTB : rb ≠ Wv.heap.size := by have := Tv.lt; omega
      have nBT : Wv.heap.size ≠ rb := fun e => nTB e.symm
      have nEB : ∀ y : Addr, (some ⟨p2, off2, none⟩) = some y → y.block ≠ Wv.heap.size := fun y hy => by have := Ev.lt y hy; omega
      have nAB : w.heap.size ≠ Wv.heap.size := by have := Av.lt; omega
      have nBA : Wv.heap.size ≠ w.heap.size := fun e => nAB e.symm
      have nOB : ∀ y : Addr, a2 = some y → y.block ≠ Wv.heap.size := fun y hy => by have := Ov.lt_size y hy; omega
      obtain ⟨Wm4, hWm4⟩ : ∃ W, Wm3.setRow Wv.heap.size x.v = W := ⟨_, rfl⟩
      have Bm4 : Blk Wm4 Wv.heap.size 28 x.v := hWm4 ▸ Bm3.set x.v
      have Tm4 := hWm4 ▸ Tm3.other nTB x.v
      have Em4 := hWm4 ▸ Em3.other nEB x.v
      have Am4 := hWm4 ▸ Am3.other nAB x.v
      have Om4 := hWm4 ▸ Om3.other nOB x.v
      have bm4 := hWm4 ▸ but_setRow bm3 gB x.v
      go_wp2_with (first | (refine wpList_load_at_w (by rfl) _ _ rfl p2 (off2 + k * 22) (by rfl) _ hcb Try.underlying28 (by kernel_rfl) ?_) | (refine wpList_store_row rfl _ _ _ rfl Wv.heap.size x.v (by rfl) (by rfl) _ _ Bm3 (by kernel_rfl) (by rfl) (by kernel_rfl) ?_; rw [hWm4]))
      clear c2
      obtain ⟨Wdq5, hWdq5⟩ : ∃ W, Wm4.drew = W := ⟨_, rfl⟩
      have Tdq5 := hWdq5 ▸ Tm4.drew
      have Edq5 := hWdq5 ▸ Em4.drew
      have Adq5 := hWdq5 ▸ Am4.drew
      have Odq5 := hWdq5 ▸ Om4.drew
      have Bdq5 := hWdq5 ▸ Bm4.drew
      have bdq5 := hWdq5 ▸ bm4.drew
      refine wp_region_noPanic ?_
      refine wp_region_held_drew (S := fun w' => Blk w' rb 41 #[.int .i64 s.most, .int .i64 s.quota, .int .i64 s.now, .slice (some ⟨p2, off2, none⟩) s.L.length c] ∧ RowE w' (some ⟨p2, off2, none⟩) c s.L ∧ Blk w' w.heap.size 26 m.v ∧ OwnW w' (w.heap.size + 1) a2 c2 acc ∧ Blk w' Wv.heap.size 28 x.v) (by kernel_rfl) (by rw [hWdq5]; exact ⟨Tdq5, Edq5, Adq5, Odq5, Bdq5⟩) (fun hHeld => ?_)
      rw [hWdq5] at hHeld ⊢
      refine qtk (i := 0) (oi := xpa36o19) (v := (.bool false)) hHeld ?_ ?_
      · intro w9 hSw
        try dsimp only at hSw
        go_simp
      try simp only [qpu]
      refine qtk (i := 1) (oi := xpa36o18) (v := (.bool false)) hHeld ?_ ?_
      · intro w9 hSw
        try dsimp only at hSw
        go_simp
      try simp only [qpu]
      refine qtn (i := 2) (oi := xpa36o17) hHeld ?_
      try simp only [qpu]
      refine qtn (i := 3) (oi := xpa36o12) hHeld ?_
      try simp only [qpu]
      refine qtn (i := 4) (oi := xpa36o16) hHeld ?_
      try simp only [qpu]
      refine qtn (i := 5) (oi := xpa36o14) hHeld ?_
      try simp only [qpu]
      refine qtn (i := 6) (oi := xpa36o10) hHeld ?_
      try simp only [qpu]
      refine qtn (i := 7) (oi := xpa36o13) hHeld ?_
      try simp only [qpu]
      refine qtn (i := 8) (oi := xpa36o6) hHeld ?_
      try simp only [qpu]
      refine qtk (i := 9) (oi := xpa36o11) (v := (.bool false)) hHeld ?_ ?_
      · intro w9 hSw
        try dsimp only at hSw
        go_simp
      try simp only [qpu]
      refine qtk (i := 10) (oi := xpa36o15) (v := (.bool false)) hHeld ?_ ?_
      · intro w9 hSw
        try dsimp only at hSw
        go_simp
      try simp only [qpu]
      refine qtk (i := 11) (oi := xpa36o9) (v := (.bool false)) hHeld ?_ ?_
      · intro w9 hSw
        try dsimp only at hSw
        go_simp
      try simp only [qpu]
      refine qtk (i := 12) (oi := xpa36o4) (v := (.bool true)) hHeld ?_ ?_
      · intro w9 hSw
        try dsimp only at hSw
        go_simp
      try simp only [qpu]
      refine qtk (i := 13) (oi := xpa36o2) (v := (.bool true)) hHeld ?_ ?_
      · intro w9 hSw
        try dsimp only at hSw
        go_simp
      try simp only [qpu]
      refine qtk (i := 14) (oi := xpa36o8) (v := (.pointer (some ⟨Wv.heap.size, 10, none⟩))) hHeld ?_ ?_
      · intro w9 hSw
        try dsimp only at hSw
        go_simp
      try simp only [qpu]
      refine qty (i := 15) (oi := xpa36o5) (v := (.agg x.m.v)) (yieldsIf_sub_w (by kernel_rfl) _ _ rfl Wv.heap.size 10 _ (by rfl) _ x.m.v (fun _ hSw => hSw.2.2.2.2) (by rfl) Try.underlying26 (by kernel_rfl)) hHeld ?_
      try simp only [qpu]
      refine qty (i := 16) (oi := xpa36o7) (v := (.agg m.v)) (yieldsIf_blk_w (by kernel_rfl) _ _ rfl w.heap.size (by rfl) _ (fun _ hSw => hSw.2.2.1) Try.underlying26 (by kernel_rfl)) hHeld ?_
      try simp only [qpu]
      refine qtk (i := 17) (oi := xpa36o0) (v := (.bool (!(Wy.eqB x.m m)))) hHeld ?_ ?_
      · intro w9 hSw
        try dsimp only at hSw
        have hcc := neq_way x.m m
        go_simp
      try simp only [qpu]
      refine qtk (i := 18) (oi := xpa36o1) (v := (.bool (!(Wy.eqB x.m m)))) hHeld ?_ ?_
      · intro w9 hSw
        try dsimp only at hSw
        go_simp
      try simp only [qpu]
      refine qtk (i := 19) (oi := xpa36o3) (v := (.bool (!(Wy.eqB x.m m)))) hHeld ?_ ?_
      · intro w9 hSw
        try dsimp only at hSw
        go_simp
      try simp only [qpu]
      refine wpAnyH_done (by kernel_rfl) ?_ _
      refine NoPanic.normal ?_
      cases hq6 : (Wy.eqB x.m m) with
      | false =>
        obtain ⟨Wm7, hWm7⟩ : ∃ W, Wdq5.alloc (.cells x.v 28) = W := ⟨_, rfl⟩
        have bm7 := but_al bdq5 hWm7
        have Tm7 := Tdq5.al hWm7
        have Em7 := Edq5.al hWm7
        have Am7 := Adq5.al hWm7
        have Om7 := Odq5.al hWm7
        have Bm7 := Bdq5.al hWm7
        have Cm7 := blk_nw hWm7
        have gC : (fun k => k = rb) Wdq5.heap.size ∨ w.heap.size ≤ Wdq5.heap.size := .inr bdq5.size
        have nTC : rb ≠ Wdq5.heap.size := by have := Tdq5.lt; omega
        have nCT : Wdq5.heap.size ≠ rb := fun e => nTC e.symm
        have nEC : ∀ y : Addr, (some ⟨p2, off2, none⟩) = some y → y.block ≠ Wdq5.heap.size := fun y hy => by have := Edq5.lt y hy; omega
        have nAC : w.heap.size ≠ Wdq5.heap.size := by have := Adq5.lt; omega
        have nCA : Wdq5.heap.size ≠ w.heap.size := fun e => nAC e.symm
        have nOC : ∀ y : Addr, a2 = some y → y.block ≠ Wdq5.heap.size := fun y hy => by have := Odq5.lt_size y hy; omega
        have nBC : Wv.heap.size ≠ Wdq5.heap.size := by have := Bdq5.lt; omega
        have nCB : Wdq5.heap.size ≠ Wv.heap.size := fun e => nBC e.symm
        have hgo : ¬ a2.map (·.block) = some rb := map_geW Om7.lt (Nat.lt_succ_of_lt hgl)
        have hao : ∀ y : Addr, (some ⟨p2, off2, none⟩ : Option Addr) = some y → ¬ a2.map (·.block) = some y.block := fun y hy => map_geW Om7.lt (Nat.lt_succ_of_lt (hal y hy))
        have hab : ¬ a2.map (·.block) = some w.heap.size := map_geW Om7.lt (Nat.lt_succ_self _)
        go_wp2_with (first | (refine wpList_load_blk_w (by rfl) _ _ rfl Wv.heap.size (by rfl) _ Bdq5 Try.underlying28 (by kernel_rfl) ?_) | (refine wpList_rnWs _ rfl _ _ rfl (w.heap.size + 1) a2 c2 acc _ _ rfl (by rfl) Om7 (some ⟨Wdq5.heap.size, 0, none⟩) 1 [x] rfl (by rfl) (row_oneW Cm7) (by simp; omega) Am7.lt ?_; intro ga ca Wa8 Oa8 Hg9; have bg : But (fun k => a2.map (·.block) = some k) Wm7 Wa8 := (But.refl _ _).grown Hg9 (fun n hn => .inl hn); have Ta8 := Tm7.but bg hgo; have Ea8 := Em7.but bg hao; have Aa8 := Am7.but bg hab; have ba8 : But (fun k => k = rb) w Wa8 := bm7.trans bg (fun n hn e => absurd e (map_geW Om7.lt (Nat.lt_succ_of_lt hn)))))
        exact ⟨⟨k + 1, ga, ca, acc ++ [x], by omega, (by first | rfl | simp), by go_num, filt_at HA HX.out (by simp [*]), Oa8, Ta8, Ea8, Aa8, ba8⟩, by simp [intOf]; omega⟩

      | true =>
        go_wp2_with fail
        exact ⟨⟨k + 1, a2, c2, acc, by omega, rfl, by go_num, filt_no HA HX.out (by simp [*]), Odq5, Tdq5, Edq5, Adq5, bdq5⟩, by simp [intOf]; omega⟩


    · have ik : ¬ (k : Int) < (s.L.length : Int) := by omega
      have ik' : decide ((k : Int) < (s.L.length : Int)) = false := by simpa using ik
      have nFT : ∀ y : Addr, a2 = some y → y.block ≠ rb := fun y hy => by have := HO.out.lt y hy; omega
      have Fv : RowE Wv a2 c2 acc := HO.out.toE
      have hlw : ∀ y : Addr, a2 = some y → w.heap.size ≤ y.block := fun y hy => Nat.le_of_succ_le (HO.out.lt y hy)
      have hke : acc = s.L.filter (fun q : Wt => !(q.m.eqB m)) := filt_end HA hlt
      have hwr : IntKind.i64.wrap ((s.L.length : Int) - (acc.length : Int)) = (s.L.length : Int) - (acc.length : Int) := by rw [IntKind.wrap_i64]; omega
      have HKE : Hid (acc = s.L.filter (fun q : Wt => !(q.m.eqB m))) := hke
      clear hke
      have c9 := Tv.cell 3 (.slice a s.L.length c) rfl
      have y11 := Tv.cell 3 (.slice a s.L.length c) rfl
      have z12 := Tv.frozen 3
      obtain ⟨Wm10, hWm10⟩ : ∃ W, Wv.setCell ⟨rb, 3, none⟩ (.slice a2 acc.length c2) = W := ⟨_, rfl⟩
      have Tm10 : Blk Wm10 rb 41 #[.int .i64 s.most, .int .i64 s.quota, .int .i64 s.now, .slice a2 acc.length c2] := hWm10 ▸ Tv.put 3 (.slice a2 acc.length c2)
      have Em10 := hWm10 ▸ Ev.put_other Tv nET 3 (.slice a2 acc.length c2)
      have Am10 := hWm10 ▸ Av.put_other Tv nAT 3 (.slice a2 acc.length c2)
      have Fm10 := hWm10 ▸ Fv.put_other Tv nFT 3 (.slice a2 acc.length c2)
      have bm10 := hWm10 ▸ bv.setCell rb 3 (.inl rfl) (.slice a2 acc.length c2)
      go_wp2_with fail
      rw [HKE.out] at Tm10 Fm10 ⊢
      go_ret
      exact ⟨rfl, ⟨a2, c2, ⟨Tm10, Fm10, nFT⟩, (fun y hy => .inr (hlw y hy))⟩, bm10⟩
set_option maxRecDepth 100000 in
set_option maxHeartbeats 16000000 in
theorem rkeepT_xp (rb : Nat) (s : Xt) (a : Option Addr) (c : Nat) (m : Wy) (w : World) (hll : s.L.length ≤ 100000) (H : DocO w rb s a c) :
    Calls Try.prog 53 #[.pointer (some ⟨rb, 0, none⟩), .agg m.v, .bool true] w fun e w' => e = .returned (.int .i64 ((s.L.length : Int) - ((s.L.filter (fun q : Wt => decide (s.now < q.ends))).length : Int))) ∧ DocN w.heap.size a w' rb ⟨s.most, s.quota, s.now, (s.L.filter (fun q : Wt => decide (s.now < q.ends)))⟩ ∧ But (fun k => k = rb) w w' := by
  have T := H.tab
  have E := H.row
  have hne := H.ne
  have hgl := T.lt
  have hal := E.lt
  have nET : ∀ y : Addr, a = some y → y.block ≠ rb := hne
  clear H
  obtain ⟨R, hR⟩ : ∃ R, (0 : Int) = R := ⟨_, rfl⟩
  have HR : Hid ((0 : Int) = R) := hR
  try rw [hR]
  clear hR
  have b := But.refl (fun k => k = rb) w
  go_enter Try.func53, Try.ntmps53
  obtain ⟨Wm1, hWm1⟩ : ∃ W, w.alloc (.cells m.v 26) = W := ⟨_, rfl⟩
  have bm1 := but_al b hWm1
  have Tm1 := T.al hWm1
  have Em1 := E.al hWm1
  have Am1 := blk_nw hWm1
  have gA : (fun k => k = rb) w.heap.size ∨ w.heap.size ≤ w.heap.size := .inr b.size
  have nTA : rb ≠ w.heap.size := by have := T.lt; omega
  have nAT : w.heap.size ≠ rb := fun e => nTA e.symm
  have nEA : ∀ y : Addr, a = some y → y.block ≠ w.heap.size := fun y hy => by have := E.lt y hy; omega
  go_wp2_with fail
  go_loopw [7, 8] (fun v i wr => ∃ (k : Nat) (a2 : Option Addr) (c2 : Nat) (acc : List Wt), k ≤ s.L.length ∧ v = .slice a2 acc.length c2 ∧ i = .int .i64 k ∧ FiltIs (fun q : Wt => decide (s.now < q.ends)) acc s.L k ∧ Hid (OwnW wr (w.heap.size + 1) a2 c2 acc) ∧ Blk wr rb 41 #[.int .i64 s.most, .int .i64 s.quota, .int .i64 s.now, .slice a s.L.length c] ∧ RowE wr a c s.L ∧ Blk wr w.heap.size 26 m.v ∧ But (fun k => k = rb) w wr) (fun _ i _ => s.L.length - (intOf i).toNat)
  case atStart => exact ⟨0, none, 0, [], Nat.zero_le _, rfl, rfl, rfl, own_noneW _ _, Tm1, Em1, Am1, bm1⟩
  case round =>
    obtain ⟨k, a2, c2, acc, hk, rfl, rfl, HA, HO, Tv, Ev, Av, bv⟩ := hrel
    obtain ⟨Wv, rfl⟩ : ∃ W, W = wr := ⟨_, rfl⟩
    have in0 : (0 : Int) ≤ (k : Int) := by omega
    have hac : acc.length ≤ 100000 := by have := filt_len HA; omega
    by_cases hlt : k < s.L.length
    · have ik : (k : Int) < (s.L.length : Int) := by omega
      have ik' : decide ((k : Int) < (s.L.length : Int)) = true := by simpa using ik
      obtain ⟨x, hx⟩ : ∃ q, s.L[k]? = some q := ⟨_, List.getElem?_eq_getElem hlt⟩
      have HX : Hid (s.L[k]? = some x) := hx
      obtain ⟨p2, off2, rfl, hcells⟩ := Ev.row.cells k x hx
      have hcb := Ev.at_ HX.out
      clear hcells hx
      have Ov : OwnW Wv (w.heap.size + 1) a2 c2 acc := HO
      have c2 := Tv.cell 3 (.slice (some ⟨p2, off2, none⟩) s.L.length c) rfl
      obtain ⟨Wm3, hWm3⟩ : ∃ W, Wv.alloc (.cells #[.int .i64 0, .int .i64 0, .int .i64 0, .int .u64 0, .int .u64 0, .int .i64 0, .int .u64 0, .int .u64 0, .int .i64 0, .int .i64 0, .int .i64 0, .int .i64 0, .int .i64 0, .int .u64 0, .int .u64 0, .int .i64 0, .int .u64 0, .int .u64 0, .int .i64 0, .int .i64 0, .int .i64 0, .int .i64 0] 28) = W := ⟨_, rfl⟩
      have bm3 := but_al bv hWm3
      have Tm3 := Tv.al hWm3
      have Em3 := Ev.al hWm3
      have Am3 := Av.al hWm3
      have Om3 := Ov.al hWm3
      have Bm3 := blk_nw hWm3
      have gB : (fun k => k = rb) Wv.heap.size ∨ w.heap.size ≤ Wv.heap.size := .inr bv.size
      have nTB : rb ≠ Wv.heap.size := by have := Tv.lt; omega
      have nBT : Wv.heap.size ≠ rb := fun e => nTB e.symm
      have nEB : ∀ y : Addr, (some ⟨p2, off2, none⟩) = some y → y.block ≠ Wv.heap.size := fun y hy => by have := Ev.lt y hy; omega
      have nAB : w.heap.size ≠ Wv.heap.size := by have := Av.lt; omega
      have nBA : Wv.heap.size ≠ w.heap.size := fun e => nAB e.symm
      have nOB : ∀ y : Addr, a2 = some y → y.block ≠ Wv.heap.size := fun y hy => by have := Ov.lt_size y hy; omega
      obtain ⟨Wm4, hWm4⟩ : ∃ W, Wm3.setRow Wv.heap.size x.v = W := ⟨_, rfl⟩
      have Bm4 : Blk Wm4 Wv.heap.size 28 x.v := hWm4 ▸ Bm3.set x.v
      have Tm4 := hWm4 ▸ Tm3.other nTB x.v
      have Em4 := hWm4 ▸ Em3.other nEB x.v
      have Am4 := hWm4 ▸ Am3.other nAB x.v
      have Om4 := hWm4 ▸ Om3.other nOB x.v
      have bm4 := hWm4 ▸ but_setRow bm3 gB x.v
      go_wp2_with (first | (refine wpList_load_at_w (by rfl) _ _ rfl p2 (off2 + k * 22) (by rfl) _ hcb Try.underlying28 (by kernel_rfl) ?_) | (refine wpList_store_row rfl _ _ _ rfl Wv.heap.size x.v (by rfl) (by rfl) _ _ Bm3 (by kernel_rfl) (by rfl) (by kernel_rfl) ?_; rw [hWm4]))
      clear c2
      obtain ⟨Wdq5, hWdq5⟩ : ∃ W, Wm4.drew = W := ⟨_, rfl⟩
      have Tdq5 := hWdq5 ▸ Tm4.drew
      have Edq5 := hWdq5 ▸ Em4.drew
      have Adq5 := hWdq5 ▸ Am4.drew
      have Odq5 := hWdq5 ▸ Om4.drew
      have Bdq5 := hWdq5 ▸ Bm4.drew
      have bdq5 := hWdq5 ▸ bm4.drew
      refine wp_region_noPanic ?_
      refine wp_region_held_drew (S := fun w' => Blk w' rb 41 #[.int .i64 s.most, .int .i64 s.quota, .int .i64 s.now, .slice (some ⟨p2, off2, none⟩) s.L.length c] ∧ RowE w' (some ⟨p2, off2, none⟩) c s.L ∧ Blk w' w.heap.size 26 m.v ∧ OwnW w' (w.heap.size + 1) a2 c2 acc ∧ Blk w' Wv.heap.size 28 x.v) (by kernel_rfl) (by rw [hWdq5]; exact ⟨Tdq5, Edq5, Adq5, Odq5, Bdq5⟩) (fun hHeld => ?_)
      rw [hWdq5] at hHeld ⊢
      refine qtk (i := 0) (oi := xpa36o19) (v := (.bool true)) hHeld ?_ ?_
      · intro w9 hSw
        try dsimp only at hSw
        go_simp
      try simp only [qpu]
      refine qtk (i := 1) (oi := xpa36o18) (v := (.bool true)) hHeld ?_ ?_
      · intro w9 hSw
        try dsimp only at hSw
        go_simp
      try simp only [qpu]
      refine qtk (i := 2) (oi := xpa36o17) (v := (.pointer (some ⟨Wv.heap.size, 20, none⟩))) hHeld ?_ ?_
      · intro w9 hSw
        try dsimp only at hSw
        go_simp
      try simp only [qpu]
      refine qtk (i := 3) (oi := xpa36o12) (v := (.int .i64 x.ends)) hHeld ?_ ?_
      · intro w9 hSw
        try dsimp only at hSw
        have hcc := hSw.2.2.2.2.cell 20 (.int .i64 x.ends) rfl
        go_simp
      try simp only [qpu]
      refine qtk (i := 4) (oi := xpa36o16) (v := (.pointer (some ⟨rb, 0, none⟩))) hHeld ?_ ?_
      · intro w9 hSw
        try dsimp only at hSw
        go_simp
      try simp only [qpu]
      refine qtk (i := 5) (oi := xpa36o14) (v := (.pointer (some ⟨rb, 0, none⟩))) hHeld ?_ ?_
      · intro w9 hSw
        try dsimp only at hSw
        go_simp
      try simp only [qpu]
      refine qtk (i := 6) (oi := xpa36o10) (v := (.pointer (some ⟨rb, 2, none⟩))) hHeld ?_ ?_
      · intro w9 hSw
        try dsimp only at hSw
        go_simp
      try simp only [qpu]
      refine qtk (i := 7) (oi := xpa36o13) (v := (.int .i64 s.now)) hHeld ?_ ?_
      · intro w9 hSw
        try dsimp only at hSw
        have hcc := hSw.1.cell 2 (.int .i64 s.now) rfl
        go_simp
      try simp only [qpu]
      refine qtk (i := 8) (oi := xpa36o6) (v := (.bool (decide (s.now < x.ends)))) hHeld ?_ ?_
      · intro w9 hSw
        try dsimp only at hSw
        go_simp
      try simp only [qpu]
      refine qtk (i := 9) (oi := xpa36o11) (v := (.bool (decide (s.now < x.ends)))) hHeld ?_ ?_
      · intro w9 hSw
        try dsimp only at hSw
        go_simp
      try simp only [qpu]
      refine qtk (i := 10) (oi := xpa36o15) (v := (.bool (decide (s.now < x.ends)))) hHeld ?_ ?_
      · intro w9 hSw
        try dsimp only at hSw
        go_simp
      try simp only [qpu]
      cases hq6 : (decide (s.now < x.ends)) with
      | false =>
        refine qtk (i := 11) (oi := xpa36o9) (v := (.bool true)) hHeld ?_ ?_
        · intro w9 hSw
          try dsimp only at hSw
          go_simp
        try simp only [qpu]
        refine qtk (i := 12) (oi := xpa36o4) (v := (.bool false)) hHeld ?_ ?_
        · intro w9 hSw
          try dsimp only at hSw
          go_simp
        try simp only [qpu]
        refine qtk (i := 13) (oi := xpa36o2) (v := (.bool false)) hHeld ?_ ?_
        · intro w9 hSw
          try dsimp only at hSw
          go_simp
        try simp only [qpu]
        refine qtn (i := 14) (oi := xpa36o8) hHeld ?_
        try simp only [qpu]
        refine qtn (i := 15) (oi := xpa36o5) hHeld ?_
        try simp only [qpu]
        refine qtn (i := 16) (oi := xpa36o7) hHeld ?_
        try simp only [qpu]
        refine qtn (i := 17) (oi := xpa36o0) hHeld ?_
        try simp only [qpu]
        refine qtk (i := 18) (oi := xpa36o1) (v := (.bool false)) hHeld ?_ ?_
        · intro w9 hSw
          try dsimp only at hSw
          go_simp
        try simp only [qpu]
        refine qtk (i := 19) (oi := xpa36o3) (v := (.bool false)) hHeld ?_ ?_
        · intro w9 hSw
          try dsimp only at hSw
          go_simp
        try simp only [qpu]
        refine wpAnyH_done (by kernel_rfl) ?_ _
        refine NoPanic.normal ?_
        go_wp2_with fail
        exact ⟨⟨k + 1, a2, c2, acc, by omega, rfl, by go_num, filt_no HA HX.out (by simp [*]), Odq5, Tdq5, Edq5, Adq5, bdq5⟩, by simp [intOf]; omega⟩

      | true =>
        refine qtn (i := 11) (oi := xpa36o9) hHeld ?_
        try simp only [qpu]
        refine qtn (i := 12) (oi := xpa36o4) hHeld ?_
        try simp only [qpu]
        refine qtn (i := 13) (oi := xpa36o2) hHeld ?_
        try simp only [qpu]
        refine qtn (i := 14) (oi := xpa36o8) hHeld ?_
        try simp only [qpu]
        refine qtn (i := 15) (oi := xpa36o5) hHeld ?_
        try simp only [qpu]
        refine qtn (i := 16) (oi := xpa36o7) hHeld ?_
        try simp only [qpu]
        refine qtn (i := 17) (oi := xpa36o0) hHeld ?_
        try simp only [qpu]
        refine qtn (i := 18) (oi := xpa36o1) hHeld ?_
        try simp only [qpu]
        refine qtk (i := 19) (oi := xpa36o3) (v := (.bool true)) hHeld ?_ ?_
        · intro w9 hSw
          try dsimp only at hSw
          go_simp
        try simp only [qpu]
        refine wpAnyH_done (by kernel_rfl) ?_ _
        refine NoPanic.normal ?_
        obtain ⟨Wm7, hWm7⟩ : ∃ W, Wdq5.alloc (.cells x.v 28) = W := ⟨_, rfl⟩
        have bm7 := but_al bdq5 hWm7
        have Tm7 := Tdq5.al hWm7
        have Em7 := Edq5.al hWm7
        have Am7 := Adq5.al hWm7
        have Om7 := Odq5.al hWm7
        have Bm7 := Bdq5.al hWm7
        have Cm7 := blk_nw hWm7
        have gC : (fun k => k = rb) Wdq5.heap.size ∨ w.heap.size ≤ Wdq5.heap.size := .inr bdq5.size
        have nTC : rb ≠ Wdq5.heap.size := by have := Tdq5.lt; omega
        have nCT : Wdq5.heap.size ≠ rb := fun e => nTC e.symm
        have nEC : ∀ y : Addr, (some ⟨p2, off2, none⟩) = some y → y.block ≠ Wdq5.heap.size := fun y hy => by have := Edq5.lt y hy; omega
        have nAC : w.heap.size ≠ Wdq5.heap.size := by have := Adq5.lt; omega
        have nCA : Wdq5.heap.size ≠ w.heap.size := fun e => nAC e.symm
        have nOC : ∀ y : Addr, a2 = some y → y.block ≠ Wdq5.heap.size := fun y hy => by have := Odq5.lt_size y hy; omega
        have nBC : Wv.heap.size ≠ Wdq5.heap.size := by have := Bdq5.lt; omega
        have nCB : Wdq5.heap.size ≠ Wv.heap.size := fun e => nBC e.symm
        have hgo : ¬ a2.map (·.block) = some rb := map_geW Om7.lt (Nat.lt_succ_of_lt hgl)
        have hao : ∀ y : Addr, (some ⟨p2, off2, none⟩ : Option Addr) = some y → ¬ a2.map (·.block) = some y.block := fun y hy => map_geW Om7.lt (Nat.lt_succ_of_lt (hal y hy))
        have hab : ¬ a2.map (·.block) = some w.heap.size := map_geW Om7.lt (Nat.lt_succ_self _)
        go_wp2_with (first | (refine wpList_load_blk_w (by rfl) _ _ rfl Wv.heap.size (by rfl) _ Bdq5 Try.underlying28 (by kernel_rfl) ?_) | (refine wpList_rnWs _ rfl _ _ rfl (w.heap.size + 1) a2 c2 acc _ _ rfl (by rfl) Om7 (some ⟨Wdq5.heap.size, 0, none⟩) 1 [x] rfl (by rfl) (row_oneW Cm7) (by simp; omega) Am7.lt ?_; intro ga ca Wa8 Oa8 Hg9; have bg : But (fun k => a2.map (·.block) = some k) Wm7 Wa8 := (But.refl _ _).grown Hg9 (fun n hn => .inl hn); have Ta8 := Tm7.but bg hgo; have Ea8 := Em7.but bg hao; have Aa8 := Am7.but bg hab; have ba8 : But (fun k => k = rb) w Wa8 := bm7.trans bg (fun n hn e => absurd e (map_geW Om7.lt (Nat.lt_succ_of_lt hn)))))
        exact ⟨⟨k + 1, ga, ca, acc ++ [x], by omega, (by first | rfl | simp), by go_num, filt_at HA HX.out (by simp [*]), Oa8, Ta8, Ea8, Aa8, ba8⟩, by simp [intOf]; omega⟩


    · have ik : ¬ (k : Int) < (s.L.length : Int) := by omega
      have ik' : decide ((k : Int) < (s.L.length : Int)) = false := by simpa using ik
      have nFT : ∀ y : Addr, a2 = some y → y.block ≠ rb := fun y hy => by have := HO.out.lt y hy; omega
      have Fv : RowE Wv a2 c2 acc := HO.out.toE
      have hlw : ∀ y : Addr, a2 = some y → w.heap.size ≤ y.block := fun y hy => Nat.le_of_succ_le (HO.out.lt y hy)
      have hke : acc = s.L.filter (fun q : Wt => decide (s.now < q.ends)) := filt_end HA hlt
      have hwr : IntKind.i64.wrap ((s.L.length : Int) - (acc.length : Int)) = (s.L.length : Int) - (acc.length : Int) := by rw [IntKind.wrap_i64]; omega
      have HKE : Hid (acc = s.L.filter (fun q : Wt => decide (s.now < q.ends))) := hke
      clear hke
      have c9 := Tv.cell 3 (.slice a s.L.length c) rfl
      have y11 := Tv.cell 3 (.slice a s.L.length c) rfl
      have z12 := Tv.frozen 3
      obtain ⟨Wm10, hWm10⟩ : ∃ W, Wv.setCell ⟨rb, 3, none⟩ (.slice a2 acc.length c2) = W := ⟨_, rfl⟩
      have Tm10 : Blk Wm10 rb 41 #[.int .i64 s.most, .int .i64 s.quota, .int .i64 s.now, .slice a2 acc.length c2] := hWm10 ▸ Tv.put 3 (.slice a2 acc.length c2)
      have Em10 := hWm10 ▸ Ev.put_other Tv nET 3 (.slice a2 acc.length c2)
      have Am10 := hWm10 ▸ Av.put_other Tv nAT 3 (.slice a2 acc.length c2)
      have Fm10 := hWm10 ▸ Fv.put_other Tv nFT 3 (.slice a2 acc.length c2)
      have bm10 := hWm10 ▸ bv.setCell rb 3 (.inl rfl) (.slice a2 acc.length c2)
      go_wp2_with fail
      rw [HKE.out] at Tm10 Fm10 ⊢
      go_ret
      exact ⟨rfl, ⟨a2, c2, ⟨Tm10, Fm10, nFT⟩, (fun y hy => .inr (hlw y hy))⟩, bm10⟩
set_option maxRecDepth 100000 in
set_option maxHeartbeats 4000000 in
theorem rforget_xp (rb : Nat) (s : Xt) (a : Option Addr) (c : Nat) (m : Wy) (w : World) (hll : s.L.length ≤ 100000) (H : DocO w rb s a c) :
    Calls Try.prog 37 #[.pointer (some ⟨rb, 0, none⟩), .agg m.v] w fun e w' => e = .returned (.int .i64 (s.forget m).2) ∧ DocN w.heap.size a w' rb (s.forget m).1 ∧ But (fun k => k = rb) w w' := by
  have T := H.tab
  have E := H.row
  have hne := H.ne
  have hgl := T.lt
  have hal := E.lt
  have nET : ∀ y : Addr, a = some y → y.block ≠ rb := hne
  clear H
  obtain ⟨R, hR⟩ : ∃ R, (0 : Int) = R := ⟨_, rfl⟩
  have HR : Hid ((0 : Int) = R) := hR
  try rw [hR]
  clear hR
  have b := But.refl (fun k => k = rb) w
  go_enter Try.func37, Try.ntmps37
  obtain ⟨Wm1, hWm1⟩ : ∃ W, w.alloc (.cells m.v 26) = W := ⟨_, rfl⟩
  have bm1 := but_al b hWm1
  have Tm1 := T.al hWm1
  have Em1 := E.al hWm1
  have Am1 := blk_nw hWm1
  have gA : (fun k => k = rb) w.heap.size ∨ w.heap.size ≤ w.heap.size := .inr b.size
  have nTA : rb ≠ w.heap.size := by have := T.lt; omega
  have nAT : w.heap.size ≠ rb := fun e => nTA e.symm
  have nEA : ∀ y : Addr, a = some y → y.block ≠ w.heap.size := fun y hy => by have := E.lt y hy; omega
  go_wp2_with (refine wpList_load_blk_w (by rfl) _ _ rfl w.heap.size (by rfl) _ Am1 Try.underlying26 (by kernel_rfl) ?_)
  refine Calls.mono (rkeepF_xp rb s a c m _ hll ⟨Tm1, Em1, hne⟩) ?_
  rintro e Wm2 ⟨rfl, Nm2, bb⟩
  have bm2 := bm1.trans bb (fun n _ e => e)
  clear bb
  have hbz : w.heap.size ≤ _ := bm1.size
  clear Tm1 Em1 Am1 bm1
  go_wp2_with fail
  go_ret
  exact ⟨rfl, Nm2.up hbz, bm2⟩
set_option maxRecDepth 100000 in
set_option maxHeartbeats 4000000 in
theorem rtick_xp (rb : Nat) (s : Xt) (a : Option Addr) (c : Nat) (now : Int) (w : World) (hll : s.L.length ≤ 100000) (H : DocO w rb s a c) :
    Calls Try.prog 38 #[.pointer (some ⟨rb, 0, none⟩), .int .i64 now] w fun e w' => e = .returned (.int .i64 (s.tick now).2) ∧ DocN w.heap.size a w' rb (s.tick now).1 ∧ But (fun k => k = rb) w w' := by
  have T := H.tab
  have E := H.row
  have hne := H.ne
  have hgl := T.lt
  have hal := E.lt
  have nET : ∀ y : Addr, a = some y → y.block ≠ rb := hne
  clear H
  obtain ⟨R, hR⟩ : ∃ R, s.tick now = R := ⟨_, rfl⟩
  have HR : Hid (s.tick now = R) := hR
  try rw [hR]
  clear hR
  have b := But.refl (fun k => k = rb) w
  go_enter Try.func38, Try.ntmps38
  cases hq2 : (decide (now < s.now)) with
  | false =>
    cases hq4 : (decide (4611686018427387904 < now)) with
    | false =>
      have c5 := T.cell 2 (.int .i64 s.now) rfl
      have y7 := T.cell 2 (.int .i64 s.now) rfl
      have z8 := T.frozen 2
      obtain ⟨Wm6, hWm6⟩ : ∃ W, w.setCell ⟨rb, 2, none⟩ (.int .i64 now) = W := ⟨_, rfl⟩
      have Tm6 : Blk Wm6 rb 41 #[.int .i64 s.most, .int .i64 s.quota, .int .i64 now, .slice a s.L.length c] := hWm6 ▸ T.put 2 (.int .i64 now)
      have Em6 := hWm6 ▸ E.put_other T nET 2 (.int .i64 now)
      have bm6 := hWm6 ▸ b.setCell rb 2 (.inl rfl) (.int .i64 now)
      go_wp2_with fail
      clear c5 y7 z8
      refine Calls.mono (rkeepT_xp rb ⟨s.most, s.quota, now, s.L⟩ a c wyz _ hll ⟨Tm6, Em6, hne⟩) ?_
      rintro e Wm9 ⟨rfl, Nm9, bb⟩
      have bm9 := bm6.trans bb (fun n _ e => e)
      clear bb
      have hbz : w.heap.size ≤ _ := bm6.size
      clear Tm6 Em6 bm6
      go_wp2_with fail
      have hR2 : R = ((⟨s.most, s.quota, now, s.L.filter fun q : Wt => !(decide (q.ends ≤ now))⟩, 0) : Xt × Int) := by rw [← HR.out]; unfold Xt.tick; rw [hq2, hq4]; rfl
      subst hR2
      go_ret
      refine ⟨rfl, ?_, bm9⟩
      rw [← filter_ends]
      exact Nm9.up hbz

    | true =>
      have c10 := T.cell 2 (.int .i64 s.now) rfl
      go_wp2_with fail
      have hR2 : R = ((s, 25) : Xt × Int) := by rw [← HR.out]; unfold Xt.tick; rw [hq2, hq4]; rfl
      subst hR2
      go_ret
      exact ⟨rfl, ⟨a, c, ⟨T, E, nET⟩, (fun y hy => .inl hy)⟩, b⟩


  | true =>
    have c11 := T.cell 2 (.int .i64 s.now) rfl
    go_wp2_with fail
    have hR2 : R = ((s, 25) : Xt × Int) := by rw [← HR.out]; unfold Xt.tick; rw [hq2]; rfl
    subst hR2
    go_ret
    exact ⟨rfl, ⟨a, c, ⟨T, E, nET⟩, (fun y hy => .inl hy)⟩, b⟩
end Go.Proofs.Ytmflogmocgbmhaa
