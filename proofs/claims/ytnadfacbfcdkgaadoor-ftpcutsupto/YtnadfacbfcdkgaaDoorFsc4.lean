/- Texts joined: FtpCutsWalk -/
import Derived.Test.YtnadfacbfcdkgaaDoorFsa0
import Derived.Test.YtnadfacbfcdkgaaDoorFsa1
import Derived.Test.YtnadfacbfcdkgaaDoorFsa2
import Derived.Test.YtnadfacbfcdkgaaDoorFsa3
import Derived.Test.YtnadfacbfcdkgaaDoorFsa4
import Derived.Test.YtnadfacbfcdkgaaDoorFsa5
import Derived.Test.YtnadfacbfcdkgaaDoorFsa6
import Derived.Test.YtnadfacbfcdkgaaDoorFsa7
import Derived.Test.YtnadfacbfcdkgaaDoorFsa8
import Derived.Test.YtnadfacbfcdkgaaDoorFsa9
import Derived.Test.YtnadfacbfcdkgaaDoorFsa10
import Derived.Test.YtnadfacbfcdkgaaDoorFsa11
import Derived.Test.YtnadfacbfcdkgaaDoorFsa12
import Derived.Test.YtnadfacbfcdkgaaDoorFsa13
import Derived.Test.YtnadfacbfcdkgaaDoorFsa14
import Derived.Test.YtnadfacbfcdkgaaDoorFsa15
import Derived.Test.YtnadfacbfcdkgaaDoorFsa16
import Derived.Test.YtnadfacbfcdkgaaDoorFsa17
import Derived.Test.YtnadfacbfcdkgaaDoorFsa18
import Derived.Test.YtnadfacbfcdkgaaDoorFsa19
import Derived.Test.YtnadfacbfcdkgaaDoorFsa20
import Derived.Test.YtnadfacbfcdkgaaDoorFsa21
import Derived.Test.YtnadfacbfcdkgaaDoorFsa22
import Derived.Test.YtnadfacbfcdkgaaDoorFsa23
import Derived.Test.YtnadfacbfcdkgaaDoorFsa24
import Derived.Test.YtnadfacbfcdkgaaDoorFsa25
import Derived.Test.YtnadfacbfcdkgaaDoorFsa26
import Derived.Test.YtnadfacbfcdkgaaDoorFsa27
import Derived.Test.YtnadfacbfcdkgaaDoorFsa28
import Derived.Test.YtnadfacbfcdkgaaDoorFsa29
import Derived.Test.YtnadfacbfcdkgaaDoorFsa30
import Derived.Test.YtnadfacbfcdkgaaDoorFsa31
import Derived.Test.YtnadfacbfcdkgaaDoorFsa32
import Derived.Test.YtnadfacbfcdkgaaDoorFsa33
import Derived.Test.YtnadfacbfcdkgaaDoorFsa34
import Derived.Test.YtnadfacbfcdkgaaDoorFsa35
import Derived.Test.YtnadfacbfcdkgaaDoorFsa36
import Derived.Test.YtnadfacbfcdkgaaDoorFsa37
import Derived.Test.YtnadfacbfcdkgaaDoorFsa38
import Derived.Test.YtnadfacbfcdkgaaDoorFsa39
import Derived.Test.YtnadfacbfcdkgaaDoorFsc3
namespace Go.Proofs.YtnadfacbfcdkgaaDoor
open Go.RowKit
set_option linter.unusedVariables false
set_option linter.unusedSimpArgs false
theorem RowA.low {w w' : World} {B : Nat} {a : Option Addr} {c : Nat} {L : List As} (h : RowA w a c L) (bl : Below B w w') (hlt : ∀ y : Addr, a = some y → y.block < B) : RowA w' a c L :=
  h.but (F := fun k => ¬ k < B) ⟨bl.os, bl.tape, bl.output, bl.size, fun k _ hF => bl.block k (Classical.not_not.1 hF)⟩ (fun y hy => Classical.not_not.2 (hlt y hy))
theorem tmod_ft (x n : Int) (hn : 0 < n) : -n < x.tmod n ∧ x.tmod n < n := by
  refine ⟨?_, Int.tmod_lt_of_pos x hn⟩
  have h := Int.tmod_lt_of_pos (-x) hn
  rw [Int.neg_tmod] at h
  omega
set_option maxRecDepth 100000 in
set_option maxHeartbeats 8000000 in
theorem ftpCuts_walk (x0 x1 : Int) (a : Option Addr) (c : Nat) (l : List Int) (ct : Int) (w : World) (m : Int) (hlc : l.length ≤ c) (hr : Row w a l) (hl : l.length ≤ 1048576) (hm : w.cell? ⟨0, 0, none⟩ = some (.int .i64 m)) :
    Calls Tryd.prog 6 #[.agg #[.int .i64 x0, .int .i64 x1], .slice a l.length c, .int .i64 ct] w fun e w' => e = .returned (.bool true) ∧ Below w.heap.size w w' := by
  have M0 : Mx m w := ⟨hm⟩
  obtain ⟨R, hR⟩ : ∃ R, true = R := ⟨_, rfl⟩
  have HR : Hid (true = R) := hR
  rw [hR]
  clear hR hm
  obtain ⟨d, hd⟩ : ∃ d, (strOfNums l).data.toList = d := ⟨_, rfl⟩
  have hdl : d.length = l.length := by rw [← hd, strOfNums_data]; simp
  have HL : Hid (∀ W, Below w.heap.size w W → Calls Tryd.prog 11 #[.slice a l.length c] W fun e w' => ∃ a' k xs, e = .returned (.slice a' xs.length k) ∧ GotL W W.heap.size (lnF d) w' a' k xs) := fun W hW => by rw [← hd]; exact lines_ft a c l W (hr.below hW) (by omega)
  obtain ⟨W0, hW0⟩ : ∃ W, w.alloc (.cells #[.int .i64 x0, .int .i64 x1] 40) = W := ⟨_, rfl⟩
  have b0 := bel_nw hW0
  have A0 : Blk W0 w.heap.size 40 #[.int .i64 x0, .int .i64 x1] := blk_nw hW0
  obtain ⟨T, hT⟩ : ∃ T, lnF d = T := ⟨_, rfl⟩
  rw [hT] at HL
  go_enter Tryd.func6, Tryd.ntmps6
  go_wp2_with fail
  refine Calls.mono (HL.out W0 b0) ?_
  rintro e W1 ⟨a1, k1, xs, rfl, g1⟩
  have b1 := bel_tr b0 g1.below
  have A1 := A0.kept g1.below
  have own1 := g1.owns
  have hP : xs.map (·.data.toList) = T := g1.parts
  have HXL : Hid (xs.length = T.length) := by have := congrArg List.length hP; show _ = _; simpa using this
  clear g1 HL hW0 b0 A0
  by_cases hn0 : xs.length = 0
  · have e0 : ((xs.length : Int) = 0) := by omega
    clear hP own1
    go_wp2_with fail
    refine Calls.mono (alive_ft m W1 (M0.kept b1)) ?_
    rintro e W2 ⟨rfl, b2⟩
    go_wp2
    go_ret
    exact ⟨retB_fw (by rw [← HR.out]), bel_tr b1 b2⟩
  by_cases h8 : 8 < xs.length
  · have e0 : ¬ ((xs.length : Int) = 0) := by omega
    have e8 : (8 : Int) < (xs.length : Int) := by omega
    clear hP own1
    go_wp2_with fail
    refine Calls.mono (alive_ft m W1 (M0.kept b1)) ?_
    rintro e W2 ⟨rfl, b2⟩
    go_wp2
    go_ret
    exact ⟨retB_fw (by rw [← HR.out]), bel_tr b1 b2⟩
  have e0 : ¬ ((xs.length : Int) = 0) := by omega
  have e8 : ¬ (8 : Int) < (xs.length : Int) := by omega
  have hn1 : (1 : Int) ≤ (xs.length : Int) := by omega
  have hb0 : ((xs.length : Int) == 0) = false := by simpa using hn0
  have hb8 : decide ((8 : Int) < (xs.length : Int)) = false := decide_eq_false e8
  have hn8 : (xs.length : Int) ≤ 8 := by omega
  obtain ⟨r1, hr1⟩ : ∃ r, ct.tmod (xs.length : Int) = r := ⟨_, rfl⟩
  have hb1 := tmod_ft ct xs.length (by omega)
  rw [hr1] at hb1
  obtain ⟨r2, hr2⟩ : ∃ r, (r1 + (xs.length : Int)).tmod (xs.length : Int) = r := ⟨_, rfl⟩
  have hb2 := tmod_ft (r1 + xs.length) xs.length (by omega)
  have hb3 := Int.tmod_nonneg (xs.length : Int) (show 0 ≤ r1 + (xs.length : Int) by omega)
  rw [hr2] at hb2 hb3
  obtain ⟨q, hq⟩ : ∃ q : Nat, r2 = (q : Int) := ⟨r2.toNat, by omega⟩
  subst hq
  have hqn : q < xs.length := by omega
  have hxl := HXL.out
  obtain ⟨ln1, ln2, ln3⟩ := ln_cut (q + 1) d (by rw [hT]; omega)
  have has := as_cut x0 x1 d (q + 1) (by rw [hT]; omega) (by rw [hT]; omega)
  rw [hT] at ln1 ln2 ln3 has
  have hlk : ∀ k, k ≤ T.length → lnN (T.take k) ≤ l.length := fun k hk => by have := (ln_cut k d (by rw [hT]; exact hk)).1; rw [hT] at this; omega
  obtain ⟨g, rfl, hg, hgl, hcs⟩ := own1.row0 (by omega)
  have hcap : xs.length ≤ k1 := by obtain ⟨a', c', e, h1, _⟩ := own1.form; cases e; exact h1
  have hcap1 : (q : Int) + 1 ≤ (k1 : Int) := by omega
  clear own1 hxl
  go_wp2
  go_loopw [8, 39] (fun s i w' => ∃ (k : Nat), i = .int .i64 k ∧ k ≤ q + 1 ∧ s = .int .i64 (lnN (T.take k) : Nat) ∧ w' = W1) (fun _ i _ => q + 1 - (intOf i).toNat)
  case atStart => exact ⟨0, rfl, Nat.zero_le _, rfl, rfl⟩
  case round =>
    obtain ⟨k, rfl, hk, rfl, hwr⟩ := hrel
    subst hwr
    have hxl := HXL.out
    by_cases hlt : k < q + 1
    · obtain ⟨x, hx⟩ : ∃ x, xs[k]? = some x := ⟨_, List.getElem?_eq_getElem (by omega)⟩
      have hc := hcs k x hx
      have hTx : T[k]? = some x.data.toList := by rw [← hP, List.getElem?_map, hx]; rfl
      clear hx
      have hnx := lnN_next T k _ hTx
      have hxs : x.data.toList.length = x.size := Array.length_toList
      rw [hxs] at hnx
      have hb := hlk (k + 1) (by omega)
      have ilt : (k : Int) < (q : Int) + 1 := by omega
      clear hcs hP has ln1 ln2 ln3 hlk hr1 hr2 hxl
      go_wp2
      exact ⟨⟨k + 1, int_eq (by omega), by omega, int_eq (by omega), by trivial⟩, by simp [intOf]; omega⟩
    · have hkq : k = q + 1 := by omega
      have ilt : ¬ (k : Int) < (q : Int) + 1 := by omega
      subst hkq
      obtain ⟨N, hN⟩ : ∃ N, lnN (T.take (q + 1)) = N := ⟨_, rfl⟩
      rw [hN] at ln1 ln2 ln3 has
      try rw [hN]
      have hNl : N ≤ l.length := by omega
      have nN : ¬ ((l.length : Int) < (N : Int)) := by omega
      have hpos : 0 < l.length := by
        cases l with
        | nil =>
          exfalso
          simp at hdl
          subst hdl
          rw [← hT] at hxl
          have h00 : (lnF []).length = 0 := rfl
          omega
        | cons _ _ => simp
      obtain ⟨bk, off, rfl, -⟩ := hr.cells hpos
      have hsu := run_upB bk off l.length c N (by omega)
      have hsf := run_frB bk off l.length c N hNl
      obtain ⟨L1, hL1⟩ : ∃ L, asF x0 x1 (d.take N) = L := ⟨_, rfl⟩
      obtain ⟨L2, hL2⟩ : ∃ L, asF x0 x1 (d.drop N) = L := ⟨_, rfl⟩
      obtain ⟨L3, hL3⟩ : ∃ L, asF x0 x1 d = L := ⟨_, rfl⟩
      rw [hL1, hL2, hL3] at has
      have HAS : Hid (L1 ++ L2 = L3) := has
      have hl1 : L1.length ≤ 8 := by rw [← hL1]; exact fm_len _ _ 8
      have hl2 : L2.length ≤ 8 := by rw [← hL2]; exact fm_len _ _ 8
      have hl3 : L3.length ≤ 8 := by rw [← hL3]; exact fm_len _ _ 8
      have KA1 : Hid (∀ W, Below w.heap.size w W → Calls Tryd.prog 17 #[.int .i64 x0, .int .i64 x1, .slice (some ⟨bk, off, none⟩) N c] W fun e w' => (∃ aa ka, e = .returned (.slice aa L1.length ka) ∧ RowA w' aa ka L1) ∧ Below W.heap.size W w') := fun W hW => by
        have h := asks_ft x0 x1 (some ⟨bk, off, none⟩) c (l.take N) W m (M0.kept hW) ((hr.below hW).take N) (by simp; omega)
        have e1 : (strOfNums (l.take N)).data.toList = d.take N := by have := str_cut l 0 N; rw [hd] at this; simpa using this
        rw [e1, hL1, show (l.take N).length = N by simp; omega] at h
        exact h.mono fun e w' ⟨aa, ka, he, gg⟩ => ⟨⟨aa, ka, he, gg.owns.rowA⟩, gg.below⟩
      have KA2 : Hid (∀ W, Below w.heap.size w W → Calls Tryd.prog 17 #[.int .i64 x0, .int .i64 x1, .slice (subA bk off c N) (l.length - N) (c - N)] W fun e w' => (∃ aa ka, e = .returned (.slice aa L2.length ka) ∧ RowA w' aa ka L2) ∧ Below W.heap.size W w') := fun W hW => by
        have hrw := row_sub (hr.below hW) hlc N l.length (Nat.le_refl _)
        have h := asks_ft x0 x1 (subA bk off c N) (c - N) ((l.take l.length).drop N) W m (M0.kept hW) hrw (by simp; omega)
        have e1 : (strOfNums ((l.take l.length).drop N)).data.toList = d.drop N := by have := str_cut l N l.length; rw [hd] at this; rw [this, List.take_of_length_le (by omega)]
        rw [e1, hL2, show ((l.take l.length).drop N).length = l.length - N by simp] at h
        exact h.mono fun e w' ⟨aa, ka, he, gg⟩ => ⟨⟨aa, ka, he, gg.owns.rowA⟩, gg.below⟩
      have KA3 : Hid (∀ W, Below w.heap.size w W → Calls Tryd.prog 17 #[.int .i64 x0, .int .i64 x1, .slice (some ⟨bk, off, none⟩) l.length c] W fun e w' => (∃ aa ka, e = .returned (.slice aa L3.length ka) ∧ RowA w' aa ka L3) ∧ Below W.heap.size W w') := fun W hW => by
        have h := asks_ft x0 x1 (some ⟨bk, off, none⟩) c l W m (M0.kept hW) (hr.below hW) (by omega)
        rw [hd, hL3] at h
        exact h.mono fun e w' ⟨aa, ka, he, gg⟩ => ⟨⟨aa, ka, he, gg.owns.rowA⟩, gg.below⟩
      have Ae := A1
      have be := b1
      obtain ⟨We, hWe⟩ : ∃ We, wr = We := ⟨_, rfl⟩
      try rw [hWe] at Ae be
      try rw [hWe]
      clear hcs hP has ln1 ln2 ln3 hlk hr1 hr2 hL1 hL2 hL3 hN hT hd hdl hxl HXL A1 b1 hWe
      go_wp2_with fail
      obtain ⟨Wdq1, hWdq1⟩ : ∃ W, We.drew = W := ⟨_, rfl⟩
      have Adq1 := hWdq1 ▸ Ae.drew
      have bdq1 := hWdq1 ▸ be.drew
      refine wp_region_noPanic ?_
      refine wp_region_held_drew (S := fun w' => Blk w' w.heap.size 40 #[.int .i64 x0, .int .i64 x1]) (by kernel_rfl) (by rw [hWdq1]; exact Adq1) (fun hHeld => ?_)
      rw [hWdq1] at hHeld ⊢
      refine qtk (i := 0) (oi := { dst := some 53, op := Op.indexAddr 40 (.tmp 3) (.const (.int .i64 0)), type := 0, pos := "law.go:59", after := #[], guard := none }) (v := (.pointer (some ⟨w.heap.size, 0, none⟩))) hHeld ?_ ?_
      · intro w9 hSw
        try dsimp only at hSw
        go_simp
      try simp only [qpu]
      refine qtk (i := 1) (oi := { dst := some 54, op := Op.load 3 (.tmp 53), type := 3, pos := "law.go:59", after := #[{ on := 0, ground := Ground.data }], guard := none }) (v := (.int .i64 x0)) hHeld ?_ ?_
      · intro w9 hSw
        try dsimp only at hSw
        have hcc := hSw.cell 0 (.int .i64 x0) rfl
        go_simp
      try simp only [qpu]
      refine qtk (i := 2) (oi := { dst := some 55, op := Op.indexAddr 40 (.tmp 3) (.const (.int .i64 1)), type := 0, pos := "law.go:59", after := #[], guard := none }) (v := (.pointer (some ⟨w.heap.size, 1, none⟩))) hHeld ?_ ?_
      · intro w9 hSw
        try dsimp only at hSw
        go_simp
      try simp only [qpu]
      refine qtk (i := 3) (oi := { dst := some 56, op := Op.load 3 (.tmp 55), type := 3, pos := "law.go:59", after := #[{ on := 2, ground := Ground.data }], guard := none }) (v := (.int .i64 x1)) hHeld ?_ ?_
      · intro w9 hSw
        try dsimp only at hSw
        have hcc := hSw.cell 1 (.int .i64 x1) rfl
        go_simp
      try simp only [qpu]
      refine qtk (i := 4) (oi := { dst := some 57, op := Op.move (.tmp 1), type := 22, pos := "law.go:59", after := #[], guard := none }) (v := (.slice (some ⟨bk, off, none⟩) l.length c)) hHeld ?_ ?_
      · intro w9 hSw
        try dsimp only at hSw
        go_simp
      try simp only [qpu]
      refine qtk (i := 5) (oi := { dst := some 58, op := Op.move (.tmp 8), type := 3, pos := "law.go:59", after := #[], guard := none }) (v := (.int .i64 (N : Int))) hHeld ?_ ?_
      · intro w9 hSw
        try dsimp only at hSw
        go_simp
      try simp only [qpu]
      refine qtk (i := 6) (oi := { dst := some 59, op := Op.slice 22 (.tmp 57) none (some (.tmp 58)) none, type := 22, pos := "law.go:59", after := #[{ on := 4, ground := Ground.data }, { on := 5, ground := Ground.data }], guard := none }) (v := (.slice (some ⟨bk, off, none⟩) N c)) hHeld ?_ ?_
      · intro w9 hSw
        try dsimp only at hSw
        have hcc := hsu
        go_simp
      try simp only [qpu]
      refine qtk (i := 8) (oi := { dst := some 61, op := Op.indexAddr 40 (.tmp 3) (.const (.int .i64 0)), type := 0, pos := "law.go:59", after := #[], guard := none }) (v := (.pointer (some ⟨w.heap.size, 0, none⟩))) hHeld ?_ ?_
      · intro w9 hSw
        try dsimp only at hSw
        go_simp
      try simp only [qpu]
      refine qtk (i := 9) (oi := { dst := some 62, op := Op.load 3 (.tmp 61), type := 3, pos := "law.go:59", after := #[{ on := 8, ground := Ground.data }], guard := none }) (v := (.int .i64 x0)) hHeld ?_ ?_
      · intro w9 hSw
        try dsimp only at hSw
        have hcc := hSw.cell 0 (.int .i64 x0) rfl
        go_simp
      try simp only [qpu]
      refine qtk (i := 10) (oi := { dst := some 63, op := Op.indexAddr 40 (.tmp 3) (.const (.int .i64 1)), type := 0, pos := "law.go:59", after := #[], guard := none }) (v := (.pointer (some ⟨w.heap.size, 1, none⟩))) hHeld ?_ ?_
      · intro w9 hSw
        try dsimp only at hSw
        go_simp
      try simp only [qpu]
      refine qtk (i := 11) (oi := { dst := some 64, op := Op.load 3 (.tmp 63), type := 3, pos := "law.go:59", after := #[{ on := 10, ground := Ground.data }], guard := none }) (v := (.int .i64 x1)) hHeld ?_ ?_
      · intro w9 hSw
        try dsimp only at hSw
        have hcc := hSw.cell 1 (.int .i64 x1) rfl
        go_simp
      try simp only [qpu]
      refine qtk (i := 12) (oi := { dst := some 65, op := Op.move (.tmp 1), type := 22, pos := "law.go:59", after := #[], guard := none }) (v := (.slice (some ⟨bk, off, none⟩) l.length c)) hHeld ?_ ?_
      · intro w9 hSw
        try dsimp only at hSw
        go_simp
      try simp only [qpu]
      refine qtk (i := 13) (oi := { dst := some 66, op := Op.move (.tmp 8), type := 3, pos := "law.go:59", after := #[], guard := none }) (v := (.int .i64 (N : Int))) hHeld ?_ ?_
      · intro w9 hSw
        try dsimp only at hSw
        go_simp
      try simp only [qpu]
      refine qtk (i := 14) (oi := { dst := some 67, op := Op.slice 22 (.tmp 65) (some (.tmp 66)) none none, type := 22, pos := "law.go:59", after := #[{ on := 12, ground := Ground.data }, { on := 13, ground := Ground.data }], guard := none }) (v := (.slice (subA bk off c N) (l.length - N) (c - N))) hHeld ?_ ?_
      · intro w9 hSw
        try dsimp only at hSw
        have hcc := hsf
        go_simp
      try simp only [qpu]
      refine wpAnyH_ready (rs := [7]) (by kernel_rfl) (by simp) ?_
      refine AllReadyH.cons (o := { dst := some 60, op := Op.call { callee := Callee.value (.func 17), args := #[.tmp 54, .tmp 56, .tmp 59], argTypes := #[3, 3, 22] }, type := 37, pos := "law.go:59", after := #[{ on := 1, ground := Ground.data }, { on := 3, ground := Ground.data }, { on := 6, ground := Ground.data }], guard := none }) rfl (fun K hK => ?_) AllReadyH.nil
      go_simp
      refine Calls.mono (KA1.out _ bdq1) ?_
      rintro e Wx2 ⟨⟨aO, kO, rfl, Ox2⟩, bb⟩
      have Ax2 := Adq1.kept bb
      have bx2 := bel_tr bdq1 bb
      clear bb
      refine hK.out _ _ (by exact Ax2) (fun hHeld => ?_)
      clear hK K
      try simp only [qpu]
      refine wpAnyH_ready (rs := [15]) (by kernel_rfl) (by simp) ?_
      refine AllReadyH.cons (o := { dst := some 68, op := Op.call { callee := Callee.value (.func 17), args := #[.tmp 62, .tmp 64, .tmp 67], argTypes := #[3, 3, 22] }, type := 37, pos := "law.go:59", after := #[{ on := 9, ground := Ground.data }, { on := 11, ground := Ground.data }, { on := 14, ground := Ground.data }, { on := 7, ground := Ground.chain }], guard := none }) rfl (fun K hK => ?_) AllReadyH.nil
      go_simp
      refine Calls.mono (KA2.out _ bx2) ?_
      rintro e Wx3 ⟨⟨aP, kP, rfl, Px3⟩, bb⟩
      have Ax3 := Ax2.kept bb
      have Ox3 := Ox2.kept bb
      have bx3 := bel_tr bx2 bb
      clear bb
      refine hK.out _ _ (by exact Ax3) (fun hHeld => ?_)
      clear hK K
      try simp only [qpu]
      refine qtk (i := 16) (oi := { dst := some 11, op := Op.assign (.tmp 60), type := 37, pos := "law.go:59", after := #[{ on := 7, ground := Ground.data }, { on := 15, ground := Ground.chain }, { on := 0, ground := Ground.phase }, { on := 1, ground := Ground.phase }, { on := 2, ground := Ground.phase }, { on := 3, ground := Ground.phase }, { on := 4, ground := Ground.phase }, { on := 5, ground := Ground.phase }, { on := 6, ground := Ground.phase }, { on := 7, ground := Ground.phase }, { on := 8, ground := Ground.textOnly Departure.lateStores }, { on := 9, ground := Ground.textOnly Departure.lateStores }, { on := 10, ground := Ground.textOnly Departure.lateStores }, { on := 11, ground := Ground.textOnly Departure.lateStores }, { on := 12, ground := Ground.textOnly Departure.lateStores }, { on := 13, ground := Ground.textOnly Departure.lateStores }, { on := 14, ground := Ground.textOnly Departure.lateStoresUnsure }, { on := 15, ground := Ground.textOnly Departure.lateStoresUnsure }], guard := none }) (v := (.slice aO L1.length kO)) hHeld ?_ ?_
      · intro w9 hSw
        try dsimp only at hSw
        go_simp
      try simp only [qpu]
      refine qtk (i := 17) (oi := { dst := some 12, op := Op.assign (.tmp 68), type := 37, pos := "law.go:59", after := #[{ on := 15, ground := Ground.data }, { on := 16, ground := Ground.chain }, { on := 0, ground := Ground.phase }, { on := 1, ground := Ground.phase }, { on := 2, ground := Ground.phase }, { on := 3, ground := Ground.phase }, { on := 4, ground := Ground.phase }, { on := 5, ground := Ground.phase }, { on := 6, ground := Ground.phase }, { on := 7, ground := Ground.phase }, { on := 8, ground := Ground.phase }, { on := 9, ground := Ground.phase }, { on := 10, ground := Ground.phase }, { on := 11, ground := Ground.phase }, { on := 12, ground := Ground.phase }, { on := 13, ground := Ground.phase }, { on := 14, ground := Ground.phase }, { on := 15, ground := Ground.phase }, { on := 16, ground := Ground.phase }], guard := none }) (v := (.slice aP L2.length kP)) hHeld ?_ ?_
      · intro w9 hSw
        try dsimp only at hSw
        go_simp
      try simp only [qpu]
      refine wpAnyH_done (by kernel_rfl) ?_ _
      refine NoPanic.normal ?_
      go_wp2_with fail
      obtain ⟨Wdq4, hWdq4⟩ : ∃ W, Wx3.drew = W := ⟨_, rfl⟩
      have Adq4 := hWdq4 ▸ Ax3.drew
      have Odq4 := hWdq4 ▸ Ox3.drew
      have Pdq4 := hWdq4 ▸ Px3.drew
      have bdq4 := hWdq4 ▸ bx3.drew
      refine wp_region_noPanic ?_
      refine wp_region_held_drew (S := fun w' => Blk w' w.heap.size 40 #[.int .i64 x0, .int .i64 x1] ∧ RowA w' aO kO L1 ∧ RowA w' aP kP L2) (by kernel_rfl) (by rw [hWdq4]; exact ⟨Adq4, Odq4, Pdq4⟩) (fun hHeld => ?_)
      rw [hWdq4] at hHeld ⊢
      refine qtk (i := 0) (oi := { dst := some 69, op := Op.move (.tmp 11), type := 37, pos := "law.go:60", after := #[], guard := none }) (v := (.slice aO L1.length kO)) hHeld ?_ ?_
      · intro w9 hSw
        try dsimp only at hSw
        go_simp
      try simp only [qpu]
      refine qtk (i := 2) (oi := { dst := some 71, op := Op.move (.tmp 12), type := 37, pos := "law.go:60", after := #[], guard := none }) (v := (.slice aP L2.length kP)) hHeld ?_ ?_
      · intro w9 hSw
        try dsimp only at hSw
        go_simp
      try simp only [qpu]
      refine qtk (i := 4) (oi := { dst := some 73, op := Op.indexAddr 40 (.tmp 3) (.const (.int .i64 0)), type := 0, pos := "law.go:60", after := #[], guard := none }) (v := (.pointer (some ⟨w.heap.size, 0, none⟩))) hHeld ?_ ?_
      · intro w9 hSw
        try dsimp only at hSw
        go_simp
      try simp only [qpu]
      refine qtk (i := 5) (oi := { dst := some 74, op := Op.load 3 (.tmp 73), type := 3, pos := "law.go:60", after := #[{ on := 4, ground := Ground.data }], guard := none }) (v := (.int .i64 x0)) hHeld ?_ ?_
      · intro w9 hSw
        try dsimp only at hSw
        have hcc := hSw.1.cell 0 (.int .i64 x0) rfl
        go_simp
      try simp only [qpu]
      refine qtk (i := 6) (oi := { dst := some 75, op := Op.indexAddr 40 (.tmp 3) (.const (.int .i64 1)), type := 0, pos := "law.go:60", after := #[], guard := none }) (v := (.pointer (some ⟨w.heap.size, 1, none⟩))) hHeld ?_ ?_
      · intro w9 hSw
        try dsimp only at hSw
        go_simp
      try simp only [qpu]
      refine qtk (i := 7) (oi := { dst := some 76, op := Op.load 3 (.tmp 75), type := 3, pos := "law.go:60", after := #[{ on := 6, ground := Ground.data }], guard := none }) (v := (.int .i64 x1)) hHeld ?_ ?_
      · intro w9 hSw
        try dsimp only at hSw
        have hcc := hSw.1.cell 1 (.int .i64 x1) rfl
        go_simp
      try simp only [qpu]
      refine qtk (i := 8) (oi := { dst := some 77, op := Op.move (.tmp 1), type := 22, pos := "law.go:60", after := #[], guard := none }) (v := (.slice (some ⟨bk, off, none⟩) l.length c)) hHeld ?_ ?_
      · intro w9 hSw
        try dsimp only at hSw
        go_simp
      try simp only [qpu]
      refine wpAnyH_ready (rs := [1]) (by kernel_rfl) (by simp) ?_
      refine AllReadyH.cons (o := { dst := some 70, op := Op.call { callee := Callee.builtin Builtin.append, args := #[.const (Value.slice none 0 0), .tmp 69], argTypes := #[37, 37] }, type := 37, pos := "law.go:60", after := #[{ on := 0, ground := Ground.data }], guard := none }) rfl (fun K hK => ?_) AllReadyH.nil
      obtain ⟨aU, kU, Wp5, hrun, Up5, gr⟩ := run_appAss Wdq4 37 Wdq4.heap.size none 0 [] (OwnAs.nil _ _) aO kO L1 Odq4 (by simp; omega) (Nat.le_refl _)
      have bb : Below Wdq4.heap.size Wdq4 Wp5 := (Below.refl _ _).grown gr (Nat.le_refl _) (fun j hj => by cases hj)
      rw [List.nil_append] at hrun Up5
      refine step_rnL rfl _ _ _ rfl _ _ (by rfl) (by rfl) _ _ hrun ?_
      have Ap5 := Adq4.kept bb
      have Op5 := Odq4.kept bb
      have Pp5 := Pdq4.kept bb
      have bp5 := bel_tr bdq4 bb
      have zB : Hid (w.heap.size ≤ Wdq4.heap.size ∧ Wdq4.heap.size ≤ Wp5.heap.size) := ⟨bdq4.size, bb.size⟩
      have zP : Hid (∀ y : Addr, aP = some y → y.block < Wdq4.heap.size) := Pdq4.lt
      have zO : Hid (∀ y : Addr, aO = some y → y.block < Wdq4.heap.size) := Odq4.lt
      have zA : Hid (w.heap.size < Wdq4.heap.size) := Adq4.lt
      have UH : Hid (OwnAs Wp5 Wdq4.heap.size aU kU L1) := Up5
      clear Up5
      clear hrun gr bb
      refine hK.out _ _ (by exact ⟨Ap5, Op5, Pp5⟩) (fun hHeld => ?_)
      clear hK K
      try simp only [qpu]
      refine wpAnyH_ready (rs := [3]) (by kernel_rfl) (by simp) ?_
      refine AllReadyH.cons (o := { dst := some 72, op := Op.call { callee := Callee.builtin Builtin.append, args := #[.tmp 70, .tmp 71], argTypes := #[37, 37] }, type := 37, pos := "law.go:60", after := #[{ on := 1, ground := Ground.data }, { on := 2, ground := Ground.data }, { on := 1, ground := Ground.chain }], guard := none }) rfl (fun K hK => ?_) AllReadyH.nil
      obtain ⟨aV, kV, Wp6, hrun, V0, gr⟩ := run_appAss Wp5 37 _ aU kU L1 UH.out aP kP L2 Pp5 (by omega) (by have := zB.out.2; omega)
      have bl := (Below.refl _ Wp5).grown gr zB.out.2 (fun j hj => by
        cases haU : aU with
        | none => rw [haU] at hj; cases hj
        | some y => rw [haU] at hj; simp only [Option.map_some, Option.some.injEq] at hj; rw [← hj]; exact UH.out.lt y haU)
      rw [HAS.out] at hrun V0
      have Vp6 := V0.rowA
      refine step_rnL rfl _ _ _ rfl _ _ (by rfl) (by rfl) _ _ hrun ?_
      have Ap6 := Ap5.below bl zA.out
      have Op6 := Op5.low bl zO.out
      have Pp6 := Pp5.low bl zP.out
      have bp6 := bp5.trans (bl.mono zB.out.1)
      clear hrun gr bl V0 UH
      refine hK.out _ _ (by exact ⟨Ap6, Op6, Pp6⟩) (fun hHeld => ?_)
      clear hK K
      try simp only [qpu]
      refine wpAnyH_ready (rs := [9]) (by kernel_rfl) (by simp) ?_
      refine AllReadyH.cons (o := { dst := some 78, op := Op.call { callee := Callee.value (.func 17), args := #[.tmp 74, .tmp 76, .tmp 77], argTypes := #[3, 3, 22] }, type := 37, pos := "law.go:60", after := #[{ on := 5, ground := Ground.data }, { on := 7, ground := Ground.data }, { on := 8, ground := Ground.data }, { on := 3, ground := Ground.chain }], guard := none }) rfl (fun K hK => ?_) AllReadyH.nil
      go_simp
      refine Calls.mono (KA3.out _ bp6) ?_
      rintro e Wx7 ⟨⟨aS, kS, rfl, Sx7⟩, bb⟩
      have Ax7 := Ap6.kept bb
      have Ox7 := Op6.kept bb
      have Px7 := Pp6.kept bb
      have Vx7 := Vp6.kept bb
      have bx7 := bel_tr bp6 bb
      clear bb
      refine hK.out _ _ (by exact ⟨Ax7, Ox7, Px7⟩) (fun hHeld => ?_)
      clear hK K
      try simp only [qpu]
      refine wpAnyH_ready (rs := [10]) (by kernel_rfl) (by simp) ?_
      refine AllReadyH.cons (o := { dst := some 79, op := Op.call { callee := Callee.value (.func 16), args := #[.tmp 72, .tmp 78], argTypes := #[37, 37] }, type := 4, pos := "law.go:60", after := #[{ on := 3, ground := Ground.data }, { on := 9, ground := Ground.data }, { on := 9, ground := Ground.chain }], guard := none }) rfl (fun K hK => ?_) AllReadyH.nil
      go_simp
      refine Calls.mono (rsameA_ft L3 aV aS kV kS _ (by omega) Vx7.row Sx7.row) ?_
      rintro e Wx8 ⟨rfl, bb⟩
      have Ax8 := Ax7.kept bb
      have Ox8 := Ox7.kept bb
      have Px8 := Px7.kept bb
      have Vx8 := Vx7.kept bb
      have Sx8 := Sx7.kept bb
      have bx8 := bel_tr bx7 bb
      clear bb
      refine hK.out _ _ (by exact ⟨Ax8, Ox8, Px8⟩) (fun hHeld => ?_)
      clear hK K
      try simp only [qpu]
      refine qtk (i := 11) (oi := { dst := some 80, op := Op.move (.tmp 79), type := 4, pos := "law.go:60", after := #[{ on := 10, ground := Ground.data }, { on := 10, ground := Ground.chain }], guard := none }) (v := (.bool true)) hHeld ?_ ?_
      · intro w9 hSw
        try dsimp only at hSw
        go_simp
      try simp only [qpu]
      refine wpAnyH_ready (rs := [12]) (by kernel_rfl) (by simp) ?_
      refine AllReadyH.cons (o := { dst := some 81, op := Op.call { callee := Callee.value (.func 13), args := #[], argTypes := #[] }, type := 4, pos := "law.go:60", after := #[{ on := 11, ground := Ground.chain }, { on := 11, ground := Ground.guard }], guard := some (11, true) }) rfl (fun K hK => ?_) AllReadyH.nil
      go_simp
      refine Calls.mono (alive_ft m _ (M0.kept bx8)) ?_
      rintro e Wx9 ⟨rfl, bb⟩
      have Ax9 := Ax8.kept bb
      have Ox9 := Ox8.kept bb
      have Px9 := Px8.kept bb
      have Vx9 := Vx8.kept bb
      have Sx9 := Sx8.kept bb
      have bx9 := bel_tr bx8 bb
      clear bb
      refine hK.out _ _ (by exact ⟨Ax9, Ox9, Px9⟩) (fun hHeld => ?_)
      clear hK K
      try simp only [qpu]
      refine qtk (i := 13) (oi := { dst := some 82, op := Op.pick (.tmp 80) (.tmp 81) (.const (.bool false)), type := 4, pos := "law.go:60", after := #[{ on := 11, ground := Ground.data }, { on := 12, ground := Ground.data }], guard := none }) (v := (.bool true)) hHeld ?_ ?_
      · intro w9 hSw
        try dsimp only at hSw
        go_simp
      try simp only [qpu]
      refine qtk (i := 14) (oi := { dst := some 6, op := Op.assign (.tmp 82), type := 4, pos := "law.go:60", after := #[{ on := 13, ground := Ground.data }, { on := 12, ground := Ground.chain }, { on := 0, ground := Ground.phase }, { on := 1, ground := Ground.phase }, { on := 2, ground := Ground.phase }, { on := 3, ground := Ground.phase }, { on := 4, ground := Ground.phase }, { on := 5, ground := Ground.phase }, { on := 6, ground := Ground.phase }, { on := 7, ground := Ground.phase }, { on := 8, ground := Ground.phase }, { on := 9, ground := Ground.phase }, { on := 10, ground := Ground.phase }, { on := 11, ground := Ground.phase }, { on := 12, ground := Ground.phase }, { on := 13, ground := Ground.phase }], guard := none }) (v := (.bool true)) hHeld ?_ ?_
      · intro w9 hSw
        try dsimp only at hSw
        go_simp
      try simp only [qpu]
      refine wpAnyH_done (by kernel_rfl) ?_ _
      refine NoPanic.normal ?_
      go_wp2_with fail
      go_ret
      exact ⟨retB_fw (by rw [← HR.out]), bx9⟩
end Go.Proofs.YtnadfacbfcdkgaaDoor
