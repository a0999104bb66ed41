/- Texts joined: XpT -/
import Derived.Test.YtmflogmocgbmhaaXpa30
namespace Go.Proofs.Ytmflogmocgbmhaa
open Go.RowKit
set_option linter.unusedVariables false
set_option linter.unusedSimpArgs false
set_option maxRecDepth 100000 in
set_option maxHeartbeats 4000000 in
theorem neq_want (f : Wt) (w : World) : (Go.binOp .neq 28 (.agg f.v) (.agg f.v)).run Try.prog w = Result.ok (.bool false) w := by
  obtain ⟨⟨a, b, ⟨c, d, e⟩, ⟨c', d', e'⟩, g, h⟩, ⟨a1, b1, ⟨c1, d1, e1⟩, ⟨c2, d2, e2⟩, g1, h1⟩, i, j⟩ := f
  simp [go_sem]
set_option maxRecDepth 100000 in
set_option maxHeartbeats 4000000 in
theorem eql_want (f : Wt) (w : World) : (Go.binOp .eql 28 (.agg f.v) (.agg f.v)).run Try.prog w = Result.ok (.bool true) w := by
  obtain ⟨⟨a, b, ⟨c, d, e⟩, ⟨c', d', e'⟩, g, h⟩, ⟨a1, b1, ⟨c1, d1, e1⟩, ⟨c2, d2, e2⟩, g1, h1⟩, i, j⟩ := f
  simp [go_sem]
theorem neq_zero_w (w : World) : (Go.binOp .neq 28 (.agg #[.int .i64 0, .int .i64 0, .int .i64 0, .int .u64 0, .int .u64 0, .int .i64 0, .int .u64 0, .int .u64 0, .int .i64 0, .int .i64 0, .int .i64 0, .int .i64 0, .int .i64 0, .int .u64 0, .int .u64 0, .int .i64 0, .int .u64 0, .int .u64 0, .int .i64 0, .int .i64 0, .int .i64 0, .int .i64 0]) (.agg #[.int .i64 0, .int .i64 0, .int .i64 0, .int .u64 0, .int .u64 0, .int .i64 0, .int .u64 0, .int .u64 0, .int .i64 0, .int .i64 0, .int .i64 0, .int .i64 0, .int .i64 0, .int .u64 0, .int .u64 0, .int .i64 0, .int .u64 0, .int .u64 0, .int .i64 0, .int .i64 0, .int .i64 0, .int .i64 0])).run Try.prog w = Result.ok (.bool false) w := neq_want wt0 w
theorem take_nil0_xp (x : Wy) (w : World) : Calls Try.prog 22 #[.pointer none, .agg x.v] w fun e w' => e = .returned (.tuple #[.agg #[.int .i64 0, .int .i64 0, .int .i64 0, .int .u64 0, .int .u64 0, .int .i64 0, .int .u64 0, .int .u64 0, .int .i64 0, .int .i64 0, .int .i64 0, .int .i64 0, .int .i64 0, .int .u64 0, .int .u64 0, .int .i64 0, .int .u64 0, .int .u64 0, .int .i64 0, .int .i64 0, .int .i64 0, .int .i64 0], .bool false]) ∧ Below w.heap.size w w' := take_nil_xp x w
theorem take_un0_xp (tb : Nat) (x : Wy) (w : World) (T : Blk w tb 61 #[.bool false, .int .i64 0, .int .i64 0, .int .i64 0, .slice none 0 0]) : Calls Try.prog 22 #[.pointer (some ⟨tb, 0, none⟩), .agg x.v] w fun e w' => e = .returned (.tuple #[.agg #[.int .i64 0, .int .i64 0, .int .i64 0, .int .u64 0, .int .u64 0, .int .i64 0, .int .u64 0, .int .u64 0, .int .i64 0, .int .i64 0, .int .i64 0, .int .i64 0, .int .i64 0, .int .u64 0, .int .u64 0, .int .i64 0, .int .u64 0, .int .u64 0, .int .i64 0, .int .i64 0, .int .i64 0, .int .i64 0], .bool false]) ∧ Below w.heap.size w w' := take_un_xp tb x w T
set_option maxRecDepth 100000 in
set_option maxHeartbeats 4000000 in
theorem same_xp (a a2 : Option Addr) (c c2 : Nat) (l : List Wt) (w : World) (h1 : RowW w a l) (h2 : RowW w a2 l) (hll : l.length ≤ 1000000) :
    Calls Try.prog 18 #[.slice a l.length c, .slice a2 l.length c2] w fun e w' => e = .returned (.bool true) ∧ Below w.heap.size w w' := by
  have HA : Hid (RowW w a l) := h1
  have HB : Hid (RowW w a2 l) := h2
  obtain ⟨N, hN⟩ : ∃ N, l.length = N := ⟨_, rfl⟩
  have HN : Hid (l.length = N) := hN
  rw [hN] at hll ⊢
  clear hN h1 h2
  obtain ⟨R, hR⟩ : ∃ R, (7777 : Int) = R := ⟨_, rfl⟩
  have HR : Hid ((7777 : Int) = R) := hR
  try rw [hR]
  clear hR
  have b := Below.refl w.heap.size w
  go_enter Try.func18, Try.ntmps18
  go_wp2_with fail
  go_loopw [5] (fun i wr => ∃ k : Nat, k ≤ N ∧ i = .int .i64 k ∧ Below w.heap.size w wr) (fun i _ => N - (intOf i).toNat)
  case atStart => exact ⟨0, Nat.zero_le _, rfl, b⟩
  case round =>
    obtain ⟨k, hk, rfl, br⟩ := hrel
    obtain ⟨Wr, rfl⟩ : ∃ W, W = wr := ⟨_, rfl⟩
    have in0 : (0 : Int) ≤ (k : Int) := by omega
    by_cases hlt : k < N
    · have ik : (k : Int) < (N : Int) := by omega
      have ik' : decide ((k : Int) < (N : Int)) = true := by simpa using ik
      obtain ⟨q, hq⟩ : ∃ q, l[k]? = some q := ⟨_, List.getElem?_eq_getElem (by rw [HN.out]; exact hlt)⟩
      obtain ⟨p1, o1, rfl, hc1⟩ := (HA.out.low br).cells k q hq
      obtain ⟨p2, o2, rfl, hc2⟩ := (HB.out.low br).cells k q hq
      have HC1 : Hid (CellsAt Wr p1 (o1 + k * 22) q.v) := hc1
      have HC2 : Hid (CellsAt Wr p2 (o2 + k * 22) q.v) := hc2
      have Qr : But (fun _ => False) Wr Wr := But.refl _ _
      clear hq hc1 hc2
      go_wp2_with fail
      obtain ⟨Wdq1, hWdq1⟩ : ∃ W, Wr.drew = W := ⟨_, rfl⟩
      have Qdq1 := hWdq1 ▸ Qr.drew
      have bdq1 := hWdq1 ▸ br.drew
      refine wp_region_noPanic ?_
      refine wp_region_held_drew (S := fun w' => But (fun _ => False) Wr w') (by kernel_rfl) (by rw [hWdq1]; exact Qdq1) (fun hHeld => ?_)
      rw [hWdq1] at hHeld ⊢
      refine qtk (i := 0) (oi := { dst := some 17, op := Op.move (.tmp 0), type := 39, pos := "ref.go:133", after := #[], guard := none }) (v := (.slice (some ⟨p1, o1, none⟩) N c)) hHeld ?_ ?_
      · intro w9 hSw
        try dsimp only at hSw
        go_simp
      try simp only [qpu]
      refine qtk (i := 1) (oi := { dst := some 18, op := Op.move (.tmp 5), type := 3, pos := "ref.go:133", after := #[], guard := none }) (v := (.int .i64 (k : Int))) hHeld ?_ ?_
      · intro w9 hSw
        try dsimp only at hSw
        go_simp
      try simp only [qpu]
      refine qtk (i := 2) (oi := { dst := some 19, op := Op.indexAddr 39 (.tmp 17) (.tmp 18), type := 0, pos := "ref.go:133", after := #[{ on := 0, ground := Ground.data }, { on := 1, ground := Ground.data }], guard := none }) (v := (.pointer (some ⟨p1, o1 + k * 22, none⟩))) hHeld ?_ ?_
      · intro w9 hSw
        try dsimp only at hSw
        go_simp
      try simp only [qpu]
      refine qty (i := 3) (oi := { dst := some 20, op := Op.load 28 (.tmp 19), type := 28, pos := "ref.go:133", after := #[{ on := 2, ground := Ground.data }], guard := none }) (v := (.agg q.v)) (yieldsIf_at (by kernel_rfl) _ _ rfl p1 (o1 + k * 22) (by rfl) _ (fun _ hSw => HC1.out.below (hSw.to_below (Nat.le_refl _) (fun _ _ x => x))) Try.underlying28 (by kernel_rfl)) hHeld ?_
      try simp only [qpu]
      refine qtk (i := 4) (oi := { dst := some 21, op := Op.move (.tmp 1), type := 39, pos := "ref.go:133", after := #[], guard := none }) (v := (.slice (some ⟨p2, o2, none⟩) N c2)) hHeld ?_ ?_
      · intro w9 hSw
        try dsimp only at hSw
        go_simp
      try simp only [qpu]
      refine qtk (i := 5) (oi := { dst := some 22, op := Op.move (.tmp 5), type := 3, pos := "ref.go:133", after := #[], guard := none }) (v := (.int .i64 (k : Int))) hHeld ?_ ?_
      · intro w9 hSw
        try dsimp only at hSw
        go_simp
      try simp only [qpu]
      refine qtk (i := 6) (oi := { dst := some 23, op := Op.indexAddr 39 (.tmp 21) (.tmp 22), type := 0, pos := "ref.go:133", after := #[{ on := 4, ground := Ground.data }, { on := 5, ground := Ground.data }], guard := none }) (v := (.pointer (some ⟨p2, o2 + k * 22, none⟩))) hHeld ?_ ?_
      · intro w9 hSw
        try dsimp only at hSw
        go_simp
      try simp only [qpu]
      refine qty (i := 7) (oi := { dst := some 24, op := Op.load 28 (.tmp 23), type := 28, pos := "ref.go:133", after := #[{ on := 6, ground := Ground.data }], guard := none }) (v := (.agg q.v)) (yieldsIf_at (by kernel_rfl) _ _ rfl p2 (o2 + k * 22) (by rfl) _ (fun _ hSw => HC2.out.below (hSw.to_below (Nat.le_refl _) (fun _ _ x => x))) Try.underlying28 (by kernel_rfl)) hHeld ?_
      try simp only [qpu]
      refine qtk (i := 8) (oi := { dst := some 25, op := Op.binOp BinOp.neq 28 (.tmp 20) (.tmp 24) 28, type := 4, pos := "ref.go:133", after := #[{ on := 3, ground := Ground.data }, { on := 7, ground := Ground.data }], guard := none }) (v := (.bool false)) hHeld ?_ ?_
      · intro w9 hSw
        try dsimp only at hSw
        have hcc := neq_want q
        go_simp
      try simp only [qpu]
      refine wpAnyH_done (by kernel_rfl) ?_ _
      refine NoPanic.normal ?_
      go_wp2_with fail
      exact ⟨⟨k + 1, by omega, by go_num, bdq1⟩, by simp [intOf]; omega⟩

    · have ik : ¬ (k : Int) < (N : Int) := by omega
      have ik' : decide ((k : Int) < (N : Int)) = false := by simpa using ik
      go_wp2_with fail
      go_ret
      exact ⟨rfl, br⟩
end Go.Proofs.Ytmflogmocgbmhaa
