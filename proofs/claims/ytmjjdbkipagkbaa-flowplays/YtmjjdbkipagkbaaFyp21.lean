/- Texts joined: TcJ TcO TuB TuC -/
import Derived.Test.YtmjjdbkipagkbaaFyp3
import Derived.Test.YtmjjdbkipagkbaaFyp4
import Derived.Test.YtmjjdbkipagkbaaFyp20
import Derived.ChangeKeysEq
import Derived.Deep.RegionHeld3
namespace Go.Proofs.Ytmjjdbkipagkbaa
open Go.RowKit
set_option linter.unusedVariables false
set_option linter.unusedSimpArgs false
set_option maxRecDepth 100000 in
set_option maxHeartbeats 4000000 in
theorem begin_tc (f sq win sz : Int) (w : World) :
    Calls Try.prog 60 #[.int .i64 f, .int .u32 sq, .int .i64 win, .int .i64 sz] w fun e w' => e = .returned (.tuple #[.agg (beg f sq win sz).1.v, .int .i64 (beg f sq win sz).2]) ∧ Below w.heap.size w w' := by
  obtain ⟨R, hR⟩ : ∃ R, beg f sq win sz = R := ⟨_, rfl⟩
  have HR : Hid ((if inB15 win && inB15 sz then (if bits .and .i64 f 23 == 2 && sz == 0 then (⟨1, (sq + 1) % 4294967296, 0, (sq + 1) % 4294967296, win % 4294967296, true, false, false, false⟩, 0) else (cn0, 23)) else (cn0, 1)) = R) := hR
  rw [hR]
  clear hR
  have KW : Hid (∀ W, Calls Try.prog 79 #[.int .i64 win] W fun e w' => e = .returned (.bool (inB15 win)) ∧ Below W.heap.size W w') := fun W => size_tc win W
  have KZ : Hid (∀ W, Calls Try.prog 79 #[.int .i64 sz] W fun e w' => e = .returned (.bool (inB15 sz)) ∧ Below W.heap.size W w') := fun W => size_tc sz W
  generalize inB15 win = P at *
  generalize inB15 sz = Q at *
  have e2 : (bits .and .i64 f 23 != 2) = !(bits .and .i64 f 23 == 2) := rfl
  have e3 : (sz != 0) = !(sz == 0) := rfl
  generalize (bits .and .i64 f 23 == 2) = F at *
  generalize (sz == 0) = N at *
  obtain ⟨W1, hW1⟩ : ∃ W, w.alloc (.cells #[.int .i64 0, .int .u32 0, .int .u32 0, .int .u32 0, .int .u32 0, .bool false, .bool false, .bool false, .bool false] 31) = W := ⟨_, rfl⟩
  have b1 := bel_nw hW1
  have Z1 := blk_nw hW1
  have gZ : w.heap.size ≤ w.heap.size := Nat.le_refl _
  go_enter Try.func60, Try.ntmps60
  go_wp2_with fail
  refine Calls.mono (KW.out _) ?_
  rintro e W2 ⟨rfl, bb⟩
  have Z2 := Z1.kept bb
  have b2 := bel_tr b1 bb
  clear bb
  clear Z1 b1
  cases P with
  | false =>
    have Zf := Z2.set cn0.v
    have bf := below_setRow b2 gZ cn0.v
    go_wp2_with (refine wpList_store_row rfl _ _ _ rfl w.heap.size cn0.v (by rfl) (by rfl) _ _ Z2 (by kernel_rfl) (by rfl) (by kernel_rfl) ?_)
    obtain rfl : (cn0, (1 : Int)) = R := by rw [← HR.out]; first | rfl | simp
    exact ret_cell_tmp (k := 8) (j := 9) Try.f60 (by kernel_rfl) Zf Try.underlying31 (by kernel_rfl) (by rfl) (by rfl) rfl ⟨rfl, bf⟩

  | true =>
    go_wp2_with fail
    refine Calls.mono (KZ.out _) ?_
    rintro e W3 ⟨rfl, bb⟩
    have Z3 := Z2.kept bb
    have b3 := bel_tr b2 bb
    clear bb
    clear Z2 b2
    cases Q with
    | false =>
      have Zf := Z3.set cn0.v
      have bf := below_setRow b3 gZ cn0.v
      go_wp2_with (refine wpList_store_row rfl _ _ _ rfl w.heap.size cn0.v (by rfl) (by rfl) _ _ Z3 (by kernel_rfl) (by rfl) (by kernel_rfl) ?_)
      obtain rfl : (cn0, (1 : Int)) = R := by rw [← HR.out]; first | rfl | simp
      exact ret_cell_tmp (k := 8) (j := 9) Try.f60 (by kernel_rfl) Zf Try.underlying31 (by kernel_rfl) (by rfl) (by rfl) rfl ⟨rfl, bf⟩

    | true =>
      cases F with
      | false =>
        try dsimp only [Bool.not_true, Bool.not_false] at e2 e3
        have Zf := Z3.set cn0.v
        have bf := below_setRow b3 gZ cn0.v
        go_wp2_with (refine wpList_store_row rfl _ _ _ rfl w.heap.size cn0.v (by rfl) (by rfl) _ _ Z3 (by kernel_rfl) (by rfl) (by kernel_rfl) ?_)
        obtain rfl : (cn0, (23 : Int)) = R := by rw [← HR.out]; first | rfl | simp
        exact ret_cell_tmp (k := 8) (j := 9) Try.f60 (by kernel_rfl) Zf Try.underlying31 (by kernel_rfl) (by rfl) (by rfl) rfl ⟨rfl, bf⟩

      | true =>
        cases N with
        | false =>
          try dsimp only [Bool.not_true, Bool.not_false] at e2 e3
          have Zf := Z3.set cn0.v
          have bf := below_setRow b3 gZ cn0.v
          go_wp2_with (refine wpList_store_row rfl _ _ _ rfl w.heap.size cn0.v (by rfl) (by rfl) _ _ Z3 (by kernel_rfl) (by rfl) (by kernel_rfl) ?_)
          obtain rfl : (cn0, (23 : Int)) = R := by rw [← HR.out]; first | rfl | simp
          exact ret_cell_tmp (k := 8) (j := 9) Try.f60 (by kernel_rfl) Zf Try.underlying31 (by kernel_rfl) (by rfl) (by rfl) rfl ⟨rfl, bf⟩

        | true =>
          try dsimp only [Bool.not_true, Bool.not_false] at e2 e3
          have Zf := Z3.set (Cn.v ⟨1, (sq + 1) % 4294967296, 0, (sq + 1) % 4294967296, win % 4294967296, true, false, false, false⟩)
          have bf := below_setRow b3 gZ (Cn.v ⟨1, (sq + 1) % 4294967296, 0, (sq + 1) % 4294967296, win % 4294967296, true, false, false, false⟩)
          go_wp2_with (refine wpList_store_row rfl _ _ _ rfl w.heap.size (Cn.v ⟨1, (sq + 1) % 4294967296, 0, (sq + 1) % 4294967296, win % 4294967296, true, false, false, false⟩) (by rfl) (by rfl) _ _ Z3 (by kernel_rfl) (by rfl) (by kernel_rfl) ?_)
          obtain rfl : ((⟨1, (sq + 1) % 4294967296, 0, (sq + 1) % 4294967296, win % 4294967296, true, false, false, false⟩ : Cn), (0 : Int)) = R := by rw [← HR.out]; first | rfl | simp
          exact ret_cell_tmp (k := 8) (j := 9) Try.f60 (by kernel_rfl) Zf Try.underlying31 (by kernel_rfl) (by rfl) (by rfl) rfl ⟨rfl, bf⟩
theorem step_tc (c : Cn) (i : Int) (g : Gt) (w : World) : Calls Try.prog 68 #[.agg c.v, .int .i64 i, .agg g.v] w fun e w' => e = .returned (.tuple #[.agg (c.step i g).1.v, .int .i64 (c.step i g).2]) ∧ Below w.heap.size w w' := by
  by_cases h0 : i = 0
  · subst h0; exact step0_tc c g w
  by_cases h1 : i = 1
  · subst h1; exact step1_tc c g w
  exact stepB_tc c i g w h0 h1
theorem eqU_tc (d : Nat) (a b a' b' : Int) (w : World) : (Op.equalIn (d + 2) 28 (.agg #[.int .u32 a, .int .u32 b]) (.agg #[.int .u32 a', .int .u32 b'])).run Try.prog w = .ok (a == a' && b == b') w := by
  obtain ⟨i, hi⟩ := Option.isSome_iff_exists.1 (show (Try.prog.info? 27).isSome = true by kernel_rfl)
  have hc : Try.prog.cellsOf 27 = 1 := by kernel_rfl
  rw [show d + 2 = (d + 1) + 1 from rfl, run_equalIn_array w (d + 1) _ _ Try.underlying28 hi, hc]
  show (Op.eqItems (d + 1) 27 1 _ _ [0, 1]).run Try.prog w = _
  cases h : (a == a') <;> cases h2 : (b == b') <;> simp [Op.eqItems, go_sem, h, h2] <;> simpa using h2
theorem eqL_tc (d : Nat) (a b a' b' : Bool) (w : World) : (Op.equalIn (d + 2) 29 (.agg #[.bool a, .bool b]) (.agg #[.bool a', .bool b'])).run Try.prog w = .ok (a == a' && b == b') w := by
  obtain ⟨i, hi⟩ := Option.isSome_iff_exists.1 (show (Try.prog.info? 4).isSome = true by kernel_rfl)
  have hc : Try.prog.cellsOf 4 = 1 := by kernel_rfl
  rw [show d + 2 = (d + 1) + 1 from rfl, run_equalIn_array w (d + 1) _ _ Try.underlying29 hi, hc]
  show (Op.eqItems (d + 1) 4 1 _ _ [0, 1]).run Try.prog w = _
  cases a <;> cases a' <;> cases b <;> cases b' <;> simp [Op.eqItems, go_sem]
theorem retB_tu {a b : Bool} (h : a = b) : Ending.returned (.bool a) = Ending.returned (.bool b) := by rw [h]
theorem Blk.wy {W : World} {g : Nat} {t : TypeId} {r : Wy} (h : Blk W g t r.v) : W.cell? ⟨g, 0, none⟩ = some (.int .i64 r.fam) ∧ W.cell? ⟨g, 1, none⟩ = some (.int .i64 r.pr) ∧ W.cell? ⟨g, 2, none⟩ = some (.int .i64 r.s.fam) ∧ W.cell? ⟨g, 3, none⟩ = some (.int .u64 r.s.hi) ∧ W.cell? ⟨g, 4, none⟩ = some (.int .u64 r.s.lo) ∧ W.cell? ⟨g, 5, none⟩ = some (.int .i64 r.d.fam) ∧ W.cell? ⟨g, 6, none⟩ = some (.int .u64 r.d.hi) ∧ W.cell? ⟨g, 7, none⟩ = some (.int .u64 r.d.lo) ∧ W.cell? ⟨g, 8, none⟩ = some (.int .i64 r.sp) ∧ W.cell? ⟨g, 9, none⟩ = some (.int .i64 r.dp) :=
  ⟨h.cell 0 _ rfl, h.cell 1 _ rfl, h.cell 2 _ rfl, h.cell 3 _ rfl, h.cell 4 _ rfl, h.cell 5 _ rfl, h.cell 6 _ rfl, h.cell 7 _ rfl, h.cell 8 _ rfl, h.cell 9 _ rfl⟩
set_option maxRecDepth 100000 in
set_option maxHeartbeats 1000000 in
theorem rightSide_t (f p af ah al : Int) (w : World) :
    Calls Try.prog 58 #[.int .i64 f, .agg #[.int .i64 af, .int .u64 ah, .int .u64 al], .int .i64 p] w fun e w' => e = .returned (.bool (sideB f ⟨af, ah, al⟩ p)) ∧ Below w.heap.size w w' := by
  have K3 : ∀ W, Calls Try.prog 78 #[.agg #[.int .i64 af, .int .u64 ah, .int .u64 al]] W fun e w' => e = .returned (.bool (Ad.right ⟨af, ah, al⟩)) ∧ Below W.heap.size W w' := fun W => (right_any af ah al W).mono fun e w' h => ⟨h.1, by rw [h.2]; exact (Below.refl _ _).alloc (Nat.le_refl _) _⟩
  have E : Hid (sideB f ⟨af, ah, al⟩ p = ((af == f) && (Ad.right ⟨af, ah, al⟩ && (decide (0 ≤ p) && decide (p ≤ 65535))))) := rfl
  generalize Ad.right ⟨af, ah, al⟩ = R at *
  generalize sideB f ⟨af, ah, al⟩ p = T at *
  obtain ⟨W1, hW1⟩ : ∃ W1, w.alloc (.cells #[.int .i64 af, .int .u64 ah, .int .u64 al] 24) = W1 := ⟨_, rfl⟩
  have b1 := bel_nw hW1
  have A1 := blk_nw hW1
  have c0 := A1.cell 0 (.int .i64 af) rfl
  have c1 := A1.cell 1 (.int .u64 ah) rfl
  have c2 := A1.cell 2 (.int .u64 al) rfl
  go_enter Try.func58, Try.ntmps58
  by_cases hf : af = f
  · subst hf
    go_wp2_with fail
    refine (K3 _).mono ?_
    rintro e w2 ⟨rfl, bb⟩
    have b2 := bel_tr b1 bb
    cases R with
    | false =>
      go_wp2
      go_ret
      exact ⟨retB_tu (by rw [E.out]; simp), b2⟩
    | true =>
      by_cases h0 : 0 ≤ p
      · by_cases h1 : p ≤ 65535
        · go_wp2
          go_ret
          exact ⟨retB_tu (by rw [E.out]; simp [h0, h1]), b2⟩
        · go_wp2
          go_ret
          exact ⟨retB_tu (by rw [E.out]; simp [h0, h1]), b2⟩
      · go_wp2
        go_ret
        exact ⟨retB_tu (by rw [E.out]; simp; omega), b2⟩
  · have hf' : (af == f) = false := by simpa using hf
    go_wp2
    go_ret
    exact ⟨retB_tu (by rw [E.out]; simp [hf]), b1⟩
set_option maxRecDepth 100000 in
set_option maxHeartbeats 1000000 in
theorem protoName_t (t : Wy) (w : World) :
    Calls Try.prog 59 #[.agg t.v] w fun e w' => e = .returned (.string (ByteArray.mk (nameB t.fam t.pr).toArray)) ∧ Below w.heap.size w w' := by
  obtain ⟨W1, hW1⟩ : ∃ W1, w.alloc (.cells t.v 26) = W1 := ⟨_, rfl⟩
  have b1 := bel_nw hW1
  have A1 := blk_nw hW1
  obtain ⟨k0, k1, k2, k3, k4, k5, k6, k7, k8, k9⟩ := A1.wy
  have E : Hid (nameB t.fam t.pr = nameB t.fam t.pr) := rfl
  obtain ⟨T, hT⟩ : ∃ T, nameB t.fam t.pr = T := ⟨_, rfl⟩
  have HT : Hid (nameB t.fam t.pr = T) := hT
  rw [hT]
  clear hT E
  go_enter Try.func59, Try.ntmps59
  by_cases h1 : t.pr = 6
  · go_wp2
    go_ret
    exact ⟨by rw [← HT.out]; simp [nameB, h1], b1⟩
  by_cases h2 : t.pr = 17
  · go_wp2
    go_ret
    exact ⟨by rw [← HT.out]; simp [nameB, h2], b1⟩
  by_cases h3 : t.pr = 1
  · by_cases h4 : t.fam = 4
    · go_wp2
      go_ret
      exact ⟨by rw [← HT.out]; simp [nameB, h3, h4], b1⟩
    · go_wp2
      go_ret
      exact ⟨by rw [← HT.out]; simp [nameB, h3, h4], b1⟩
  by_cases h3' : t.pr = 58
  · by_cases h4 : t.fam = 6
    · go_wp2
      go_ret
      exact ⟨by rw [← HT.out]; simp [nameB, h3', h4], b1⟩
    · go_wp2
      go_ret
      exact ⟨by rw [← HT.out]; simp [nameB, h3', h4], b1⟩
  go_wp2
  go_ret
  exact ⟨by rw [← HT.out]; simp [nameB, h1, h2, h3, h3'], b1⟩
set_option maxRecDepth 100000 in
set_option maxHeartbeats 1000000 in
theorem right_t (t : Wy) (w : World) :
    Calls Try.prog 30 #[.agg t.v] w fun e w' => e = .returned (.bool t.right) ∧ Below w.heap.size w w' := by
  obtain ⟨f, pr, ⟨sf, sh, sl⟩, ⟨df, dh, dl⟩, sp, dp⟩ := t
  have K1 : Hid (∀ W, Calls Try.prog 58 _ W _) := fun W => rightSide_t f sp sf sh sl W
  have K2 : Hid (∀ W, Calls Try.prog 58 _ W _) := fun W => rightSide_t f dp df dh dl W
  have K3 : Hid (∀ W, Calls Try.prog 59 _ W _) := fun W => protoName_t ⟨f, pr, ⟨sf, sh, sl⟩, ⟨df, dh, dl⟩, sp, dp⟩ W
  have E : Hid (Wy.right ⟨f, pr, ⟨sf, sh, sl⟩, ⟨df, dh, dl⟩, sp, dp⟩ = (sideB f ⟨sf, sh, sl⟩ sp && (sideB f ⟨df, dh, dl⟩ dp && (nameB f pr != [])))) := rfl
  generalize Wy.right ⟨f, pr, ⟨sf, sh, sl⟩, ⟨df, dh, dl⟩, sp, dp⟩ = T at *
  have hn : nameB f pr = [] ∨ (ByteArray.mk (nameB f pr).toArray == ByteArray.mk #[]) = false := by
    unfold nameB
    (repeat' split) <;> first | exact .inl rfl | exact .inr (by decide)
  simp only at K3
  generalize sideB f ⟨sf, sh, sl⟩ sp = R1 at *
  generalize sideB f ⟨df, dh, dl⟩ dp = R2 at *
  generalize nameB f pr = NM at *
  obtain ⟨W1, hW1⟩ : ∃ W1, w.alloc (.cells (Wy.v ⟨f, pr, ⟨sf, sh, sl⟩, ⟨df, dh, dl⟩, sp, dp⟩) 26) = W1 := ⟨_, rfl⟩
  have b1 := bel_nw hW1
  have A1 := blk_nw hW1
  obtain ⟨k0, k1, k2, k3, k4, k5, k6, k7, k8, k9⟩ := A1.wy
  go_enter Try.func30, Try.ntmps30
  go_wp2_with fail
  refine (K1.out _).mono ?_
  rintro e w2 ⟨rfl, bb⟩
  have b2 := bel_tr b1 bb
  have A2 := A1.kept bb
  clear k0 k1 k2 k3 k4 k5 k6 k7 k8 k9 bb b1 A1 hW1 K1
  obtain ⟨k0, k1, k2, k3, k4, k5, k6, k7, k8, k9⟩ := A2.wy
  cases R1 with
  | false =>
    go_wp2
    go_ret
    exact ⟨retB_tu (by rw [E.out]; simp), b2⟩
  | true =>
    go_wp2_with fail
    refine (K2.out _).mono ?_
    rintro e w3 ⟨rfl, bb⟩
    have b3 := bel_tr b2 bb
    have A3 := A2.kept bb
    clear k0 k1 k2 k3 k4 k5 k6 k7 k8 k9 bb b2 A2 K2
    obtain ⟨k0, k1, k2, k3, k4, k5, k6, k7, k8, k9⟩ := A3.wy
    cases R2 with
    | false =>
      go_wp2
      go_ret
      exact ⟨retB_tu (by rw [E.out]; simp), b3⟩
    | true =>
      go_wp2_with fail
      refine (K3.out _).mono ?_
      rintro e w4 ⟨rfl, bb⟩
      have b4 := bel_tr b3 bb
      clear bb K3 k0 k1 k2 k3 k4 k5 k6 k7 k8 k9
      rcases hn with rfl | hn
      · have e0 : (ByteArray.mk ([] : List UInt8).toArray == ByteArray.mk #[]) = true := rfl
        go_wp2
        go_ret
        exact ⟨retB_tu (by rw [E.out]; simp), b4⟩
      · have e0 : NM ≠ [] := by rintro rfl; exact absurd hn (by decide)
        go_wp2
        go_ret
        have e1 : (NM != []) = true := by cases NM with | nil => exact absurd rfl e0 | cons x y => rfl
        exact ⟨retB_tu (by rw [E.out, e1]; simp; exact e0), b4⟩
set_option maxRecDepth 100000 in
set_option maxHeartbeats 1000000 in
theorem rrev_t (t : Wy) (w : World) :
    Calls Try.prog 27 #[.agg t.v] w fun e w' => e = .returned (.agg t.rev.v) ∧ Below w.heap.size w w' := by
  obtain ⟨f, pr, ⟨sf, sh, sl⟩, ⟨df, dh, dl⟩, sp, dp⟩ := t
  go_enter Try.func27, Try.ntmps27
  go_wp2
  exact ret_cell (k := 2) Try.f27 (by kernel_rfl) (blk_two _ _ _ _) Try.underlying26 (by kernel_rfl) (by rfl) rfl ⟨rfl, bel_two _ _ _⟩
set_option maxRecDepth 100000 in
set_option maxHeartbeats 1000000 in
theorem rev_t (t : Wy) (w : World) :
    Calls Try.prog 55 #[.agg t.v] w fun e w' => e = .returned (.agg t.rev.v) ∧ Below w.heap.size w w' := by
  obtain ⟨f, pr, ⟨sf, sh, sl⟩, ⟨df, dh, dl⟩, sp, dp⟩ := t
  go_enter Try.func55, Try.ntmps55
  go_wp2
  exact ret_cell (k := 2) Try.f55 (by kernel_rfl) (blk_two _ _ _ _) Try.underlying26 (by kernel_rfl) (by rfl) rfl ⟨rfl, bel_two _ _ _⟩
/-- The key that a way is classified by. -/
def Wy.key (t : Wy) (kind code fr tz : Int) : Ky := if t.pr = 1 ∨ t.pr = 58 then ⟨fr, tz, t.s, t.d, t.pr, kind, code⟩ else ⟨fr, tz, t.s, t.d, t.pr, t.sp, t.dp⟩
end Go.Proofs.Ytmjjdbkipagkbaa
