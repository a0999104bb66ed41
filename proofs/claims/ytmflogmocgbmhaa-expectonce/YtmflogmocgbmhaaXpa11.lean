/- Texts joined: TuB -/
import Derived.Test.YtmflogmocgbmhaaXpa4
import Derived.Test.YtmflogmocgbmhaaXpa8
import Derived.Deep.RegionHeld3
namespace Go.Proofs.Ytmflogmocgbmhaa
open Go.RowKit
set_option linter.unusedVariables false
set_option linter.unusedSimpArgs false
theorem retB_tu {a b : Bool} (h : a = b) : Ending.returned (.bool a) = Ending.returned (.bool b) := by rw [h]
theorem Blk.wy {W : World} {g : Nat} {t : TypeId} {r : Wy} (h : Blk W g t r.v) : W.cell? ⟨g, 0, none⟩ = some (.int .i64 r.fam) ∧ W.cell? ⟨g, 1, none⟩ = some (.int .i64 r.pr) ∧ W.cell? ⟨g, 2, none⟩ = some (.int .i64 r.s.fam) ∧ W.cell? ⟨g, 3, none⟩ = some (.int .u64 r.s.hi) ∧ W.cell? ⟨g, 4, none⟩ = some (.int .u64 r.s.lo) ∧ W.cell? ⟨g, 5, none⟩ = some (.int .i64 r.d.fam) ∧ W.cell? ⟨g, 6, none⟩ = some (.int .u64 r.d.hi) ∧ W.cell? ⟨g, 7, none⟩ = some (.int .u64 r.d.lo) ∧ W.cell? ⟨g, 8, none⟩ = some (.int .i64 r.sp) ∧ W.cell? ⟨g, 9, none⟩ = some (.int .i64 r.dp) :=
  ⟨h.cell 0 _ rfl, h.cell 1 _ rfl, h.cell 2 _ rfl, h.cell 3 _ rfl, h.cell 4 _ rfl, h.cell 5 _ rfl, h.cell 6 _ rfl, h.cell 7 _ rfl, h.cell 8 _ rfl, h.cell 9 _ rfl⟩
set_option maxRecDepth 100000 in
set_option maxHeartbeats 1000000 in
theorem rightSide_t (f p af ah al : Int) (w : World) :
    Calls Try.prog 51 #[.int .i64 f, .agg #[.int .i64 af, .int .u64 ah, .int .u64 al], .int .i64 p] w fun e w' => e = .returned (.bool (sideB f ⟨af, ah, al⟩ p)) ∧ Below w.heap.size w w' := by
  have K3 : ∀ W, Calls Try.prog 59 #[.agg #[.int .i64 af, .int .u64 ah, .int .u64 al]] W fun e w' => e = .returned (.bool (Ad.right ⟨af, ah, al⟩)) ∧ Below W.heap.size W w' := fun W => (right_any af ah al W).mono fun e w' h => ⟨h.1, by rw [h.2]; exact (Below.refl _ _).alloc (Nat.le_refl _) _⟩
  have E : Hid (sideB f ⟨af, ah, al⟩ p = ((af == f) && (Ad.right ⟨af, ah, al⟩ && (decide (0 ≤ p) && decide (p ≤ 65535))))) := rfl
  generalize Ad.right ⟨af, ah, al⟩ = R at *
  generalize sideB f ⟨af, ah, al⟩ p = T at *
  obtain ⟨W1, hW1⟩ : ∃ W1, w.alloc (.cells #[.int .i64 af, .int .u64 ah, .int .u64 al] 24) = W1 := ⟨_, rfl⟩
  have b1 := bel_nw hW1
  have A1 := blk_nw hW1
  have c0 := A1.cell 0 (.int .i64 af) rfl
  have c1 := A1.cell 1 (.int .u64 ah) rfl
  have c2 := A1.cell 2 (.int .u64 al) rfl
  go_enter Try.func51, Try.ntmps51
  by_cases hf : af = f
  · subst hf
    go_wp2_with fail
    refine (K3 _).mono ?_
    rintro e w2 ⟨rfl, bb⟩
    have b2 := bel_tr b1 bb
    cases R with
    | false =>
      go_wp2
      go_ret
      exact ⟨retB_tu (by rw [E.out]; simp), b2⟩
    | true =>
      by_cases h0 : 0 ≤ p
      · by_cases h1 : p ≤ 65535
        · go_wp2
          go_ret
          exact ⟨retB_tu (by rw [E.out]; simp [h0, h1]), b2⟩
        · go_wp2
          go_ret
          exact ⟨retB_tu (by rw [E.out]; simp [h0, h1]), b2⟩
      · go_wp2
        go_ret
        exact ⟨retB_tu (by rw [E.out]; simp; omega), b2⟩
  · have hf' : (af == f) = false := by simpa using hf
    go_wp2
    go_ret
    exact ⟨retB_tu (by rw [E.out]; simp [hf]), b1⟩
set_option maxRecDepth 100000 in
set_option maxHeartbeats 1000000 in
theorem protoName_t (t : Wy) (w : World) :
    Calls Try.prog 52 #[.agg t.v] w fun e w' => e = .returned (.string (ByteArray.mk (nameB t.fam t.pr).toArray)) ∧ Below w.heap.size w w' := by
  obtain ⟨W1, hW1⟩ : ∃ W1, w.alloc (.cells t.v 26) = W1 := ⟨_, rfl⟩
  have b1 := bel_nw hW1
  have A1 := blk_nw hW1
  obtain ⟨k0, k1, k2, k3, k4, k5, k6, k7, k8, k9⟩ := A1.wy
  have E : Hid (nameB t.fam t.pr = nameB t.fam t.pr) := rfl
  obtain ⟨T, hT⟩ : ∃ T, nameB t.fam t.pr = T := ⟨_, rfl⟩
  have HT : Hid (nameB t.fam t.pr = T) := hT
  rw [hT]
  clear hT E
  go_enter Try.func52, Try.ntmps52
  by_cases h1 : t.pr = 6
  · go_wp2
    go_ret
    exact ⟨by rw [← HT.out]; simp [nameB, h1], b1⟩
  by_cases h2 : t.pr = 17
  · go_wp2
    go_ret
    exact ⟨by rw [← HT.out]; simp [nameB, h2], b1⟩
  by_cases h3 : t.pr = 1
  · by_cases h4 : t.fam = 4
    · go_wp2
      go_ret
      exact ⟨by rw [← HT.out]; simp [nameB, h3, h4], b1⟩
    · go_wp2
      go_ret
      exact ⟨by rw [← HT.out]; simp [nameB, h3, h4], b1⟩
  by_cases h3' : t.pr = 58
  · by_cases h4 : t.fam = 6
    · go_wp2
      go_ret
      exact ⟨by rw [← HT.out]; simp [nameB, h3', h4], b1⟩
    · go_wp2
      go_ret
      exact ⟨by rw [← HT.out]; simp [nameB, h3', h4], b1⟩
  go_wp2
  go_ret
  exact ⟨by rw [← HT.out]; simp [nameB, h1, h2, h3, h3'], b1⟩
set_option maxRecDepth 100000 in
set_option maxHeartbeats 1000000 in
theorem right_t (t : Wy) (w : World) :
    Calls Try.prog 31 #[.agg t.v] w fun e w' => e = .returned (.bool t.right) ∧ Below w.heap.size w w' := by
  obtain ⟨f, pr, ⟨sf, sh, sl⟩, ⟨df, dh, dl⟩, sp, dp⟩ := t
  have K1 : Hid (∀ W, Calls Try.prog 51 _ W _) := fun W => rightSide_t f sp sf sh sl W
  have K2 : Hid (∀ W, Calls Try.prog 51 _ W _) := fun W => rightSide_t f dp df dh dl W
  have K3 : Hid (∀ W, Calls Try.prog 52 _ W _) := fun W => protoName_t ⟨f, pr, ⟨sf, sh, sl⟩, ⟨df, dh, dl⟩, sp, dp⟩ W
  have E : Hid (Wy.right ⟨f, pr, ⟨sf, sh, sl⟩, ⟨df, dh, dl⟩, sp, dp⟩ = (sideB f ⟨sf, sh, sl⟩ sp && (sideB f ⟨df, dh, dl⟩ dp && (nameB f pr != [])))) := rfl
  generalize Wy.right ⟨f, pr, ⟨sf, sh, sl⟩, ⟨df, dh, dl⟩, sp, dp⟩ = T at *
  have hn : nameB f pr = [] ∨ (ByteArray.mk (nameB f pr).toArray == ByteArray.mk #[]) = false := by
    unfold nameB
    (repeat' split) <;> first | exact .inl rfl | exact .inr (by decide)
  simp only at K3
  generalize sideB f ⟨sf, sh, sl⟩ sp = R1 at *
  generalize sideB f ⟨df, dh, dl⟩ dp = R2 at *
  generalize nameB f pr = NM at *
  obtain ⟨W1, hW1⟩ : ∃ W1, w.alloc (.cells (Wy.v ⟨f, pr, ⟨sf, sh, sl⟩, ⟨df, dh, dl⟩, sp, dp⟩) 26) = W1 := ⟨_, rfl⟩
  have b1 := bel_nw hW1
  have A1 := blk_nw hW1
  obtain ⟨k0, k1, k2, k3, k4, k5, k6, k7, k8, k9⟩ := A1.wy
  go_enter Try.func31, Try.ntmps31
  go_wp2_with fail
  refine (K1.out _).mono ?_
  rintro e w2 ⟨rfl, bb⟩
  have b2 := bel_tr b1 bb
  have A2 := A1.kept bb
  clear k0 k1 k2 k3 k4 k5 k6 k7 k8 k9 bb b1 A1 hW1 K1
  obtain ⟨k0, k1, k2, k3, k4, k5, k6, k7, k8, k9⟩ := A2.wy
  cases R1 with
  | false =>
    go_wp2
    go_ret
    exact ⟨retB_tu (by rw [E.out]; simp), b2⟩
  | true =>
    go_wp2_with fail
    refine (K2.out _).mono ?_
    rintro e w3 ⟨rfl, bb⟩
    have b3 := bel_tr b2 bb
    have A3 := A2.kept bb
    clear k0 k1 k2 k3 k4 k5 k6 k7 k8 k9 bb b2 A2 K2
    obtain ⟨k0, k1, k2, k3, k4, k5, k6, k7, k8, k9⟩ := A3.wy
    cases R2 with
    | false =>
      go_wp2
      go_ret
      exact ⟨retB_tu (by rw [E.out]; simp), b3⟩
    | true =>
      go_wp2_with fail
      refine (K3.out _).mono ?_
      rintro e w4 ⟨rfl, bb⟩
      have b4 := bel_tr b3 bb
      clear bb K3 k0 k1 k2 k3 k4 k5 k6 k7 k8 k9
      rcases hn with rfl | hn
      · have e0 : (ByteArray.mk ([] : List UInt8).toArray == ByteArray.mk #[]) = true := rfl
        go_wp2
        go_ret
        exact ⟨retB_tu (by rw [E.out]; simp), b4⟩
      · have e0 : NM ≠ [] := by rintro rfl; exact absurd hn (by decide)
        go_wp2
        go_ret
        have e1 : (NM != []) = true := by cases NM with | nil => exact absurd rfl e0 | cons x y => rfl
        exact ⟨retB_tu (by rw [E.out, e1]; simp; exact e0), b4⟩
end Go.Proofs.Ytmflogmocgbmhaa
