/- Texts joined: TuK -/
import Derived.Test.YtjdapofjlbifjaaDoorTpa37
namespace Go.Proofs.YtjdapofjlbifjaaDoor
open Go.RowKit
set_option linter.unusedVariables false
set_option linter.unusedSimpArgs false
theorem top_byte {a : Ad} (ho : a.ok) (hr : a.right = true) : a.bytes.getD 0 0 = a.top ∧ 0 < a.bytes.length ∧ 0 ≤ a.top ∧ a.top ≤ 255 := by
  obtain ⟨_, ⟨h0, h1⟩, l0, l1⟩ := ho
  have hl : a.bytes.length = if a.fam = 4 then 4 else 16 := by unfold Ad.bytes; rw [if_pos hr, bytesGo_length]
  unfold Ad.bytes at *
  rw [if_pos hr] at *
  unfold Ad.top
  rcases right_cases hr with ⟨hf, hh, hlo⟩ | hf
  · rw [if_pos hf] at hl
    rw [if_pos hf, if_pos hf] at *
    rw [bytesGo_get 4 a.hi a.lo 0 (by omega) h0 l0 (by omega), hl, hh]
    unfold num2
    refine ⟨by show (0 * _ + a.lo) / 16777216 % 256 = _; omega, by omega, by omega, by omega⟩
  · rw [if_neg (by omega)] at hl
    rw [if_neg (by omega), if_neg (by omega)] at *
    rw [bytesGo_get 16 a.hi a.lo 0 (by omega) h0 l0 (by omega), hl]
    unfold num2
    refine ⟨by show (a.hi * 18446744073709551616 + a.lo) / 1329227995784915872903807060280344576 % 256 = _; omega, by omega, by omega, by omega⟩
set_option maxRecDepth 100000 in
set_option maxHeartbeats 2000000 in
theorem byte0_t (f h l : Int) (w : World) (ho : Ad.ok ⟨f, h, l⟩) (hr : Ad.right ⟨f, h, l⟩ = true) :
    Calls Tryd.prog 37 #[.agg #[.int .i64 f, .int .u64 h, .int .u64 l]] w fun e w' => e = .returned (.int .i64 (Ad.top ⟨f, h, l⟩)) ∧ Below w.heap.size w w' := by
  obtain ⟨t1, t2, t3, t4⟩ := top_byte ho hr
  have K1 : Hid (∀ W, Calls Tryd.prog 47 #[.agg #[.int .i64 f, .int .u64 h, .int .u64 l]] W _) := fun W => rbytes_any f h l W ho
  generalize Ad.top ⟨f, h, l⟩ = t at *
  generalize Ad.bytes ⟨f, h, l⟩ = L at *
  clear ho hr
  obtain ⟨W1, hW1⟩ : ∃ W1, w.alloc (.cells #[.int .i64 f, .int .u64 h, .int .u64 l] 24) = W1 := ⟨_, rfl⟩
  have b1 := bel_nw hW1
  have A1 := blk_nw hW1
  have c0 := A1.cell 0 (.int .i64 f) rfl
  have c1 := A1.cell 1 (.int .u64 h) rfl
  have c2 := A1.cell 2 (.int .u64 l) rfl
  go_enter Tryd.func37, Tryd.ntmps37
  go_wp2_with fail
  refine (K1.out _).mono ?_
  rintro e W2 ⟨a, c, rfl, fr⟩
  have b2 := bel_tr b1 fr.below
  obtain ⟨bk, off, rfl, hcb⟩ := fr.row.cells t2
  have d0 : W2.cell? ⟨bk, off, none⟩ = some (.int .u8 t) := by have := hcb 0 t2; rw [t1] at this; exact this
  have i0 : (0 : Int) < (L.length : Int) := by omega
  have wt : IntKind.i64.wrap t = t := by rw [IntKind.wrap_i64]; omega
  clear K1 fr hcb c0 c1 c2 A1 hW1
  go_wp2_with fail
  go_ret
  exact ⟨rfl, b2⟩
set_option maxRecDepth 100000 in
set_option maxHeartbeats 2000000 in
theorem rmany_t (f h l : Int) (w : World) (ho : Ad.ok ⟨f, h, l⟩) :
    Calls Tryd.prog 21 #[.agg #[.int .i64 f, .int .u64 h, .int .u64 l]] w fun e w' => e = .returned (.bool (manyB ⟨f, h, l⟩)) ∧ Below w.heap.size w w' := by
  have KR : Hid (∀ W, Calls Tryd.prog 36 #[.agg #[.int .i64 f, .int .u64 h, .int .u64 l]] W fun e w' => e = .returned (.bool (Ad.right ⟨f, h, l⟩)) ∧ Below W.heap.size W w') := fun W => (rright_any f h l W ho.2.2.1).mono fun e w' h => ⟨h.1, by rw [h.2]; exact (Below.refl _ _).alloc (Nat.le_refl _) _⟩
  have KB : Hid (Ad.right ⟨f, h, l⟩ = true → ∀ W, Calls Tryd.prog 37 #[.agg #[.int .i64 f, .int .u64 h, .int .u64 l]] W fun e w' => e = .returned (.int .i64 (Ad.top ⟨f, h, l⟩)) ∧ Below W.heap.size W w') := fun hr W => byte0_t f h l W ho hr
  have E : Hid (manyB ⟨f, h, l⟩ = (Ad.right ⟨f, h, l⟩ && (if f = 6 then Ad.top ⟨f, h, l⟩ == 255 else (decide (224 ≤ Ad.top ⟨f, h, l⟩) && decide (Ad.top ⟨f, h, l⟩ < 240)) || l == 4294967295))) := rfl
  generalize manyB ⟨f, h, l⟩ = T at *
  generalize Ad.right ⟨f, h, l⟩ = R at *
  generalize Ad.top ⟨f, h, l⟩ = t at *
  clear ho
  obtain ⟨W1, hW1⟩ : ∃ W1, w.alloc (.cells #[.int .i64 f, .int .u64 h, .int .u64 l] 24) = W1 := ⟨_, rfl⟩
  have b1 := bel_nw hW1
  have A1 := blk_nw hW1
  have c0 := A1.cell 0 (.int .i64 f) rfl
  have c1 := A1.cell 1 (.int .u64 h) rfl
  have c2 := A1.cell 2 (.int .u64 l) rfl
  go_enter Tryd.func21, Tryd.ntmps21
  go_wp2_with fail
  refine (KR.out _).mono ?_
  rintro e W2 ⟨rfl, bb⟩
  have b2 := bel_tr b1 bb
  have A2 := A1.kept bb
  clear KR A1 bb b1 hW1 c0 c1 c2
  cases R with
  | false =>
    go_wp2_with fail
    go_ret
    exact ⟨retB_tu (by rw [E.out]; simp), b2⟩
  | true =>
    have KB' : Hid (∀ W, Calls Tryd.prog 37 #[.agg #[.int .i64 f, .int .u64 h, .int .u64 l]] W fun e w' => e = .returned (.int .i64 t) ∧ Below W.heap.size W w') := KB.out rfl
    have c0 := A2.cell 0 (.int .i64 f) rfl
    have c1 := A2.cell 1 (.int .u64 h) rfl
    have c2 := A2.cell 2 (.int .u64 l) rfl
    clear KB
    by_cases h6 : f = 6
    · have n6 : (f == 6) = true := by simpa using h6
      have E1 : T = (t == 255) := by have := E.out; rw [if_pos h6] at this; simpa using this
      have E' : Hid _ := E1
      clear E1
      clear E h6
      go_wp2_with fail
      refine (KB'.out _).mono ?_
      rintro e W3 ⟨rfl, bb⟩
      have b3 := bel_tr b2 bb
      clear bb
      go_wp2_with fail
      go_ret
      exact ⟨retB_tu (by rw [E'.out]), b3⟩
    · have n6 : (f == 6) = false := by simpa using h6
      have E1 : T = ((decide (224 ≤ t) && decide (t < 240)) || l == 4294967295) := by have := E.out; rw [if_neg h6] at this; simpa using this
      have E' : Hid _ := E1
      clear E1
      clear E h6
      go_wp2_with fail
      refine (KB'.out _).mono ?_
      rintro e W3 ⟨rfl, bb⟩
      have b3 := bel_tr b2 bb
      have A3 := A2.kept bb
      clear bb c0 c1 c2 A2 b2
      have c0 := A3.cell 0 (.int .i64 f) rfl
      have c1 := A3.cell 1 (.int .u64 h) rfl
      have c2 := A3.cell 2 (.int .u64 l) rfl
      by_cases h1 : 224 ≤ t
      · go_wp2_with fail
        refine (KB'.out _).mono ?_
        rintro e W4 ⟨rfl, bb⟩
        have b4 := bel_tr b3 bb
        have A4 := A3.kept bb
        clear bb c0 c1 c2 A3 b3
        have c0 := A4.cell 0 (.int .i64 f) rfl
        have c1 := A4.cell 1 (.int .u64 h) rfl
        have c2 := A4.cell 2 (.int .u64 l) rfl
        by_cases h2 : t < 240
        · go_wp2_with fail
          go_ret
          exact ⟨retB_tu (by rw [E'.out, decide_eq_true h1, decide_eq_true h2]; rfl), b4⟩
        · go_wp2_with fail
          go_ret
          exact ⟨retB_tu (by rw [E'.out, decide_eq_true h1]; simp), b4⟩
      · go_wp2_with fail
        go_ret
        exact ⟨retB_tu (by rw [E'.out, decide_eq_false (show ¬ 224 ≤ t by omega)]; simp), b3⟩
set_option maxRecDepth 100000 in
set_option maxHeartbeats 2000000 in
theorem rhost_t (f h l : Int) (w : World) (ho : Ad.ok ⟨f, h, l⟩) :
    Calls Tryd.prog 23 #[.agg #[.int .i64 f, .int .u64 h, .int .u64 l]] w fun e w' => e = .returned (.bool (hostB ⟨f, h, l⟩)) ∧ Below w.heap.size w w' := by
  have KR : Hid (∀ W, Calls Tryd.prog 36 #[.agg #[.int .i64 f, .int .u64 h, .int .u64 l]] W fun e w' => e = .returned (.bool (Ad.right ⟨f, h, l⟩)) ∧ Below W.heap.size W w') := fun W => (rright_any f h l W ho.2.2.1).mono fun e w' h => ⟨h.1, by rw [h.2]; exact (Below.refl _ _).alloc (Nat.le_refl _) _⟩
  have KB : Hid (Ad.right ⟨f, h, l⟩ = true → ∀ W, Calls Tryd.prog 37 #[.agg #[.int .i64 f, .int .u64 h, .int .u64 l]] W fun e w' => e = .returned (.int .i64 (Ad.top ⟨f, h, l⟩)) ∧ Below W.heap.size W w') := fun hr W => byte0_t f h l W ho hr
  have E : Hid (hostB ⟨f, h, l⟩ = (Ad.right ⟨f, h, l⟩ && (if f = 6 then h == 0 && decide (l ≤ 1) else Ad.top ⟨f, h, l⟩ == 127 || Ad.top ⟨f, h, l⟩ == 0))) := rfl
  generalize hostB ⟨f, h, l⟩ = T at *
  generalize Ad.right ⟨f, h, l⟩ = R at *
  generalize Ad.top ⟨f, h, l⟩ = t at *
  clear ho
  obtain ⟨W1, hW1⟩ : ∃ W1, w.alloc (.cells #[.int .i64 f, .int .u64 h, .int .u64 l] 24) = W1 := ⟨_, rfl⟩
  have b1 := bel_nw hW1
  have A1 := blk_nw hW1
  have c0 := A1.cell 0 (.int .i64 f) rfl
  have c1 := A1.cell 1 (.int .u64 h) rfl
  have c2 := A1.cell 2 (.int .u64 l) rfl
  go_enter Tryd.func23, Tryd.ntmps23
  go_wp2_with fail
  refine (KR.out _).mono ?_
  rintro e W2 ⟨rfl, bb⟩
  have b2 := bel_tr b1 bb
  have A2 := A1.kept bb
  clear KR A1 bb b1 hW1 c0 c1 c2
  cases R with
  | false =>
    go_wp2_with fail
    go_ret
    exact ⟨retB_tu (by rw [E.out]; simp), b2⟩
  | true =>
    have KB' : Hid (∀ W, Calls Tryd.prog 37 #[.agg #[.int .i64 f, .int .u64 h, .int .u64 l]] W fun e w' => e = .returned (.int .i64 t) ∧ Below W.heap.size W w') := KB.out rfl
    have c0 := A2.cell 0 (.int .i64 f) rfl
    have c1 := A2.cell 1 (.int .u64 h) rfl
    have c2 := A2.cell 2 (.int .u64 l) rfl
    clear KB
    by_cases h6 : f = 6
    · have n6 : (f == 6) = true := by simpa using h6
      have E1 : T = (h == 0 && decide (l ≤ 1)) := by have := E.out; rw [if_pos h6] at this; simpa using this
      have E' : Hid _ := E1
      clear E1
      clear E h6
      by_cases h0 : h = 0
      · subst h0
        go_wp2_with fail
        go_ret
        exact ⟨retB_tu (by rw [E'.out]; simp), b2⟩
      · have n0 : (h == 0) = false := by simpa using h0
        go_wp2_with fail
        go_ret
        exact ⟨retB_tu (by rw [E'.out]; simp [h0]), b2⟩
    · have n6 : (f == 6) = false := by simpa using h6
      have E1 : T = (t == 127 || t == 0) := by have := E.out; rw [if_neg h6] at this; simpa using this
      have E' : Hid _ := E1
      clear E1
      clear E h6
      go_wp2_with fail
      refine (KB'.out _).mono ?_
      rintro e W3 ⟨rfl, bb⟩
      have b3 := bel_tr b2 bb
      have A3 := A2.kept bb
      clear bb c0 c1 c2 A2 b2
      have c0 := A3.cell 0 (.int .i64 f) rfl
      have c1 := A3.cell 1 (.int .u64 h) rfl
      have c2 := A3.cell 2 (.int .u64 l) rfl
      by_cases h1 : t = 127
      · have n1 : (t == 127) = true := by simpa using h1
        clear h1
        go_wp2_with fail
        go_ret
        exact ⟨retB_tu (by rw [E'.out, n1]; rfl), b3⟩
      · have n1 : (t == 127) = false := by simpa using h1
        clear h1
        go_wp2_with fail
        refine (KB'.out _).mono ?_
        rintro e W4 ⟨rfl, bb⟩
        have b4 := bel_tr b3 bb
        clear bb
        go_wp2_with fail
        go_ret
        exact ⟨retB_tu (by rw [E'.out, n1]; rfl), b4⟩
end Go.Proofs.YtjdapofjlbifjaaDoor
