/- Texts joined: EnB -/
import Derived.Test.YtmjjdbkipagkbaaFyp2
namespace Go.Proofs.Ytmjjdbkipagkbaa
open Go.RowKit
set_option linter.unusedVariables false
set_option linter.unusedSimpArgs false
def endsB (f : Int) (s d : Ad) : Bool := s.right && (d.right && (s.fam == f && d.fam == f))
theorem endsB_iff (f : Int) (s d : Ad) : endsB f s d = true ↔ s.right = true ∧ d.right = true ∧ s.fam = f ∧ d.fam = f := by simp [endsB]
theorem fam_46' {f : Int} {s d : Ad} (h : endsB f s d = true) : f = 4 ∨ f = 6 := by
  obtain ⟨h1, _, h3, _⟩ := (endsB_iff f s d).1 h
  unfold Ad.right at h1
  split at h1
  · omega
  · simp at h1; omega
theorem retB {a b : Bool} (h : a = b) : Ending.returned (.bool a) = Ending.returned (.bool b) := by rw [h]
set_option maxRecDepth 100000 in
set_option maxHeartbeats 4000000 in
theorem rEnds_4 (f sf sh sl df dh dl : Int) (w : World) (hsl : 0 ≤ sl) (hdl : 0 ≤ dl) (hf : f = 4) :
    Calls Try.prog 63 #[.int .i64 f, .agg #[.int .i64 sf, .int .u64 sh, .int .u64 sl], .agg #[.int .i64 df, .int .u64 dh, .int .u64 dl]] w fun e w' => e = .returned (.bool (endsB f ⟨sf, sh, sl⟩ ⟨df, dh, dl⟩)) ∧ Below w.heap.size w w' := by
  obtain ⟨W1, hW1⟩ : ∃ W1, w.alloc (.cells #[.int .i64 sf, .int .u64 sh, .int .u64 sl] 24) = W1 := ⟨_, rfl⟩
  obtain ⟨W2, hW2⟩ : ∃ W2, W1.alloc (.cells #[.int .i64 df, .int .u64 dh, .int .u64 dl] 24) = W2 := ⟨_, rfl⟩
  have b1 : Below w.heap.size w W1 := by rw [← hW1]; exact (Below.refl _ _).alloc (Nat.le_refl _) _
  have b2 : Below w.heap.size w W2 := by rw [← hW2]; exact b1.alloc b1.size _
  have B1' : Blk W1 w.heap.size 24 #[.int .i64 sf, .int .u64 sh, .int .u64 sl] := by rw [← hW1]; exact blk_new _ _ _
  have B1 : Blk W2 w.heap.size 24 #[.int .i64 sf, .int .u64 sh, .int .u64 sl] := by rw [← hW2]; exact B1'.alloc _
  have B2 : Blk W2 W1.heap.size 24 #[.int .i64 df, .int .u64 dh, .int .u64 dl] := by rw [← hW2]; exact blk_new _ _ _
  have g1 : w.heap.size < W1.heap.size := B1'.lt
  have s2 : W2.heap.size = W1.heap.size + 1 := by rw [← hW2]; simp
  clear B1'
  have c0 := B1.cell 0 (.int .i64 sf) rfl
  have c1 := B1.cell 1 (.int .u64 sh) rfl
  have c2 := B1.cell 2 (.int .u64 sl) rfl
  have d0 := B2.cell 0 (.int .i64 df) rfl
  have d1 := B2.cell 1 (.int .u64 dh) rfl
  have d2 := B2.cell 2 (.int .u64 dl) rfl
  have E : Hid (endsB f ⟨sf, sh, sl⟩ ⟨df, dh, dl⟩ = (Ad.right ⟨sf, sh, sl⟩ && (Ad.right ⟨df, dh, dl⟩ && (sf == f && df == f)))) := rfl
  have K1 : Hid (∀ W, Calls Try.prog 81 #[.agg #[.int .i64 sf, .int .u64 sh, .int .u64 sl]] W _) := fun W => rright_any sf sh sl W hsl
  have K2 : Hid (∀ W, Calls Try.prog 81 #[.agg #[.int .i64 df, .int .u64 dh, .int .u64 dl]] W _) := fun W => rright_any df dh dl W hdl
  generalize Ad.right ⟨sf, sh, sl⟩ = R1 at *
  generalize Ad.right ⟨df, dh, dl⟩ = R2 at *
  generalize endsB f ⟨sf, sh, sl⟩ ⟨df, dh, dl⟩ = RR at *
  have h4' : (f == 4) = true := by simpa using hf
  clear hf
  by_cases hs : sf = f
  case neg =>
    have hs' : (sf == f) = false := by simpa using hs
    have e : RR = false := by rw [E.out, hs']; simp
    subst e
    clear hs
    go_enter Try.func63, Try.ntmps63
    go_wp2
    go_ret
    exact ⟨rfl, b2⟩
  have hs' : (sf == f) = true := by simpa using hs
  by_cases hd : df = f
  case neg =>
    have hd' : (df == f) = false := by simpa using hd
    have e : RR = false := by rw [E.out, hd']; simp
    subst e
    clear hs hd
    go_enter Try.func63, Try.ntmps63
    go_wp2
    go_ret
    exact ⟨rfl, b2⟩
  have hd' : (df == f) = true := by simpa using hd
  have E2 : Hid (RR = (R1 && R2)) := by
    have : RR = (R1 && R2) := by rw [E.out, hs', hd']; simp
    exact this
  clear hs hd E
  go_enter Try.func63, Try.ntmps63
  go_wp2_with fail
  refine Calls.mono (K1.out _) ?_
  rintro e W3 ⟨rfl, hW3⟩
  have b3' : Below W2.heap.size W2 W3 := by rw [hW3]; exact (Below.refl _ _).alloc (Nat.le_refl _) _
  have b3 : Below w.heap.size w W3 := b2.trans (b3'.mono b2.size)
  have k0 := kept b3' d0
  have k1 := kept b3' d1
  have k2 := kept b3' d2
  clear K1 hW3 b3' hW1 hW2 c0 c1 c2 d0 d1 d2
  cases R1 with
  | false =>
    go_wp2
    go_ret
    exact ⟨retB (by rw [E2.out]; rfl), b3⟩
  | true =>
    go_wp2_with fail
    refine Calls.mono (K2.out _) ?_
    rintro e W4 ⟨rfl, hW4⟩
    have b4' : Below W3.heap.size W3 W4 := by rw [hW4]; exact (Below.refl _ _).alloc (Nat.le_refl _) _
    have b4 : Below w.heap.size w W4 := b3.trans (b4'.mono b3.size)
    clear K2 hW4 b4' k0 k1 k2
    go_wp2
    go_ret
    exact ⟨retB (by rw [E2.out]; rfl), b4⟩
set_option maxRecDepth 100000 in
set_option maxHeartbeats 4000000 in
theorem rEnds_6 (f sf sh sl df dh dl : Int) (w : World) (hsl : 0 ≤ sl) (hdl : 0 ≤ dl) (hf : f = 6) :
    Calls Try.prog 63 #[.int .i64 f, .agg #[.int .i64 sf, .int .u64 sh, .int .u64 sl], .agg #[.int .i64 df, .int .u64 dh, .int .u64 dl]] w fun e w' => e = .returned (.bool (endsB f ⟨sf, sh, sl⟩ ⟨df, dh, dl⟩)) ∧ Below w.heap.size w w' := by
  obtain ⟨W1, hW1⟩ : ∃ W1, w.alloc (.cells #[.int .i64 sf, .int .u64 sh, .int .u64 sl] 24) = W1 := ⟨_, rfl⟩
  obtain ⟨W2, hW2⟩ : ∃ W2, W1.alloc (.cells #[.int .i64 df, .int .u64 dh, .int .u64 dl] 24) = W2 := ⟨_, rfl⟩
  have b1 : Below w.heap.size w W1 := by rw [← hW1]; exact (Below.refl _ _).alloc (Nat.le_refl _) _
  have b2 : Below w.heap.size w W2 := by rw [← hW2]; exact b1.alloc b1.size _
  have B1' : Blk W1 w.heap.size 24 #[.int .i64 sf, .int .u64 sh, .int .u64 sl] := by rw [← hW1]; exact blk_new _ _ _
  have B1 : Blk W2 w.heap.size 24 #[.int .i64 sf, .int .u64 sh, .int .u64 sl] := by rw [← hW2]; exact B1'.alloc _
  have B2 : Blk W2 W1.heap.size 24 #[.int .i64 df, .int .u64 dh, .int .u64 dl] := by rw [← hW2]; exact blk_new _ _ _
  have g1 : w.heap.size < W1.heap.size := B1'.lt
  have s2 : W2.heap.size = W1.heap.size + 1 := by rw [← hW2]; simp
  clear B1'
  have c0 := B1.cell 0 (.int .i64 sf) rfl
  have c1 := B1.cell 1 (.int .u64 sh) rfl
  have c2 := B1.cell 2 (.int .u64 sl) rfl
  have d0 := B2.cell 0 (.int .i64 df) rfl
  have d1 := B2.cell 1 (.int .u64 dh) rfl
  have d2 := B2.cell 2 (.int .u64 dl) rfl
  have E : Hid (endsB f ⟨sf, sh, sl⟩ ⟨df, dh, dl⟩ = (Ad.right ⟨sf, sh, sl⟩ && (Ad.right ⟨df, dh, dl⟩ && (sf == f && df == f)))) := rfl
  have K1 : Hid (∀ W, Calls Try.prog 81 #[.agg #[.int .i64 sf, .int .u64 sh, .int .u64 sl]] W _) := fun W => rright_any sf sh sl W hsl
  have K2 : Hid (∀ W, Calls Try.prog 81 #[.agg #[.int .i64 df, .int .u64 dh, .int .u64 dl]] W _) := fun W => rright_any df dh dl W hdl
  generalize Ad.right ⟨sf, sh, sl⟩ = R1 at *
  generalize Ad.right ⟨df, dh, dl⟩ = R2 at *
  generalize endsB f ⟨sf, sh, sl⟩ ⟨df, dh, dl⟩ = RR at *
  have h4' : (f == 4) = false := by rw [hf]; rfl
  have h6' : (f == 6) = true := by simpa using hf
  clear hf
  by_cases hs : sf = f
  case neg =>
    have hs' : (sf == f) = false := by simpa using hs
    have e : RR = false := by rw [E.out, hs']; simp
    subst e
    clear hs
    go_enter Try.func63, Try.ntmps63
    go_wp2
    go_ret
    exact ⟨rfl, b2⟩
  have hs' : (sf == f) = true := by simpa using hs
  by_cases hd : df = f
  case neg =>
    have hd' : (df == f) = false := by simpa using hd
    have e : RR = false := by rw [E.out, hd']; simp
    subst e
    clear hs hd
    go_enter Try.func63, Try.ntmps63
    go_wp2
    go_ret
    exact ⟨rfl, b2⟩
  have hd' : (df == f) = true := by simpa using hd
  have E2 : Hid (RR = (R1 && R2)) := by
    have : RR = (R1 && R2) := by rw [E.out, hs', hd']; simp
    exact this
  clear hs hd E
  go_enter Try.func63, Try.ntmps63
  go_wp2_with fail
  refine Calls.mono (K1.out _) ?_
  rintro e W3 ⟨rfl, hW3⟩
  have b3' : Below W2.heap.size W2 W3 := by rw [hW3]; exact (Below.refl _ _).alloc (Nat.le_refl _) _
  have b3 : Below w.heap.size w W3 := b2.trans (b3'.mono b2.size)
  have k0 := kept b3' d0
  have k1 := kept b3' d1
  have k2 := kept b3' d2
  clear K1 hW3 b3' hW1 hW2 c0 c1 c2 d0 d1 d2
  cases R1 with
  | false =>
    go_wp2
    go_ret
    exact ⟨retB (by rw [E2.out]; rfl), b3⟩
  | true =>
    go_wp2_with fail
    refine Calls.mono (K2.out _) ?_
    rintro e W4 ⟨rfl, hW4⟩
    have b4' : Below W3.heap.size W3 W4 := by rw [hW4]; exact (Below.refl _ _).alloc (Nat.le_refl _) _
    have b4 : Below w.heap.size w W4 := b3.trans (b4'.mono b3.size)
    clear K2 hW4 b4' k0 k1 k2
    go_wp2
    go_ret
    exact ⟨retB (by rw [E2.out]; rfl), b4⟩
set_option maxRecDepth 100000 in
set_option maxHeartbeats 4000000 in
theorem rEnds_n (f sf sh sl df dh dl : Int) (w : World) (hsl : 0 ≤ sl) (hdl : 0 ≤ dl) (h4 : ¬ f = 4) (h6 : ¬ f = 6) :
    Calls Try.prog 63 #[.int .i64 f, .agg #[.int .i64 sf, .int .u64 sh, .int .u64 sl], .agg #[.int .i64 df, .int .u64 dh, .int .u64 dl]] w fun e w' => e = .returned (.bool (endsB f ⟨sf, sh, sl⟩ ⟨df, dh, dl⟩)) ∧ Below w.heap.size w w' := by
  obtain ⟨W1, hW1⟩ : ∃ W1, w.alloc (.cells #[.int .i64 sf, .int .u64 sh, .int .u64 sl] 24) = W1 := ⟨_, rfl⟩
  obtain ⟨W2, hW2⟩ : ∃ W2, W1.alloc (.cells #[.int .i64 df, .int .u64 dh, .int .u64 dl] 24) = W2 := ⟨_, rfl⟩
  have b1 : Below w.heap.size w W1 := by rw [← hW1]; exact (Below.refl _ _).alloc (Nat.le_refl _) _
  have b2 : Below w.heap.size w W2 := by rw [← hW2]; exact b1.alloc b1.size _
  have B1' : Blk W1 w.heap.size 24 #[.int .i64 sf, .int .u64 sh, .int .u64 sl] := by rw [← hW1]; exact blk_new _ _ _
  have B1 : Blk W2 w.heap.size 24 #[.int .i64 sf, .int .u64 sh, .int .u64 sl] := by rw [← hW2]; exact B1'.alloc _
  have B2 : Blk W2 W1.heap.size 24 #[.int .i64 df, .int .u64 dh, .int .u64 dl] := by rw [← hW2]; exact blk_new _ _ _
  have g1 : w.heap.size < W1.heap.size := B1'.lt
  have s2 : W2.heap.size = W1.heap.size + 1 := by rw [← hW2]; simp
  clear B1'
  have c0 := B1.cell 0 (.int .i64 sf) rfl
  have c1 := B1.cell 1 (.int .u64 sh) rfl
  have c2 := B1.cell 2 (.int .u64 sl) rfl
  have d0 := B2.cell 0 (.int .i64 df) rfl
  have d1 := B2.cell 1 (.int .u64 dh) rfl
  have d2 := B2.cell 2 (.int .u64 dl) rfl
  have e : endsB f ⟨sf, sh, sl⟩ ⟨df, dh, dl⟩ = false := by
    cases h : endsB f ⟨sf, sh, sl⟩ ⟨df, dh, dl⟩ with
    | false => rfl
    | true => rcases fam_46' h with h' | h' <;> contradiction
  rw [e]
  have h4' : (f == 4) = false := by simpa using h4
  have h6' : (f == 6) = false := by simpa using h6
  clear h4 h6 e
  go_enter Try.func63, Try.ntmps63
  go_wp2
  go_ret
  exact ⟨rfl, b2⟩
theorem rEnds_any (f sf sh sl df dh dl : Int) (w : World) (hsl : 0 ≤ sl) (hdl : 0 ≤ dl) :
    Calls Try.prog 63 #[.int .i64 f, .agg #[.int .i64 sf, .int .u64 sh, .int .u64 sl], .agg #[.int .i64 df, .int .u64 dh, .int .u64 dl]] w fun e w' => e = .returned (.bool (endsB f ⟨sf, sh, sl⟩ ⟨df, dh, dl⟩)) ∧ Below w.heap.size w w' := by
  by_cases h4 : f = 4
  · exact rEnds_4 f sf sh sl df dh dl w hsl hdl h4
  by_cases h6 : f = 6
  · exact rEnds_6 f sf sh sl df dh dl w hsl hdl h6
  · exact rEnds_n f sf sh sl df dh dl w hsl hdl h4 h6
end Go.Proofs.Ytmjjdbkipagkbaa
