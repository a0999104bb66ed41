/- The document: the pseudo header, may a segment be written, and how. -/
import Derived.Test.YtgdpcomcndidcaaSgqA
import Derived.Test.YtgdpcomcndidcaaSguC
import Derived.Test.YtgdpcomcndidcaaRByt
import Derived.Test.YtgdpcomcndidcaaOrd
import Derived.Test.YtgdpcomcndidcaaPuts
import Derived.Test.YtgdpcomcndidcaaRefSum
namespace Go.Proofs.Ytgdpcomcndidcaa
open Go.RowKit
set_option linter.unusedVariables false
set_option linter.unusedSimpArgs false
abbrev ud0 : Oper := { dst := some 12, op := Op.call { callee := Callee.value (.func 28), args := #[.tmp 7, .tmp 9, .tmp 11], argTypes := #[3, 24, 24] }, type := 4, pos := "ref.go:214", after := #[{ on := 1, ground := Ground.data }, { on := 3, ground := Ground.data }, { on := 5, ground := Ground.data }], guard := none }
abbrev ud1 : Oper := { dst := some 28, op := Op.call { callee := Callee.value (.func 36), args := #[.tmp 27], argTypes := #[3] }, type := 3, pos := "ref.go:214", after := #[{ on := 21, ground := Ground.data }, { on := 17, ground := Ground.chain }, { on := 17, ground := Ground.guard }], guard := some (17, true) }
abbrev ud2 : Oper := { dst := some 29, op := Op.binOp BinOp.neq 3 (.tmp 25) (.tmp 28) 3, type := 4, pos := "ref.go:214", after := #[{ on := 19, ground := Ground.data }, { on := 22, ground := Ground.data }, { on := 17, ground := Ground.guard }], guard := some (17, true) }
abbrev ud3 : Oper := { dst := some 22, op := Op.pick (.tmp 18) (.tmp 21) (.const (.bool false)), type := 4, pos := "ref.go:214", after := #[{ on := 12, ground := Ground.data }, { on := 15, ground := Ground.data }, { on := 8, ground := Ground.guard }], guard := some (8, false) }
abbrev ud4 : Oper := { dst := some 30, op := Op.pick (.tmp 23) (.tmp 29) (.const (.bool false)), type := 4, pos := "ref.go:214", after := #[{ on := 17, ground := Ground.data }, { on := 23, ground := Ground.data }, { on := 8, ground := Ground.guard }], guard := some (8, false) }
abbrev ud5 : Oper := { dst := some 21, op := Op.binOp BinOp.neq 3 (.tmp 20) (.const (.int .i64 17)) 3, type := 4, pos := "ref.go:214", after := #[{ on := 14, ground := Ground.data }, { on := 12, ground := Ground.guard }], guard := some (12, true) }
abbrev ud6 : Oper := { dst := some 17, op := Op.binOp BinOp.neq 3 (.tmp 16) (.const (.int .i64 6)) 3, type := 4, pos := "ref.go:214", after := #[{ on := 10, ground := Ground.data }, { on := 8, ground := Ground.guard }], guard := some (8, false) }
abbrev ud7 : Oper := { dst := some 23, op := Op.move (.tmp 22), type := 4, pos := "ref.go:214", after := #[{ on := 16, ground := Ground.data }, { on := 12, ground := Ground.chain }, { on := 8, ground := Ground.guard }], guard := some (8, false) }
abbrev ud8 : Oper := { dst := some 18, op := Op.move (.tmp 17), type := 4, pos := "ref.go:214", after := #[{ on := 11, ground := Ground.data }, { on := 8, ground := Ground.chain }, { on := 8, ground := Ground.guard }], guard := some (8, false) }
abbrev ud9 : Oper := { dst := some 31, op := Op.pick (.tmp 14) (.const (.bool true)) (.tmp 30), type := 4, pos := "ref.go:214", after := #[{ on := 8, ground := Ground.data }, { on := 24, ground := Ground.data }], guard := none }
abbrev ud10 : Oper := { dst := some 20, op := Op.load 3 (.tmp 19), type := 3, pos := "ref.go:214", after := #[{ on := 13, ground := Ground.data }, { on := 12, ground := Ground.guard }], guard := some (12, true) }
abbrev ud11 : Oper := { dst := some 25, op := Op.load 3 (.tmp 24), type := 3, pos := "ref.go:214", after := #[{ on := 18, ground := Ground.data }, { on := 17, ground := Ground.guard }], guard := some (17, true) }
abbrev ud12 : Oper := { dst := some 27, op := Op.load 3 (.tmp 26), type := 3, pos := "ref.go:214", after := #[{ on := 20, ground := Ground.data }, { on := 17, ground := Ground.guard }], guard := some (17, true) }
abbrev ud13 : Oper := { dst := some 16, op := Op.load 3 (.tmp 15), type := 3, pos := "ref.go:214", after := #[{ on := 9, ground := Ground.data }, { on := 8, ground := Ground.guard }], guard := some (8, false) }
abbrev ud14 : Oper := { dst := some 14, op := Op.move (.tmp 13), type := 4, pos := "ref.go:214", after := #[{ on := 7, ground := Ground.data }, { on := 6, ground := Ground.chain }], guard := none }
abbrev ud15 : Oper := { dst := some 19, op := Op.fieldAddr 26 (.tmp 3) 1, type := 0, pos := "ref.go:214", after := #[{ on := 12, ground := Ground.guard }], guard := some (12, true) }
abbrev ud16 : Oper := { dst := some 24, op := Op.fieldAddr 26 (.tmp 3) 1, type := 0, pos := "ref.go:214", after := #[{ on := 17, ground := Ground.guard }], guard := some (17, true) }
abbrev ud17 : Oper := { dst := some 26, op := Op.fieldAddr 26 (.tmp 3) 0, type := 0, pos := "ref.go:214", after := #[{ on := 17, ground := Ground.guard }], guard := some (17, true) }
abbrev ud18 : Oper := { dst := some 15, op := Op.fieldAddr 26 (.tmp 3) 1, type := 0, pos := "ref.go:214", after := #[{ on := 8, ground := Ground.guard }], guard := some (8, false) }
abbrev ud19 : Oper := { dst := some 13, op := Op.unOp UnOp.not 4 (.tmp 12), type := 4, pos := "ref.go:214", after := #[{ on := 6, ground := Ground.data }], guard := none }
abbrev ud20 : Oper := { dst := some 11, op := Op.load 24 (.tmp 10), type := 24, pos := "ref.go:214", after := #[{ on := 4, ground := Ground.data }], guard := none }
abbrev ud21 : Oper := { dst := some 9, op := Op.load 24 (.tmp 8), type := 24, pos := "ref.go:214", after := #[{ on := 2, ground := Ground.data }], guard := none }
abbrev ud22 : Oper := { dst := some 7, op := Op.load 3 (.tmp 6), type := 3, pos := "ref.go:214", after := #[{ on := 0, ground := Ground.data }], guard := none }
abbrev ud23 : Oper := { dst := some 9, op := Op.assign (.tmp 20), type := 28, pos := "ref.go:32", after := #[{ on := 4, ground := Ground.data }, { on := 4, ground := Ground.chain }, { on := 0, ground := Ground.phase }, { on := 1, ground := Ground.phase }, { on := 2, ground := Ground.phase }, { on := 3, ground := Ground.phase }, { on := 4, ground := Ground.phase }], guard := none }
abbrev ud24 : Oper := { dst := some 20, op := Op.call { callee := Callee.builtin Builtin.append, args := #[.tmp 17, .tmp 19], argTypes := #[28, 28] }, type := 28, pos := "ref.go:32", after := #[{ on := 1, ground := Ground.data }, { on := 3, ground := Ground.data }, { on := 3, ground := Ground.chain }], guard := none }
abbrev ud26 : Oper := { dst := some 10, op := Op.fieldAddr 26 (.tmp 3) 3, type := 0, pos := "ref.go:214", after := #[], guard := none }
abbrev ud27 : Oper := { dst := some 6, op := Op.fieldAddr 26 (.tmp 3) 0, type := 0, pos := "ref.go:214", after := #[], guard := none }
abbrev ud28 : Oper := { dst := some 8, op := Op.fieldAddr 26 (.tmp 3) 2, type := 0, pos := "ref.go:214", after := #[], guard := none }
abbrev ud30 : Oper := { dst := some 19, op := Op.call { callee := Callee.value (.func 29), args := #[.tmp 18], argTypes := #[24] }, type := 28, pos := "ref.go:32", after := #[{ on := 2, ground := Ground.data }, { on := 1, ground := Ground.chain }], guard := none }
abbrev ud32 : Oper := { dst := some 17, op := Op.call { callee := Callee.value (.func 29), args := #[.tmp 16], argTypes := #[24] }, type := 28, pos := "ref.go:32", after := #[{ on := 0, ground := Ground.data }], guard := none }
abbrev ud42 : Oper := { dst := some 16, op := Op.load 24 (.tmp 4), type := 24, pos := "ref.go:32", after := #[], guard := none }
abbrev ud43 : Oper := { dst := some 18, op := Op.load 24 (.tmp 5), type := 24, pos := "ref.go:32", after := #[], guard := none }

theorem rFlags_any (x : Int) (w : World) : Calls Try.prog 47 #[.int .i64 x] w fun e w' => e = .returned (.bool (flagsB x)) ∧ w' = w := by
  go_enter Try.func47, Try.ntmps47
  go_wp2_with fail
  all_goals (go_ret; exact ⟨retB (by unfold flagsB; generalize bits .and .i64 x 22 = p at *; generalize bits .and .i64 x 2 = q at *; generalize bits .and .i64 x 5 = r at *; generalize bits .and .i64 x 1 = s at *; generalize bits .and .i64 x 16 = t at *; cases hp : (p == 0) <;> cases hq : (q == 0) <;> cases hr : (r == 0) <;> cases hs : (s == 0) <;> cases ht : (t == 0) <;> simp_all [bne]), rfl⟩)
theorem rIsError_any (f k : Int) (w : World) : Calls Try.prog 14 #[.int .i64 f, .int .i64 k] w fun e w' => e = .returned (.bool (isErr f k)) ∧ w' = w := by
  go_enter Try.func14, Try.ntmps14
  go_wp2_with fail
  all_goals (go_ret; exact ⟨retB (by unfold isErr; simp_all <;> omega), rfl⟩)
def rEcho (f k : Int) : Bool := (f == 4 && (k == 8 || k == 0)) || (f == 6 && (k == 128 || k == 129))
theorem rIsEcho_any (f k : Int) (w : World) : Calls Try.prog 45 #[.int .i64 f, .int .i64 k] w fun e w' => e = .returned (.bool (rEcho f k)) ∧ w' = w := by
  go_enter Try.func45, Try.ntmps45
  go_wp2_with fail
  all_goals (go_ret; exact ⟨retB (by unfold rEcho; simp_all <;> omega), rfl⟩)

end Go.Proofs.Ytgdpcomcndidcaa

namespace Go.Proofs.Ytgdpcomcndidcaa
open Go.RowKit
set_option linter.unusedVariables false
set_option linter.unusedSimpArgs false

theorem fam_46' {f : Int} {s d : Ad} (h : endsB f s d = true) : f = 4 ∨ f = 6 := by
  obtain ⟨h1, _, h3, _⟩ := (endsB_iff f s d).1 h
  unfold Ad.right at h1
  split at h1
  · omega
  · simp at h1; omega

set_option maxRecDepth 100000 in
set_option maxHeartbeats 4000000 in
theorem rEnds_4 (f sf sh sl df dh dl : Int) (w : World) (hsl : 0 ≤ sl) (hdl : 0 ≤ dl) (hf : f = 4) :
    Calls Try.prog 28 #[.int .i64 f, .agg #[.int .i64 sf, .int .u64 sh, .int .u64 sl], .agg #[.int .i64 df, .int .u64 dh, .int .u64 dl]] w fun e w' => e = .returned (.bool (endsB f ⟨sf, sh, sl⟩ ⟨df, dh, dl⟩)) ∧ Below w.heap.size w w' := by
  obtain ⟨W1, hW1⟩ : ∃ W1, w.alloc (.cells #[.int .i64 sf, .int .u64 sh, .int .u64 sl] 24) = W1 := ⟨_, rfl⟩
  obtain ⟨W2, hW2⟩ : ∃ W2, W1.alloc (.cells #[.int .i64 df, .int .u64 dh, .int .u64 dl] 24) = W2 := ⟨_, rfl⟩
  have b1 : Below w.heap.size w W1 := by rw [← hW1]; exact (Below.refl _ _).alloc (Nat.le_refl _) _
  have b2 : Below w.heap.size w W2 := by rw [← hW2]; exact b1.alloc b1.size _
  have B1' : Blk W1 w.heap.size 24 #[.int .i64 sf, .int .u64 sh, .int .u64 sl] := by rw [← hW1]; exact blk_new _ _ _
  have B1 : Blk W2 w.heap.size 24 #[.int .i64 sf, .int .u64 sh, .int .u64 sl] := by rw [← hW2]; exact B1'.alloc _
  have B2 : Blk W2 W1.heap.size 24 #[.int .i64 df, .int .u64 dh, .int .u64 dl] := by rw [← hW2]; exact blk_new _ _ _
  have g1 : w.heap.size < W1.heap.size := B1'.lt
  have s2 : W2.heap.size = W1.heap.size + 1 := by rw [← hW2]; simp
  clear B1'
  have c0 := B1.cell 0 (.int .i64 sf) rfl
  have c1 := B1.cell 1 (.int .u64 sh) rfl
  have c2 := B1.cell 2 (.int .u64 sl) rfl
  have d0 := B2.cell 0 (.int .i64 df) rfl
  have d1 := B2.cell 1 (.int .u64 dh) rfl
  have d2 := B2.cell 2 (.int .u64 dl) rfl
  have E : Hid (endsB f ⟨sf, sh, sl⟩ ⟨df, dh, dl⟩ = (Ad.right ⟨sf, sh, sl⟩ && (Ad.right ⟨df, dh, dl⟩ && (sf == f && df == f)))) := rfl
  have K1 : Hid (∀ W, Calls Try.prog 52 #[.agg #[.int .i64 sf, .int .u64 sh, .int .u64 sl]] W _) := fun W => rright_any sf sh sl W hsl
  have K2 : Hid (∀ W, Calls Try.prog 52 #[.agg #[.int .i64 df, .int .u64 dh, .int .u64 dl]] W _) := fun W => rright_any df dh dl W hdl
  generalize Ad.right ⟨sf, sh, sl⟩ = R1 at *
  generalize Ad.right ⟨df, dh, dl⟩ = R2 at *
  generalize endsB f ⟨sf, sh, sl⟩ ⟨df, dh, dl⟩ = RR at *
  have h4' : (f == 4) = true := by simpa using hf
  clear hf
  by_cases hs : sf = f
  case neg =>
    have hs' : (sf == f) = false := by simpa using hs
    have e : RR = false := by rw [E.out, hs']; simp
    subst e
    clear hs
    go_enter Try.func28, Try.ntmps28
    go_wp2
    go_ret
    exact ⟨rfl, b2⟩
  have hs' : (sf == f) = true := by simpa using hs
  by_cases hd : df = f
  case neg =>
    have hd' : (df == f) = false := by simpa using hd
    have e : RR = false := by rw [E.out, hd']; simp
    subst e
    clear hs hd
    go_enter Try.func28, Try.ntmps28
    go_wp2
    go_ret
    exact ⟨rfl, b2⟩
  have hd' : (df == f) = true := by simpa using hd
  have E2 : Hid (RR = (R1 && R2)) := by
    have : RR = (R1 && R2) := by rw [E.out, hs', hd']; simp
    exact this
  clear hs hd E
  go_enter Try.func28, Try.ntmps28
  go_wp2_with fail
  refine Calls.mono (K1.out _) ?_
  rintro e W3 ⟨rfl, hW3⟩
  have b3' : Below W2.heap.size W2 W3 := by rw [hW3]; exact (Below.refl _ _).alloc (Nat.le_refl _) _
  have b3 : Below w.heap.size w W3 := b2.trans (b3'.mono b2.size)
  have k0 := kept b3' d0
  have k1 := kept b3' d1
  have k2 := kept b3' d2
  clear K1 hW3 b3' hW1 hW2 c0 c1 c2 d0 d1 d2
  cases R1 with
  | false =>
    go_wp2
    go_ret
    exact ⟨retB (by rw [E2.out]; rfl), b3⟩
  | true =>
    go_wp2_with fail
    refine Calls.mono (K2.out _) ?_
    rintro e W4 ⟨rfl, hW4⟩
    have b4' : Below W3.heap.size W3 W4 := by rw [hW4]; exact (Below.refl _ _).alloc (Nat.le_refl _) _
    have b4 : Below w.heap.size w W4 := b3.trans (b4'.mono b3.size)
    clear K2 hW4 b4' k0 k1 k2
    go_wp2
    go_ret
    exact ⟨retB (by rw [E2.out]; rfl), b4⟩

set_option maxRecDepth 100000 in
set_option maxHeartbeats 4000000 in
theorem rEnds_6 (f sf sh sl df dh dl : Int) (w : World) (hsl : 0 ≤ sl) (hdl : 0 ≤ dl) (hf : f = 6) :
    Calls Try.prog 28 #[.int .i64 f, .agg #[.int .i64 sf, .int .u64 sh, .int .u64 sl], .agg #[.int .i64 df, .int .u64 dh, .int .u64 dl]] w fun e w' => e = .returned (.bool (endsB f ⟨sf, sh, sl⟩ ⟨df, dh, dl⟩)) ∧ Below w.heap.size w w' := by
  obtain ⟨W1, hW1⟩ : ∃ W1, w.alloc (.cells #[.int .i64 sf, .int .u64 sh, .int .u64 sl] 24) = W1 := ⟨_, rfl⟩
  obtain ⟨W2, hW2⟩ : ∃ W2, W1.alloc (.cells #[.int .i64 df, .int .u64 dh, .int .u64 dl] 24) = W2 := ⟨_, rfl⟩
  have b1 : Below w.heap.size w W1 := by rw [← hW1]; exact (Below.refl _ _).alloc (Nat.le_refl _) _
  have b2 : Below w.heap.size w W2 := by rw [← hW2]; exact b1.alloc b1.size _
  have B1' : Blk W1 w.heap.size 24 #[.int .i64 sf, .int .u64 sh, .int .u64 sl] := by rw [← hW1]; exact blk_new _ _ _
  have B1 : Blk W2 w.heap.size 24 #[.int .i64 sf, .int .u64 sh, .int .u64 sl] := by rw [← hW2]; exact B1'.alloc _
  have B2 : Blk W2 W1.heap.size 24 #[.int .i64 df, .int .u64 dh, .int .u64 dl] := by rw [← hW2]; exact blk_new _ _ _
  have g1 : w.heap.size < W1.heap.size := B1'.lt
  have s2 : W2.heap.size = W1.heap.size + 1 := by rw [← hW2]; simp
  clear B1'
  have c0 := B1.cell 0 (.int .i64 sf) rfl
  have c1 := B1.cell 1 (.int .u64 sh) rfl
  have c2 := B1.cell 2 (.int .u64 sl) rfl
  have d0 := B2.cell 0 (.int .i64 df) rfl
  have d1 := B2.cell 1 (.int .u64 dh) rfl
  have d2 := B2.cell 2 (.int .u64 dl) rfl
  have E : Hid (endsB f ⟨sf, sh, sl⟩ ⟨df, dh, dl⟩ = (Ad.right ⟨sf, sh, sl⟩ && (Ad.right ⟨df, dh, dl⟩ && (sf == f && df == f)))) := rfl
  have K1 : Hid (∀ W, Calls Try.prog 52 #[.agg #[.int .i64 sf, .int .u64 sh, .int .u64 sl]] W _) := fun W => rright_any sf sh sl W hsl
  have K2 : Hid (∀ W, Calls Try.prog 52 #[.agg #[.int .i64 df, .int .u64 dh, .int .u64 dl]] W _) := fun W => rright_any df dh dl W hdl
  generalize Ad.right ⟨sf, sh, sl⟩ = R1 at *
  generalize Ad.right ⟨df, dh, dl⟩ = R2 at *
  generalize endsB f ⟨sf, sh, sl⟩ ⟨df, dh, dl⟩ = RR at *
  have h4' : (f == 4) = false := by rw [hf]; rfl
  have h6' : (f == 6) = true := by simpa using hf
  clear hf
  by_cases hs : sf = f
  case neg =>
    have hs' : (sf == f) = false := by simpa using hs
    have e : RR = false := by rw [E.out, hs']; simp
    subst e
    clear hs
    go_enter Try.func28, Try.ntmps28
    go_wp2
    go_ret
    exact ⟨rfl, b2⟩
  have hs' : (sf == f) = true := by simpa using hs
  by_cases hd : df = f
  case neg =>
    have hd' : (df == f) = false := by simpa using hd
    have e : RR = false := by rw [E.out, hd']; simp
    subst e
    clear hs hd
    go_enter Try.func28, Try.ntmps28
    go_wp2
    go_ret
    exact ⟨rfl, b2⟩
  have hd' : (df == f) = true := by simpa using hd
  have E2 : Hid (RR = (R1 && R2)) := by
    have : RR = (R1 && R2) := by rw [E.out, hs', hd']; simp
    exact this
  clear hs hd E
  go_enter Try.func28, Try.ntmps28
  go_wp2_with fail
  refine Calls.mono (K1.out _) ?_
  rintro e W3 ⟨rfl, hW3⟩
  have b3' : Below W2.heap.size W2 W3 := by rw [hW3]; exact (Below.refl _ _).alloc (Nat.le_refl _) _
  have b3 : Below w.heap.size w W3 := b2.trans (b3'.mono b2.size)
  have k0 := kept b3' d0
  have k1 := kept b3' d1
  have k2 := kept b3' d2
  clear K1 hW3 b3' hW1 hW2 c0 c1 c2 d0 d1 d2
  cases R1 with
  | false =>
    go_wp2
    go_ret
    exact ⟨retB (by rw [E2.out]; rfl), b3⟩
  | true =>
    go_wp2_with fail
    refine Calls.mono (K2.out _) ?_
    rintro e W4 ⟨rfl, hW4⟩
    have b4' : Below W3.heap.size W3 W4 := by rw [hW4]; exact (Below.refl _ _).alloc (Nat.le_refl _) _
    have b4 : Below w.heap.size w W4 := b3.trans (b4'.mono b3.size)
    clear K2 hW4 b4' k0 k1 k2
    go_wp2
    go_ret
    exact ⟨retB (by rw [E2.out]; rfl), b4⟩

set_option maxRecDepth 100000 in
set_option maxHeartbeats 4000000 in
theorem rEnds_n (f sf sh sl df dh dl : Int) (w : World) (hsl : 0 ≤ sl) (hdl : 0 ≤ dl) (h4 : ¬ f = 4) (h6 : ¬ f = 6) :
    Calls Try.prog 28 #[.int .i64 f, .agg #[.int .i64 sf, .int .u64 sh, .int .u64 sl], .agg #[.int .i64 df, .int .u64 dh, .int .u64 dl]] w fun e w' => e = .returned (.bool (endsB f ⟨sf, sh, sl⟩ ⟨df, dh, dl⟩)) ∧ Below w.heap.size w w' := by
  obtain ⟨W1, hW1⟩ : ∃ W1, w.alloc (.cells #[.int .i64 sf, .int .u64 sh, .int .u64 sl] 24) = W1 := ⟨_, rfl⟩
  obtain ⟨W2, hW2⟩ : ∃ W2, W1.alloc (.cells #[.int .i64 df, .int .u64 dh, .int .u64 dl] 24) = W2 := ⟨_, rfl⟩
  have b1 : Below w.heap.size w W1 := by rw [← hW1]; exact (Below.refl _ _).alloc (Nat.le_refl _) _
  have b2 : Below w.heap.size w W2 := by rw [← hW2]; exact b1.alloc b1.size _
  have B1' : Blk W1 w.heap.size 24 #[.int .i64 sf, .int .u64 sh, .int .u64 sl] := by rw [← hW1]; exact blk_new _ _ _
  have B1 : Blk W2 w.heap.size 24 #[.int .i64 sf, .int .u64 sh, .int .u64 sl] := by rw [← hW2]; exact B1'.alloc _
  have B2 : Blk W2 W1.heap.size 24 #[.int .i64 df, .int .u64 dh, .int .u64 dl] := by rw [← hW2]; exact blk_new _ _ _
  have g1 : w.heap.size < W1.heap.size := B1'.lt
  have s2 : W2.heap.size = W1.heap.size + 1 := by rw [← hW2]; simp
  clear B1'
  have c0 := B1.cell 0 (.int .i64 sf) rfl
  have c1 := B1.cell 1 (.int .u64 sh) rfl
  have c2 := B1.cell 2 (.int .u64 sl) rfl
  have d0 := B2.cell 0 (.int .i64 df) rfl
  have d1 := B2.cell 1 (.int .u64 dh) rfl
  have d2 := B2.cell 2 (.int .u64 dl) rfl
  have e : endsB f ⟨sf, sh, sl⟩ ⟨df, dh, dl⟩ = false := by
    cases h : endsB f ⟨sf, sh, sl⟩ ⟨df, dh, dl⟩ with
    | false => rfl
    | true => rcases fam_46' h with h' | h' <;> contradiction
  rw [e]
  have h4' : (f == 4) = false := by simpa using h4
  have h6' : (f == 6) = false := by simpa using h6
  clear h4 h6 e
  go_enter Try.func28, Try.ntmps28
  go_wp2
  go_ret
  exact ⟨rfl, b2⟩
theorem rEnds_any (f sf sh sl df dh dl : Int) (w : World) (hsl : 0 ≤ sl) (hdl : 0 ≤ dl) :
    Calls Try.prog 28 #[.int .i64 f, .agg #[.int .i64 sf, .int .u64 sh, .int .u64 sl], .agg #[.int .i64 df, .int .u64 dh, .int .u64 dl]] w fun e w' => e = .returned (.bool (endsB f ⟨sf, sh, sl⟩ ⟨df, dh, dl⟩)) ∧ Below w.heap.size w w' := by
  by_cases h4 : f = 4
  · exact rEnds_4 f sf sh sl df dh dl w hsl hdl h4
  by_cases h6 : f = 6
  · exact rEnds_6 f sf sh sl df dh dl w hsl hdl h6
  · exact rEnds_n f sf sh sl df dh dl w hsl hdl h4 h6

set_option maxRecDepth 100000 in
set_option maxHeartbeats 4000000 in
theorem rpseudo_no (sf sh sl df dh dl pr sz : Int) (w : World) (ho : Ad.ok ⟨sf, sh, sl⟩) (ho' : Ad.ok ⟨df, dh, dl⟩) (hE : endsB sf ⟨sf, sh, sl⟩ ⟨df, dh, dl⟩ = false) :
    Calls Try.prog 12 #[.agg #[.int .i64 sf, .int .u64 sh, .int .u64 sl], .agg #[.int .i64 df, .int .u64 dh, .int .u64 dl], .int .i64 pr, .int .i64 sz] w fun e w' => ∃ a c, e = .returned (.slice a (pseudo ⟨sf, sh, sl⟩ ⟨df, dh, dl⟩ pr sz).length c) ∧ Fresh w w' a c (pseudo ⟨sf, sh, sl⟩ ⟨df, dh, dl⟩ pr sz) := by
  obtain ⟨W1, hW1⟩ : ∃ W1, w.alloc (.cells #[.int .i64 sf, .int .u64 sh, .int .u64 sl] 24) = W1 := ⟨_, rfl⟩
  obtain ⟨W2, hW2⟩ : ∃ W2, W1.alloc (.cells #[.int .i64 df, .int .u64 dh, .int .u64 dl] 24) = W2 := ⟨_, rfl⟩
  have b1 : Below w.heap.size w W1 := by rw [← hW1]; exact (Below.refl _ _).alloc (Nat.le_refl _) _
  have b2 : Below w.heap.size w W2 := by rw [← hW2]; exact b1.alloc b1.size _
  have B1' : Blk W1 w.heap.size 24 #[.int .i64 sf, .int .u64 sh, .int .u64 sl] := by rw [← hW1]; exact blk_new _ _ _
  have B1 : Blk W2 w.heap.size 24 #[.int .i64 sf, .int .u64 sh, .int .u64 sl] := by rw [← hW2]; exact B1'.alloc _
  have B2 : Blk W2 W1.heap.size 24 #[.int .i64 df, .int .u64 dh, .int .u64 dl] := by rw [← hW2]; exact blk_new _ _ _
  have g1 : w.heap.size < W1.heap.size := B1'.lt
  have s2 : W2.heap.size = W1.heap.size + 1 := by rw [← hW2]; simp
  clear B1'
  have c0 := B1.cell 0 (.int .i64 sf) rfl
  have c1 := B1.cell 1 (.int .u64 sh) rfl
  have c2 := B1.cell 2 (.int .u64 sl) rfl
  have d0 := B2.cell 0 (.int .i64 df) rfl
  have d1 := B2.cell 1 (.int .u64 dh) rfl
  have d2 := B2.cell 2 (.int .u64 dl) rfl
  have K0 := rEnds_any sf sf sh sl df dh dl W2 ho.2.2.1 ho'.2.2.1
  rw [hE] at K0
  have K0 : Hid _ := K0
  obtain ⟨L, hL⟩ : ∃ L, pseudo ⟨sf, sh, sl⟩ ⟨df, dh, dl⟩ pr sz = L := ⟨_, rfl⟩
  rw [hL]
  unfold pseudo at hL
  rw [hE] at hL
  rw [if_neg (by decide)] at hL
  subst hL
  go_enter Try.func12, Try.ntmps12
  go_wp2_with fail
  refine Calls.mono K0.out ?_
  rintro e W3 ⟨rfl, bb⟩
  have b3 : Below w.heap.size w W3 := b2.trans (bb.mono b2.size)
  have B3 := B1.kept bb
  have B3' := B2.kept bb
  clear K0 bb B1 B2 b2 hW1 hW2 c0 c1 c2 d0 d1 d2
  go_wp2
  go_ret
  exact ⟨none, 0, rfl, fresh_nil b3⟩

set_option maxRecDepth 100000 in
set_option maxHeartbeats 4000000 in
theorem rpseudo_4 (sf sh sl df dh dl pr sz : Int) (w : World) (ho : Ad.ok ⟨sf, sh, sl⟩) (ho' : Ad.ok ⟨df, dh, dl⟩) (hE : endsB sf ⟨sf, sh, sl⟩ ⟨df, dh, dl⟩ = true) (h4 : sf = 4) :
    Calls Try.prog 12 #[.agg #[.int .i64 sf, .int .u64 sh, .int .u64 sl], .agg #[.int .i64 df, .int .u64 dh, .int .u64 dl], .int .i64 pr, .int .i64 sz] w fun e w' => ∃ a c, e = .returned (.slice a (pseudo ⟨sf, sh, sl⟩ ⟨df, dh, dl⟩ pr sz).length c) ∧ Fresh w w' a c (pseudo ⟨sf, sh, sl⟩ ⟨df, dh, dl⟩ pr sz) := by
  obtain ⟨W1, hW1⟩ : ∃ W1, w.alloc (.cells #[.int .i64 sf, .int .u64 sh, .int .u64 sl] 24) = W1 := ⟨_, rfl⟩
  obtain ⟨W2, hW2⟩ : ∃ W2, W1.alloc (.cells #[.int .i64 df, .int .u64 dh, .int .u64 dl] 24) = W2 := ⟨_, rfl⟩
  have b1 : Below w.heap.size w W1 := by rw [← hW1]; exact (Below.refl _ _).alloc (Nat.le_refl _) _
  have b2 : Below w.heap.size w W2 := by rw [← hW2]; exact b1.alloc b1.size _
  have B1' : Blk W1 w.heap.size 24 #[.int .i64 sf, .int .u64 sh, .int .u64 sl] := by rw [← hW1]; exact blk_new _ _ _
  have B1 : Blk W2 w.heap.size 24 #[.int .i64 sf, .int .u64 sh, .int .u64 sl] := by rw [← hW2]; exact B1'.alloc _
  have B2 : Blk W2 W1.heap.size 24 #[.int .i64 df, .int .u64 dh, .int .u64 dl] := by rw [← hW2]; exact blk_new _ _ _
  have g1 : w.heap.size < W1.heap.size := B1'.lt
  have s2 : W2.heap.size = W1.heap.size + 1 := by rw [← hW2]; simp
  clear B1'
  have c0 := B1.cell 0 (.int .i64 sf) rfl
  have c1 := B1.cell 1 (.int .u64 sh) rfl
  have c2 := B1.cell 2 (.int .u64 sl) rfl
  have d0 := B2.cell 0 (.int .i64 df) rfl
  have d1 := B2.cell 1 (.int .u64 dh) rfl
  have d2 := B2.cell 2 (.int .u64 dl) rfl
  have K0 := rEnds_any sf sf sh sl df dh dl W2 ho.2.2.1 ho'.2.2.1
  rw [hE] at K0
  have K0 : Hid _ := K0
  obtain ⟨L, hL⟩ : ∃ L, pseudo ⟨sf, sh, sl⟩ ⟨df, dh, dl⟩ pr sz = L := ⟨_, rfl⟩
  rw [hL]
  unfold pseudo at hL
  rw [hE] at hL
  have hr1 : Ad.right ⟨sf, sh, sl⟩ = true := ((endsB_iff _ _ _).1 hE).1
  have hr2 : Ad.right ⟨df, dh, dl⟩ = true := ((endsB_iff _ _ _).1 hE).2.1
  rw [if_pos rfl] at hL
  unfold pseudoL at hL
  obtain ⟨SB, hSB⟩ : ∃ x, Ad.bytes ⟨sf, sh, sl⟩ = x := ⟨_, rfl⟩
  obtain ⟨DB, hDB⟩ : ∃ x, Ad.bytes ⟨df, dh, dl⟩ = x := ⟨_, rfl⟩
  obtain ⟨R, hR⟩ : ∃ x, SB ++ DB = x := ⟨_, rfl⟩
  have lR : R.length ≤ 32 := by
    have h1 := Ad.bytes_le ⟨sf, sh, sl⟩
    have h2 := Ad.bytes_le ⟨df, dh, dl⟩
    rw [hSB] at h1
    rw [hDB] at h2
    rw [← hR, List.length_append]
    omega
  have KB1 : Hid (∀ W, Calls Try.prog 29 #[.agg #[.int .i64 sf, .int .u64 sh, .int .u64 sl]] W fun e w' => ∃ a c, e = .returned (.slice a SB.length c) ∧ Fresh W w' a c SB) := fun W => by
    have := rbytes_right sf sh sl W ho hr1
    rw [hSB] at this
    exact this
  have KB2 : Hid (∀ W, Calls Try.prog 29 #[.agg #[.int .i64 df, .int .u64 dh, .int .u64 dl]] W fun e w' => ∃ a c, e = .returned (.slice a DB.length c) ∧ Fresh W w' a c DB) := fun W => by
    have := rbytes_right df dh dl W ho' hr2
    rw [hDB] at this
    exact this
  rw [hSB, hDB, hR] at hL
  have HR : Hid (SB ++ DB = R) := hR
  clear hR hSB hDB hE hr1 hr2
  rw [if_pos h4] at hL
  obtain ⟨R2, hR2⟩ : ∃ x, R ++ [0, pr % 256] = x := ⟨_, rfl⟩
  rw [hR2] at hL
  have lR2 : R2.length ≤ 34 := by rw [← hR2]; simp; omega
  have HR2 : Hid (R ++ [0, pr % 256] = R2) := hR2
  have HL : Hid (put16 R2 sz = L) := hL
  have wu := wrapU8 pr
  clear hR2 hL
  have h4' : (sf == 4) = true := by simpa using h4
  clear h4
  go_enter Try.func12, Try.ntmps12
  go_wp2_with fail
  refine Calls.mono K0.out ?_
  rintro e W3 ⟨rfl, bb⟩
  have b3 : Below w.heap.size w W3 := b2.trans (bb.mono b2.size)
  have B3 := B1.kept bb
  have B3' := B2.kept bb
  clear K0 bb B1 B2 b2 hW1 hW2 c0 c1 c2 d0 d1 d2
  go_wp2_with fail
  refine wp_region_noPanic ?_
  refine wp_region_held_drew (S := fun w' => Blk w' w.heap.size 24 #[.int .i64 sf, .int .u64 sh, .int .u64 sl] ∧ Blk w' W1.heap.size 24 #[.int .i64 df, .int .u64 dh, .int .u64 dl]) (by kernel_rfl) (by exact ⟨B3.drew, B3'.drew⟩) (fun hHeld => ?_)
  refine wpAnyH_take (i := 0) (oi := ud42) (v := (.agg #[.int .i64 sf, .int .u64 sh, .int .u64 sl])) rfl (by kernel_rfl) (by kernel_rfl) (by kernel_rfl) (fun _ _ _ h => h) (yieldsIf_blk rfl _ _ rfl w.heap.size (by rfl) _ (fun _ hSw => hSw.1) Try.underlying24 (by kernel_rfl)) hHeld ?_
  try simp only [Act.put, List.setIfInBounds_toArray, List.set_cons_zero, List.set_cons_succ]
  refine wpAnyH_take (i := 2) (oi := ud43) (v := (.agg #[.int .i64 df, .int .u64 dh, .int .u64 dl])) rfl (by kernel_rfl) (by kernel_rfl) (by kernel_rfl) (fun _ _ _ h => h) (yieldsIf_blk rfl _ _ rfl W1.heap.size (by rfl) _ (fun _ hSw => hSw.2) Try.underlying24 (by kernel_rfl)) hHeld ?_
  try simp only [Act.put, List.setIfInBounds_toArray, List.set_cons_zero, List.set_cons_succ]
  refine wpAnyH_ready (rs := [1]) (by kernel_rfl) (by simp) ?_
  refine AllReadyH.cons (o := ud32) rfl (fun K hK => ?_) AllReadyH.nil
  go_simp
  refine Calls.mono (KB1.out _) ?_
  rintro e W4 ⟨a4, c4, rfl, f4⟩
  have B4 := B3.drew.kept f4.below
  have B4' := B3'.drew.kept f4.below
  have b4 : Below w.heap.size w W4 := b3.drew.trans (f4.below.mono b3.drew.size)
  refine hK.out _ _ ?_ (fun hHeld => ?_)
  · exact ⟨B4, B4'⟩
  clear hK K
  try simp only [Act.put, List.setIfInBounds_toArray, List.set_cons_zero, List.set_cons_succ]
  refine wpAnyH_ready (rs := [3]) (by kernel_rfl) (by simp) ?_
  refine AllReadyH.cons (o := ud30) rfl (fun K hK => ?_) AllReadyH.nil
  go_simp
  refine Calls.mono (KB2.out _) ?_
  rintro e W5 ⟨a5, c5, rfl, f5⟩
  have B5 := B4.kept f5.below
  have B5' := B4'.kept f5.below
  have b5 : Below w.heap.size w W5 := b4.trans (f5.below.mono b4.size)
  have lt5 : W1.heap.size < W5.heap.size := B5'.lt
  have lt3 : W1.heap.size < W3.heap.size := B3'.lt
  have O5 := owns_le (B' := W1.heap.size + 1) (show W1.heap.size + 1 ≤ W3.drew.heap.size from lt3) (f4.owns.below f5.below)
  refine hK.out _ _ ?_ (fun hHeld => ?_)
  · exact ⟨B5, B5'⟩
  clear hK K
  try simp only [Act.put, List.setIfInBounds_toArray, List.set_cons_zero, List.set_cons_succ]
  refine wpAnyH_ready (rs := [4]) (by kernel_rfl) (by simp) ?_
  refine AllReadyH.cons (o := ud24) rfl (fun K hK => ?_) AllReadyH.nil
  refine step_app2 _ rfl _ _ rfl (W1.heap.size + 1) _ SB rfl O5 f4.row.bytes a5 DB.length c5 DB (by rfl) rfl f5.row f5.nil R HR.out (by omega) lt5 ?_
  intro a6 c6 W6 O6 rm6 nl6 r6 bb
  have b6 : Below w.heap.size w W6 := b5.trans (bb.mono (by omega))
  have B6 := B5.below bb (by omega)
  have B6' := B5'.below bb (Nat.lt_succ_self _)
  refine hK.out _ _ (by exact ⟨B6, B6'⟩) (fun hHeld => ?_)
  clear hK K
  try simp only [Act.put, List.setIfInBounds_toArray, List.set_cons_zero, List.set_cons_succ]
  refine wpAnyH_take (i := 5) (oi := ud23) (v := (.slice a6 R.length c6)) rfl (by kernel_rfl) (by kernel_rfl) (by kernel_rfl) (fun _ _ _ h => h) (Or.inl ⟨by rfl, ?_⟩) hHeld ?_
  · intro w9 hSw
    try dsimp only at hSw
    go_simp
  try simp only [Act.put, List.setIfInBounds_toArray, List.set_cons_zero, List.set_cons_succ]
  refine wpAnyH_done (by kernel_rfl) ?_ _
  refine NoPanic.normal ?_
  have e0 := B6.cell 0 (.int .i64 sf) rfl
  have OW := owns_le (B' := w.heap.size) (by omega) O6
  have rb := r6.bytes
  clear KB1 KB2 HR f4 f5 O5 O6 B3 B3' B4 B4' B5 B5' B6 B6' b3 b4 b5 hHeld
  go_wp2_with (at_builtin; refine wpList_app2 _ rfl _ _ rfl w.heap.size _ R rfl (OW.alloc _) rb _ 2 [0, pr % 256] rfl ?row (fun hh => by cases hh) R2 HR2.out ?c1 ?c2 ?_)
  case row => exact row_at W6 5 [0, pr % 256] W6.heap.size rfl (by simp) (bytes_two pr)
  case c1 => omega
  case c2 => exact Nat.le_trans b6.size (by simp)
  intro a7 c7 W7 o7 h7 n7 r7 bb _
  have b7 : Below w.heap.size w W7 := (b6.alloc b6.size _).trans bb
  have K7 := rput16_any a7 c7 R2 sz W7 r7 n7 (by omega)
  rw [HL.out] at K7
  have K7 : Hid _ := K7
  clear HL bb OW o7 e0
  go_wp2_with fail
  refine Calls.mono K7.out ?_
  rintro e W8 ⟨a8, c8, rfl, f8⟩
  clear K7
  go_wp2
  go_ret
  exact ⟨a8, c8, rfl, owns_le b7.size f8.owns, f8.room, f8.nil, f8.row, b7.trans (f8.below.mono b7.size)⟩

set_option maxRecDepth 100000 in
set_option maxHeartbeats 4000000 in
theorem rpseudo_6 (sf sh sl df dh dl pr sz : Int) (w : World) (ho : Ad.ok ⟨sf, sh, sl⟩) (ho' : Ad.ok ⟨df, dh, dl⟩) (hE : endsB sf ⟨sf, sh, sl⟩ ⟨df, dh, dl⟩ = true) (h4 : ¬ sf = 4) :
    Calls Try.prog 12 #[.agg #[.int .i64 sf, .int .u64 sh, .int .u64 sl], .agg #[.int .i64 df, .int .u64 dh, .int .u64 dl], .int .i64 pr, .int .i64 sz] w fun e w' => ∃ a c, e = .returned (.slice a (pseudo ⟨sf, sh, sl⟩ ⟨df, dh, dl⟩ pr sz).length c) ∧ Fresh w w' a c (pseudo ⟨sf, sh, sl⟩ ⟨df, dh, dl⟩ pr sz) := by
  obtain ⟨W1, hW1⟩ : ∃ W1, w.alloc (.cells #[.int .i64 sf, .int .u64 sh, .int .u64 sl] 24) = W1 := ⟨_, rfl⟩
  obtain ⟨W2, hW2⟩ : ∃ W2, W1.alloc (.cells #[.int .i64 df, .int .u64 dh, .int .u64 dl] 24) = W2 := ⟨_, rfl⟩
  have b1 : Below w.heap.size w W1 := by rw [← hW1]; exact (Below.refl _ _).alloc (Nat.le_refl _) _
  have b2 : Below w.heap.size w W2 := by rw [← hW2]; exact b1.alloc b1.size _
  have B1' : Blk W1 w.heap.size 24 #[.int .i64 sf, .int .u64 sh, .int .u64 sl] := by rw [← hW1]; exact blk_new _ _ _
  have B1 : Blk W2 w.heap.size 24 #[.int .i64 sf, .int .u64 sh, .int .u64 sl] := by rw [← hW2]; exact B1'.alloc _
  have B2 : Blk W2 W1.heap.size 24 #[.int .i64 df, .int .u64 dh, .int .u64 dl] := by rw [← hW2]; exact blk_new _ _ _
  have g1 : w.heap.size < W1.heap.size := B1'.lt
  have s2 : W2.heap.size = W1.heap.size + 1 := by rw [← hW2]; simp
  clear B1'
  have c0 := B1.cell 0 (.int .i64 sf) rfl
  have c1 := B1.cell 1 (.int .u64 sh) rfl
  have c2 := B1.cell 2 (.int .u64 sl) rfl
  have d0 := B2.cell 0 (.int .i64 df) rfl
  have d1 := B2.cell 1 (.int .u64 dh) rfl
  have d2 := B2.cell 2 (.int .u64 dl) rfl
  have K0 := rEnds_any sf sf sh sl df dh dl W2 ho.2.2.1 ho'.2.2.1
  rw [hE] at K0
  have K0 : Hid _ := K0
  obtain ⟨L, hL⟩ : ∃ L, pseudo ⟨sf, sh, sl⟩ ⟨df, dh, dl⟩ pr sz = L := ⟨_, rfl⟩
  rw [hL]
  unfold pseudo at hL
  rw [hE] at hL
  have hr1 : Ad.right ⟨sf, sh, sl⟩ = true := ((endsB_iff _ _ _).1 hE).1
  have hr2 : Ad.right ⟨df, dh, dl⟩ = true := ((endsB_iff _ _ _).1 hE).2.1
  rw [if_pos rfl] at hL
  unfold pseudoL at hL
  obtain ⟨SB, hSB⟩ : ∃ x, Ad.bytes ⟨sf, sh, sl⟩ = x := ⟨_, rfl⟩
  obtain ⟨DB, hDB⟩ : ∃ x, Ad.bytes ⟨df, dh, dl⟩ = x := ⟨_, rfl⟩
  obtain ⟨R, hR⟩ : ∃ x, SB ++ DB = x := ⟨_, rfl⟩
  have lR : R.length ≤ 32 := by
    have h1 := Ad.bytes_le ⟨sf, sh, sl⟩
    have h2 := Ad.bytes_le ⟨df, dh, dl⟩
    rw [hSB] at h1
    rw [hDB] at h2
    rw [← hR, List.length_append]
    omega
  have KB1 : Hid (∀ W, Calls Try.prog 29 #[.agg #[.int .i64 sf, .int .u64 sh, .int .u64 sl]] W fun e w' => ∃ a c, e = .returned (.slice a SB.length c) ∧ Fresh W w' a c SB) := fun W => by
    have := rbytes_right sf sh sl W ho hr1
    rw [hSB] at this
    exact this
  have KB2 : Hid (∀ W, Calls Try.prog 29 #[.agg #[.int .i64 df, .int .u64 dh, .int .u64 dl]] W fun e w' => ∃ a c, e = .returned (.slice a DB.length c) ∧ Fresh W w' a c DB) := fun W => by
    have := rbytes_right df dh dl W ho' hr2
    rw [hDB] at this
    exact this
  rw [hSB, hDB, hR] at hL
  have HR : Hid (SB ++ DB = R) := hR
  clear hR hSB hDB hE hr1 hr2
  rw [if_neg h4] at hL
  obtain ⟨R2, hR2⟩ : ∃ x, put32 R (sz % 4294967296) = x := ⟨_, rfl⟩
  rw [hR2] at hL
  have lR2 : R2.length ≤ 36 := by rw [← hR2]; simp [put32]; omega
  have K32 : Hid (∀ W a c, Row W a R → (a = none → c = 0) → Calls Try.prog 31 #[.slice a R.length c, .int .u32 (sz % 4294967296)] W fun e w' => ∃ a' c', e = .returned (.slice a' R2.length c') ∧ Fresh W w' a' c' R2) := fun W a c hr hn => by
    have := rput32_any a c R (sz % 4294967296) W hr hn (by omega) (by omega)
    rw [hR2] at this
    exact this
  have HL : Hid (R2 ++ [0, 0, 0, pr % 256] = L) := hL
  have lL : L.length ≤ 40 := by rw [← hL]; simp; omega
  have wu := wrapU8 pr
  have wz := wrapU32 sz
  have h4' : (sf == 4) = false := by simpa using h4
  clear hR2 hL h4
  go_enter Try.func12, Try.ntmps12
  go_wp2_with fail
  refine Calls.mono K0.out ?_
  rintro e W3 ⟨rfl, bb⟩
  have b3 : Below w.heap.size w W3 := b2.trans (bb.mono b2.size)
  have B3 := B1.kept bb
  have B3' := B2.kept bb
  clear K0 bb B1 B2 b2 hW1 hW2 c0 c1 c2 d0 d1 d2
  go_wp2_with fail
  refine wp_region_noPanic ?_
  refine wp_region_held_drew (S := fun w' => Blk w' w.heap.size 24 #[.int .i64 sf, .int .u64 sh, .int .u64 sl] ∧ Blk w' W1.heap.size 24 #[.int .i64 df, .int .u64 dh, .int .u64 dl]) (by kernel_rfl) (by exact ⟨B3.drew, B3'.drew⟩) (fun hHeld => ?_)
  refine wpAnyH_take (i := 0) (oi := ud42) (v := (.agg #[.int .i64 sf, .int .u64 sh, .int .u64 sl])) rfl (by kernel_rfl) (by kernel_rfl) (by kernel_rfl) (fun _ _ _ h => h) (yieldsIf_blk rfl _ _ rfl w.heap.size (by rfl) _ (fun _ hSw => hSw.1) Try.underlying24 (by kernel_rfl)) hHeld ?_
  try simp only [Act.put, List.setIfInBounds_toArray, List.set_cons_zero, List.set_cons_succ]
  refine wpAnyH_take (i := 2) (oi := ud43) (v := (.agg #[.int .i64 df, .int .u64 dh, .int .u64 dl])) rfl (by kernel_rfl) (by kernel_rfl) (by kernel_rfl) (fun _ _ _ h => h) (yieldsIf_blk rfl _ _ rfl W1.heap.size (by rfl) _ (fun _ hSw => hSw.2) Try.underlying24 (by kernel_rfl)) hHeld ?_
  try simp only [Act.put, List.setIfInBounds_toArray, List.set_cons_zero, List.set_cons_succ]
  refine wpAnyH_ready (rs := [1]) (by kernel_rfl) (by simp) ?_
  refine AllReadyH.cons (o := ud32) rfl (fun K hK => ?_) AllReadyH.nil
  go_simp
  refine Calls.mono (KB1.out _) ?_
  rintro e W4 ⟨a4, c4, rfl, f4⟩
  have B4 := B3.drew.kept f4.below
  have B4' := B3'.drew.kept f4.below
  have b4 : Below w.heap.size w W4 := b3.drew.trans (f4.below.mono b3.drew.size)
  refine hK.out _ _ ?_ (fun hHeld => ?_)
  · exact ⟨B4, B4'⟩
  clear hK K
  try simp only [Act.put, List.setIfInBounds_toArray, List.set_cons_zero, List.set_cons_succ]
  refine wpAnyH_ready (rs := [3]) (by kernel_rfl) (by simp) ?_
  refine AllReadyH.cons (o := ud30) rfl (fun K hK => ?_) AllReadyH.nil
  go_simp
  refine Calls.mono (KB2.out _) ?_
  rintro e W5 ⟨a5, c5, rfl, f5⟩
  have B5 := B4.kept f5.below
  have B5' := B4'.kept f5.below
  have b5 : Below w.heap.size w W5 := b4.trans (f5.below.mono b4.size)
  have lt5 : W1.heap.size < W5.heap.size := B5'.lt
  have lt3 : W1.heap.size < W3.heap.size := B3'.lt
  have O5 := owns_le (B' := W1.heap.size + 1) (show W1.heap.size + 1 ≤ W3.drew.heap.size from lt3) (f4.owns.below f5.below)
  refine hK.out _ _ ?_ (fun hHeld => ?_)
  · exact ⟨B5, B5'⟩
  clear hK K
  try simp only [Act.put, List.setIfInBounds_toArray, List.set_cons_zero, List.set_cons_succ]
  refine wpAnyH_ready (rs := [4]) (by kernel_rfl) (by simp) ?_
  refine AllReadyH.cons (o := ud24) rfl (fun K hK => ?_) AllReadyH.nil
  refine step_app2 _ rfl _ _ rfl (W1.heap.size + 1) _ SB rfl O5 f4.row.bytes a5 DB.length c5 DB (by rfl) rfl f5.row f5.nil R HR.out (by omega) lt5 ?_
  intro a6 c6 W6 O6 rm6 nl6 r6 bb
  have b6 : Below w.heap.size w W6 := b5.trans (bb.mono (by omega))
  have B6 := B5.below bb (by omega)
  have B6' := B5'.below bb (Nat.lt_succ_self _)
  refine hK.out _ _ (by exact ⟨B6, B6'⟩) (fun hHeld => ?_)
  clear hK K
  try simp only [Act.put, List.setIfInBounds_toArray, List.set_cons_zero, List.set_cons_succ]
  refine wpAnyH_take (i := 5) (oi := ud23) (v := (.slice a6 R.length c6)) rfl (by kernel_rfl) (by kernel_rfl) (by kernel_rfl) (fun _ _ _ h => h) (Or.inl ⟨by rfl, ?_⟩) hHeld ?_
  · intro w9 hSw
    try dsimp only at hSw
    go_simp
  try simp only [Act.put, List.setIfInBounds_toArray, List.set_cons_zero, List.set_cons_succ]
  refine wpAnyH_done (by kernel_rfl) ?_ _
  refine NoPanic.normal ?_
  have e0 := B6.cell 0 (.int .i64 sf) rfl
  have n6 := nl6
  clear KB1 KB2 HR f4 f5 O5 O6 B3 B3' B4 B4' B5 B5' B6 B6' b3 b4 b5 hHeld
  go_wp2_with fail
  refine Calls.mono (K32.out _ a6 c6 r6 n6) ?_
  rintro e W7 ⟨a7, c7, rfl, f7⟩
  have b7 : Below w.heap.size w W7 := b6.trans (f7.below.mono b6.size)
  have OW := owns_le b6.size f7.owns
  have rb := f7.row.bytes
  clear K32 f7 r6 n6 b6 e0
  go_wp2_with (at_builtin; refine wpList_app2 _ rfl _ _ rfl w.heap.size _ R2 rfl (OW.alloc _) rb _ 4 [0, 0, 0, pr % 256] rfl ?row (fun hh => by cases hh) L HL.out ?c1 ?c2 ?_)
  case row => exact row_at W7 5 [0, 0, 0, pr % 256] W7.heap.size rfl (by simp) (bytes_four pr)
  case c1 => omega
  case c2 => exact Nat.le_trans b7.size (by simp)
  intro a8 c8 W8 o8 h8 n8 r8 bb _
  have b8 : Below w.heap.size w W8 := (b7.alloc b7.size _).trans bb
  go_wp2
  go_ret
  exact ⟨a8, c8, rfl, o8, h8, n8, r8, b8⟩

theorem rpseudo_any (sf sh sl df dh dl pr sz : Int) (w : World) (ho : Ad.ok ⟨sf, sh, sl⟩) (ho' : Ad.ok ⟨df, dh, dl⟩) :
    Calls Try.prog 12 #[.agg #[.int .i64 sf, .int .u64 sh, .int .u64 sl], .agg #[.int .i64 df, .int .u64 dh, .int .u64 dl], .int .i64 pr, .int .i64 sz] w fun e w' => ∃ a c, e = .returned (.slice a (pseudo ⟨sf, sh, sl⟩ ⟨df, dh, dl⟩ pr sz).length c) ∧ Fresh w w' a c (pseudo ⟨sf, sh, sl⟩ ⟨df, dh, dl⟩ pr sz) := by
  cases hE : endsB sf ⟨sf, sh, sl⟩ ⟨df, dh, dl⟩ with
  | false => exact rpseudo_no sf sh sl df dh dl pr sz w ho ho' hE
  | true =>
    by_cases h4 : sf = 4
    · exact rpseudo_4 sf sh sl df dh dl pr sz w ho ho' hE h4
    · exact rpseudo_6 sf sh sl df dh dl pr sz w ho ho' hE h4

end Go.Proofs.Ytgdpcomcndidcaa

namespace Go.Proofs.Ytgdpcomcndidcaa
open Go.RowKit
set_option linter.unusedVariables false
set_option linter.unusedSimpArgs false

theorem rIn_any (n m : Int) (w : World) : Calls Try.prog 66 #[.int .i64 n, .int .i64 m] w fun e w' => e = .returned (.bool (!(badN m n))) ∧ w' = w := by
  go_enter Try.func66, Try.ntmps66
  by_cases h : 0 ≤ n
  · go_wp2
    go_ret
    exact ⟨retB (by unfold badN; by_cases hm : n ≤ m <;> by_cases hn : n < 0 <;> simp [hm, hn] <;> omega), rfl⟩
  · go_wp2
    go_ret
    exact ⟨retB (by unfold badN; by_cases hm : n ≤ m <;> by_cases hn : n < 0 <;> simp [hm, hn] <;> omega), rfl⟩
theorem rIcmp_any (f : Int) (w : World) : Calls Try.prog 36 #[.int .i64 f] w fun e w' => e = .returned (.int .i64 (icmpOf f)) ∧ w' = w := by
  go_enter Try.func36, Try.ntmps36
  go_wp2_with fail
  all_goals (go_ret; exact ⟨ret_int (by unfold icmpOf; simp_all), rfl⟩)
theorem may_eq (x : Sg) : mayB x = (endsB x.t.fam x.t.s x.t.d && (protoB x && (!(badN 65535 x.t.sp) && (!(badN 65535 x.t.dp) && (!(badN 65535 x.wn) && (!(badN 255 x.ty) && (!(badN 255 x.cd) && (!(badN 63 x.fl) && decide (x.data.length ≤ 65000))))))))) := by
  unfold mayB numB upB
  simp only [List.any_cons, List.any_nil]
  cases badN 65535 x.t.sp <;> cases badN 65535 x.t.dp <;> cases badN 65535 x.wn <;> cases badN 255 x.ty <;> cases badN 255 x.cd <;> cases badN 63 x.fl <;> simp

set_option maxRecDepth 100000 in
set_option maxHeartbeats 4000000 in
theorem rMay_a (x : Sg) (a : Option Addr) (c : Nat) (w : World) (ok : x.ok) (hdl : x.data.length ≤ 140737488355328) (hE : endsB x.t.fam x.t.s x.t.d = false) :
    Calls Try.prog 44 #[.agg #[.int .i64 x.t.fam, .int .i64 x.t.pr, .int .i64 x.t.s.fam, .int .u64 x.t.s.hi, .int .u64 x.t.s.lo, .int .i64 x.t.d.fam, .int .u64 x.t.d.hi, .int .u64 x.t.d.lo, .int .i64 x.t.sp, .int .i64 x.t.dp, .int .i64 x.fl, .int .u32 x.sq, .int .u32 x.ak, .int .i64 x.wn, .int .i64 x.ty, .int .i64 x.cd, .bool x.er, .int .i64 x.inn.fam, .int .i64 x.inn.pr, .int .i64 x.inn.s.fam, .int .u64 x.inn.s.hi, .int .u64 x.inn.s.lo, .int .i64 x.inn.d.fam, .int .u64 x.inn.d.hi, .int .u64 x.inn.d.lo, .int .i64 x.inn.sp, .int .i64 x.inn.dp, .slice a x.data.length c]] w fun e w' => e = .returned (.bool (mayB x)) ∧ Below w.heap.size w w' := by
  have HM : Hid (mayB x = (endsB x.t.fam x.t.s x.t.d && (protoB x && (!(badN 65535 x.t.sp) && (!(badN 65535 x.t.dp) && (!(badN 65535 x.wn) && (!(badN 255 x.ty) && (!(badN 255 x.cd) && (!(badN 63 x.fl) && decide (x.data.length ≤ 65000)))))))))) := may_eq x
  obtain ⟨MB, hMB⟩ : ∃ b, mayB x = b := ⟨_, rfl⟩
  rw [hMB] at HM ⊢
  clear hMB
  obtain ⟨W1, hW1⟩ : ∃ W1, w.alloc (.cells #[.int .i64 x.t.fam, .int .i64 x.t.pr, .int .i64 x.t.s.fam, .int .u64 x.t.s.hi, .int .u64 x.t.s.lo, .int .i64 x.t.d.fam, .int .u64 x.t.d.hi, .int .u64 x.t.d.lo, .int .i64 x.t.sp, .int .i64 x.t.dp, .int .i64 x.fl, .int .u32 x.sq, .int .u32 x.ak, .int .i64 x.wn, .int .i64 x.ty, .int .i64 x.cd, .bool x.er, .int .i64 x.inn.fam, .int .i64 x.inn.pr, .int .i64 x.inn.s.fam, .int .u64 x.inn.s.hi, .int .u64 x.inn.s.lo, .int .i64 x.inn.d.fam, .int .u64 x.inn.d.hi, .int .u64 x.inn.d.lo, .int .i64 x.inn.sp, .int .i64 x.inn.dp, .slice a x.data.length c] 38) = W1 := ⟨_, rfl⟩
  have b1 : Below w.heap.size w W1 := by rw [← hW1]; exact (Below.refl _ _).alloc (Nat.le_refl _) _
  have B1 : Blk W1 w.heap.size 38 #[.int .i64 x.t.fam, .int .i64 x.t.pr, .int .i64 x.t.s.fam, .int .u64 x.t.s.hi, .int .u64 x.t.s.lo, .int .i64 x.t.d.fam, .int .u64 x.t.d.hi, .int .u64 x.t.d.lo, .int .i64 x.t.sp, .int .i64 x.t.dp, .int .i64 x.fl, .int .u32 x.sq, .int .u32 x.ak, .int .i64 x.wn, .int .i64 x.ty, .int .i64 x.cd, .bool x.er, .int .i64 x.inn.fam, .int .i64 x.inn.pr, .int .i64 x.inn.s.fam, .int .u64 x.inn.s.hi, .int .u64 x.inn.s.lo, .int .i64 x.inn.d.fam, .int .u64 x.inn.d.hi, .int .u64 x.inn.d.lo, .int .i64 x.inn.sp, .int .i64 x.inn.dp, .slice a x.data.length c] := by rw [← hW1]; exact blk_new _ _ _
  have g1 : w.heap.size < W1.heap.size := B1.lt
  obtain ⟨W2, hW2⟩ : ∃ W2, W1.alloc (.cells #[.int .i64 0, .int .i64 0, .int .i64 0, .int .u64 0, .int .u64 0, .int .i64 0, .int .u64 0, .int .u64 0, .int .i64 0, .int .i64 0] 26) = W2 := ⟨_, rfl⟩
  have b2 : Below w.heap.size w W2 := by rw [← hW2]; exact b1.alloc b1.size _
  have B2 : Blk W2 w.heap.size 38 #[.int .i64 x.t.fam, .int .i64 x.t.pr, .int .i64 x.t.s.fam, .int .u64 x.t.s.hi, .int .u64 x.t.s.lo, .int .i64 x.t.d.fam, .int .u64 x.t.d.hi, .int .u64 x.t.d.lo, .int .i64 x.t.sp, .int .i64 x.t.dp, .int .i64 x.fl, .int .u32 x.sq, .int .u32 x.ak, .int .i64 x.wn, .int .i64 x.ty, .int .i64 x.cd, .bool x.er, .int .i64 x.inn.fam, .int .i64 x.inn.pr, .int .i64 x.inn.s.fam, .int .u64 x.inn.s.hi, .int .u64 x.inn.s.lo, .int .i64 x.inn.d.fam, .int .u64 x.inn.d.hi, .int .u64 x.inn.d.lo, .int .i64 x.inn.sp, .int .i64 x.inn.dp, .slice a x.data.length c] := by rw [← hW2]; exact B1.alloc _
  have T2 : Blk W2 W1.heap.size 26 #[.int .i64 0, .int .i64 0, .int .i64 0, .int .u64 0, .int .u64 0, .int .i64 0, .int .u64 0, .int .u64 0, .int .i64 0, .int .i64 0] := by rw [← hW2]; exact blk_new _ _ _
  obtain ⟨W3, hW3⟩ : ∃ W, W2.setRow W1.heap.size #[.int .i64 x.t.fam, .int .i64 x.t.pr, .int .i64 x.t.s.fam, .int .u64 x.t.s.hi, .int .u64 x.t.s.lo, .int .i64 x.t.d.fam, .int .u64 x.t.d.hi, .int .u64 x.t.d.lo, .int .i64 x.t.sp, .int .i64 x.t.dp] = W := ⟨_, rfl⟩
  have b3 : Below w.heap.size w W3 := by rw [← hW3]; exact below_setRow b2 (Nat.le_of_lt g1) _
  have B3 : Blk W3 w.heap.size 38 #[.int .i64 x.t.fam, .int .i64 x.t.pr, .int .i64 x.t.s.fam, .int .u64 x.t.s.hi, .int .u64 x.t.s.lo, .int .i64 x.t.d.fam, .int .u64 x.t.d.hi, .int .u64 x.t.d.lo, .int .i64 x.t.sp, .int .i64 x.t.dp, .int .i64 x.fl, .int .u32 x.sq, .int .u32 x.ak, .int .i64 x.wn, .int .i64 x.ty, .int .i64 x.cd, .bool x.er, .int .i64 x.inn.fam, .int .i64 x.inn.pr, .int .i64 x.inn.s.fam, .int .u64 x.inn.s.hi, .int .u64 x.inn.s.lo, .int .i64 x.inn.d.fam, .int .u64 x.inn.d.hi, .int .u64 x.inn.d.lo, .int .i64 x.inn.sp, .int .i64 x.inn.dp, .slice a x.data.length c] := by rw [← hW3]; exact B2.other (by omega) _
  have T3 : Blk W3 W1.heap.size 26 #[.int .i64 x.t.fam, .int .i64 x.t.pr, .int .i64 x.t.s.fam, .int .u64 x.t.s.hi, .int .u64 x.t.s.lo, .int .i64 x.t.d.fam, .int .u64 x.t.d.hi, .int .u64 x.t.d.lo, .int .i64 x.t.sp, .int .i64 x.t.dp] := by rw [← hW3]; exact T2.set _
  have HW3 : Hid _ := hW3
  clear hW3
  have KE : Hid (∀ W, Calls Try.prog 28 #[.int .i64 x.t.fam, .agg #[.int .i64 x.t.s.fam, .int .u64 x.t.s.hi, .int .u64 x.t.s.lo], .agg #[.int .i64 x.t.d.fam, .int .u64 x.t.d.hi, .int .u64 x.t.d.lo]] W fun e w' => e = .returned (.bool false) ∧ Below W.heap.size W w') := fun W => by
    have := rEnds_any x.t.fam x.t.s.fam x.t.s.hi x.t.s.lo x.t.d.fam x.t.d.hi x.t.d.lo W ok.s.2.2.1 ok.d.2.2.1
    rw [show endsB x.t.fam ⟨x.t.s.fam, x.t.s.hi, x.t.s.lo⟩ ⟨x.t.d.fam, x.t.d.hi, x.t.d.lo⟩ = false from hE] at this
    exact this
  have HE : Hid (endsB x.t.fam x.t.s x.t.d = false) := hE
  go_enter Try.func44, Try.ntmps44
  go_wp2_with (first
    | (refine wpList_load_sub rfl _ _ rfl w.heap.size 0 38 (by rfl) _ #[.int .i64 x.t.fam, .int .i64 x.t.pr, .int .i64 x.t.s.fam, .int .u64 x.t.s.hi, .int .u64 x.t.s.lo, .int .i64 x.t.d.fam, .int .u64 x.t.d.hi, .int .u64 x.t.d.lo, .int .i64 x.t.sp, .int .i64 x.t.dp] B1 (by rfl) Try.underlying26 (by kernel_rfl) ?_)
    | (refine wpList_store_row rfl _ _ _ rfl W1.heap.size #[.int .i64 x.t.fam, .int .i64 x.t.pr, .int .i64 x.t.s.fam, .int .u64 x.t.s.hi, .int .u64 x.t.s.lo, .int .i64 x.t.d.fam, .int .u64 x.t.d.hi, .int .u64 x.t.d.lo, .int .i64 x.t.sp, .int .i64 x.t.dp] (by rfl) (by rfl) _ _ T2 (by kernel_rfl) (by rfl) (by kernel_rfl) ?_; rw [HW3.out]))
  clear hW1 hW2 HW3 B1 b1 B2 T2 b2
  refine wp_region_noPanic ?_
  refine wp_region_held_drew (S := fun w' => Blk w' W1.heap.size 26 #[.int .i64 x.t.fam, .int .i64 x.t.pr, .int .i64 x.t.s.fam, .int .u64 x.t.s.hi, .int .u64 x.t.s.lo, .int .i64 x.t.d.fam, .int .u64 x.t.d.hi, .int .u64 x.t.d.lo, .int .i64 x.t.sp, .int .i64 x.t.dp] ∧ w'.cell? ⟨W1.heap.size, 0, none⟩ = some (.int .i64 x.t.fam) ∧ w'.cell? ⟨W1.heap.size, 1, none⟩ = some (.int .i64 x.t.pr)) (by kernel_rfl) (by exact ⟨T3.drew, T3.drew.cell 0 _ rfl, T3.drew.cell 1 _ rfl⟩) (fun hHeld => ?_)
  refine wpAnyH_take (i := 0) (oi := ud27) (v := (.pointer (some ⟨W1.heap.size, 0, none⟩))) rfl (by kernel_rfl) (by kernel_rfl) (by kernel_rfl) (fun _ _ _ h => h) (Or.inl ⟨by rfl, ?_⟩) hHeld ?_
  · intro w9 hSw
    try dsimp only at hSw
    go_simp
  try simp only [Act.put, List.setIfInBounds_toArray, List.set_cons_zero, List.set_cons_succ]
  refine wpAnyH_take (i := 1) (oi := ud22) (v := (.int .i64 x.t.fam)) rfl (by kernel_rfl) (by kernel_rfl) (by kernel_rfl) (fun _ _ _ h => h) (Or.inl ⟨by rfl, ?_⟩) hHeld ?_
  · intro w9 hSw
    try dsimp only at hSw
    go_simp
  try simp only [Act.put, List.setIfInBounds_toArray, List.set_cons_zero, List.set_cons_succ]
  refine wpAnyH_take (i := 2) (oi := ud28) (v := (.pointer (some ⟨W1.heap.size, 2, none⟩))) rfl (by kernel_rfl) (by kernel_rfl) (by kernel_rfl) (fun _ _ _ h => h) (Or.inl ⟨by rfl, ?_⟩) hHeld ?_
  · intro w9 hSw
    try dsimp only at hSw
    go_simp
  try simp only [Act.put, List.setIfInBounds_toArray, List.set_cons_zero, List.set_cons_succ]
  refine wpAnyH_take (i := 3) (oi := ud21) (v := (.agg #[.int .i64 x.t.s.fam, .int .u64 x.t.s.hi, .int .u64 x.t.s.lo])) rfl (by kernel_rfl) (by kernel_rfl) (by kernel_rfl) (fun _ _ _ h => h) (yieldsIf_sub rfl _ _ rfl W1.heap.size 2 26 (by rfl) _ _ (fun _ hSw => hSw.1) (by rfl) Try.underlying24 (by kernel_rfl)) hHeld ?_
  try simp only [Act.put, List.setIfInBounds_toArray, List.set_cons_zero, List.set_cons_succ]
  refine wpAnyH_take (i := 4) (oi := ud26) (v := (.pointer (some ⟨W1.heap.size, 5, none⟩))) rfl (by kernel_rfl) (by kernel_rfl) (by kernel_rfl) (fun _ _ _ h => h) (Or.inl ⟨by rfl, ?_⟩) hHeld ?_
  · intro w9 hSw
    try dsimp only at hSw
    go_simp
  try simp only [Act.put, List.setIfInBounds_toArray, List.set_cons_zero, List.set_cons_succ]
  refine wpAnyH_take (i := 5) (oi := ud20) (v := (.agg #[.int .i64 x.t.d.fam, .int .u64 x.t.d.hi, .int .u64 x.t.d.lo])) rfl (by kernel_rfl) (by kernel_rfl) (by kernel_rfl) (fun _ _ _ h => h) (yieldsIf_sub rfl _ _ rfl W1.heap.size 5 26 (by rfl) _ _ (fun _ hSw => hSw.1) (by rfl) Try.underlying24 (by kernel_rfl)) hHeld ?_
  try simp only [Act.put, List.setIfInBounds_toArray, List.set_cons_zero, List.set_cons_succ]
  refine wpAnyH_ready (rs := [6]) (by kernel_rfl) (by simp) ?_
  refine AllReadyH.cons (o := ud0) rfl (fun K hK => ?_) AllReadyH.nil
  go_simp
  refine Calls.mono (KE.out _) ?_
  rintro e W4 ⟨rfl, bb⟩
  have B4 := B3.drew.kept bb
  have T4 := T3.drew.kept bb
  have b4 : Below w.heap.size w W4 := b3.drew.trans (bb.mono b3.drew.size)
  clear bb
  refine hK.out _ _ ?_ (fun hHeld => ?_)
  · exact ⟨T4, T4.cell 0 _ rfl, T4.cell 1 _ rfl⟩
  clear hK K
  try simp only [Act.put, List.setIfInBounds_toArray, List.set_cons_zero, List.set_cons_succ]
  refine wpAnyH_take (i := 7) (oi := ud19) (v := (.bool true)) rfl (by kernel_rfl) (by kernel_rfl) (by kernel_rfl) (fun _ _ _ h => h) (Or.inl ⟨by rfl, ?_⟩) hHeld ?_
  · intro w9 hSw
    try dsimp only at hSw
    go_simp
  try simp only [Act.put, List.setIfInBounds_toArray, List.set_cons_zero, List.set_cons_succ]
  refine wpAnyH_take (i := 8) (oi := ud14) (v := (.bool true)) rfl (by kernel_rfl) (by kernel_rfl) (by kernel_rfl) (fun _ _ _ h => h) (Or.inl ⟨by rfl, ?_⟩) hHeld ?_
  · intro w9 hSw
    try dsimp only at hSw
    go_simp
  try simp only [Act.put, List.setIfInBounds_toArray, List.set_cons_zero, List.set_cons_succ]
  refine wpAnyH_take (i := 9) (oi := ud18) (v := undef) rfl (by kernel_rfl) (by kernel_rfl) (by kernel_rfl) (fun _ _ _ h => h) (.inr ⟨by kernel_rfl, rfl⟩) hHeld ?_
  try simp only [Act.put, List.setIfInBounds_toArray, List.set_cons_zero, List.set_cons_succ]
  refine wpAnyH_take (i := 10) (oi := ud13) (v := undef) rfl (by kernel_rfl) (by kernel_rfl) (by kernel_rfl) (fun _ _ _ h => h) (.inr ⟨by kernel_rfl, rfl⟩) hHeld ?_
  try simp only [Act.put, List.setIfInBounds_toArray, List.set_cons_zero, List.set_cons_succ]
  refine wpAnyH_take (i := 11) (oi := ud6) (v := undef) rfl (by kernel_rfl) (by kernel_rfl) (by kernel_rfl) (fun _ _ _ h => h) (.inr ⟨by kernel_rfl, rfl⟩) hHeld ?_
  try simp only [Act.put, List.setIfInBounds_toArray, List.set_cons_zero, List.set_cons_succ]
  refine wpAnyH_take (i := 12) (oi := ud8) (v := undef) rfl (by kernel_rfl) (by kernel_rfl) (by kernel_rfl) (fun _ _ _ h => h) (.inr ⟨by kernel_rfl, rfl⟩) hHeld ?_
  try simp only [Act.put, List.setIfInBounds_toArray, List.set_cons_zero, List.set_cons_succ]
  refine wpAnyH_take (i := 13) (oi := ud15) (v := undef) rfl (by kernel_rfl) (by kernel_rfl) (by kernel_rfl) (fun _ _ _ h => h) (.inr ⟨by kernel_rfl, rfl⟩) hHeld ?_
  try simp only [Act.put, List.setIfInBounds_toArray, List.set_cons_zero, List.set_cons_succ]
  refine wpAnyH_take (i := 14) (oi := ud10) (v := undef) rfl (by kernel_rfl) (by kernel_rfl) (by kernel_rfl) (fun _ _ _ h => h) (.inr ⟨by kernel_rfl, rfl⟩) hHeld ?_
  try simp only [Act.put, List.setIfInBounds_toArray, List.set_cons_zero, List.set_cons_succ]
  refine wpAnyH_take (i := 15) (oi := ud5) (v := undef) rfl (by kernel_rfl) (by kernel_rfl) (by kernel_rfl) (fun _ _ _ h => h) (.inr ⟨by kernel_rfl, rfl⟩) hHeld ?_
  try simp only [Act.put, List.setIfInBounds_toArray, List.set_cons_zero, List.set_cons_succ]
  refine wpAnyH_take (i := 16) (oi := ud3) (v := undef) rfl (by kernel_rfl) (by kernel_rfl) (by kernel_rfl) (fun _ _ _ h => h) (.inr ⟨by kernel_rfl, rfl⟩) hHeld ?_
  try simp only [Act.put, List.setIfInBounds_toArray, List.set_cons_zero, List.set_cons_succ]
  refine wpAnyH_take (i := 17) (oi := ud7) (v := undef) rfl (by kernel_rfl) (by kernel_rfl) (by kernel_rfl) (fun _ _ _ h => h) (.inr ⟨by kernel_rfl, rfl⟩) hHeld ?_
  try simp only [Act.put, List.setIfInBounds_toArray, List.set_cons_zero, List.set_cons_succ]
  refine wpAnyH_take (i := 18) (oi := ud16) (v := undef) rfl (by kernel_rfl) (by kernel_rfl) (by kernel_rfl) (fun _ _ _ h => h) (.inr ⟨by kernel_rfl, rfl⟩) hHeld ?_
  try simp only [Act.put, List.setIfInBounds_toArray, List.set_cons_zero, List.set_cons_succ]
  refine wpAnyH_take (i := 19) (oi := ud11) (v := undef) rfl (by kernel_rfl) (by kernel_rfl) (by kernel_rfl) (fun _ _ _ h => h) (.inr ⟨by kernel_rfl, rfl⟩) hHeld ?_
  try simp only [Act.put, List.setIfInBounds_toArray, List.set_cons_zero, List.set_cons_succ]
  refine wpAnyH_take (i := 20) (oi := ud17) (v := undef) rfl (by kernel_rfl) (by kernel_rfl) (by kernel_rfl) (fun _ _ _ h => h) (.inr ⟨by kernel_rfl, rfl⟩) hHeld ?_
  try simp only [Act.put, List.setIfInBounds_toArray, List.set_cons_zero, List.set_cons_succ]
  refine wpAnyH_take (i := 21) (oi := ud12) (v := undef) rfl (by kernel_rfl) (by kernel_rfl) (by kernel_rfl) (fun _ _ _ h => h) (.inr ⟨by kernel_rfl, rfl⟩) hHeld ?_
  try simp only [Act.put, List.setIfInBounds_toArray, List.set_cons_zero, List.set_cons_succ]
  refine wpAnyH_take (i := 22) (oi := ud1) (v := undef) rfl (by kernel_rfl) (by kernel_rfl) (by kernel_rfl) (fun _ _ _ h => h) (.inr ⟨by kernel_rfl, rfl⟩) hHeld ?_
  try simp only [Act.put, List.setIfInBounds_toArray, List.set_cons_zero, List.set_cons_succ]
  refine wpAnyH_take (i := 23) (oi := ud2) (v := undef) rfl (by kernel_rfl) (by kernel_rfl) (by kernel_rfl) (fun _ _ _ h => h) (.inr ⟨by kernel_rfl, rfl⟩) hHeld ?_
  try simp only [Act.put, List.setIfInBounds_toArray, List.set_cons_zero, List.set_cons_succ]
  refine wpAnyH_take (i := 24) (oi := ud4) (v := undef) rfl (by kernel_rfl) (by kernel_rfl) (by kernel_rfl) (fun _ _ _ h => h) (.inr ⟨by kernel_rfl, rfl⟩) hHeld ?_
  try simp only [Act.put, List.setIfInBounds_toArray, List.set_cons_zero, List.set_cons_succ]
  refine wpAnyH_take (i := 25) (oi := ud9) (v := (.bool true)) rfl (by kernel_rfl) (by kernel_rfl) (by kernel_rfl) (fun _ _ _ h => h) (Or.inl ⟨by rfl, ?_⟩) hHeld ?_
  · intro w9 hSw
    try dsimp only at hSw
    go_simp
  try simp only [Act.put, List.setIfInBounds_toArray, List.set_cons_zero, List.set_cons_succ]
  refine wpAnyH_done (by kernel_rfl) ?_ _
  refine NoPanic.normal ?_
  go_wp2
  go_ret
  exact ⟨retB (by rw [HM.out, HE.out]; rfl), b4⟩

set_option maxRecDepth 100000 in
set_option maxHeartbeats 4000000 in
theorem rMay_6 (x : Sg) (a : Option Addr) (c : Nat) (w : World) (ok : x.ok) (hdl : x.data.length ≤ 140737488355328) (hE : endsB x.t.fam x.t.s x.t.d = true) (h6 : x.t.pr = 6) :
    Calls Try.prog 44 #[.agg #[.int .i64 x.t.fam, .int .i64 x.t.pr, .int .i64 x.t.s.fam, .int .u64 x.t.s.hi, .int .u64 x.t.s.lo, .int .i64 x.t.d.fam, .int .u64 x.t.d.hi, .int .u64 x.t.d.lo, .int .i64 x.t.sp, .int .i64 x.t.dp, .int .i64 x.fl, .int .u32 x.sq, .int .u32 x.ak, .int .i64 x.wn, .int .i64 x.ty, .int .i64 x.cd, .bool x.er, .int .i64 x.inn.fam, .int .i64 x.inn.pr, .int .i64 x.inn.s.fam, .int .u64 x.inn.s.hi, .int .u64 x.inn.s.lo, .int .i64 x.inn.d.fam, .int .u64 x.inn.d.hi, .int .u64 x.inn.d.lo, .int .i64 x.inn.sp, .int .i64 x.inn.dp, .slice a x.data.length c]] w fun e w' => e = .returned (.bool (mayB x)) ∧ Below w.heap.size w w' := by
  have HM : Hid (mayB x = (endsB x.t.fam x.t.s x.t.d && (protoB x && (!(badN 65535 x.t.sp) && (!(badN 65535 x.t.dp) && (!(badN 65535 x.wn) && (!(badN 255 x.ty) && (!(badN 255 x.cd) && (!(badN 63 x.fl) && decide (x.data.length ≤ 65000)))))))))) := may_eq x
  obtain ⟨MB, hMB⟩ : ∃ b, mayB x = b := ⟨_, rfl⟩
  rw [hMB] at HM ⊢
  clear hMB
  obtain ⟨W1, hW1⟩ : ∃ W1, w.alloc (.cells #[.int .i64 x.t.fam, .int .i64 x.t.pr, .int .i64 x.t.s.fam, .int .u64 x.t.s.hi, .int .u64 x.t.s.lo, .int .i64 x.t.d.fam, .int .u64 x.t.d.hi, .int .u64 x.t.d.lo, .int .i64 x.t.sp, .int .i64 x.t.dp, .int .i64 x.fl, .int .u32 x.sq, .int .u32 x.ak, .int .i64 x.wn, .int .i64 x.ty, .int .i64 x.cd, .bool x.er, .int .i64 x.inn.fam, .int .i64 x.inn.pr, .int .i64 x.inn.s.fam, .int .u64 x.inn.s.hi, .int .u64 x.inn.s.lo, .int .i64 x.inn.d.fam, .int .u64 x.inn.d.hi, .int .u64 x.inn.d.lo, .int .i64 x.inn.sp, .int .i64 x.inn.dp, .slice a x.data.length c] 38) = W1 := ⟨_, rfl⟩
  have b1 : Below w.heap.size w W1 := by rw [← hW1]; exact (Below.refl _ _).alloc (Nat.le_refl _) _
  have B1 : Blk W1 w.heap.size 38 #[.int .i64 x.t.fam, .int .i64 x.t.pr, .int .i64 x.t.s.fam, .int .u64 x.t.s.hi, .int .u64 x.t.s.lo, .int .i64 x.t.d.fam, .int .u64 x.t.d.hi, .int .u64 x.t.d.lo, .int .i64 x.t.sp, .int .i64 x.t.dp, .int .i64 x.fl, .int .u32 x.sq, .int .u32 x.ak, .int .i64 x.wn, .int .i64 x.ty, .int .i64 x.cd, .bool x.er, .int .i64 x.inn.fam, .int .i64 x.inn.pr, .int .i64 x.inn.s.fam, .int .u64 x.inn.s.hi, .int .u64 x.inn.s.lo, .int .i64 x.inn.d.fam, .int .u64 x.inn.d.hi, .int .u64 x.inn.d.lo, .int .i64 x.inn.sp, .int .i64 x.inn.dp, .slice a x.data.length c] := by rw [← hW1]; exact blk_new _ _ _
  have g1 : w.heap.size < W1.heap.size := B1.lt
  obtain ⟨W2, hW2⟩ : ∃ W2, W1.alloc (.cells #[.int .i64 0, .int .i64 0, .int .i64 0, .int .u64 0, .int .u64 0, .int .i64 0, .int .u64 0, .int .u64 0, .int .i64 0, .int .i64 0] 26) = W2 := ⟨_, rfl⟩
  have b2 : Below w.heap.size w W2 := by rw [← hW2]; exact b1.alloc b1.size _
  have B2 : Blk W2 w.heap.size 38 #[.int .i64 x.t.fam, .int .i64 x.t.pr, .int .i64 x.t.s.fam, .int .u64 x.t.s.hi, .int .u64 x.t.s.lo, .int .i64 x.t.d.fam, .int .u64 x.t.d.hi, .int .u64 x.t.d.lo, .int .i64 x.t.sp, .int .i64 x.t.dp, .int .i64 x.fl, .int .u32 x.sq, .int .u32 x.ak, .int .i64 x.wn, .int .i64 x.ty, .int .i64 x.cd, .bool x.er, .int .i64 x.inn.fam, .int .i64 x.inn.pr, .int .i64 x.inn.s.fam, .int .u64 x.inn.s.hi, .int .u64 x.inn.s.lo, .int .i64 x.inn.d.fam, .int .u64 x.inn.d.hi, .int .u64 x.inn.d.lo, .int .i64 x.inn.sp, .int .i64 x.inn.dp, .slice a x.data.length c] := by rw [← hW2]; exact B1.alloc _
  have T2 : Blk W2 W1.heap.size 26 #[.int .i64 0, .int .i64 0, .int .i64 0, .int .u64 0, .int .u64 0, .int .i64 0, .int .u64 0, .int .u64 0, .int .i64 0, .int .i64 0] := by rw [← hW2]; exact blk_new _ _ _
  obtain ⟨W3, hW3⟩ : ∃ W, W2.setRow W1.heap.size #[.int .i64 x.t.fam, .int .i64 x.t.pr, .int .i64 x.t.s.fam, .int .u64 x.t.s.hi, .int .u64 x.t.s.lo, .int .i64 x.t.d.fam, .int .u64 x.t.d.hi, .int .u64 x.t.d.lo, .int .i64 x.t.sp, .int .i64 x.t.dp] = W := ⟨_, rfl⟩
  have b3 : Below w.heap.size w W3 := by rw [← hW3]; exact below_setRow b2 (Nat.le_of_lt g1) _
  have B3 : Blk W3 w.heap.size 38 #[.int .i64 x.t.fam, .int .i64 x.t.pr, .int .i64 x.t.s.fam, .int .u64 x.t.s.hi, .int .u64 x.t.s.lo, .int .i64 x.t.d.fam, .int .u64 x.t.d.hi, .int .u64 x.t.d.lo, .int .i64 x.t.sp, .int .i64 x.t.dp, .int .i64 x.fl, .int .u32 x.sq, .int .u32 x.ak, .int .i64 x.wn, .int .i64 x.ty, .int .i64 x.cd, .bool x.er, .int .i64 x.inn.fam, .int .i64 x.inn.pr, .int .i64 x.inn.s.fam, .int .u64 x.inn.s.hi, .int .u64 x.inn.s.lo, .int .i64 x.inn.d.fam, .int .u64 x.inn.d.hi, .int .u64 x.inn.d.lo, .int .i64 x.inn.sp, .int .i64 x.inn.dp, .slice a x.data.length c] := by rw [← hW3]; exact B2.other (by omega) _
  have T3 : Blk W3 W1.heap.size 26 #[.int .i64 x.t.fam, .int .i64 x.t.pr, .int .i64 x.t.s.fam, .int .u64 x.t.s.hi, .int .u64 x.t.s.lo, .int .i64 x.t.d.fam, .int .u64 x.t.d.hi, .int .u64 x.t.d.lo, .int .i64 x.t.sp, .int .i64 x.t.dp] := by rw [← hW3]; exact T2.set _
  have HW3 : Hid _ := hW3
  clear hW3
  have KE : Hid (∀ W, Calls Try.prog 28 #[.int .i64 x.t.fam, .agg #[.int .i64 x.t.s.fam, .int .u64 x.t.s.hi, .int .u64 x.t.s.lo], .agg #[.int .i64 x.t.d.fam, .int .u64 x.t.d.hi, .int .u64 x.t.d.lo]] W fun e w' => e = .returned (.bool true) ∧ Below W.heap.size W w') := fun W => by
    have := rEnds_any x.t.fam x.t.s.fam x.t.s.hi x.t.s.lo x.t.d.fam x.t.d.hi x.t.d.lo W ok.s.2.2.1 ok.d.2.2.1
    rw [show endsB x.t.fam ⟨x.t.s.fam, x.t.s.hi, x.t.s.lo⟩ ⟨x.t.d.fam, x.t.d.hi, x.t.d.lo⟩ = true from hE] at this
    exact this
  have hP : protoB x = true := by unfold protoB; rw [h6]; rfl
  have HE : Hid (endsB x.t.fam x.t.s x.t.d = true) := hE
  have HPr : Hid (protoB x = true) := hP
  have h6' : (x.t.pr != 6) = false := by simpa using h6
  clear h6 hE hP
  go_enter Try.func44, Try.ntmps44
  go_wp2_with (first
    | (refine wpList_load_sub rfl _ _ rfl w.heap.size 0 38 (by rfl) _ #[.int .i64 x.t.fam, .int .i64 x.t.pr, .int .i64 x.t.s.fam, .int .u64 x.t.s.hi, .int .u64 x.t.s.lo, .int .i64 x.t.d.fam, .int .u64 x.t.d.hi, .int .u64 x.t.d.lo, .int .i64 x.t.sp, .int .i64 x.t.dp] B1 (by rfl) Try.underlying26 (by kernel_rfl) ?_)
    | (refine wpList_store_row rfl _ _ _ rfl W1.heap.size #[.int .i64 x.t.fam, .int .i64 x.t.pr, .int .i64 x.t.s.fam, .int .u64 x.t.s.hi, .int .u64 x.t.s.lo, .int .i64 x.t.d.fam, .int .u64 x.t.d.hi, .int .u64 x.t.d.lo, .int .i64 x.t.sp, .int .i64 x.t.dp] (by rfl) (by rfl) _ _ T2 (by kernel_rfl) (by rfl) (by kernel_rfl) ?_; rw [HW3.out]))
  clear hW1 hW2 HW3 B1 b1 B2 T2 b2
  refine wp_region_noPanic ?_
  refine wp_region_held_drew (S := fun w' => Blk w' W1.heap.size 26 #[.int .i64 x.t.fam, .int .i64 x.t.pr, .int .i64 x.t.s.fam, .int .u64 x.t.s.hi, .int .u64 x.t.s.lo, .int .i64 x.t.d.fam, .int .u64 x.t.d.hi, .int .u64 x.t.d.lo, .int .i64 x.t.sp, .int .i64 x.t.dp] ∧ w'.cell? ⟨W1.heap.size, 0, none⟩ = some (.int .i64 x.t.fam) ∧ w'.cell? ⟨W1.heap.size, 1, none⟩ = some (.int .i64 x.t.pr)) (by kernel_rfl) (by exact ⟨T3.drew, T3.drew.cell 0 _ rfl, T3.drew.cell 1 _ rfl⟩) (fun hHeld => ?_)
  refine wpAnyH_take (i := 0) (oi := ud27) (v := (.pointer (some ⟨W1.heap.size, 0, none⟩))) rfl (by kernel_rfl) (by kernel_rfl) (by kernel_rfl) (fun _ _ _ h => h) (Or.inl ⟨by rfl, ?_⟩) hHeld ?_
  · intro w9 hSw
    try dsimp only at hSw
    go_simp
  try simp only [Act.put, List.setIfInBounds_toArray, List.set_cons_zero, List.set_cons_succ]
  refine wpAnyH_take (i := 1) (oi := ud22) (v := (.int .i64 x.t.fam)) rfl (by kernel_rfl) (by kernel_rfl) (by kernel_rfl) (fun _ _ _ h => h) (Or.inl ⟨by rfl, ?_⟩) hHeld ?_
  · intro w9 hSw
    try dsimp only at hSw
    go_simp
  try simp only [Act.put, List.setIfInBounds_toArray, List.set_cons_zero, List.set_cons_succ]
  refine wpAnyH_take (i := 2) (oi := ud28) (v := (.pointer (some ⟨W1.heap.size, 2, none⟩))) rfl (by kernel_rfl) (by kernel_rfl) (by kernel_rfl) (fun _ _ _ h => h) (Or.inl ⟨by rfl, ?_⟩) hHeld ?_
  · intro w9 hSw
    try dsimp only at hSw
    go_simp
  try simp only [Act.put, List.setIfInBounds_toArray, List.set_cons_zero, List.set_cons_succ]
  refine wpAnyH_take (i := 3) (oi := ud21) (v := (.agg #[.int .i64 x.t.s.fam, .int .u64 x.t.s.hi, .int .u64 x.t.s.lo])) rfl (by kernel_rfl) (by kernel_rfl) (by kernel_rfl) (fun _ _ _ h => h) (yieldsIf_sub rfl _ _ rfl W1.heap.size 2 26 (by rfl) _ _ (fun _ hSw => hSw.1) (by rfl) Try.underlying24 (by kernel_rfl)) hHeld ?_
  try simp only [Act.put, List.setIfInBounds_toArray, List.set_cons_zero, List.set_cons_succ]
  refine wpAnyH_take (i := 4) (oi := ud26) (v := (.pointer (some ⟨W1.heap.size, 5, none⟩))) rfl (by kernel_rfl) (by kernel_rfl) (by kernel_rfl) (fun _ _ _ h => h) (Or.inl ⟨by rfl, ?_⟩) hHeld ?_
  · intro w9 hSw
    try dsimp only at hSw
    go_simp
  try simp only [Act.put, List.setIfInBounds_toArray, List.set_cons_zero, List.set_cons_succ]
  refine wpAnyH_take (i := 5) (oi := ud20) (v := (.agg #[.int .i64 x.t.d.fam, .int .u64 x.t.d.hi, .int .u64 x.t.d.lo])) rfl (by kernel_rfl) (by kernel_rfl) (by kernel_rfl) (fun _ _ _ h => h) (yieldsIf_sub rfl _ _ rfl W1.heap.size 5 26 (by rfl) _ _ (fun _ hSw => hSw.1) (by rfl) Try.underlying24 (by kernel_rfl)) hHeld ?_
  try simp only [Act.put, List.setIfInBounds_toArray, List.set_cons_zero, List.set_cons_succ]
  refine wpAnyH_ready (rs := [6]) (by kernel_rfl) (by simp) ?_
  refine AllReadyH.cons (o := ud0) rfl (fun K hK => ?_) AllReadyH.nil
  go_simp
  refine Calls.mono (KE.out _) ?_
  rintro e W4 ⟨rfl, bb⟩
  have B4 := B3.drew.kept bb
  have T4 := T3.drew.kept bb
  have b4 : Below w.heap.size w W4 := b3.drew.trans (bb.mono b3.drew.size)
  clear bb
  refine hK.out _ _ ?_ (fun hHeld => ?_)
  · exact ⟨T4, T4.cell 0 _ rfl, T4.cell 1 _ rfl⟩
  clear hK K
  try simp only [Act.put, List.setIfInBounds_toArray, List.set_cons_zero, List.set_cons_succ]
  refine wpAnyH_take (i := 7) (oi := ud19) (v := (.bool false)) rfl (by kernel_rfl) (by kernel_rfl) (by kernel_rfl) (fun _ _ _ h => h) (Or.inl ⟨by rfl, ?_⟩) hHeld ?_
  · intro w9 hSw
    try dsimp only at hSw
    go_simp
  try simp only [Act.put, List.setIfInBounds_toArray, List.set_cons_zero, List.set_cons_succ]
  refine wpAnyH_take (i := 8) (oi := ud14) (v := (.bool false)) rfl (by kernel_rfl) (by kernel_rfl) (by kernel_rfl) (fun _ _ _ h => h) (Or.inl ⟨by rfl, ?_⟩) hHeld ?_
  · intro w9 hSw
    try dsimp only at hSw
    go_simp
  try simp only [Act.put, List.setIfInBounds_toArray, List.set_cons_zero, List.set_cons_succ]
  refine wpAnyH_take (i := 9) (oi := ud18) (v := (.pointer (some ⟨W1.heap.size, 1, none⟩))) rfl (by kernel_rfl) (by kernel_rfl) (by kernel_rfl) (fun _ _ _ h => h) (Or.inl ⟨by rfl, ?_⟩) hHeld ?_
  · intro w9 hSw
    try dsimp only at hSw
    go_simp
  try simp only [Act.put, List.setIfInBounds_toArray, List.set_cons_zero, List.set_cons_succ]
  refine wpAnyH_take (i := 10) (oi := ud13) (v := (.int .i64 x.t.pr)) rfl (by kernel_rfl) (by kernel_rfl) (by kernel_rfl) (fun _ _ _ h => h) (Or.inl ⟨by rfl, ?_⟩) hHeld ?_
  · intro w9 hSw
    try dsimp only at hSw
    go_simp
  try simp only [Act.put, List.setIfInBounds_toArray, List.set_cons_zero, List.set_cons_succ]
  refine wpAnyH_take (i := 11) (oi := ud6) (v := (.bool false)) rfl (by kernel_rfl) (by kernel_rfl) (by kernel_rfl) (fun _ _ _ h => h) (Or.inl ⟨by rfl, ?_⟩) hHeld ?_
  · intro w9 hSw
    try dsimp only at hSw
    go_simp
  try simp only [Act.put, List.setIfInBounds_toArray, List.set_cons_zero, List.set_cons_succ]
  refine wpAnyH_take (i := 12) (oi := ud8) (v := (.bool false)) rfl (by kernel_rfl) (by kernel_rfl) (by kernel_rfl) (fun _ _ _ h => h) (Or.inl ⟨by rfl, ?_⟩) hHeld ?_
  · intro w9 hSw
    try dsimp only at hSw
    go_simp
  try simp only [Act.put, List.setIfInBounds_toArray, List.set_cons_zero, List.set_cons_succ]
  refine wpAnyH_take (i := 13) (oi := ud15) (v := undef) rfl (by kernel_rfl) (by kernel_rfl) (by kernel_rfl) (fun _ _ _ h => h) (.inr ⟨by kernel_rfl, rfl⟩) hHeld ?_
  try simp only [Act.put, List.setIfInBounds_toArray, List.set_cons_zero, List.set_cons_succ]
  refine wpAnyH_take (i := 14) (oi := ud10) (v := undef) rfl (by kernel_rfl) (by kernel_rfl) (by kernel_rfl) (fun _ _ _ h => h) (.inr ⟨by kernel_rfl, rfl⟩) hHeld ?_
  try simp only [Act.put, List.setIfInBounds_toArray, List.set_cons_zero, List.set_cons_succ]
  refine wpAnyH_take (i := 15) (oi := ud5) (v := undef) rfl (by kernel_rfl) (by kernel_rfl) (by kernel_rfl) (fun _ _ _ h => h) (.inr ⟨by kernel_rfl, rfl⟩) hHeld ?_
  try simp only [Act.put, List.setIfInBounds_toArray, List.set_cons_zero, List.set_cons_succ]
  refine wpAnyH_take (i := 16) (oi := ud3) (v := (.bool false)) rfl (by kernel_rfl) (by kernel_rfl) (by kernel_rfl) (fun _ _ _ h => h) (Or.inl ⟨by rfl, ?_⟩) hHeld ?_
  · intro w9 hSw
    try dsimp only at hSw
    go_simp
  try simp only [Act.put, List.setIfInBounds_toArray, List.set_cons_zero, List.set_cons_succ]
  refine wpAnyH_take (i := 17) (oi := ud7) (v := (.bool false)) rfl (by kernel_rfl) (by kernel_rfl) (by kernel_rfl) (fun _ _ _ h => h) (Or.inl ⟨by rfl, ?_⟩) hHeld ?_
  · intro w9 hSw
    try dsimp only at hSw
    go_simp
  try simp only [Act.put, List.setIfInBounds_toArray, List.set_cons_zero, List.set_cons_succ]
  refine wpAnyH_take (i := 18) (oi := ud16) (v := undef) rfl (by kernel_rfl) (by kernel_rfl) (by kernel_rfl) (fun _ _ _ h => h) (.inr ⟨by kernel_rfl, rfl⟩) hHeld ?_
  try simp only [Act.put, List.setIfInBounds_toArray, List.set_cons_zero, List.set_cons_succ]
  refine wpAnyH_take (i := 19) (oi := ud11) (v := undef) rfl (by kernel_rfl) (by kernel_rfl) (by kernel_rfl) (fun _ _ _ h => h) (.inr ⟨by kernel_rfl, rfl⟩) hHeld ?_
  try simp only [Act.put, List.setIfInBounds_toArray, List.set_cons_zero, List.set_cons_succ]
  refine wpAnyH_take (i := 20) (oi := ud17) (v := undef) rfl (by kernel_rfl) (by kernel_rfl) (by kernel_rfl) (fun _ _ _ h => h) (.inr ⟨by kernel_rfl, rfl⟩) hHeld ?_
  try simp only [Act.put, List.setIfInBounds_toArray, List.set_cons_zero, List.set_cons_succ]
  refine wpAnyH_take (i := 21) (oi := ud12) (v := undef) rfl (by kernel_rfl) (by kernel_rfl) (by kernel_rfl) (fun _ _ _ h => h) (.inr ⟨by kernel_rfl, rfl⟩) hHeld ?_
  try simp only [Act.put, List.setIfInBounds_toArray, List.set_cons_zero, List.set_cons_succ]
  refine wpAnyH_take (i := 22) (oi := ud1) (v := undef) rfl (by kernel_rfl) (by kernel_rfl) (by kernel_rfl) (fun _ _ _ h => h) (.inr ⟨by kernel_rfl, rfl⟩) hHeld ?_
  try simp only [Act.put, List.setIfInBounds_toArray, List.set_cons_zero, List.set_cons_succ]
  refine wpAnyH_take (i := 23) (oi := ud2) (v := undef) rfl (by kernel_rfl) (by kernel_rfl) (by kernel_rfl) (fun _ _ _ h => h) (.inr ⟨by kernel_rfl, rfl⟩) hHeld ?_
  try simp only [Act.put, List.setIfInBounds_toArray, List.set_cons_zero, List.set_cons_succ]
  refine wpAnyH_take (i := 24) (oi := ud4) (v := (.bool false)) rfl (by kernel_rfl) (by kernel_rfl) (by kernel_rfl) (fun _ _ _ h => h) (Or.inl ⟨by rfl, ?_⟩) hHeld ?_
  · intro w9 hSw
    try dsimp only at hSw
    go_simp
  try simp only [Act.put, List.setIfInBounds_toArray, List.set_cons_zero, List.set_cons_succ]
  refine wpAnyH_take (i := 25) (oi := ud9) (v := (.bool false)) rfl (by kernel_rfl) (by kernel_rfl) (by kernel_rfl) (fun _ _ _ h => h) (Or.inl ⟨by rfl, ?_⟩) hHeld ?_
  · intro w9 hSw
    try dsimp only at hSw
    go_simp
  try simp only [Act.put, List.setIfInBounds_toArray, List.set_cons_zero, List.set_cons_succ]
  refine wpAnyH_done (by kernel_rfl) ?_ _
  refine NoPanic.normal ?_
  clear KE hHeld B3 T3 b3
  have e8 := T4.cell 8 (.int .i64 x.t.sp) rfl
  have e9 := T4.cell 9 (.int .i64 x.t.dp) rfl
  have f10 := B4.cell 10 (.int .i64 x.fl) rfl
  have f13 := B4.cell 13 (.int .i64 x.wn) rfl
  have f14 := B4.cell 14 (.int .i64 x.ty) rfl
  have f15 := B4.cell 15 (.int .i64 x.cd) rfl
  have f27 := B4.cell 27 (.slice a x.data.length c) rfl
  have K_sp : Hid (∀ W, Calls Try.prog 66 #[.int .i64 x.t.sp, .int .i64 65535] W _) := fun W => rIn_any x.t.sp 65535 W
  have K_dp : Hid (∀ W, Calls Try.prog 66 #[.int .i64 x.t.dp, .int .i64 65535] W _) := fun W => rIn_any x.t.dp 65535 W
  have K_wn : Hid (∀ W, Calls Try.prog 66 #[.int .i64 x.wn, .int .i64 65535] W _) := fun W => rIn_any x.wn 65535 W
  have K_ty : Hid (∀ W, Calls Try.prog 66 #[.int .i64 x.ty, .int .i64 255] W _) := fun W => rIn_any x.ty 255 W
  have K_cd : Hid (∀ W, Calls Try.prog 66 #[.int .i64 x.cd, .int .i64 255] W _) := fun W => rIn_any x.cd 255 W
  have K_fl : Hid (∀ W, Calls Try.prog 66 #[.int .i64 x.fl, .int .i64 63] W _) := fun W => rIn_any x.fl 63 W
  generalize (badN 65535 x.t.sp) = i_sp at *
  generalize (badN 65535 x.t.dp) = i_dp at *
  generalize (badN 65535 x.wn) = i_wn at *
  generalize (badN 255 x.ty) = i_ty at *
  generalize (badN 255 x.cd) = i_cd at *
  generalize (badN 63 x.fl) = i_fl at *
  clear B4 T4
  go_wp2_with fail
  refine Calls.mono (K_sp.out _) ?_
  rintro e W5 ⟨rfl, hW5⟩
  rw [hW5]
  clear hW5 W5 K_sp
  cases i_sp with
  | true =>
    go_wp2
    go_ret
    exact ⟨retB (by rw [HM.out]; simp), b4⟩
  | false =>
    go_wp2_with fail
    refine Calls.mono (K_dp.out _) ?_
    rintro e W5 ⟨rfl, hW5⟩
    rw [hW5]
    clear hW5 W5 K_dp
    cases i_dp with
    | true =>
      go_wp2
      go_ret
      exact ⟨retB (by rw [HM.out]; simp), b4⟩
    | false =>
      go_wp2_with fail
      refine Calls.mono (K_wn.out _) ?_
      rintro e W5 ⟨rfl, hW5⟩
      rw [hW5]
      clear hW5 W5 K_wn
      cases i_wn with
      | true =>
        go_wp2
        go_ret
        exact ⟨retB (by rw [HM.out]; simp), b4⟩
      | false =>
        go_wp2_with fail
        refine Calls.mono (K_ty.out _) ?_
        rintro e W5 ⟨rfl, hW5⟩
        rw [hW5]
        clear hW5 W5 K_ty
        cases i_ty with
        | true =>
          go_wp2
          go_ret
          exact ⟨retB (by rw [HM.out]; simp), b4⟩
        | false =>
          go_wp2_with fail
          refine Calls.mono (K_cd.out _) ?_
          rintro e W5 ⟨rfl, hW5⟩
          rw [hW5]
          clear hW5 W5 K_cd
          cases i_cd with
          | true =>
            go_wp2
            go_ret
            exact ⟨retB (by rw [HM.out]; simp), b4⟩
          | false =>
            go_wp2_with fail
            refine Calls.mono (K_fl.out _) ?_
            rintro e W5 ⟨rfl, hW5⟩
            rw [hW5]
            clear hW5 W5 K_fl
            cases i_fl with
            | true =>
              go_wp2
              go_ret
              exact ⟨retB (by rw [HM.out]; simp), b4⟩
            | false =>
              by_cases hL : x.data.length ≤ 65000
              · have hL' : (x.data.length : Int) ≤ 65000 := by omega
                go_wp2
                go_ret
                exact ⟨retB (by rw [HM.out, HE.out, HPr.out]; simp [hL]), b4⟩
              · have hL' : ¬ (x.data.length : Int) ≤ 65000 := by omega
                go_wp2
                go_ret
                exact ⟨retB (by rw [HM.out, HE.out, HPr.out]; simp [hL]; try omega), b4⟩

set_option maxRecDepth 100000 in
set_option maxHeartbeats 4000000 in
theorem rMay_17 (x : Sg) (a : Option Addr) (c : Nat) (w : World) (ok : x.ok) (hdl : x.data.length ≤ 140737488355328) (hE : endsB x.t.fam x.t.s x.t.d = true) (h6 : ¬ x.t.pr = 6) (h17 : x.t.pr = 17) :
    Calls Try.prog 44 #[.agg #[.int .i64 x.t.fam, .int .i64 x.t.pr, .int .i64 x.t.s.fam, .int .u64 x.t.s.hi, .int .u64 x.t.s.lo, .int .i64 x.t.d.fam, .int .u64 x.t.d.hi, .int .u64 x.t.d.lo, .int .i64 x.t.sp, .int .i64 x.t.dp, .int .i64 x.fl, .int .u32 x.sq, .int .u32 x.ak, .int .i64 x.wn, .int .i64 x.ty, .int .i64 x.cd, .bool x.er, .int .i64 x.inn.fam, .int .i64 x.inn.pr, .int .i64 x.inn.s.fam, .int .u64 x.inn.s.hi, .int .u64 x.inn.s.lo, .int .i64 x.inn.d.fam, .int .u64 x.inn.d.hi, .int .u64 x.inn.d.lo, .int .i64 x.inn.sp, .int .i64 x.inn.dp, .slice a x.data.length c]] w fun e w' => e = .returned (.bool (mayB x)) ∧ Below w.heap.size w w' := by
  have HM : Hid (mayB x = (endsB x.t.fam x.t.s x.t.d && (protoB x && (!(badN 65535 x.t.sp) && (!(badN 65535 x.t.dp) && (!(badN 65535 x.wn) && (!(badN 255 x.ty) && (!(badN 255 x.cd) && (!(badN 63 x.fl) && decide (x.data.length ≤ 65000)))))))))) := may_eq x
  obtain ⟨MB, hMB⟩ : ∃ b, mayB x = b := ⟨_, rfl⟩
  rw [hMB] at HM ⊢
  clear hMB
  obtain ⟨W1, hW1⟩ : ∃ W1, w.alloc (.cells #[.int .i64 x.t.fam, .int .i64 x.t.pr, .int .i64 x.t.s.fam, .int .u64 x.t.s.hi, .int .u64 x.t.s.lo, .int .i64 x.t.d.fam, .int .u64 x.t.d.hi, .int .u64 x.t.d.lo, .int .i64 x.t.sp, .int .i64 x.t.dp, .int .i64 x.fl, .int .u32 x.sq, .int .u32 x.ak, .int .i64 x.wn, .int .i64 x.ty, .int .i64 x.cd, .bool x.er, .int .i64 x.inn.fam, .int .i64 x.inn.pr, .int .i64 x.inn.s.fam, .int .u64 x.inn.s.hi, .int .u64 x.inn.s.lo, .int .i64 x.inn.d.fam, .int .u64 x.inn.d.hi, .int .u64 x.inn.d.lo, .int .i64 x.inn.sp, .int .i64 x.inn.dp, .slice a x.data.length c] 38) = W1 := ⟨_, rfl⟩
  have b1 : Below w.heap.size w W1 := by rw [← hW1]; exact (Below.refl _ _).alloc (Nat.le_refl _) _
  have B1 : Blk W1 w.heap.size 38 #[.int .i64 x.t.fam, .int .i64 x.t.pr, .int .i64 x.t.s.fam, .int .u64 x.t.s.hi, .int .u64 x.t.s.lo, .int .i64 x.t.d.fam, .int .u64 x.t.d.hi, .int .u64 x.t.d.lo, .int .i64 x.t.sp, .int .i64 x.t.dp, .int .i64 x.fl, .int .u32 x.sq, .int .u32 x.ak, .int .i64 x.wn, .int .i64 x.ty, .int .i64 x.cd, .bool x.er, .int .i64 x.inn.fam, .int .i64 x.inn.pr, .int .i64 x.inn.s.fam, .int .u64 x.inn.s.hi, .int .u64 x.inn.s.lo, .int .i64 x.inn.d.fam, .int .u64 x.inn.d.hi, .int .u64 x.inn.d.lo, .int .i64 x.inn.sp, .int .i64 x.inn.dp, .slice a x.data.length c] := by rw [← hW1]; exact blk_new _ _ _
  have g1 : w.heap.size < W1.heap.size := B1.lt
  obtain ⟨W2, hW2⟩ : ∃ W2, W1.alloc (.cells #[.int .i64 0, .int .i64 0, .int .i64 0, .int .u64 0, .int .u64 0, .int .i64 0, .int .u64 0, .int .u64 0, .int .i64 0, .int .i64 0] 26) = W2 := ⟨_, rfl⟩
  have b2 : Below w.heap.size w W2 := by rw [← hW2]; exact b1.alloc b1.size _
  have B2 : Blk W2 w.heap.size 38 #[.int .i64 x.t.fam, .int .i64 x.t.pr, .int .i64 x.t.s.fam, .int .u64 x.t.s.hi, .int .u64 x.t.s.lo, .int .i64 x.t.d.fam, .int .u64 x.t.d.hi, .int .u64 x.t.d.lo, .int .i64 x.t.sp, .int .i64 x.t.dp, .int .i64 x.fl, .int .u32 x.sq, .int .u32 x.ak, .int .i64 x.wn, .int .i64 x.ty, .int .i64 x.cd, .bool x.er, .int .i64 x.inn.fam, .int .i64 x.inn.pr, .int .i64 x.inn.s.fam, .int .u64 x.inn.s.hi, .int .u64 x.inn.s.lo, .int .i64 x.inn.d.fam, .int .u64 x.inn.d.hi, .int .u64 x.inn.d.lo, .int .i64 x.inn.sp, .int .i64 x.inn.dp, .slice a x.data.length c] := by rw [← hW2]; exact B1.alloc _
  have T2 : Blk W2 W1.heap.size 26 #[.int .i64 0, .int .i64 0, .int .i64 0, .int .u64 0, .int .u64 0, .int .i64 0, .int .u64 0, .int .u64 0, .int .i64 0, .int .i64 0] := by rw [← hW2]; exact blk_new _ _ _
  obtain ⟨W3, hW3⟩ : ∃ W, W2.setRow W1.heap.size #[.int .i64 x.t.fam, .int .i64 x.t.pr, .int .i64 x.t.s.fam, .int .u64 x.t.s.hi, .int .u64 x.t.s.lo, .int .i64 x.t.d.fam, .int .u64 x.t.d.hi, .int .u64 x.t.d.lo, .int .i64 x.t.sp, .int .i64 x.t.dp] = W := ⟨_, rfl⟩
  have b3 : Below w.heap.size w W3 := by rw [← hW3]; exact below_setRow b2 (Nat.le_of_lt g1) _
  have B3 : Blk W3 w.heap.size 38 #[.int .i64 x.t.fam, .int .i64 x.t.pr, .int .i64 x.t.s.fam, .int .u64 x.t.s.hi, .int .u64 x.t.s.lo, .int .i64 x.t.d.fam, .int .u64 x.t.d.hi, .int .u64 x.t.d.lo, .int .i64 x.t.sp, .int .i64 x.t.dp, .int .i64 x.fl, .int .u32 x.sq, .int .u32 x.ak, .int .i64 x.wn, .int .i64 x.ty, .int .i64 x.cd, .bool x.er, .int .i64 x.inn.fam, .int .i64 x.inn.pr, .int .i64 x.inn.s.fam, .int .u64 x.inn.s.hi, .int .u64 x.inn.s.lo, .int .i64 x.inn.d.fam, .int .u64 x.inn.d.hi, .int .u64 x.inn.d.lo, .int .i64 x.inn.sp, .int .i64 x.inn.dp, .slice a x.data.length c] := by rw [← hW3]; exact B2.other (by omega) _
  have T3 : Blk W3 W1.heap.size 26 #[.int .i64 x.t.fam, .int .i64 x.t.pr, .int .i64 x.t.s.fam, .int .u64 x.t.s.hi, .int .u64 x.t.s.lo, .int .i64 x.t.d.fam, .int .u64 x.t.d.hi, .int .u64 x.t.d.lo, .int .i64 x.t.sp, .int .i64 x.t.dp] := by rw [← hW3]; exact T2.set _
  have HW3 : Hid _ := hW3
  clear hW3
  have KE : Hid (∀ W, Calls Try.prog 28 #[.int .i64 x.t.fam, .agg #[.int .i64 x.t.s.fam, .int .u64 x.t.s.hi, .int .u64 x.t.s.lo], .agg #[.int .i64 x.t.d.fam, .int .u64 x.t.d.hi, .int .u64 x.t.d.lo]] W fun e w' => e = .returned (.bool true) ∧ Below W.heap.size W w') := fun W => by
    have := rEnds_any x.t.fam x.t.s.fam x.t.s.hi x.t.s.lo x.t.d.fam x.t.d.hi x.t.d.lo W ok.s.2.2.1 ok.d.2.2.1
    rw [show endsB x.t.fam ⟨x.t.s.fam, x.t.s.hi, x.t.s.lo⟩ ⟨x.t.d.fam, x.t.d.hi, x.t.d.lo⟩ = true from hE] at this
    exact this
  have hP : protoB x = true := by unfold protoB; rw [h17]; rfl
  have HE : Hid (endsB x.t.fam x.t.s x.t.d = true) := hE
  have HPr : Hid (protoB x = true) := hP
  have h6' : (x.t.pr != 6) = true := by simpa using h6
  have h17' : (x.t.pr != 17) = false := by simpa using h17
  clear h6 h17 hE hP
  go_enter Try.func44, Try.ntmps44
  go_wp2_with (first
    | (refine wpList_load_sub rfl _ _ rfl w.heap.size 0 38 (by rfl) _ #[.int .i64 x.t.fam, .int .i64 x.t.pr, .int .i64 x.t.s.fam, .int .u64 x.t.s.hi, .int .u64 x.t.s.lo, .int .i64 x.t.d.fam, .int .u64 x.t.d.hi, .int .u64 x.t.d.lo, .int .i64 x.t.sp, .int .i64 x.t.dp] B1 (by rfl) Try.underlying26 (by kernel_rfl) ?_)
    | (refine wpList_store_row rfl _ _ _ rfl W1.heap.size #[.int .i64 x.t.fam, .int .i64 x.t.pr, .int .i64 x.t.s.fam, .int .u64 x.t.s.hi, .int .u64 x.t.s.lo, .int .i64 x.t.d.fam, .int .u64 x.t.d.hi, .int .u64 x.t.d.lo, .int .i64 x.t.sp, .int .i64 x.t.dp] (by rfl) (by rfl) _ _ T2 (by kernel_rfl) (by rfl) (by kernel_rfl) ?_; rw [HW3.out]))
  clear hW1 hW2 HW3 B1 b1 B2 T2 b2
  refine wp_region_noPanic ?_
  refine wp_region_held_drew (S := fun w' => Blk w' W1.heap.size 26 #[.int .i64 x.t.fam, .int .i64 x.t.pr, .int .i64 x.t.s.fam, .int .u64 x.t.s.hi, .int .u64 x.t.s.lo, .int .i64 x.t.d.fam, .int .u64 x.t.d.hi, .int .u64 x.t.d.lo, .int .i64 x.t.sp, .int .i64 x.t.dp] ∧ w'.cell? ⟨W1.heap.size, 0, none⟩ = some (.int .i64 x.t.fam) ∧ w'.cell? ⟨W1.heap.size, 1, none⟩ = some (.int .i64 x.t.pr)) (by kernel_rfl) (by exact ⟨T3.drew, T3.drew.cell 0 _ rfl, T3.drew.cell 1 _ rfl⟩) (fun hHeld => ?_)
  refine wpAnyH_take (i := 0) (oi := ud27) (v := (.pointer (some ⟨W1.heap.size, 0, none⟩))) rfl (by kernel_rfl) (by kernel_rfl) (by kernel_rfl) (fun _ _ _ h => h) (Or.inl ⟨by rfl, ?_⟩) hHeld ?_
  · intro w9 hSw
    try dsimp only at hSw
    go_simp
  try simp only [Act.put, List.setIfInBounds_toArray, List.set_cons_zero, List.set_cons_succ]
  refine wpAnyH_take (i := 1) (oi := ud22) (v := (.int .i64 x.t.fam)) rfl (by kernel_rfl) (by kernel_rfl) (by kernel_rfl) (fun _ _ _ h => h) (Or.inl ⟨by rfl, ?_⟩) hHeld ?_
  · intro w9 hSw
    try dsimp only at hSw
    go_simp
  try simp only [Act.put, List.setIfInBounds_toArray, List.set_cons_zero, List.set_cons_succ]
  refine wpAnyH_take (i := 2) (oi := ud28) (v := (.pointer (some ⟨W1.heap.size, 2, none⟩))) rfl (by kernel_rfl) (by kernel_rfl) (by kernel_rfl) (fun _ _ _ h => h) (Or.inl ⟨by rfl, ?_⟩) hHeld ?_
  · intro w9 hSw
    try dsimp only at hSw
    go_simp
  try simp only [Act.put, List.setIfInBounds_toArray, List.set_cons_zero, List.set_cons_succ]
  refine wpAnyH_take (i := 3) (oi := ud21) (v := (.agg #[.int .i64 x.t.s.fam, .int .u64 x.t.s.hi, .int .u64 x.t.s.lo])) rfl (by kernel_rfl) (by kernel_rfl) (by kernel_rfl) (fun _ _ _ h => h) (yieldsIf_sub rfl _ _ rfl W1.heap.size 2 26 (by rfl) _ _ (fun _ hSw => hSw.1) (by rfl) Try.underlying24 (by kernel_rfl)) hHeld ?_
  try simp only [Act.put, List.setIfInBounds_toArray, List.set_cons_zero, List.set_cons_succ]
  refine wpAnyH_take (i := 4) (oi := ud26) (v := (.pointer (some ⟨W1.heap.size, 5, none⟩))) rfl (by kernel_rfl) (by kernel_rfl) (by kernel_rfl) (fun _ _ _ h => h) (Or.inl ⟨by rfl, ?_⟩) hHeld ?_
  · intro w9 hSw
    try dsimp only at hSw
    go_simp
  try simp only [Act.put, List.setIfInBounds_toArray, List.set_cons_zero, List.set_cons_succ]
  refine wpAnyH_take (i := 5) (oi := ud20) (v := (.agg #[.int .i64 x.t.d.fam, .int .u64 x.t.d.hi, .int .u64 x.t.d.lo])) rfl (by kernel_rfl) (by kernel_rfl) (by kernel_rfl) (fun _ _ _ h => h) (yieldsIf_sub rfl _ _ rfl W1.heap.size 5 26 (by rfl) _ _ (fun _ hSw => hSw.1) (by rfl) Try.underlying24 (by kernel_rfl)) hHeld ?_
  try simp only [Act.put, List.setIfInBounds_toArray, List.set_cons_zero, List.set_cons_succ]
  refine wpAnyH_ready (rs := [6]) (by kernel_rfl) (by simp) ?_
  refine AllReadyH.cons (o := ud0) rfl (fun K hK => ?_) AllReadyH.nil
  go_simp
  refine Calls.mono (KE.out _) ?_
  rintro e W4 ⟨rfl, bb⟩
  have B4 := B3.drew.kept bb
  have T4 := T3.drew.kept bb
  have b4 : Below w.heap.size w W4 := b3.drew.trans (bb.mono b3.drew.size)
  clear bb
  refine hK.out _ _ ?_ (fun hHeld => ?_)
  · exact ⟨T4, T4.cell 0 _ rfl, T4.cell 1 _ rfl⟩
  clear hK K
  try simp only [Act.put, List.setIfInBounds_toArray, List.set_cons_zero, List.set_cons_succ]
  refine wpAnyH_take (i := 7) (oi := ud19) (v := (.bool false)) rfl (by kernel_rfl) (by kernel_rfl) (by kernel_rfl) (fun _ _ _ h => h) (Or.inl ⟨by rfl, ?_⟩) hHeld ?_
  · intro w9 hSw
    try dsimp only at hSw
    go_simp
  try simp only [Act.put, List.setIfInBounds_toArray, List.set_cons_zero, List.set_cons_succ]
  refine wpAnyH_take (i := 8) (oi := ud14) (v := (.bool false)) rfl (by kernel_rfl) (by kernel_rfl) (by kernel_rfl) (fun _ _ _ h => h) (Or.inl ⟨by rfl, ?_⟩) hHeld ?_
  · intro w9 hSw
    try dsimp only at hSw
    go_simp
  try simp only [Act.put, List.setIfInBounds_toArray, List.set_cons_zero, List.set_cons_succ]
  refine wpAnyH_take (i := 9) (oi := ud18) (v := (.pointer (some ⟨W1.heap.size, 1, none⟩))) rfl (by kernel_rfl) (by kernel_rfl) (by kernel_rfl) (fun _ _ _ h => h) (Or.inl ⟨by rfl, ?_⟩) hHeld ?_
  · intro w9 hSw
    try dsimp only at hSw
    go_simp
  try simp only [Act.put, List.setIfInBounds_toArray, List.set_cons_zero, List.set_cons_succ]
  refine wpAnyH_take (i := 10) (oi := ud13) (v := (.int .i64 x.t.pr)) rfl (by kernel_rfl) (by kernel_rfl) (by kernel_rfl) (fun _ _ _ h => h) (Or.inl ⟨by rfl, ?_⟩) hHeld ?_
  · intro w9 hSw
    try dsimp only at hSw
    go_simp
  try simp only [Act.put, List.setIfInBounds_toArray, List.set_cons_zero, List.set_cons_succ]
  refine wpAnyH_take (i := 11) (oi := ud6) (v := (.bool true)) rfl (by kernel_rfl) (by kernel_rfl) (by kernel_rfl) (fun _ _ _ h => h) (Or.inl ⟨by rfl, ?_⟩) hHeld ?_
  · intro w9 hSw
    try dsimp only at hSw
    go_simp
  try simp only [Act.put, List.setIfInBounds_toArray, List.set_cons_zero, List.set_cons_succ]
  refine wpAnyH_take (i := 12) (oi := ud8) (v := (.bool true)) rfl (by kernel_rfl) (by kernel_rfl) (by kernel_rfl) (fun _ _ _ h => h) (Or.inl ⟨by rfl, ?_⟩) hHeld ?_
  · intro w9 hSw
    try dsimp only at hSw
    go_simp
  try simp only [Act.put, List.setIfInBounds_toArray, List.set_cons_zero, List.set_cons_succ]
  refine wpAnyH_take (i := 13) (oi := ud15) (v := (.pointer (some ⟨W1.heap.size, 1, none⟩))) rfl (by kernel_rfl) (by kernel_rfl) (by kernel_rfl) (fun _ _ _ h => h) (Or.inl ⟨by rfl, ?_⟩) hHeld ?_
  · intro w9 hSw
    try dsimp only at hSw
    go_simp
  try simp only [Act.put, List.setIfInBounds_toArray, List.set_cons_zero, List.set_cons_succ]
  refine wpAnyH_take (i := 14) (oi := ud10) (v := (.int .i64 x.t.pr)) rfl (by kernel_rfl) (by kernel_rfl) (by kernel_rfl) (fun _ _ _ h => h) (Or.inl ⟨by rfl, ?_⟩) hHeld ?_
  · intro w9 hSw
    try dsimp only at hSw
    go_simp
  try simp only [Act.put, List.setIfInBounds_toArray, List.set_cons_zero, List.set_cons_succ]
  refine wpAnyH_take (i := 15) (oi := ud5) (v := (.bool false)) rfl (by kernel_rfl) (by kernel_rfl) (by kernel_rfl) (fun _ _ _ h => h) (Or.inl ⟨by rfl, ?_⟩) hHeld ?_
  · intro w9 hSw
    try dsimp only at hSw
    go_simp
  try simp only [Act.put, List.setIfInBounds_toArray, List.set_cons_zero, List.set_cons_succ]
  refine wpAnyH_take (i := 16) (oi := ud3) (v := (.bool false)) rfl (by kernel_rfl) (by kernel_rfl) (by kernel_rfl) (fun _ _ _ h => h) (Or.inl ⟨by rfl, ?_⟩) hHeld ?_
  · intro w9 hSw
    try dsimp only at hSw
    go_simp
  try simp only [Act.put, List.setIfInBounds_toArray, List.set_cons_zero, List.set_cons_succ]
  refine wpAnyH_take (i := 17) (oi := ud7) (v := (.bool false)) rfl (by kernel_rfl) (by kernel_rfl) (by kernel_rfl) (fun _ _ _ h => h) (Or.inl ⟨by rfl, ?_⟩) hHeld ?_
  · intro w9 hSw
    try dsimp only at hSw
    go_simp
  try simp only [Act.put, List.setIfInBounds_toArray, List.set_cons_zero, List.set_cons_succ]
  refine wpAnyH_take (i := 18) (oi := ud16) (v := undef) rfl (by kernel_rfl) (by kernel_rfl) (by kernel_rfl) (fun _ _ _ h => h) (.inr ⟨by kernel_rfl, rfl⟩) hHeld ?_
  try simp only [Act.put, List.setIfInBounds_toArray, List.set_cons_zero, List.set_cons_succ]
  refine wpAnyH_take (i := 19) (oi := ud11) (v := undef) rfl (by kernel_rfl) (by kernel_rfl) (by kernel_rfl) (fun _ _ _ h => h) (.inr ⟨by kernel_rfl, rfl⟩) hHeld ?_
  try simp only [Act.put, List.setIfInBounds_toArray, List.set_cons_zero, List.set_cons_succ]
  refine wpAnyH_take (i := 20) (oi := ud17) (v := undef) rfl (by kernel_rfl) (by kernel_rfl) (by kernel_rfl) (fun _ _ _ h => h) (.inr ⟨by kernel_rfl, rfl⟩) hHeld ?_
  try simp only [Act.put, List.setIfInBounds_toArray, List.set_cons_zero, List.set_cons_succ]
  refine wpAnyH_take (i := 21) (oi := ud12) (v := undef) rfl (by kernel_rfl) (by kernel_rfl) (by kernel_rfl) (fun _ _ _ h => h) (.inr ⟨by kernel_rfl, rfl⟩) hHeld ?_
  try simp only [Act.put, List.setIfInBounds_toArray, List.set_cons_zero, List.set_cons_succ]
  refine wpAnyH_take (i := 22) (oi := ud1) (v := undef) rfl (by kernel_rfl) (by kernel_rfl) (by kernel_rfl) (fun _ _ _ h => h) (.inr ⟨by kernel_rfl, rfl⟩) hHeld ?_
  try simp only [Act.put, List.setIfInBounds_toArray, List.set_cons_zero, List.set_cons_succ]
  refine wpAnyH_take (i := 23) (oi := ud2) (v := undef) rfl (by kernel_rfl) (by kernel_rfl) (by kernel_rfl) (fun _ _ _ h => h) (.inr ⟨by kernel_rfl, rfl⟩) hHeld ?_
  try simp only [Act.put, List.setIfInBounds_toArray, List.set_cons_zero, List.set_cons_succ]
  refine wpAnyH_take (i := 24) (oi := ud4) (v := (.bool false)) rfl (by kernel_rfl) (by kernel_rfl) (by kernel_rfl) (fun _ _ _ h => h) (Or.inl ⟨by rfl, ?_⟩) hHeld ?_
  · intro w9 hSw
    try dsimp only at hSw
    go_simp
  try simp only [Act.put, List.setIfInBounds_toArray, List.set_cons_zero, List.set_cons_succ]
  refine wpAnyH_take (i := 25) (oi := ud9) (v := (.bool false)) rfl (by kernel_rfl) (by kernel_rfl) (by kernel_rfl) (fun _ _ _ h => h) (Or.inl ⟨by rfl, ?_⟩) hHeld ?_
  · intro w9 hSw
    try dsimp only at hSw
    go_simp
  try simp only [Act.put, List.setIfInBounds_toArray, List.set_cons_zero, List.set_cons_succ]
  refine wpAnyH_done (by kernel_rfl) ?_ _
  refine NoPanic.normal ?_
  clear KE hHeld B3 T3 b3
  have e8 := T4.cell 8 (.int .i64 x.t.sp) rfl
  have e9 := T4.cell 9 (.int .i64 x.t.dp) rfl
  have f10 := B4.cell 10 (.int .i64 x.fl) rfl
  have f13 := B4.cell 13 (.int .i64 x.wn) rfl
  have f14 := B4.cell 14 (.int .i64 x.ty) rfl
  have f15 := B4.cell 15 (.int .i64 x.cd) rfl
  have f27 := B4.cell 27 (.slice a x.data.length c) rfl
  have K_sp : Hid (∀ W, Calls Try.prog 66 #[.int .i64 x.t.sp, .int .i64 65535] W _) := fun W => rIn_any x.t.sp 65535 W
  have K_dp : Hid (∀ W, Calls Try.prog 66 #[.int .i64 x.t.dp, .int .i64 65535] W _) := fun W => rIn_any x.t.dp 65535 W
  have K_wn : Hid (∀ W, Calls Try.prog 66 #[.int .i64 x.wn, .int .i64 65535] W _) := fun W => rIn_any x.wn 65535 W
  have K_ty : Hid (∀ W, Calls Try.prog 66 #[.int .i64 x.ty, .int .i64 255] W _) := fun W => rIn_any x.ty 255 W
  have K_cd : Hid (∀ W, Calls Try.prog 66 #[.int .i64 x.cd, .int .i64 255] W _) := fun W => rIn_any x.cd 255 W
  have K_fl : Hid (∀ W, Calls Try.prog 66 #[.int .i64 x.fl, .int .i64 63] W _) := fun W => rIn_any x.fl 63 W
  generalize (badN 65535 x.t.sp) = i_sp at *
  generalize (badN 65535 x.t.dp) = i_dp at *
  generalize (badN 65535 x.wn) = i_wn at *
  generalize (badN 255 x.ty) = i_ty at *
  generalize (badN 255 x.cd) = i_cd at *
  generalize (badN 63 x.fl) = i_fl at *
  clear B4 T4
  go_wp2_with fail
  refine Calls.mono (K_sp.out _) ?_
  rintro e W5 ⟨rfl, hW5⟩
  rw [hW5]
  clear hW5 W5 K_sp
  cases i_sp with
  | true =>
    go_wp2
    go_ret
    exact ⟨retB (by rw [HM.out]; simp), b4⟩
  | false =>
    go_wp2_with fail
    refine Calls.mono (K_dp.out _) ?_
    rintro e W5 ⟨rfl, hW5⟩
    rw [hW5]
    clear hW5 W5 K_dp
    cases i_dp with
    | true =>
      go_wp2
      go_ret
      exact ⟨retB (by rw [HM.out]; simp), b4⟩
    | false =>
      go_wp2_with fail
      refine Calls.mono (K_wn.out _) ?_
      rintro e W5 ⟨rfl, hW5⟩
      rw [hW5]
      clear hW5 W5 K_wn
      cases i_wn with
      | true =>
        go_wp2
        go_ret
        exact ⟨retB (by rw [HM.out]; simp), b4⟩
      | false =>
        go_wp2_with fail
        refine Calls.mono (K_ty.out _) ?_
        rintro e W5 ⟨rfl, hW5⟩
        rw [hW5]
        clear hW5 W5 K_ty
        cases i_ty with
        | true =>
          go_wp2
          go_ret
          exact ⟨retB (by rw [HM.out]; simp), b4⟩
        | false =>
          go_wp2_with fail
          refine Calls.mono (K_cd.out _) ?_
          rintro e W5 ⟨rfl, hW5⟩
          rw [hW5]
          clear hW5 W5 K_cd
          cases i_cd with
          | true =>
            go_wp2
            go_ret
            exact ⟨retB (by rw [HM.out]; simp), b4⟩
          | false =>
            go_wp2_with fail
            refine Calls.mono (K_fl.out _) ?_
            rintro e W5 ⟨rfl, hW5⟩
            rw [hW5]
            clear hW5 W5 K_fl
            cases i_fl with
            | true =>
              go_wp2
              go_ret
              exact ⟨retB (by rw [HM.out]; simp), b4⟩
            | false =>
              by_cases hL : x.data.length ≤ 65000
              · have hL' : (x.data.length : Int) ≤ 65000 := by omega
                go_wp2
                go_ret
                exact ⟨retB (by rw [HM.out, HE.out, HPr.out]; simp [hL]), b4⟩
              · have hL' : ¬ (x.data.length : Int) ≤ 65000 := by omega
                go_wp2
                go_ret
                exact ⟨retB (by rw [HM.out, HE.out, HPr.out]; simp [hL]; try omega), b4⟩

set_option maxRecDepth 100000 in
set_option maxHeartbeats 4000000 in
theorem rMay_i (x : Sg) (a : Option Addr) (c : Nat) (w : World) (ok : x.ok) (hdl : x.data.length ≤ 140737488355328) (hE : endsB x.t.fam x.t.s x.t.d = true) (h6 : ¬ x.t.pr = 6) (h17 : ¬ x.t.pr = 17) (hi : x.t.pr = icmpOf x.t.fam) :
    Calls Try.prog 44 #[.agg #[.int .i64 x.t.fam, .int .i64 x.t.pr, .int .i64 x.t.s.fam, .int .u64 x.t.s.hi, .int .u64 x.t.s.lo, .int .i64 x.t.d.fam, .int .u64 x.t.d.hi, .int .u64 x.t.d.lo, .int .i64 x.t.sp, .int .i64 x.t.dp, .int .i64 x.fl, .int .u32 x.sq, .int .u32 x.ak, .int .i64 x.wn, .int .i64 x.ty, .int .i64 x.cd, .bool x.er, .int .i64 x.inn.fam, .int .i64 x.inn.pr, .int .i64 x.inn.s.fam, .int .u64 x.inn.s.hi, .int .u64 x.inn.s.lo, .int .i64 x.inn.d.fam, .int .u64 x.inn.d.hi, .int .u64 x.inn.d.lo, .int .i64 x.inn.sp, .int .i64 x.inn.dp, .slice a x.data.length c]] w fun e w' => e = .returned (.bool (mayB x)) ∧ Below w.heap.size w w' := by
  have HM : Hid (mayB x = (endsB x.t.fam x.t.s x.t.d && (protoB x && (!(badN 65535 x.t.sp) && (!(badN 65535 x.t.dp) && (!(badN 65535 x.wn) && (!(badN 255 x.ty) && (!(badN 255 x.cd) && (!(badN 63 x.fl) && decide (x.data.length ≤ 65000)))))))))) := may_eq x
  obtain ⟨MB, hMB⟩ : ∃ b, mayB x = b := ⟨_, rfl⟩
  rw [hMB] at HM ⊢
  clear hMB
  obtain ⟨W1, hW1⟩ : ∃ W1, w.alloc (.cells #[.int .i64 x.t.fam, .int .i64 x.t.pr, .int .i64 x.t.s.fam, .int .u64 x.t.s.hi, .int .u64 x.t.s.lo, .int .i64 x.t.d.fam, .int .u64 x.t.d.hi, .int .u64 x.t.d.lo, .int .i64 x.t.sp, .int .i64 x.t.dp, .int .i64 x.fl, .int .u32 x.sq, .int .u32 x.ak, .int .i64 x.wn, .int .i64 x.ty, .int .i64 x.cd, .bool x.er, .int .i64 x.inn.fam, .int .i64 x.inn.pr, .int .i64 x.inn.s.fam, .int .u64 x.inn.s.hi, .int .u64 x.inn.s.lo, .int .i64 x.inn.d.fam, .int .u64 x.inn.d.hi, .int .u64 x.inn.d.lo, .int .i64 x.inn.sp, .int .i64 x.inn.dp, .slice a x.data.length c] 38) = W1 := ⟨_, rfl⟩
  have b1 : Below w.heap.size w W1 := by rw [← hW1]; exact (Below.refl _ _).alloc (Nat.le_refl _) _
  have B1 : Blk W1 w.heap.size 38 #[.int .i64 x.t.fam, .int .i64 x.t.pr, .int .i64 x.t.s.fam, .int .u64 x.t.s.hi, .int .u64 x.t.s.lo, .int .i64 x.t.d.fam, .int .u64 x.t.d.hi, .int .u64 x.t.d.lo, .int .i64 x.t.sp, .int .i64 x.t.dp, .int .i64 x.fl, .int .u32 x.sq, .int .u32 x.ak, .int .i64 x.wn, .int .i64 x.ty, .int .i64 x.cd, .bool x.er, .int .i64 x.inn.fam, .int .i64 x.inn.pr, .int .i64 x.inn.s.fam, .int .u64 x.inn.s.hi, .int .u64 x.inn.s.lo, .int .i64 x.inn.d.fam, .int .u64 x.inn.d.hi, .int .u64 x.inn.d.lo, .int .i64 x.inn.sp, .int .i64 x.inn.dp, .slice a x.data.length c] := by rw [← hW1]; exact blk_new _ _ _
  have g1 : w.heap.size < W1.heap.size := B1.lt
  obtain ⟨W2, hW2⟩ : ∃ W2, W1.alloc (.cells #[.int .i64 0, .int .i64 0, .int .i64 0, .int .u64 0, .int .u64 0, .int .i64 0, .int .u64 0, .int .u64 0, .int .i64 0, .int .i64 0] 26) = W2 := ⟨_, rfl⟩
  have b2 : Below w.heap.size w W2 := by rw [← hW2]; exact b1.alloc b1.size _
  have B2 : Blk W2 w.heap.size 38 #[.int .i64 x.t.fam, .int .i64 x.t.pr, .int .i64 x.t.s.fam, .int .u64 x.t.s.hi, .int .u64 x.t.s.lo, .int .i64 x.t.d.fam, .int .u64 x.t.d.hi, .int .u64 x.t.d.lo, .int .i64 x.t.sp, .int .i64 x.t.dp, .int .i64 x.fl, .int .u32 x.sq, .int .u32 x.ak, .int .i64 x.wn, .int .i64 x.ty, .int .i64 x.cd, .bool x.er, .int .i64 x.inn.fam, .int .i64 x.inn.pr, .int .i64 x.inn.s.fam, .int .u64 x.inn.s.hi, .int .u64 x.inn.s.lo, .int .i64 x.inn.d.fam, .int .u64 x.inn.d.hi, .int .u64 x.inn.d.lo, .int .i64 x.inn.sp, .int .i64 x.inn.dp, .slice a x.data.length c] := by rw [← hW2]; exact B1.alloc _
  have T2 : Blk W2 W1.heap.size 26 #[.int .i64 0, .int .i64 0, .int .i64 0, .int .u64 0, .int .u64 0, .int .i64 0, .int .u64 0, .int .u64 0, .int .i64 0, .int .i64 0] := by rw [← hW2]; exact blk_new _ _ _
  obtain ⟨W3, hW3⟩ : ∃ W, W2.setRow W1.heap.size #[.int .i64 x.t.fam, .int .i64 x.t.pr, .int .i64 x.t.s.fam, .int .u64 x.t.s.hi, .int .u64 x.t.s.lo, .int .i64 x.t.d.fam, .int .u64 x.t.d.hi, .int .u64 x.t.d.lo, .int .i64 x.t.sp, .int .i64 x.t.dp] = W := ⟨_, rfl⟩
  have b3 : Below w.heap.size w W3 := by rw [← hW3]; exact below_setRow b2 (Nat.le_of_lt g1) _
  have B3 : Blk W3 w.heap.size 38 #[.int .i64 x.t.fam, .int .i64 x.t.pr, .int .i64 x.t.s.fam, .int .u64 x.t.s.hi, .int .u64 x.t.s.lo, .int .i64 x.t.d.fam, .int .u64 x.t.d.hi, .int .u64 x.t.d.lo, .int .i64 x.t.sp, .int .i64 x.t.dp, .int .i64 x.fl, .int .u32 x.sq, .int .u32 x.ak, .int .i64 x.wn, .int .i64 x.ty, .int .i64 x.cd, .bool x.er, .int .i64 x.inn.fam, .int .i64 x.inn.pr, .int .i64 x.inn.s.fam, .int .u64 x.inn.s.hi, .int .u64 x.inn.s.lo, .int .i64 x.inn.d.fam, .int .u64 x.inn.d.hi, .int .u64 x.inn.d.lo, .int .i64 x.inn.sp, .int .i64 x.inn.dp, .slice a x.data.length c] := by rw [← hW3]; exact B2.other (by omega) _
  have T3 : Blk W3 W1.heap.size 26 #[.int .i64 x.t.fam, .int .i64 x.t.pr, .int .i64 x.t.s.fam, .int .u64 x.t.s.hi, .int .u64 x.t.s.lo, .int .i64 x.t.d.fam, .int .u64 x.t.d.hi, .int .u64 x.t.d.lo, .int .i64 x.t.sp, .int .i64 x.t.dp] := by rw [← hW3]; exact T2.set _
  have HW3 : Hid _ := hW3
  clear hW3
  have KE : Hid (∀ W, Calls Try.prog 28 #[.int .i64 x.t.fam, .agg #[.int .i64 x.t.s.fam, .int .u64 x.t.s.hi, .int .u64 x.t.s.lo], .agg #[.int .i64 x.t.d.fam, .int .u64 x.t.d.hi, .int .u64 x.t.d.lo]] W fun e w' => e = .returned (.bool true) ∧ Below W.heap.size W w') := fun W => by
    have := rEnds_any x.t.fam x.t.s.fam x.t.s.hi x.t.s.lo x.t.d.fam x.t.d.hi x.t.d.lo W ok.s.2.2.1 ok.d.2.2.1
    rw [show endsB x.t.fam ⟨x.t.s.fam, x.t.s.hi, x.t.s.lo⟩ ⟨x.t.d.fam, x.t.d.hi, x.t.d.lo⟩ = true from hE] at this
    exact this
  have hP : protoB x = true := by unfold protoB; simp [hi]
  have HE : Hid (endsB x.t.fam x.t.s x.t.d = true) := hE
  have HPr : Hid (protoB x = true) := hP
  have KI : Hid (∀ W, Calls Try.prog 36 #[.int .i64 x.t.fam] W _) := fun W => rIcmp_any x.t.fam W
  have h6' : (x.t.pr != 6) = true := by simpa using h6
  have h17' : (x.t.pr != 17) = true := by simpa using h17
  have hi' : (x.t.pr != icmpOf x.t.fam) = false := by simpa using hi
  generalize icmpOf x.t.fam = I at *
  clear h6 h17 hE hP hi
  go_enter Try.func44, Try.ntmps44
  go_wp2_with (first
    | (refine wpList_load_sub rfl _ _ rfl w.heap.size 0 38 (by rfl) _ #[.int .i64 x.t.fam, .int .i64 x.t.pr, .int .i64 x.t.s.fam, .int .u64 x.t.s.hi, .int .u64 x.t.s.lo, .int .i64 x.t.d.fam, .int .u64 x.t.d.hi, .int .u64 x.t.d.lo, .int .i64 x.t.sp, .int .i64 x.t.dp] B1 (by rfl) Try.underlying26 (by kernel_rfl) ?_)
    | (refine wpList_store_row rfl _ _ _ rfl W1.heap.size #[.int .i64 x.t.fam, .int .i64 x.t.pr, .int .i64 x.t.s.fam, .int .u64 x.t.s.hi, .int .u64 x.t.s.lo, .int .i64 x.t.d.fam, .int .u64 x.t.d.hi, .int .u64 x.t.d.lo, .int .i64 x.t.sp, .int .i64 x.t.dp] (by rfl) (by rfl) _ _ T2 (by kernel_rfl) (by rfl) (by kernel_rfl) ?_; rw [HW3.out]))
  clear hW1 hW2 HW3 B1 b1 B2 T2 b2
  refine wp_region_noPanic ?_
  refine wp_region_held_drew (S := fun w' => Blk w' W1.heap.size 26 #[.int .i64 x.t.fam, .int .i64 x.t.pr, .int .i64 x.t.s.fam, .int .u64 x.t.s.hi, .int .u64 x.t.s.lo, .int .i64 x.t.d.fam, .int .u64 x.t.d.hi, .int .u64 x.t.d.lo, .int .i64 x.t.sp, .int .i64 x.t.dp] ∧ w'.cell? ⟨W1.heap.size, 0, none⟩ = some (.int .i64 x.t.fam) ∧ w'.cell? ⟨W1.heap.size, 1, none⟩ = some (.int .i64 x.t.pr)) (by kernel_rfl) (by exact ⟨T3.drew, T3.drew.cell 0 _ rfl, T3.drew.cell 1 _ rfl⟩) (fun hHeld => ?_)
  refine wpAnyH_take (i := 0) (oi := ud27) (v := (.pointer (some ⟨W1.heap.size, 0, none⟩))) rfl (by kernel_rfl) (by kernel_rfl) (by kernel_rfl) (fun _ _ _ h => h) (Or.inl ⟨by rfl, ?_⟩) hHeld ?_
  · intro w9 hSw
    try dsimp only at hSw
    go_simp
  try simp only [Act.put, List.setIfInBounds_toArray, List.set_cons_zero, List.set_cons_succ]
  refine wpAnyH_take (i := 1) (oi := ud22) (v := (.int .i64 x.t.fam)) rfl (by kernel_rfl) (by kernel_rfl) (by kernel_rfl) (fun _ _ _ h => h) (Or.inl ⟨by rfl, ?_⟩) hHeld ?_
  · intro w9 hSw
    try dsimp only at hSw
    go_simp
  try simp only [Act.put, List.setIfInBounds_toArray, List.set_cons_zero, List.set_cons_succ]
  refine wpAnyH_take (i := 2) (oi := ud28) (v := (.pointer (some ⟨W1.heap.size, 2, none⟩))) rfl (by kernel_rfl) (by kernel_rfl) (by kernel_rfl) (fun _ _ _ h => h) (Or.inl ⟨by rfl, ?_⟩) hHeld ?_
  · intro w9 hSw
    try dsimp only at hSw
    go_simp
  try simp only [Act.put, List.setIfInBounds_toArray, List.set_cons_zero, List.set_cons_succ]
  refine wpAnyH_take (i := 3) (oi := ud21) (v := (.agg #[.int .i64 x.t.s.fam, .int .u64 x.t.s.hi, .int .u64 x.t.s.lo])) rfl (by kernel_rfl) (by kernel_rfl) (by kernel_rfl) (fun _ _ _ h => h) (yieldsIf_sub rfl _ _ rfl W1.heap.size 2 26 (by rfl) _ _ (fun _ hSw => hSw.1) (by rfl) Try.underlying24 (by kernel_rfl)) hHeld ?_
  try simp only [Act.put, List.setIfInBounds_toArray, List.set_cons_zero, List.set_cons_succ]
  refine wpAnyH_take (i := 4) (oi := ud26) (v := (.pointer (some ⟨W1.heap.size, 5, none⟩))) rfl (by kernel_rfl) (by kernel_rfl) (by kernel_rfl) (fun _ _ _ h => h) (Or.inl ⟨by rfl, ?_⟩) hHeld ?_
  · intro w9 hSw
    try dsimp only at hSw
    go_simp
  try simp only [Act.put, List.setIfInBounds_toArray, List.set_cons_zero, List.set_cons_succ]
  refine wpAnyH_take (i := 5) (oi := ud20) (v := (.agg #[.int .i64 x.t.d.fam, .int .u64 x.t.d.hi, .int .u64 x.t.d.lo])) rfl (by kernel_rfl) (by kernel_rfl) (by kernel_rfl) (fun _ _ _ h => h) (yieldsIf_sub rfl _ _ rfl W1.heap.size 5 26 (by rfl) _ _ (fun _ hSw => hSw.1) (by rfl) Try.underlying24 (by kernel_rfl)) hHeld ?_
  try simp only [Act.put, List.setIfInBounds_toArray, List.set_cons_zero, List.set_cons_succ]
  refine wpAnyH_ready (rs := [6]) (by kernel_rfl) (by simp) ?_
  refine AllReadyH.cons (o := ud0) rfl (fun K hK => ?_) AllReadyH.nil
  go_simp
  refine Calls.mono (KE.out _) ?_
  rintro e W4 ⟨rfl, bb⟩
  have B4 := B3.drew.kept bb
  have T4 := T3.drew.kept bb
  have b4 : Below w.heap.size w W4 := b3.drew.trans (bb.mono b3.drew.size)
  clear bb
  refine hK.out _ _ ?_ (fun hHeld => ?_)
  · exact ⟨T4, T4.cell 0 _ rfl, T4.cell 1 _ rfl⟩
  clear hK K
  try simp only [Act.put, List.setIfInBounds_toArray, List.set_cons_zero, List.set_cons_succ]
  refine wpAnyH_take (i := 7) (oi := ud19) (v := (.bool false)) rfl (by kernel_rfl) (by kernel_rfl) (by kernel_rfl) (fun _ _ _ h => h) (Or.inl ⟨by rfl, ?_⟩) hHeld ?_
  · intro w9 hSw
    try dsimp only at hSw
    go_simp
  try simp only [Act.put, List.setIfInBounds_toArray, List.set_cons_zero, List.set_cons_succ]
  refine wpAnyH_take (i := 8) (oi := ud14) (v := (.bool false)) rfl (by kernel_rfl) (by kernel_rfl) (by kernel_rfl) (fun _ _ _ h => h) (Or.inl ⟨by rfl, ?_⟩) hHeld ?_
  · intro w9 hSw
    try dsimp only at hSw
    go_simp
  try simp only [Act.put, List.setIfInBounds_toArray, List.set_cons_zero, List.set_cons_succ]
  refine wpAnyH_take (i := 9) (oi := ud18) (v := (.pointer (some ⟨W1.heap.size, 1, none⟩))) rfl (by kernel_rfl) (by kernel_rfl) (by kernel_rfl) (fun _ _ _ h => h) (Or.inl ⟨by rfl, ?_⟩) hHeld ?_
  · intro w9 hSw
    try dsimp only at hSw
    go_simp
  try simp only [Act.put, List.setIfInBounds_toArray, List.set_cons_zero, List.set_cons_succ]
  refine wpAnyH_take (i := 10) (oi := ud13) (v := (.int .i64 x.t.pr)) rfl (by kernel_rfl) (by kernel_rfl) (by kernel_rfl) (fun _ _ _ h => h) (Or.inl ⟨by rfl, ?_⟩) hHeld ?_
  · intro w9 hSw
    try dsimp only at hSw
    go_simp
  try simp only [Act.put, List.setIfInBounds_toArray, List.set_cons_zero, List.set_cons_succ]
  refine wpAnyH_take (i := 11) (oi := ud6) (v := (.bool true)) rfl (by kernel_rfl) (by kernel_rfl) (by kernel_rfl) (fun _ _ _ h => h) (Or.inl ⟨by rfl, ?_⟩) hHeld ?_
  · intro w9 hSw
    try dsimp only at hSw
    go_simp
  try simp only [Act.put, List.setIfInBounds_toArray, List.set_cons_zero, List.set_cons_succ]
  refine wpAnyH_take (i := 12) (oi := ud8) (v := (.bool true)) rfl (by kernel_rfl) (by kernel_rfl) (by kernel_rfl) (fun _ _ _ h => h) (Or.inl ⟨by rfl, ?_⟩) hHeld ?_
  · intro w9 hSw
    try dsimp only at hSw
    go_simp
  try simp only [Act.put, List.setIfInBounds_toArray, List.set_cons_zero, List.set_cons_succ]
  refine wpAnyH_take (i := 13) (oi := ud15) (v := (.pointer (some ⟨W1.heap.size, 1, none⟩))) rfl (by kernel_rfl) (by kernel_rfl) (by kernel_rfl) (fun _ _ _ h => h) (Or.inl ⟨by rfl, ?_⟩) hHeld ?_
  · intro w9 hSw
    try dsimp only at hSw
    go_simp
  try simp only [Act.put, List.setIfInBounds_toArray, List.set_cons_zero, List.set_cons_succ]
  refine wpAnyH_take (i := 14) (oi := ud10) (v := (.int .i64 x.t.pr)) rfl (by kernel_rfl) (by kernel_rfl) (by kernel_rfl) (fun _ _ _ h => h) (Or.inl ⟨by rfl, ?_⟩) hHeld ?_
  · intro w9 hSw
    try dsimp only at hSw
    go_simp
  try simp only [Act.put, List.setIfInBounds_toArray, List.set_cons_zero, List.set_cons_succ]
  refine wpAnyH_take (i := 15) (oi := ud5) (v := (.bool true)) rfl (by kernel_rfl) (by kernel_rfl) (by kernel_rfl) (fun _ _ _ h => h) (Or.inl ⟨by rfl, ?_⟩) hHeld ?_
  · intro w9 hSw
    try dsimp only at hSw
    go_simp
  try simp only [Act.put, List.setIfInBounds_toArray, List.set_cons_zero, List.set_cons_succ]
  refine wpAnyH_take (i := 16) (oi := ud3) (v := (.bool true)) rfl (by kernel_rfl) (by kernel_rfl) (by kernel_rfl) (fun _ _ _ h => h) (Or.inl ⟨by rfl, ?_⟩) hHeld ?_
  · intro w9 hSw
    try dsimp only at hSw
    go_simp
  try simp only [Act.put, List.setIfInBounds_toArray, List.set_cons_zero, List.set_cons_succ]
  refine wpAnyH_take (i := 17) (oi := ud7) (v := (.bool true)) rfl (by kernel_rfl) (by kernel_rfl) (by kernel_rfl) (fun _ _ _ h => h) (Or.inl ⟨by rfl, ?_⟩) hHeld ?_
  · intro w9 hSw
    try dsimp only at hSw
    go_simp
  try simp only [Act.put, List.setIfInBounds_toArray, List.set_cons_zero, List.set_cons_succ]
  refine wpAnyH_take (i := 18) (oi := ud16) (v := (.pointer (some ⟨W1.heap.size, 1, none⟩))) rfl (by kernel_rfl) (by kernel_rfl) (by kernel_rfl) (fun _ _ _ h => h) (Or.inl ⟨by rfl, ?_⟩) hHeld ?_
  · intro w9 hSw
    try dsimp only at hSw
    go_simp
  try simp only [Act.put, List.setIfInBounds_toArray, List.set_cons_zero, List.set_cons_succ]
  refine wpAnyH_take (i := 19) (oi := ud11) (v := (.int .i64 x.t.pr)) rfl (by kernel_rfl) (by kernel_rfl) (by kernel_rfl) (fun _ _ _ h => h) (Or.inl ⟨by rfl, ?_⟩) hHeld ?_
  · intro w9 hSw
    try dsimp only at hSw
    go_simp
  try simp only [Act.put, List.setIfInBounds_toArray, List.set_cons_zero, List.set_cons_succ]
  refine wpAnyH_take (i := 20) (oi := ud17) (v := (.pointer (some ⟨W1.heap.size, 0, none⟩))) rfl (by kernel_rfl) (by kernel_rfl) (by kernel_rfl) (fun _ _ _ h => h) (Or.inl ⟨by rfl, ?_⟩) hHeld ?_
  · intro w9 hSw
    try dsimp only at hSw
    go_simp
  try simp only [Act.put, List.setIfInBounds_toArray, List.set_cons_zero, List.set_cons_succ]
  refine wpAnyH_take (i := 21) (oi := ud12) (v := (.int .i64 x.t.fam)) rfl (by kernel_rfl) (by kernel_rfl) (by kernel_rfl) (fun _ _ _ h => h) (Or.inl ⟨by rfl, ?_⟩) hHeld ?_
  · intro w9 hSw
    try dsimp only at hSw
    go_simp
  try simp only [Act.put, List.setIfInBounds_toArray, List.set_cons_zero, List.set_cons_succ]
  refine wpAnyH_ready (rs := [22]) (by kernel_rfl) (by simp) ?_
  refine AllReadyH.cons (o := ud1) rfl (fun K hK => ?_) AllReadyH.nil
  go_simp
  refine Calls.mono (KI.out _) ?_
  rintro e W5 ⟨rfl, hW5⟩
  rw [hW5]
  clear hW5 W5
  refine hK.out _ _ ?_ (fun hHeld => ?_)
  · exact ⟨T4, T4.cell 0 _ rfl, T4.cell 1 _ rfl⟩
  clear hK K
  try simp only [Act.put, List.setIfInBounds_toArray, List.set_cons_zero, List.set_cons_succ]
  refine wpAnyH_take (i := 23) (oi := ud2) (v := (.bool false)) rfl (by kernel_rfl) (by kernel_rfl) (by kernel_rfl) (fun _ _ _ h => h) (Or.inl ⟨by rfl, ?_⟩) hHeld ?_
  · intro w9 hSw
    try dsimp only at hSw
    go_simp
  try simp only [Act.put, List.setIfInBounds_toArray, List.set_cons_zero, List.set_cons_succ]
  refine wpAnyH_take (i := 24) (oi := ud4) (v := (.bool false)) rfl (by kernel_rfl) (by kernel_rfl) (by kernel_rfl) (fun _ _ _ h => h) (Or.inl ⟨by rfl, ?_⟩) hHeld ?_
  · intro w9 hSw
    try dsimp only at hSw
    go_simp
  try simp only [Act.put, List.setIfInBounds_toArray, List.set_cons_zero, List.set_cons_succ]
  refine wpAnyH_take (i := 25) (oi := ud9) (v := (.bool false)) rfl (by kernel_rfl) (by kernel_rfl) (by kernel_rfl) (fun _ _ _ h => h) (Or.inl ⟨by rfl, ?_⟩) hHeld ?_
  · intro w9 hSw
    try dsimp only at hSw
    go_simp
  try simp only [Act.put, List.setIfInBounds_toArray, List.set_cons_zero, List.set_cons_succ]
  refine wpAnyH_done (by kernel_rfl) ?_ _
  refine NoPanic.normal ?_
  clear KE hHeld B3 T3 b3
  have e8 := T4.cell 8 (.int .i64 x.t.sp) rfl
  have e9 := T4.cell 9 (.int .i64 x.t.dp) rfl
  have f10 := B4.cell 10 (.int .i64 x.fl) rfl
  have f13 := B4.cell 13 (.int .i64 x.wn) rfl
  have f14 := B4.cell 14 (.int .i64 x.ty) rfl
  have f15 := B4.cell 15 (.int .i64 x.cd) rfl
  have f27 := B4.cell 27 (.slice a x.data.length c) rfl
  have K_sp : Hid (∀ W, Calls Try.prog 66 #[.int .i64 x.t.sp, .int .i64 65535] W _) := fun W => rIn_any x.t.sp 65535 W
  have K_dp : Hid (∀ W, Calls Try.prog 66 #[.int .i64 x.t.dp, .int .i64 65535] W _) := fun W => rIn_any x.t.dp 65535 W
  have K_wn : Hid (∀ W, Calls Try.prog 66 #[.int .i64 x.wn, .int .i64 65535] W _) := fun W => rIn_any x.wn 65535 W
  have K_ty : Hid (∀ W, Calls Try.prog 66 #[.int .i64 x.ty, .int .i64 255] W _) := fun W => rIn_any x.ty 255 W
  have K_cd : Hid (∀ W, Calls Try.prog 66 #[.int .i64 x.cd, .int .i64 255] W _) := fun W => rIn_any x.cd 255 W
  have K_fl : Hid (∀ W, Calls Try.prog 66 #[.int .i64 x.fl, .int .i64 63] W _) := fun W => rIn_any x.fl 63 W
  generalize (badN 65535 x.t.sp) = i_sp at *
  generalize (badN 65535 x.t.dp) = i_dp at *
  generalize (badN 65535 x.wn) = i_wn at *
  generalize (badN 255 x.ty) = i_ty at *
  generalize (badN 255 x.cd) = i_cd at *
  generalize (badN 63 x.fl) = i_fl at *
  clear B4 T4
  go_wp2_with fail
  refine Calls.mono (K_sp.out _) ?_
  rintro e W5 ⟨rfl, hW5⟩
  rw [hW5]
  clear hW5 W5 K_sp
  cases i_sp with
  | true =>
    go_wp2
    go_ret
    exact ⟨retB (by rw [HM.out]; simp), b4⟩
  | false =>
    go_wp2_with fail
    refine Calls.mono (K_dp.out _) ?_
    rintro e W5 ⟨rfl, hW5⟩
    rw [hW5]
    clear hW5 W5 K_dp
    cases i_dp with
    | true =>
      go_wp2
      go_ret
      exact ⟨retB (by rw [HM.out]; simp), b4⟩
    | false =>
      go_wp2_with fail
      refine Calls.mono (K_wn.out _) ?_
      rintro e W5 ⟨rfl, hW5⟩
      rw [hW5]
      clear hW5 W5 K_wn
      cases i_wn with
      | true =>
        go_wp2
        go_ret
        exact ⟨retB (by rw [HM.out]; simp), b4⟩
      | false =>
        go_wp2_with fail
        refine Calls.mono (K_ty.out _) ?_
        rintro e W5 ⟨rfl, hW5⟩
        rw [hW5]
        clear hW5 W5 K_ty
        cases i_ty with
        | true =>
          go_wp2
          go_ret
          exact ⟨retB (by rw [HM.out]; simp), b4⟩
        | false =>
          go_wp2_with fail
          refine Calls.mono (K_cd.out _) ?_
          rintro e W5 ⟨rfl, hW5⟩
          rw [hW5]
          clear hW5 W5 K_cd
          cases i_cd with
          | true =>
            go_wp2
            go_ret
            exact ⟨retB (by rw [HM.out]; simp), b4⟩
          | false =>
            go_wp2_with fail
            refine Calls.mono (K_fl.out _) ?_
            rintro e W5 ⟨rfl, hW5⟩
            rw [hW5]
            clear hW5 W5 K_fl
            cases i_fl with
            | true =>
              go_wp2
              go_ret
              exact ⟨retB (by rw [HM.out]; simp), b4⟩
            | false =>
              by_cases hL : x.data.length ≤ 65000
              · have hL' : (x.data.length : Int) ≤ 65000 := by omega
                go_wp2
                go_ret
                exact ⟨retB (by rw [HM.out, HE.out, HPr.out]; simp [hL]), b4⟩
              · have hL' : ¬ (x.data.length : Int) ≤ 65000 := by omega
                go_wp2
                go_ret
                exact ⟨retB (by rw [HM.out, HE.out, HPr.out]; simp [hL]; try omega), b4⟩

set_option maxRecDepth 100000 in
set_option maxHeartbeats 4000000 in
theorem rMay_n (x : Sg) (a : Option Addr) (c : Nat) (w : World) (ok : x.ok) (hdl : x.data.length ≤ 140737488355328) (hE : endsB x.t.fam x.t.s x.t.d = true) (h6 : ¬ x.t.pr = 6) (h17 : ¬ x.t.pr = 17) (hi : ¬ x.t.pr = icmpOf x.t.fam) :
    Calls Try.prog 44 #[.agg #[.int .i64 x.t.fam, .int .i64 x.t.pr, .int .i64 x.t.s.fam, .int .u64 x.t.s.hi, .int .u64 x.t.s.lo, .int .i64 x.t.d.fam, .int .u64 x.t.d.hi, .int .u64 x.t.d.lo, .int .i64 x.t.sp, .int .i64 x.t.dp, .int .i64 x.fl, .int .u32 x.sq, .int .u32 x.ak, .int .i64 x.wn, .int .i64 x.ty, .int .i64 x.cd, .bool x.er, .int .i64 x.inn.fam, .int .i64 x.inn.pr, .int .i64 x.inn.s.fam, .int .u64 x.inn.s.hi, .int .u64 x.inn.s.lo, .int .i64 x.inn.d.fam, .int .u64 x.inn.d.hi, .int .u64 x.inn.d.lo, .int .i64 x.inn.sp, .int .i64 x.inn.dp, .slice a x.data.length c]] w fun e w' => e = .returned (.bool (mayB x)) ∧ Below w.heap.size w w' := by
  have HM : Hid (mayB x = (endsB x.t.fam x.t.s x.t.d && (protoB x && (!(badN 65535 x.t.sp) && (!(badN 65535 x.t.dp) && (!(badN 65535 x.wn) && (!(badN 255 x.ty) && (!(badN 255 x.cd) && (!(badN 63 x.fl) && decide (x.data.length ≤ 65000)))))))))) := may_eq x
  obtain ⟨MB, hMB⟩ : ∃ b, mayB x = b := ⟨_, rfl⟩
  rw [hMB] at HM ⊢
  clear hMB
  obtain ⟨W1, hW1⟩ : ∃ W1, w.alloc (.cells #[.int .i64 x.t.fam, .int .i64 x.t.pr, .int .i64 x.t.s.fam, .int .u64 x.t.s.hi, .int .u64 x.t.s.lo, .int .i64 x.t.d.fam, .int .u64 x.t.d.hi, .int .u64 x.t.d.lo, .int .i64 x.t.sp, .int .i64 x.t.dp, .int .i64 x.fl, .int .u32 x.sq, .int .u32 x.ak, .int .i64 x.wn, .int .i64 x.ty, .int .i64 x.cd, .bool x.er, .int .i64 x.inn.fam, .int .i64 x.inn.pr, .int .i64 x.inn.s.fam, .int .u64 x.inn.s.hi, .int .u64 x.inn.s.lo, .int .i64 x.inn.d.fam, .int .u64 x.inn.d.hi, .int .u64 x.inn.d.lo, .int .i64 x.inn.sp, .int .i64 x.inn.dp, .slice a x.data.length c] 38) = W1 := ⟨_, rfl⟩
  have b1 : Below w.heap.size w W1 := by rw [← hW1]; exact (Below.refl _ _).alloc (Nat.le_refl _) _
  have B1 : Blk W1 w.heap.size 38 #[.int .i64 x.t.fam, .int .i64 x.t.pr, .int .i64 x.t.s.fam, .int .u64 x.t.s.hi, .int .u64 x.t.s.lo, .int .i64 x.t.d.fam, .int .u64 x.t.d.hi, .int .u64 x.t.d.lo, .int .i64 x.t.sp, .int .i64 x.t.dp, .int .i64 x.fl, .int .u32 x.sq, .int .u32 x.ak, .int .i64 x.wn, .int .i64 x.ty, .int .i64 x.cd, .bool x.er, .int .i64 x.inn.fam, .int .i64 x.inn.pr, .int .i64 x.inn.s.fam, .int .u64 x.inn.s.hi, .int .u64 x.inn.s.lo, .int .i64 x.inn.d.fam, .int .u64 x.inn.d.hi, .int .u64 x.inn.d.lo, .int .i64 x.inn.sp, .int .i64 x.inn.dp, .slice a x.data.length c] := by rw [← hW1]; exact blk_new _ _ _
  have g1 : w.heap.size < W1.heap.size := B1.lt
  obtain ⟨W2, hW2⟩ : ∃ W2, W1.alloc (.cells #[.int .i64 0, .int .i64 0, .int .i64 0, .int .u64 0, .int .u64 0, .int .i64 0, .int .u64 0, .int .u64 0, .int .i64 0, .int .i64 0] 26) = W2 := ⟨_, rfl⟩
  have b2 : Below w.heap.size w W2 := by rw [← hW2]; exact b1.alloc b1.size _
  have B2 : Blk W2 w.heap.size 38 #[.int .i64 x.t.fam, .int .i64 x.t.pr, .int .i64 x.t.s.fam, .int .u64 x.t.s.hi, .int .u64 x.t.s.lo, .int .i64 x.t.d.fam, .int .u64 x.t.d.hi, .int .u64 x.t.d.lo, .int .i64 x.t.sp, .int .i64 x.t.dp, .int .i64 x.fl, .int .u32 x.sq, .int .u32 x.ak, .int .i64 x.wn, .int .i64 x.ty, .int .i64 x.cd, .bool x.er, .int .i64 x.inn.fam, .int .i64 x.inn.pr, .int .i64 x.inn.s.fam, .int .u64 x.inn.s.hi, .int .u64 x.inn.s.lo, .int .i64 x.inn.d.fam, .int .u64 x.inn.d.hi, .int .u64 x.inn.d.lo, .int .i64 x.inn.sp, .int .i64 x.inn.dp, .slice a x.data.length c] := by rw [← hW2]; exact B1.alloc _
  have T2 : Blk W2 W1.heap.size 26 #[.int .i64 0, .int .i64 0, .int .i64 0, .int .u64 0, .int .u64 0, .int .i64 0, .int .u64 0, .int .u64 0, .int .i64 0, .int .i64 0] := by rw [← hW2]; exact blk_new _ _ _
  obtain ⟨W3, hW3⟩ : ∃ W, W2.setRow W1.heap.size #[.int .i64 x.t.fam, .int .i64 x.t.pr, .int .i64 x.t.s.fam, .int .u64 x.t.s.hi, .int .u64 x.t.s.lo, .int .i64 x.t.d.fam, .int .u64 x.t.d.hi, .int .u64 x.t.d.lo, .int .i64 x.t.sp, .int .i64 x.t.dp] = W := ⟨_, rfl⟩
  have b3 : Below w.heap.size w W3 := by rw [← hW3]; exact below_setRow b2 (Nat.le_of_lt g1) _
  have B3 : Blk W3 w.heap.size 38 #[.int .i64 x.t.fam, .int .i64 x.t.pr, .int .i64 x.t.s.fam, .int .u64 x.t.s.hi, .int .u64 x.t.s.lo, .int .i64 x.t.d.fam, .int .u64 x.t.d.hi, .int .u64 x.t.d.lo, .int .i64 x.t.sp, .int .i64 x.t.dp, .int .i64 x.fl, .int .u32 x.sq, .int .u32 x.ak, .int .i64 x.wn, .int .i64 x.ty, .int .i64 x.cd, .bool x.er, .int .i64 x.inn.fam, .int .i64 x.inn.pr, .int .i64 x.inn.s.fam, .int .u64 x.inn.s.hi, .int .u64 x.inn.s.lo, .int .i64 x.inn.d.fam, .int .u64 x.inn.d.hi, .int .u64 x.inn.d.lo, .int .i64 x.inn.sp, .int .i64 x.inn.dp, .slice a x.data.length c] := by rw [← hW3]; exact B2.other (by omega) _
  have T3 : Blk W3 W1.heap.size 26 #[.int .i64 x.t.fam, .int .i64 x.t.pr, .int .i64 x.t.s.fam, .int .u64 x.t.s.hi, .int .u64 x.t.s.lo, .int .i64 x.t.d.fam, .int .u64 x.t.d.hi, .int .u64 x.t.d.lo, .int .i64 x.t.sp, .int .i64 x.t.dp] := by rw [← hW3]; exact T2.set _
  have HW3 : Hid _ := hW3
  clear hW3
  have KE : Hid (∀ W, Calls Try.prog 28 #[.int .i64 x.t.fam, .agg #[.int .i64 x.t.s.fam, .int .u64 x.t.s.hi, .int .u64 x.t.s.lo], .agg #[.int .i64 x.t.d.fam, .int .u64 x.t.d.hi, .int .u64 x.t.d.lo]] W fun e w' => e = .returned (.bool true) ∧ Below W.heap.size W w') := fun W => by
    have := rEnds_any x.t.fam x.t.s.fam x.t.s.hi x.t.s.lo x.t.d.fam x.t.d.hi x.t.d.lo W ok.s.2.2.1 ok.d.2.2.1
    rw [show endsB x.t.fam ⟨x.t.s.fam, x.t.s.hi, x.t.s.lo⟩ ⟨x.t.d.fam, x.t.d.hi, x.t.d.lo⟩ = true from hE] at this
    exact this
  have hP : protoB x = false := by unfold protoB; simp [hi, h6, h17]
  have HPr : Hid (protoB x = false) := hP
  have KI : Hid (∀ W, Calls Try.prog 36 #[.int .i64 x.t.fam] W _) := fun W => rIcmp_any x.t.fam W
  have h6' : (x.t.pr != 6) = true := by simpa using h6
  have h17' : (x.t.pr != 17) = true := by simpa using h17
  have hi' : (x.t.pr != icmpOf x.t.fam) = true := by simpa using hi
  generalize icmpOf x.t.fam = I at *
  clear h6 h17 hE hP hi
  go_enter Try.func44, Try.ntmps44
  go_wp2_with (first
    | (refine wpList_load_sub rfl _ _ rfl w.heap.size 0 38 (by rfl) _ #[.int .i64 x.t.fam, .int .i64 x.t.pr, .int .i64 x.t.s.fam, .int .u64 x.t.s.hi, .int .u64 x.t.s.lo, .int .i64 x.t.d.fam, .int .u64 x.t.d.hi, .int .u64 x.t.d.lo, .int .i64 x.t.sp, .int .i64 x.t.dp] B1 (by rfl) Try.underlying26 (by kernel_rfl) ?_)
    | (refine wpList_store_row rfl _ _ _ rfl W1.heap.size #[.int .i64 x.t.fam, .int .i64 x.t.pr, .int .i64 x.t.s.fam, .int .u64 x.t.s.hi, .int .u64 x.t.s.lo, .int .i64 x.t.d.fam, .int .u64 x.t.d.hi, .int .u64 x.t.d.lo, .int .i64 x.t.sp, .int .i64 x.t.dp] (by rfl) (by rfl) _ _ T2 (by kernel_rfl) (by rfl) (by kernel_rfl) ?_; rw [HW3.out]))
  clear hW1 hW2 HW3 B1 b1 B2 T2 b2
  refine wp_region_noPanic ?_
  refine wp_region_held_drew (S := fun w' => Blk w' W1.heap.size 26 #[.int .i64 x.t.fam, .int .i64 x.t.pr, .int .i64 x.t.s.fam, .int .u64 x.t.s.hi, .int .u64 x.t.s.lo, .int .i64 x.t.d.fam, .int .u64 x.t.d.hi, .int .u64 x.t.d.lo, .int .i64 x.t.sp, .int .i64 x.t.dp] ∧ w'.cell? ⟨W1.heap.size, 0, none⟩ = some (.int .i64 x.t.fam) ∧ w'.cell? ⟨W1.heap.size, 1, none⟩ = some (.int .i64 x.t.pr)) (by kernel_rfl) (by exact ⟨T3.drew, T3.drew.cell 0 _ rfl, T3.drew.cell 1 _ rfl⟩) (fun hHeld => ?_)
  refine wpAnyH_take (i := 0) (oi := ud27) (v := (.pointer (some ⟨W1.heap.size, 0, none⟩))) rfl (by kernel_rfl) (by kernel_rfl) (by kernel_rfl) (fun _ _ _ h => h) (Or.inl ⟨by rfl, ?_⟩) hHeld ?_
  · intro w9 hSw
    try dsimp only at hSw
    go_simp
  try simp only [Act.put, List.setIfInBounds_toArray, List.set_cons_zero, List.set_cons_succ]
  refine wpAnyH_take (i := 1) (oi := ud22) (v := (.int .i64 x.t.fam)) rfl (by kernel_rfl) (by kernel_rfl) (by kernel_rfl) (fun _ _ _ h => h) (Or.inl ⟨by rfl, ?_⟩) hHeld ?_
  · intro w9 hSw
    try dsimp only at hSw
    go_simp
  try simp only [Act.put, List.setIfInBounds_toArray, List.set_cons_zero, List.set_cons_succ]
  refine wpAnyH_take (i := 2) (oi := ud28) (v := (.pointer (some ⟨W1.heap.size, 2, none⟩))) rfl (by kernel_rfl) (by kernel_rfl) (by kernel_rfl) (fun _ _ _ h => h) (Or.inl ⟨by rfl, ?_⟩) hHeld ?_
  · intro w9 hSw
    try dsimp only at hSw
    go_simp
  try simp only [Act.put, List.setIfInBounds_toArray, List.set_cons_zero, List.set_cons_succ]
  refine wpAnyH_take (i := 3) (oi := ud21) (v := (.agg #[.int .i64 x.t.s.fam, .int .u64 x.t.s.hi, .int .u64 x.t.s.lo])) rfl (by kernel_rfl) (by kernel_rfl) (by kernel_rfl) (fun _ _ _ h => h) (yieldsIf_sub rfl _ _ rfl W1.heap.size 2 26 (by rfl) _ _ (fun _ hSw => hSw.1) (by rfl) Try.underlying24 (by kernel_rfl)) hHeld ?_
  try simp only [Act.put, List.setIfInBounds_toArray, List.set_cons_zero, List.set_cons_succ]
  refine wpAnyH_take (i := 4) (oi := ud26) (v := (.pointer (some ⟨W1.heap.size, 5, none⟩))) rfl (by kernel_rfl) (by kernel_rfl) (by kernel_rfl) (fun _ _ _ h => h) (Or.inl ⟨by rfl, ?_⟩) hHeld ?_
  · intro w9 hSw
    try dsimp only at hSw
    go_simp
  try simp only [Act.put, List.setIfInBounds_toArray, List.set_cons_zero, List.set_cons_succ]
  refine wpAnyH_take (i := 5) (oi := ud20) (v := (.agg #[.int .i64 x.t.d.fam, .int .u64 x.t.d.hi, .int .u64 x.t.d.lo])) rfl (by kernel_rfl) (by kernel_rfl) (by kernel_rfl) (fun _ _ _ h => h) (yieldsIf_sub rfl _ _ rfl W1.heap.size 5 26 (by rfl) _ _ (fun _ hSw => hSw.1) (by rfl) Try.underlying24 (by kernel_rfl)) hHeld ?_
  try simp only [Act.put, List.setIfInBounds_toArray, List.set_cons_zero, List.set_cons_succ]
  refine wpAnyH_ready (rs := [6]) (by kernel_rfl) (by simp) ?_
  refine AllReadyH.cons (o := ud0) rfl (fun K hK => ?_) AllReadyH.nil
  go_simp
  refine Calls.mono (KE.out _) ?_
  rintro e W4 ⟨rfl, bb⟩
  have B4 := B3.drew.kept bb
  have T4 := T3.drew.kept bb
  have b4 : Below w.heap.size w W4 := b3.drew.trans (bb.mono b3.drew.size)
  clear bb
  refine hK.out _ _ ?_ (fun hHeld => ?_)
  · exact ⟨T4, T4.cell 0 _ rfl, T4.cell 1 _ rfl⟩
  clear hK K
  try simp only [Act.put, List.setIfInBounds_toArray, List.set_cons_zero, List.set_cons_succ]
  refine wpAnyH_take (i := 7) (oi := ud19) (v := (.bool false)) rfl (by kernel_rfl) (by kernel_rfl) (by kernel_rfl) (fun _ _ _ h => h) (Or.inl ⟨by rfl, ?_⟩) hHeld ?_
  · intro w9 hSw
    try dsimp only at hSw
    go_simp
  try simp only [Act.put, List.setIfInBounds_toArray, List.set_cons_zero, List.set_cons_succ]
  refine wpAnyH_take (i := 8) (oi := ud14) (v := (.bool false)) rfl (by kernel_rfl) (by kernel_rfl) (by kernel_rfl) (fun _ _ _ h => h) (Or.inl ⟨by rfl, ?_⟩) hHeld ?_
  · intro w9 hSw
    try dsimp only at hSw
    go_simp
  try simp only [Act.put, List.setIfInBounds_toArray, List.set_cons_zero, List.set_cons_succ]
  refine wpAnyH_take (i := 9) (oi := ud18) (v := (.pointer (some ⟨W1.heap.size, 1, none⟩))) rfl (by kernel_rfl) (by kernel_rfl) (by kernel_rfl) (fun _ _ _ h => h) (Or.inl ⟨by rfl, ?_⟩) hHeld ?_
  · intro w9 hSw
    try dsimp only at hSw
    go_simp
  try simp only [Act.put, List.setIfInBounds_toArray, List.set_cons_zero, List.set_cons_succ]
  refine wpAnyH_take (i := 10) (oi := ud13) (v := (.int .i64 x.t.pr)) rfl (by kernel_rfl) (by kernel_rfl) (by kernel_rfl) (fun _ _ _ h => h) (Or.inl ⟨by rfl, ?_⟩) hHeld ?_
  · intro w9 hSw
    try dsimp only at hSw
    go_simp
  try simp only [Act.put, List.setIfInBounds_toArray, List.set_cons_zero, List.set_cons_succ]
  refine wpAnyH_take (i := 11) (oi := ud6) (v := (.bool true)) rfl (by kernel_rfl) (by kernel_rfl) (by kernel_rfl) (fun _ _ _ h => h) (Or.inl ⟨by rfl, ?_⟩) hHeld ?_
  · intro w9 hSw
    try dsimp only at hSw
    go_simp
  try simp only [Act.put, List.setIfInBounds_toArray, List.set_cons_zero, List.set_cons_succ]
  refine wpAnyH_take (i := 12) (oi := ud8) (v := (.bool true)) rfl (by kernel_rfl) (by kernel_rfl) (by kernel_rfl) (fun _ _ _ h => h) (Or.inl ⟨by rfl, ?_⟩) hHeld ?_
  · intro w9 hSw
    try dsimp only at hSw
    go_simp
  try simp only [Act.put, List.setIfInBounds_toArray, List.set_cons_zero, List.set_cons_succ]
  refine wpAnyH_take (i := 13) (oi := ud15) (v := (.pointer (some ⟨W1.heap.size, 1, none⟩))) rfl (by kernel_rfl) (by kernel_rfl) (by kernel_rfl) (fun _ _ _ h => h) (Or.inl ⟨by rfl, ?_⟩) hHeld ?_
  · intro w9 hSw
    try dsimp only at hSw
    go_simp
  try simp only [Act.put, List.setIfInBounds_toArray, List.set_cons_zero, List.set_cons_succ]
  refine wpAnyH_take (i := 14) (oi := ud10) (v := (.int .i64 x.t.pr)) rfl (by kernel_rfl) (by kernel_rfl) (by kernel_rfl) (fun _ _ _ h => h) (Or.inl ⟨by rfl, ?_⟩) hHeld ?_
  · intro w9 hSw
    try dsimp only at hSw
    go_simp
  try simp only [Act.put, List.setIfInBounds_toArray, List.set_cons_zero, List.set_cons_succ]
  refine wpAnyH_take (i := 15) (oi := ud5) (v := (.bool true)) rfl (by kernel_rfl) (by kernel_rfl) (by kernel_rfl) (fun _ _ _ h => h) (Or.inl ⟨by rfl, ?_⟩) hHeld ?_
  · intro w9 hSw
    try dsimp only at hSw
    go_simp
  try simp only [Act.put, List.setIfInBounds_toArray, List.set_cons_zero, List.set_cons_succ]
  refine wpAnyH_take (i := 16) (oi := ud3) (v := (.bool true)) rfl (by kernel_rfl) (by kernel_rfl) (by kernel_rfl) (fun _ _ _ h => h) (Or.inl ⟨by rfl, ?_⟩) hHeld ?_
  · intro w9 hSw
    try dsimp only at hSw
    go_simp
  try simp only [Act.put, List.setIfInBounds_toArray, List.set_cons_zero, List.set_cons_succ]
  refine wpAnyH_take (i := 17) (oi := ud7) (v := (.bool true)) rfl (by kernel_rfl) (by kernel_rfl) (by kernel_rfl) (fun _ _ _ h => h) (Or.inl ⟨by rfl, ?_⟩) hHeld ?_
  · intro w9 hSw
    try dsimp only at hSw
    go_simp
  try simp only [Act.put, List.setIfInBounds_toArray, List.set_cons_zero, List.set_cons_succ]
  refine wpAnyH_take (i := 18) (oi := ud16) (v := (.pointer (some ⟨W1.heap.size, 1, none⟩))) rfl (by kernel_rfl) (by kernel_rfl) (by kernel_rfl) (fun _ _ _ h => h) (Or.inl ⟨by rfl, ?_⟩) hHeld ?_
  · intro w9 hSw
    try dsimp only at hSw
    go_simp
  try simp only [Act.put, List.setIfInBounds_toArray, List.set_cons_zero, List.set_cons_succ]
  refine wpAnyH_take (i := 19) (oi := ud11) (v := (.int .i64 x.t.pr)) rfl (by kernel_rfl) (by kernel_rfl) (by kernel_rfl) (fun _ _ _ h => h) (Or.inl ⟨by rfl, ?_⟩) hHeld ?_
  · intro w9 hSw
    try dsimp only at hSw
    go_simp
  try simp only [Act.put, List.setIfInBounds_toArray, List.set_cons_zero, List.set_cons_succ]
  refine wpAnyH_take (i := 20) (oi := ud17) (v := (.pointer (some ⟨W1.heap.size, 0, none⟩))) rfl (by kernel_rfl) (by kernel_rfl) (by kernel_rfl) (fun _ _ _ h => h) (Or.inl ⟨by rfl, ?_⟩) hHeld ?_
  · intro w9 hSw
    try dsimp only at hSw
    go_simp
  try simp only [Act.put, List.setIfInBounds_toArray, List.set_cons_zero, List.set_cons_succ]
  refine wpAnyH_take (i := 21) (oi := ud12) (v := (.int .i64 x.t.fam)) rfl (by kernel_rfl) (by kernel_rfl) (by kernel_rfl) (fun _ _ _ h => h) (Or.inl ⟨by rfl, ?_⟩) hHeld ?_
  · intro w9 hSw
    try dsimp only at hSw
    go_simp
  try simp only [Act.put, List.setIfInBounds_toArray, List.set_cons_zero, List.set_cons_succ]
  refine wpAnyH_ready (rs := [22]) (by kernel_rfl) (by simp) ?_
  refine AllReadyH.cons (o := ud1) rfl (fun K hK => ?_) AllReadyH.nil
  go_simp
  refine Calls.mono (KI.out _) ?_
  rintro e W5 ⟨rfl, hW5⟩
  rw [hW5]
  clear hW5 W5
  refine hK.out _ _ ?_ (fun hHeld => ?_)
  · exact ⟨T4, T4.cell 0 _ rfl, T4.cell 1 _ rfl⟩
  clear hK K
  try simp only [Act.put, List.setIfInBounds_toArray, List.set_cons_zero, List.set_cons_succ]
  refine wpAnyH_take (i := 23) (oi := ud2) (v := (.bool true)) rfl (by kernel_rfl) (by kernel_rfl) (by kernel_rfl) (fun _ _ _ h => h) (Or.inl ⟨by rfl, ?_⟩) hHeld ?_
  · intro w9 hSw
    try dsimp only at hSw
    go_simp
  try simp only [Act.put, List.setIfInBounds_toArray, List.set_cons_zero, List.set_cons_succ]
  refine wpAnyH_take (i := 24) (oi := ud4) (v := (.bool true)) rfl (by kernel_rfl) (by kernel_rfl) (by kernel_rfl) (fun _ _ _ h => h) (Or.inl ⟨by rfl, ?_⟩) hHeld ?_
  · intro w9 hSw
    try dsimp only at hSw
    go_simp
  try simp only [Act.put, List.setIfInBounds_toArray, List.set_cons_zero, List.set_cons_succ]
  refine wpAnyH_take (i := 25) (oi := ud9) (v := (.bool true)) rfl (by kernel_rfl) (by kernel_rfl) (by kernel_rfl) (fun _ _ _ h => h) (Or.inl ⟨by rfl, ?_⟩) hHeld ?_
  · intro w9 hSw
    try dsimp only at hSw
    go_simp
  try simp only [Act.put, List.setIfInBounds_toArray, List.set_cons_zero, List.set_cons_succ]
  refine wpAnyH_done (by kernel_rfl) ?_ _
  refine NoPanic.normal ?_
  go_wp2
  go_ret
  exact ⟨retB (by rw [HM.out, HPr.out]; simp), b4⟩

theorem rMay_any (x : Sg) (a : Option Addr) (c : Nat) (w : World) (ok : x.ok) (hdl : x.data.length ≤ 140737488355328) :
    Calls Try.prog 44 #[.agg #[.int .i64 x.t.fam, .int .i64 x.t.pr, .int .i64 x.t.s.fam, .int .u64 x.t.s.hi, .int .u64 x.t.s.lo, .int .i64 x.t.d.fam, .int .u64 x.t.d.hi, .int .u64 x.t.d.lo, .int .i64 x.t.sp, .int .i64 x.t.dp, .int .i64 x.fl, .int .u32 x.sq, .int .u32 x.ak, .int .i64 x.wn, .int .i64 x.ty, .int .i64 x.cd, .bool x.er, .int .i64 x.inn.fam, .int .i64 x.inn.pr, .int .i64 x.inn.s.fam, .int .u64 x.inn.s.hi, .int .u64 x.inn.s.lo, .int .i64 x.inn.d.fam, .int .u64 x.inn.d.hi, .int .u64 x.inn.d.lo, .int .i64 x.inn.sp, .int .i64 x.inn.dp, .slice a x.data.length c]] w fun e w' => e = .returned (.bool (mayB x)) ∧ Below w.heap.size w w' := by
  cases hE : endsB x.t.fam x.t.s x.t.d with
  | false => exact rMay_a x a c w ok hdl hE
  | true =>
    by_cases h6 : x.t.pr = 6
    · exact rMay_6 x a c w ok hdl hE h6
    by_cases h17 : x.t.pr = 17
    · exact rMay_17 x a c w ok hdl hE h6 h17
    by_cases hi : x.t.pr = icmpOf x.t.fam
    · exact rMay_i x a c w ok hdl hE h6 h17 hi
    · exact rMay_n x a c w ok hdl hE h6 h17 hi

end Go.Proofs.Ytgdpcomcndidcaa

namespace Go.Proofs.Ytgdpcomcndidcaa
open Go.RowKit
set_option linter.unusedVariables false
set_option linter.unusedSimpArgs false

theorem echo_eq' {f k : Int} (h : f = 4 ∨ f = 6) : rEcho f k = isEcho f k := by
  unfold rEcho isEcho
  rcases h with rfl | rfl <;> simp

set_option maxRecDepth 100000 in
set_option maxHeartbeats 4000000 in
theorem rbuild_no (x : Sg) (a : Option Addr) (c : Nat) (w : World) (h : Row w a x.data) (hnil : a = none → c = 0) (ok : x.ok) (hm : mayB x = false) :
    Calls Try.prog 20 #[.agg #[.int .i64 x.t.fam, .int .i64 x.t.pr, .int .i64 x.t.s.fam, .int .u64 x.t.s.hi, .int .u64 x.t.s.lo, .int .i64 x.t.d.fam, .int .u64 x.t.d.hi, .int .u64 x.t.d.lo, .int .i64 x.t.sp, .int .i64 x.t.dp, .int .i64 x.fl, .int .u32 x.sq, .int .u32 x.ak, .int .i64 x.wn, .int .i64 x.ty, .int .i64 x.cd, .bool x.er, .int .i64 x.inn.fam, .int .i64 x.inn.pr, .int .i64 x.inn.s.fam, .int .u64 x.inn.s.hi, .int .u64 x.inn.s.lo, .int .i64 x.inn.d.fam, .int .u64 x.inn.d.hi, .int .u64 x.inn.d.lo, .int .i64 x.inn.sp, .int .i64 x.inn.dp, .slice a x.data.length c]] w fun e w' => e = .returned (.tuple #[.slice none 0 0, .int .i64 1]) ∧ Below w.heap.size w w' := by
  obtain ⟨W1, hW1⟩ : ∃ W1, w.alloc (.cells #[.int .i64 x.t.fam, .int .i64 x.t.pr, .int .i64 x.t.s.fam, .int .u64 x.t.s.hi, .int .u64 x.t.s.lo, .int .i64 x.t.d.fam, .int .u64 x.t.d.hi, .int .u64 x.t.d.lo, .int .i64 x.t.sp, .int .i64 x.t.dp, .int .i64 x.fl, .int .u32 x.sq, .int .u32 x.ak, .int .i64 x.wn, .int .i64 x.ty, .int .i64 x.cd, .bool x.er, .int .i64 x.inn.fam, .int .i64 x.inn.pr, .int .i64 x.inn.s.fam, .int .u64 x.inn.s.hi, .int .u64 x.inn.s.lo, .int .i64 x.inn.d.fam, .int .u64 x.inn.d.hi, .int .u64 x.inn.d.lo, .int .i64 x.inn.sp, .int .i64 x.inn.dp, .slice a x.data.length c] 38) = W1 := ⟨_, rfl⟩
  have b1 : Below w.heap.size w W1 := by rw [← hW1]; exact (Below.refl _ _).alloc (Nat.le_refl _) _
  have B1 : Blk W1 w.heap.size 38 #[.int .i64 x.t.fam, .int .i64 x.t.pr, .int .i64 x.t.s.fam, .int .u64 x.t.s.hi, .int .u64 x.t.s.lo, .int .i64 x.t.d.fam, .int .u64 x.t.d.hi, .int .u64 x.t.d.lo, .int .i64 x.t.sp, .int .i64 x.t.dp, .int .i64 x.fl, .int .u32 x.sq, .int .u32 x.ak, .int .i64 x.wn, .int .i64 x.ty, .int .i64 x.cd, .bool x.er, .int .i64 x.inn.fam, .int .i64 x.inn.pr, .int .i64 x.inn.s.fam, .int .u64 x.inn.s.hi, .int .u64 x.inn.s.lo, .int .i64 x.inn.d.fam, .int .u64 x.inn.d.hi, .int .u64 x.inn.d.lo, .int .i64 x.inn.sp, .int .i64 x.inn.dp, .slice a x.data.length c] := by rw [← hW1]; exact blk_new _ _ _
  have KM : Hid (Calls Try.prog 44 #[.agg #[.int .i64 x.t.fam, .int .i64 x.t.pr, .int .i64 x.t.s.fam, .int .u64 x.t.s.hi, .int .u64 x.t.s.lo, .int .i64 x.t.d.fam, .int .u64 x.t.d.hi, .int .u64 x.t.d.lo, .int .i64 x.t.sp, .int .i64 x.t.dp, .int .i64 x.fl, .int .u32 x.sq, .int .u32 x.ak, .int .i64 x.wn, .int .i64 x.ty, .int .i64 x.cd, .bool x.er, .int .i64 x.inn.fam, .int .i64 x.inn.pr, .int .i64 x.inn.s.fam, .int .u64 x.inn.s.hi, .int .u64 x.inn.s.lo, .int .i64 x.inn.d.fam, .int .u64 x.inn.d.hi, .int .u64 x.inn.d.lo, .int .i64 x.inn.sp, .int .i64 x.inn.dp, .slice a x.data.length c]] W1 fun e w' => e = .returned (.bool false) ∧ Below W1.heap.size W1 w') := by
    have := rMay_any x a c W1 ok h.small
    rw [hm] at this
    exact this
  go_enter Try.func20, Try.ntmps20
  go_wp2_with (refine wpList_load_row rfl _ _ rfl w.heap.size (by rfl) _ _ _ _ B1 Try.underlying38 rfl (by kernel_rfl) ?_)
  refine Calls.mono KM.out ?_
  rintro e W2 ⟨rfl, bb⟩
  have b2 : Below w.heap.size w W2 := b1.trans (bb.mono b1.size)
  have B2 := B1.kept bb
  clear KM bb B1 b1 hW1
  go_wp2
  go_ret2
  exact ⟨rfl, b2⟩

set_option maxRecDepth 100000 in
set_option maxHeartbeats 4000000 in
theorem rbuild_6 (x : Sg) (a : Option Addr) (c : Nat) (w : World) (h : Row w a x.data) (hnil : a = none → c = 0) (ok : x.ok) (hm : mayB x = true) (h6 : x.t.pr = 6) :
    Calls Try.prog 20 #[.agg #[.int .i64 x.t.fam, .int .i64 x.t.pr, .int .i64 x.t.s.fam, .int .u64 x.t.s.hi, .int .u64 x.t.s.lo, .int .i64 x.t.d.fam, .int .u64 x.t.d.hi, .int .u64 x.t.d.lo, .int .i64 x.t.sp, .int .i64 x.t.dp, .int .i64 x.fl, .int .u32 x.sq, .int .u32 x.ak, .int .i64 x.wn, .int .i64 x.ty, .int .i64 x.cd, .bool x.er, .int .i64 x.inn.fam, .int .i64 x.inn.pr, .int .i64 x.inn.s.fam, .int .u64 x.inn.s.hi, .int .u64 x.inn.s.lo, .int .i64 x.inn.d.fam, .int .u64 x.inn.d.hi, .int .u64 x.inn.d.lo, .int .i64 x.inn.sp, .int .i64 x.inn.dp, .slice a x.data.length c]] w fun e w' => ∃ a' c', e = .returned (.tuple #[.slice a' (madeB x).length c', .int .i64 0]) ∧ Fresh w w' a' c' (madeB x) := by
  obtain ⟨W1, hW1⟩ : ∃ W1, w.alloc (.cells #[.int .i64 x.t.fam, .int .i64 x.t.pr, .int .i64 x.t.s.fam, .int .u64 x.t.s.hi, .int .u64 x.t.s.lo, .int .i64 x.t.d.fam, .int .u64 x.t.d.hi, .int .u64 x.t.d.lo, .int .i64 x.t.sp, .int .i64 x.t.dp, .int .i64 x.fl, .int .u32 x.sq, .int .u32 x.ak, .int .i64 x.wn, .int .i64 x.ty, .int .i64 x.cd, .bool x.er, .int .i64 x.inn.fam, .int .i64 x.inn.pr, .int .i64 x.inn.s.fam, .int .u64 x.inn.s.hi, .int .u64 x.inn.s.lo, .int .i64 x.inn.d.fam, .int .u64 x.inn.d.hi, .int .u64 x.inn.d.lo, .int .i64 x.inn.sp, .int .i64 x.inn.dp, .slice a x.data.length c] 38) = W1 := ⟨_, rfl⟩
  have b1 : Below w.heap.size w W1 := by rw [← hW1]; exact (Below.refl _ _).alloc (Nat.le_refl _) _
  have B1 : Blk W1 w.heap.size 38 #[.int .i64 x.t.fam, .int .i64 x.t.pr, .int .i64 x.t.s.fam, .int .u64 x.t.s.hi, .int .u64 x.t.s.lo, .int .i64 x.t.d.fam, .int .u64 x.t.d.hi, .int .u64 x.t.d.lo, .int .i64 x.t.sp, .int .i64 x.t.dp, .int .i64 x.fl, .int .u32 x.sq, .int .u32 x.ak, .int .i64 x.wn, .int .i64 x.ty, .int .i64 x.cd, .bool x.er, .int .i64 x.inn.fam, .int .i64 x.inn.pr, .int .i64 x.inn.s.fam, .int .u64 x.inn.s.hi, .int .u64 x.inn.s.lo, .int .i64 x.inn.d.fam, .int .u64 x.inn.d.hi, .int .u64 x.inn.d.lo, .int .i64 x.inn.sp, .int .i64 x.inn.dp, .slice a x.data.length c] := by rw [← hW1]; exact blk_new _ _ _
  have KM : Hid (Calls Try.prog 44 #[.agg #[.int .i64 x.t.fam, .int .i64 x.t.pr, .int .i64 x.t.s.fam, .int .u64 x.t.s.hi, .int .u64 x.t.s.lo, .int .i64 x.t.d.fam, .int .u64 x.t.d.hi, .int .u64 x.t.d.lo, .int .i64 x.t.sp, .int .i64 x.t.dp, .int .i64 x.fl, .int .u32 x.sq, .int .u32 x.ak, .int .i64 x.wn, .int .i64 x.ty, .int .i64 x.cd, .bool x.er, .int .i64 x.inn.fam, .int .i64 x.inn.pr, .int .i64 x.inn.s.fam, .int .u64 x.inn.s.hi, .int .u64 x.inn.s.lo, .int .i64 x.inn.d.fam, .int .u64 x.inn.d.hi, .int .u64 x.inn.d.lo, .int .i64 x.inn.sp, .int .i64 x.inn.dp, .slice a x.data.length c]] W1 fun e w' => e = .returned (.bool true) ∧ Below W1.heap.size W1 w') := by
    have := rMay_any x a c W1 ok h.small
    rw [hm] at this
    exact this
  have hPl : placeB x = 16 := by unfold placeB; rw [if_pos h6]
  have hn1 : ¬ x.t.pr = 1 := by omega
  have hn17 : ¬ x.t.pr = 17 := by omega
  have e6 : (x.t.pr == 6) = true := by simpa using h6
  obtain ⟨P1, h_P1⟩ : ∃ L, put16 [] x.t.sp = L := ⟨_, rfl⟩
  have l_P1 : P1.length = 2 := by rw [← h_P1]; simp [put16, put32]
  obtain ⟨P2, h_P2⟩ : ∃ L, put16 P1 x.t.dp = L := ⟨_, rfl⟩
  have l_P2 : P2.length = 4 := by rw [← h_P2]; simp [put16, put32, l_P1]
  obtain ⟨Q1, h_Q1⟩ : ∃ L, put32 P2 x.sq = L := ⟨_, rfl⟩
  have l_Q1 : Q1.length = 8 := by rw [← h_Q1]; simp [put16, put32, l_P2]
  obtain ⟨Q2, h_Q2⟩ : ∃ L, put32 Q1 x.ak = L := ⟨_, rfl⟩
  have l_Q2 : Q2.length = 12 := by rw [← h_Q2]; simp [put16, put32, l_Q1]
  obtain ⟨Q3, h_Q3⟩ : ∃ L, Q2 ++ [80, x.fl % 256] = L := ⟨_, rfl⟩
  have l_Q3 : Q3.length = 14 := by rw [← h_Q3]; simp [put16, put32, l_Q2]
  obtain ⟨Q4, h_Q4⟩ : ∃ L, put16 Q3 x.wn = L := ⟨_, rfl⟩
  have l_Q4 : Q4.length = 16 := by rw [← h_Q4]; simp [put16, put32, l_Q3]
  obtain ⟨HD, h_HD⟩ : ∃ L, Q4 ++ [0, 0, 0, 0] = L := ⟨_, rfl⟩
  have l_HD : HD.length = 20 := by rw [← h_HD]; simp [put16, put32, l_Q4]
  have hHD : headB x = HD := by
    unfold headB portB
    rw [if_pos h6, h_P1, h_P2, h_Q1, h_Q2, h_Q3, h_Q4, h_HD]
  have K1 : Hid (∀ W a c, Row W a [] → (a = none → c = 0) → Calls Try.prog 30 #[.slice a 0 c, .int .i64 x.t.sp] W fun e w' => ∃ a' c', e = .returned (.slice a' 2 c') ∧ Fresh W w' a' c' P1) := fun W a c hr hn => by
    have := rput16_any a c [] x.t.sp W hr hn (by simp)
    rw [h_P1, l_P1] at this
    exact this
  have K2 : Hid (∀ W a c, Row W a P1 → (a = none → c = 0) → Calls Try.prog 30 #[.slice a 2 c, .int .i64 x.t.dp] W fun e w' => ∃ a' c', e = .returned (.slice a' 4 c') ∧ Fresh W w' a' c' P2) := fun W a c hr hn => by
    have := rput16_any a c P1 x.t.dp W hr hn (by omega)
    rw [h_P2, l_P2, l_P1] at this
    exact this
  have K3 : Hid (∀ W a c, Row W a P2 → (a = none → c = 0) → Calls Try.prog 31 #[.slice a 4 c, .int .u32 x.sq] W fun e w' => ∃ a' c', e = .returned (.slice a' 8 c') ∧ Fresh W w' a' c' Q1) := fun W a c hr hn => by
    have := rput32_any a c P2 x.sq W hr hn (by omega) ok.sq
    rw [h_Q1, l_Q1, l_P2] at this
    exact this
  have K4 : Hid (∀ W a c, Row W a Q1 → (a = none → c = 0) → Calls Try.prog 31 #[.slice a 8 c, .int .u32 x.ak] W fun e w' => ∃ a' c', e = .returned (.slice a' 12 c') ∧ Fresh W w' a' c' Q2) := fun W a c hr hn => by
    have := rput32_any a c Q1 x.ak W hr hn (by omega) ok.ak
    rw [h_Q2, l_Q2, l_Q1] at this
    exact this
  have K5 : Hid (∀ W a c, Row W a Q3 → (a = none → c = 0) → Calls Try.prog 30 #[.slice a 14 c, .int .i64 x.wn] W fun e w' => ∃ a' c', e = .returned (.slice a' 16 c') ∧ Fresh W w' a' c' Q4) := fun W a c hr hn => by
    have := rput16_any a c Q3 x.wn W hr hn (by omega)
    rw [h_Q4, l_Q4, l_Q3] at this
    exact this
  obtain ⟨BD, hBD⟩ : ∃ L, bodyB x = L := ⟨_, rfl⟩
  have hBD' : HD ++ x.data = BD := by rw [← hBD, ← hHD]; rfl
  have lB : BD.length = HD.length + x.data.length := by rw [← hBD', List.length_append]
  have hLD : x.data.length ≤ 65000 := (may5 hm).len
  have hE : endsB x.t.fam x.t.s x.t.d = true := (may5 hm).ends
  have lB2 : BD.length ≤ 65020 := by omega
  have lB3 : 16 + 2 ≤ BD.length := by omega
  obtain ⟨L0, hL0⟩ : ∃ L, ahead x.t.s x.t.d x.t.pr BD.length = L := ⟨_, rfl⟩
  obtain ⟨SU, hSU⟩ : ∃ s, sumB x = s := ⟨_, rfl⟩
  have hSU' : 65535 - M.sumOf [L0, BD] = SU := by rw [← hSU, ← hL0, ← hBD]; rfl
  have qS := sumB_bd x
  rw [hSU] at qS
  obtain ⟨CK, hCK⟩ : ∃ s, checkB x = s := ⟨_, rfl⟩
  have qC := checkB_bd x
  rw [hCK] at qC
  obtain ⟨MD, hMD⟩ : ∃ s, madeB x = s := ⟨_, rfl⟩
  have hMD' : (BD.set 16 (CK / 256)).set (16 + 1) (CK % 256) = MD := by rw [← hMD, ← hBD, ← hCK]; unfold madeB; rw [hPl]
  rw [hMD]
  have KP : Hid (¬ x.t.pr = 1 → ∀ W, Calls Try.prog 12 #[.agg #[.int .i64 x.t.s.fam, .int .u64 x.t.s.hi, .int .u64 x.t.s.lo], .agg #[.int .i64 x.t.d.fam, .int .u64 x.t.d.hi, .int .u64 x.t.d.lo], .int .i64 x.t.pr, .int .i64 (BD.length : Int)] W fun e w' => ∃ a c, e = .returned (.slice a L0.length c) ∧ Fresh W w' a c L0) := fun h1 W => by
    have := rpseudo_any x.t.s.fam x.t.s.hi x.t.s.lo x.t.d.fam x.t.d.hi x.t.d.lo x.t.pr (BD.length : Int) W ok.s ok.d
    have e : pseudo ⟨x.t.s.fam, x.t.s.hi, x.t.s.lo⟩ ⟨x.t.d.fam, x.t.d.hi, x.t.d.lo⟩ x.t.pr (BD.length : Int) = L0 := by
      rw [← hL0]
      unfold ahead
      rw [if_neg h1]
    rw [e] at this
    exact this
  have H01 : Hid (x.t.pr = 1 → L0 = []) := fun h1 => by
    rw [← hL0]
    unfold ahead
    rw [if_pos h1]
  have KC : Hid (∀ W a' c' a2 c2, Row W a' L0 → Row W a2 BD → Calls Try.prog 46 #[.slice (some ⟨W.heap.size, 0, none⟩) 2 2] (W.alloc (.cells #[.slice a' L0.length c', .slice a2 BD.length c2] 28)) fun e w' => e = .returned (.int .i64 (65535 - SU)) ∧ w' = W.alloc (.cells #[.slice a' L0.length c', .slice a2 BD.length c2] 28)) := fun W a' c' a2 c2 h1 h2 => by
    have := refsum_any (some ⟨W.heap.size, 0, none⟩) 2 [L0, BD] _ (rowss_two W 28 W.heap.size rfl a' a2 c' c2 L0 BD h1 h2)
    rw [show M.sumOf [L0, BD] = 65535 - SU by omega] at this
    exact this
  have HBD : Hid (HD ++ x.data = BD) := hBD'
  have HMD : Hid ((BD.set 16 (CK / 256)).set (16 + 1) (CK % 256) = MD) := hMD'
  have HCK : Hid (CK = if SU = 0 ∧ x.t.pr = 17 then 65535 else SU) := by
    have : CK = if SU = 0 ∧ x.t.pr = 17 then 65535 else SU := by rw [← hCK, ← hSU]; rfl
    exact this
  have wsu : IntKind.i64.wrap (65535 - (65535 - SU)) = SU := by rw [IntKind.wrap_i64]; omega
  have wc1 : IntKind.u8.wrap (CK / 256) = CK / 256 := by rw [wrapU8]; omega
  have wc2 : IntKind.u8.wrap CK = CK % 256 := wrapU8 CK
  have j2 : (16 : Int) < (BD.length : Int) := by omega
  have j3 : (16 : Int) + 1 < (BD.length : Int) := by omega
  have j4 : (17 : Int) < (BD.length : Int) := by omega
  clear hBD hBD' hL0 hSU hSU' hCK hMD hMD' lB hE hPl hHD
  have HHD : Hid (Q4 ++ [0, 0, 0, 0] = HD ∧ HD.length = 20 ∧ Q4.length = 16) := ⟨h_HD, l_HD, l_Q4⟩
  have HQ : Hid (Q2 ++ [80, x.fl % 256] = Q3 ∧ Q2.length = 12 ∧ Q3.length = 14) := ⟨h_Q3, l_Q2, l_Q3⟩
  have wfl := wrapU8 x.fl
  clear h_P1 h_P2 h_Q1 h_Q2 h_Q3 h_Q4 h_HD l_P1 l_P2 l_Q1 l_Q2 l_Q3 l_Q4 l_HD h6
  go_enter Try.func20, Try.ntmps20
  go_wp2_with (refine wpList_load_row rfl _ _ rfl w.heap.size (by rfl) _ _ _ _ B1 Try.underlying38 rfl (by kernel_rfl) ?_)
  refine Calls.mono KM.out ?_
  rintro e W2 ⟨rfl, bb⟩
  have b2 : Below w.heap.size w W2 := b1.trans (bb.mono b1.size)
  have B2 := B1.kept bb
  clear KM bb B1 b1 hW1
  obtain ⟨gT, hgT⟩ : ∃ g, W2.heap.size = g := ⟨_, rfl⟩
  have g2 : w.heap.size < gT := by rw [← hgT]; exact B2.lt
  obtain ⟨W3, hW3⟩ : ∃ W, W2.alloc (.cells #[.int .i64 0, .int .i64 0, .int .i64 0, .int .u64 0, .int .u64 0, .int .i64 0, .int .u64 0, .int .u64 0, .int .i64 0, .int .i64 0] 26) = W := ⟨_, rfl⟩
  have b3 : Below w.heap.size w W3 := by rw [← hW3]; exact b2.alloc b2.size _
  have B3 : Blk W3 w.heap.size 38 #[.int .i64 x.t.fam, .int .i64 x.t.pr, .int .i64 x.t.s.fam, .int .u64 x.t.s.hi, .int .u64 x.t.s.lo, .int .i64 x.t.d.fam, .int .u64 x.t.d.hi, .int .u64 x.t.d.lo, .int .i64 x.t.sp, .int .i64 x.t.dp, .int .i64 x.fl, .int .u32 x.sq, .int .u32 x.ak, .int .i64 x.wn, .int .i64 x.ty, .int .i64 x.cd, .bool x.er, .int .i64 x.inn.fam, .int .i64 x.inn.pr, .int .i64 x.inn.s.fam, .int .u64 x.inn.s.hi, .int .u64 x.inn.s.lo, .int .i64 x.inn.d.fam, .int .u64 x.inn.d.hi, .int .u64 x.inn.d.lo, .int .i64 x.inn.sp, .int .i64 x.inn.dp, .slice a x.data.length c] := by rw [← hW3]; exact B2.alloc _
  have T3 : Blk W3 gT 26 #[.int .i64 0, .int .i64 0, .int .i64 0, .int .u64 0, .int .u64 0, .int .i64 0, .int .u64 0, .int .u64 0, .int .i64 0, .int .i64 0] := by rw [← hW3, ← hgT]; exact blk_new _ _ _
  have b4 := below_setRow b3 (Nat.le_of_lt g2) #[.int .i64 x.t.fam, .int .i64 x.t.pr, .int .i64 x.t.s.fam, .int .u64 x.t.s.hi, .int .u64 x.t.s.lo, .int .i64 x.t.d.fam, .int .u64 x.t.d.hi, .int .u64 x.t.d.lo, .int .i64 x.t.sp, .int .i64 x.t.dp]
  have B4 := B3.other (show w.heap.size ≠ gT by omega) #[.int .i64 x.t.fam, .int .i64 x.t.pr, .int .i64 x.t.s.fam, .int .u64 x.t.s.hi, .int .u64 x.t.s.lo, .int .i64 x.t.d.fam, .int .u64 x.t.d.hi, .int .u64 x.t.d.lo, .int .i64 x.t.sp, .int .i64 x.t.dp]
  have T4 := T3.set #[.int .i64 x.t.fam, .int .i64 x.t.pr, .int .i64 x.t.s.fam, .int .u64 x.t.s.hi, .int .u64 x.t.s.lo, .int .i64 x.t.d.fam, .int .u64 x.t.d.hi, .int .u64 x.t.d.lo, .int .i64 x.t.sp, .int .i64 x.t.dp]
  obtain ⟨W4, hW4⟩ : ∃ W, W3.setRow gT #[.int .i64 x.t.fam, .int .i64 x.t.pr, .int .i64 x.t.s.fam, .int .u64 x.t.s.hi, .int .u64 x.t.s.lo, .int .i64 x.t.d.fam, .int .u64 x.t.d.hi, .int .u64 x.t.d.lo, .int .i64 x.t.sp, .int .i64 x.t.dp] = W := ⟨_, rfl⟩
  rw [hW4] at b4 B4 T4
  have HW4 : Hid _ := hW4
  have t1 := T4.cell 1 (.int .i64 x.t.pr) rfl
  clear hW4
  go_wp2_with (first
    | (refine wpList_load_sub rfl _ _ rfl w.heap.size 0 38 (by rfl) _ #[.int .i64 x.t.fam, .int .i64 x.t.pr, .int .i64 x.t.s.fam, .int .u64 x.t.s.hi, .int .u64 x.t.s.lo, .int .i64 x.t.d.fam, .int .u64 x.t.d.hi, .int .u64 x.t.d.lo, .int .i64 x.t.sp, .int .i64 x.t.dp] B2 (by rfl) Try.underlying26 (by kernel_rfl) ?_)
    | (refine wpList_store_row rfl _ _ _ rfl gT #[.int .i64 x.t.fam, .int .i64 x.t.pr, .int .i64 x.t.s.fam, .int .u64 x.t.s.hi, .int .u64 x.t.s.lo, .int .i64 x.t.d.fam, .int .u64 x.t.d.hi, .int .u64 x.t.d.lo, .int .i64 x.t.sp, .int .i64 x.t.dp] (by rfl) (by rfl) _ _ T3 (by kernel_rfl) (by rfl) (by kernel_rfl) ?_; rw [HW4.out]))
  clear HW4 hW3 hgT B3 T3 b3 B2 b2
  refine wp_region_noPanic ?_
  refine wp_region_held_drew (S := fun w' => Blk w' w.heap.size 38 #[.int .i64 x.t.fam, .int .i64 x.t.pr, .int .i64 x.t.s.fam, .int .u64 x.t.s.hi, .int .u64 x.t.s.lo, .int .i64 x.t.d.fam, .int .u64 x.t.d.hi, .int .u64 x.t.d.lo, .int .i64 x.t.sp, .int .i64 x.t.dp, .int .i64 x.fl, .int .u32 x.sq, .int .u32 x.ak, .int .i64 x.wn, .int .i64 x.ty, .int .i64 x.cd, .bool x.er, .int .i64 x.inn.fam, .int .i64 x.inn.pr, .int .i64 x.inn.s.fam, .int .u64 x.inn.s.hi, .int .u64 x.inn.s.lo, .int .i64 x.inn.d.fam, .int .u64 x.inn.d.hi, .int .u64 x.inn.d.lo, .int .i64 x.inn.sp, .int .i64 x.inn.dp, .slice a x.data.length c] ∧ Blk w' gT 26 #[.int .i64 x.t.fam, .int .i64 x.t.pr, .int .i64 x.t.s.fam, .int .u64 x.t.s.hi, .int .u64 x.t.s.lo, .int .i64 x.t.d.fam, .int .u64 x.t.d.hi, .int .u64 x.t.d.lo, .int .i64 x.t.sp, .int .i64 x.t.dp] ∧ w'.cell? ⟨gT, 8, none⟩ = some (.int .i64 x.t.sp) ∧ w'.cell? ⟨gT, 9, none⟩ = some (.int .i64 x.t.dp) ∧ w'.cell? ⟨w.heap.size, 10, none⟩ = some (.int .i64 x.fl) ∧ w'.cell? ⟨w.heap.size, 11, none⟩ = some (.int .u32 x.sq) ∧ w'.cell? ⟨w.heap.size, 12, none⟩ = some (.int .u32 x.ak) ∧ w'.cell? ⟨w.heap.size, 13, none⟩ = some (.int .i64 x.wn) ∧ w'.cell? ⟨w.heap.size, 27, none⟩ = some (.slice a x.data.length c)) (by kernel_rfl) (by exact ⟨B4.drew, T4.drew, T4.drew.cell 8 _ rfl, T4.drew.cell 9 _ rfl, B4.drew.cell 10 _ rfl, B4.drew.cell 11 _ rfl, B4.drew.cell 12 _ rfl, B4.drew.cell 13 _ rfl, B4.drew.cell 27 _ rfl⟩) (fun hHeld => ?_)
  refine wpAnyH_take (i := 0) (oi := { dst := some 38, op := Op.fieldAddr 26 (.tmp 4) 4, type := 0, pos := "ref.go:230", after := #[], guard := none }) (v := (.pointer (some ⟨gT, 8, none⟩))) rfl (by kernel_rfl) (by kernel_rfl) (by kernel_rfl) (fun _ _ _ h => h) (Or.inl ⟨by rfl, ?_⟩) hHeld ?_
  · intro w9 hSw
    try dsimp only at hSw
    go_simp
  try simp only [Act.put, List.setIfInBounds_toArray, List.set_cons_zero, List.set_cons_succ]
  refine wpAnyH_take (i := 1) (oi := { dst := some 39, op := Op.load 3 (.tmp 38), type := 3, pos := "ref.go:230", after := #[{ on := 0, ground := Ground.data }], guard := none }) (v := (.int .i64 x.t.sp)) rfl (by kernel_rfl) (by kernel_rfl) (by kernel_rfl) (fun _ _ _ h => h) (Or.inl ⟨by rfl, ?_⟩) hHeld ?_
  · intro w9 hSw
    try dsimp only at hSw
    go_simp
  try simp only [Act.put, List.setIfInBounds_toArray, List.set_cons_zero, List.set_cons_succ]
  refine wpAnyH_take (i := 3) (oi := { dst := some 41, op := Op.fieldAddr 26 (.tmp 4) 5, type := 0, pos := "ref.go:230", after := #[], guard := none }) (v := (.pointer (some ⟨gT, 9, none⟩))) rfl (by kernel_rfl) (by kernel_rfl) (by kernel_rfl) (fun _ _ _ h => h) (Or.inl ⟨by rfl, ?_⟩) hHeld ?_
  · intro w9 hSw
    try dsimp only at hSw
    go_simp
  try simp only [Act.put, List.setIfInBounds_toArray, List.set_cons_zero, List.set_cons_succ]
  refine wpAnyH_take (i := 4) (oi := { dst := some 42, op := Op.load 3 (.tmp 41), type := 3, pos := "ref.go:230", after := #[{ on := 3, ground := Ground.data }], guard := none }) (v := (.int .i64 x.t.dp)) rfl (by kernel_rfl) (by kernel_rfl) (by kernel_rfl) (fun _ _ _ h => h) (Or.inl ⟨by rfl, ?_⟩) hHeld ?_
  · intro w9 hSw
    try dsimp only at hSw
    go_simp
  try simp only [Act.put, List.setIfInBounds_toArray, List.set_cons_zero, List.set_cons_succ]
  refine wpAnyH_take (i := 6) (oi := { dst := some 44, op := Op.fieldAddr 38 (.tmp 1) 2, type := 0, pos := "ref.go:230", after := #[], guard := none }) (v := (.pointer (some ⟨w.heap.size, 11, none⟩))) rfl (by kernel_rfl) (by kernel_rfl) (by kernel_rfl) (fun _ _ _ h => h) (Or.inl ⟨by rfl, ?_⟩) hHeld ?_
  · intro w9 hSw
    try dsimp only at hSw
    go_simp
  try simp only [Act.put, List.setIfInBounds_toArray, List.set_cons_zero, List.set_cons_succ]
  refine wpAnyH_take (i := 7) (oi := { dst := some 45, op := Op.load 33 (.tmp 44), type := 33, pos := "ref.go:230", after := #[{ on := 6, ground := Ground.data }], guard := none }) (v := (.int .u32 x.sq)) rfl (by kernel_rfl) (by kernel_rfl) (by kernel_rfl) (fun _ _ _ h => h) (Or.inl ⟨by rfl, ?_⟩) hHeld ?_
  · intro w9 hSw
    try dsimp only at hSw
    go_simp
  try simp only [Act.put, List.setIfInBounds_toArray, List.set_cons_zero, List.set_cons_succ]
  refine wpAnyH_take (i := 9) (oi := { dst := some 47, op := Op.fieldAddr 38 (.tmp 1) 3, type := 0, pos := "ref.go:230", after := #[], guard := none }) (v := (.pointer (some ⟨w.heap.size, 12, none⟩))) rfl (by kernel_rfl) (by kernel_rfl) (by kernel_rfl) (fun _ _ _ h => h) (Or.inl ⟨by rfl, ?_⟩) hHeld ?_
  · intro w9 hSw
    try dsimp only at hSw
    go_simp
  try simp only [Act.put, List.setIfInBounds_toArray, List.set_cons_zero, List.set_cons_succ]
  refine wpAnyH_take (i := 10) (oi := { dst := some 48, op := Op.load 33 (.tmp 47), type := 33, pos := "ref.go:230", after := #[{ on := 9, ground := Ground.data }], guard := none }) (v := (.int .u32 x.ak)) rfl (by kernel_rfl) (by kernel_rfl) (by kernel_rfl) (fun _ _ _ h => h) (Or.inl ⟨by rfl, ?_⟩) hHeld ?_
  · intro w9 hSw
    try dsimp only at hSw
    go_simp
  try simp only [Act.put, List.setIfInBounds_toArray, List.set_cons_zero, List.set_cons_succ]
  refine wpAnyH_ready (rs := [2]) (by kernel_rfl) (by simp) ?_
  refine AllReadyH.cons (o := { dst := some 40, op := Op.call { callee := Callee.value (.func 30), args := #[.const (.slice none 0 0), .tmp 39], argTypes := #[28, 3] }, type := 28, pos := "ref.go:230", after := #[{ on := 1, ground := Ground.data }], guard := none }) rfl (fun K hK => ?_) AllReadyH.nil
  go_simp
  refine Calls.mono (K1.out _ _ _ ⟨by simp, M.Bytes.nil, fun h => by simp at h⟩ (fun _ => rfl)) ?_
  rintro e W5 ⟨a5, c5, rfl, f5⟩
  have B5 := B4.drew.kept f5.below
  have T5 := T4.drew.kept f5.below
  have b5 : Below w.heap.size w W5 := b4.drew.trans (f5.below.mono b4.drew.size)
  refine hK.out _ _ ?_ (fun hHeld => ?_)
  · exact ⟨B5, T5, T5.cell 8 _ rfl, T5.cell 9 _ rfl, B5.cell 10 _ rfl, B5.cell 11 _ rfl, B5.cell 12 _ rfl, B5.cell 13 _ rfl, B5.cell 27 _ rfl⟩
  clear hK K
  try simp only [Act.put, List.setIfInBounds_toArray, List.set_cons_zero, List.set_cons_succ]
  refine wpAnyH_ready (rs := [5]) (by kernel_rfl) (by simp) ?_
  refine AllReadyH.cons (o := { dst := some 43, op := Op.call { callee := Callee.value (.func 30), args := #[.tmp 40, .tmp 42], argTypes := #[28, 3] }, type := 28, pos := "ref.go:230", after := #[{ on := 2, ground := Ground.data }, { on := 4, ground := Ground.data }, { on := 2, ground := Ground.chain }], guard := none }) rfl (fun K hK => ?_) AllReadyH.nil
  go_simp
  refine Calls.mono (K2.out _ _ _ f5.row f5.nil) ?_
  rintro e W6 ⟨a6, c6, rfl, f6⟩
  have B6 := B5.kept f6.below
  have T6 := T5.kept f6.below
  have b6 : Below w.heap.size w W6 := b5.trans (f6.below.mono b5.size)
  refine hK.out _ _ ?_ (fun hHeld => ?_)
  · exact ⟨B6, T6, T6.cell 8 _ rfl, T6.cell 9 _ rfl, B6.cell 10 _ rfl, B6.cell 11 _ rfl, B6.cell 12 _ rfl, B6.cell 13 _ rfl, B6.cell 27 _ rfl⟩
  clear hK K
  try simp only [Act.put, List.setIfInBounds_toArray, List.set_cons_zero, List.set_cons_succ]
  refine wpAnyH_ready (rs := [8]) (by kernel_rfl) (by simp) ?_
  refine AllReadyH.cons (o := { dst := some 46, op := Op.call { callee := Callee.value (.func 31), args := #[.tmp 43, .tmp 45], argTypes := #[28, 33] }, type := 28, pos := "ref.go:230", after := #[{ on := 5, ground := Ground.data }, { on := 7, ground := Ground.data }, { on := 5, ground := Ground.chain }], guard := none }) rfl (fun K hK => ?_) AllReadyH.nil
  go_simp
  refine Calls.mono (K3.out _ _ _ f6.row f6.nil) ?_
  rintro e W7 ⟨a7, c7, rfl, f7⟩
  have B7 := B6.kept f7.below
  have T7 := T6.kept f7.below
  have b7 : Below w.heap.size w W7 := b6.trans (f7.below.mono b6.size)
  refine hK.out _ _ ?_ (fun hHeld => ?_)
  · exact ⟨B7, T7, T7.cell 8 _ rfl, T7.cell 9 _ rfl, B7.cell 10 _ rfl, B7.cell 11 _ rfl, B7.cell 12 _ rfl, B7.cell 13 _ rfl, B7.cell 27 _ rfl⟩
  clear hK K
  try simp only [Act.put, List.setIfInBounds_toArray, List.set_cons_zero, List.set_cons_succ]
  refine wpAnyH_ready (rs := [11]) (by kernel_rfl) (by simp) ?_
  refine AllReadyH.cons (o := { dst := some 49, op := Op.call { callee := Callee.value (.func 31), args := #[.tmp 46, .tmp 48], argTypes := #[28, 33] }, type := 28, pos := "ref.go:230", after := #[{ on := 8, ground := Ground.data }, { on := 10, ground := Ground.data }, { on := 8, ground := Ground.chain }], guard := none }) rfl (fun K hK => ?_) AllReadyH.nil
  go_simp
  refine Calls.mono (K4.out _ _ _ f7.row f7.nil) ?_
  rintro e W8 ⟨a8, c8, rfl, f8⟩
  have B8 := B7.kept f8.below
  have T8 := T7.kept f8.below
  have b8 : Below w.heap.size w W8 := b7.trans (f8.below.mono b7.size)
  refine hK.out _ _ ?_ (fun hHeld => ?_)
  · exact ⟨B8, T8, T8.cell 8 _ rfl, T8.cell 9 _ rfl, B8.cell 10 _ rfl, B8.cell 11 _ rfl, B8.cell 12 _ rfl, B8.cell 13 _ rfl, B8.cell 27 _ rfl⟩
  clear hK K
  try simp only [Act.put, List.setIfInBounds_toArray, List.set_cons_zero, List.set_cons_succ]
  refine wpAnyH_take (i := 12) (oi := { dst := some 5, op := Op.assign (.tmp 49), type := 28, pos := "ref.go:230", after := #[{ on := 11, ground := Ground.data }, { on := 11, ground := Ground.chain }, { on := 0, ground := Ground.phase }, { on := 1, ground := Ground.phase }, { on := 2, ground := Ground.phase }, { on := 3, ground := Ground.phase }, { on := 4, ground := Ground.phase }, { on := 5, ground := Ground.phase }, { on := 6, ground := Ground.phase }, { on := 7, ground := Ground.phase }, { on := 8, ground := Ground.phase }, { on := 9, ground := Ground.phase }, { on := 10, ground := Ground.phase }, { on := 11, ground := Ground.phase }], guard := none }) (v := (.slice a8 12 c8)) rfl (by kernel_rfl) (by kernel_rfl) (by kernel_rfl) (fun _ _ _ h => h) (Or.inl ⟨by rfl, ?_⟩) hHeld ?_
  · intro w9 hSw
    try dsimp only at hSw
    go_simp
  try simp only [Act.put, List.setIfInBounds_toArray, List.set_cons_zero, List.set_cons_succ]
  refine wpAnyH_done (by kernel_rfl) ?_ _
  refine NoPanic.normal ?_
  have h_Q3 := HQ.out.1
  have l_Q2 := HQ.out.2.1
  have l_Q3 := HQ.out.2.2
  have H_Q3 : Hid (Q2 ++ [80, x.fl % 256] = Q3) := h_Q3
  clear h_Q3
  clear K1 K2 K3 K4 f5 f6 f7 B5 B6 B4 T4 b4 T5 T6 hHeld
  go_wp2_with fail
  refine wp_region_noPanic ?_
  refine wp_region_held_drew (S := fun w' => Blk w' w.heap.size 38 #[.int .i64 x.t.fam, .int .i64 x.t.pr, .int .i64 x.t.s.fam, .int .u64 x.t.s.hi, .int .u64 x.t.s.lo, .int .i64 x.t.d.fam, .int .u64 x.t.d.hi, .int .u64 x.t.d.lo, .int .i64 x.t.sp, .int .i64 x.t.dp, .int .i64 x.fl, .int .u32 x.sq, .int .u32 x.ak, .int .i64 x.wn, .int .i64 x.ty, .int .i64 x.cd, .bool x.er, .int .i64 x.inn.fam, .int .i64 x.inn.pr, .int .i64 x.inn.s.fam, .int .u64 x.inn.s.hi, .int .u64 x.inn.s.lo, .int .i64 x.inn.d.fam, .int .u64 x.inn.d.hi, .int .u64 x.inn.d.lo, .int .i64 x.inn.sp, .int .i64 x.inn.dp, .slice a x.data.length c] ∧ Blk w' gT 26 #[.int .i64 x.t.fam, .int .i64 x.t.pr, .int .i64 x.t.s.fam, .int .u64 x.t.s.hi, .int .u64 x.t.s.lo, .int .i64 x.t.d.fam, .int .u64 x.t.d.hi, .int .u64 x.t.d.lo, .int .i64 x.t.sp, .int .i64 x.t.dp] ∧ w'.cell? ⟨gT, 8, none⟩ = some (.int .i64 x.t.sp) ∧ w'.cell? ⟨gT, 9, none⟩ = some (.int .i64 x.t.dp) ∧ w'.cell? ⟨w.heap.size, 10, none⟩ = some (.int .i64 x.fl) ∧ w'.cell? ⟨w.heap.size, 11, none⟩ = some (.int .u32 x.sq) ∧ w'.cell? ⟨w.heap.size, 12, none⟩ = some (.int .u32 x.ak) ∧ w'.cell? ⟨w.heap.size, 13, none⟩ = some (.int .i64 x.wn) ∧ w'.cell? ⟨w.heap.size, 27, none⟩ = some (.slice a x.data.length c)) (by kernel_rfl) (by exact ⟨B8.drew, T8.drew, T8.drew.cell 8 _ rfl, T8.drew.cell 9 _ rfl, B8.drew.cell 10 _ rfl, B8.drew.cell 11 _ rfl, B8.drew.cell 12 _ rfl, B8.drew.cell 13 _ rfl, B8.drew.cell 27 _ rfl⟩) (fun hHeld => ?_)
  refine wpAnyH_take (i := 0) (oi := { dst := some 50, op := Op.move (.tmp 5), type := 28, pos := "ref.go:231", after := #[], guard := none }) (v := (.slice a8 12 c8)) rfl (by kernel_rfl) (by kernel_rfl) (by kernel_rfl) (fun _ _ _ h => h) (Or.inl ⟨by rfl, ?_⟩) hHeld ?_
  · intro w9 hSw
    try dsimp only at hSw
    go_simp
  try simp only [Act.put, List.setIfInBounds_toArray, List.set_cons_zero, List.set_cons_succ]
  refine wpAnyH_take (i := 1) (oi := { dst := some 51, op := Op.fieldAddr 38 (.tmp 1) 1, type := 0, pos := "ref.go:231", after := #[], guard := none }) (v := (.pointer (some ⟨w.heap.size, 10, none⟩))) rfl (by kernel_rfl) (by kernel_rfl) (by kernel_rfl) (fun _ _ _ h => h) (Or.inl ⟨by rfl, ?_⟩) hHeld ?_
  · intro w9 hSw
    try dsimp only at hSw
    go_simp
  try simp only [Act.put, List.setIfInBounds_toArray, List.set_cons_zero, List.set_cons_succ]
  refine wpAnyH_take (i := 2) (oi := { dst := some 52, op := Op.load 3 (.tmp 51), type := 3, pos := "ref.go:231", after := #[{ on := 1, ground := Ground.data }], guard := none }) (v := (.int .i64 x.fl)) rfl (by kernel_rfl) (by kernel_rfl) (by kernel_rfl) (fun _ _ _ h => h) (Or.inl ⟨by rfl, ?_⟩) hHeld ?_
  · intro w9 hSw
    try dsimp only at hSw
    go_simp
  try simp only [Act.put, List.setIfInBounds_toArray, List.set_cons_zero, List.set_cons_succ]
  refine wpAnyH_take (i := 3) (oi := { dst := some 53, op := Op.convert 3 5 (.tmp 52), type := 5, pos := "ref.go:231", after := #[{ on := 2, ground := Ground.data }], guard := none }) (v := (.int .u8 (x.fl % 256))) rfl (by kernel_rfl) (by kernel_rfl) (by kernel_rfl) (fun _ _ _ h => h) (Or.inl ⟨by rfl, ?_⟩) hHeld ?_
  · intro w9 hSw
    try dsimp only at hSw
    go_simp
  try simp only [Act.put, List.setIfInBounds_toArray, List.set_cons_zero, List.set_cons_succ]
  refine wpAnyH_take (i := 6) (oi := { dst := some 56, op := Op.fieldAddr 38 (.tmp 1) 4, type := 0, pos := "ref.go:231", after := #[], guard := none }) (v := (.pointer (some ⟨w.heap.size, 13, none⟩))) rfl (by kernel_rfl) (by kernel_rfl) (by kernel_rfl) (fun _ _ _ h => h) (Or.inl ⟨by rfl, ?_⟩) hHeld ?_
  · intro w9 hSw
    try dsimp only at hSw
    go_simp
  try simp only [Act.put, List.setIfInBounds_toArray, List.set_cons_zero, List.set_cons_succ]
  refine wpAnyH_take (i := 7) (oi := { dst := some 57, op := Op.load 3 (.tmp 56), type := 3, pos := "ref.go:231", after := #[{ on := 6, ground := Ground.data }], guard := none }) (v := (.int .i64 x.wn)) rfl (by kernel_rfl) (by kernel_rfl) (by kernel_rfl) (fun _ _ _ h => h) (Or.inl ⟨by rfl, ?_⟩) hHeld ?_
  · intro w9 hSw
    try dsimp only at hSw
    go_simp
  try simp only [Act.put, List.setIfInBounds_toArray, List.set_cons_zero, List.set_cons_succ]
  refine wpAnyH_ready (rs := [4]) (by kernel_rfl) (by simp) ?_
  refine AllReadyH.cons (o := { dst := some 54, op := Op.buildSlice 28 2 #[(0, .const (.int .u8 80)), (1, .tmp 53)], type := 28, pos := "ref.go:231", after := #[{ on := 3, ground := Ground.data }], guard := none }) rfl (fun K hK => ?_) AllReadyH.nil
  go_simp
  have B9 := B8.drew.alloc (.cells #[.int .u8 80, .int .u8 (x.fl % 256)] 5)
  have T9 := T8.drew.alloc (.cells #[.int .u8 80, .int .u8 (x.fl % 256)] 5)
  have b9 := b8.drew.alloc b8.drew.size (.cells #[.int .u8 80, .int .u8 (x.fl % 256)] 5)
  have lt7 : gT < W7.heap.size := T7.lt
  have lt9 : gT < (W8.drew.alloc (.cells #[.int .u8 80, .int .u8 (x.fl % 256)] 5)).heap.size := T9.lt
  have O9 := Owns.alloc (owns_le (B' := gT + 1) lt7 (f8.owns.below ((Below.refl _ _).drew))) (.cells #[.int .u8 80, .int .u8 (x.fl % 256)] 5)
  have r9 := row_at W8.drew 5 [80, x.fl % 256] W8.drew.heap.size rfl (by simp) (bytes_tcp x.fl)
  rw [l_Q2] at O9
  refine hK.out _ _ (by exact ⟨B9, T9, T9.cell 8 _ rfl, T9.cell 9 _ rfl, B9.cell 10 _ rfl, B9.cell 11 _ rfl, B9.cell 12 _ rfl, B9.cell 13 _ rfl, B9.cell 27 _ rfl⟩) (fun hHeld => ?_)
  clear hK K
  try simp only [Act.put, List.setIfInBounds_toArray, List.set_cons_zero, List.set_cons_succ]
  refine wpAnyH_ready (rs := [5]) (by kernel_rfl) (by simp) ?_
  refine AllReadyH.cons (o := { dst := some 55, op := Op.call { callee := Callee.builtin Builtin.append, args := #[.tmp 50, .tmp 54], argTypes := #[28, 28] }, type := 28, pos := "ref.go:231", after := #[{ on := 0, ground := Ground.data }, { on := 4, ground := Ground.data }], guard := none }) rfl (fun K hK => ?_) AllReadyH.nil
  refine step_app2 _ rfl _ _ rfl (gT + 1) _ Q2 rfl O9 f8.row.bytes _ 2 2 [80, x.fl % 256] (by rfl) rfl r9 (fun hh => by cases hh) Q3 H_Q3.out (by omega) lt9 ?_
  intro a10 c10 W10 O10 rm10 nl10 r10 bb
  rw [l_Q3]
  have b10 : Below w.heap.size w W10 := b9.trans (bb.mono (by omega))
  have B10 := B9.below bb (by omega)
  have T10 := T9.below bb (Nat.lt_succ_self _)
  refine hK.out _ _ (by exact ⟨B10, T10, T10.cell 8 _ rfl, T10.cell 9 _ rfl, B10.cell 10 _ rfl, B10.cell 11 _ rfl, B10.cell 12 _ rfl, B10.cell 13 _ rfl, B10.cell 27 _ rfl⟩) (fun hHeld => ?_)
  clear hK K
  try simp only [Act.put, List.setIfInBounds_toArray, List.set_cons_zero, List.set_cons_succ]
  refine wpAnyH_ready (rs := [8]) (by kernel_rfl) (by simp) ?_
  refine AllReadyH.cons (o := { dst := some 58, op := Op.call { callee := Callee.value (.func 30), args := #[.tmp 55, .tmp 57], argTypes := #[28, 3] }, type := 28, pos := "ref.go:231", after := #[{ on := 5, ground := Ground.data }, { on := 7, ground := Ground.data }, { on := 5, ground := Ground.chain }], guard := none }) rfl (fun K hK => ?_) AllReadyH.nil
  go_simp
  refine Calls.mono (K5.out _ _ _ r10 nl10) ?_
  rintro e W11 ⟨a11, c11, rfl, f11⟩
  have B11 := B10.kept f11.below
  have T11 := T10.kept f11.below
  have b11 : Below w.heap.size w W11 := b10.trans (f11.below.mono b10.size)
  refine hK.out _ _ ?_ (fun hHeld => ?_)
  · exact ⟨B11, T11, T11.cell 8 _ rfl, T11.cell 9 _ rfl, B11.cell 10 _ rfl, B11.cell 11 _ rfl, B11.cell 12 _ rfl, B11.cell 13 _ rfl, B11.cell 27 _ rfl⟩
  clear hK K
  try simp only [Act.put, List.setIfInBounds_toArray, List.set_cons_zero, List.set_cons_succ]
  refine wpAnyH_take (i := 9) (oi := { dst := some 5, op := Op.assign (.tmp 58), type := 28, pos := "ref.go:231", after := #[{ on := 8, ground := Ground.data }, { on := 8, ground := Ground.chain }, { on := 0, ground := Ground.phase }, { on := 1, ground := Ground.phase }, { on := 2, ground := Ground.phase }, { on := 3, ground := Ground.phase }, { on := 4, ground := Ground.phase }, { on := 5, ground := Ground.phase }, { on := 6, ground := Ground.phase }, { on := 7, ground := Ground.phase }, { on := 8, ground := Ground.phase }], guard := none }) (v := (.slice a11 16 c11)) rfl (by kernel_rfl) (by kernel_rfl) (by kernel_rfl) (fun _ _ _ h => h) (Or.inl ⟨by rfl, ?_⟩) hHeld ?_
  · intro w9 hSw
    try dsimp only at hSw
    go_simp
  try simp only [Act.put, List.setIfInBounds_toArray, List.set_cons_zero, List.set_cons_succ]
  refine wpAnyH_done (by kernel_rfl) ?_ _
  refine NoPanic.normal ?_
  have lQ4 := HHD.out.2.2
  have OW' := owns_le (B' := gT + 1) T10.lt f11.owns
  have rb' := f11.row.bytes
  clear K5 f8 f11 B7 B8 B9 B10 T7 T8 T9 T10 r9 r10 O9 O10 hHeld l_Q2 l_Q3 b5 b6 b7 b8 b9 b10
  rw [lQ4] at OW'
  go_wp2_with (at_builtin; refine wpList_app2 _ rfl _ _ rfl (gT + 1) _ Q4 rfl (OW'.alloc _) rb' _ 4 [0, 0, 0, 0] rfl ?row (fun hh => by cases hh) HD HHD.out.1 ?c1 ?c2 ?_)
  case row => exact row_at W11 5 [0, 0, 0, 0] W11.heap.size rfl (by simp) bytes_0000
  case c1 => have := HHD.out.2.1; omega
  case c2 => have := T11.lt; simp only [World.size_alloc]; omega
  intro ah ch Wh OW rmh nlh rh bb _
  have bz := b11.alloc b11.size (.cells #[.int .u8 0, .int .u8 0, .int .u8 0, .int .u8 0] 5)
  have bh : Below w.heap.size w Wh := bz.trans (bb.mono (by omega))
  have Bh := (B11.alloc (.cells #[.int .u8 0, .int .u8 0, .int .u8 0, .int .u8 0] 5)).below bb (by omega)
  have Th := (T11.alloc (.cells #[.int .u8 0, .int .u8 0, .int .u8 0, .int .u8 0] 5)).below bb (Nat.lt_succ_self _)
  have rb := rh.bytes
  clear OW' rb' bb bz b11 B11 T11 rh lQ4 HHD
  have e27 := Bh.cell 27 (.slice a x.data.length c) rfl
  have rx := h.below bh
  go_wp2_with (at_builtin; refine wpList_app2 _ rfl _ _ rfl (gT + 1) _ HD rfl OW rb a c x.data rfl rx hnil BD HBD.out ?c1 ?c2 ?_)
  case c1 => omega
  case c2 => exact Th.lt
  intro aB cB WB OB rmB nlB rB bb _
  have bB : Below w.heap.size w WB := bh.trans (bb.mono (by omega))
  have TB := Th.below bb (Nat.lt_succ_self _)
  clear OW rb Bh Th bh e27 rx bb HBD
  have e0 := TB.cell 0 (.int .i64 x.t.fam) rfl
  have e1 := TB.cell 1 (.int .i64 x.t.pr) rfl
  have e2 := TB.cell 2 (.int .i64 x.t.s.fam) rfl
  have e3 := TB.cell 3 (.int .u64 x.t.s.hi) rfl
  have e4 := TB.cell 4 (.int .u64 x.t.s.lo) rfl
  have e5 := TB.cell 5 (.int .i64 x.t.d.fam) rfl
  have e6 := TB.cell 6 (.int .u64 x.t.d.hi) rfl
  have e7 := TB.cell 7 (.int .u64 x.t.d.lo) rfl
  have hp1 : (x.t.pr != 1) = true := by simpa using hn1
  go_wp2_with fail
  refine Calls.mono (KP.out hn1 _) ?_
  rintro e W9 ⟨a9, c9, rfl, f9⟩
  have b9 : Below w.heap.size w W9 := bB.trans (f9.below.mono bB.size)
  have T9 := TB.kept f9.below
  have r9 := rB.below f9.below
  have O9 := OB.below f9.below
  have q9 := f9.row
  clear KP f9 TB bB rB OB
  go_wp2_with fail
  clear e0 e1 e2 e3 e4 e5 e6 e7
  refine Calls.mono (KC.out _ _ _ _ _ q9 r9) ?_
  rintro e W10 ⟨rfl, hW10⟩
  have b10 : Below w.heap.size w W10 := by rw [hW10]; exact b9.alloc b9.size _
  have T10 : Blk W10 gT 26 #[.int .i64 x.t.fam, .int .i64 x.t.pr, .int .i64 x.t.s.fam, .int .u64 x.t.s.hi, .int .u64 x.t.s.lo, .int .i64 x.t.d.fam, .int .u64 x.t.d.hi, .int .u64 x.t.d.lo, .int .i64 x.t.sp, .int .i64 x.t.dp] := by rw [hW10]; exact T9.alloc _
  have r10 : Row W10 aB BD := by rw [hW10]; exact r9.alloc _
  have O10 : Owns W10 (gT + 1) (.slice aB BD.length cB) BD := by rw [hW10]; exact O9.alloc _
  have t1 := T10.cell 1 (.int .i64 x.t.pr) rfl
  clear KC hW10 T9 b9 r9 O9 q9
  obtain ⟨g, rfl, hg1, hg2, y1, z1, O11⟩ := O10.write rfl 16 (by omega)
  obtain ⟨g', hg', _, _, y2, z2, _⟩ := O10.write rfl (16 + 1) (by omega)
  cases hg'
  have O12 := (O11 (CK / 256)).write (by simp) (16 + 1) (by omega)
  obtain ⟨g', hg', _, _, _, _, O12⟩ := O12
  cases hg'
  have Of := O12 (CK % 256)
  rw [HMD.out] at Of
  have bf := (b10.setCell (p := ⟨g, 16, none⟩) (show w.heap.size ≤ g by omega) (.int .u8 (CK / 256))).setCell (p := ⟨g, 16 + 1, none⟩) (show w.heap.size ≤ g by omega) (.int .u8 (CK % 256))
  have lM' : Hid (MD.length = BD.length) := by
    have : MD.length = BD.length := by rw [← HMD.out]; simp
    exact this
  have bM : M.Bytes MD := by
    rw [← HMD.out]
    exact (r10.bytes.set 16 (by omega)).set (16 + 1) (by omega)
  have HOf : Hid (Owns ((W10.setCell ⟨g, 16, none⟩ (.int .u8 (CK / 256))).setCell ⟨g, 16 + 1, none⟩ (.int .u8 (CK % 256))) (gT + 1) (.slice (some ⟨g, 0, none⟩) BD.length cB) MD) := Of
  have Hbf : Hid _ := bf
  clear O11 O12 O10 Of bf T10
  have e : CK = SU := by rw [HCK.out, if_neg (by intro hh; exact hn17 hh.2)]
  have h17' : (x.t.pr == 17) = false := by simpa using hn17
  subst e
  clear HCK
  go_wp2
  go_ret2
  have lM := lM'.out
  have Of : Owns _ (gT + 1) (.slice (some ⟨g, 0, none⟩) BD.length cB) MD := HOf.out
  rw [← lM] at Of
  have Rf := Owns.row Of (by omega) bM
  exact ⟨some ⟨g, 0, none⟩, cB, by rw [lM]; rfl, owns_le (by omega) Of, by omega, nlB, Rf, Hbf.out⟩

set_option maxRecDepth 100000 in
set_option maxHeartbeats 4000000 in
theorem rbuild_17 (x : Sg) (a : Option Addr) (c : Nat) (w : World) (h : Row w a x.data) (hnil : a = none → c = 0) (ok : x.ok) (hm : mayB x = true) (h6 : ¬ x.t.pr = 6) (h17 : x.t.pr = 17) :
    Calls Try.prog 20 #[.agg #[.int .i64 x.t.fam, .int .i64 x.t.pr, .int .i64 x.t.s.fam, .int .u64 x.t.s.hi, .int .u64 x.t.s.lo, .int .i64 x.t.d.fam, .int .u64 x.t.d.hi, .int .u64 x.t.d.lo, .int .i64 x.t.sp, .int .i64 x.t.dp, .int .i64 x.fl, .int .u32 x.sq, .int .u32 x.ak, .int .i64 x.wn, .int .i64 x.ty, .int .i64 x.cd, .bool x.er, .int .i64 x.inn.fam, .int .i64 x.inn.pr, .int .i64 x.inn.s.fam, .int .u64 x.inn.s.hi, .int .u64 x.inn.s.lo, .int .i64 x.inn.d.fam, .int .u64 x.inn.d.hi, .int .u64 x.inn.d.lo, .int .i64 x.inn.sp, .int .i64 x.inn.dp, .slice a x.data.length c]] w fun e w' => ∃ a' c', e = .returned (.tuple #[.slice a' (madeB x).length c', .int .i64 0]) ∧ Fresh w w' a' c' (madeB x) := by
  obtain ⟨W1, hW1⟩ : ∃ W1, w.alloc (.cells #[.int .i64 x.t.fam, .int .i64 x.t.pr, .int .i64 x.t.s.fam, .int .u64 x.t.s.hi, .int .u64 x.t.s.lo, .int .i64 x.t.d.fam, .int .u64 x.t.d.hi, .int .u64 x.t.d.lo, .int .i64 x.t.sp, .int .i64 x.t.dp, .int .i64 x.fl, .int .u32 x.sq, .int .u32 x.ak, .int .i64 x.wn, .int .i64 x.ty, .int .i64 x.cd, .bool x.er, .int .i64 x.inn.fam, .int .i64 x.inn.pr, .int .i64 x.inn.s.fam, .int .u64 x.inn.s.hi, .int .u64 x.inn.s.lo, .int .i64 x.inn.d.fam, .int .u64 x.inn.d.hi, .int .u64 x.inn.d.lo, .int .i64 x.inn.sp, .int .i64 x.inn.dp, .slice a x.data.length c] 38) = W1 := ⟨_, rfl⟩
  have b1 : Below w.heap.size w W1 := by rw [← hW1]; exact (Below.refl _ _).alloc (Nat.le_refl _) _
  have B1 : Blk W1 w.heap.size 38 #[.int .i64 x.t.fam, .int .i64 x.t.pr, .int .i64 x.t.s.fam, .int .u64 x.t.s.hi, .int .u64 x.t.s.lo, .int .i64 x.t.d.fam, .int .u64 x.t.d.hi, .int .u64 x.t.d.lo, .int .i64 x.t.sp, .int .i64 x.t.dp, .int .i64 x.fl, .int .u32 x.sq, .int .u32 x.ak, .int .i64 x.wn, .int .i64 x.ty, .int .i64 x.cd, .bool x.er, .int .i64 x.inn.fam, .int .i64 x.inn.pr, .int .i64 x.inn.s.fam, .int .u64 x.inn.s.hi, .int .u64 x.inn.s.lo, .int .i64 x.inn.d.fam, .int .u64 x.inn.d.hi, .int .u64 x.inn.d.lo, .int .i64 x.inn.sp, .int .i64 x.inn.dp, .slice a x.data.length c] := by rw [← hW1]; exact blk_new _ _ _
  have KM : Hid (Calls Try.prog 44 #[.agg #[.int .i64 x.t.fam, .int .i64 x.t.pr, .int .i64 x.t.s.fam, .int .u64 x.t.s.hi, .int .u64 x.t.s.lo, .int .i64 x.t.d.fam, .int .u64 x.t.d.hi, .int .u64 x.t.d.lo, .int .i64 x.t.sp, .int .i64 x.t.dp, .int .i64 x.fl, .int .u32 x.sq, .int .u32 x.ak, .int .i64 x.wn, .int .i64 x.ty, .int .i64 x.cd, .bool x.er, .int .i64 x.inn.fam, .int .i64 x.inn.pr, .int .i64 x.inn.s.fam, .int .u64 x.inn.s.hi, .int .u64 x.inn.s.lo, .int .i64 x.inn.d.fam, .int .u64 x.inn.d.hi, .int .u64 x.inn.d.lo, .int .i64 x.inn.sp, .int .i64 x.inn.dp, .slice a x.data.length c]] W1 fun e w' => e = .returned (.bool true) ∧ Below W1.heap.size W1 w') := by
    have := rMay_any x a c W1 ok h.small
    rw [hm] at this
    exact this
  have hPl : placeB x = 6 := by unfold placeB; rw [if_neg h6, if_pos h17]
  have hn1 : ¬ x.t.pr = 1 := by omega
  have e6 : (x.t.pr == 6) = false := by simpa using h6
  have e17 : (x.t.pr == 17) = true := by simpa using h17
  have hsm := h.small
  have w8 : IntKind.i64.wrap (8 + (x.data.length : Int)) = 8 + (x.data.length : Int) := wraps_i64 _ (by omega) (by omega)
  obtain ⟨P1, h_P1⟩ : ∃ L, put16 [] x.t.sp = L := ⟨_, rfl⟩
  have l_P1 : P1.length = 2 := by rw [← h_P1]; simp [put16, put32]
  obtain ⟨P2, h_P2⟩ : ∃ L, put16 P1 x.t.dp = L := ⟨_, rfl⟩
  have l_P2 : P2.length = 4 := by rw [← h_P2]; simp [put16, put32, l_P1]
  obtain ⟨Q4, h_Q4⟩ : ∃ L, put16 P2 (8 + (x.data.length : Int)) = L := ⟨_, rfl⟩
  have l_Q4 : Q4.length = 6 := by rw [← h_Q4]; simp [put16, put32, l_P2]
  obtain ⟨HD, h_HD⟩ : ∃ L, Q4 ++ [0, 0] = L := ⟨_, rfl⟩
  have l_HD : HD.length = 8 := by rw [← h_HD]; simp [put16, put32, l_Q4]
  have hHD : headB x = HD := by
    unfold headB portB
    rw [if_neg h6, if_pos h17, h_P1, h_P2, h_Q4, h_HD]
  have K1 : Hid (∀ W a c, Row W a [] → (a = none → c = 0) → Calls Try.prog 30 #[.slice a 0 c, .int .i64 x.t.sp] W fun e w' => ∃ a' c', e = .returned (.slice a' 2 c') ∧ Fresh W w' a' c' P1) := fun W a c hr hn => by
    have := rput16_any a c [] x.t.sp W hr hn (by simp)
    rw [h_P1, l_P1] at this
    exact this
  have K2 : Hid (∀ W a c, Row W a P1 → (a = none → c = 0) → Calls Try.prog 30 #[.slice a 2 c, .int .i64 x.t.dp] W fun e w' => ∃ a' c', e = .returned (.slice a' 4 c') ∧ Fresh W w' a' c' P2) := fun W a c hr hn => by
    have := rput16_any a c P1 x.t.dp W hr hn (by omega)
    rw [h_P2, l_P2, l_P1] at this
    exact this
  have K3 : Hid (∀ W a c, Row W a P2 → (a = none → c = 0) → Calls Try.prog 30 #[.slice a 4 c, .int .i64 (8 + (x.data.length : Int))] W fun e w' => ∃ a' c', e = .returned (.slice a' 6 c') ∧ Fresh W w' a' c' Q4) := fun W a c hr hn => by
    have := rput16_any a c P2 (8 + (x.data.length : Int)) W hr hn (by omega)
    rw [h_Q4, l_Q4, l_P2] at this
    exact this
  obtain ⟨BD, hBD⟩ : ∃ L, bodyB x = L := ⟨_, rfl⟩
  have hBD' : HD ++ x.data = BD := by rw [← hBD, ← hHD]; rfl
  have lB : BD.length = HD.length + x.data.length := by rw [← hBD', List.length_append]
  have hLD : x.data.length ≤ 65000 := (may5 hm).len
  have hE : endsB x.t.fam x.t.s x.t.d = true := (may5 hm).ends
  have lB2 : BD.length ≤ 65020 := by omega
  have lB3 : 6 + 2 ≤ BD.length := by omega
  obtain ⟨L0, hL0⟩ : ∃ L, ahead x.t.s x.t.d x.t.pr BD.length = L := ⟨_, rfl⟩
  obtain ⟨SU, hSU⟩ : ∃ s, sumB x = s := ⟨_, rfl⟩
  have hSU' : 65535 - M.sumOf [L0, BD] = SU := by rw [← hSU, ← hL0, ← hBD]; rfl
  have qS := sumB_bd x
  rw [hSU] at qS
  obtain ⟨CK, hCK⟩ : ∃ s, checkB x = s := ⟨_, rfl⟩
  have qC := checkB_bd x
  rw [hCK] at qC
  obtain ⟨MD, hMD⟩ : ∃ s, madeB x = s := ⟨_, rfl⟩
  have hMD' : (BD.set 6 (CK / 256)).set (6 + 1) (CK % 256) = MD := by rw [← hMD, ← hBD, ← hCK]; unfold madeB; rw [hPl]
  rw [hMD]
  have KP : Hid (¬ x.t.pr = 1 → ∀ W, Calls Try.prog 12 #[.agg #[.int .i64 x.t.s.fam, .int .u64 x.t.s.hi, .int .u64 x.t.s.lo], .agg #[.int .i64 x.t.d.fam, .int .u64 x.t.d.hi, .int .u64 x.t.d.lo], .int .i64 x.t.pr, .int .i64 (BD.length : Int)] W fun e w' => ∃ a c, e = .returned (.slice a L0.length c) ∧ Fresh W w' a c L0) := fun h1 W => by
    have := rpseudo_any x.t.s.fam x.t.s.hi x.t.s.lo x.t.d.fam x.t.d.hi x.t.d.lo x.t.pr (BD.length : Int) W ok.s ok.d
    have e : pseudo ⟨x.t.s.fam, x.t.s.hi, x.t.s.lo⟩ ⟨x.t.d.fam, x.t.d.hi, x.t.d.lo⟩ x.t.pr (BD.length : Int) = L0 := by
      rw [← hL0]
      unfold ahead
      rw [if_neg h1]
    rw [e] at this
    exact this
  have H01 : Hid (x.t.pr = 1 → L0 = []) := fun h1 => by
    rw [← hL0]
    unfold ahead
    rw [if_pos h1]
  have KC : Hid (∀ W a' c' a2 c2, Row W a' L0 → Row W a2 BD → Calls Try.prog 46 #[.slice (some ⟨W.heap.size, 0, none⟩) 2 2] (W.alloc (.cells #[.slice a' L0.length c', .slice a2 BD.length c2] 28)) fun e w' => e = .returned (.int .i64 (65535 - SU)) ∧ w' = W.alloc (.cells #[.slice a' L0.length c', .slice a2 BD.length c2] 28)) := fun W a' c' a2 c2 h1 h2 => by
    have := refsum_any (some ⟨W.heap.size, 0, none⟩) 2 [L0, BD] _ (rowss_two W 28 W.heap.size rfl a' a2 c' c2 L0 BD h1 h2)
    rw [show M.sumOf [L0, BD] = 65535 - SU by omega] at this
    exact this
  have HBD : Hid (HD ++ x.data = BD) := hBD'
  have HMD : Hid ((BD.set 6 (CK / 256)).set (6 + 1) (CK % 256) = MD) := hMD'
  have HCK : Hid (CK = if SU = 0 ∧ x.t.pr = 17 then 65535 else SU) := by
    have : CK = if SU = 0 ∧ x.t.pr = 17 then 65535 else SU := by rw [← hCK, ← hSU]; rfl
    exact this
  have wsu : IntKind.i64.wrap (65535 - (65535 - SU)) = SU := by rw [IntKind.wrap_i64]; omega
  have wc1 : IntKind.u8.wrap (CK / 256) = CK / 256 := by rw [wrapU8]; omega
  have wc2 : IntKind.u8.wrap CK = CK % 256 := wrapU8 CK
  have j2 : (6 : Int) < (BD.length : Int) := by omega
  have j3 : (6 : Int) + 1 < (BD.length : Int) := by omega
  have j4 : (7 : Int) < (BD.length : Int) := by omega
  clear hBD hBD' hL0 hSU hSU' hCK hMD hMD' lB hE hPl hHD
  have HHD : Hid (Q4 ++ [0, 0] = HD ∧ HD.length = 8 ∧ Q4.length = 6) := ⟨h_HD, l_HD, l_Q4⟩
  clear h_P1 h_P2 h_Q4 h_HD l_P1 l_P2 l_Q4 l_HD h6
  have H17 : Hid (x.t.pr = 17) := h17
  clear h17
  go_enter Try.func20, Try.ntmps20
  go_wp2_with (refine wpList_load_row rfl _ _ rfl w.heap.size (by rfl) _ _ _ _ B1 Try.underlying38 rfl (by kernel_rfl) ?_)
  refine Calls.mono KM.out ?_
  rintro e W2 ⟨rfl, bb⟩
  have b2 : Below w.heap.size w W2 := b1.trans (bb.mono b1.size)
  have B2 := B1.kept bb
  clear KM bb B1 b1 hW1
  obtain ⟨gT, hgT⟩ : ∃ g, W2.heap.size = g := ⟨_, rfl⟩
  have g2 : w.heap.size < gT := by rw [← hgT]; exact B2.lt
  obtain ⟨W3, hW3⟩ : ∃ W, W2.alloc (.cells #[.int .i64 0, .int .i64 0, .int .i64 0, .int .u64 0, .int .u64 0, .int .i64 0, .int .u64 0, .int .u64 0, .int .i64 0, .int .i64 0] 26) = W := ⟨_, rfl⟩
  have b3 : Below w.heap.size w W3 := by rw [← hW3]; exact b2.alloc b2.size _
  have B3 : Blk W3 w.heap.size 38 #[.int .i64 x.t.fam, .int .i64 x.t.pr, .int .i64 x.t.s.fam, .int .u64 x.t.s.hi, .int .u64 x.t.s.lo, .int .i64 x.t.d.fam, .int .u64 x.t.d.hi, .int .u64 x.t.d.lo, .int .i64 x.t.sp, .int .i64 x.t.dp, .int .i64 x.fl, .int .u32 x.sq, .int .u32 x.ak, .int .i64 x.wn, .int .i64 x.ty, .int .i64 x.cd, .bool x.er, .int .i64 x.inn.fam, .int .i64 x.inn.pr, .int .i64 x.inn.s.fam, .int .u64 x.inn.s.hi, .int .u64 x.inn.s.lo, .int .i64 x.inn.d.fam, .int .u64 x.inn.d.hi, .int .u64 x.inn.d.lo, .int .i64 x.inn.sp, .int .i64 x.inn.dp, .slice a x.data.length c] := by rw [← hW3]; exact B2.alloc _
  have T3 : Blk W3 gT 26 #[.int .i64 0, .int .i64 0, .int .i64 0, .int .u64 0, .int .u64 0, .int .i64 0, .int .u64 0, .int .u64 0, .int .i64 0, .int .i64 0] := by rw [← hW3, ← hgT]; exact blk_new _ _ _
  have b4 := below_setRow b3 (Nat.le_of_lt g2) #[.int .i64 x.t.fam, .int .i64 x.t.pr, .int .i64 x.t.s.fam, .int .u64 x.t.s.hi, .int .u64 x.t.s.lo, .int .i64 x.t.d.fam, .int .u64 x.t.d.hi, .int .u64 x.t.d.lo, .int .i64 x.t.sp, .int .i64 x.t.dp]
  have B4 := B3.other (show w.heap.size ≠ gT by omega) #[.int .i64 x.t.fam, .int .i64 x.t.pr, .int .i64 x.t.s.fam, .int .u64 x.t.s.hi, .int .u64 x.t.s.lo, .int .i64 x.t.d.fam, .int .u64 x.t.d.hi, .int .u64 x.t.d.lo, .int .i64 x.t.sp, .int .i64 x.t.dp]
  have T4 := T3.set #[.int .i64 x.t.fam, .int .i64 x.t.pr, .int .i64 x.t.s.fam, .int .u64 x.t.s.hi, .int .u64 x.t.s.lo, .int .i64 x.t.d.fam, .int .u64 x.t.d.hi, .int .u64 x.t.d.lo, .int .i64 x.t.sp, .int .i64 x.t.dp]
  obtain ⟨W4, hW4⟩ : ∃ W, W3.setRow gT #[.int .i64 x.t.fam, .int .i64 x.t.pr, .int .i64 x.t.s.fam, .int .u64 x.t.s.hi, .int .u64 x.t.s.lo, .int .i64 x.t.d.fam, .int .u64 x.t.d.hi, .int .u64 x.t.d.lo, .int .i64 x.t.sp, .int .i64 x.t.dp] = W := ⟨_, rfl⟩
  rw [hW4] at b4 B4 T4
  have HW4 : Hid _ := hW4
  have t1 := T4.cell 1 (.int .i64 x.t.pr) rfl
  clear hW4
  go_wp2_with (first
    | (refine wpList_load_sub rfl _ _ rfl w.heap.size 0 38 (by rfl) _ #[.int .i64 x.t.fam, .int .i64 x.t.pr, .int .i64 x.t.s.fam, .int .u64 x.t.s.hi, .int .u64 x.t.s.lo, .int .i64 x.t.d.fam, .int .u64 x.t.d.hi, .int .u64 x.t.d.lo, .int .i64 x.t.sp, .int .i64 x.t.dp] B2 (by rfl) Try.underlying26 (by kernel_rfl) ?_)
    | (refine wpList_store_row rfl _ _ _ rfl gT #[.int .i64 x.t.fam, .int .i64 x.t.pr, .int .i64 x.t.s.fam, .int .u64 x.t.s.hi, .int .u64 x.t.s.lo, .int .i64 x.t.d.fam, .int .u64 x.t.d.hi, .int .u64 x.t.d.lo, .int .i64 x.t.sp, .int .i64 x.t.dp] (by rfl) (by rfl) _ _ T3 (by kernel_rfl) (by rfl) (by kernel_rfl) ?_; rw [HW4.out]))
  clear HW4 hW3 hgT B3 T3 b3 B2 b2
  refine wp_region_noPanic ?_
  refine wp_region_held_drew (S := fun w' => Blk w' w.heap.size 38 #[.int .i64 x.t.fam, .int .i64 x.t.pr, .int .i64 x.t.s.fam, .int .u64 x.t.s.hi, .int .u64 x.t.s.lo, .int .i64 x.t.d.fam, .int .u64 x.t.d.hi, .int .u64 x.t.d.lo, .int .i64 x.t.sp, .int .i64 x.t.dp, .int .i64 x.fl, .int .u32 x.sq, .int .u32 x.ak, .int .i64 x.wn, .int .i64 x.ty, .int .i64 x.cd, .bool x.er, .int .i64 x.inn.fam, .int .i64 x.inn.pr, .int .i64 x.inn.s.fam, .int .u64 x.inn.s.hi, .int .u64 x.inn.s.lo, .int .i64 x.inn.d.fam, .int .u64 x.inn.d.hi, .int .u64 x.inn.d.lo, .int .i64 x.inn.sp, .int .i64 x.inn.dp, .slice a x.data.length c] ∧ Blk w' gT 26 #[.int .i64 x.t.fam, .int .i64 x.t.pr, .int .i64 x.t.s.fam, .int .u64 x.t.s.hi, .int .u64 x.t.s.lo, .int .i64 x.t.d.fam, .int .u64 x.t.d.hi, .int .u64 x.t.d.lo, .int .i64 x.t.sp, .int .i64 x.t.dp] ∧ w'.cell? ⟨gT, 8, none⟩ = some (.int .i64 x.t.sp) ∧ w'.cell? ⟨gT, 9, none⟩ = some (.int .i64 x.t.dp) ∧ w'.cell? ⟨w.heap.size, 10, none⟩ = some (.int .i64 x.fl) ∧ w'.cell? ⟨w.heap.size, 11, none⟩ = some (.int .u32 x.sq) ∧ w'.cell? ⟨w.heap.size, 12, none⟩ = some (.int .u32 x.ak) ∧ w'.cell? ⟨w.heap.size, 13, none⟩ = some (.int .i64 x.wn) ∧ w'.cell? ⟨w.heap.size, 27, none⟩ = some (.slice a x.data.length c)) (by kernel_rfl) (by exact ⟨B4.drew, T4.drew, T4.drew.cell 8 _ rfl, T4.drew.cell 9 _ rfl, B4.drew.cell 10 _ rfl, B4.drew.cell 11 _ rfl, B4.drew.cell 12 _ rfl, B4.drew.cell 13 _ rfl, B4.drew.cell 27 _ rfl⟩) (fun hHeld => ?_)
  refine wpAnyH_take (i := 0) (oi := { dst := some 64, op := Op.fieldAddr 26 (.tmp 4) 4, type := 0, pos := "ref.go:235", after := #[], guard := none }) (v := (.pointer (some ⟨gT, 8, none⟩))) rfl (by kernel_rfl) (by kernel_rfl) (by kernel_rfl) (fun _ _ _ h => h) (Or.inl ⟨by rfl, ?_⟩) hHeld ?_
  · intro w9 hSw
    try dsimp only at hSw
    go_simp
  try simp only [Act.put, List.setIfInBounds_toArray, List.set_cons_zero, List.set_cons_succ]
  refine wpAnyH_take (i := 1) (oi := { dst := some 65, op := Op.load 3 (.tmp 64), type := 3, pos := "ref.go:235", after := #[{ on := 0, ground := Ground.data }], guard := none }) (v := (.int .i64 x.t.sp)) rfl (by kernel_rfl) (by kernel_rfl) (by kernel_rfl) (fun _ _ _ h => h) (Or.inl ⟨by rfl, ?_⟩) hHeld ?_
  · intro w9 hSw
    try dsimp only at hSw
    go_simp
  try simp only [Act.put, List.setIfInBounds_toArray, List.set_cons_zero, List.set_cons_succ]
  refine wpAnyH_take (i := 3) (oi := { dst := some 67, op := Op.fieldAddr 26 (.tmp 4) 5, type := 0, pos := "ref.go:235", after := #[], guard := none }) (v := (.pointer (some ⟨gT, 9, none⟩))) rfl (by kernel_rfl) (by kernel_rfl) (by kernel_rfl) (fun _ _ _ h => h) (Or.inl ⟨by rfl, ?_⟩) hHeld ?_
  · intro w9 hSw
    try dsimp only at hSw
    go_simp
  try simp only [Act.put, List.setIfInBounds_toArray, List.set_cons_zero, List.set_cons_succ]
  refine wpAnyH_take (i := 4) (oi := { dst := some 68, op := Op.load 3 (.tmp 67), type := 3, pos := "ref.go:235", after := #[{ on := 3, ground := Ground.data }], guard := none }) (v := (.int .i64 x.t.dp)) rfl (by kernel_rfl) (by kernel_rfl) (by kernel_rfl) (fun _ _ _ h => h) (Or.inl ⟨by rfl, ?_⟩) hHeld ?_
  · intro w9 hSw
    try dsimp only at hSw
    go_simp
  try simp only [Act.put, List.setIfInBounds_toArray, List.set_cons_zero, List.set_cons_succ]
  refine wpAnyH_take (i := 6) (oi := { dst := some 70, op := Op.fieldAddr 38 (.tmp 1) 9, type := 0, pos := "ref.go:235", after := #[], guard := none }) (v := (.pointer (some ⟨w.heap.size, 27, none⟩))) rfl (by kernel_rfl) (by kernel_rfl) (by kernel_rfl) (fun _ _ _ h => h) (Or.inl ⟨by rfl, ?_⟩) hHeld ?_
  · intro w9 hSw
    try dsimp only at hSw
    go_simp
  try simp only [Act.put, List.setIfInBounds_toArray, List.set_cons_zero, List.set_cons_succ]
  refine wpAnyH_take (i := 7) (oi := { dst := some 71, op := Op.load 28 (.tmp 70), type := 28, pos := "ref.go:235", after := #[{ on := 6, ground := Ground.data }], guard := none }) (v := (.slice a x.data.length c)) rfl (by kernel_rfl) (by kernel_rfl) (by kernel_rfl) (fun _ _ _ h => h) (Or.inl ⟨by rfl, ?_⟩) hHeld ?_
  · intro w9 hSw
    try dsimp only at hSw
    go_simp
  try simp only [Act.put, List.setIfInBounds_toArray, List.set_cons_zero, List.set_cons_succ]
  refine wpAnyH_take (i := 8) (oi := { dst := some 72, op := Op.call { callee := Callee.builtin Builtin.len, args := #[.tmp 71], argTypes := #[28] }, type := 3, pos := "ref.go:235", after := #[{ on := 7, ground := Ground.data }], guard := none }) (v := (.int .i64 (x.data.length : Int))) rfl (by kernel_rfl) (by kernel_rfl) (by kernel_rfl) (fun _ _ _ h => h) (Or.inl ⟨by rfl, ?_⟩) hHeld ?_
  · intro w9 hSw
    try dsimp only at hSw
    go_simp
  try simp only [Act.put, List.setIfInBounds_toArray, List.set_cons_zero, List.set_cons_succ]
  refine wpAnyH_take (i := 9) (oi := { dst := some 73, op := Op.binOp BinOp.add 3 (.const (.int .i64 8)) (.tmp 72) 3, type := 3, pos := "ref.go:235", after := #[{ on := 8, ground := Ground.data }], guard := none }) (v := (.int .i64 (8 + (x.data.length : Int)))) rfl (by kernel_rfl) (by kernel_rfl) (by kernel_rfl) (fun _ _ _ h => h) (Or.inl ⟨by rfl, ?_⟩) hHeld ?_
  · intro w9 hSw
    try dsimp only at hSw
    go_simp
  try simp only [Act.put, List.setIfInBounds_toArray, List.set_cons_zero, List.set_cons_succ]
  refine wpAnyH_ready (rs := [2]) (by kernel_rfl) (by simp) ?_
  refine AllReadyH.cons (o := { dst := some 66, op := Op.call { callee := Callee.value (.func 30), args := #[.const (.slice none 0 0), .tmp 65], argTypes := #[28, 3] }, type := 28, pos := "ref.go:235", after := #[{ on := 1, ground := Ground.data }], guard := none }) rfl (fun K hK => ?_) AllReadyH.nil
  go_simp
  refine Calls.mono (K1.out _ _ _ ⟨by simp, M.Bytes.nil, fun h => by simp at h⟩ (fun _ => rfl)) ?_
  rintro e W5 ⟨a5, c5, rfl, f5⟩
  have B5 := B4.drew.kept f5.below
  have T5 := T4.drew.kept f5.below
  have b5 : Below w.heap.size w W5 := b4.drew.trans (f5.below.mono b4.drew.size)
  refine hK.out _ _ ?_ (fun hHeld => ?_)
  · exact ⟨B5, T5, T5.cell 8 _ rfl, T5.cell 9 _ rfl, B5.cell 10 _ rfl, B5.cell 11 _ rfl, B5.cell 12 _ rfl, B5.cell 13 _ rfl, B5.cell 27 _ rfl⟩
  clear hK K
  try simp only [Act.put, List.setIfInBounds_toArray, List.set_cons_zero, List.set_cons_succ]
  refine wpAnyH_ready (rs := [5]) (by kernel_rfl) (by simp) ?_
  refine AllReadyH.cons (o := { dst := some 69, op := Op.call { callee := Callee.value (.func 30), args := #[.tmp 66, .tmp 68], argTypes := #[28, 3] }, type := 28, pos := "ref.go:235", after := #[{ on := 2, ground := Ground.data }, { on := 4, ground := Ground.data }, { on := 2, ground := Ground.chain }], guard := none }) rfl (fun K hK => ?_) AllReadyH.nil
  go_simp
  refine Calls.mono (K2.out _ _ _ f5.row f5.nil) ?_
  rintro e W6 ⟨a6, c6, rfl, f6⟩
  have B6 := B5.kept f6.below
  have T6 := T5.kept f6.below
  have b6 : Below w.heap.size w W6 := b5.trans (f6.below.mono b5.size)
  refine hK.out _ _ ?_ (fun hHeld => ?_)
  · exact ⟨B6, T6, T6.cell 8 _ rfl, T6.cell 9 _ rfl, B6.cell 10 _ rfl, B6.cell 11 _ rfl, B6.cell 12 _ rfl, B6.cell 13 _ rfl, B6.cell 27 _ rfl⟩
  clear hK K
  try simp only [Act.put, List.setIfInBounds_toArray, List.set_cons_zero, List.set_cons_succ]
  refine wpAnyH_ready (rs := [10]) (by kernel_rfl) (by simp) ?_
  refine AllReadyH.cons (o := { dst := some 74, op := Op.call { callee := Callee.value (.func 30), args := #[.tmp 69, .tmp 73], argTypes := #[28, 3] }, type := 28, pos := "ref.go:235", after := #[{ on := 5, ground := Ground.data }, { on := 9, ground := Ground.data }, { on := 5, ground := Ground.chain }], guard := none }) rfl (fun K hK => ?_) AllReadyH.nil
  go_simp
  refine Calls.mono (K3.out _ _ _ f6.row f6.nil) ?_
  rintro e W7 ⟨a7, c7, rfl, f7⟩
  have B7 := B6.kept f7.below
  have T7 := T6.kept f7.below
  have b7 : Below w.heap.size w W7 := b6.trans (f7.below.mono b6.size)
  refine hK.out _ _ ?_ (fun hHeld => ?_)
  · exact ⟨B7, T7, T7.cell 8 _ rfl, T7.cell 9 _ rfl, B7.cell 10 _ rfl, B7.cell 11 _ rfl, B7.cell 12 _ rfl, B7.cell 13 _ rfl, B7.cell 27 _ rfl⟩
  clear hK K
  try simp only [Act.put, List.setIfInBounds_toArray, List.set_cons_zero, List.set_cons_succ]
  refine wpAnyH_take (i := 11) (oi := { dst := some 5, op := Op.assign (.tmp 74), type := 28, pos := "ref.go:235", after := #[{ on := 10, ground := Ground.data }, { on := 10, ground := Ground.chain }, { on := 0, ground := Ground.phase }, { on := 1, ground := Ground.phase }, { on := 2, ground := Ground.phase }, { on := 3, ground := Ground.phase }, { on := 4, ground := Ground.phase }, { on := 5, ground := Ground.phase }, { on := 6, ground := Ground.phase }, { on := 7, ground := Ground.phase }, { on := 8, ground := Ground.phase }, { on := 9, ground := Ground.phase }, { on := 10, ground := Ground.phase }], guard := none }) (v := (.slice a7 6 c7)) rfl (by kernel_rfl) (by kernel_rfl) (by kernel_rfl) (fun _ _ _ h => h) (Or.inl ⟨by rfl, ?_⟩) hHeld ?_
  · intro w9 hSw
    try dsimp only at hSw
    go_simp
  try simp only [Act.put, List.setIfInBounds_toArray, List.set_cons_zero, List.set_cons_succ]
  refine wpAnyH_done (by kernel_rfl) ?_ _
  refine NoPanic.normal ?_
  have lQ4 := HHD.out.2.2
  have OW' := owns_le (B' := gT + 1) T6.lt f7.owns
  have rb' := f7.row.bytes
  clear K1 K2 K3 f5 f6 f7 B4 B5 B6 T4 T5 T6 b4 b5 b6 hHeld
  rw [lQ4] at OW'
  go_wp2_with (at_builtin; refine wpList_app2 _ rfl _ _ rfl (gT + 1) _ Q4 rfl (OW'.alloc _) rb' _ 2 [0, 0] rfl ?row (fun hh => by cases hh) HD HHD.out.1 ?c1 ?c2 ?_)
  case row => exact row_at W7 5 [0, 0] W7.heap.size rfl (by simp) bytes_00
  case c1 => have := HHD.out.2.1; omega
  case c2 => have := T7.lt; simp only [World.size_alloc]; omega
  intro ah ch Wh OW rmh nlh rh bb _
  have bz := b7.alloc b7.size (.cells #[.int .u8 0, .int .u8 0] 5)
  have bh : Below w.heap.size w Wh := bz.trans (bb.mono (by omega))
  have Bh := (B7.alloc (.cells #[.int .u8 0, .int .u8 0] 5)).below bb (by omega)
  have Th := (T7.alloc (.cells #[.int .u8 0, .int .u8 0] 5)).below bb (Nat.lt_succ_self _)
  have rb := rh.bytes
  clear OW' rb' bb bz b7 B7 T7 rh lQ4 HHD
  have e27 := Bh.cell 27 (.slice a x.data.length c) rfl
  have rx := h.below bh
  go_wp2_with (at_builtin; refine wpList_app2 _ rfl _ _ rfl (gT + 1) _ HD rfl OW rb a c x.data rfl rx hnil BD HBD.out ?c1 ?c2 ?_)
  case c1 => omega
  case c2 => exact Th.lt
  intro aB cB WB OB rmB nlB rB bb _
  have bB : Below w.heap.size w WB := bh.trans (bb.mono (by omega))
  have TB := Th.below bb (Nat.lt_succ_self _)
  clear OW rb Bh Th bh e27 rx bb HBD
  have e0 := TB.cell 0 (.int .i64 x.t.fam) rfl
  have e1 := TB.cell 1 (.int .i64 x.t.pr) rfl
  have e2 := TB.cell 2 (.int .i64 x.t.s.fam) rfl
  have e3 := TB.cell 3 (.int .u64 x.t.s.hi) rfl
  have e4 := TB.cell 4 (.int .u64 x.t.s.lo) rfl
  have e5 := TB.cell 5 (.int .i64 x.t.d.fam) rfl
  have e6 := TB.cell 6 (.int .u64 x.t.d.hi) rfl
  have e7 := TB.cell 7 (.int .u64 x.t.d.lo) rfl
  have hp1 : (x.t.pr != 1) = true := by simpa using hn1
  go_wp2_with fail
  refine Calls.mono (KP.out hn1 _) ?_
  rintro e W9 ⟨a9, c9, rfl, f9⟩
  have b9 : Below w.heap.size w W9 := bB.trans (f9.below.mono bB.size)
  have T9 := TB.kept f9.below
  have r9 := rB.below f9.below
  have O9 := OB.below f9.below
  have q9 := f9.row
  clear KP f9 TB bB rB OB
  go_wp2_with fail
  clear e0 e1 e2 e3 e4 e5 e6 e7
  refine Calls.mono (KC.out _ _ _ _ _ q9 r9) ?_
  rintro e W10 ⟨rfl, hW10⟩
  have b10 : Below w.heap.size w W10 := by rw [hW10]; exact b9.alloc b9.size _
  have T10 : Blk W10 gT 26 #[.int .i64 x.t.fam, .int .i64 x.t.pr, .int .i64 x.t.s.fam, .int .u64 x.t.s.hi, .int .u64 x.t.s.lo, .int .i64 x.t.d.fam, .int .u64 x.t.d.hi, .int .u64 x.t.d.lo, .int .i64 x.t.sp, .int .i64 x.t.dp] := by rw [hW10]; exact T9.alloc _
  have r10 : Row W10 aB BD := by rw [hW10]; exact r9.alloc _
  have O10 : Owns W10 (gT + 1) (.slice aB BD.length cB) BD := by rw [hW10]; exact O9.alloc _
  have t1 := T10.cell 1 (.int .i64 x.t.pr) rfl
  clear KC hW10 T9 b9 r9 O9 q9
  obtain ⟨g, rfl, hg1, hg2, y1, z1, O11⟩ := O10.write rfl 6 (by omega)
  obtain ⟨g', hg', _, _, y2, z2, _⟩ := O10.write rfl (6 + 1) (by omega)
  cases hg'
  have O12 := (O11 (CK / 256)).write (by simp) (6 + 1) (by omega)
  obtain ⟨g', hg', _, _, _, _, O12⟩ := O12
  cases hg'
  have Of := O12 (CK % 256)
  rw [HMD.out] at Of
  have bf := (b10.setCell (p := ⟨g, 6, none⟩) (show w.heap.size ≤ g by omega) (.int .u8 (CK / 256))).setCell (p := ⟨g, 6 + 1, none⟩) (show w.heap.size ≤ g by omega) (.int .u8 (CK % 256))
  have lM' : Hid (MD.length = BD.length) := by
    have : MD.length = BD.length := by rw [← HMD.out]; simp
    exact this
  have bM : M.Bytes MD := by
    rw [← HMD.out]
    exact (r10.bytes.set 6 (by omega)).set (6 + 1) (by omega)
  have HOf : Hid (Owns ((W10.setCell ⟨g, 6, none⟩ (.int .u8 (CK / 256))).setCell ⟨g, 6 + 1, none⟩ (.int .u8 (CK % 256))) (gT + 1) (.slice (some ⟨g, 0, none⟩) BD.length cB) MD) := Of
  have Hbf : Hid _ := bf
  clear O11 O12 O10 Of bf T10
  have h17 := H17.out
  by_cases hz : SU = 0
  · have hz' : (SU == 0) = true := by simpa using hz
    have e : CK = 65535 := by rw [HCK.out, if_pos ⟨hz, h17⟩]
    subst e
    clear hz HCK h17
    go_wp2
    go_ret2
    have lM := lM'.out
    have Of : Owns _ (gT + 1) (.slice (some ⟨g, 0, none⟩) BD.length cB) MD := HOf.out
    rw [← lM] at Of
    have Rf := Owns.row Of (by omega) bM
    exact ⟨some ⟨g, 0, none⟩, cB, by rw [lM]; rfl, owns_le (by omega) Of, by omega, nlB, Rf, Hbf.out⟩
  · have hz' : (SU == 0) = false := by simpa using hz
    have e : CK = SU := by rw [HCK.out, if_neg (by intro hh; exact hz hh.1)]
    subst e
    clear hz HCK h17
    go_wp2
    go_ret2
    have lM := lM'.out
    have Of : Owns _ (gT + 1) (.slice (some ⟨g, 0, none⟩) BD.length cB) MD := HOf.out
    rw [← lM] at Of
    have Rf := Owns.row Of (by omega) bM
    exact ⟨some ⟨g, 0, none⟩, cB, by rw [lM]; rfl, owns_le (by omega) Of, by omega, nlB, Rf, Hbf.out⟩

set_option maxRecDepth 100000 in
set_option maxHeartbeats 4000000 in
theorem rbuild_ie (x : Sg) (a : Option Addr) (c : Nat) (w : World) (h : Row w a x.data) (hnil : a = none → c = 0) (ok : x.ok) (hm : mayB x = true) (h6 : ¬ x.t.pr = 6) (h17 : ¬ x.t.pr = 17) (he : isEcho x.t.fam x.ty = true) (hn1 : ¬ x.t.pr = 1) :
    Calls Try.prog 20 #[.agg #[.int .i64 x.t.fam, .int .i64 x.t.pr, .int .i64 x.t.s.fam, .int .u64 x.t.s.hi, .int .u64 x.t.s.lo, .int .i64 x.t.d.fam, .int .u64 x.t.d.hi, .int .u64 x.t.d.lo, .int .i64 x.t.sp, .int .i64 x.t.dp, .int .i64 x.fl, .int .u32 x.sq, .int .u32 x.ak, .int .i64 x.wn, .int .i64 x.ty, .int .i64 x.cd, .bool x.er, .int .i64 x.inn.fam, .int .i64 x.inn.pr, .int .i64 x.inn.s.fam, .int .u64 x.inn.s.hi, .int .u64 x.inn.s.lo, .int .i64 x.inn.d.fam, .int .u64 x.inn.d.hi, .int .u64 x.inn.d.lo, .int .i64 x.inn.sp, .int .i64 x.inn.dp, .slice a x.data.length c]] w fun e w' => ∃ a' c', e = .returned (.tuple #[.slice a' (madeB x).length c', .int .i64 0]) ∧ Fresh w w' a' c' (madeB x) := by
  obtain ⟨W1, hW1⟩ : ∃ W1, w.alloc (.cells #[.int .i64 x.t.fam, .int .i64 x.t.pr, .int .i64 x.t.s.fam, .int .u64 x.t.s.hi, .int .u64 x.t.s.lo, .int .i64 x.t.d.fam, .int .u64 x.t.d.hi, .int .u64 x.t.d.lo, .int .i64 x.t.sp, .int .i64 x.t.dp, .int .i64 x.fl, .int .u32 x.sq, .int .u32 x.ak, .int .i64 x.wn, .int .i64 x.ty, .int .i64 x.cd, .bool x.er, .int .i64 x.inn.fam, .int .i64 x.inn.pr, .int .i64 x.inn.s.fam, .int .u64 x.inn.s.hi, .int .u64 x.inn.s.lo, .int .i64 x.inn.d.fam, .int .u64 x.inn.d.hi, .int .u64 x.inn.d.lo, .int .i64 x.inn.sp, .int .i64 x.inn.dp, .slice a x.data.length c] 38) = W1 := ⟨_, rfl⟩
  have b1 : Below w.heap.size w W1 := by rw [← hW1]; exact (Below.refl _ _).alloc (Nat.le_refl _) _
  have B1 : Blk W1 w.heap.size 38 #[.int .i64 x.t.fam, .int .i64 x.t.pr, .int .i64 x.t.s.fam, .int .u64 x.t.s.hi, .int .u64 x.t.s.lo, .int .i64 x.t.d.fam, .int .u64 x.t.d.hi, .int .u64 x.t.d.lo, .int .i64 x.t.sp, .int .i64 x.t.dp, .int .i64 x.fl, .int .u32 x.sq, .int .u32 x.ak, .int .i64 x.wn, .int .i64 x.ty, .int .i64 x.cd, .bool x.er, .int .i64 x.inn.fam, .int .i64 x.inn.pr, .int .i64 x.inn.s.fam, .int .u64 x.inn.s.hi, .int .u64 x.inn.s.lo, .int .i64 x.inn.d.fam, .int .u64 x.inn.d.hi, .int .u64 x.inn.d.lo, .int .i64 x.inn.sp, .int .i64 x.inn.dp, .slice a x.data.length c] := by rw [← hW1]; exact blk_new _ _ _
  have KM : Hid (Calls Try.prog 44 #[.agg #[.int .i64 x.t.fam, .int .i64 x.t.pr, .int .i64 x.t.s.fam, .int .u64 x.t.s.hi, .int .u64 x.t.s.lo, .int .i64 x.t.d.fam, .int .u64 x.t.d.hi, .int .u64 x.t.d.lo, .int .i64 x.t.sp, .int .i64 x.t.dp, .int .i64 x.fl, .int .u32 x.sq, .int .u32 x.ak, .int .i64 x.wn, .int .i64 x.ty, .int .i64 x.cd, .bool x.er, .int .i64 x.inn.fam, .int .i64 x.inn.pr, .int .i64 x.inn.s.fam, .int .u64 x.inn.s.hi, .int .u64 x.inn.s.lo, .int .i64 x.inn.d.fam, .int .u64 x.inn.d.hi, .int .u64 x.inn.d.lo, .int .i64 x.inn.sp, .int .i64 x.inn.dp, .slice a x.data.length c]] W1 fun e w' => e = .returned (.bool true) ∧ Below W1.heap.size W1 w') := by
    have := rMay_any x a c W1 ok h.small
    rw [hm] at this
    exact this
  have hPl : placeB x = 2 := by unfold placeB; rw [if_neg h6, if_neg h17]
  have hn17 : ¬ x.t.pr = 17 := h17
  have e6 : (x.t.pr == 6) = false := by simpa using h6
  have e17 : (x.t.pr == 17) = false := by simpa using h17
  obtain ⟨Q4, h_Q4⟩ : ∃ L, put16 [x.ty % 256, x.cd % 256, 0, 0] x.t.sp = L := ⟨_, rfl⟩
  have l_Q4 : Q4.length = 6 := by rw [← h_Q4]; simp [put16, put32]
  obtain ⟨HD, h_HD⟩ : ∃ L, Q4 ++ [0, 0] = L := ⟨_, rfl⟩
  have l_HD : HD.length = 8 := by rw [← h_HD]; simp [put16, put32, l_Q4]
  have hHD : headB x = HD := by
    unfold headB
    rw [if_neg h6, if_neg h17, he]
    show put16 [x.ty % 256, x.cd % 256, 0, 0] x.t.sp ++ [0, 0] = HD
    rw [h_Q4, h_HD]
  have K3 : Hid (∀ W a c, Row W a [x.ty % 256, x.cd % 256, 0, 0] → (a = none → c = 0) → Calls Try.prog 30 #[.slice a 4 c, .int .i64 x.t.sp] W fun e w' => ∃ a' c', e = .returned (.slice a' 6 c') ∧ Fresh W w' a' c' Q4) := fun W a c hr hn => by
    have := rput16_any a c [x.ty % 256, x.cd % 256, 0, 0] x.t.sp W hr hn (by simp)
    rw [h_Q4, l_Q4] at this
    exact this
  have KI : Hid (∀ W, Calls Try.prog 45 #[.int .i64 x.t.fam, .int .i64 x.ty] W fun e w' => e = .returned (.bool true) ∧ w' = W) := fun W => by
    have := rIsEcho_any x.t.fam x.ty W
    rw [echo_eq' (fam_46' (may5 hm).ends), he] at this
    exact this
  obtain ⟨BD, hBD⟩ : ∃ L, bodyB x = L := ⟨_, rfl⟩
  have hBD' : HD ++ x.data = BD := by rw [← hBD, ← hHD]; rfl
  have lB : BD.length = HD.length + x.data.length := by rw [← hBD', List.length_append]
  have hLD : x.data.length ≤ 65000 := (may5 hm).len
  have hE : endsB x.t.fam x.t.s x.t.d = true := (may5 hm).ends
  have lB2 : BD.length ≤ 65020 := by omega
  have lB3 : 2 + 2 ≤ BD.length := by omega
  obtain ⟨L0, hL0⟩ : ∃ L, ahead x.t.s x.t.d x.t.pr BD.length = L := ⟨_, rfl⟩
  obtain ⟨SU, hSU⟩ : ∃ s, sumB x = s := ⟨_, rfl⟩
  have hSU' : 65535 - M.sumOf [L0, BD] = SU := by rw [← hSU, ← hL0, ← hBD]; rfl
  have qS := sumB_bd x
  rw [hSU] at qS
  obtain ⟨CK, hCK⟩ : ∃ s, checkB x = s := ⟨_, rfl⟩
  have qC := checkB_bd x
  rw [hCK] at qC
  obtain ⟨MD, hMD⟩ : ∃ s, madeB x = s := ⟨_, rfl⟩
  have hMD' : (BD.set 2 (CK / 256)).set (2 + 1) (CK % 256) = MD := by rw [← hMD, ← hBD, ← hCK]; unfold madeB; rw [hPl]
  rw [hMD]
  have KP : Hid (¬ x.t.pr = 1 → ∀ W, Calls Try.prog 12 #[.agg #[.int .i64 x.t.s.fam, .int .u64 x.t.s.hi, .int .u64 x.t.s.lo], .agg #[.int .i64 x.t.d.fam, .int .u64 x.t.d.hi, .int .u64 x.t.d.lo], .int .i64 x.t.pr, .int .i64 (BD.length : Int)] W fun e w' => ∃ a c, e = .returned (.slice a L0.length c) ∧ Fresh W w' a c L0) := fun h1 W => by
    have := rpseudo_any x.t.s.fam x.t.s.hi x.t.s.lo x.t.d.fam x.t.d.hi x.t.d.lo x.t.pr (BD.length : Int) W ok.s ok.d
    have e : pseudo ⟨x.t.s.fam, x.t.s.hi, x.t.s.lo⟩ ⟨x.t.d.fam, x.t.d.hi, x.t.d.lo⟩ x.t.pr (BD.length : Int) = L0 := by
      rw [← hL0]
      unfold ahead
      rw [if_neg h1]
    rw [e] at this
    exact this
  have H01 : Hid (x.t.pr = 1 → L0 = []) := fun h1 => by
    rw [← hL0]
    unfold ahead
    rw [if_pos h1]
  have KC : Hid (∀ W a' c' a2 c2, Row W a' L0 → Row W a2 BD → Calls Try.prog 46 #[.slice (some ⟨W.heap.size, 0, none⟩) 2 2] (W.alloc (.cells #[.slice a' L0.length c', .slice a2 BD.length c2] 28)) fun e w' => e = .returned (.int .i64 (65535 - SU)) ∧ w' = W.alloc (.cells #[.slice a' L0.length c', .slice a2 BD.length c2] 28)) := fun W a' c' a2 c2 h1 h2 => by
    have := refsum_any (some ⟨W.heap.size, 0, none⟩) 2 [L0, BD] _ (rowss_two W 28 W.heap.size rfl a' a2 c' c2 L0 BD h1 h2)
    rw [show M.sumOf [L0, BD] = 65535 - SU by omega] at this
    exact this
  have HBD : Hid (HD ++ x.data = BD) := hBD'
  have HMD : Hid ((BD.set 2 (CK / 256)).set (2 + 1) (CK % 256) = MD) := hMD'
  have HCK : Hid (CK = if SU = 0 ∧ x.t.pr = 17 then 65535 else SU) := by
    have : CK = if SU = 0 ∧ x.t.pr = 17 then 65535 else SU := by rw [← hCK, ← hSU]; rfl
    exact this
  have wsu : IntKind.i64.wrap (65535 - (65535 - SU)) = SU := by rw [IntKind.wrap_i64]; omega
  have wc1 : IntKind.u8.wrap (CK / 256) = CK / 256 := by rw [wrapU8]; omega
  have wc2 : IntKind.u8.wrap CK = CK % 256 := wrapU8 CK
  have j2 : (2 : Int) < (BD.length : Int) := by omega
  have j3 : (2 : Int) + 1 < (BD.length : Int) := by omega
  have j4 : (3 : Int) < (BD.length : Int) := by omega
  clear hBD hBD' hL0 hSU hSU' hCK hMD hMD' lB hE hPl hHD
  have HHD : Hid (Q4 ++ [0, 0] = HD ∧ HD.length = 8 ∧ Q4.length = 6) := ⟨h_HD, l_HD, l_Q4⟩
  have wty := wrapU8 x.ty
  have wcd := wrapU8 x.cd
  clear h_Q4 h_HD l_Q4 l_HD h6 h17 he
  go_enter Try.func20, Try.ntmps20
  go_wp2_with (refine wpList_load_row rfl _ _ rfl w.heap.size (by rfl) _ _ _ _ B1 Try.underlying38 rfl (by kernel_rfl) ?_)
  refine Calls.mono KM.out ?_
  rintro e W2 ⟨rfl, bb⟩
  have b2 : Below w.heap.size w W2 := b1.trans (bb.mono b1.size)
  have B2 := B1.kept bb
  clear KM bb B1 b1 hW1
  obtain ⟨gT, hgT⟩ : ∃ g, W2.heap.size = g := ⟨_, rfl⟩
  have g2 : w.heap.size < gT := by rw [← hgT]; exact B2.lt
  obtain ⟨W3, hW3⟩ : ∃ W, W2.alloc (.cells #[.int .i64 0, .int .i64 0, .int .i64 0, .int .u64 0, .int .u64 0, .int .i64 0, .int .u64 0, .int .u64 0, .int .i64 0, .int .i64 0] 26) = W := ⟨_, rfl⟩
  have b3 : Below w.heap.size w W3 := by rw [← hW3]; exact b2.alloc b2.size _
  have B3 : Blk W3 w.heap.size 38 #[.int .i64 x.t.fam, .int .i64 x.t.pr, .int .i64 x.t.s.fam, .int .u64 x.t.s.hi, .int .u64 x.t.s.lo, .int .i64 x.t.d.fam, .int .u64 x.t.d.hi, .int .u64 x.t.d.lo, .int .i64 x.t.sp, .int .i64 x.t.dp, .int .i64 x.fl, .int .u32 x.sq, .int .u32 x.ak, .int .i64 x.wn, .int .i64 x.ty, .int .i64 x.cd, .bool x.er, .int .i64 x.inn.fam, .int .i64 x.inn.pr, .int .i64 x.inn.s.fam, .int .u64 x.inn.s.hi, .int .u64 x.inn.s.lo, .int .i64 x.inn.d.fam, .int .u64 x.inn.d.hi, .int .u64 x.inn.d.lo, .int .i64 x.inn.sp, .int .i64 x.inn.dp, .slice a x.data.length c] := by rw [← hW3]; exact B2.alloc _
  have T3 : Blk W3 gT 26 #[.int .i64 0, .int .i64 0, .int .i64 0, .int .u64 0, .int .u64 0, .int .i64 0, .int .u64 0, .int .u64 0, .int .i64 0, .int .i64 0] := by rw [← hW3, ← hgT]; exact blk_new _ _ _
  have b4 := below_setRow b3 (Nat.le_of_lt g2) #[.int .i64 x.t.fam, .int .i64 x.t.pr, .int .i64 x.t.s.fam, .int .u64 x.t.s.hi, .int .u64 x.t.s.lo, .int .i64 x.t.d.fam, .int .u64 x.t.d.hi, .int .u64 x.t.d.lo, .int .i64 x.t.sp, .int .i64 x.t.dp]
  have B4 := B3.other (show w.heap.size ≠ gT by omega) #[.int .i64 x.t.fam, .int .i64 x.t.pr, .int .i64 x.t.s.fam, .int .u64 x.t.s.hi, .int .u64 x.t.s.lo, .int .i64 x.t.d.fam, .int .u64 x.t.d.hi, .int .u64 x.t.d.lo, .int .i64 x.t.sp, .int .i64 x.t.dp]
  have T4 := T3.set #[.int .i64 x.t.fam, .int .i64 x.t.pr, .int .i64 x.t.s.fam, .int .u64 x.t.s.hi, .int .u64 x.t.s.lo, .int .i64 x.t.d.fam, .int .u64 x.t.d.hi, .int .u64 x.t.d.lo, .int .i64 x.t.sp, .int .i64 x.t.dp]
  obtain ⟨W4, hW4⟩ : ∃ W, W3.setRow gT #[.int .i64 x.t.fam, .int .i64 x.t.pr, .int .i64 x.t.s.fam, .int .u64 x.t.s.hi, .int .u64 x.t.s.lo, .int .i64 x.t.d.fam, .int .u64 x.t.d.hi, .int .u64 x.t.d.lo, .int .i64 x.t.sp, .int .i64 x.t.dp] = W := ⟨_, rfl⟩
  rw [hW4] at b4 B4 T4
  have HW4 : Hid _ := hW4
  have t1 := T4.cell 1 (.int .i64 x.t.pr) rfl
  have t0 := T4.cell 0 (.int .i64 x.t.fam) rfl
  have t8 := T4.cell 8 (.int .i64 x.t.sp) rfl
  have d14 := B4.cell 14 (.int .i64 x.ty) rfl
  have d15 := B4.cell 15 (.int .i64 x.cd) rfl
  clear hW4
  go_wp2_with (first
    | (refine wpList_load_sub rfl _ _ rfl w.heap.size 0 38 (by rfl) _ #[.int .i64 x.t.fam, .int .i64 x.t.pr, .int .i64 x.t.s.fam, .int .u64 x.t.s.hi, .int .u64 x.t.s.lo, .int .i64 x.t.d.fam, .int .u64 x.t.d.hi, .int .u64 x.t.d.lo, .int .i64 x.t.sp, .int .i64 x.t.dp] B2 (by rfl) Try.underlying26 (by kernel_rfl) ?_)
    | (refine wpList_store_row rfl _ _ _ rfl gT #[.int .i64 x.t.fam, .int .i64 x.t.pr, .int .i64 x.t.s.fam, .int .u64 x.t.s.hi, .int .u64 x.t.s.lo, .int .i64 x.t.d.fam, .int .u64 x.t.d.hi, .int .u64 x.t.d.lo, .int .i64 x.t.sp, .int .i64 x.t.dp] (by rfl) (by rfl) _ _ T3 (by kernel_rfl) (by rfl) (by kernel_rfl) ?_; rw [HW4.out]))
  clear HW4 hW3 hgT B3 T3 b3 B2 b2
  refine Calls.mono (KI.out _) ?_
  rintro e W5 ⟨rfl, hW5⟩
  rw [hW5]
  clear hW5 W5 KI
  go_wp2_with fail
  refine Calls.mono (K3.out _ _ _ (row_at W4 5 [x.ty % 256, x.cd % 256, 0, 0] W4.heap.size rfl (by simp) (bytes_icmp x.ty x.cd)) (fun hh => by cases hh)) ?_
  rintro e W7 ⟨a7, c7, rfl, f7⟩
  have bx := b4.alloc b4.size (.cells #[.int .u8 (x.ty % 256), .int .u8 (x.cd % 256), .int .u8 0, .int .u8 0] 5)
  have b7 : Below w.heap.size w W7 := bx.trans (f7.below.mono bx.size)
  have B7 := (B4.alloc (.cells #[.int .u8 (x.ty % 256), .int .u8 (x.cd % 256), .int .u8 0, .int .u8 0] 5)).kept f7.below
  have T7 := (T4.alloc (.cells #[.int .u8 (x.ty % 256), .int .u8 (x.cd % 256), .int .u8 0, .int .u8 0] 5)).kept f7.below
  have lQ4 := HHD.out.2.2
  have l4 := T4.lt
  have OW' := owns_le (B' := gT + 1) (by simp only [World.size_alloc]; omega) f7.owns
  have rb' := f7.row.bytes
  clear K3 f7 B4 T4 b4 bx t0 t1 t8 d14 d15 l4
  rw [lQ4] at OW'
  go_wp2_with (at_builtin; refine wpList_app2 _ rfl _ _ rfl (gT + 1) _ Q4 rfl (OW'.alloc _) rb' _ 2 [0, 0] rfl ?row (fun hh => by cases hh) HD HHD.out.1 ?c1 ?c2 ?_)
  case row => exact row_at W7 5 [0, 0] W7.heap.size rfl (by simp) bytes_00
  case c1 => have := HHD.out.2.1; omega
  case c2 => have := T7.lt; simp only [World.size_alloc]; omega
  intro ah ch Wh OW rmh nlh rh bb _
  have bz := b7.alloc b7.size (.cells #[.int .u8 0, .int .u8 0] 5)
  have bh : Below w.heap.size w Wh := bz.trans (bb.mono (by omega))
  have Bh := (B7.alloc (.cells #[.int .u8 0, .int .u8 0] 5)).below bb (by omega)
  have Th := (T7.alloc (.cells #[.int .u8 0, .int .u8 0] 5)).below bb (Nat.lt_succ_self _)
  have rb := rh.bytes
  clear OW' rb' bb bz b7 B7 T7 rh lQ4 HHD
  have e27 := Bh.cell 27 (.slice a x.data.length c) rfl
  have rx := h.below bh
  go_wp2_with (at_builtin; refine wpList_app2 _ rfl _ _ rfl (gT + 1) _ HD rfl OW rb a c x.data rfl rx hnil BD HBD.out ?c1 ?c2 ?_)
  case c1 => omega
  case c2 => exact Th.lt
  intro aB cB WB OB rmB nlB rB bb _
  have bB : Below w.heap.size w WB := bh.trans (bb.mono (by omega))
  have TB := Th.below bb (Nat.lt_succ_self _)
  clear OW rb Bh Th bh e27 rx bb HBD
  have e0 := TB.cell 0 (.int .i64 x.t.fam) rfl
  have e1 := TB.cell 1 (.int .i64 x.t.pr) rfl
  have e2 := TB.cell 2 (.int .i64 x.t.s.fam) rfl
  have e3 := TB.cell 3 (.int .u64 x.t.s.hi) rfl
  have e4 := TB.cell 4 (.int .u64 x.t.s.lo) rfl
  have e5 := TB.cell 5 (.int .i64 x.t.d.fam) rfl
  have e6 := TB.cell 6 (.int .u64 x.t.d.hi) rfl
  have e7 := TB.cell 7 (.int .u64 x.t.d.lo) rfl
  have hp1 : (x.t.pr != 1) = true := by simpa using hn1
  go_wp2_with fail
  refine Calls.mono (KP.out hn1 _) ?_
  rintro e W9 ⟨a9, c9, rfl, f9⟩
  have b9 : Below w.heap.size w W9 := bB.trans (f9.below.mono bB.size)
  have T9 := TB.kept f9.below
  have r9 := rB.below f9.below
  have O9 := OB.below f9.below
  have q9 := f9.row
  clear KP f9 TB bB rB OB
  go_wp2_with fail
  clear e0 e1 e2 e3 e4 e5 e6 e7
  refine Calls.mono (KC.out _ _ _ _ _ q9 r9) ?_
  rintro e W10 ⟨rfl, hW10⟩
  have b10 : Below w.heap.size w W10 := by rw [hW10]; exact b9.alloc b9.size _
  have T10 : Blk W10 gT 26 #[.int .i64 x.t.fam, .int .i64 x.t.pr, .int .i64 x.t.s.fam, .int .u64 x.t.s.hi, .int .u64 x.t.s.lo, .int .i64 x.t.d.fam, .int .u64 x.t.d.hi, .int .u64 x.t.d.lo, .int .i64 x.t.sp, .int .i64 x.t.dp] := by rw [hW10]; exact T9.alloc _
  have r10 : Row W10 aB BD := by rw [hW10]; exact r9.alloc _
  have O10 : Owns W10 (gT + 1) (.slice aB BD.length cB) BD := by rw [hW10]; exact O9.alloc _
  have t1 := T10.cell 1 (.int .i64 x.t.pr) rfl
  clear KC hW10 T9 b9 r9 O9 q9
  obtain ⟨g, rfl, hg1, hg2, y1, z1, O11⟩ := O10.write rfl 2 (by omega)
  obtain ⟨g', hg', _, _, y2, z2, _⟩ := O10.write rfl (2 + 1) (by omega)
  cases hg'
  have O12 := (O11 (CK / 256)).write (by simp) (2 + 1) (by omega)
  obtain ⟨g', hg', _, _, _, _, O12⟩ := O12
  cases hg'
  have Of := O12 (CK % 256)
  rw [HMD.out] at Of
  have bf := (b10.setCell (p := ⟨g, 2, none⟩) (show w.heap.size ≤ g by omega) (.int .u8 (CK / 256))).setCell (p := ⟨g, 2 + 1, none⟩) (show w.heap.size ≤ g by omega) (.int .u8 (CK % 256))
  have lM' : Hid (MD.length = BD.length) := by
    have : MD.length = BD.length := by rw [← HMD.out]; simp
    exact this
  have bM : M.Bytes MD := by
    rw [← HMD.out]
    exact (r10.bytes.set 2 (by omega)).set (2 + 1) (by omega)
  have HOf : Hid (Owns ((W10.setCell ⟨g, 2, none⟩ (.int .u8 (CK / 256))).setCell ⟨g, 2 + 1, none⟩ (.int .u8 (CK % 256))) (gT + 1) (.slice (some ⟨g, 0, none⟩) BD.length cB) MD) := Of
  have Hbf : Hid _ := bf
  clear O11 O12 O10 Of bf T10
  have e : CK = SU := by rw [HCK.out, if_neg (by intro hh; exact hn17 hh.2)]
  have h17' : (x.t.pr == 17) = false := by simpa using hn17
  subst e
  clear HCK
  go_wp2
  go_ret2
  have lM := lM'.out
  have Of : Owns _ (gT + 1) (.slice (some ⟨g, 0, none⟩) BD.length cB) MD := HOf.out
  rw [← lM] at Of
  have Rf := Owns.row Of (by omega) bM
  exact ⟨some ⟨g, 0, none⟩, cB, by rw [lM]; rfl, owns_le (by omega) Of, by omega, nlB, Rf, Hbf.out⟩

set_option maxRecDepth 100000 in
set_option maxHeartbeats 4000000 in
theorem rbuild_i4e (x : Sg) (a : Option Addr) (c : Nat) (w : World) (h : Row w a x.data) (hnil : a = none → c = 0) (ok : x.ok) (hm : mayB x = true) (h6 : ¬ x.t.pr = 6) (h17 : ¬ x.t.pr = 17) (he : isEcho x.t.fam x.ty = true) (hn1 : x.t.pr = 1) :
    Calls Try.prog 20 #[.agg #[.int .i64 x.t.fam, .int .i64 x.t.pr, .int .i64 x.t.s.fam, .int .u64 x.t.s.hi, .int .u64 x.t.s.lo, .int .i64 x.t.d.fam, .int .u64 x.t.d.hi, .int .u64 x.t.d.lo, .int .i64 x.t.sp, .int .i64 x.t.dp, .int .i64 x.fl, .int .u32 x.sq, .int .u32 x.ak, .int .i64 x.wn, .int .i64 x.ty, .int .i64 x.cd, .bool x.er, .int .i64 x.inn.fam, .int .i64 x.inn.pr, .int .i64 x.inn.s.fam, .int .u64 x.inn.s.hi, .int .u64 x.inn.s.lo, .int .i64 x.inn.d.fam, .int .u64 x.inn.d.hi, .int .u64 x.inn.d.lo, .int .i64 x.inn.sp, .int .i64 x.inn.dp, .slice a x.data.length c]] w fun e w' => ∃ a' c', e = .returned (.tuple #[.slice a' (madeB x).length c', .int .i64 0]) ∧ Fresh w w' a' c' (madeB x) := by
  obtain ⟨W1, hW1⟩ : ∃ W1, w.alloc (.cells #[.int .i64 x.t.fam, .int .i64 x.t.pr, .int .i64 x.t.s.fam, .int .u64 x.t.s.hi, .int .u64 x.t.s.lo, .int .i64 x.t.d.fam, .int .u64 x.t.d.hi, .int .u64 x.t.d.lo, .int .i64 x.t.sp, .int .i64 x.t.dp, .int .i64 x.fl, .int .u32 x.sq, .int .u32 x.ak, .int .i64 x.wn, .int .i64 x.ty, .int .i64 x.cd, .bool x.er, .int .i64 x.inn.fam, .int .i64 x.inn.pr, .int .i64 x.inn.s.fam, .int .u64 x.inn.s.hi, .int .u64 x.inn.s.lo, .int .i64 x.inn.d.fam, .int .u64 x.inn.d.hi, .int .u64 x.inn.d.lo, .int .i64 x.inn.sp, .int .i64 x.inn.dp, .slice a x.data.length c] 38) = W1 := ⟨_, rfl⟩
  have b1 : Below w.heap.size w W1 := by rw [← hW1]; exact (Below.refl _ _).alloc (Nat.le_refl _) _
  have B1 : Blk W1 w.heap.size 38 #[.int .i64 x.t.fam, .int .i64 x.t.pr, .int .i64 x.t.s.fam, .int .u64 x.t.s.hi, .int .u64 x.t.s.lo, .int .i64 x.t.d.fam, .int .u64 x.t.d.hi, .int .u64 x.t.d.lo, .int .i64 x.t.sp, .int .i64 x.t.dp, .int .i64 x.fl, .int .u32 x.sq, .int .u32 x.ak, .int .i64 x.wn, .int .i64 x.ty, .int .i64 x.cd, .bool x.er, .int .i64 x.inn.fam, .int .i64 x.inn.pr, .int .i64 x.inn.s.fam, .int .u64 x.inn.s.hi, .int .u64 x.inn.s.lo, .int .i64 x.inn.d.fam, .int .u64 x.inn.d.hi, .int .u64 x.inn.d.lo, .int .i64 x.inn.sp, .int .i64 x.inn.dp, .slice a x.data.length c] := by rw [← hW1]; exact blk_new _ _ _
  have KM : Hid (Calls Try.prog 44 #[.agg #[.int .i64 x.t.fam, .int .i64 x.t.pr, .int .i64 x.t.s.fam, .int .u64 x.t.s.hi, .int .u64 x.t.s.lo, .int .i64 x.t.d.fam, .int .u64 x.t.d.hi, .int .u64 x.t.d.lo, .int .i64 x.t.sp, .int .i64 x.t.dp, .int .i64 x.fl, .int .u32 x.sq, .int .u32 x.ak, .int .i64 x.wn, .int .i64 x.ty, .int .i64 x.cd, .bool x.er, .int .i64 x.inn.fam, .int .i64 x.inn.pr, .int .i64 x.inn.s.fam, .int .u64 x.inn.s.hi, .int .u64 x.inn.s.lo, .int .i64 x.inn.d.fam, .int .u64 x.inn.d.hi, .int .u64 x.inn.d.lo, .int .i64 x.inn.sp, .int .i64 x.inn.dp, .slice a x.data.length c]] W1 fun e w' => e = .returned (.bool true) ∧ Below W1.heap.size W1 w') := by
    have := rMay_any x a c W1 ok h.small
    rw [hm] at this
    exact this
  have hPl : placeB x = 2 := by unfold placeB; rw [if_neg h6, if_neg h17]
  have hn17 : ¬ x.t.pr = 17 := h17
  have e6 : (x.t.pr == 6) = false := by simpa using h6
  have e17 : (x.t.pr == 17) = false := by simpa using h17
  obtain ⟨Q4, h_Q4⟩ : ∃ L, put16 [x.ty % 256, x.cd % 256, 0, 0] x.t.sp = L := ⟨_, rfl⟩
  have l_Q4 : Q4.length = 6 := by rw [← h_Q4]; simp [put16, put32]
  obtain ⟨HD, h_HD⟩ : ∃ L, Q4 ++ [0, 0] = L := ⟨_, rfl⟩
  have l_HD : HD.length = 8 := by rw [← h_HD]; simp [put16, put32, l_Q4]
  have hHD : headB x = HD := by
    unfold headB
    rw [if_neg h6, if_neg h17, he]
    show put16 [x.ty % 256, x.cd % 256, 0, 0] x.t.sp ++ [0, 0] = HD
    rw [h_Q4, h_HD]
  have K3 : Hid (∀ W a c, Row W a [x.ty % 256, x.cd % 256, 0, 0] → (a = none → c = 0) → Calls Try.prog 30 #[.slice a 4 c, .int .i64 x.t.sp] W fun e w' => ∃ a' c', e = .returned (.slice a' 6 c') ∧ Fresh W w' a' c' Q4) := fun W a c hr hn => by
    have := rput16_any a c [x.ty % 256, x.cd % 256, 0, 0] x.t.sp W hr hn (by simp)
    rw [h_Q4, l_Q4] at this
    exact this
  have KI : Hid (∀ W, Calls Try.prog 45 #[.int .i64 x.t.fam, .int .i64 x.ty] W fun e w' => e = .returned (.bool true) ∧ w' = W) := fun W => by
    have := rIsEcho_any x.t.fam x.ty W
    rw [echo_eq' (fam_46' (may5 hm).ends), he] at this
    exact this
  obtain ⟨BD, hBD⟩ : ∃ L, bodyB x = L := ⟨_, rfl⟩
  have hBD' : HD ++ x.data = BD := by rw [← hBD, ← hHD]; rfl
  have lB : BD.length = HD.length + x.data.length := by rw [← hBD', List.length_append]
  have hLD : x.data.length ≤ 65000 := (may5 hm).len
  have hE : endsB x.t.fam x.t.s x.t.d = true := (may5 hm).ends
  have lB2 : BD.length ≤ 65020 := by omega
  have lB3 : 2 + 2 ≤ BD.length := by omega
  obtain ⟨L0, hL0⟩ : ∃ L, ahead x.t.s x.t.d x.t.pr BD.length = L := ⟨_, rfl⟩
  obtain ⟨SU, hSU⟩ : ∃ s, sumB x = s := ⟨_, rfl⟩
  have hSU' : 65535 - M.sumOf [L0, BD] = SU := by rw [← hSU, ← hL0, ← hBD]; rfl
  have qS := sumB_bd x
  rw [hSU] at qS
  obtain ⟨CK, hCK⟩ : ∃ s, checkB x = s := ⟨_, rfl⟩
  have qC := checkB_bd x
  rw [hCK] at qC
  obtain ⟨MD, hMD⟩ : ∃ s, madeB x = s := ⟨_, rfl⟩
  have hMD' : (BD.set 2 (CK / 256)).set (2 + 1) (CK % 256) = MD := by rw [← hMD, ← hBD, ← hCK]; unfold madeB; rw [hPl]
  rw [hMD]
  have KP : Hid (¬ x.t.pr = 1 → ∀ W, Calls Try.prog 12 #[.agg #[.int .i64 x.t.s.fam, .int .u64 x.t.s.hi, .int .u64 x.t.s.lo], .agg #[.int .i64 x.t.d.fam, .int .u64 x.t.d.hi, .int .u64 x.t.d.lo], .int .i64 x.t.pr, .int .i64 (BD.length : Int)] W fun e w' => ∃ a c, e = .returned (.slice a L0.length c) ∧ Fresh W w' a c L0) := fun h1 W => by
    have := rpseudo_any x.t.s.fam x.t.s.hi x.t.s.lo x.t.d.fam x.t.d.hi x.t.d.lo x.t.pr (BD.length : Int) W ok.s ok.d
    have e : pseudo ⟨x.t.s.fam, x.t.s.hi, x.t.s.lo⟩ ⟨x.t.d.fam, x.t.d.hi, x.t.d.lo⟩ x.t.pr (BD.length : Int) = L0 := by
      rw [← hL0]
      unfold ahead
      rw [if_neg h1]
    rw [e] at this
    exact this
  have H01 : Hid (x.t.pr = 1 → L0 = []) := fun h1 => by
    rw [← hL0]
    unfold ahead
    rw [if_pos h1]
  have KC : Hid (∀ W a' c' a2 c2, Row W a' L0 → Row W a2 BD → Calls Try.prog 46 #[.slice (some ⟨W.heap.size, 0, none⟩) 2 2] (W.alloc (.cells #[.slice a' L0.length c', .slice a2 BD.length c2] 28)) fun e w' => e = .returned (.int .i64 (65535 - SU)) ∧ w' = W.alloc (.cells #[.slice a' L0.length c', .slice a2 BD.length c2] 28)) := fun W a' c' a2 c2 h1 h2 => by
    have := refsum_any (some ⟨W.heap.size, 0, none⟩) 2 [L0, BD] _ (rowss_two W 28 W.heap.size rfl a' a2 c' c2 L0 BD h1 h2)
    rw [show M.sumOf [L0, BD] = 65535 - SU by omega] at this
    exact this
  have HBD : Hid (HD ++ x.data = BD) := hBD'
  have HMD : Hid ((BD.set 2 (CK / 256)).set (2 + 1) (CK % 256) = MD) := hMD'
  have HCK : Hid (CK = if SU = 0 ∧ x.t.pr = 17 then 65535 else SU) := by
    have : CK = if SU = 0 ∧ x.t.pr = 17 then 65535 else SU := by rw [← hCK, ← hSU]; rfl
    exact this
  have wsu : IntKind.i64.wrap (65535 - (65535 - SU)) = SU := by rw [IntKind.wrap_i64]; omega
  have wc1 : IntKind.u8.wrap (CK / 256) = CK / 256 := by rw [wrapU8]; omega
  have wc2 : IntKind.u8.wrap CK = CK % 256 := wrapU8 CK
  have j2 : (2 : Int) < (BD.length : Int) := by omega
  have j3 : (2 : Int) + 1 < (BD.length : Int) := by omega
  have j4 : (3 : Int) < (BD.length : Int) := by omega
  clear hBD hBD' hL0 hSU hSU' hCK hMD hMD' lB hE hPl hHD
  have HHD : Hid (Q4 ++ [0, 0] = HD ∧ HD.length = 8 ∧ Q4.length = 6) := ⟨h_HD, l_HD, l_Q4⟩
  have wty := wrapU8 x.ty
  have wcd := wrapU8 x.cd
  clear h_Q4 h_HD l_Q4 l_HD h6 h17 he
  have HN1 : Hid (x.t.pr = 1) := hn1
  clear hn1
  go_enter Try.func20, Try.ntmps20
  go_wp2_with (refine wpList_load_row rfl _ _ rfl w.heap.size (by rfl) _ _ _ _ B1 Try.underlying38 rfl (by kernel_rfl) ?_)
  refine Calls.mono KM.out ?_
  rintro e W2 ⟨rfl, bb⟩
  have b2 : Below w.heap.size w W2 := b1.trans (bb.mono b1.size)
  have B2 := B1.kept bb
  clear KM bb B1 b1 hW1
  obtain ⟨gT, hgT⟩ : ∃ g, W2.heap.size = g := ⟨_, rfl⟩
  have g2 : w.heap.size < gT := by rw [← hgT]; exact B2.lt
  obtain ⟨W3, hW3⟩ : ∃ W, W2.alloc (.cells #[.int .i64 0, .int .i64 0, .int .i64 0, .int .u64 0, .int .u64 0, .int .i64 0, .int .u64 0, .int .u64 0, .int .i64 0, .int .i64 0] 26) = W := ⟨_, rfl⟩
  have b3 : Below w.heap.size w W3 := by rw [← hW3]; exact b2.alloc b2.size _
  have B3 : Blk W3 w.heap.size 38 #[.int .i64 x.t.fam, .int .i64 x.t.pr, .int .i64 x.t.s.fam, .int .u64 x.t.s.hi, .int .u64 x.t.s.lo, .int .i64 x.t.d.fam, .int .u64 x.t.d.hi, .int .u64 x.t.d.lo, .int .i64 x.t.sp, .int .i64 x.t.dp, .int .i64 x.fl, .int .u32 x.sq, .int .u32 x.ak, .int .i64 x.wn, .int .i64 x.ty, .int .i64 x.cd, .bool x.er, .int .i64 x.inn.fam, .int .i64 x.inn.pr, .int .i64 x.inn.s.fam, .int .u64 x.inn.s.hi, .int .u64 x.inn.s.lo, .int .i64 x.inn.d.fam, .int .u64 x.inn.d.hi, .int .u64 x.inn.d.lo, .int .i64 x.inn.sp, .int .i64 x.inn.dp, .slice a x.data.length c] := by rw [← hW3]; exact B2.alloc _
  have T3 : Blk W3 gT 26 #[.int .i64 0, .int .i64 0, .int .i64 0, .int .u64 0, .int .u64 0, .int .i64 0, .int .u64 0, .int .u64 0, .int .i64 0, .int .i64 0] := by rw [← hW3, ← hgT]; exact blk_new _ _ _
  have b4 := below_setRow b3 (Nat.le_of_lt g2) #[.int .i64 x.t.fam, .int .i64 x.t.pr, .int .i64 x.t.s.fam, .int .u64 x.t.s.hi, .int .u64 x.t.s.lo, .int .i64 x.t.d.fam, .int .u64 x.t.d.hi, .int .u64 x.t.d.lo, .int .i64 x.t.sp, .int .i64 x.t.dp]
  have B4 := B3.other (show w.heap.size ≠ gT by omega) #[.int .i64 x.t.fam, .int .i64 x.t.pr, .int .i64 x.t.s.fam, .int .u64 x.t.s.hi, .int .u64 x.t.s.lo, .int .i64 x.t.d.fam, .int .u64 x.t.d.hi, .int .u64 x.t.d.lo, .int .i64 x.t.sp, .int .i64 x.t.dp]
  have T4 := T3.set #[.int .i64 x.t.fam, .int .i64 x.t.pr, .int .i64 x.t.s.fam, .int .u64 x.t.s.hi, .int .u64 x.t.s.lo, .int .i64 x.t.d.fam, .int .u64 x.t.d.hi, .int .u64 x.t.d.lo, .int .i64 x.t.sp, .int .i64 x.t.dp]
  obtain ⟨W4, hW4⟩ : ∃ W, W3.setRow gT #[.int .i64 x.t.fam, .int .i64 x.t.pr, .int .i64 x.t.s.fam, .int .u64 x.t.s.hi, .int .u64 x.t.s.lo, .int .i64 x.t.d.fam, .int .u64 x.t.d.hi, .int .u64 x.t.d.lo, .int .i64 x.t.sp, .int .i64 x.t.dp] = W := ⟨_, rfl⟩
  rw [hW4] at b4 B4 T4
  have HW4 : Hid _ := hW4
  have t1 := T4.cell 1 (.int .i64 x.t.pr) rfl
  have t0 := T4.cell 0 (.int .i64 x.t.fam) rfl
  have t8 := T4.cell 8 (.int .i64 x.t.sp) rfl
  have d14 := B4.cell 14 (.int .i64 x.ty) rfl
  have d15 := B4.cell 15 (.int .i64 x.cd) rfl
  clear hW4
  go_wp2_with (first
    | (refine wpList_load_sub rfl _ _ rfl w.heap.size 0 38 (by rfl) _ #[.int .i64 x.t.fam, .int .i64 x.t.pr, .int .i64 x.t.s.fam, .int .u64 x.t.s.hi, .int .u64 x.t.s.lo, .int .i64 x.t.d.fam, .int .u64 x.t.d.hi, .int .u64 x.t.d.lo, .int .i64 x.t.sp, .int .i64 x.t.dp] B2 (by rfl) Try.underlying26 (by kernel_rfl) ?_)
    | (refine wpList_store_row rfl _ _ _ rfl gT #[.int .i64 x.t.fam, .int .i64 x.t.pr, .int .i64 x.t.s.fam, .int .u64 x.t.s.hi, .int .u64 x.t.s.lo, .int .i64 x.t.d.fam, .int .u64 x.t.d.hi, .int .u64 x.t.d.lo, .int .i64 x.t.sp, .int .i64 x.t.dp] (by rfl) (by rfl) _ _ T3 (by kernel_rfl) (by rfl) (by kernel_rfl) ?_; rw [HW4.out]))
  clear HW4 hW3 hgT B3 T3 b3 B2 b2
  refine Calls.mono (KI.out _) ?_
  rintro e W5 ⟨rfl, hW5⟩
  rw [hW5]
  clear hW5 W5 KI
  go_wp2_with fail
  refine Calls.mono (K3.out _ _ _ (row_at W4 5 [x.ty % 256, x.cd % 256, 0, 0] W4.heap.size rfl (by simp) (bytes_icmp x.ty x.cd)) (fun hh => by cases hh)) ?_
  rintro e W7 ⟨a7, c7, rfl, f7⟩
  have bx := b4.alloc b4.size (.cells #[.int .u8 (x.ty % 256), .int .u8 (x.cd % 256), .int .u8 0, .int .u8 0] 5)
  have b7 : Below w.heap.size w W7 := bx.trans (f7.below.mono bx.size)
  have B7 := (B4.alloc (.cells #[.int .u8 (x.ty % 256), .int .u8 (x.cd % 256), .int .u8 0, .int .u8 0] 5)).kept f7.below
  have T7 := (T4.alloc (.cells #[.int .u8 (x.ty % 256), .int .u8 (x.cd % 256), .int .u8 0, .int .u8 0] 5)).kept f7.below
  have lQ4 := HHD.out.2.2
  have l4 := T4.lt
  have OW' := owns_le (B' := gT + 1) (by simp only [World.size_alloc]; omega) f7.owns
  have rb' := f7.row.bytes
  clear K3 f7 B4 T4 b4 bx t0 t1 t8 d14 d15 l4
  rw [lQ4] at OW'
  go_wp2_with (at_builtin; refine wpList_app2 _ rfl _ _ rfl (gT + 1) _ Q4 rfl (OW'.alloc _) rb' _ 2 [0, 0] rfl ?row (fun hh => by cases hh) HD HHD.out.1 ?c1 ?c2 ?_)
  case row => exact row_at W7 5 [0, 0] W7.heap.size rfl (by simp) bytes_00
  case c1 => have := HHD.out.2.1; omega
  case c2 => have := T7.lt; simp only [World.size_alloc]; omega
  intro ah ch Wh OW rmh nlh rh bb _
  have bz := b7.alloc b7.size (.cells #[.int .u8 0, .int .u8 0] 5)
  have bh : Below w.heap.size w Wh := bz.trans (bb.mono (by omega))
  have Bh := (B7.alloc (.cells #[.int .u8 0, .int .u8 0] 5)).below bb (by omega)
  have Th := (T7.alloc (.cells #[.int .u8 0, .int .u8 0] 5)).below bb (Nat.lt_succ_self _)
  have rb := rh.bytes
  clear OW' rb' bb bz b7 B7 T7 rh lQ4 HHD
  have e27 := Bh.cell 27 (.slice a x.data.length c) rfl
  have rx := h.below bh
  go_wp2_with (at_builtin; refine wpList_app2 _ rfl _ _ rfl (gT + 1) _ HD rfl OW rb a c x.data rfl rx hnil BD HBD.out ?c1 ?c2 ?_)
  case c1 => omega
  case c2 => exact Th.lt
  intro aB cB WB OB rmB nlB rB bb _
  have bB : Below w.heap.size w WB := bh.trans (bb.mono (by omega))
  have TB := Th.below bb (Nat.lt_succ_self _)
  clear OW rb Bh Th bh e27 rx bb HBD
  have e0 := TB.cell 0 (.int .i64 x.t.fam) rfl
  have e1 := TB.cell 1 (.int .i64 x.t.pr) rfl
  have e2 := TB.cell 2 (.int .i64 x.t.s.fam) rfl
  have e3 := TB.cell 3 (.int .u64 x.t.s.hi) rfl
  have e4 := TB.cell 4 (.int .u64 x.t.s.lo) rfl
  have e5 := TB.cell 5 (.int .i64 x.t.d.fam) rfl
  have e6 := TB.cell 6 (.int .u64 x.t.d.hi) rfl
  have e7 := TB.cell 7 (.int .u64 x.t.d.lo) rfl
  have hn1 := HN1.out
  have hp1 : (x.t.pr != 1) = false := by simpa using hn1
  have hL0 : L0 = [] := H01.out hn1
  subst hL0
  have b9 := bB
  have T9 := TB
  have r9 := rB
  have O9 := OB
  have q9 : Row WB none [] := ⟨by simp, M.Bytes.nil, fun h => by simp at h⟩
  clear KP TB bB rB OB hn1 H01
  go_wp2_with fail
  clear e0 e1 e2 e3 e4 e5 e6 e7
  refine Calls.mono (KC.out _ _ _ _ _ q9 r9) ?_
  rintro e W10 ⟨rfl, hW10⟩
  have b10 : Below w.heap.size w W10 := by rw [hW10]; exact b9.alloc b9.size _
  have T10 : Blk W10 gT 26 #[.int .i64 x.t.fam, .int .i64 x.t.pr, .int .i64 x.t.s.fam, .int .u64 x.t.s.hi, .int .u64 x.t.s.lo, .int .i64 x.t.d.fam, .int .u64 x.t.d.hi, .int .u64 x.t.d.lo, .int .i64 x.t.sp, .int .i64 x.t.dp] := by rw [hW10]; exact T9.alloc _
  have r10 : Row W10 aB BD := by rw [hW10]; exact r9.alloc _
  have O10 : Owns W10 (gT + 1) (.slice aB BD.length cB) BD := by rw [hW10]; exact O9.alloc _
  have t1 := T10.cell 1 (.int .i64 x.t.pr) rfl
  clear KC hW10 T9 b9 r9 O9 q9
  obtain ⟨g, rfl, hg1, hg2, y1, z1, O11⟩ := O10.write rfl 2 (by omega)
  obtain ⟨g', hg', _, _, y2, z2, _⟩ := O10.write rfl (2 + 1) (by omega)
  cases hg'
  have O12 := (O11 (CK / 256)).write (by simp) (2 + 1) (by omega)
  obtain ⟨g', hg', _, _, _, _, O12⟩ := O12
  cases hg'
  have Of := O12 (CK % 256)
  rw [HMD.out] at Of
  have bf := (b10.setCell (p := ⟨g, 2, none⟩) (show w.heap.size ≤ g by omega) (.int .u8 (CK / 256))).setCell (p := ⟨g, 2 + 1, none⟩) (show w.heap.size ≤ g by omega) (.int .u8 (CK % 256))
  have lM' : Hid (MD.length = BD.length) := by
    have : MD.length = BD.length := by rw [← HMD.out]; simp
    exact this
  have bM : M.Bytes MD := by
    rw [← HMD.out]
    exact (r10.bytes.set 2 (by omega)).set (2 + 1) (by omega)
  have HOf : Hid (Owns ((W10.setCell ⟨g, 2, none⟩ (.int .u8 (CK / 256))).setCell ⟨g, 2 + 1, none⟩ (.int .u8 (CK % 256))) (gT + 1) (.slice (some ⟨g, 0, none⟩) BD.length cB) MD) := Of
  have Hbf : Hid _ := bf
  clear O11 O12 O10 Of bf T10
  have e : CK = SU := by rw [HCK.out, if_neg (by intro hh; exact hn17 hh.2)]
  have h17' : (x.t.pr == 17) = false := by simpa using hn17
  subst e
  clear HCK
  go_wp2
  go_ret2
  have lM := lM'.out
  have Of : Owns _ (gT + 1) (.slice (some ⟨g, 0, none⟩) BD.length cB) MD := HOf.out
  rw [← lM] at Of
  have Rf := Owns.row Of (by omega) bM
  exact ⟨some ⟨g, 0, none⟩, cB, by rw [lM]; rfl, owns_le (by omega) Of, by omega, nlB, Rf, Hbf.out⟩

set_option maxRecDepth 100000 in
set_option maxHeartbeats 4000000 in
theorem rbuild_im (x : Sg) (a : Option Addr) (c : Nat) (w : World) (h : Row w a x.data) (hnil : a = none → c = 0) (ok : x.ok) (hm : mayB x = true) (h6 : ¬ x.t.pr = 6) (h17 : ¬ x.t.pr = 17) (he : isEcho x.t.fam x.ty = false) (hn1 : ¬ x.t.pr = 1) :
    Calls Try.prog 20 #[.agg #[.int .i64 x.t.fam, .int .i64 x.t.pr, .int .i64 x.t.s.fam, .int .u64 x.t.s.hi, .int .u64 x.t.s.lo, .int .i64 x.t.d.fam, .int .u64 x.t.d.hi, .int .u64 x.t.d.lo, .int .i64 x.t.sp, .int .i64 x.t.dp, .int .i64 x.fl, .int .u32 x.sq, .int .u32 x.ak, .int .i64 x.wn, .int .i64 x.ty, .int .i64 x.cd, .bool x.er, .int .i64 x.inn.fam, .int .i64 x.inn.pr, .int .i64 x.inn.s.fam, .int .u64 x.inn.s.hi, .int .u64 x.inn.s.lo, .int .i64 x.inn.d.fam, .int .u64 x.inn.d.hi, .int .u64 x.inn.d.lo, .int .i64 x.inn.sp, .int .i64 x.inn.dp, .slice a x.data.length c]] w fun e w' => ∃ a' c', e = .returned (.tuple #[.slice a' (madeB x).length c', .int .i64 0]) ∧ Fresh w w' a' c' (madeB x) := by
  obtain ⟨W1, hW1⟩ : ∃ W1, w.alloc (.cells #[.int .i64 x.t.fam, .int .i64 x.t.pr, .int .i64 x.t.s.fam, .int .u64 x.t.s.hi, .int .u64 x.t.s.lo, .int .i64 x.t.d.fam, .int .u64 x.t.d.hi, .int .u64 x.t.d.lo, .int .i64 x.t.sp, .int .i64 x.t.dp, .int .i64 x.fl, .int .u32 x.sq, .int .u32 x.ak, .int .i64 x.wn, .int .i64 x.ty, .int .i64 x.cd, .bool x.er, .int .i64 x.inn.fam, .int .i64 x.inn.pr, .int .i64 x.inn.s.fam, .int .u64 x.inn.s.hi, .int .u64 x.inn.s.lo, .int .i64 x.inn.d.fam, .int .u64 x.inn.d.hi, .int .u64 x.inn.d.lo, .int .i64 x.inn.sp, .int .i64 x.inn.dp, .slice a x.data.length c] 38) = W1 := ⟨_, rfl⟩
  have b1 : Below w.heap.size w W1 := by rw [← hW1]; exact (Below.refl _ _).alloc (Nat.le_refl _) _
  have B1 : Blk W1 w.heap.size 38 #[.int .i64 x.t.fam, .int .i64 x.t.pr, .int .i64 x.t.s.fam, .int .u64 x.t.s.hi, .int .u64 x.t.s.lo, .int .i64 x.t.d.fam, .int .u64 x.t.d.hi, .int .u64 x.t.d.lo, .int .i64 x.t.sp, .int .i64 x.t.dp, .int .i64 x.fl, .int .u32 x.sq, .int .u32 x.ak, .int .i64 x.wn, .int .i64 x.ty, .int .i64 x.cd, .bool x.er, .int .i64 x.inn.fam, .int .i64 x.inn.pr, .int .i64 x.inn.s.fam, .int .u64 x.inn.s.hi, .int .u64 x.inn.s.lo, .int .i64 x.inn.d.fam, .int .u64 x.inn.d.hi, .int .u64 x.inn.d.lo, .int .i64 x.inn.sp, .int .i64 x.inn.dp, .slice a x.data.length c] := by rw [← hW1]; exact blk_new _ _ _
  have KM : Hid (Calls Try.prog 44 #[.agg #[.int .i64 x.t.fam, .int .i64 x.t.pr, .int .i64 x.t.s.fam, .int .u64 x.t.s.hi, .int .u64 x.t.s.lo, .int .i64 x.t.d.fam, .int .u64 x.t.d.hi, .int .u64 x.t.d.lo, .int .i64 x.t.sp, .int .i64 x.t.dp, .int .i64 x.fl, .int .u32 x.sq, .int .u32 x.ak, .int .i64 x.wn, .int .i64 x.ty, .int .i64 x.cd, .bool x.er, .int .i64 x.inn.fam, .int .i64 x.inn.pr, .int .i64 x.inn.s.fam, .int .u64 x.inn.s.hi, .int .u64 x.inn.s.lo, .int .i64 x.inn.d.fam, .int .u64 x.inn.d.hi, .int .u64 x.inn.d.lo, .int .i64 x.inn.sp, .int .i64 x.inn.dp, .slice a x.data.length c]] W1 fun e w' => e = .returned (.bool true) ∧ Below W1.heap.size W1 w') := by
    have := rMay_any x a c W1 ok h.small
    rw [hm] at this
    exact this
  have hPl : placeB x = 2 := by unfold placeB; rw [if_neg h6, if_neg h17]
  have hn17 : ¬ x.t.pr = 17 := h17
  have e6 : (x.t.pr == 6) = false := by simpa using h6
  have e17 : (x.t.pr == 17) = false := by simpa using h17
  obtain ⟨Q4, h_Q4⟩ : ∃ L, put16 [x.ty % 256, x.cd % 256, 0, 0] 0 = L := ⟨_, rfl⟩
  have l_Q4 : Q4.length = 6 := by rw [← h_Q4]; simp [put16, put32]
  obtain ⟨HD, h_HD⟩ : ∃ L, Q4 ++ [0, 0] = L := ⟨_, rfl⟩
  have l_HD : HD.length = 8 := by rw [← h_HD]; simp [put16, put32, l_Q4]
  have hHD : headB x = HD := by
    unfold headB
    rw [if_neg h6, if_neg h17, he]
    show put16 [x.ty % 256, x.cd % 256, 0, 0] 0 ++ [0, 0] = HD
    rw [h_Q4, h_HD]
  have K3 : Hid (∀ W a c, Row W a [x.ty % 256, x.cd % 256, 0, 0] → (a = none → c = 0) → Calls Try.prog 30 #[.slice a 4 c, .int .i64 0] W fun e w' => ∃ a' c', e = .returned (.slice a' 6 c') ∧ Fresh W w' a' c' Q4) := fun W a c hr hn => by
    have := rput16_any a c [x.ty % 256, x.cd % 256, 0, 0] 0 W hr hn (by simp)
    rw [h_Q4, l_Q4] at this
    exact this
  have KI : Hid (∀ W, Calls Try.prog 45 #[.int .i64 x.t.fam, .int .i64 x.ty] W fun e w' => e = .returned (.bool false) ∧ w' = W) := fun W => by
    have := rIsEcho_any x.t.fam x.ty W
    rw [echo_eq' (fam_46' (may5 hm).ends), he] at this
    exact this
  obtain ⟨BD, hBD⟩ : ∃ L, bodyB x = L := ⟨_, rfl⟩
  have hBD' : HD ++ x.data = BD := by rw [← hBD, ← hHD]; rfl
  have lB : BD.length = HD.length + x.data.length := by rw [← hBD', List.length_append]
  have hLD : x.data.length ≤ 65000 := (may5 hm).len
  have hE : endsB x.t.fam x.t.s x.t.d = true := (may5 hm).ends
  have lB2 : BD.length ≤ 65020 := by omega
  have lB3 : 2 + 2 ≤ BD.length := by omega
  obtain ⟨L0, hL0⟩ : ∃ L, ahead x.t.s x.t.d x.t.pr BD.length = L := ⟨_, rfl⟩
  obtain ⟨SU, hSU⟩ : ∃ s, sumB x = s := ⟨_, rfl⟩
  have hSU' : 65535 - M.sumOf [L0, BD] = SU := by rw [← hSU, ← hL0, ← hBD]; rfl
  have qS := sumB_bd x
  rw [hSU] at qS
  obtain ⟨CK, hCK⟩ : ∃ s, checkB x = s := ⟨_, rfl⟩
  have qC := checkB_bd x
  rw [hCK] at qC
  obtain ⟨MD, hMD⟩ : ∃ s, madeB x = s := ⟨_, rfl⟩
  have hMD' : (BD.set 2 (CK / 256)).set (2 + 1) (CK % 256) = MD := by rw [← hMD, ← hBD, ← hCK]; unfold madeB; rw [hPl]
  rw [hMD]
  have KP : Hid (¬ x.t.pr = 1 → ∀ W, Calls Try.prog 12 #[.agg #[.int .i64 x.t.s.fam, .int .u64 x.t.s.hi, .int .u64 x.t.s.lo], .agg #[.int .i64 x.t.d.fam, .int .u64 x.t.d.hi, .int .u64 x.t.d.lo], .int .i64 x.t.pr, .int .i64 (BD.length : Int)] W fun e w' => ∃ a c, e = .returned (.slice a L0.length c) ∧ Fresh W w' a c L0) := fun h1 W => by
    have := rpseudo_any x.t.s.fam x.t.s.hi x.t.s.lo x.t.d.fam x.t.d.hi x.t.d.lo x.t.pr (BD.length : Int) W ok.s ok.d
    have e : pseudo ⟨x.t.s.fam, x.t.s.hi, x.t.s.lo⟩ ⟨x.t.d.fam, x.t.d.hi, x.t.d.lo⟩ x.t.pr (BD.length : Int) = L0 := by
      rw [← hL0]
      unfold ahead
      rw [if_neg h1]
    rw [e] at this
    exact this
  have H01 : Hid (x.t.pr = 1 → L0 = []) := fun h1 => by
    rw [← hL0]
    unfold ahead
    rw [if_pos h1]
  have KC : Hid (∀ W a' c' a2 c2, Row W a' L0 → Row W a2 BD → Calls Try.prog 46 #[.slice (some ⟨W.heap.size, 0, none⟩) 2 2] (W.alloc (.cells #[.slice a' L0.length c', .slice a2 BD.length c2] 28)) fun e w' => e = .returned (.int .i64 (65535 - SU)) ∧ w' = W.alloc (.cells #[.slice a' L0.length c', .slice a2 BD.length c2] 28)) := fun W a' c' a2 c2 h1 h2 => by
    have := refsum_any (some ⟨W.heap.size, 0, none⟩) 2 [L0, BD] _ (rowss_two W 28 W.heap.size rfl a' a2 c' c2 L0 BD h1 h2)
    rw [show M.sumOf [L0, BD] = 65535 - SU by omega] at this
    exact this
  have HBD : Hid (HD ++ x.data = BD) := hBD'
  have HMD : Hid ((BD.set 2 (CK / 256)).set (2 + 1) (CK % 256) = MD) := hMD'
  have HCK : Hid (CK = if SU = 0 ∧ x.t.pr = 17 then 65535 else SU) := by
    have : CK = if SU = 0 ∧ x.t.pr = 17 then 65535 else SU := by rw [← hCK, ← hSU]; rfl
    exact this
  have wsu : IntKind.i64.wrap (65535 - (65535 - SU)) = SU := by rw [IntKind.wrap_i64]; omega
  have wc1 : IntKind.u8.wrap (CK / 256) = CK / 256 := by rw [wrapU8]; omega
  have wc2 : IntKind.u8.wrap CK = CK % 256 := wrapU8 CK
  have j2 : (2 : Int) < (BD.length : Int) := by omega
  have j3 : (2 : Int) + 1 < (BD.length : Int) := by omega
  have j4 : (3 : Int) < (BD.length : Int) := by omega
  clear hBD hBD' hL0 hSU hSU' hCK hMD hMD' lB hE hPl hHD
  have HHD : Hid (Q4 ++ [0, 0] = HD ∧ HD.length = 8 ∧ Q4.length = 6) := ⟨h_HD, l_HD, l_Q4⟩
  have wty := wrapU8 x.ty
  have wcd := wrapU8 x.cd
  clear h_Q4 h_HD l_Q4 l_HD h6 h17 he
  go_enter Try.func20, Try.ntmps20
  go_wp2_with (refine wpList_load_row rfl _ _ rfl w.heap.size (by rfl) _ _ _ _ B1 Try.underlying38 rfl (by kernel_rfl) ?_)
  refine Calls.mono KM.out ?_
  rintro e W2 ⟨rfl, bb⟩
  have b2 : Below w.heap.size w W2 := b1.trans (bb.mono b1.size)
  have B2 := B1.kept bb
  clear KM bb B1 b1 hW1
  obtain ⟨gT, hgT⟩ : ∃ g, W2.heap.size = g := ⟨_, rfl⟩
  have g2 : w.heap.size < gT := by rw [← hgT]; exact B2.lt
  obtain ⟨W3, hW3⟩ : ∃ W, W2.alloc (.cells #[.int .i64 0, .int .i64 0, .int .i64 0, .int .u64 0, .int .u64 0, .int .i64 0, .int .u64 0, .int .u64 0, .int .i64 0, .int .i64 0] 26) = W := ⟨_, rfl⟩
  have b3 : Below w.heap.size w W3 := by rw [← hW3]; exact b2.alloc b2.size _
  have B3 : Blk W3 w.heap.size 38 #[.int .i64 x.t.fam, .int .i64 x.t.pr, .int .i64 x.t.s.fam, .int .u64 x.t.s.hi, .int .u64 x.t.s.lo, .int .i64 x.t.d.fam, .int .u64 x.t.d.hi, .int .u64 x.t.d.lo, .int .i64 x.t.sp, .int .i64 x.t.dp, .int .i64 x.fl, .int .u32 x.sq, .int .u32 x.ak, .int .i64 x.wn, .int .i64 x.ty, .int .i64 x.cd, .bool x.er, .int .i64 x.inn.fam, .int .i64 x.inn.pr, .int .i64 x.inn.s.fam, .int .u64 x.inn.s.hi, .int .u64 x.inn.s.lo, .int .i64 x.inn.d.fam, .int .u64 x.inn.d.hi, .int .u64 x.inn.d.lo, .int .i64 x.inn.sp, .int .i64 x.inn.dp, .slice a x.data.length c] := by rw [← hW3]; exact B2.alloc _
  have T3 : Blk W3 gT 26 #[.int .i64 0, .int .i64 0, .int .i64 0, .int .u64 0, .int .u64 0, .int .i64 0, .int .u64 0, .int .u64 0, .int .i64 0, .int .i64 0] := by rw [← hW3, ← hgT]; exact blk_new _ _ _
  have b4 := below_setRow b3 (Nat.le_of_lt g2) #[.int .i64 x.t.fam, .int .i64 x.t.pr, .int .i64 x.t.s.fam, .int .u64 x.t.s.hi, .int .u64 x.t.s.lo, .int .i64 x.t.d.fam, .int .u64 x.t.d.hi, .int .u64 x.t.d.lo, .int .i64 x.t.sp, .int .i64 x.t.dp]
  have B4 := B3.other (show w.heap.size ≠ gT by omega) #[.int .i64 x.t.fam, .int .i64 x.t.pr, .int .i64 x.t.s.fam, .int .u64 x.t.s.hi, .int .u64 x.t.s.lo, .int .i64 x.t.d.fam, .int .u64 x.t.d.hi, .int .u64 x.t.d.lo, .int .i64 x.t.sp, .int .i64 x.t.dp]
  have T4 := T3.set #[.int .i64 x.t.fam, .int .i64 x.t.pr, .int .i64 x.t.s.fam, .int .u64 x.t.s.hi, .int .u64 x.t.s.lo, .int .i64 x.t.d.fam, .int .u64 x.t.d.hi, .int .u64 x.t.d.lo, .int .i64 x.t.sp, .int .i64 x.t.dp]
  obtain ⟨W4, hW4⟩ : ∃ W, W3.setRow gT #[.int .i64 x.t.fam, .int .i64 x.t.pr, .int .i64 x.t.s.fam, .int .u64 x.t.s.hi, .int .u64 x.t.s.lo, .int .i64 x.t.d.fam, .int .u64 x.t.d.hi, .int .u64 x.t.d.lo, .int .i64 x.t.sp, .int .i64 x.t.dp] = W := ⟨_, rfl⟩
  rw [hW4] at b4 B4 T4
  have HW4 : Hid _ := hW4
  have t1 := T4.cell 1 (.int .i64 x.t.pr) rfl
  have t0 := T4.cell 0 (.int .i64 x.t.fam) rfl
  have t8 := T4.cell 8 (.int .i64 x.t.sp) rfl
  have d14 := B4.cell 14 (.int .i64 x.ty) rfl
  have d15 := B4.cell 15 (.int .i64 x.cd) rfl
  clear hW4
  go_wp2_with (first
    | (refine wpList_load_sub rfl _ _ rfl w.heap.size 0 38 (by rfl) _ #[.int .i64 x.t.fam, .int .i64 x.t.pr, .int .i64 x.t.s.fam, .int .u64 x.t.s.hi, .int .u64 x.t.s.lo, .int .i64 x.t.d.fam, .int .u64 x.t.d.hi, .int .u64 x.t.d.lo, .int .i64 x.t.sp, .int .i64 x.t.dp] B2 (by rfl) Try.underlying26 (by kernel_rfl) ?_)
    | (refine wpList_store_row rfl _ _ _ rfl gT #[.int .i64 x.t.fam, .int .i64 x.t.pr, .int .i64 x.t.s.fam, .int .u64 x.t.s.hi, .int .u64 x.t.s.lo, .int .i64 x.t.d.fam, .int .u64 x.t.d.hi, .int .u64 x.t.d.lo, .int .i64 x.t.sp, .int .i64 x.t.dp] (by rfl) (by rfl) _ _ T3 (by kernel_rfl) (by rfl) (by kernel_rfl) ?_; rw [HW4.out]))
  clear HW4 hW3 hgT B3 T3 b3 B2 b2
  refine Calls.mono (KI.out _) ?_
  rintro e W5 ⟨rfl, hW5⟩
  rw [hW5]
  clear hW5 W5 KI
  go_wp2_with fail
  refine Calls.mono (K3.out _ _ _ (row_at W4 5 [x.ty % 256, x.cd % 256, 0, 0] W4.heap.size rfl (by simp) (bytes_icmp x.ty x.cd)) (fun hh => by cases hh)) ?_
  rintro e W7 ⟨a7, c7, rfl, f7⟩
  have bx := b4.alloc b4.size (.cells #[.int .u8 (x.ty % 256), .int .u8 (x.cd % 256), .int .u8 0, .int .u8 0] 5)
  have b7 : Below w.heap.size w W7 := bx.trans (f7.below.mono bx.size)
  have B7 := (B4.alloc (.cells #[.int .u8 (x.ty % 256), .int .u8 (x.cd % 256), .int .u8 0, .int .u8 0] 5)).kept f7.below
  have T7 := (T4.alloc (.cells #[.int .u8 (x.ty % 256), .int .u8 (x.cd % 256), .int .u8 0, .int .u8 0] 5)).kept f7.below
  have lQ4 := HHD.out.2.2
  have l4 := T4.lt
  have OW' := owns_le (B' := gT + 1) (by simp only [World.size_alloc]; omega) f7.owns
  have rb' := f7.row.bytes
  clear K3 f7 B4 T4 b4 bx t0 t1 t8 d14 d15 l4
  rw [lQ4] at OW'
  go_wp2_with (at_builtin; refine wpList_app2 _ rfl _ _ rfl (gT + 1) _ Q4 rfl (OW'.alloc _) rb' _ 2 [0, 0] rfl ?row (fun hh => by cases hh) HD HHD.out.1 ?c1 ?c2 ?_)
  case row => exact row_at W7 5 [0, 0] W7.heap.size rfl (by simp) bytes_00
  case c1 => have := HHD.out.2.1; omega
  case c2 => have := T7.lt; simp only [World.size_alloc]; omega
  intro ah ch Wh OW rmh nlh rh bb _
  have bz := b7.alloc b7.size (.cells #[.int .u8 0, .int .u8 0] 5)
  have bh : Below w.heap.size w Wh := bz.trans (bb.mono (by omega))
  have Bh := (B7.alloc (.cells #[.int .u8 0, .int .u8 0] 5)).below bb (by omega)
  have Th := (T7.alloc (.cells #[.int .u8 0, .int .u8 0] 5)).below bb (Nat.lt_succ_self _)
  have rb := rh.bytes
  clear OW' rb' bb bz b7 B7 T7 rh lQ4 HHD
  have e27 := Bh.cell 27 (.slice a x.data.length c) rfl
  have rx := h.below bh
  go_wp2_with (at_builtin; refine wpList_app2 _ rfl _ _ rfl (gT + 1) _ HD rfl OW rb a c x.data rfl rx hnil BD HBD.out ?c1 ?c2 ?_)
  case c1 => omega
  case c2 => exact Th.lt
  intro aB cB WB OB rmB nlB rB bb _
  have bB : Below w.heap.size w WB := bh.trans (bb.mono (by omega))
  have TB := Th.below bb (Nat.lt_succ_self _)
  clear OW rb Bh Th bh e27 rx bb HBD
  have e0 := TB.cell 0 (.int .i64 x.t.fam) rfl
  have e1 := TB.cell 1 (.int .i64 x.t.pr) rfl
  have e2 := TB.cell 2 (.int .i64 x.t.s.fam) rfl
  have e3 := TB.cell 3 (.int .u64 x.t.s.hi) rfl
  have e4 := TB.cell 4 (.int .u64 x.t.s.lo) rfl
  have e5 := TB.cell 5 (.int .i64 x.t.d.fam) rfl
  have e6 := TB.cell 6 (.int .u64 x.t.d.hi) rfl
  have e7 := TB.cell 7 (.int .u64 x.t.d.lo) rfl
  have hp1 : (x.t.pr != 1) = true := by simpa using hn1
  go_wp2_with fail
  refine Calls.mono (KP.out hn1 _) ?_
  rintro e W9 ⟨a9, c9, rfl, f9⟩
  have b9 : Below w.heap.size w W9 := bB.trans (f9.below.mono bB.size)
  have T9 := TB.kept f9.below
  have r9 := rB.below f9.below
  have O9 := OB.below f9.below
  have q9 := f9.row
  clear KP f9 TB bB rB OB
  go_wp2_with fail
  clear e0 e1 e2 e3 e4 e5 e6 e7
  refine Calls.mono (KC.out _ _ _ _ _ q9 r9) ?_
  rintro e W10 ⟨rfl, hW10⟩
  have b10 : Below w.heap.size w W10 := by rw [hW10]; exact b9.alloc b9.size _
  have T10 : Blk W10 gT 26 #[.int .i64 x.t.fam, .int .i64 x.t.pr, .int .i64 x.t.s.fam, .int .u64 x.t.s.hi, .int .u64 x.t.s.lo, .int .i64 x.t.d.fam, .int .u64 x.t.d.hi, .int .u64 x.t.d.lo, .int .i64 x.t.sp, .int .i64 x.t.dp] := by rw [hW10]; exact T9.alloc _
  have r10 : Row W10 aB BD := by rw [hW10]; exact r9.alloc _
  have O10 : Owns W10 (gT + 1) (.slice aB BD.length cB) BD := by rw [hW10]; exact O9.alloc _
  have t1 := T10.cell 1 (.int .i64 x.t.pr) rfl
  clear KC hW10 T9 b9 r9 O9 q9
  obtain ⟨g, rfl, hg1, hg2, y1, z1, O11⟩ := O10.write rfl 2 (by omega)
  obtain ⟨g', hg', _, _, y2, z2, _⟩ := O10.write rfl (2 + 1) (by omega)
  cases hg'
  have O12 := (O11 (CK / 256)).write (by simp) (2 + 1) (by omega)
  obtain ⟨g', hg', _, _, _, _, O12⟩ := O12
  cases hg'
  have Of := O12 (CK % 256)
  rw [HMD.out] at Of
  have bf := (b10.setCell (p := ⟨g, 2, none⟩) (show w.heap.size ≤ g by omega) (.int .u8 (CK / 256))).setCell (p := ⟨g, 2 + 1, none⟩) (show w.heap.size ≤ g by omega) (.int .u8 (CK % 256))
  have lM' : Hid (MD.length = BD.length) := by
    have : MD.length = BD.length := by rw [← HMD.out]; simp
    exact this
  have bM : M.Bytes MD := by
    rw [← HMD.out]
    exact (r10.bytes.set 2 (by omega)).set (2 + 1) (by omega)
  have HOf : Hid (Owns ((W10.setCell ⟨g, 2, none⟩ (.int .u8 (CK / 256))).setCell ⟨g, 2 + 1, none⟩ (.int .u8 (CK % 256))) (gT + 1) (.slice (some ⟨g, 0, none⟩) BD.length cB) MD) := Of
  have Hbf : Hid _ := bf
  clear O11 O12 O10 Of bf T10
  have e : CK = SU := by rw [HCK.out, if_neg (by intro hh; exact hn17 hh.2)]
  have h17' : (x.t.pr == 17) = false := by simpa using hn17
  subst e
  clear HCK
  go_wp2
  go_ret2
  have lM := lM'.out
  have Of : Owns _ (gT + 1) (.slice (some ⟨g, 0, none⟩) BD.length cB) MD := HOf.out
  rw [← lM] at Of
  have Rf := Owns.row Of (by omega) bM
  exact ⟨some ⟨g, 0, none⟩, cB, by rw [lM]; rfl, owns_le (by omega) Of, by omega, nlB, Rf, Hbf.out⟩

set_option maxRecDepth 100000 in
set_option maxHeartbeats 4000000 in
theorem rbuild_i4m (x : Sg) (a : Option Addr) (c : Nat) (w : World) (h : Row w a x.data) (hnil : a = none → c = 0) (ok : x.ok) (hm : mayB x = true) (h6 : ¬ x.t.pr = 6) (h17 : ¬ x.t.pr = 17) (he : isEcho x.t.fam x.ty = false) (hn1 : x.t.pr = 1) :
    Calls Try.prog 20 #[.agg #[.int .i64 x.t.fam, .int .i64 x.t.pr, .int .i64 x.t.s.fam, .int .u64 x.t.s.hi, .int .u64 x.t.s.lo, .int .i64 x.t.d.fam, .int .u64 x.t.d.hi, .int .u64 x.t.d.lo, .int .i64 x.t.sp, .int .i64 x.t.dp, .int .i64 x.fl, .int .u32 x.sq, .int .u32 x.ak, .int .i64 x.wn, .int .i64 x.ty, .int .i64 x.cd, .bool x.er, .int .i64 x.inn.fam, .int .i64 x.inn.pr, .int .i64 x.inn.s.fam, .int .u64 x.inn.s.hi, .int .u64 x.inn.s.lo, .int .i64 x.inn.d.fam, .int .u64 x.inn.d.hi, .int .u64 x.inn.d.lo, .int .i64 x.inn.sp, .int .i64 x.inn.dp, .slice a x.data.length c]] w fun e w' => ∃ a' c', e = .returned (.tuple #[.slice a' (madeB x).length c', .int .i64 0]) ∧ Fresh w w' a' c' (madeB x) := by
  obtain ⟨W1, hW1⟩ : ∃ W1, w.alloc (.cells #[.int .i64 x.t.fam, .int .i64 x.t.pr, .int .i64 x.t.s.fam, .int .u64 x.t.s.hi, .int .u64 x.t.s.lo, .int .i64 x.t.d.fam, .int .u64 x.t.d.hi, .int .u64 x.t.d.lo, .int .i64 x.t.sp, .int .i64 x.t.dp, .int .i64 x.fl, .int .u32 x.sq, .int .u32 x.ak, .int .i64 x.wn, .int .i64 x.ty, .int .i64 x.cd, .bool x.er, .int .i64 x.inn.fam, .int .i64 x.inn.pr, .int .i64 x.inn.s.fam, .int .u64 x.inn.s.hi, .int .u64 x.inn.s.lo, .int .i64 x.inn.d.fam, .int .u64 x.inn.d.hi, .int .u64 x.inn.d.lo, .int .i64 x.inn.sp, .int .i64 x.inn.dp, .slice a x.data.length c] 38) = W1 := ⟨_, rfl⟩
  have b1 : Below w.heap.size w W1 := by rw [← hW1]; exact (Below.refl _ _).alloc (Nat.le_refl _) _
  have B1 : Blk W1 w.heap.size 38 #[.int .i64 x.t.fam, .int .i64 x.t.pr, .int .i64 x.t.s.fam, .int .u64 x.t.s.hi, .int .u64 x.t.s.lo, .int .i64 x.t.d.fam, .int .u64 x.t.d.hi, .int .u64 x.t.d.lo, .int .i64 x.t.sp, .int .i64 x.t.dp, .int .i64 x.fl, .int .u32 x.sq, .int .u32 x.ak, .int .i64 x.wn, .int .i64 x.ty, .int .i64 x.cd, .bool x.er, .int .i64 x.inn.fam, .int .i64 x.inn.pr, .int .i64 x.inn.s.fam, .int .u64 x.inn.s.hi, .int .u64 x.inn.s.lo, .int .i64 x.inn.d.fam, .int .u64 x.inn.d.hi, .int .u64 x.inn.d.lo, .int .i64 x.inn.sp, .int .i64 x.inn.dp, .slice a x.data.length c] := by rw [← hW1]; exact blk_new _ _ _
  have KM : Hid (Calls Try.prog 44 #[.agg #[.int .i64 x.t.fam, .int .i64 x.t.pr, .int .i64 x.t.s.fam, .int .u64 x.t.s.hi, .int .u64 x.t.s.lo, .int .i64 x.t.d.fam, .int .u64 x.t.d.hi, .int .u64 x.t.d.lo, .int .i64 x.t.sp, .int .i64 x.t.dp, .int .i64 x.fl, .int .u32 x.sq, .int .u32 x.ak, .int .i64 x.wn, .int .i64 x.ty, .int .i64 x.cd, .bool x.er, .int .i64 x.inn.fam, .int .i64 x.inn.pr, .int .i64 x.inn.s.fam, .int .u64 x.inn.s.hi, .int .u64 x.inn.s.lo, .int .i64 x.inn.d.fam, .int .u64 x.inn.d.hi, .int .u64 x.inn.d.lo, .int .i64 x.inn.sp, .int .i64 x.inn.dp, .slice a x.data.length c]] W1 fun e w' => e = .returned (.bool true) ∧ Below W1.heap.size W1 w') := by
    have := rMay_any x a c W1 ok h.small
    rw [hm] at this
    exact this
  have hPl : placeB x = 2 := by unfold placeB; rw [if_neg h6, if_neg h17]
  have hn17 : ¬ x.t.pr = 17 := h17
  have e6 : (x.t.pr == 6) = false := by simpa using h6
  have e17 : (x.t.pr == 17) = false := by simpa using h17
  obtain ⟨Q4, h_Q4⟩ : ∃ L, put16 [x.ty % 256, x.cd % 256, 0, 0] 0 = L := ⟨_, rfl⟩
  have l_Q4 : Q4.length = 6 := by rw [← h_Q4]; simp [put16, put32]
  obtain ⟨HD, h_HD⟩ : ∃ L, Q4 ++ [0, 0] = L := ⟨_, rfl⟩
  have l_HD : HD.length = 8 := by rw [← h_HD]; simp [put16, put32, l_Q4]
  have hHD : headB x = HD := by
    unfold headB
    rw [if_neg h6, if_neg h17, he]
    show put16 [x.ty % 256, x.cd % 256, 0, 0] 0 ++ [0, 0] = HD
    rw [h_Q4, h_HD]
  have K3 : Hid (∀ W a c, Row W a [x.ty % 256, x.cd % 256, 0, 0] → (a = none → c = 0) → Calls Try.prog 30 #[.slice a 4 c, .int .i64 0] W fun e w' => ∃ a' c', e = .returned (.slice a' 6 c') ∧ Fresh W w' a' c' Q4) := fun W a c hr hn => by
    have := rput16_any a c [x.ty % 256, x.cd % 256, 0, 0] 0 W hr hn (by simp)
    rw [h_Q4, l_Q4] at this
    exact this
  have KI : Hid (∀ W, Calls Try.prog 45 #[.int .i64 x.t.fam, .int .i64 x.ty] W fun e w' => e = .returned (.bool false) ∧ w' = W) := fun W => by
    have := rIsEcho_any x.t.fam x.ty W
    rw [echo_eq' (fam_46' (may5 hm).ends), he] at this
    exact this
  obtain ⟨BD, hBD⟩ : ∃ L, bodyB x = L := ⟨_, rfl⟩
  have hBD' : HD ++ x.data = BD := by rw [← hBD, ← hHD]; rfl
  have lB : BD.length = HD.length + x.data.length := by rw [← hBD', List.length_append]
  have hLD : x.data.length ≤ 65000 := (may5 hm).len
  have hE : endsB x.t.fam x.t.s x.t.d = true := (may5 hm).ends
  have lB2 : BD.length ≤ 65020 := by omega
  have lB3 : 2 + 2 ≤ BD.length := by omega
  obtain ⟨L0, hL0⟩ : ∃ L, ahead x.t.s x.t.d x.t.pr BD.length = L := ⟨_, rfl⟩
  obtain ⟨SU, hSU⟩ : ∃ s, sumB x = s := ⟨_, rfl⟩
  have hSU' : 65535 - M.sumOf [L0, BD] = SU := by rw [← hSU, ← hL0, ← hBD]; rfl
  have qS := sumB_bd x
  rw [hSU] at qS
  obtain ⟨CK, hCK⟩ : ∃ s, checkB x = s := ⟨_, rfl⟩
  have qC := checkB_bd x
  rw [hCK] at qC
  obtain ⟨MD, hMD⟩ : ∃ s, madeB x = s := ⟨_, rfl⟩
  have hMD' : (BD.set 2 (CK / 256)).set (2 + 1) (CK % 256) = MD := by rw [← hMD, ← hBD, ← hCK]; unfold madeB; rw [hPl]
  rw [hMD]
  have KP : Hid (¬ x.t.pr = 1 → ∀ W, Calls Try.prog 12 #[.agg #[.int .i64 x.t.s.fam, .int .u64 x.t.s.hi, .int .u64 x.t.s.lo], .agg #[.int .i64 x.t.d.fam, .int .u64 x.t.d.hi, .int .u64 x.t.d.lo], .int .i64 x.t.pr, .int .i64 (BD.length : Int)] W fun e w' => ∃ a c, e = .returned (.slice a L0.length c) ∧ Fresh W w' a c L0) := fun h1 W => by
    have := rpseudo_any x.t.s.fam x.t.s.hi x.t.s.lo x.t.d.fam x.t.d.hi x.t.d.lo x.t.pr (BD.length : Int) W ok.s ok.d
    have e : pseudo ⟨x.t.s.fam, x.t.s.hi, x.t.s.lo⟩ ⟨x.t.d.fam, x.t.d.hi, x.t.d.lo⟩ x.t.pr (BD.length : Int) = L0 := by
      rw [← hL0]
      unfold ahead
      rw [if_neg h1]
    rw [e] at this
    exact this
  have H01 : Hid (x.t.pr = 1 → L0 = []) := fun h1 => by
    rw [← hL0]
    unfold ahead
    rw [if_pos h1]
  have KC : Hid (∀ W a' c' a2 c2, Row W a' L0 → Row W a2 BD → Calls Try.prog 46 #[.slice (some ⟨W.heap.size, 0, none⟩) 2 2] (W.alloc (.cells #[.slice a' L0.length c', .slice a2 BD.length c2] 28)) fun e w' => e = .returned (.int .i64 (65535 - SU)) ∧ w' = W.alloc (.cells #[.slice a' L0.length c', .slice a2 BD.length c2] 28)) := fun W a' c' a2 c2 h1 h2 => by
    have := refsum_any (some ⟨W.heap.size, 0, none⟩) 2 [L0, BD] _ (rowss_two W 28 W.heap.size rfl a' a2 c' c2 L0 BD h1 h2)
    rw [show M.sumOf [L0, BD] = 65535 - SU by omega] at this
    exact this
  have HBD : Hid (HD ++ x.data = BD) := hBD'
  have HMD : Hid ((BD.set 2 (CK / 256)).set (2 + 1) (CK % 256) = MD) := hMD'
  have HCK : Hid (CK = if SU = 0 ∧ x.t.pr = 17 then 65535 else SU) := by
    have : CK = if SU = 0 ∧ x.t.pr = 17 then 65535 else SU := by rw [← hCK, ← hSU]; rfl
    exact this
  have wsu : IntKind.i64.wrap (65535 - (65535 - SU)) = SU := by rw [IntKind.wrap_i64]; omega
  have wc1 : IntKind.u8.wrap (CK / 256) = CK / 256 := by rw [wrapU8]; omega
  have wc2 : IntKind.u8.wrap CK = CK % 256 := wrapU8 CK
  have j2 : (2 : Int) < (BD.length : Int) := by omega
  have j3 : (2 : Int) + 1 < (BD.length : Int) := by omega
  have j4 : (3 : Int) < (BD.length : Int) := by omega
  clear hBD hBD' hL0 hSU hSU' hCK hMD hMD' lB hE hPl hHD
  have HHD : Hid (Q4 ++ [0, 0] = HD ∧ HD.length = 8 ∧ Q4.length = 6) := ⟨h_HD, l_HD, l_Q4⟩
  have wty := wrapU8 x.ty
  have wcd := wrapU8 x.cd
  clear h_Q4 h_HD l_Q4 l_HD h6 h17 he
  have HN1 : Hid (x.t.pr = 1) := hn1
  clear hn1
  go_enter Try.func20, Try.ntmps20
  go_wp2_with (refine wpList_load_row rfl _ _ rfl w.heap.size (by rfl) _ _ _ _ B1 Try.underlying38 rfl (by kernel_rfl) ?_)
  refine Calls.mono KM.out ?_
  rintro e W2 ⟨rfl, bb⟩
  have b2 : Below w.heap.size w W2 := b1.trans (bb.mono b1.size)
  have B2 := B1.kept bb
  clear KM bb B1 b1 hW1
  obtain ⟨gT, hgT⟩ : ∃ g, W2.heap.size = g := ⟨_, rfl⟩
  have g2 : w.heap.size < gT := by rw [← hgT]; exact B2.lt
  obtain ⟨W3, hW3⟩ : ∃ W, W2.alloc (.cells #[.int .i64 0, .int .i64 0, .int .i64 0, .int .u64 0, .int .u64 0, .int .i64 0, .int .u64 0, .int .u64 0, .int .i64 0, .int .i64 0] 26) = W := ⟨_, rfl⟩
  have b3 : Below w.heap.size w W3 := by rw [← hW3]; exact b2.alloc b2.size _
  have B3 : Blk W3 w.heap.size 38 #[.int .i64 x.t.fam, .int .i64 x.t.pr, .int .i64 x.t.s.fam, .int .u64 x.t.s.hi, .int .u64 x.t.s.lo, .int .i64 x.t.d.fam, .int .u64 x.t.d.hi, .int .u64 x.t.d.lo, .int .i64 x.t.sp, .int .i64 x.t.dp, .int .i64 x.fl, .int .u32 x.sq, .int .u32 x.ak, .int .i64 x.wn, .int .i64 x.ty, .int .i64 x.cd, .bool x.er, .int .i64 x.inn.fam, .int .i64 x.inn.pr, .int .i64 x.inn.s.fam, .int .u64 x.inn.s.hi, .int .u64 x.inn.s.lo, .int .i64 x.inn.d.fam, .int .u64 x.inn.d.hi, .int .u64 x.inn.d.lo, .int .i64 x.inn.sp, .int .i64 x.inn.dp, .slice a x.data.length c] := by rw [← hW3]; exact B2.alloc _
  have T3 : Blk W3 gT 26 #[.int .i64 0, .int .i64 0, .int .i64 0, .int .u64 0, .int .u64 0, .int .i64 0, .int .u64 0, .int .u64 0, .int .i64 0, .int .i64 0] := by rw [← hW3, ← hgT]; exact blk_new _ _ _
  have b4 := below_setRow b3 (Nat.le_of_lt g2) #[.int .i64 x.t.fam, .int .i64 x.t.pr, .int .i64 x.t.s.fam, .int .u64 x.t.s.hi, .int .u64 x.t.s.lo, .int .i64 x.t.d.fam, .int .u64 x.t.d.hi, .int .u64 x.t.d.lo, .int .i64 x.t.sp, .int .i64 x.t.dp]
  have B4 := B3.other (show w.heap.size ≠ gT by omega) #[.int .i64 x.t.fam, .int .i64 x.t.pr, .int .i64 x.t.s.fam, .int .u64 x.t.s.hi, .int .u64 x.t.s.lo, .int .i64 x.t.d.fam, .int .u64 x.t.d.hi, .int .u64 x.t.d.lo, .int .i64 x.t.sp, .int .i64 x.t.dp]
  have T4 := T3.set #[.int .i64 x.t.fam, .int .i64 x.t.pr, .int .i64 x.t.s.fam, .int .u64 x.t.s.hi, .int .u64 x.t.s.lo, .int .i64 x.t.d.fam, .int .u64 x.t.d.hi, .int .u64 x.t.d.lo, .int .i64 x.t.sp, .int .i64 x.t.dp]
  obtain ⟨W4, hW4⟩ : ∃ W, W3.setRow gT #[.int .i64 x.t.fam, .int .i64 x.t.pr, .int .i64 x.t.s.fam, .int .u64 x.t.s.hi, .int .u64 x.t.s.lo, .int .i64 x.t.d.fam, .int .u64 x.t.d.hi, .int .u64 x.t.d.lo, .int .i64 x.t.sp, .int .i64 x.t.dp] = W := ⟨_, rfl⟩
  rw [hW4] at b4 B4 T4
  have HW4 : Hid _ := hW4
  have t1 := T4.cell 1 (.int .i64 x.t.pr) rfl
  have t0 := T4.cell 0 (.int .i64 x.t.fam) rfl
  have t8 := T4.cell 8 (.int .i64 x.t.sp) rfl
  have d14 := B4.cell 14 (.int .i64 x.ty) rfl
  have d15 := B4.cell 15 (.int .i64 x.cd) rfl
  clear hW4
  go_wp2_with (first
    | (refine wpList_load_sub rfl _ _ rfl w.heap.size 0 38 (by rfl) _ #[.int .i64 x.t.fam, .int .i64 x.t.pr, .int .i64 x.t.s.fam, .int .u64 x.t.s.hi, .int .u64 x.t.s.lo, .int .i64 x.t.d.fam, .int .u64 x.t.d.hi, .int .u64 x.t.d.lo, .int .i64 x.t.sp, .int .i64 x.t.dp] B2 (by rfl) Try.underlying26 (by kernel_rfl) ?_)
    | (refine wpList_store_row rfl _ _ _ rfl gT #[.int .i64 x.t.fam, .int .i64 x.t.pr, .int .i64 x.t.s.fam, .int .u64 x.t.s.hi, .int .u64 x.t.s.lo, .int .i64 x.t.d.fam, .int .u64 x.t.d.hi, .int .u64 x.t.d.lo, .int .i64 x.t.sp, .int .i64 x.t.dp] (by rfl) (by rfl) _ _ T3 (by kernel_rfl) (by rfl) (by kernel_rfl) ?_; rw [HW4.out]))
  clear HW4 hW3 hgT B3 T3 b3 B2 b2
  refine Calls.mono (KI.out _) ?_
  rintro e W5 ⟨rfl, hW5⟩
  rw [hW5]
  clear hW5 W5 KI
  go_wp2_with fail
  refine Calls.mono (K3.out _ _ _ (row_at W4 5 [x.ty % 256, x.cd % 256, 0, 0] W4.heap.size rfl (by simp) (bytes_icmp x.ty x.cd)) (fun hh => by cases hh)) ?_
  rintro e W7 ⟨a7, c7, rfl, f7⟩
  have bx := b4.alloc b4.size (.cells #[.int .u8 (x.ty % 256), .int .u8 (x.cd % 256), .int .u8 0, .int .u8 0] 5)
  have b7 : Below w.heap.size w W7 := bx.trans (f7.below.mono bx.size)
  have B7 := (B4.alloc (.cells #[.int .u8 (x.ty % 256), .int .u8 (x.cd % 256), .int .u8 0, .int .u8 0] 5)).kept f7.below
  have T7 := (T4.alloc (.cells #[.int .u8 (x.ty % 256), .int .u8 (x.cd % 256), .int .u8 0, .int .u8 0] 5)).kept f7.below
  have lQ4 := HHD.out.2.2
  have l4 := T4.lt
  have OW' := owns_le (B' := gT + 1) (by simp only [World.size_alloc]; omega) f7.owns
  have rb' := f7.row.bytes
  clear K3 f7 B4 T4 b4 bx t0 t1 t8 d14 d15 l4
  rw [lQ4] at OW'
  go_wp2_with (at_builtin; refine wpList_app2 _ rfl _ _ rfl (gT + 1) _ Q4 rfl (OW'.alloc _) rb' _ 2 [0, 0] rfl ?row (fun hh => by cases hh) HD HHD.out.1 ?c1 ?c2 ?_)
  case row => exact row_at W7 5 [0, 0] W7.heap.size rfl (by simp) bytes_00
  case c1 => have := HHD.out.2.1; omega
  case c2 => have := T7.lt; simp only [World.size_alloc]; omega
  intro ah ch Wh OW rmh nlh rh bb _
  have bz := b7.alloc b7.size (.cells #[.int .u8 0, .int .u8 0] 5)
  have bh : Below w.heap.size w Wh := bz.trans (bb.mono (by omega))
  have Bh := (B7.alloc (.cells #[.int .u8 0, .int .u8 0] 5)).below bb (by omega)
  have Th := (T7.alloc (.cells #[.int .u8 0, .int .u8 0] 5)).below bb (Nat.lt_succ_self _)
  have rb := rh.bytes
  clear OW' rb' bb bz b7 B7 T7 rh lQ4 HHD
  have e27 := Bh.cell 27 (.slice a x.data.length c) rfl
  have rx := h.below bh
  go_wp2_with (at_builtin; refine wpList_app2 _ rfl _ _ rfl (gT + 1) _ HD rfl OW rb a c x.data rfl rx hnil BD HBD.out ?c1 ?c2 ?_)
  case c1 => omega
  case c2 => exact Th.lt
  intro aB cB WB OB rmB nlB rB bb _
  have bB : Below w.heap.size w WB := bh.trans (bb.mono (by omega))
  have TB := Th.below bb (Nat.lt_succ_self _)
  clear OW rb Bh Th bh e27 rx bb HBD
  have e0 := TB.cell 0 (.int .i64 x.t.fam) rfl
  have e1 := TB.cell 1 (.int .i64 x.t.pr) rfl
  have e2 := TB.cell 2 (.int .i64 x.t.s.fam) rfl
  have e3 := TB.cell 3 (.int .u64 x.t.s.hi) rfl
  have e4 := TB.cell 4 (.int .u64 x.t.s.lo) rfl
  have e5 := TB.cell 5 (.int .i64 x.t.d.fam) rfl
  have e6 := TB.cell 6 (.int .u64 x.t.d.hi) rfl
  have e7 := TB.cell 7 (.int .u64 x.t.d.lo) rfl
  have hn1 := HN1.out
  have hp1 : (x.t.pr != 1) = false := by simpa using hn1
  have hL0 : L0 = [] := H01.out hn1
  subst hL0
  have b9 := bB
  have T9 := TB
  have r9 := rB
  have O9 := OB
  have q9 : Row WB none [] := ⟨by simp, M.Bytes.nil, fun h => by simp at h⟩
  clear KP TB bB rB OB hn1 H01
  go_wp2_with fail
  clear e0 e1 e2 e3 e4 e5 e6 e7
  refine Calls.mono (KC.out _ _ _ _ _ q9 r9) ?_
  rintro e W10 ⟨rfl, hW10⟩
  have b10 : Below w.heap.size w W10 := by rw [hW10]; exact b9.alloc b9.size _
  have T10 : Blk W10 gT 26 #[.int .i64 x.t.fam, .int .i64 x.t.pr, .int .i64 x.t.s.fam, .int .u64 x.t.s.hi, .int .u64 x.t.s.lo, .int .i64 x.t.d.fam, .int .u64 x.t.d.hi, .int .u64 x.t.d.lo, .int .i64 x.t.sp, .int .i64 x.t.dp] := by rw [hW10]; exact T9.alloc _
  have r10 : Row W10 aB BD := by rw [hW10]; exact r9.alloc _
  have O10 : Owns W10 (gT + 1) (.slice aB BD.length cB) BD := by rw [hW10]; exact O9.alloc _
  have t1 := T10.cell 1 (.int .i64 x.t.pr) rfl
  clear KC hW10 T9 b9 r9 O9 q9
  obtain ⟨g, rfl, hg1, hg2, y1, z1, O11⟩ := O10.write rfl 2 (by omega)
  obtain ⟨g', hg', _, _, y2, z2, _⟩ := O10.write rfl (2 + 1) (by omega)
  cases hg'
  have O12 := (O11 (CK / 256)).write (by simp) (2 + 1) (by omega)
  obtain ⟨g', hg', _, _, _, _, O12⟩ := O12
  cases hg'
  have Of := O12 (CK % 256)
  rw [HMD.out] at Of
  have bf := (b10.setCell (p := ⟨g, 2, none⟩) (show w.heap.size ≤ g by omega) (.int .u8 (CK / 256))).setCell (p := ⟨g, 2 + 1, none⟩) (show w.heap.size ≤ g by omega) (.int .u8 (CK % 256))
  have lM' : Hid (MD.length = BD.length) := by
    have : MD.length = BD.length := by rw [← HMD.out]; simp
    exact this
  have bM : M.Bytes MD := by
    rw [← HMD.out]
    exact (r10.bytes.set 2 (by omega)).set (2 + 1) (by omega)
  have HOf : Hid (Owns ((W10.setCell ⟨g, 2, none⟩ (.int .u8 (CK / 256))).setCell ⟨g, 2 + 1, none⟩ (.int .u8 (CK % 256))) (gT + 1) (.slice (some ⟨g, 0, none⟩) BD.length cB) MD) := Of
  have Hbf : Hid _ := bf
  clear O11 O12 O10 Of bf T10
  have e : CK = SU := by rw [HCK.out, if_neg (by intro hh; exact hn17 hh.2)]
  have h17' : (x.t.pr == 17) = false := by simpa using hn17
  subst e
  clear HCK
  go_wp2
  go_ret2
  have lM := lM'.out
  have Of : Owns _ (gT + 1) (.slice (some ⟨g, 0, none⟩) BD.length cB) MD := HOf.out
  rw [← lM] at Of
  have Rf := Owns.row Of (by omega) bM
  exact ⟨some ⟨g, 0, none⟩, cB, by rw [lM]; rfl, owns_le (by omega) Of, by omega, nlB, Rf, Hbf.out⟩

theorem rbuild_any (x : Sg) (a : Option Addr) (c : Nat) (w : World) (h : Row w a x.data) (hnil : a = none → c = 0) (ok : x.ok) (hm : mayB x = true) :
    Calls Try.prog 20 #[.agg #[.int .i64 x.t.fam, .int .i64 x.t.pr, .int .i64 x.t.s.fam, .int .u64 x.t.s.hi, .int .u64 x.t.s.lo, .int .i64 x.t.d.fam, .int .u64 x.t.d.hi, .int .u64 x.t.d.lo, .int .i64 x.t.sp, .int .i64 x.t.dp, .int .i64 x.fl, .int .u32 x.sq, .int .u32 x.ak, .int .i64 x.wn, .int .i64 x.ty, .int .i64 x.cd, .bool x.er, .int .i64 x.inn.fam, .int .i64 x.inn.pr, .int .i64 x.inn.s.fam, .int .u64 x.inn.s.hi, .int .u64 x.inn.s.lo, .int .i64 x.inn.d.fam, .int .u64 x.inn.d.hi, .int .u64 x.inn.d.lo, .int .i64 x.inn.sp, .int .i64 x.inn.dp, .slice a x.data.length c]] w fun e w' => ∃ a' c', e = .returned (.tuple #[.slice a' (madeB x).length c', .int .i64 0]) ∧ Fresh w w' a' c' (madeB x) := by
  by_cases h6 : x.t.pr = 6
  · exact rbuild_6 x a c w h hnil ok hm h6
  by_cases h17 : x.t.pr = 17
  · exact rbuild_17 x a c w h hnil ok hm h6 h17
  by_cases hn1 : x.t.pr = 1
  · cases he : isEcho x.t.fam x.ty with
    | true => exact rbuild_i4e x a c w h hnil ok hm h6 h17 he hn1
    | false => exact rbuild_i4m x a c w h hnil ok hm h6 h17 he hn1
  · cases he : isEcho x.t.fam x.ty with
    | true => exact rbuild_ie x a c w h hnil ok hm h6 h17 he hn1
    | false => exact rbuild_im x a c w h hnil ok hm h6 h17 he hn1

end Go.Proofs.Ytgdpcomcndidcaa
