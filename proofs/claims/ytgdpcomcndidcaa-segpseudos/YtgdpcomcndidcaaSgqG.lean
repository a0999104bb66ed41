/- Segments that are read again as themselves. -/
import Derived.Test.YtgdpcomcndidcaaSgqF
namespace Go.Proofs.Ytgdpcomcndidcaa
open Go.RowKit
set_option linter.unusedVariables false
set_option linter.unusedSimpArgs false

theorem rFlags_any (x : Int) (w : World) : Calls Try.prog 47 #[.int .i64 x] w fun e w' => e = .returned (.bool (flagsB x)) ∧ w' = w := by
  go_enter Try.func47, Try.ntmps47
  go_wp2_with fail
  all_goals (go_ret; exact ⟨retB (by unfold flagsB; generalize bits .and .i64 x 22 = p at *; generalize bits .and .i64 x 2 = q at *; generalize bits .and .i64 x 5 = r at *; generalize bits .and .i64 x 1 = s at *; generalize bits .and .i64 x 16 = t at *; cases hp : (p == 0) <;> cases hq : (q == 0) <;> cases hr : (r == 0) <;> cases hs : (s == 0) <;> cases ht : (t == 0) <;> simp_all [bne]), rfl⟩)
theorem rIsError_any (f k : Int) (w : World) : Calls Try.prog 14 #[.int .i64 f, .int .i64 k] w fun e w' => e = .returned (.bool (isErr f k)) ∧ w' = w := by
  go_enter Try.func14, Try.ntmps14
  go_wp2_with fail
  all_goals (go_ret; exact ⟨retB (by unfold isErr; simp_all <;> omega), rfl⟩)
def rEcho (f k : Int) : Bool := (f == 4 && (k == 8 || k == 0)) || (f == 6 && (k == 128 || k == 129))
theorem rIsEcho_any (f k : Int) (w : World) : Calls Try.prog 45 #[.int .i64 f, .int .i64 k] w fun e w' => e = .returned (.bool (rEcho f k)) ∧ w' = w := by
  go_enter Try.func45, Try.ntmps45
  go_wp2_with fail
  all_goals (go_ret; exact ⟨retB (by unfold rEcho; simp_all <;> omega), rfl⟩)

/-- Segments that are read again as themselves. -/
def Pl (x : Sg) : Prop := (x.t.pr = 6 ∧ flagsB x.fl = true ∧ x.ty = 0 ∧ x.cd = 0) ∨ (x.t.pr = 17 ∧ x.fl = 0 ∧ x.sq = 0 ∧ x.ak = 0 ∧ x.wn = 0 ∧ x.ty = 0 ∧ x.cd = 0) ∨
  (¬ x.t.pr = 6 ∧ ¬ x.t.pr = 17 ∧ x.fl = 0 ∧ x.sq = 0 ∧ x.ak = 0 ∧ x.wn = 0 ∧ isErr x.t.fam x.ty = false ∧ x.t.sp = x.t.dp ∧ (rEcho x.t.fam x.ty = true ∨ x.t.sp = 0))

set_option maxRecDepth 100000 in
set_option maxHeartbeats 4000000 in
theorem plain_tcp (x : Sg) (a : Option Addr) (c : Nat) (w : World) (h6 : x.t.pr = 6) :
    Calls Try.prog 22 #[.agg #[.int .i64 x.t.fam, .int .i64 x.t.pr, .int .i64 x.t.s.fam, .int .u64 x.t.s.hi, .int .u64 x.t.s.lo, .int .i64 x.t.d.fam, .int .u64 x.t.d.hi, .int .u64 x.t.d.lo, .int .i64 x.t.sp, .int .i64 x.t.dp, .int .i64 x.fl, .int .u32 x.sq, .int .u32 x.ak, .int .i64 x.wn, .int .i64 x.ty, .int .i64 x.cd, .bool x.er, .int .i64 x.inn.fam, .int .i64 x.inn.pr, .int .i64 x.inn.s.fam, .int .u64 x.inn.s.hi, .int .u64 x.inn.s.lo, .int .i64 x.inn.d.fam, .int .u64 x.inn.d.hi, .int .u64 x.inn.d.lo, .int .i64 x.inn.sp, .int .i64 x.inn.dp, .slice a x.data.length c]] w fun e w' => ∃ R, e = .returned (.bool R) ∧ (R = true → Pl x) ∧ Below w.heap.size w w' := by
  obtain ⟨W1, hW1⟩ : ∃ W1, w.alloc (.cells #[.int .i64 x.t.fam, .int .i64 x.t.pr, .int .i64 x.t.s.fam, .int .u64 x.t.s.hi, .int .u64 x.t.s.lo, .int .i64 x.t.d.fam, .int .u64 x.t.d.hi, .int .u64 x.t.d.lo, .int .i64 x.t.sp, .int .i64 x.t.dp, .int .i64 x.fl, .int .u32 x.sq, .int .u32 x.ak, .int .i64 x.wn, .int .i64 x.ty, .int .i64 x.cd, .bool x.er, .int .i64 x.inn.fam, .int .i64 x.inn.pr, .int .i64 x.inn.s.fam, .int .u64 x.inn.s.hi, .int .u64 x.inn.s.lo, .int .i64 x.inn.d.fam, .int .u64 x.inn.d.hi, .int .u64 x.inn.d.lo, .int .i64 x.inn.sp, .int .i64 x.inn.dp, .slice a x.data.length c] 38) = W1 := ⟨_, rfl⟩
  have b1 : Below w.heap.size w W1 := by rw [← hW1]; exact (Below.refl _ _).alloc (Nat.le_refl _) _
  have B1 : Blk W1 w.heap.size 38 #[.int .i64 x.t.fam, .int .i64 x.t.pr, .int .i64 x.t.s.fam, .int .u64 x.t.s.hi, .int .u64 x.t.s.lo, .int .i64 x.t.d.fam, .int .u64 x.t.d.hi, .int .u64 x.t.d.lo, .int .i64 x.t.sp, .int .i64 x.t.dp, .int .i64 x.fl, .int .u32 x.sq, .int .u32 x.ak, .int .i64 x.wn, .int .i64 x.ty, .int .i64 x.cd, .bool x.er, .int .i64 x.inn.fam, .int .i64 x.inn.pr, .int .i64 x.inn.s.fam, .int .u64 x.inn.s.hi, .int .u64 x.inn.s.lo, .int .i64 x.inn.d.fam, .int .u64 x.inn.d.hi, .int .u64 x.inn.d.lo, .int .i64 x.inn.sp, .int .i64 x.inn.dp, .slice a x.data.length c] := by rw [← hW1]; exact blk_new _ _ _
  have g1 : w.heap.size < W1.heap.size := B1.lt
  obtain ⟨W2, hW2⟩ : ∃ W2, W1.alloc (.cells #[.int .i64 0, .int .i64 0, .int .i64 0, .int .u64 0, .int .u64 0, .int .i64 0, .int .u64 0, .int .u64 0, .int .i64 0, .int .i64 0] 26) = W2 := ⟨_, rfl⟩
  have b2 : Below w.heap.size w W2 := by rw [← hW2]; exact b1.alloc b1.size _
  have B2 : Blk W2 w.heap.size 38 #[.int .i64 x.t.fam, .int .i64 x.t.pr, .int .i64 x.t.s.fam, .int .u64 x.t.s.hi, .int .u64 x.t.s.lo, .int .i64 x.t.d.fam, .int .u64 x.t.d.hi, .int .u64 x.t.d.lo, .int .i64 x.t.sp, .int .i64 x.t.dp, .int .i64 x.fl, .int .u32 x.sq, .int .u32 x.ak, .int .i64 x.wn, .int .i64 x.ty, .int .i64 x.cd, .bool x.er, .int .i64 x.inn.fam, .int .i64 x.inn.pr, .int .i64 x.inn.s.fam, .int .u64 x.inn.s.hi, .int .u64 x.inn.s.lo, .int .i64 x.inn.d.fam, .int .u64 x.inn.d.hi, .int .u64 x.inn.d.lo, .int .i64 x.inn.sp, .int .i64 x.inn.dp, .slice a x.data.length c] := by rw [← hW2]; exact B1.alloc _
  have T2 : Blk W2 W1.heap.size 26 #[.int .i64 0, .int .i64 0, .int .i64 0, .int .u64 0, .int .u64 0, .int .i64 0, .int .u64 0, .int .u64 0, .int .i64 0, .int .i64 0] := by rw [← hW2]; exact blk_new _ _ _
  obtain ⟨W3, hW3⟩ : ∃ W, W2.setRow W1.heap.size #[.int .i64 x.t.fam, .int .i64 x.t.pr, .int .i64 x.t.s.fam, .int .u64 x.t.s.hi, .int .u64 x.t.s.lo, .int .i64 x.t.d.fam, .int .u64 x.t.d.hi, .int .u64 x.t.d.lo, .int .i64 x.t.sp, .int .i64 x.t.dp] = W := ⟨_, rfl⟩
  have b3 : Below w.heap.size w W3 := by rw [← hW3]; exact below_setRow b2 (Nat.le_of_lt g1) _
  have B3 : Blk W3 w.heap.size 38 #[.int .i64 x.t.fam, .int .i64 x.t.pr, .int .i64 x.t.s.fam, .int .u64 x.t.s.hi, .int .u64 x.t.s.lo, .int .i64 x.t.d.fam, .int .u64 x.t.d.hi, .int .u64 x.t.d.lo, .int .i64 x.t.sp, .int .i64 x.t.dp, .int .i64 x.fl, .int .u32 x.sq, .int .u32 x.ak, .int .i64 x.wn, .int .i64 x.ty, .int .i64 x.cd, .bool x.er, .int .i64 x.inn.fam, .int .i64 x.inn.pr, .int .i64 x.inn.s.fam, .int .u64 x.inn.s.hi, .int .u64 x.inn.s.lo, .int .i64 x.inn.d.fam, .int .u64 x.inn.d.hi, .int .u64 x.inn.d.lo, .int .i64 x.inn.sp, .int .i64 x.inn.dp, .slice a x.data.length c] := by rw [← hW3]; exact B2.other (by omega) _
  have T3 : Blk W3 W1.heap.size 26 #[.int .i64 x.t.fam, .int .i64 x.t.pr, .int .i64 x.t.s.fam, .int .u64 x.t.s.hi, .int .u64 x.t.s.lo, .int .i64 x.t.d.fam, .int .u64 x.t.d.hi, .int .u64 x.t.d.lo, .int .i64 x.t.sp, .int .i64 x.t.dp] := by rw [← hW3]; exact T2.set _
  have HW3 : Hid _ := hW3
  clear hW3
  have d10 := B3.cell 10 (.int .i64 x.fl) rfl
  have d11 := B3.cell 11 (.int .u32 x.sq) rfl
  have d12 := B3.cell 12 (.int .u32 x.ak) rfl
  have d13 := B3.cell 13 (.int .i64 x.wn) rfl
  have d14 := B3.cell 14 (.int .i64 x.ty) rfl
  have d15 := B3.cell 15 (.int .i64 x.cd) rfl
  have e0 := T3.cell 0 (.int .i64 x.t.fam) rfl
  have e1 := T3.cell 1 (.int .i64 x.t.pr) rfl
  have e8 := T3.cell 8 (.int .i64 x.t.sp) rfl
  have e9 := T3.cell 9 (.int .i64 x.t.dp) rfl
  have h6' : (x.t.pr == 6) = true := by simpa using h6
  have HP : Hid (flagsB x.fl = true ∧ x.ty = 0 ∧ x.cd = 0 → Pl x) := fun hh => .inl ⟨h6, hh.1, hh.2.1, hh.2.2⟩
  have KF : Hid (∀ W, Calls Try.prog 47 #[.int .i64 x.fl] W _) := fun W => rFlags_any x.fl W
  generalize flagsB x.fl = FB at *
  clear h6
  go_enter Try.func22, Try.ntmps22
  go_wp2_with (first
    | (refine wpList_load_sub rfl _ _ rfl w.heap.size 0 38 (by rfl) _ #[.int .i64 x.t.fam, .int .i64 x.t.pr, .int .i64 x.t.s.fam, .int .u64 x.t.s.hi, .int .u64 x.t.s.lo, .int .i64 x.t.d.fam, .int .u64 x.t.d.hi, .int .u64 x.t.d.lo, .int .i64 x.t.sp, .int .i64 x.t.dp] B1 (by rfl) Try.underlying26 (by kernel_rfl) ?_)
    | (refine wpList_store_row rfl _ _ _ rfl W1.heap.size #[.int .i64 x.t.fam, .int .i64 x.t.pr, .int .i64 x.t.s.fam, .int .u64 x.t.s.hi, .int .u64 x.t.s.lo, .int .i64 x.t.d.fam, .int .u64 x.t.d.hi, .int .u64 x.t.d.lo, .int .i64 x.t.sp, .int .i64 x.t.dp] (by rfl) (by rfl) _ _ T2 (by kernel_rfl) (by rfl) (by kernel_rfl) ?_; rw [HW3.out]))
  refine Calls.mono (KF.out _) ?_
  rintro e W4 ⟨rfl, hW4⟩
  rw [hW4]
  clear hW4 W4 KF
  cases FB with
  | false =>
    go_wp2
    go_ret
    first | exact ⟨fun (hR : false = true) => (by cases hR), b3⟩ | exact ⟨_, rfl, fun hR => (by cases hR), b3⟩
  | true =>
    go_wp2_with fail
    all_goals (go_ret; first | exact ⟨fun (hR : false = true) => (by cases hR), b3⟩ | exact ⟨fun hR => HP.out (by simp_all), b3⟩ | exact ⟨_, rfl, fun hR => HP.out (by simp_all), b3⟩)

set_option maxRecDepth 100000 in
set_option maxHeartbeats 4000000 in
theorem plain_udp (x : Sg) (a : Option Addr) (c : Nat) (w : World) (h6 : ¬ x.t.pr = 6) (h17 : x.t.pr = 17) :
    Calls Try.prog 22 #[.agg #[.int .i64 x.t.fam, .int .i64 x.t.pr, .int .i64 x.t.s.fam, .int .u64 x.t.s.hi, .int .u64 x.t.s.lo, .int .i64 x.t.d.fam, .int .u64 x.t.d.hi, .int .u64 x.t.d.lo, .int .i64 x.t.sp, .int .i64 x.t.dp, .int .i64 x.fl, .int .u32 x.sq, .int .u32 x.ak, .int .i64 x.wn, .int .i64 x.ty, .int .i64 x.cd, .bool x.er, .int .i64 x.inn.fam, .int .i64 x.inn.pr, .int .i64 x.inn.s.fam, .int .u64 x.inn.s.hi, .int .u64 x.inn.s.lo, .int .i64 x.inn.d.fam, .int .u64 x.inn.d.hi, .int .u64 x.inn.d.lo, .int .i64 x.inn.sp, .int .i64 x.inn.dp, .slice a x.data.length c]] w fun e w' => ∃ R, e = .returned (.bool R) ∧ (R = true → Pl x) ∧ Below w.heap.size w w' := by
  obtain ⟨W1, hW1⟩ : ∃ W1, w.alloc (.cells #[.int .i64 x.t.fam, .int .i64 x.t.pr, .int .i64 x.t.s.fam, .int .u64 x.t.s.hi, .int .u64 x.t.s.lo, .int .i64 x.t.d.fam, .int .u64 x.t.d.hi, .int .u64 x.t.d.lo, .int .i64 x.t.sp, .int .i64 x.t.dp, .int .i64 x.fl, .int .u32 x.sq, .int .u32 x.ak, .int .i64 x.wn, .int .i64 x.ty, .int .i64 x.cd, .bool x.er, .int .i64 x.inn.fam, .int .i64 x.inn.pr, .int .i64 x.inn.s.fam, .int .u64 x.inn.s.hi, .int .u64 x.inn.s.lo, .int .i64 x.inn.d.fam, .int .u64 x.inn.d.hi, .int .u64 x.inn.d.lo, .int .i64 x.inn.sp, .int .i64 x.inn.dp, .slice a x.data.length c] 38) = W1 := ⟨_, rfl⟩
  have b1 : Below w.heap.size w W1 := by rw [← hW1]; exact (Below.refl _ _).alloc (Nat.le_refl _) _
  have B1 : Blk W1 w.heap.size 38 #[.int .i64 x.t.fam, .int .i64 x.t.pr, .int .i64 x.t.s.fam, .int .u64 x.t.s.hi, .int .u64 x.t.s.lo, .int .i64 x.t.d.fam, .int .u64 x.t.d.hi, .int .u64 x.t.d.lo, .int .i64 x.t.sp, .int .i64 x.t.dp, .int .i64 x.fl, .int .u32 x.sq, .int .u32 x.ak, .int .i64 x.wn, .int .i64 x.ty, .int .i64 x.cd, .bool x.er, .int .i64 x.inn.fam, .int .i64 x.inn.pr, .int .i64 x.inn.s.fam, .int .u64 x.inn.s.hi, .int .u64 x.inn.s.lo, .int .i64 x.inn.d.fam, .int .u64 x.inn.d.hi, .int .u64 x.inn.d.lo, .int .i64 x.inn.sp, .int .i64 x.inn.dp, .slice a x.data.length c] := by rw [← hW1]; exact blk_new _ _ _
  have g1 : w.heap.size < W1.heap.size := B1.lt
  obtain ⟨W2, hW2⟩ : ∃ W2, W1.alloc (.cells #[.int .i64 0, .int .i64 0, .int .i64 0, .int .u64 0, .int .u64 0, .int .i64 0, .int .u64 0, .int .u64 0, .int .i64 0, .int .i64 0] 26) = W2 := ⟨_, rfl⟩
  have b2 : Below w.heap.size w W2 := by rw [← hW2]; exact b1.alloc b1.size _
  have B2 : Blk W2 w.heap.size 38 #[.int .i64 x.t.fam, .int .i64 x.t.pr, .int .i64 x.t.s.fam, .int .u64 x.t.s.hi, .int .u64 x.t.s.lo, .int .i64 x.t.d.fam, .int .u64 x.t.d.hi, .int .u64 x.t.d.lo, .int .i64 x.t.sp, .int .i64 x.t.dp, .int .i64 x.fl, .int .u32 x.sq, .int .u32 x.ak, .int .i64 x.wn, .int .i64 x.ty, .int .i64 x.cd, .bool x.er, .int .i64 x.inn.fam, .int .i64 x.inn.pr, .int .i64 x.inn.s.fam, .int .u64 x.inn.s.hi, .int .u64 x.inn.s.lo, .int .i64 x.inn.d.fam, .int .u64 x.inn.d.hi, .int .u64 x.inn.d.lo, .int .i64 x.inn.sp, .int .i64 x.inn.dp, .slice a x.data.length c] := by rw [← hW2]; exact B1.alloc _
  have T2 : Blk W2 W1.heap.size 26 #[.int .i64 0, .int .i64 0, .int .i64 0, .int .u64 0, .int .u64 0, .int .i64 0, .int .u64 0, .int .u64 0, .int .i64 0, .int .i64 0] := by rw [← hW2]; exact blk_new _ _ _
  obtain ⟨W3, hW3⟩ : ∃ W, W2.setRow W1.heap.size #[.int .i64 x.t.fam, .int .i64 x.t.pr, .int .i64 x.t.s.fam, .int .u64 x.t.s.hi, .int .u64 x.t.s.lo, .int .i64 x.t.d.fam, .int .u64 x.t.d.hi, .int .u64 x.t.d.lo, .int .i64 x.t.sp, .int .i64 x.t.dp] = W := ⟨_, rfl⟩
  have b3 : Below w.heap.size w W3 := by rw [← hW3]; exact below_setRow b2 (Nat.le_of_lt g1) _
  have B3 : Blk W3 w.heap.size 38 #[.int .i64 x.t.fam, .int .i64 x.t.pr, .int .i64 x.t.s.fam, .int .u64 x.t.s.hi, .int .u64 x.t.s.lo, .int .i64 x.t.d.fam, .int .u64 x.t.d.hi, .int .u64 x.t.d.lo, .int .i64 x.t.sp, .int .i64 x.t.dp, .int .i64 x.fl, .int .u32 x.sq, .int .u32 x.ak, .int .i64 x.wn, .int .i64 x.ty, .int .i64 x.cd, .bool x.er, .int .i64 x.inn.fam, .int .i64 x.inn.pr, .int .i64 x.inn.s.fam, .int .u64 x.inn.s.hi, .int .u64 x.inn.s.lo, .int .i64 x.inn.d.fam, .int .u64 x.inn.d.hi, .int .u64 x.inn.d.lo, .int .i64 x.inn.sp, .int .i64 x.inn.dp, .slice a x.data.length c] := by rw [← hW3]; exact B2.other (by omega) _
  have T3 : Blk W3 W1.heap.size 26 #[.int .i64 x.t.fam, .int .i64 x.t.pr, .int .i64 x.t.s.fam, .int .u64 x.t.s.hi, .int .u64 x.t.s.lo, .int .i64 x.t.d.fam, .int .u64 x.t.d.hi, .int .u64 x.t.d.lo, .int .i64 x.t.sp, .int .i64 x.t.dp] := by rw [← hW3]; exact T2.set _
  have HW3 : Hid _ := hW3
  clear hW3
  have d10 := B3.cell 10 (.int .i64 x.fl) rfl
  have d11 := B3.cell 11 (.int .u32 x.sq) rfl
  have d12 := B3.cell 12 (.int .u32 x.ak) rfl
  have d13 := B3.cell 13 (.int .i64 x.wn) rfl
  have d14 := B3.cell 14 (.int .i64 x.ty) rfl
  have d15 := B3.cell 15 (.int .i64 x.cd) rfl
  have e0 := T3.cell 0 (.int .i64 x.t.fam) rfl
  have e1 := T3.cell 1 (.int .i64 x.t.pr) rfl
  have e8 := T3.cell 8 (.int .i64 x.t.sp) rfl
  have e9 := T3.cell 9 (.int .i64 x.t.dp) rfl
  have h6' : (x.t.pr == 6) = false := by simpa using h6
  have h17' : (x.t.pr == 17) = true := by simpa using h17
  have HP : Hid (x.fl = 0 ∧ x.sq = 0 ∧ x.ak = 0 ∧ x.wn = 0 ∧ x.ty = 0 ∧ x.cd = 0 → Pl x) := fun hh => .inr (.inl ⟨h17, hh⟩)
  clear h6 h17
  go_enter Try.func22, Try.ntmps22
  go_wp2_with (first
    | (refine wpList_load_sub rfl _ _ rfl w.heap.size 0 38 (by rfl) _ #[.int .i64 x.t.fam, .int .i64 x.t.pr, .int .i64 x.t.s.fam, .int .u64 x.t.s.hi, .int .u64 x.t.s.lo, .int .i64 x.t.d.fam, .int .u64 x.t.d.hi, .int .u64 x.t.d.lo, .int .i64 x.t.sp, .int .i64 x.t.dp] B1 (by rfl) Try.underlying26 (by kernel_rfl) ?_)
    | (refine wpList_store_row rfl _ _ _ rfl W1.heap.size #[.int .i64 x.t.fam, .int .i64 x.t.pr, .int .i64 x.t.s.fam, .int .u64 x.t.s.hi, .int .u64 x.t.s.lo, .int .i64 x.t.d.fam, .int .u64 x.t.d.hi, .int .u64 x.t.d.lo, .int .i64 x.t.sp, .int .i64 x.t.dp] (by rfl) (by rfl) _ _ T2 (by kernel_rfl) (by rfl) (by kernel_rfl) ?_; rw [HW3.out]))
  all_goals (go_ret; first | exact ⟨fun (hR : false = true) => (by cases hR), b3⟩ | exact ⟨fun hR => HP.out (by simp_all), b3⟩ | exact ⟨_, rfl, fun hR => HP.out (by simp_all), b3⟩)

set_option maxRecDepth 100000 in
set_option maxHeartbeats 4000000 in
theorem plain_icmp (x : Sg) (a : Option Addr) (c : Nat) (w : World) (h6 : ¬ x.t.pr = 6) (h17 : ¬ x.t.pr = 17) :
    Calls Try.prog 22 #[.agg #[.int .i64 x.t.fam, .int .i64 x.t.pr, .int .i64 x.t.s.fam, .int .u64 x.t.s.hi, .int .u64 x.t.s.lo, .int .i64 x.t.d.fam, .int .u64 x.t.d.hi, .int .u64 x.t.d.lo, .int .i64 x.t.sp, .int .i64 x.t.dp, .int .i64 x.fl, .int .u32 x.sq, .int .u32 x.ak, .int .i64 x.wn, .int .i64 x.ty, .int .i64 x.cd, .bool x.er, .int .i64 x.inn.fam, .int .i64 x.inn.pr, .int .i64 x.inn.s.fam, .int .u64 x.inn.s.hi, .int .u64 x.inn.s.lo, .int .i64 x.inn.d.fam, .int .u64 x.inn.d.hi, .int .u64 x.inn.d.lo, .int .i64 x.inn.sp, .int .i64 x.inn.dp, .slice a x.data.length c]] w fun e w' => ∃ R, e = .returned (.bool R) ∧ (R = true → Pl x) ∧ Below w.heap.size w w' := by
  obtain ⟨W1, hW1⟩ : ∃ W1, w.alloc (.cells #[.int .i64 x.t.fam, .int .i64 x.t.pr, .int .i64 x.t.s.fam, .int .u64 x.t.s.hi, .int .u64 x.t.s.lo, .int .i64 x.t.d.fam, .int .u64 x.t.d.hi, .int .u64 x.t.d.lo, .int .i64 x.t.sp, .int .i64 x.t.dp, .int .i64 x.fl, .int .u32 x.sq, .int .u32 x.ak, .int .i64 x.wn, .int .i64 x.ty, .int .i64 x.cd, .bool x.er, .int .i64 x.inn.fam, .int .i64 x.inn.pr, .int .i64 x.inn.s.fam, .int .u64 x.inn.s.hi, .int .u64 x.inn.s.lo, .int .i64 x.inn.d.fam, .int .u64 x.inn.d.hi, .int .u64 x.inn.d.lo, .int .i64 x.inn.sp, .int .i64 x.inn.dp, .slice a x.data.length c] 38) = W1 := ⟨_, rfl⟩
  have b1 : Below w.heap.size w W1 := by rw [← hW1]; exact (Below.refl _ _).alloc (Nat.le_refl _) _
  have B1 : Blk W1 w.heap.size 38 #[.int .i64 x.t.fam, .int .i64 x.t.pr, .int .i64 x.t.s.fam, .int .u64 x.t.s.hi, .int .u64 x.t.s.lo, .int .i64 x.t.d.fam, .int .u64 x.t.d.hi, .int .u64 x.t.d.lo, .int .i64 x.t.sp, .int .i64 x.t.dp, .int .i64 x.fl, .int .u32 x.sq, .int .u32 x.ak, .int .i64 x.wn, .int .i64 x.ty, .int .i64 x.cd, .bool x.er, .int .i64 x.inn.fam, .int .i64 x.inn.pr, .int .i64 x.inn.s.fam, .int .u64 x.inn.s.hi, .int .u64 x.inn.s.lo, .int .i64 x.inn.d.fam, .int .u64 x.inn.d.hi, .int .u64 x.inn.d.lo, .int .i64 x.inn.sp, .int .i64 x.inn.dp, .slice a x.data.length c] := by rw [← hW1]; exact blk_new _ _ _
  have g1 : w.heap.size < W1.heap.size := B1.lt
  obtain ⟨W2, hW2⟩ : ∃ W2, W1.alloc (.cells #[.int .i64 0, .int .i64 0, .int .i64 0, .int .u64 0, .int .u64 0, .int .i64 0, .int .u64 0, .int .u64 0, .int .i64 0, .int .i64 0] 26) = W2 := ⟨_, rfl⟩
  have b2 : Below w.heap.size w W2 := by rw [← hW2]; exact b1.alloc b1.size _
  have B2 : Blk W2 w.heap.size 38 #[.int .i64 x.t.fam, .int .i64 x.t.pr, .int .i64 x.t.s.fam, .int .u64 x.t.s.hi, .int .u64 x.t.s.lo, .int .i64 x.t.d.fam, .int .u64 x.t.d.hi, .int .u64 x.t.d.lo, .int .i64 x.t.sp, .int .i64 x.t.dp, .int .i64 x.fl, .int .u32 x.sq, .int .u32 x.ak, .int .i64 x.wn, .int .i64 x.ty, .int .i64 x.cd, .bool x.er, .int .i64 x.inn.fam, .int .i64 x.inn.pr, .int .i64 x.inn.s.fam, .int .u64 x.inn.s.hi, .int .u64 x.inn.s.lo, .int .i64 x.inn.d.fam, .int .u64 x.inn.d.hi, .int .u64 x.inn.d.lo, .int .i64 x.inn.sp, .int .i64 x.inn.dp, .slice a x.data.length c] := by rw [← hW2]; exact B1.alloc _
  have T2 : Blk W2 W1.heap.size 26 #[.int .i64 0, .int .i64 0, .int .i64 0, .int .u64 0, .int .u64 0, .int .i64 0, .int .u64 0, .int .u64 0, .int .i64 0, .int .i64 0] := by rw [← hW2]; exact blk_new _ _ _
  obtain ⟨W3, hW3⟩ : ∃ W, W2.setRow W1.heap.size #[.int .i64 x.t.fam, .int .i64 x.t.pr, .int .i64 x.t.s.fam, .int .u64 x.t.s.hi, .int .u64 x.t.s.lo, .int .i64 x.t.d.fam, .int .u64 x.t.d.hi, .int .u64 x.t.d.lo, .int .i64 x.t.sp, .int .i64 x.t.dp] = W := ⟨_, rfl⟩
  have b3 : Below w.heap.size w W3 := by rw [← hW3]; exact below_setRow b2 (Nat.le_of_lt g1) _
  have B3 : Blk W3 w.heap.size 38 #[.int .i64 x.t.fam, .int .i64 x.t.pr, .int .i64 x.t.s.fam, .int .u64 x.t.s.hi, .int .u64 x.t.s.lo, .int .i64 x.t.d.fam, .int .u64 x.t.d.hi, .int .u64 x.t.d.lo, .int .i64 x.t.sp, .int .i64 x.t.dp, .int .i64 x.fl, .int .u32 x.sq, .int .u32 x.ak, .int .i64 x.wn, .int .i64 x.ty, .int .i64 x.cd, .bool x.er, .int .i64 x.inn.fam, .int .i64 x.inn.pr, .int .i64 x.inn.s.fam, .int .u64 x.inn.s.hi, .int .u64 x.inn.s.lo, .int .i64 x.inn.d.fam, .int .u64 x.inn.d.hi, .int .u64 x.inn.d.lo, .int .i64 x.inn.sp, .int .i64 x.inn.dp, .slice a x.data.length c] := by rw [← hW3]; exact B2.other (by omega) _
  have T3 : Blk W3 W1.heap.size 26 #[.int .i64 x.t.fam, .int .i64 x.t.pr, .int .i64 x.t.s.fam, .int .u64 x.t.s.hi, .int .u64 x.t.s.lo, .int .i64 x.t.d.fam, .int .u64 x.t.d.hi, .int .u64 x.t.d.lo, .int .i64 x.t.sp, .int .i64 x.t.dp] := by rw [← hW3]; exact T2.set _
  have HW3 : Hid _ := hW3
  clear hW3
  have d10 := B3.cell 10 (.int .i64 x.fl) rfl
  have d11 := B3.cell 11 (.int .u32 x.sq) rfl
  have d12 := B3.cell 12 (.int .u32 x.ak) rfl
  have d13 := B3.cell 13 (.int .i64 x.wn) rfl
  have d14 := B3.cell 14 (.int .i64 x.ty) rfl
  have d15 := B3.cell 15 (.int .i64 x.cd) rfl
  have e0 := T3.cell 0 (.int .i64 x.t.fam) rfl
  have e1 := T3.cell 1 (.int .i64 x.t.pr) rfl
  have e8 := T3.cell 8 (.int .i64 x.t.sp) rfl
  have e9 := T3.cell 9 (.int .i64 x.t.dp) rfl
  have h6' : (x.t.pr == 6) = false := by simpa using h6
  have h17' : (x.t.pr == 17) = false := by simpa using h17
  have HP : Hid (x.fl = 0 ∧ x.sq = 0 ∧ x.ak = 0 ∧ x.wn = 0 ∧ isErr x.t.fam x.ty = false ∧ x.t.sp = x.t.dp ∧ (rEcho x.t.fam x.ty = true ∨ x.t.sp = 0) → Pl x) := fun hh => .inr (.inr ⟨h6, h17, hh⟩)
  have KE : Hid (∀ W, Calls Try.prog 14 #[.int .i64 x.t.fam, .int .i64 x.ty] W _) := fun W => rIsError_any x.t.fam x.ty W
  have KC : Hid (∀ W, Calls Try.prog 45 #[.int .i64 x.t.fam, .int .i64 x.ty] W _) := fun W => rIsEcho_any x.t.fam x.ty W
  generalize isErr x.t.fam x.ty = EB at *
  generalize rEcho x.t.fam x.ty = CB at *
  clear h6 h17
  go_enter Try.func22, Try.ntmps22
  by_cases q1 : x.fl = 0
  case neg =>
    have q1' : (x.fl != 0) = true := by simpa using q1
    clear q1
    go_wp2_with (first
    | (refine wpList_load_sub rfl _ _ rfl w.heap.size 0 38 (by rfl) _ #[.int .i64 x.t.fam, .int .i64 x.t.pr, .int .i64 x.t.s.fam, .int .u64 x.t.s.hi, .int .u64 x.t.s.lo, .int .i64 x.t.d.fam, .int .u64 x.t.d.hi, .int .u64 x.t.d.lo, .int .i64 x.t.sp, .int .i64 x.t.dp] B1 (by rfl) Try.underlying26 (by kernel_rfl) ?_)
    | (refine wpList_store_row rfl _ _ _ rfl W1.heap.size #[.int .i64 x.t.fam, .int .i64 x.t.pr, .int .i64 x.t.s.fam, .int .u64 x.t.s.hi, .int .u64 x.t.s.lo, .int .i64 x.t.d.fam, .int .u64 x.t.d.hi, .int .u64 x.t.d.lo, .int .i64 x.t.sp, .int .i64 x.t.dp] (by rfl) (by rfl) _ _ T2 (by kernel_rfl) (by rfl) (by kernel_rfl) ?_; rw [HW3.out]))
    go_ret
    first | exact ⟨fun (hR : false = true) => (by cases hR), b3⟩ | exact ⟨_, rfl, fun hR => (by cases hR), b3⟩
  have q1' : (x.fl != 0) = false := by simpa using q1
  by_cases q2 : x.sq = 0
  case neg =>
    have q2' : (x.sq != 0) = true := by simpa using q2
    clear q1 q2
    go_wp2_with (first
    | (refine wpList_load_sub rfl _ _ rfl w.heap.size 0 38 (by rfl) _ #[.int .i64 x.t.fam, .int .i64 x.t.pr, .int .i64 x.t.s.fam, .int .u64 x.t.s.hi, .int .u64 x.t.s.lo, .int .i64 x.t.d.fam, .int .u64 x.t.d.hi, .int .u64 x.t.d.lo, .int .i64 x.t.sp, .int .i64 x.t.dp] B1 (by rfl) Try.underlying26 (by kernel_rfl) ?_)
    | (refine wpList_store_row rfl _ _ _ rfl W1.heap.size #[.int .i64 x.t.fam, .int .i64 x.t.pr, .int .i64 x.t.s.fam, .int .u64 x.t.s.hi, .int .u64 x.t.s.lo, .int .i64 x.t.d.fam, .int .u64 x.t.d.hi, .int .u64 x.t.d.lo, .int .i64 x.t.sp, .int .i64 x.t.dp] (by rfl) (by rfl) _ _ T2 (by kernel_rfl) (by rfl) (by kernel_rfl) ?_; rw [HW3.out]))
    go_ret
    first | exact ⟨fun (hR : false = true) => (by cases hR), b3⟩ | exact ⟨_, rfl, fun hR => (by cases hR), b3⟩
  have q2' : (x.sq != 0) = false := by simpa using q2
  by_cases q3 : x.ak = 0
  case neg =>
    have q3' : (x.ak != 0) = true := by simpa using q3
    clear q1 q2 q3
    go_wp2_with (first
    | (refine wpList_load_sub rfl _ _ rfl w.heap.size 0 38 (by rfl) _ #[.int .i64 x.t.fam, .int .i64 x.t.pr, .int .i64 x.t.s.fam, .int .u64 x.t.s.hi, .int .u64 x.t.s.lo, .int .i64 x.t.d.fam, .int .u64 x.t.d.hi, .int .u64 x.t.d.lo, .int .i64 x.t.sp, .int .i64 x.t.dp] B1 (by rfl) Try.underlying26 (by kernel_rfl) ?_)
    | (refine wpList_store_row rfl _ _ _ rfl W1.heap.size #[.int .i64 x.t.fam, .int .i64 x.t.pr, .int .i64 x.t.s.fam, .int .u64 x.t.s.hi, .int .u64 x.t.s.lo, .int .i64 x.t.d.fam, .int .u64 x.t.d.hi, .int .u64 x.t.d.lo, .int .i64 x.t.sp, .int .i64 x.t.dp] (by rfl) (by rfl) _ _ T2 (by kernel_rfl) (by rfl) (by kernel_rfl) ?_; rw [HW3.out]))
    go_ret
    first | exact ⟨fun (hR : false = true) => (by cases hR), b3⟩ | exact ⟨_, rfl, fun hR => (by cases hR), b3⟩
  have q3' : (x.ak != 0) = false := by simpa using q3
  by_cases q4 : x.wn = 0
  case neg =>
    have q4' : (x.wn != 0) = true := by simpa using q4
    clear q1 q2 q3 q4
    go_wp2_with (first
    | (refine wpList_load_sub rfl _ _ rfl w.heap.size 0 38 (by rfl) _ #[.int .i64 x.t.fam, .int .i64 x.t.pr, .int .i64 x.t.s.fam, .int .u64 x.t.s.hi, .int .u64 x.t.s.lo, .int .i64 x.t.d.fam, .int .u64 x.t.d.hi, .int .u64 x.t.d.lo, .int .i64 x.t.sp, .int .i64 x.t.dp] B1 (by rfl) Try.underlying26 (by kernel_rfl) ?_)
    | (refine wpList_store_row rfl _ _ _ rfl W1.heap.size #[.int .i64 x.t.fam, .int .i64 x.t.pr, .int .i64 x.t.s.fam, .int .u64 x.t.s.hi, .int .u64 x.t.s.lo, .int .i64 x.t.d.fam, .int .u64 x.t.d.hi, .int .u64 x.t.d.lo, .int .i64 x.t.sp, .int .i64 x.t.dp] (by rfl) (by rfl) _ _ T2 (by kernel_rfl) (by rfl) (by kernel_rfl) ?_; rw [HW3.out]))
    go_ret
    first | exact ⟨fun (hR : false = true) => (by cases hR), b3⟩ | exact ⟨_, rfl, fun hR => (by cases hR), b3⟩
  have q4' : (x.wn != 0) = false := by simpa using q4
  have HQ : Hid (x.fl = 0 ∧ x.sq = 0 ∧ x.ak = 0 ∧ x.wn = 0) := ⟨q1, q2, q3, q4⟩
  clear q1 q2 q3 q4
  go_wp2_with (first
    | (refine wpList_load_sub rfl _ _ rfl w.heap.size 0 38 (by rfl) _ #[.int .i64 x.t.fam, .int .i64 x.t.pr, .int .i64 x.t.s.fam, .int .u64 x.t.s.hi, .int .u64 x.t.s.lo, .int .i64 x.t.d.fam, .int .u64 x.t.d.hi, .int .u64 x.t.d.lo, .int .i64 x.t.sp, .int .i64 x.t.dp] B1 (by rfl) Try.underlying26 (by kernel_rfl) ?_)
    | (refine wpList_store_row rfl _ _ _ rfl W1.heap.size #[.int .i64 x.t.fam, .int .i64 x.t.pr, .int .i64 x.t.s.fam, .int .u64 x.t.s.hi, .int .u64 x.t.s.lo, .int .i64 x.t.d.fam, .int .u64 x.t.d.hi, .int .u64 x.t.d.lo, .int .i64 x.t.sp, .int .i64 x.t.dp] (by rfl) (by rfl) _ _ T2 (by kernel_rfl) (by rfl) (by kernel_rfl) ?_; rw [HW3.out]))
  refine Calls.mono (KE.out _) ?_
  rintro e W4 ⟨rfl, hW4⟩
  rw [hW4]
  clear hW4 W4 KE
  cases EB with
  | true =>
    go_wp2
    go_ret
    first | exact ⟨fun (hR : false = true) => (by cases hR), b3⟩ | exact ⟨_, rfl, fun hR => (by cases hR), b3⟩
  | false =>
    by_cases q5 : x.t.sp = x.t.dp
    case neg =>
      have q5' : (x.t.sp != x.t.dp) = true := by simpa using q5
      clear q5
      go_wp2
      go_ret
      first | exact ⟨fun (hR : false = true) => (by cases hR), b3⟩ | exact ⟨_, rfl, fun hR => (by cases hR), b3⟩
    have q5' : (x.t.sp != x.t.dp) = false := by simpa using q5
    have H5 : Hid (x.t.sp = x.t.dp) := q5
    clear q5
    go_wp2_with fail
    refine Calls.mono (KC.out _) ?_
    rintro e W4 ⟨rfl, hW4⟩
    rw [hW4]
    clear hW4 W4 KC
    obtain ⟨r1, r2, r3, r4⟩ := HQ.out
    have HQ : Hid _ := HQ
    cases CB with
    | true =>
      clear r1 r2 r3 r4
      go_wp2
      go_ret
      have hP : Pl x := HP.out (by obtain ⟨r1, r2, r3, r4⟩ := HQ.out; have := H5.out; simp_all)
      first | exact ⟨fun _ => hP, b3⟩ | exact ⟨_, rfl, fun _ => hP, b3⟩
    | false =>
      clear r1 r2 r3 r4
      go_wp2
      go_ret
      have hP : (x.t.sp == 0) = true → Pl x := fun hR => HP.out (by obtain ⟨r1, r2, r3, r4⟩ := HQ.out; have := H5.out; simp_all)
      first | exact ⟨hP, b3⟩ | exact ⟨_, rfl, hP, b3⟩ | exact ⟨fun hR => hP (by simpa using hR), b3⟩ | exact ⟨_, rfl, fun hR => hP (by simpa using hR), b3⟩

theorem plain_any (x : Sg) (a : Option Addr) (c : Nat) (w : World) :
    Calls Try.prog 22 #[.agg #[.int .i64 x.t.fam, .int .i64 x.t.pr, .int .i64 x.t.s.fam, .int .u64 x.t.s.hi, .int .u64 x.t.s.lo, .int .i64 x.t.d.fam, .int .u64 x.t.d.hi, .int .u64 x.t.d.lo, .int .i64 x.t.sp, .int .i64 x.t.dp, .int .i64 x.fl, .int .u32 x.sq, .int .u32 x.ak, .int .i64 x.wn, .int .i64 x.ty, .int .i64 x.cd, .bool x.er, .int .i64 x.inn.fam, .int .i64 x.inn.pr, .int .i64 x.inn.s.fam, .int .u64 x.inn.s.hi, .int .u64 x.inn.s.lo, .int .i64 x.inn.d.fam, .int .u64 x.inn.d.hi, .int .u64 x.inn.d.lo, .int .i64 x.inn.sp, .int .i64 x.inn.dp, .slice a x.data.length c]] w fun e w' => ∃ R, e = .returned (.bool R) ∧ (R = true → Pl x) ∧ Below w.heap.size w w' := by
  by_cases h6 : x.t.pr = 6
  · exact plain_tcp x a c w h6
  by_cases h17 : x.t.pr = 17
  · exact plain_udp x a c w h6 h17
  · exact plain_icmp x a c w h6 h17

end Go.Proofs.Ytgdpcomcndidcaa

namespace Go.Proofs.Ytgdpcomcndidcaa
open Go.RowKit
set_option linter.unusedVariables false
set_option linter.unusedSimpArgs false

abbrev zT10 : Array Value := #[.int .i64 0, .int .i64 0, .int .i64 0, .int .u64 0, .int .u64 0, .int .i64 0, .int .u64 0, .int .u64 0, .int .i64 0, .int .i64 0]
set_option maxRecDepth 100000 in
set_option maxHeartbeats 4000000 in
theorem neq_zero (t : Tp) (w : World) : (binOp .neq 26 (.agg (tpv t)) (.agg zT10)).run Try.prog w = .ok (.bool (!(t.fam == 0 && (t.pr == 0 && ((t.s.fam == 0 && (t.s.hi == 0 && t.s.lo == 0)) && ((t.d.fam == 0 && (t.d.hi == 0 && t.d.lo == 0)) && (t.sp == 0 && t.dp == 0))))))) w := by
  obtain ⟨f, p, ⟨a, b, c⟩, ⟨d, e, g⟩, h, i⟩ := t
  show (binOp .neq 26 (.agg #[.int .i64 f, .int .i64 p, .int .i64 a, .int .u64 b, .int .u64 c, .int .i64 d, .int .u64 e, .int .u64 g, .int .i64 h, .int .i64 i]) (.agg zT10)).run Try.prog w = _
  cases h1 : (f == 0)
  · go_simp
  cases h2 : (p == 0)
  · go_simp
  cases h3 : (a == 0)
  · go_simp
  cases h4 : (b == 0)
  · go_simp
  cases h5 : (c == 0)
  · go_simp
  cases h6 : (d == 0)
  · go_simp
  cases h7 : (e == 0)
  · go_simp
  cases h8 : (g == 0)
  · go_simp
  cases h9 : (h == 0)
  · go_simp
  cases h10 : (i == 0)
  · go_simp
  · go_simp
theorem zero_of (t : Tp) (h : (!(t.fam == 0 && (t.pr == 0 && ((t.s.fam == 0 && (t.s.hi == 0 && t.s.lo == 0)) && ((t.d.fam == 0 && (t.d.hi == 0 && t.d.lo == 0)) && (t.sp == 0 && t.dp == 0)))))) = false) : t = zTp := by
  obtain ⟨f, p, ⟨a, b, c⟩, ⟨d, e, g⟩, h, i⟩ := t
  simp at h
  simp [zTp, h]
theorem wpList_neq_w {ops : Array Oper} {rest : List Oper} {o : Oper} {ac : Act} {w : World} {Q : Exit → Act → World → Prop} (hw : Region.wanted o (yielded ops ac.tmps) = true) (x y : Operand) (ho : o.op = Op.binOp .neq 26 x y 26) (xs ys : Array Value)
    (hx : ac.eval x = .agg xs) (hy : ac.eval y = .agg ys) (b : Bool) (hrun : (binOp .neq 26 (.agg xs) (.agg ys)).run Try.prog w = .ok (.bool b) w) (h : wpList Try.prog ops Q rest (ac.put o.dst (.bool b)) w) : wpList Try.prog ops Q (o :: rest) ac w := by
  refine wpList_step fun K hK => ?_
  rw [if_pos hw]
  have hg := run_eqGuard_agg (P := Try.prog) w .neq 26 x y xs ys (by kernel_rfl)
  unfold Oper.wp
  simp [execOp, ho, hx, hy, hg, hrun, Result.andThen]
  exact hK _ _ h
end Go.Proofs.Ytgdpcomcndidcaa

namespace Go.Proofs.Ytgdpcomcndidcaa
open Go.RowKit
set_option linter.unusedVariables false
set_option linter.unusedSimpArgs false

set_option maxRecDepth 100000 in
theorem and63 (x : Int) (h0 : 0 ≤ x) (h1 : x ≤ 63) : bits .and .i64 x 63 = x := by
  obtain ⟨n, rfl⟩ := Int.eq_ofNat_of_zero_le h0
  have h : ∀ n : Nat, n < 64 → bits .and .i64 (n : Int) 63 = (n : Int) := by decide
  exact h n (by omega)
theorem fam_46 {f : Int} {s d : Ad} (h : endsB f s d = true) : f = 4 ∨ f = 6 := by
  obtain ⟨h1, _, h3, _⟩ := (endsB_iff f s d).1 h
  unfold Ad.right at h1
  split at h1
  · omega
  · simp at h1; omega
theorem echo_eq {f k : Int} (h : f = 4 ∨ f = 6) : rEcho f k = isEcho f k := by
  unfold rEcho isEcho
  rcases h with rfl | rfl <;> simp
theorem back_tcp {x : Sg} (ok : x.ok) (hd : M.Bytes x.data) (m : May5 x) (h6 : x.t.pr = 6) (p2 : flagsB x.fl = true) (p3 : x.ty = 0) (p4 : x.cd = 0) (he : x.er = false) (hi : x.inn = zTp) :
    segE x.t.fam x.t.pr x.t.s x.t.d (madeB x) = 0 ∧ segX x.t.fam x.t.pr x.t.s x.t.d (madeB x) = x := by
  have hs := made_sums ok hd m.ends
  have ll : (madeB x).length = 20 + x.data.length := by rw [made_tcp h6]; simp; omega
  have a0 := u16v_yes (l := madeB x) (k := 0) (by omega)
  have a2 := u16v_yes (l := madeB x) (k := 2) (by omega)
  have a14 := u16v_yes (l := madeB x) (k := 14) (by omega)
  have b4 := u32v_yes (l := madeB x) (k := 4) (by omega)
  have b8 := u32v_yes (l := madeB x) (k := 8) (by omega)
  have hH : tcpH (madeB x) = 20 := by unfold tcpH; rw [made_tcp h6]; rfl
  have hF : tcpF (madeB x) = x.fl := by
    unfold tcpF
    rw [made_tcp h6]
    show bits .and .i64 (x.fl % 256) 63 = x.fl
    have := m.fl
    rw [show x.fl % 256 = x.fl by omega]
    exact and63 _ this.1 this.2
  have hD : (madeB x).drop 20 = x.data := by rw [made_tcp h6]; rfl
  rw [made_tcp h6] at a0 a2 a14 b4 b8
  simp only [List.cons_append, List.nil_append, List.getD_cons_succ, List.getD_cons_zero] at a0 a2 a14 b4 b8
  have c1 := m.sp
  have c2 := m.dp
  have c3 := m.wn
  have c4 := ok.sq
  have c5 := ok.ak
  have e0 : u16v (madeB x) 0 = x.t.sp := by rw [made_tcp h6]; simp only [List.cons_append, List.nil_append]; exact a0.trans (by omega)
  have e2 : u16v (madeB x) 2 = x.t.dp := by rw [made_tcp h6]; simp only [List.cons_append, List.nil_append]; exact a2.trans (by omega)
  have e14 : u16v (madeB x) 14 = x.wn := by rw [made_tcp h6]; simp only [List.cons_append, List.nil_append]; exact a14.trans (by omega)
  have f4 : u32v (madeB x) 4 = x.sq := by rw [made_tcp h6]; simp only [List.cons_append, List.nil_append]; exact b4.trans (by omega)
  have f8 : u32v (madeB x) 8 = x.ak := by rw [made_tcp h6]; simp only [List.cons_append, List.nil_append]; exact b8.trans (by omega)
  have hE : segE x.t.fam x.t.pr x.t.s x.t.d (madeB x) = 0 := by
    unfold segE
    rw [m.ends, if_neg (by decide), if_pos h6]
    unfold tcpE
    rw [if_neg (by omega), hH, if_neg (by omega), hs, if_neg (by decide), hF, p2, if_neg (by decide)]
  refine ⟨hE, ?_⟩
  unfold segX
  rw [if_pos hE, if_pos h6]
  unfold tcpX endT portsOf
  rw [if_pos h6, hF, f4, f8, e14, e0, e2, hH]
  show (⟨⟨x.t.fam, x.t.pr, x.t.s, x.t.d, x.t.sp, x.t.dp⟩, x.fl, x.sq, x.ak, x.wn, 0, 0, false, zTp, (madeB x).drop 20⟩ : Sg) = x
  rw [hD]
  obtain ⟨t, fl, sq, ak, wn, ty, cd, er, inn, data⟩ := x
  simp only at p3 p4 he hi
  subst p3 p4 he hi
  rfl
theorem back_udp {x : Sg} (ok : x.ok) (hd : M.Bytes x.data) (m : May5 x) (h17 : x.t.pr = 17) (p1 : x.fl = 0) (p2 : x.sq = 0) (p3 : x.ak = 0) (p4 : x.wn = 0) (p5 : x.ty = 0) (p6 : x.cd = 0) (he : x.er = false) (hi : x.inn = zTp) :
    segE x.t.fam x.t.pr x.t.s x.t.d (madeB x) = 0 ∧ segX x.t.fam x.t.pr x.t.s x.t.d (madeB x) = x := by
  have hs := made_sums ok hd m.ends
  have hl := m.len
  have ll : (madeB x).length = 8 + x.data.length := by rw [made_udp h17]; simp; omega
  have a0 := u16v_yes (l := madeB x) (k := 0) (by omega)
  have a2 := u16v_yes (l := madeB x) (k := 2) (by omega)
  have a4 := u16v_yes (l := madeB x) (k := 4) (by omega)
  have a6 := u16v_yes (l := madeB x) (k := 6) (by omega)
  rw [made_udp h17] at a0 a2 a4 a6
  simp only [List.cons_append, List.nil_append, List.getD_cons_succ, List.getD_cons_zero] at a0 a2 a4 a6
  have c1 := m.sp
  have c2 := m.dp
  have cb := checkB_bd x
  have e0 : u16v (madeB x) 0 = x.t.sp := by rw [made_udp h17]; simp only [List.cons_append, List.nil_append]; exact a0.trans (by omega)
  have e2 : u16v (madeB x) 2 = x.t.dp := by rw [made_udp h17]; simp only [List.cons_append, List.nil_append]; exact a2.trans (by omega)
  have e4 : u16v (madeB x) 4 = 8 + (x.data.length : Int) := by rw [made_udp h17]; simp only [List.cons_append, List.nil_append]; exact a4.trans (by omega)
  have e6 : u16v (madeB x) 6 = checkB x := by rw [made_udp h17]; simp only [List.cons_append, List.nil_append]; exact a6.trans (by omega)
  have et : (madeB x).take (8 + (x.data.length : Int)).toNat = madeB x := List.take_of_length_le (by omega)
  have hc : checkB x ≠ 0 := by
    unfold checkB
    split
    · decide
    · rename_i h
      intro h0
      exact h ⟨h0, h17⟩
  have hD : (madeB x).drop 8 = x.data := by rw [made_udp h17]; rfl
  have hE : segE x.t.fam x.t.pr x.t.s x.t.d (madeB x) = 0 := by
    unfold segE
    rw [m.ends, if_neg (by decide), if_neg (by omega), if_pos h17]
    unfold udpE
    rw [if_neg (by omega), e4, if_neg (by omega), et, e6, if_neg hc, if_pos hs]
  refine ⟨hE, ?_⟩
  unfold segX
  rw [if_pos hE, if_neg (by omega), if_pos h17]
  unfold udpX endT portsOf
  rw [if_neg (by omega), if_pos h17, e0, e2, e4, et, hD]
  obtain ⟨t, fl, sq, ak, wn, ty, cd, er, inn, data⟩ := x
  simp only at p1 p2 p3 p4 p5 p6 he hi
  subst p1 p2 p3 p4 p5 p6 he hi
  rfl
theorem back_icmp {x : Sg} (ok : x.ok) (hd : M.Bytes x.data) (m : May5 x) (h6 : ¬ x.t.pr = 6) (h17 : ¬ x.t.pr = 17) (p1 : x.fl = 0) (p2 : x.sq = 0) (p3 : x.ak = 0) (p4 : x.wn = 0) (p5 : isErr x.t.fam x.ty = false) (p6 : x.t.sp = x.t.dp) (p7 : rEcho x.t.fam x.ty = true ∨ x.t.sp = 0) (he : x.er = false) (hi : x.inn = zTp) :
    segE x.t.fam x.t.pr x.t.s x.t.d (madeB x) = 0 ∧ segX x.t.fam x.t.pr x.t.s x.t.d (madeB x) = x := by
  have hs := made_sums ok hd m.ends
  have hp : x.t.pr = icmpOf x.t.fam := by rcases m.proto with h | h | h <;> first | exact absurd h h6 | exact absurd h h17 | exact h
  have ll : (madeB x).length = 8 + x.data.length := by rw [made_icmp h6 h17]; simp; omega
  have a4 := u16v_yes (l := madeB x) (k := 4) (by omega)
  rw [made_icmp h6 h17] at a4
  simp only [List.cons_append, List.nil_append, List.getD_cons_succ, List.getD_cons_zero] at a4
  have c1 := m.sp
  have c2 := m.ty
  have c3 := m.cd
  have g0 : (madeB x).getD 0 0 = x.ty := by rw [made_icmp h6 h17]; show x.ty % 256 = x.ty; omega
  have g1 : (madeB x).getD 1 0 = x.cd := by rw [made_icmp h6 h17]; show x.cd % 256 = x.cd; omega
  have hn : 0 ≤ numE x ∧ numE x ≤ 65535 := by unfold numE; split <;> omega
  have e4 : u16v (madeB x) 4 = numE x := by rw [made_icmp h6 h17]; simp only [List.cons_append, List.nil_append]; exact a4.trans (by omega)
  have hD : (madeB x).drop 8 = x.data := by rw [made_icmp h6 h17]; rfl
  have hE : segE x.t.fam x.t.pr x.t.s x.t.d (madeB x) = 0 := by
    unfold segE
    rw [m.ends, if_neg (by decide), if_neg h6, if_neg h17, if_pos hp]
    unfold icmpE
    rw [if_neg (by omega), hs, if_neg (by decide), g0, if_pos p5]
  refine ⟨hE, ?_⟩
  have hq : portsOf x.t.fam x.t.pr (madeB x) = (x.t.sp, x.t.dp) := by
    unfold portsOf
    rw [if_neg h6, if_neg h17, if_pos hp, g0, e4]
    unfold numE
    rw [echo_eq (fam_46 m.ends)] at p7
    split
    · rename_i h
      rw [← p6]
    · rename_i h
      rcases p7 with h' | h'
      · exact absurd h' h
      · rw [← p6, h']
  unfold segX
  rw [if_pos hE, if_neg h6, if_neg h17]
  unfold icmpX endT
  rw [hq, g0, g1, p5, hD]
  obtain ⟨t, fl, sq, ak, wn, ty, cd, er, inn, data⟩ := x
  simp only at p1 p2 p3 p4 he hi
  subst p1 p2 p3 p4 he hi
  rfl
theorem back_EX {x : Sg} (ok : x.ok) (hd : M.Bytes x.data) (m : May5 x) (p : Pl x) (he : x.er = false) (hi : x.inn = zTp) :
    segE x.t.fam x.t.pr x.t.s x.t.d (madeB x) = 0 ∧ segX x.t.fam x.t.pr x.t.s x.t.d (madeB x) = x := by
  rcases p with ⟨h1, h2, h3, h4⟩ | ⟨h1, h2, h3, h4, h5, h6, h7⟩ | ⟨h1, h2, h3, h4, h5, h6, h7, h8, h9⟩
  · exact back_tcp ok hd m h1 h2 h3 h4 he hi
  · exact back_udp ok hd m h1 h2 h3 h4 h5 h6 h7 he hi
  · exact back_icmp ok hd m h1 h2 h3 h4 h5 h6 h7 h8 h9 he hi
end Go.Proofs.Ytgdpcomcndidcaa
