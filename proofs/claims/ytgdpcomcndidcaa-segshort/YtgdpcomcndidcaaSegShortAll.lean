/- For every input the law SegShort returns true and leaves its arguments as they were. -/
import Derived.Test.YtgdpcomcndidcaaSgqF
import Derived.Test.YtgdpcomcndidcaaRows
import Derived.Test.YtgdpcomcndidcaaArgs
import Derived.WalkKit
import Derived.ProofKit
import Derived.OpenShut
import Derived.ShutString
import Derived.ChangeOld
import Derived.Below
import Derived.SizedLaws
namespace Go.Proofs.Ytgdpcomcndidcaa
open Go.RowKit
set_option linter.unusedVariables false
set_option linter.unusedSimpArgs false

theorem madeB_8 (x : Sg) : 8 ≤ (madeB x).length := by
  by_cases h6 : x.t.pr = 6
  · rw [made_tcp h6]; simp only [List.length_append, List.length_cons, List.length_nil]; omega
  by_cases h17 : x.t.pr = 17
  · rw [made_udp h17]; simp
  · rw [made_icmp h6 h17]; simp

set_option maxRecDepth 100000 in
set_option maxHeartbeats 4000000 in
theorem short_no (x : Sg) (a : Option Addr) (c : Nat) (y : Int) (w : World) (ok : x.ok) (tk : x.t.ok) (lc : x.data.length ≤ c) (cm : c ≤ 140737488351232) (nl : a = none → c = 0) (h : Row w a x.data) (wy : (Lit.int .i64 y).wf = true) (hm : mayB x = false) :
    Calls Try.prog 8 #[.agg #[.int .i64 x.t.fam, .int .i64 x.t.pr, .int .i64 x.t.s.fam, .int .u64 x.t.s.hi, .int .u64 x.t.s.lo, .int .i64 x.t.d.fam, .int .u64 x.t.d.hi, .int .u64 x.t.d.lo, .int .i64 x.t.sp, .int .i64 x.t.dp, .int .i64 x.fl, .int .u32 x.sq, .int .u32 x.ak, .int .i64 x.wn, .int .i64 x.ty, .int .i64 x.cd, .bool x.er, .int .i64 x.inn.fam, .int .i64 x.inn.pr, .int .i64 x.inn.s.fam, .int .u64 x.inn.s.hi, .int .u64 x.inn.s.lo, .int .i64 x.inn.d.fam, .int .u64 x.inn.d.hi, .int .u64 x.inn.d.lo, .int .i64 x.inn.sp, .int .i64 x.inn.dp, .slice a x.data.length c], .int .i64 y] w fun e w' => e = .returned (.bool true) ∧ Below w.heap.size w w' := by
  obtain ⟨W1, hW1⟩ : ∃ W1, w.alloc (.cells #[.int .i64 x.t.fam, .int .i64 x.t.pr, .int .i64 x.t.s.fam, .int .u64 x.t.s.hi, .int .u64 x.t.s.lo, .int .i64 x.t.d.fam, .int .u64 x.t.d.hi, .int .u64 x.t.d.lo, .int .i64 x.t.sp, .int .i64 x.t.dp, .int .i64 x.fl, .int .u32 x.sq, .int .u32 x.ak, .int .i64 x.wn, .int .i64 x.ty, .int .i64 x.cd, .bool x.er, .int .i64 x.inn.fam, .int .i64 x.inn.pr, .int .i64 x.inn.s.fam, .int .u64 x.inn.s.hi, .int .u64 x.inn.s.lo, .int .i64 x.inn.d.fam, .int .u64 x.inn.d.hi, .int .u64 x.inn.d.lo, .int .i64 x.inn.sp, .int .i64 x.inn.dp, .slice a x.data.length c] 38) = W1 := ⟨_, rfl⟩
  have b1 : Below w.heap.size w W1 := by rw [← hW1]; exact (Below.refl _ _).alloc (Nat.le_refl _) _
  have B1 : Blk W1 w.heap.size 38 #[.int .i64 x.t.fam, .int .i64 x.t.pr, .int .i64 x.t.s.fam, .int .u64 x.t.s.hi, .int .u64 x.t.s.lo, .int .i64 x.t.d.fam, .int .u64 x.t.d.hi, .int .u64 x.t.d.lo, .int .i64 x.t.sp, .int .i64 x.t.dp, .int .i64 x.fl, .int .u32 x.sq, .int .u32 x.ak, .int .i64 x.wn, .int .i64 x.ty, .int .i64 x.cd, .bool x.er, .int .i64 x.inn.fam, .int .i64 x.inn.pr, .int .i64 x.inn.s.fam, .int .u64 x.inn.s.hi, .int .u64 x.inn.s.lo, .int .i64 x.inn.d.fam, .int .u64 x.inn.d.hi, .int .u64 x.inn.d.lo, .int .i64 x.inn.sp, .int .i64 x.inn.dp, .slice a x.data.length c] := by rw [← hW1]; exact blk_new _ _ _
  have r1 := h.below b1
  have KA : Hid _ := segAlive_any
  have KB : Hid (Calls Try.prog 19 #[.agg #[.int .i64 x.t.fam, .int .i64 x.t.pr, .int .i64 x.t.s.fam, .int .u64 x.t.s.hi, .int .u64 x.t.s.lo, .int .i64 x.t.d.fam, .int .u64 x.t.d.hi, .int .u64 x.t.d.lo, .int .i64 x.t.sp, .int .i64 x.t.dp, .int .i64 x.fl, .int .u32 x.sq, .int .u32 x.ak, .int .i64 x.wn, .int .i64 x.ty, .int .i64 x.cd, .bool x.er, .int .i64 x.inn.fam, .int .i64 x.inn.pr, .int .i64 x.inn.s.fam, .int .u64 x.inn.s.hi, .int .u64 x.inn.s.lo, .int .i64 x.inn.d.fam, .int .u64 x.inn.d.hi, .int .u64 x.inn.d.lo, .int .i64 x.inn.sp, .int .i64 x.inn.dp, .slice a x.data.length c]] W1 fun e w' => ∃ a' c', e = .returned (.tuple #[.slice a' 0 c', .int .i64 1]) ∧ Fresh W1 w' a' c' []) := by
    have := build_any x a c W1 r1 nl ok
    rw [hm] at this
    exact this
  go_enter Try.func8, Try.ntmps8
  go_wp2_with (refine wpList_load_row rfl _ _ rfl w.heap.size (by rfl) _ _ _ _ B1 Try.underlying38 rfl (by kernel_rfl) ?_)
  refine Calls.mono KB.out ?_
  rintro e W2 ⟨a2, c2, rfl, f2⟩
  have b2 : Below w.heap.size w W2 := b1.trans (f2.below.mono b1.size)
  have B2 := B1.kept f2.below
  have r2 := f2.row
  have n2 := f2.nil
  have m2 := f2.room
  have o2 := f2.owns.cap_le
  have O2 := owns_le (B' := W1.heap.size) (Nat.le_refl _) f2.owns
  clear KB f2 hW1
  have t1 := B2.cell 1 (.int .i64 x.t.pr) rfl
  go_wp2_with fail
  refine Calls.mono (KA.out _) ?_
  rintro e W3 ⟨rfl, bb⟩
  have b3 : Below w.heap.size w W3 := b2.trans (bb.mono b2.size)
  clear bb KA
  go_wp2
  go_ret
  exact ⟨rfl, b3⟩

set_option maxRecDepth 100000 in
set_option maxHeartbeats 4000000 in
theorem short_other (x : Sg) (a : Option Addr) (c : Nat) (y : Int) (w : World) (ok : x.ok) (tk : x.t.ok) (lc : x.data.length ≤ c) (cm : c ≤ 140737488351232) (nl : a = none → c = 0) (h : Row w a x.data) (wy : (Lit.int .i64 y).wf = true) (hm : mayB x = true) (h17 : ¬ x.t.pr = 17) :
    Calls Try.prog 8 #[.agg #[.int .i64 x.t.fam, .int .i64 x.t.pr, .int .i64 x.t.s.fam, .int .u64 x.t.s.hi, .int .u64 x.t.s.lo, .int .i64 x.t.d.fam, .int .u64 x.t.d.hi, .int .u64 x.t.d.lo, .int .i64 x.t.sp, .int .i64 x.t.dp, .int .i64 x.fl, .int .u32 x.sq, .int .u32 x.ak, .int .i64 x.wn, .int .i64 x.ty, .int .i64 x.cd, .bool x.er, .int .i64 x.inn.fam, .int .i64 x.inn.pr, .int .i64 x.inn.s.fam, .int .u64 x.inn.s.hi, .int .u64 x.inn.s.lo, .int .i64 x.inn.d.fam, .int .u64 x.inn.d.hi, .int .u64 x.inn.d.lo, .int .i64 x.inn.sp, .int .i64 x.inn.dp, .slice a x.data.length c], .int .i64 y] w fun e w' => e = .returned (.bool true) ∧ Below w.heap.size w w' := by
  obtain ⟨W1, hW1⟩ : ∃ W1, w.alloc (.cells #[.int .i64 x.t.fam, .int .i64 x.t.pr, .int .i64 x.t.s.fam, .int .u64 x.t.s.hi, .int .u64 x.t.s.lo, .int .i64 x.t.d.fam, .int .u64 x.t.d.hi, .int .u64 x.t.d.lo, .int .i64 x.t.sp, .int .i64 x.t.dp, .int .i64 x.fl, .int .u32 x.sq, .int .u32 x.ak, .int .i64 x.wn, .int .i64 x.ty, .int .i64 x.cd, .bool x.er, .int .i64 x.inn.fam, .int .i64 x.inn.pr, .int .i64 x.inn.s.fam, .int .u64 x.inn.s.hi, .int .u64 x.inn.s.lo, .int .i64 x.inn.d.fam, .int .u64 x.inn.d.hi, .int .u64 x.inn.d.lo, .int .i64 x.inn.sp, .int .i64 x.inn.dp, .slice a x.data.length c] 38) = W1 := ⟨_, rfl⟩
  have b1 : Below w.heap.size w W1 := by rw [← hW1]; exact (Below.refl _ _).alloc (Nat.le_refl _) _
  have B1 : Blk W1 w.heap.size 38 #[.int .i64 x.t.fam, .int .i64 x.t.pr, .int .i64 x.t.s.fam, .int .u64 x.t.s.hi, .int .u64 x.t.s.lo, .int .i64 x.t.d.fam, .int .u64 x.t.d.hi, .int .u64 x.t.d.lo, .int .i64 x.t.sp, .int .i64 x.t.dp, .int .i64 x.fl, .int .u32 x.sq, .int .u32 x.ak, .int .i64 x.wn, .int .i64 x.ty, .int .i64 x.cd, .bool x.er, .int .i64 x.inn.fam, .int .i64 x.inn.pr, .int .i64 x.inn.s.fam, .int .u64 x.inn.s.hi, .int .u64 x.inn.s.lo, .int .i64 x.inn.d.fam, .int .u64 x.inn.d.hi, .int .u64 x.inn.d.lo, .int .i64 x.inn.sp, .int .i64 x.inn.dp, .slice a x.data.length c] := by rw [← hW1]; exact blk_new _ _ _
  have r1 := h.below b1
  have KA : Hid _ := segAlive_any
  obtain ⟨L, hL⟩ : ∃ L, madeB x = L := ⟨_, rfl⟩
  have KB : Hid (Calls Try.prog 19 #[.agg #[.int .i64 x.t.fam, .int .i64 x.t.pr, .int .i64 x.t.s.fam, .int .u64 x.t.s.hi, .int .u64 x.t.s.lo, .int .i64 x.t.d.fam, .int .u64 x.t.d.hi, .int .u64 x.t.d.lo, .int .i64 x.t.sp, .int .i64 x.t.dp, .int .i64 x.fl, .int .u32 x.sq, .int .u32 x.ak, .int .i64 x.wn, .int .i64 x.ty, .int .i64 x.cd, .bool x.er, .int .i64 x.inn.fam, .int .i64 x.inn.pr, .int .i64 x.inn.s.fam, .int .u64 x.inn.s.hi, .int .u64 x.inn.s.lo, .int .i64 x.inn.d.fam, .int .u64 x.inn.d.hi, .int .u64 x.inn.d.lo, .int .i64 x.inn.sp, .int .i64 x.inn.dp, .slice a x.data.length c]] W1 fun e w' => ∃ a' c', e = .returned (.tuple #[.slice a' L.length c', .int .i64 0]) ∧ Fresh W1 w' a' c' L) := by
    have := build_any x a c W1 r1 nl ok
    rw [hm, if_pos rfl, if_pos rfl, hL] at this
    exact this
  have lL : 8 ≤ L.length := by
    rw [← hL]
    exact madeB_8 x
  clear hL
  go_enter Try.func8, Try.ntmps8
  go_wp2_with (refine wpList_load_row rfl _ _ rfl w.heap.size (by rfl) _ _ _ _ B1 Try.underlying38 rfl (by kernel_rfl) ?_)
  refine Calls.mono KB.out ?_
  rintro e W2 ⟨a2, c2, rfl, f2⟩
  have b2 : Below w.heap.size w W2 := b1.trans (f2.below.mono b1.size)
  have B2 := B1.kept f2.below
  have r2 := f2.row
  have n2 := f2.nil
  have m2 := f2.room
  have o2 := f2.owns.cap_le
  have O2 := owns_le (B' := W1.heap.size) (Nat.le_refl _) f2.owns
  clear KB f2 hW1
  have t1 := B2.cell 1 (.int .i64 x.t.pr) rfl
  have hl0 : ((L.length : Int) == 0) = false := beq_eq_false_iff_ne.2 (by omega)
  have h17' : (x.t.pr != 17) = true := by simpa using h17
  clear h17
  by_cases h6 : x.t.pr = 6
  · have h6' : (x.t.pr == 6) = true := by simpa using h6
    clear h6
    go_wp2_with fail
    refine Calls.mono (KA.out _) ?_
    rintro e W3 ⟨rfl, bb⟩
    have b3 : Below w.heap.size w W3 := b2.trans (bb.mono b2.size)
    clear bb KA
    go_wp2
    go_ret
    exact ⟨rfl, b3⟩
  · have h6' : (x.t.pr == 6) = false := by simpa using h6
    clear h6
    go_wp2_with fail
    refine Calls.mono (KA.out _) ?_
    rintro e W3 ⟨rfl, bb⟩
    have b3 : Below w.heap.size w W3 := b2.trans (bb.mono b2.size)
    clear bb KA
    go_wp2
    go_ret
    exact ⟨rfl, b3⟩

set_option maxRecDepth 100000 in
set_option maxHeartbeats 4000000 in
theorem short_udp (x : Sg) (a : Option Addr) (c : Nat) (y : Int) (w : World) (ok : x.ok) (tk : x.t.ok) (lc : x.data.length ≤ c) (cm : c ≤ 140737488351232) (nl : a = none → c = 0) (h : Row w a x.data) (wy : (Lit.int .i64 y).wf = true) (hm : mayB x = true) (h17 : x.t.pr = 17) :
    Calls Try.prog 8 #[.agg #[.int .i64 x.t.fam, .int .i64 x.t.pr, .int .i64 x.t.s.fam, .int .u64 x.t.s.hi, .int .u64 x.t.s.lo, .int .i64 x.t.d.fam, .int .u64 x.t.d.hi, .int .u64 x.t.d.lo, .int .i64 x.t.sp, .int .i64 x.t.dp, .int .i64 x.fl, .int .u32 x.sq, .int .u32 x.ak, .int .i64 x.wn, .int .i64 x.ty, .int .i64 x.cd, .bool x.er, .int .i64 x.inn.fam, .int .i64 x.inn.pr, .int .i64 x.inn.s.fam, .int .u64 x.inn.s.hi, .int .u64 x.inn.s.lo, .int .i64 x.inn.d.fam, .int .u64 x.inn.d.hi, .int .u64 x.inn.d.lo, .int .i64 x.inn.sp, .int .i64 x.inn.dp, .slice a x.data.length c], .int .i64 y] w fun e w' => e = .returned (.bool true) ∧ Below w.heap.size w w' := by
  obtain ⟨W1, hW1⟩ : ∃ W1, w.alloc (.cells #[.int .i64 x.t.fam, .int .i64 x.t.pr, .int .i64 x.t.s.fam, .int .u64 x.t.s.hi, .int .u64 x.t.s.lo, .int .i64 x.t.d.fam, .int .u64 x.t.d.hi, .int .u64 x.t.d.lo, .int .i64 x.t.sp, .int .i64 x.t.dp, .int .i64 x.fl, .int .u32 x.sq, .int .u32 x.ak, .int .i64 x.wn, .int .i64 x.ty, .int .i64 x.cd, .bool x.er, .int .i64 x.inn.fam, .int .i64 x.inn.pr, .int .i64 x.inn.s.fam, .int .u64 x.inn.s.hi, .int .u64 x.inn.s.lo, .int .i64 x.inn.d.fam, .int .u64 x.inn.d.hi, .int .u64 x.inn.d.lo, .int .i64 x.inn.sp, .int .i64 x.inn.dp, .slice a x.data.length c] 38) = W1 := ⟨_, rfl⟩
  have b1 : Below w.heap.size w W1 := by rw [← hW1]; exact (Below.refl _ _).alloc (Nat.le_refl _) _
  have B1 : Blk W1 w.heap.size 38 #[.int .i64 x.t.fam, .int .i64 x.t.pr, .int .i64 x.t.s.fam, .int .u64 x.t.s.hi, .int .u64 x.t.s.lo, .int .i64 x.t.d.fam, .int .u64 x.t.d.hi, .int .u64 x.t.d.lo, .int .i64 x.t.sp, .int .i64 x.t.dp, .int .i64 x.fl, .int .u32 x.sq, .int .u32 x.ak, .int .i64 x.wn, .int .i64 x.ty, .int .i64 x.cd, .bool x.er, .int .i64 x.inn.fam, .int .i64 x.inn.pr, .int .i64 x.inn.s.fam, .int .u64 x.inn.s.hi, .int .u64 x.inn.s.lo, .int .i64 x.inn.d.fam, .int .u64 x.inn.d.hi, .int .u64 x.inn.d.lo, .int .i64 x.inn.sp, .int .i64 x.inn.dp, .slice a x.data.length c] := by rw [← hW1]; exact blk_new _ _ _
  have r1 := h.below b1
  have KA : Hid _ := segAlive_any
  obtain ⟨L, hL⟩ : ∃ L, madeB x = L := ⟨_, rfl⟩
  have KB : Hid (Calls Try.prog 19 #[.agg #[.int .i64 x.t.fam, .int .i64 x.t.pr, .int .i64 x.t.s.fam, .int .u64 x.t.s.hi, .int .u64 x.t.s.lo, .int .i64 x.t.d.fam, .int .u64 x.t.d.hi, .int .u64 x.t.d.lo, .int .i64 x.t.sp, .int .i64 x.t.dp, .int .i64 x.fl, .int .u32 x.sq, .int .u32 x.ak, .int .i64 x.wn, .int .i64 x.ty, .int .i64 x.cd, .bool x.er, .int .i64 x.inn.fam, .int .i64 x.inn.pr, .int .i64 x.inn.s.fam, .int .u64 x.inn.s.hi, .int .u64 x.inn.s.lo, .int .i64 x.inn.d.fam, .int .u64 x.inn.d.hi, .int .u64 x.inn.d.lo, .int .i64 x.inn.sp, .int .i64 x.inn.dp, .slice a x.data.length c]] W1 fun e w' => ∃ a' c', e = .returned (.tuple #[.slice a' L.length c', .int .i64 0]) ∧ Fresh W1 w' a' c' L) := by
    have := build_any x a c W1 r1 nl ok
    rw [hm, if_pos rfl, if_pos rfl, hL] at this
    exact this
  have lL : 8 ≤ L.length := by rw [← hL]; exact madeB_8 x
  have lL2 : L.length ≤ 65535 := by
    rw [← hL, made_udp h17]
    have := (may5 hm).len
    simp
    omega
  have hy := wf_i64 wy
  obtain ⟨k, hk, ek⟩ := turn_place y L.length (by omega) (by omega)
  have lk : (L.take k).length = k := by rw [List.length_take]; omega
  obtain ⟨E, hE⟩ : ∃ E, segE x.t.fam x.t.pr x.t.s x.t.d (L.take k) = E := ⟨_, rfl⟩
  obtain ⟨X, hX⟩ : ∃ X, segX x.t.fam x.t.pr x.t.s x.t.d (L.take k) = X := ⟨_, rfl⟩
  have hE0 : (E != 0) = true := by
    have := short_E (may5 hm) h17 k (by rw [hL]; exact hk)
    rw [hL, hE] at this
    simpa using this
  have hl0 : ((L.length : Int) == 0) = false := beq_eq_false_iff_ne.2 (by omega)
  have h17' : (x.t.pr != 17) = false := by simpa using h17
  have h6' : (x.t.pr == 6) = false := by rw [h17]; rfl
  have HLL : Hid (segE x.t.fam x.t.pr x.t.s x.t.d (L.take k) = E ∧ segX x.t.fam x.t.pr x.t.s x.t.d (L.take k) = X ∧ (L.take k).length = k) := ⟨hE, hX, lk⟩
  clear hL h17 hE hX lk
  go_enter Try.func8, Try.ntmps8
  go_wp2_with (refine wpList_load_row rfl _ _ rfl w.heap.size (by rfl) _ _ _ _ B1 Try.underlying38 rfl (by kernel_rfl) ?_)
  refine Calls.mono KB.out ?_
  rintro e W2 ⟨a2, c2, rfl, f2⟩
  have b2 : Below w.heap.size w W2 := b1.trans (f2.below.mono b1.size)
  have B2 := B1.kept f2.below
  have r2 := f2.row
  have n2 := f2.nil
  have m2 := f2.room
  have o2 := f2.owns.cap_le
  have O2 := owns_le (B' := W1.heap.size) (Nat.le_refl _) f2.owns
  clear KB f2 hW1
  have t1 := B2.cell 1 (.int .i64 x.t.pr) rfl
  have lk := HLL.out.2.2
  have hE := HLL.out.1
  have hX := HLL.out.2.1
  have KQ : Hid (∀ W, Calls Try.prog 21 #[.agg #[.int .i64 x.t.fam, .int .i64 x.t.pr, .int .i64 x.t.s.fam, .int .u64 x.t.s.hi, .int .u64 x.t.s.lo, .int .i64 x.t.d.fam, .int .u64 x.t.d.hi, .int .u64 x.t.d.lo, .int .i64 x.t.sp, .int .i64 x.t.dp, .int .i64 x.fl, .int .u32 x.sq, .int .u32 x.ak, .int .i64 x.wn, .int .i64 x.ty, .int .i64 x.cd, .bool x.er, .int .i64 x.inn.fam, .int .i64 x.inn.pr, .int .i64 x.inn.s.fam, .int .u64 x.inn.s.hi, .int .u64 x.inn.s.lo, .int .i64 x.inn.d.fam, .int .u64 x.inn.d.hi, .int .u64 x.inn.d.lo, .int .i64 x.inn.sp, .int .i64 x.inn.dp, .slice a x.data.length c], .slice a2 k c2] W fun e w' => e = .returned (.agg #[.int .i64 x.t.fam, .int .i64 x.t.s.fam, .int .u64 x.t.s.hi, .int .u64 x.t.s.lo, .int .i64 x.t.d.fam, .int .u64 x.t.d.hi, .int .u64 x.t.d.lo, .int .i64 x.t.pr, .int .i64 1, .bool false, .int .u32 0, .int .i64 0, .bool false, .slice none 0 0, .slice a2 k c2]) ∧ Below W.heap.size W w') := fun W => packet_any x a c a2 k c2 W
  have KR : Hid (∀ W, Row W a2 L → Calls Try.prog 16 #[.agg #[.int .i64 x.t.fam, .int .i64 x.t.s.fam, .int .u64 x.t.s.hi, .int .u64 x.t.s.lo, .int .i64 x.t.d.fam, .int .u64 x.t.d.hi, .int .u64 x.t.d.lo, .int .i64 x.t.pr, .int .i64 1, .bool false, .int .u32 0, .int .i64 0, .bool false, .slice none 0 0, .slice a2 k c2]] W fun e w' => ∃ ax cx, e = .returned (.tuple #[.agg #[.int .i64 X.t.fam, .int .i64 X.t.pr, .int .i64 X.t.s.fam, .int .u64 X.t.s.hi, .int .u64 X.t.s.lo, .int .i64 X.t.d.fam, .int .u64 X.t.d.hi, .int .u64 X.t.d.lo, .int .i64 X.t.sp, .int .i64 X.t.dp, .int .i64 X.fl, .int .u32 X.sq, .int .u32 X.ak, .int .i64 X.wn, .int .i64 X.ty, .int .i64 X.cd, .bool X.er, .int .i64 X.inn.fam, .int .i64 X.inn.pr, .int .i64 X.inn.s.fam, .int .u64 X.inn.s.hi, .int .u64 X.inn.s.lo, .int .i64 X.inn.d.fam, .int .u64 X.inn.d.hi, .int .u64 X.inn.d.lo, .int .i64 X.inn.sp, .int .i64 X.inn.dp, .slice ax X.data.length cx], .int .i64 E]) ∧ Fresh W w' ax cx X.data) := fun W hW => by
    have := segParse_any x.t.fam x.t.s.fam x.t.s.hi x.t.s.lo x.t.d.fam x.t.d.hi x.t.d.lo x.t.pr 1 false 0 0 false none 0 0 a2 c2 (L.take k) W (hW.take k) n2 (by rw [lk]; omega) o2 (by rw [lk]; omega) ok.s ok.d
    rw [lk, show segE x.t.fam x.t.pr ⟨x.t.s.fam, x.t.s.hi, x.t.s.lo⟩ ⟨x.t.d.fam, x.t.d.hi, x.t.d.lo⟩ (L.take k) = E from hE, show segX x.t.fam x.t.pr ⟨x.t.s.fam, x.t.s.hi, x.t.s.lo⟩ ⟨x.t.d.fam, x.t.d.hi, x.t.d.lo⟩ (L.take k) = X from hX] at this
    exact this
  clear HLL lk hE hX
  have hkc : (k : Int) ≤ (c2 : Int) := by omega
  have hkc' : k ≤ c2 := by omega
  have hk0 : (0 : Int) ≤ (k : Int) := by omega
  have hkl : k ≤ L.length := by omega
  go_wp2_with fail
  refine wp_region_noPanic ?_
  refine wp_region_held_drew (S := fun w' => Blk w' w.heap.size 38 #[.int .i64 x.t.fam, .int .i64 x.t.pr, .int .i64 x.t.s.fam, .int .u64 x.t.s.hi, .int .u64 x.t.s.lo, .int .i64 x.t.d.fam, .int .u64 x.t.d.hi, .int .u64 x.t.d.lo, .int .i64 x.t.sp, .int .i64 x.t.dp, .int .i64 x.fl, .int .u32 x.sq, .int .u32 x.ak, .int .i64 x.wn, .int .i64 x.ty, .int .i64 x.cd, .bool x.er, .int .i64 x.inn.fam, .int .i64 x.inn.pr, .int .i64 x.inn.s.fam, .int .u64 x.inn.s.hi, .int .u64 x.inn.s.lo, .int .i64 x.inn.d.fam, .int .u64 x.inn.d.hi, .int .u64 x.inn.d.lo, .int .i64 x.inn.sp, .int .i64 x.inn.dp, .slice a x.data.length c]) (by kernel_rfl) (by exact B2.drew) (fun hHeld => ?_)
  refine wpAnyH_take (i := 0) (oi := { dst := some 45, op := Op.load 38 (.tmp 2), type := 38, pos := "law.go:95", after := #[], guard := none }) (v := (.agg #[.int .i64 x.t.fam, .int .i64 x.t.pr, .int .i64 x.t.s.fam, .int .u64 x.t.s.hi, .int .u64 x.t.s.lo, .int .i64 x.t.d.fam, .int .u64 x.t.d.hi, .int .u64 x.t.d.lo, .int .i64 x.t.sp, .int .i64 x.t.dp, .int .i64 x.fl, .int .u32 x.sq, .int .u32 x.ak, .int .i64 x.wn, .int .i64 x.ty, .int .i64 x.cd, .bool x.er, .int .i64 x.inn.fam, .int .i64 x.inn.pr, .int .i64 x.inn.s.fam, .int .u64 x.inn.s.hi, .int .u64 x.inn.s.lo, .int .i64 x.inn.d.fam, .int .u64 x.inn.d.hi, .int .u64 x.inn.d.lo, .int .i64 x.inn.sp, .int .i64 x.inn.dp, .slice a x.data.length c])) rfl (by kernel_rfl) (by kernel_rfl) (by kernel_rfl) (fun _ _ _ h => h) (yieldsIf_blk rfl _ _ rfl w.heap.size (by rfl) _ (fun _ hSw => hSw) Try.underlying38 (by kernel_rfl)) hHeld ?_
  try simp only [Act.put, List.setIfInBounds_toArray, List.set_cons_zero, List.set_cons_succ]
  refine wpAnyH_take (i := 1) (oi := { dst := some 46, op := Op.move (.tmp 5), type := 28, pos := "law.go:95", after := #[], guard := none }) (v := (.slice a2 L.length c2)) rfl (by kernel_rfl) (by kernel_rfl) (by kernel_rfl) (fun _ _ _ h => h) (Or.inl ⟨by rfl, ?_⟩) hHeld ?_
  · intro w9 hSw
    try dsimp only at hSw
    go_simp
  try simp only [Act.put, List.setIfInBounds_toArray, List.set_cons_zero, List.set_cons_succ]
  refine wpAnyH_take (i := 2) (oi := { dst := some 47, op := Op.move (.tmp 1), type := 3, pos := "law.go:95", after := #[], guard := none }) (v := (.int .i64 (k : Int))) rfl (by kernel_rfl) (by kernel_rfl) (by kernel_rfl) (fun _ _ _ h => h) (Or.inl ⟨by rfl, ?_⟩) hHeld ?_
  · intro w9 hSw
    try dsimp only at hSw
    go_simp
  try simp only [Act.put, List.setIfInBounds_toArray, List.set_cons_zero, List.set_cons_succ]
  refine wpAnyH_take (i := 3) (oi := { dst := some 48, op := Op.slice 28 (.tmp 46) none (some (.tmp 47)) none, type := 28, pos := "law.go:95", after := #[{ on := 1, ground := Ground.data }, { on := 2, ground := Ground.data }], guard := none }) (v := (.slice a2 k c2)) rfl (by kernel_rfl) (by kernel_rfl) (by kernel_rfl) (fun _ _ _ h => h) (Or.inl ⟨by rfl, ?_⟩) hHeld ?_
  · intro w9 hSw
    try dsimp only at hSw
    go_simp
  try simp only [Act.put, List.setIfInBounds_toArray, List.set_cons_zero, List.set_cons_succ]
  have c3 := b2.drew
  have B3 := B2.drew
  have r3 := r2.below ((Below.refl _ _).drew)
  obtain ⟨W3, hW3⟩ : ∃ W, W2.drew = W := ⟨_, rfl⟩
  rw [hW3] at c3 B3 r3 ⊢
  clear hW3 B2 b2 r2
  refine wpAnyH_ready (rs := [4, 9]) (by kernel_rfl) (by simp) ?_
  refine (AllReadyH.cons (o := { dst := some 49, op := Op.call { callee := Callee.value (.func 21), args := #[.tmp 45, .tmp 48], argTypes := #[38, 28] }, type := 36, pos := "law.go:95", after := #[{ on := 0, ground := Ground.data }, { on := 3, ground := Ground.data }], guard := none }) rfl (fun K hK => ?_) (AllReadyH.cons (o := { dst := some 7, op := Op.alloc 38, type := 0, pos := "law.go:95", after := #[], guard := none }) rfl (fun K hK => ?_) AllReadyH.nil))
  · go_simp
    refine Calls.mono (KQ.out _) ?_
    rintro e W4 ⟨rfl, bb⟩
    have c4 : Below w.heap.size w W4 := c3.trans (bb.mono c3.size)
    have B4 := B3.kept bb
    have r4 := r3.below bb
    clear bb
    refine hK.out _ _ (by exact B4) (fun hHeld => ?_)
    clear hK K
    try simp only [Act.put, List.setIfInBounds_toArray, List.set_cons_zero, List.set_cons_succ]
    refine wpAnyH_ready (rs := [5, 9]) (by kernel_rfl) (by simp) ?_
    refine (AllReadyH.cons (o := { dst := some 50, op := Op.call { callee := Callee.value (.func 16), args := #[.tmp 49], argTypes := #[36] }, type := 40, pos := "law.go:95", after := #[{ on := 4, ground := Ground.data }, { on := 4, ground := Ground.chain }], guard := none }) rfl (fun K hK => ?_) (AllReadyH.cons (o := { dst := some 7, op := Op.alloc 38, type := 0, pos := "law.go:95", after := #[], guard := none }) rfl (fun K hK => ?_) AllReadyH.nil))
    · go_simp
      refine Calls.mono (KR.out _ r4) ?_
      rintro e W5 ⟨ax, cx, rfl, f5⟩
      have c5 : Below w.heap.size w W5 := c4.trans (f5.below.mono c4.size)
      have B5 := B4.kept f5.below
      clear f5
      refine hK.out _ _ (by exact B5) (fun hHeld => ?_)
      clear hK K
      try simp only [Act.put, List.setIfInBounds_toArray, List.set_cons_zero, List.set_cons_succ]
      refine wpAnyH_take (i := 6) (oi := { dst := some 44, op := Op.move (.tmp 50), type := 40, pos := "law.go:95", after := #[{ on := 5, ground := Ground.data }], guard := none }) (v := (.tuple #[.agg #[.int .i64 X.t.fam, .int .i64 X.t.pr, .int .i64 X.t.s.fam, .int .u64 X.t.s.hi, .int .u64 X.t.s.lo, .int .i64 X.t.d.fam, .int .u64 X.t.d.hi, .int .u64 X.t.d.lo, .int .i64 X.t.sp, .int .i64 X.t.dp, .int .i64 X.fl, .int .u32 X.sq, .int .u32 X.ak, .int .i64 X.wn, .int .i64 X.ty, .int .i64 X.cd, .bool X.er, .int .i64 X.inn.fam, .int .i64 X.inn.pr, .int .i64 X.inn.s.fam, .int .u64 X.inn.s.hi, .int .u64 X.inn.s.lo, .int .i64 X.inn.d.fam, .int .u64 X.inn.d.hi, .int .u64 X.inn.d.lo, .int .i64 X.inn.sp, .int .i64 X.inn.dp, .slice ax X.data.length cx], .int .i64 E])) rfl (by kernel_rfl) (by kernel_rfl) (by kernel_rfl) (fun _ _ _ h => h) (Or.inl ⟨by rfl, ?_⟩) hHeld ?_
      · intro w9 hSw
        try dsimp only at hSw
        go_simp
      try simp only [Act.put, List.setIfInBounds_toArray, List.set_cons_zero, List.set_cons_succ]
      refine wpAnyH_take (i := 7) (oi := { dst := some 51, op := Op.extract (.tmp 44) 0, type := 38, pos := "law.go:95", after := #[{ on := 6, ground := Ground.data }], guard := none }) (v := (.agg #[.int .i64 X.t.fam, .int .i64 X.t.pr, .int .i64 X.t.s.fam, .int .u64 X.t.s.hi, .int .u64 X.t.s.lo, .int .i64 X.t.d.fam, .int .u64 X.t.d.hi, .int .u64 X.t.d.lo, .int .i64 X.t.sp, .int .i64 X.t.dp, .int .i64 X.fl, .int .u32 X.sq, .int .u32 X.ak, .int .i64 X.wn, .int .i64 X.ty, .int .i64 X.cd, .bool X.er, .int .i64 X.inn.fam, .int .i64 X.inn.pr, .int .i64 X.inn.s.fam, .int .u64 X.inn.s.hi, .int .u64 X.inn.s.lo, .int .i64 X.inn.d.fam, .int .u64 X.inn.d.hi, .int .u64 X.inn.d.lo, .int .i64 X.inn.sp, .int .i64 X.inn.dp, .slice ax X.data.length cx])) rfl (by kernel_rfl) (by kernel_rfl) (by kernel_rfl) (fun _ _ _ h => h) (Or.inl ⟨by rfl, ?_⟩) hHeld ?_
      · intro w9 hSw
        try dsimp only at hSw
        go_simp
      try simp only [Act.put, List.setIfInBounds_toArray, List.set_cons_zero, List.set_cons_succ]
      refine wpAnyH_take (i := 8) (oi := { dst := some 52, op := Op.extract (.tmp 44) 1, type := 39, pos := "law.go:95", after := #[{ on := 6, ground := Ground.data }, { on := 10, ground := Ground.gcOnly Departure.lateStores }], guard := none }) (v := (.int .i64 E)) rfl (by kernel_rfl) (by kernel_rfl) (by kernel_rfl) (fun _ _ _ h => h) (Or.inl ⟨by rfl, ?_⟩) hHeld ?_
      · intro w9 hSw
        try dsimp only at hSw
        go_simp
      try simp only [Act.put, List.setIfInBounds_toArray, List.set_cons_zero, List.set_cons_succ]
      refine wpAnyH_ready (rs := [9]) (by kernel_rfl) (by simp) ?_
      refine AllReadyH.cons (o := { dst := some 7, op := Op.alloc 38, type := 0, pos := "law.go:95", after := #[], guard := none }) rfl (fun K hK => ?_) AllReadyH.nil
      obtain ⟨W6, hA⟩ : ∃ W, W5.alloc (.cells #[.int .i64 0, .int .i64 0, .int .i64 0, .int .u64 0, .int .u64 0, .int .i64 0, .int .u64 0, .int .u64 0, .int .i64 0, .int .i64 0, .int .i64 0, .int .u32 0, .int .u32 0, .int .i64 0, .int .i64 0, .int .i64 0, .bool false, .int .i64 0, .int .i64 0, .int .i64 0, .int .u64 0, .int .u64 0, .int .i64 0, .int .u64 0, .int .u64 0, .int .i64 0, .int .i64 0, .slice none 0 0] 38) = W := ⟨_, rfl⟩
      have c6 : Below w.heap.size w W6 := by rw [← hA]; exact c5.alloc c5.size _
      have B6 := B5.alloc (.cells #[.int .i64 0, .int .i64 0, .int .i64 0, .int .u64 0, .int .u64 0, .int .i64 0, .int .u64 0, .int .u64 0, .int .i64 0, .int .i64 0, .int .i64 0, .int .u32 0, .int .u32 0, .int .i64 0, .int .i64 0, .int .i64 0, .bool false, .int .i64 0, .int .i64 0, .int .i64 0, .int .u64 0, .int .u64 0, .int .i64 0, .int .u64 0, .int .u64 0, .int .i64 0, .int .i64 0, .slice none 0 0] 38)
      rw [hA] at B6
      have N6 : Blk W6 W5.heap.size 38 #[.int .i64 0, .int .i64 0, .int .i64 0, .int .u64 0, .int .u64 0, .int .i64 0, .int .u64 0, .int .u64 0, .int .i64 0, .int .i64 0, .int .i64 0, .int .u32 0, .int .u32 0, .int .i64 0, .int .i64 0, .int .i64 0, .bool false, .int .i64 0, .int .i64 0, .int .i64 0, .int .u64 0, .int .u64 0, .int .i64 0, .int .u64 0, .int .u64 0, .int .i64 0, .int .i64 0, .slice none 0 0] := by rw [← hA]; exact blk_new _ _ _
      obtain ⟨G, hG⟩ : ∃ G, W5.heap.size = G := ⟨_, rfl⟩
      have gG : w.heap.size < G := by rw [← hG]; exact B5.lt
      go_simp
      rw [hG] at N6
      refine hK.out _ _ (by exact B6) (fun hHeld => ?_)
      clear hK K hA hG
      try simp only [Act.put, List.setIfInBounds_toArray, List.set_cons_zero, List.set_cons_succ]
      refine wpAnyH_ready (rs := [10]) (by kernel_rfl) (by simp) ?_
      refine AllReadyH.cons (o := { dst := none, op := Op.store 38 (.tmp 7) (.tmp 51), type := 0, pos := "law.go:95", after := #[{ on := 9, ground := Ground.data }, { on := 7, ground := Ground.data }, { on := 5, ground := Ground.chain }, { on := 0, ground := Ground.phase }, { on := 1, ground := Ground.phase }, { on := 2, ground := Ground.phase }, { on := 3, ground := Ground.phase }, { on := 4, ground := Ground.phase }, { on := 5, ground := Ground.phase }, { on := 6, ground := Ground.phase }, { on := 7, ground := Ground.phase }, { on := 8, ground := Ground.textOnly Departure.lateStores }, { on := 9, ground := Ground.phase }], guard := none }) rfl (fun K hK => ?_) AllReadyH.nil
      refine step_store_blk rfl _ _ _ rfl G #[.int .i64 X.t.fam, .int .i64 X.t.pr, .int .i64 X.t.s.fam, .int .u64 X.t.s.hi, .int .u64 X.t.s.lo, .int .i64 X.t.d.fam, .int .u64 X.t.d.hi, .int .u64 X.t.d.lo, .int .i64 X.t.sp, .int .i64 X.t.dp, .int .i64 X.fl, .int .u32 X.sq, .int .u32 X.ak, .int .i64 X.wn, .int .i64 X.ty, .int .i64 X.cd, .bool X.er, .int .i64 X.inn.fam, .int .i64 X.inn.pr, .int .i64 X.inn.s.fam, .int .u64 X.inn.s.hi, .int .u64 X.inn.s.lo, .int .i64 X.inn.d.fam, .int .u64 X.inn.d.hi, .int .u64 X.inn.d.lo, .int .i64 X.inn.sp, .int .i64 X.inn.dp, .slice ax X.data.length cx] _ (by kernel_rfl) (by kernel_rfl) N6 (by kernel_rfl) (by rfl) (by kernel_rfl) ?_
      have B9 := B6.other (show w.heap.size ≠ G by omega) #[.int .i64 X.t.fam, .int .i64 X.t.pr, .int .i64 X.t.s.fam, .int .u64 X.t.s.hi, .int .u64 X.t.s.lo, .int .i64 X.t.d.fam, .int .u64 X.t.d.hi, .int .u64 X.t.d.lo, .int .i64 X.t.sp, .int .i64 X.t.dp, .int .i64 X.fl, .int .u32 X.sq, .int .u32 X.ak, .int .i64 X.wn, .int .i64 X.ty, .int .i64 X.cd, .bool X.er, .int .i64 X.inn.fam, .int .i64 X.inn.pr, .int .i64 X.inn.s.fam, .int .u64 X.inn.s.hi, .int .u64 X.inn.s.lo, .int .i64 X.inn.d.fam, .int .u64 X.inn.d.hi, .int .u64 X.inn.d.lo, .int .i64 X.inn.sp, .int .i64 X.inn.dp, .slice ax X.data.length cx]
      have c9 := below_setRow c6 (Nat.le_of_lt gG) #[.int .i64 X.t.fam, .int .i64 X.t.pr, .int .i64 X.t.s.fam, .int .u64 X.t.s.hi, .int .u64 X.t.s.lo, .int .i64 X.t.d.fam, .int .u64 X.t.d.hi, .int .u64 X.t.d.lo, .int .i64 X.t.sp, .int .i64 X.t.dp, .int .i64 X.fl, .int .u32 X.sq, .int .u32 X.ak, .int .i64 X.wn, .int .i64 X.ty, .int .i64 X.cd, .bool X.er, .int .i64 X.inn.fam, .int .i64 X.inn.pr, .int .i64 X.inn.s.fam, .int .u64 X.inn.s.hi, .int .u64 X.inn.s.lo, .int .i64 X.inn.d.fam, .int .u64 X.inn.d.hi, .int .u64 X.inn.d.lo, .int .i64 X.inn.sp, .int .i64 X.inn.dp, .slice ax X.data.length cx]
      refine hK.out _ _ (by exact B9) (fun hHeld => ?_)
      clear hK K
      generalize W6.setRow G #[.int .i64 X.t.fam, .int .i64 X.t.pr, .int .i64 X.t.s.fam, .int .u64 X.t.s.hi, .int .u64 X.t.s.lo, .int .i64 X.t.d.fam, .int .u64 X.t.d.hi, .int .u64 X.t.d.lo, .int .i64 X.t.sp, .int .i64 X.t.dp, .int .i64 X.fl, .int .u32 X.sq, .int .u32 X.ak, .int .i64 X.wn, .int .i64 X.ty, .int .i64 X.cd, .bool X.er, .int .i64 X.inn.fam, .int .i64 X.inn.pr, .int .i64 X.inn.s.fam, .int .u64 X.inn.s.hi, .int .u64 X.inn.s.lo, .int .i64 X.inn.d.fam, .int .u64 X.inn.d.hi, .int .u64 X.inn.d.lo, .int .i64 X.inn.sp, .int .i64 X.inn.dp, .slice ax X.data.length cx] = W9 at *
      try simp only [Act.put, List.setIfInBounds_toArray, List.set_cons_zero, List.set_cons_succ]
      refine wpAnyH_take (i := 11) (oi := { dst := some 8, op := Op.assign (.tmp 52), type := 39, pos := "law.go:95", after := #[{ on := 8, ground := Ground.data }, { on := 10, ground := Ground.chain }, { on := 0, ground := Ground.phase }, { on := 1, ground := Ground.phase }, { on := 2, ground := Ground.phase }, { on := 3, ground := Ground.phase }, { on := 4, ground := Ground.phase }, { on := 5, ground := Ground.phase }, { on := 6, ground := Ground.phase }, { on := 7, ground := Ground.phase }, { on := 8, ground := Ground.phase }, { on := 9, ground := Ground.phase }, { on := 10, ground := Ground.phase }], guard := none }) (v := (.int .i64 E)) rfl (by kernel_rfl) (by kernel_rfl) (by kernel_rfl) (fun _ _ _ h => h) (Or.inl ⟨by rfl, ?_⟩) hHeld ?_
      · intro w9 hSw
        try dsimp only at hSw
        go_simp
      try simp only [Act.put, List.setIfInBounds_toArray, List.set_cons_zero, List.set_cons_succ]
      refine wpAnyH_done (by kernel_rfl) ?_ _
      refine NoPanic.normal ?_
      go_wp2_with fail
      refine Calls.mono (KA.out _) ?_
      rintro e W10 ⟨rfl, bb⟩
      have b10 : Below w.heap.size w W10 := c9.trans (bb.mono c9.size)
      clear bb KA
      go_wp2
      go_ret
      exact ⟨rfl, b10⟩
    · obtain ⟨W5, hA⟩ : ∃ W, W4.alloc (.cells #[.int .i64 0, .int .i64 0, .int .i64 0, .int .u64 0, .int .u64 0, .int .i64 0, .int .u64 0, .int .u64 0, .int .i64 0, .int .i64 0, .int .i64 0, .int .u32 0, .int .u32 0, .int .i64 0, .int .i64 0, .int .i64 0, .bool false, .int .i64 0, .int .i64 0, .int .i64 0, .int .u64 0, .int .u64 0, .int .i64 0, .int .u64 0, .int .u64 0, .int .i64 0, .int .i64 0, .slice none 0 0] 38) = W := ⟨_, rfl⟩
      have c5 : Below w.heap.size w W5 := by rw [← hA]; exact c4.alloc c4.size _
      have B5 := B4.alloc (.cells #[.int .i64 0, .int .i64 0, .int .i64 0, .int .u64 0, .int .u64 0, .int .i64 0, .int .u64 0, .int .u64 0, .int .i64 0, .int .i64 0, .int .i64 0, .int .u32 0, .int .u32 0, .int .i64 0, .int .i64 0, .int .i64 0, .bool false, .int .i64 0, .int .i64 0, .int .i64 0, .int .u64 0, .int .u64 0, .int .i64 0, .int .u64 0, .int .u64 0, .int .i64 0, .int .i64 0, .slice none 0 0] 38)
      rw [hA] at B5
      have r5 := r4.alloc (.cells #[.int .i64 0, .int .i64 0, .int .i64 0, .int .u64 0, .int .u64 0, .int .i64 0, .int .u64 0, .int .u64 0, .int .i64 0, .int .i64 0, .int .i64 0, .int .u32 0, .int .u32 0, .int .i64 0, .int .i64 0, .int .i64 0, .bool false, .int .i64 0, .int .i64 0, .int .i64 0, .int .u64 0, .int .u64 0, .int .i64 0, .int .u64 0, .int .u64 0, .int .i64 0, .int .i64 0, .slice none 0 0] 38)
      rw [hA] at r5
      have N5 : Blk W5 W4.heap.size 38 #[.int .i64 0, .int .i64 0, .int .i64 0, .int .u64 0, .int .u64 0, .int .i64 0, .int .u64 0, .int .u64 0, .int .i64 0, .int .i64 0, .int .i64 0, .int .u32 0, .int .u32 0, .int .i64 0, .int .i64 0, .int .i64 0, .bool false, .int .i64 0, .int .i64 0, .int .i64 0, .int .u64 0, .int .u64 0, .int .i64 0, .int .u64 0, .int .u64 0, .int .i64 0, .int .i64 0, .slice none 0 0] := by rw [← hA]; exact blk_new _ _ _
      obtain ⟨G, hG⟩ : ∃ G, W4.heap.size = G := ⟨_, rfl⟩
      have gG : w.heap.size < G := by rw [← hG]; exact B4.lt
      go_simp
      rw [hG] at N5
      refine hK.out _ _ (by exact B5) (fun hHeld => ?_)
      clear hK K hA hG
      try simp only [Act.put, List.setIfInBounds_toArray, List.set_cons_zero, List.set_cons_succ]
      refine wpAnyH_ready (rs := [5]) (by kernel_rfl) (by simp) ?_
      refine AllReadyH.cons (o := { dst := some 50, op := Op.call { callee := Callee.value (.func 16), args := #[.tmp 49], argTypes := #[36] }, type := 40, pos := "law.go:95", after := #[{ on := 4, ground := Ground.data }, { on := 4, ground := Ground.chain }], guard := none }) rfl (fun K hK => ?_) AllReadyH.nil
      go_simp
      refine Calls.mono (KR.out _ r5) ?_
      rintro e W6 ⟨ax, cx, rfl, f5⟩
      have c6 : Below w.heap.size w W6 := c5.trans (f5.below.mono c5.size)
      have B6 := B5.kept f5.below
      have N6 := N5.kept f5.below
      clear f5
      refine hK.out _ _ (by exact B6) (fun hHeld => ?_)
      clear hK K
      try simp only [Act.put, List.setIfInBounds_toArray, List.set_cons_zero, List.set_cons_succ]
      refine wpAnyH_take (i := 6) (oi := { dst := some 44, op := Op.move (.tmp 50), type := 40, pos := "law.go:95", after := #[{ on := 5, ground := Ground.data }], guard := none }) (v := (.tuple #[.agg #[.int .i64 X.t.fam, .int .i64 X.t.pr, .int .i64 X.t.s.fam, .int .u64 X.t.s.hi, .int .u64 X.t.s.lo, .int .i64 X.t.d.fam, .int .u64 X.t.d.hi, .int .u64 X.t.d.lo, .int .i64 X.t.sp, .int .i64 X.t.dp, .int .i64 X.fl, .int .u32 X.sq, .int .u32 X.ak, .int .i64 X.wn, .int .i64 X.ty, .int .i64 X.cd, .bool X.er, .int .i64 X.inn.fam, .int .i64 X.inn.pr, .int .i64 X.inn.s.fam, .int .u64 X.inn.s.hi, .int .u64 X.inn.s.lo, .int .i64 X.inn.d.fam, .int .u64 X.inn.d.hi, .int .u64 X.inn.d.lo, .int .i64 X.inn.sp, .int .i64 X.inn.dp, .slice ax X.data.length cx], .int .i64 E])) rfl (by kernel_rfl) (by kernel_rfl) (by kernel_rfl) (fun _ _ _ h => h) (Or.inl ⟨by rfl, ?_⟩) hHeld ?_
      · intro w9 hSw
        try dsimp only at hSw
        go_simp
      try simp only [Act.put, List.setIfInBounds_toArray, List.set_cons_zero, List.set_cons_succ]
      refine wpAnyH_take (i := 7) (oi := { dst := some 51, op := Op.extract (.tmp 44) 0, type := 38, pos := "law.go:95", after := #[{ on := 6, ground := Ground.data }], guard := none }) (v := (.agg #[.int .i64 X.t.fam, .int .i64 X.t.pr, .int .i64 X.t.s.fam, .int .u64 X.t.s.hi, .int .u64 X.t.s.lo, .int .i64 X.t.d.fam, .int .u64 X.t.d.hi, .int .u64 X.t.d.lo, .int .i64 X.t.sp, .int .i64 X.t.dp, .int .i64 X.fl, .int .u32 X.sq, .int .u32 X.ak, .int .i64 X.wn, .int .i64 X.ty, .int .i64 X.cd, .bool X.er, .int .i64 X.inn.fam, .int .i64 X.inn.pr, .int .i64 X.inn.s.fam, .int .u64 X.inn.s.hi, .int .u64 X.inn.s.lo, .int .i64 X.inn.d.fam, .int .u64 X.inn.d.hi, .int .u64 X.inn.d.lo, .int .i64 X.inn.sp, .int .i64 X.inn.dp, .slice ax X.data.length cx])) rfl (by kernel_rfl) (by kernel_rfl) (by kernel_rfl) (fun _ _ _ h => h) (Or.inl ⟨by rfl, ?_⟩) hHeld ?_
      · intro w9 hSw
        try dsimp only at hSw
        go_simp
      try simp only [Act.put, List.setIfInBounds_toArray, List.set_cons_zero, List.set_cons_succ]
      refine wpAnyH_take (i := 8) (oi := { dst := some 52, op := Op.extract (.tmp 44) 1, type := 39, pos := "law.go:95", after := #[{ on := 6, ground := Ground.data }, { on := 10, ground := Ground.gcOnly Departure.lateStores }], guard := none }) (v := (.int .i64 E)) rfl (by kernel_rfl) (by kernel_rfl) (by kernel_rfl) (fun _ _ _ h => h) (Or.inl ⟨by rfl, ?_⟩) hHeld ?_
      · intro w9 hSw
        try dsimp only at hSw
        go_simp
      try simp only [Act.put, List.setIfInBounds_toArray, List.set_cons_zero, List.set_cons_succ]
      refine wpAnyH_ready (rs := [10]) (by kernel_rfl) (by simp) ?_
      refine AllReadyH.cons (o := { dst := none, op := Op.store 38 (.tmp 7) (.tmp 51), type := 0, pos := "law.go:95", after := #[{ on := 9, ground := Ground.data }, { on := 7, ground := Ground.data }, { on := 5, ground := Ground.chain }, { on := 0, ground := Ground.phase }, { on := 1, ground := Ground.phase }, { on := 2, ground := Ground.phase }, { on := 3, ground := Ground.phase }, { on := 4, ground := Ground.phase }, { on := 5, ground := Ground.phase }, { on := 6, ground := Ground.phase }, { on := 7, ground := Ground.phase }, { on := 8, ground := Ground.textOnly Departure.lateStores }, { on := 9, ground := Ground.phase }], guard := none }) rfl (fun K hK => ?_) AllReadyH.nil
      refine step_store_blk rfl _ _ _ rfl G #[.int .i64 X.t.fam, .int .i64 X.t.pr, .int .i64 X.t.s.fam, .int .u64 X.t.s.hi, .int .u64 X.t.s.lo, .int .i64 X.t.d.fam, .int .u64 X.t.d.hi, .int .u64 X.t.d.lo, .int .i64 X.t.sp, .int .i64 X.t.dp, .int .i64 X.fl, .int .u32 X.sq, .int .u32 X.ak, .int .i64 X.wn, .int .i64 X.ty, .int .i64 X.cd, .bool X.er, .int .i64 X.inn.fam, .int .i64 X.inn.pr, .int .i64 X.inn.s.fam, .int .u64 X.inn.s.hi, .int .u64 X.inn.s.lo, .int .i64 X.inn.d.fam, .int .u64 X.inn.d.hi, .int .u64 X.inn.d.lo, .int .i64 X.inn.sp, .int .i64 X.inn.dp, .slice ax X.data.length cx] _ (by kernel_rfl) (by kernel_rfl) N6 (by kernel_rfl) (by rfl) (by kernel_rfl) ?_
      have B9 := B6.other (show w.heap.size ≠ G by omega) #[.int .i64 X.t.fam, .int .i64 X.t.pr, .int .i64 X.t.s.fam, .int .u64 X.t.s.hi, .int .u64 X.t.s.lo, .int .i64 X.t.d.fam, .int .u64 X.t.d.hi, .int .u64 X.t.d.lo, .int .i64 X.t.sp, .int .i64 X.t.dp, .int .i64 X.fl, .int .u32 X.sq, .int .u32 X.ak, .int .i64 X.wn, .int .i64 X.ty, .int .i64 X.cd, .bool X.er, .int .i64 X.inn.fam, .int .i64 X.inn.pr, .int .i64 X.inn.s.fam, .int .u64 X.inn.s.hi, .int .u64 X.inn.s.lo, .int .i64 X.inn.d.fam, .int .u64 X.inn.d.hi, .int .u64 X.inn.d.lo, .int .i64 X.inn.sp, .int .i64 X.inn.dp, .slice ax X.data.length cx]
      have c9 := below_setRow c6 (Nat.le_of_lt gG) #[.int .i64 X.t.fam, .int .i64 X.t.pr, .int .i64 X.t.s.fam, .int .u64 X.t.s.hi, .int .u64 X.t.s.lo, .int .i64 X.t.d.fam, .int .u64 X.t.d.hi, .int .u64 X.t.d.lo, .int .i64 X.t.sp, .int .i64 X.t.dp, .int .i64 X.fl, .int .u32 X.sq, .int .u32 X.ak, .int .i64 X.wn, .int .i64 X.ty, .int .i64 X.cd, .bool X.er, .int .i64 X.inn.fam, .int .i64 X.inn.pr, .int .i64 X.inn.s.fam, .int .u64 X.inn.s.hi, .int .u64 X.inn.s.lo, .int .i64 X.inn.d.fam, .int .u64 X.inn.d.hi, .int .u64 X.inn.d.lo, .int .i64 X.inn.sp, .int .i64 X.inn.dp, .slice ax X.data.length cx]
      refine hK.out _ _ (by exact B9) (fun hHeld => ?_)
      clear hK K
      generalize W6.setRow G #[.int .i64 X.t.fam, .int .i64 X.t.pr, .int .i64 X.t.s.fam, .int .u64 X.t.s.hi, .int .u64 X.t.s.lo, .int .i64 X.t.d.fam, .int .u64 X.t.d.hi, .int .u64 X.t.d.lo, .int .i64 X.t.sp, .int .i64 X.t.dp, .int .i64 X.fl, .int .u32 X.sq, .int .u32 X.ak, .int .i64 X.wn, .int .i64 X.ty, .int .i64 X.cd, .bool X.er, .int .i64 X.inn.fam, .int .i64 X.inn.pr, .int .i64 X.inn.s.fam, .int .u64 X.inn.s.hi, .int .u64 X.inn.s.lo, .int .i64 X.inn.d.fam, .int .u64 X.inn.d.hi, .int .u64 X.inn.d.lo, .int .i64 X.inn.sp, .int .i64 X.inn.dp, .slice ax X.data.length cx] = W9 at *
      try simp only [Act.put, List.setIfInBounds_toArray, List.set_cons_zero, List.set_cons_succ]
      refine wpAnyH_take (i := 11) (oi := { dst := some 8, op := Op.assign (.tmp 52), type := 39, pos := "law.go:95", after := #[{ on := 8, ground := Ground.data }, { on := 10, ground := Ground.chain }, { on := 0, ground := Ground.phase }, { on := 1, ground := Ground.phase }, { on := 2, ground := Ground.phase }, { on := 3, ground := Ground.phase }, { on := 4, ground := Ground.phase }, { on := 5, ground := Ground.phase }, { on := 6, ground := Ground.phase }, { on := 7, ground := Ground.phase }, { on := 8, ground := Ground.phase }, { on := 9, ground := Ground.phase }, { on := 10, ground := Ground.phase }], guard := none }) (v := (.int .i64 E)) rfl (by kernel_rfl) (by kernel_rfl) (by kernel_rfl) (fun _ _ _ h => h) (Or.inl ⟨by rfl, ?_⟩) hHeld ?_
      · intro w9 hSw
        try dsimp only at hSw
        go_simp
      try simp only [Act.put, List.setIfInBounds_toArray, List.set_cons_zero, List.set_cons_succ]
      refine wpAnyH_done (by kernel_rfl) ?_ _
      refine NoPanic.normal ?_
      go_wp2_with fail
      refine Calls.mono (KA.out _) ?_
      rintro e W10 ⟨rfl, bb⟩
      have b10 : Below w.heap.size w W10 := c9.trans (bb.mono c9.size)
      clear bb KA
      go_wp2
      go_ret
      exact ⟨rfl, b10⟩
  · obtain ⟨W4, hA⟩ : ∃ W, W3.alloc (.cells #[.int .i64 0, .int .i64 0, .int .i64 0, .int .u64 0, .int .u64 0, .int .i64 0, .int .u64 0, .int .u64 0, .int .i64 0, .int .i64 0, .int .i64 0, .int .u32 0, .int .u32 0, .int .i64 0, .int .i64 0, .int .i64 0, .bool false, .int .i64 0, .int .i64 0, .int .i64 0, .int .u64 0, .int .u64 0, .int .i64 0, .int .u64 0, .int .u64 0, .int .i64 0, .int .i64 0, .slice none 0 0] 38) = W := ⟨_, rfl⟩
    have c4 : Below w.heap.size w W4 := by rw [← hA]; exact c3.alloc c3.size _
    have B4 := B3.alloc (.cells #[.int .i64 0, .int .i64 0, .int .i64 0, .int .u64 0, .int .u64 0, .int .i64 0, .int .u64 0, .int .u64 0, .int .i64 0, .int .i64 0, .int .i64 0, .int .u32 0, .int .u32 0, .int .i64 0, .int .i64 0, .int .i64 0, .bool false, .int .i64 0, .int .i64 0, .int .i64 0, .int .u64 0, .int .u64 0, .int .i64 0, .int .u64 0, .int .u64 0, .int .i64 0, .int .i64 0, .slice none 0 0] 38)
    rw [hA] at B4
    have r4 := r3.alloc (.cells #[.int .i64 0, .int .i64 0, .int .i64 0, .int .u64 0, .int .u64 0, .int .i64 0, .int .u64 0, .int .u64 0, .int .i64 0, .int .i64 0, .int .i64 0, .int .u32 0, .int .u32 0, .int .i64 0, .int .i64 0, .int .i64 0, .bool false, .int .i64 0, .int .i64 0, .int .i64 0, .int .u64 0, .int .u64 0, .int .i64 0, .int .u64 0, .int .u64 0, .int .i64 0, .int .i64 0, .slice none 0 0] 38)
    rw [hA] at r4
    have N4 : Blk W4 W3.heap.size 38 #[.int .i64 0, .int .i64 0, .int .i64 0, .int .u64 0, .int .u64 0, .int .i64 0, .int .u64 0, .int .u64 0, .int .i64 0, .int .i64 0, .int .i64 0, .int .u32 0, .int .u32 0, .int .i64 0, .int .i64 0, .int .i64 0, .bool false, .int .i64 0, .int .i64 0, .int .i64 0, .int .u64 0, .int .u64 0, .int .i64 0, .int .u64 0, .int .u64 0, .int .i64 0, .int .i64 0, .slice none 0 0] := by rw [← hA]; exact blk_new _ _ _
    obtain ⟨G, hG⟩ : ∃ G, W3.heap.size = G := ⟨_, rfl⟩
    have gG : w.heap.size < G := by rw [← hG]; exact B3.lt
    go_simp
    rw [hG] at N4
    refine hK.out _ _ (by exact B4) (fun hHeld => ?_)
    clear hK K hA hG
    try simp only [Act.put, List.setIfInBounds_toArray, List.set_cons_zero, List.set_cons_succ]
    refine wpAnyH_ready (rs := [4]) (by kernel_rfl) (by simp) ?_
    refine AllReadyH.cons (o := { dst := some 49, op := Op.call { callee := Callee.value (.func 21), args := #[.tmp 45, .tmp 48], argTypes := #[38, 28] }, type := 36, pos := "law.go:95", after := #[{ on := 0, ground := Ground.data }, { on := 3, ground := Ground.data }], guard := none }) rfl (fun K hK => ?_) AllReadyH.nil
    go_simp
    refine Calls.mono (KQ.out _) ?_
    rintro e W5 ⟨rfl, bb⟩
    have c5 : Below w.heap.size w W5 := c4.trans (bb.mono c4.size)
    have B5 := B4.kept bb
    have N5 := N4.kept bb
    have r5 := r4.below bb
    clear bb
    refine hK.out _ _ (by exact B5) (fun hHeld => ?_)
    clear hK K
    try simp only [Act.put, List.setIfInBounds_toArray, List.set_cons_zero, List.set_cons_succ]
    refine wpAnyH_ready (rs := [5]) (by kernel_rfl) (by simp) ?_
    refine AllReadyH.cons (o := { dst := some 50, op := Op.call { callee := Callee.value (.func 16), args := #[.tmp 49], argTypes := #[36] }, type := 40, pos := "law.go:95", after := #[{ on := 4, ground := Ground.data }, { on := 4, ground := Ground.chain }], guard := none }) rfl (fun K hK => ?_) AllReadyH.nil
    go_simp
    refine Calls.mono (KR.out _ r5) ?_
    rintro e W6 ⟨ax, cx, rfl, f5⟩
    have c6 : Below w.heap.size w W6 := c5.trans (f5.below.mono c5.size)
    have B6 := B5.kept f5.below
    have N6 := N5.kept f5.below
    clear f5
    refine hK.out _ _ (by exact B6) (fun hHeld => ?_)
    clear hK K
    try simp only [Act.put, List.setIfInBounds_toArray, List.set_cons_zero, List.set_cons_succ]
    refine wpAnyH_take (i := 6) (oi := { dst := some 44, op := Op.move (.tmp 50), type := 40, pos := "law.go:95", after := #[{ on := 5, ground := Ground.data }], guard := none }) (v := (.tuple #[.agg #[.int .i64 X.t.fam, .int .i64 X.t.pr, .int .i64 X.t.s.fam, .int .u64 X.t.s.hi, .int .u64 X.t.s.lo, .int .i64 X.t.d.fam, .int .u64 X.t.d.hi, .int .u64 X.t.d.lo, .int .i64 X.t.sp, .int .i64 X.t.dp, .int .i64 X.fl, .int .u32 X.sq, .int .u32 X.ak, .int .i64 X.wn, .int .i64 X.ty, .int .i64 X.cd, .bool X.er, .int .i64 X.inn.fam, .int .i64 X.inn.pr, .int .i64 X.inn.s.fam, .int .u64 X.inn.s.hi, .int .u64 X.inn.s.lo, .int .i64 X.inn.d.fam, .int .u64 X.inn.d.hi, .int .u64 X.inn.d.lo, .int .i64 X.inn.sp, .int .i64 X.inn.dp, .slice ax X.data.length cx], .int .i64 E])) rfl (by kernel_rfl) (by kernel_rfl) (by kernel_rfl) (fun _ _ _ h => h) (Or.inl ⟨by rfl, ?_⟩) hHeld ?_
    · intro w9 hSw
      try dsimp only at hSw
      go_simp
    try simp only [Act.put, List.setIfInBounds_toArray, List.set_cons_zero, List.set_cons_succ]
    refine wpAnyH_take (i := 7) (oi := { dst := some 51, op := Op.extract (.tmp 44) 0, type := 38, pos := "law.go:95", after := #[{ on := 6, ground := Ground.data }], guard := none }) (v := (.agg #[.int .i64 X.t.fam, .int .i64 X.t.pr, .int .i64 X.t.s.fam, .int .u64 X.t.s.hi, .int .u64 X.t.s.lo, .int .i64 X.t.d.fam, .int .u64 X.t.d.hi, .int .u64 X.t.d.lo, .int .i64 X.t.sp, .int .i64 X.t.dp, .int .i64 X.fl, .int .u32 X.sq, .int .u32 X.ak, .int .i64 X.wn, .int .i64 X.ty, .int .i64 X.cd, .bool X.er, .int .i64 X.inn.fam, .int .i64 X.inn.pr, .int .i64 X.inn.s.fam, .int .u64 X.inn.s.hi, .int .u64 X.inn.s.lo, .int .i64 X.inn.d.fam, .int .u64 X.inn.d.hi, .int .u64 X.inn.d.lo, .int .i64 X.inn.sp, .int .i64 X.inn.dp, .slice ax X.data.length cx])) rfl (by kernel_rfl) (by kernel_rfl) (by kernel_rfl) (fun _ _ _ h => h) (Or.inl ⟨by rfl, ?_⟩) hHeld ?_
    · intro w9 hSw
      try dsimp only at hSw
      go_simp
    try simp only [Act.put, List.setIfInBounds_toArray, List.set_cons_zero, List.set_cons_succ]
    refine wpAnyH_take (i := 8) (oi := { dst := some 52, op := Op.extract (.tmp 44) 1, type := 39, pos := "law.go:95", after := #[{ on := 6, ground := Ground.data }, { on := 10, ground := Ground.gcOnly Departure.lateStores }], guard := none }) (v := (.int .i64 E)) rfl (by kernel_rfl) (by kernel_rfl) (by kernel_rfl) (fun _ _ _ h => h) (Or.inl ⟨by rfl, ?_⟩) hHeld ?_
    · intro w9 hSw
      try dsimp only at hSw
      go_simp
    try simp only [Act.put, List.setIfInBounds_toArray, List.set_cons_zero, List.set_cons_succ]
    refine wpAnyH_ready (rs := [10]) (by kernel_rfl) (by simp) ?_
    refine AllReadyH.cons (o := { dst := none, op := Op.store 38 (.tmp 7) (.tmp 51), type := 0, pos := "law.go:95", after := #[{ on := 9, ground := Ground.data }, { on := 7, ground := Ground.data }, { on := 5, ground := Ground.chain }, { on := 0, ground := Ground.phase }, { on := 1, ground := Ground.phase }, { on := 2, ground := Ground.phase }, { on := 3, ground := Ground.phase }, { on := 4, ground := Ground.phase }, { on := 5, ground := Ground.phase }, { on := 6, ground := Ground.phase }, { on := 7, ground := Ground.phase }, { on := 8, ground := Ground.textOnly Departure.lateStores }, { on := 9, ground := Ground.phase }], guard := none }) rfl (fun K hK => ?_) AllReadyH.nil
    refine step_store_blk rfl _ _ _ rfl G #[.int .i64 X.t.fam, .int .i64 X.t.pr, .int .i64 X.t.s.fam, .int .u64 X.t.s.hi, .int .u64 X.t.s.lo, .int .i64 X.t.d.fam, .int .u64 X.t.d.hi, .int .u64 X.t.d.lo, .int .i64 X.t.sp, .int .i64 X.t.dp, .int .i64 X.fl, .int .u32 X.sq, .int .u32 X.ak, .int .i64 X.wn, .int .i64 X.ty, .int .i64 X.cd, .bool X.er, .int .i64 X.inn.fam, .int .i64 X.inn.pr, .int .i64 X.inn.s.fam, .int .u64 X.inn.s.hi, .int .u64 X.inn.s.lo, .int .i64 X.inn.d.fam, .int .u64 X.inn.d.hi, .int .u64 X.inn.d.lo, .int .i64 X.inn.sp, .int .i64 X.inn.dp, .slice ax X.data.length cx] _ (by kernel_rfl) (by kernel_rfl) N6 (by kernel_rfl) (by rfl) (by kernel_rfl) ?_
    have B9 := B6.other (show w.heap.size ≠ G by omega) #[.int .i64 X.t.fam, .int .i64 X.t.pr, .int .i64 X.t.s.fam, .int .u64 X.t.s.hi, .int .u64 X.t.s.lo, .int .i64 X.t.d.fam, .int .u64 X.t.d.hi, .int .u64 X.t.d.lo, .int .i64 X.t.sp, .int .i64 X.t.dp, .int .i64 X.fl, .int .u32 X.sq, .int .u32 X.ak, .int .i64 X.wn, .int .i64 X.ty, .int .i64 X.cd, .bool X.er, .int .i64 X.inn.fam, .int .i64 X.inn.pr, .int .i64 X.inn.s.fam, .int .u64 X.inn.s.hi, .int .u64 X.inn.s.lo, .int .i64 X.inn.d.fam, .int .u64 X.inn.d.hi, .int .u64 X.inn.d.lo, .int .i64 X.inn.sp, .int .i64 X.inn.dp, .slice ax X.data.length cx]
    have c9 := below_setRow c6 (Nat.le_of_lt gG) #[.int .i64 X.t.fam, .int .i64 X.t.pr, .int .i64 X.t.s.fam, .int .u64 X.t.s.hi, .int .u64 X.t.s.lo, .int .i64 X.t.d.fam, .int .u64 X.t.d.hi, .int .u64 X.t.d.lo, .int .i64 X.t.sp, .int .i64 X.t.dp, .int .i64 X.fl, .int .u32 X.sq, .int .u32 X.ak, .int .i64 X.wn, .int .i64 X.ty, .int .i64 X.cd, .bool X.er, .int .i64 X.inn.fam, .int .i64 X.inn.pr, .int .i64 X.inn.s.fam, .int .u64 X.inn.s.hi, .int .u64 X.inn.s.lo, .int .i64 X.inn.d.fam, .int .u64 X.inn.d.hi, .int .u64 X.inn.d.lo, .int .i64 X.inn.sp, .int .i64 X.inn.dp, .slice ax X.data.length cx]
    refine hK.out _ _ (by exact B9) (fun hHeld => ?_)
    clear hK K
    generalize W6.setRow G #[.int .i64 X.t.fam, .int .i64 X.t.pr, .int .i64 X.t.s.fam, .int .u64 X.t.s.hi, .int .u64 X.t.s.lo, .int .i64 X.t.d.fam, .int .u64 X.t.d.hi, .int .u64 X.t.d.lo, .int .i64 X.t.sp, .int .i64 X.t.dp, .int .i64 X.fl, .int .u32 X.sq, .int .u32 X.ak, .int .i64 X.wn, .int .i64 X.ty, .int .i64 X.cd, .bool X.er, .int .i64 X.inn.fam, .int .i64 X.inn.pr, .int .i64 X.inn.s.fam, .int .u64 X.inn.s.hi, .int .u64 X.inn.s.lo, .int .i64 X.inn.d.fam, .int .u64 X.inn.d.hi, .int .u64 X.inn.d.lo, .int .i64 X.inn.sp, .int .i64 X.inn.dp, .slice ax X.data.length cx] = W9 at *
    try simp only [Act.put, List.setIfInBounds_toArray, List.set_cons_zero, List.set_cons_succ]
    refine wpAnyH_take (i := 11) (oi := { dst := some 8, op := Op.assign (.tmp 52), type := 39, pos := "law.go:95", after := #[{ on := 8, ground := Ground.data }, { on := 10, ground := Ground.chain }, { on := 0, ground := Ground.phase }, { on := 1, ground := Ground.phase }, { on := 2, ground := Ground.phase }, { on := 3, ground := Ground.phase }, { on := 4, ground := Ground.phase }, { on := 5, ground := Ground.phase }, { on := 6, ground := Ground.phase }, { on := 7, ground := Ground.phase }, { on := 8, ground := Ground.phase }, { on := 9, ground := Ground.phase }, { on := 10, ground := Ground.phase }], guard := none }) (v := (.int .i64 E)) rfl (by kernel_rfl) (by kernel_rfl) (by kernel_rfl) (fun _ _ _ h => h) (Or.inl ⟨by rfl, ?_⟩) hHeld ?_
    · intro w9 hSw
      try dsimp only at hSw
      go_simp
    try simp only [Act.put, List.setIfInBounds_toArray, List.set_cons_zero, List.set_cons_succ]
    refine wpAnyH_done (by kernel_rfl) ?_ _
    refine NoPanic.normal ?_
    go_wp2_with fail
    refine Calls.mono (KA.out _) ?_
    rintro e W10 ⟨rfl, bb⟩
    have b10 : Below w.heap.size w W10 := c9.trans (bb.mono c9.size)
    clear bb KA
    go_wp2
    go_ret
    exact ⟨rfl, b10⟩

theorem segShort_walk (x : Sg) (a : Option Addr) (c : Nat) (y : Int) (w : World) (ok : x.ok) (tk : x.t.ok) (lc : x.data.length ≤ c) (cm : c ≤ 140737488351232) (nl : a = none → c = 0) (h : Row w a x.data) (wy : (Lit.int .i64 y).wf = true) :
    Calls Try.prog 8 #[.agg #[.int .i64 x.t.fam, .int .i64 x.t.pr, .int .i64 x.t.s.fam, .int .u64 x.t.s.hi, .int .u64 x.t.s.lo, .int .i64 x.t.d.fam, .int .u64 x.t.d.hi, .int .u64 x.t.d.lo, .int .i64 x.t.sp, .int .i64 x.t.dp, .int .i64 x.fl, .int .u32 x.sq, .int .u32 x.ak, .int .i64 x.wn, .int .i64 x.ty, .int .i64 x.cd, .bool x.er, .int .i64 x.inn.fam, .int .i64 x.inn.pr, .int .i64 x.inn.s.fam, .int .u64 x.inn.s.hi, .int .u64 x.inn.s.lo, .int .i64 x.inn.d.fam, .int .u64 x.inn.d.hi, .int .u64 x.inn.d.lo, .int .i64 x.inn.sp, .int .i64 x.inn.dp, .slice a x.data.length c], .int .i64 y] w fun e w' => e = .returned (.bool true) ∧ Below w.heap.size w w' := by
  cases hm : mayB x with
  | false => exact short_no x a c y w ok tk lc cm nl h wy hm
  | true =>
    by_cases h17 : x.t.pr = 17
    · exact short_udp x a c y w ok tk lc cm nl h wy hm h17
    · exact short_other x a c y w ok tk lc cm nl h wy hm h17

end Go.Proofs.Ytgdpcomcndidcaa

namespace Go.Proofs.Ytgdpcomcndidcaa.segShort
open Go.ChangeShapes Go.WideShapes Go.ChangeAt Go.RowKit
open Go.ChangeMaps (open_string shut_string)
set_option linter.unusedVariables false

theorem own : ownKnob Try.prog.godebug = none := by kernel_rfl
theorem laidOut : laidOutB Try.prog = true := by kernel_rfl

set_option maxRecDepth 100000 in
theorem lifted (os : Os) (started : os.Started) (H : Type) (enc : TypeId × Value → H) :
    ReturnsInHanded {} Try.checked os 8 .any (Rows.segShortSpec.pre6 enc Try.prog Try.f8 Rows.segShortRow.domain false) (Rows.segShortSpec.post enc Try.prog Try.f8 false true false false) := by
  refine returnsInHanded_of_change_sized (C := Try.checked) own started (by kernel_rfl) Try.func8
    (ChangeSpec.witness6 (enc := enc) (C := Try.checked) false ⟨#[], #[.agg #[.int .i64 0, .int .i64 0, .int .i64 0, .int .u64 0, .int .u64 0, .int .i64 0, .int .u64 0, .int .u64 0, .int .i64 0, .int .i64 0, .int .i64 0, .int .u32 0, .int .u32 0, .int .i64 0, .int .i64 0, .int .i64 0, .bool false, .int .i64 0, .int .i64 0, .int .i64 0, .int .u64 0, .int .u64 0, .int .i64 0, .int .u64 0, .int .u64 0, .int .i64 0, .int .i64 0, .slice none 0 0], .int .i64 0], []⟩ 8 (by kernel_rfl) (by kernel_rfl) (by kernel_rfl) (by kernel_rfl)) ?_
  intro W base args ds gs before hval0 hW hcnd hsz0 _
  have hval : ∀ (j : Nat) t v, Try.f8.params[j]? = some t → args[j]? = some v → Value.okWide Try.prog W .any base t v := hval0
  have hW' := hW
  obtain ⟨p, q, hA0, hV, rfl, hfz, hnd⟩ := hW
  have hA : DataW.TrodAll enc Try.prog W 0 (fun _ => true) true Try.f8.params.toList args.toList ds p := hA0
  have hsz : (DataW.weightsEach Try.prog (Try.f8.params.toList ++ Rows.segShortSpec.plain.varTypes Try.prog) (ds ++ gs)).all (· ≤ reachBytes) = true := hsz0
  rw [Try.params8] at hA hval hsz
  obtain ⟨v0, vs0, d0, ds0, p0, q0, hargs, rfl, rfl, h0, r0⟩ := trodAll_cons hA
  obtain ⟨v1, vs1, d1, ds1, p1, q1, rfl, rfl, rfl, h1, r1⟩ := trodAll_cons r0
  obtain ⟨rfl, rfl, rfl⟩ := trodAll_nil r1
  obtain rfl : args = #[v0, v1] := by cases args; simp_all
  obtain ⟨rfl, rfl⟩ := trodVars_none hV
  have lt0 : ∀ x ∈ p0, x.block < W.heap.size := by obtain ⟨m, hm⟩ := h0; exact DataW.trod_lt m _ _ _ hm
  have s0 : ∀ n ∈ d0.weights Try.prog 38, n ≤ reachBytes := fun n hn => by simpa using List.all_eq_true.1 hsz n (DataW.weights_mem_each (j := 0) (t := 38) rfl rfl n hn)
  obtain ⟨q0, da0, dc0, rfl, ok0, tk0, lc0, cm0, nl0, w0⟩ := open_seg (hval 0 38 v0 rfl rfl) h0 s0
  obtain ⟨x1, rfl, rfl, rfl, w1⟩ := open_int Try.underlying3 (hval 1 3 v1 rfl rfl) h1
  clear hA0 hval0 hsz0
  refine (segShort_walk q0 da0 dc0 x1 W ok0 tk0 lc0 cm0 nl0 w0 w1).mono fun e W' ⟨he, bel⟩ => ?_
  subst he
  exact ⟨_, rfl, _, _, _, [], _, [], hW', trodAll_mk1 (shut_bool Try.underlying4 _), (trodAll_cons_mk (Below.trod laidOut (by kernel_rfl) (of_decide_eq_true (by kernel_rfl)) h0 bel lt0) (trodAll_cons_mk (shut_int Try.underlying3 w1) trodAll_mk0)), rfl, bel.frame _, fun h => by cases h⟩

theorem over : Rows.segShortRow.holds Try.pinned (OpenSpec.ofChange Rows.segShortSpec) :=
  OpenClaim.holds_of_wide 8 Try.f8 rfl rfl rfl rfl rfl rfl rfl ⟨rfl, rfl, rfl, rfl, rfl⟩ rfl rfl rfl rfl rfl (by kernel_rfl) Try.func8 (by kernel_rfl)
    (of_decide_eq_true (by kernel_rfl)) (by unfold Func.isWrapper; first | (rw [if_pos (by decide +kernel)]; kernel_rfl) | (rw [if_neg (by decide +kernel)]; exact ⟨rfl, rfl⟩))
    (fun os started H enc _ => lifted os started H enc)
end Go.Proofs.Ytgdpcomcndidcaa.segShort
namespace Go.Proofs.Ytgdpcomcndidcaa
theorem segShort_holds : Rows.SegShortSaid := segShort.over
end Go.Proofs.Ytgdpcomcndidcaa
