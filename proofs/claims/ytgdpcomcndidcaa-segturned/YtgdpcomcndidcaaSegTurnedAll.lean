/- For every input the law SegTurned returns true and leaves its arguments as they were. -/
import Derived.Test.YtgdpcomcndidcaaSgqF
import Derived.Test.YtgdpcomcndidcaaSgXo
import Derived.Test.YtgdpcomcndidcaaRows
import Derived.Test.YtgdpcomcndidcaaArgs
import Derived.WalkKit
import Derived.ProofKit
import Derived.OpenShut
import Derived.ShutString
import Derived.ChangeOld
import Derived.Below
import Derived.SizedLaws
namespace Go.Proofs.Ytgdpcomcndidcaa
open Go.RowKit
set_option linter.unusedVariables false
set_option linter.unusedSimpArgs false

set_option maxRecDepth 100000 in
set_option maxHeartbeats 4000000 in
theorem turned_no (x : Sg) (a : Option Addr) (c : Nat) (y z : Int) (w : World) (ok : x.ok) (tk : x.t.ok) (lc : x.data.length ≤ c) (cm : c ≤ 140737488351232) (nl : a = none → c = 0) (h : Row w a x.data) (wy : (Lit.int .i64 y).wf = true) (wz : (Lit.int .u8 z).wf = true) (hm : mayB x = false) :
    Calls Try.prog 7 #[.agg #[.int .i64 x.t.fam, .int .i64 x.t.pr, .int .i64 x.t.s.fam, .int .u64 x.t.s.hi, .int .u64 x.t.s.lo, .int .i64 x.t.d.fam, .int .u64 x.t.d.hi, .int .u64 x.t.d.lo, .int .i64 x.t.sp, .int .i64 x.t.dp, .int .i64 x.fl, .int .u32 x.sq, .int .u32 x.ak, .int .i64 x.wn, .int .i64 x.ty, .int .i64 x.cd, .bool x.er, .int .i64 x.inn.fam, .int .i64 x.inn.pr, .int .i64 x.inn.s.fam, .int .u64 x.inn.s.hi, .int .u64 x.inn.s.lo, .int .i64 x.inn.d.fam, .int .u64 x.inn.d.hi, .int .u64 x.inn.d.lo, .int .i64 x.inn.sp, .int .i64 x.inn.dp, .slice a x.data.length c], .int .i64 y, .int .u8 z] w fun e w' => e = .returned (.bool true) ∧ Below w.heap.size w w' := by
  obtain ⟨W1, hW1⟩ : ∃ W1, w.alloc (.cells #[.int .i64 x.t.fam, .int .i64 x.t.pr, .int .i64 x.t.s.fam, .int .u64 x.t.s.hi, .int .u64 x.t.s.lo, .int .i64 x.t.d.fam, .int .u64 x.t.d.hi, .int .u64 x.t.d.lo, .int .i64 x.t.sp, .int .i64 x.t.dp, .int .i64 x.fl, .int .u32 x.sq, .int .u32 x.ak, .int .i64 x.wn, .int .i64 x.ty, .int .i64 x.cd, .bool x.er, .int .i64 x.inn.fam, .int .i64 x.inn.pr, .int .i64 x.inn.s.fam, .int .u64 x.inn.s.hi, .int .u64 x.inn.s.lo, .int .i64 x.inn.d.fam, .int .u64 x.inn.d.hi, .int .u64 x.inn.d.lo, .int .i64 x.inn.sp, .int .i64 x.inn.dp, .slice a x.data.length c] 38) = W1 := ⟨_, rfl⟩
  have b1 : Below w.heap.size w W1 := by rw [← hW1]; exact (Below.refl _ _).alloc (Nat.le_refl _) _
  have B1 : Blk W1 w.heap.size 38 #[.int .i64 x.t.fam, .int .i64 x.t.pr, .int .i64 x.t.s.fam, .int .u64 x.t.s.hi, .int .u64 x.t.s.lo, .int .i64 x.t.d.fam, .int .u64 x.t.d.hi, .int .u64 x.t.d.lo, .int .i64 x.t.sp, .int .i64 x.t.dp, .int .i64 x.fl, .int .u32 x.sq, .int .u32 x.ak, .int .i64 x.wn, .int .i64 x.ty, .int .i64 x.cd, .bool x.er, .int .i64 x.inn.fam, .int .i64 x.inn.pr, .int .i64 x.inn.s.fam, .int .u64 x.inn.s.hi, .int .u64 x.inn.s.lo, .int .i64 x.inn.d.fam, .int .u64 x.inn.d.hi, .int .u64 x.inn.d.lo, .int .i64 x.inn.sp, .int .i64 x.inn.dp, .slice a x.data.length c] := by rw [← hW1]; exact blk_new _ _ _
  have r1 := h.below b1
  have KA : Hid _ := segAlive_any
  have KB : Hid (Calls Try.prog 19 #[.agg #[.int .i64 x.t.fam, .int .i64 x.t.pr, .int .i64 x.t.s.fam, .int .u64 x.t.s.hi, .int .u64 x.t.s.lo, .int .i64 x.t.d.fam, .int .u64 x.t.d.hi, .int .u64 x.t.d.lo, .int .i64 x.t.sp, .int .i64 x.t.dp, .int .i64 x.fl, .int .u32 x.sq, .int .u32 x.ak, .int .i64 x.wn, .int .i64 x.ty, .int .i64 x.cd, .bool x.er, .int .i64 x.inn.fam, .int .i64 x.inn.pr, .int .i64 x.inn.s.fam, .int .u64 x.inn.s.hi, .int .u64 x.inn.s.lo, .int .i64 x.inn.d.fam, .int .u64 x.inn.d.hi, .int .u64 x.inn.d.lo, .int .i64 x.inn.sp, .int .i64 x.inn.dp, .slice a x.data.length c]] W1 fun e w' => ∃ a' c', e = .returned (.tuple #[.slice a' 0 c', .int .i64 1]) ∧ Fresh W1 w' a' c' []) := by
    have := build_any x a c W1 r1 nl ok
    rw [hm] at this
    exact this
  go_enter Try.func7, Try.ntmps7
  go_wp2_with (refine wpList_load_row rfl _ _ rfl w.heap.size (by rfl) _ _ _ _ B1 Try.underlying38 rfl (by kernel_rfl) ?_)
  refine Calls.mono KB.out ?_
  rintro e W2 ⟨a2, c2, rfl, f2⟩
  have b2 : Below w.heap.size w W2 := b1.trans (f2.below.mono b1.size)
  have B2 := B1.kept f2.below
  have r2 := f2.row
  have n2 := f2.nil
  have m2 := f2.room
  have o2 := f2.owns.cap_le
  have O2 := owns_le (B' := W1.heap.size) (Nat.le_refl _) f2.owns
  clear KB f2 hW1
  have t1 := B2.cell 1 (.int .i64 x.t.pr) rfl
  go_wp2_with fail
  refine Calls.mono (KA.out _) ?_
  rintro e W3 ⟨rfl, bb⟩
  have b3 : Below w.heap.size w W3 := b2.trans (bb.mono b2.size)
  clear bb KA
  go_wp2
  go_ret
  exact ⟨rfl, b3⟩

set_option maxRecDepth 100000 in
set_option maxHeartbeats 4000000 in
theorem turned_z (x : Sg) (a : Option Addr) (c : Nat) (y z : Int) (w : World) (ok : x.ok) (tk : x.t.ok) (lc : x.data.length ≤ c) (cm : c ≤ 140737488351232) (nl : a = none → c = 0) (h : Row w a x.data) (wy : (Lit.int .i64 y).wf = true) (wz : (Lit.int .u8 z).wf = true) (hm : mayB x = true) (hz : z = 0) :
    Calls Try.prog 7 #[.agg #[.int .i64 x.t.fam, .int .i64 x.t.pr, .int .i64 x.t.s.fam, .int .u64 x.t.s.hi, .int .u64 x.t.s.lo, .int .i64 x.t.d.fam, .int .u64 x.t.d.hi, .int .u64 x.t.d.lo, .int .i64 x.t.sp, .int .i64 x.t.dp, .int .i64 x.fl, .int .u32 x.sq, .int .u32 x.ak, .int .i64 x.wn, .int .i64 x.ty, .int .i64 x.cd, .bool x.er, .int .i64 x.inn.fam, .int .i64 x.inn.pr, .int .i64 x.inn.s.fam, .int .u64 x.inn.s.hi, .int .u64 x.inn.s.lo, .int .i64 x.inn.d.fam, .int .u64 x.inn.d.hi, .int .u64 x.inn.d.lo, .int .i64 x.inn.sp, .int .i64 x.inn.dp, .slice a x.data.length c], .int .i64 y, .int .u8 z] w fun e w' => e = .returned (.bool true) ∧ Below w.heap.size w w' := by
  obtain ⟨W1, hW1⟩ : ∃ W1, w.alloc (.cells #[.int .i64 x.t.fam, .int .i64 x.t.pr, .int .i64 x.t.s.fam, .int .u64 x.t.s.hi, .int .u64 x.t.s.lo, .int .i64 x.t.d.fam, .int .u64 x.t.d.hi, .int .u64 x.t.d.lo, .int .i64 x.t.sp, .int .i64 x.t.dp, .int .i64 x.fl, .int .u32 x.sq, .int .u32 x.ak, .int .i64 x.wn, .int .i64 x.ty, .int .i64 x.cd, .bool x.er, .int .i64 x.inn.fam, .int .i64 x.inn.pr, .int .i64 x.inn.s.fam, .int .u64 x.inn.s.hi, .int .u64 x.inn.s.lo, .int .i64 x.inn.d.fam, .int .u64 x.inn.d.hi, .int .u64 x.inn.d.lo, .int .i64 x.inn.sp, .int .i64 x.inn.dp, .slice a x.data.length c] 38) = W1 := ⟨_, rfl⟩
  have b1 : Below w.heap.size w W1 := by rw [← hW1]; exact (Below.refl _ _).alloc (Nat.le_refl _) _
  have B1 : Blk W1 w.heap.size 38 #[.int .i64 x.t.fam, .int .i64 x.t.pr, .int .i64 x.t.s.fam, .int .u64 x.t.s.hi, .int .u64 x.t.s.lo, .int .i64 x.t.d.fam, .int .u64 x.t.d.hi, .int .u64 x.t.d.lo, .int .i64 x.t.sp, .int .i64 x.t.dp, .int .i64 x.fl, .int .u32 x.sq, .int .u32 x.ak, .int .i64 x.wn, .int .i64 x.ty, .int .i64 x.cd, .bool x.er, .int .i64 x.inn.fam, .int .i64 x.inn.pr, .int .i64 x.inn.s.fam, .int .u64 x.inn.s.hi, .int .u64 x.inn.s.lo, .int .i64 x.inn.d.fam, .int .u64 x.inn.d.hi, .int .u64 x.inn.d.lo, .int .i64 x.inn.sp, .int .i64 x.inn.dp, .slice a x.data.length c] := by rw [← hW1]; exact blk_new _ _ _
  have r1 := h.below b1
  have KA : Hid _ := segAlive_any
  obtain ⟨L, hL⟩ : ∃ L, madeB x = L := ⟨_, rfl⟩
  have KB : Hid (Calls Try.prog 19 #[.agg #[.int .i64 x.t.fam, .int .i64 x.t.pr, .int .i64 x.t.s.fam, .int .u64 x.t.s.hi, .int .u64 x.t.s.lo, .int .i64 x.t.d.fam, .int .u64 x.t.d.hi, .int .u64 x.t.d.lo, .int .i64 x.t.sp, .int .i64 x.t.dp, .int .i64 x.fl, .int .u32 x.sq, .int .u32 x.ak, .int .i64 x.wn, .int .i64 x.ty, .int .i64 x.cd, .bool x.er, .int .i64 x.inn.fam, .int .i64 x.inn.pr, .int .i64 x.inn.s.fam, .int .u64 x.inn.s.hi, .int .u64 x.inn.s.lo, .int .i64 x.inn.d.fam, .int .u64 x.inn.d.hi, .int .u64 x.inn.d.lo, .int .i64 x.inn.sp, .int .i64 x.inn.dp, .slice a x.data.length c]] W1 fun e w' => ∃ a' c', e = .returned (.tuple #[.slice a' L.length c', .int .i64 0]) ∧ Fresh W1 w' a' c' L) := by
    have := build_any x a c W1 r1 nl ok
    rw [hm, if_pos rfl, if_pos rfl, hL] at this
    exact this
  have hz' : (z == 0) = true := by simpa using hz
  clear hL hz
  go_enter Try.func7, Try.ntmps7
  go_wp2_with (refine wpList_load_row rfl _ _ rfl w.heap.size (by rfl) _ _ _ _ B1 Try.underlying38 rfl (by kernel_rfl) ?_)
  refine Calls.mono KB.out ?_
  rintro e W2 ⟨a2, c2, rfl, f2⟩
  have b2 : Below w.heap.size w W2 := b1.trans (f2.below.mono b1.size)
  have B2 := B1.kept f2.below
  have r2 := f2.row
  have n2 := f2.nil
  have m2 := f2.room
  have o2 := f2.owns.cap_le
  have O2 := owns_le (B' := W1.heap.size) (Nat.le_refl _) f2.owns
  clear KB f2 hW1
  have t1 := B2.cell 1 (.int .i64 x.t.pr) rfl
  go_wp2_with fail
  refine Calls.mono (KA.out _) ?_
  rintro e W3 ⟨rfl, bb⟩
  have b3 : Below w.heap.size w W3 := b2.trans (bb.mono b2.size)
  clear bb KA
  go_wp2
  go_ret
  exact ⟨rfl, b3⟩

set_option maxRecDepth 100000 in
set_option maxHeartbeats 4000000 in
theorem turned_e (x : Sg) (a : Option Addr) (c : Nat) (y z : Int) (w : World) (ok : x.ok) (tk : x.t.ok) (lc : x.data.length ≤ c) (cm : c ≤ 140737488351232) (nl : a = none → c = 0) (h : Row w a x.data) (wy : (Lit.int .i64 y).wf = true) (wz : (Lit.int .u8 z).wf = true) (hm : mayB x = true) (hz : ¬ z = 0) (hn : x.data.length = 0) :
    Calls Try.prog 7 #[.agg #[.int .i64 x.t.fam, .int .i64 x.t.pr, .int .i64 x.t.s.fam, .int .u64 x.t.s.hi, .int .u64 x.t.s.lo, .int .i64 x.t.d.fam, .int .u64 x.t.d.hi, .int .u64 x.t.d.lo, .int .i64 x.t.sp, .int .i64 x.t.dp, .int .i64 x.fl, .int .u32 x.sq, .int .u32 x.ak, .int .i64 x.wn, .int .i64 x.ty, .int .i64 x.cd, .bool x.er, .int .i64 x.inn.fam, .int .i64 x.inn.pr, .int .i64 x.inn.s.fam, .int .u64 x.inn.s.hi, .int .u64 x.inn.s.lo, .int .i64 x.inn.d.fam, .int .u64 x.inn.d.hi, .int .u64 x.inn.d.lo, .int .i64 x.inn.sp, .int .i64 x.inn.dp, .slice a x.data.length c], .int .i64 y, .int .u8 z] w fun e w' => e = .returned (.bool true) ∧ Below w.heap.size w w' := by
  obtain ⟨W1, hW1⟩ : ∃ W1, w.alloc (.cells #[.int .i64 x.t.fam, .int .i64 x.t.pr, .int .i64 x.t.s.fam, .int .u64 x.t.s.hi, .int .u64 x.t.s.lo, .int .i64 x.t.d.fam, .int .u64 x.t.d.hi, .int .u64 x.t.d.lo, .int .i64 x.t.sp, .int .i64 x.t.dp, .int .i64 x.fl, .int .u32 x.sq, .int .u32 x.ak, .int .i64 x.wn, .int .i64 x.ty, .int .i64 x.cd, .bool x.er, .int .i64 x.inn.fam, .int .i64 x.inn.pr, .int .i64 x.inn.s.fam, .int .u64 x.inn.s.hi, .int .u64 x.inn.s.lo, .int .i64 x.inn.d.fam, .int .u64 x.inn.d.hi, .int .u64 x.inn.d.lo, .int .i64 x.inn.sp, .int .i64 x.inn.dp, .slice a x.data.length c] 38) = W1 := ⟨_, rfl⟩
  have b1 : Below w.heap.size w W1 := by rw [← hW1]; exact (Below.refl _ _).alloc (Nat.le_refl _) _
  have B1 : Blk W1 w.heap.size 38 #[.int .i64 x.t.fam, .int .i64 x.t.pr, .int .i64 x.t.s.fam, .int .u64 x.t.s.hi, .int .u64 x.t.s.lo, .int .i64 x.t.d.fam, .int .u64 x.t.d.hi, .int .u64 x.t.d.lo, .int .i64 x.t.sp, .int .i64 x.t.dp, .int .i64 x.fl, .int .u32 x.sq, .int .u32 x.ak, .int .i64 x.wn, .int .i64 x.ty, .int .i64 x.cd, .bool x.er, .int .i64 x.inn.fam, .int .i64 x.inn.pr, .int .i64 x.inn.s.fam, .int .u64 x.inn.s.hi, .int .u64 x.inn.s.lo, .int .i64 x.inn.d.fam, .int .u64 x.inn.d.hi, .int .u64 x.inn.d.lo, .int .i64 x.inn.sp, .int .i64 x.inn.dp, .slice a x.data.length c] := by rw [← hW1]; exact blk_new _ _ _
  have r1 := h.below b1
  have KA : Hid _ := segAlive_any
  obtain ⟨L, hL⟩ : ∃ L, madeB x = L := ⟨_, rfl⟩
  have KB : Hid (Calls Try.prog 19 #[.agg #[.int .i64 x.t.fam, .int .i64 x.t.pr, .int .i64 x.t.s.fam, .int .u64 x.t.s.hi, .int .u64 x.t.s.lo, .int .i64 x.t.d.fam, .int .u64 x.t.d.hi, .int .u64 x.t.d.lo, .int .i64 x.t.sp, .int .i64 x.t.dp, .int .i64 x.fl, .int .u32 x.sq, .int .u32 x.ak, .int .i64 x.wn, .int .i64 x.ty, .int .i64 x.cd, .bool x.er, .int .i64 x.inn.fam, .int .i64 x.inn.pr, .int .i64 x.inn.s.fam, .int .u64 x.inn.s.hi, .int .u64 x.inn.s.lo, .int .i64 x.inn.d.fam, .int .u64 x.inn.d.hi, .int .u64 x.inn.d.lo, .int .i64 x.inn.sp, .int .i64 x.inn.dp, .slice a x.data.length c]] W1 fun e w' => ∃ a' c', e = .returned (.tuple #[.slice a' L.length c', .int .i64 0]) ∧ Fresh W1 w' a' c' L) := by
    have := build_any x a c W1 r1 nl ok
    rw [hm, if_pos rfl, if_pos rfl, hL] at this
    exact this
  have hz' : (z == 0) = false := by simpa using hz
  have hn' : ((x.data.length : Int) == 0) = true := beq_iff_eq.2 (by omega)
  clear hL hz hn
  go_enter Try.func7, Try.ntmps7
  go_wp2_with (refine wpList_load_row rfl _ _ rfl w.heap.size (by rfl) _ _ _ _ B1 Try.underlying38 rfl (by kernel_rfl) ?_)
  refine Calls.mono KB.out ?_
  rintro e W2 ⟨a2, c2, rfl, f2⟩
  have b2 : Below w.heap.size w W2 := b1.trans (f2.below.mono b1.size)
  have B2 := B1.kept f2.below
  have r2 := f2.row
  have n2 := f2.nil
  have m2 := f2.room
  have o2 := f2.owns.cap_le
  have O2 := owns_le (B' := W1.heap.size) (Nat.le_refl _) f2.owns
  clear KB f2 hW1
  have t1 := B2.cell 1 (.int .i64 x.t.pr) rfl
  have e27 := B2.cell 27 (.slice a x.data.length c) rfl
  go_wp2_with fail
  refine Calls.mono (KA.out _) ?_
  rintro e W3 ⟨rfl, bb⟩
  have b3 : Below w.heap.size w W3 := b2.trans (bb.mono b2.size)
  clear bb KA
  go_wp2
  go_ret
  exact ⟨rfl, b3⟩

set_option maxRecDepth 100000 in
set_option maxHeartbeats 4000000 in
theorem turned_y (x : Sg) (a : Option Addr) (c : Nat) (y z : Int) (w : World) (ok : x.ok) (tk : x.t.ok) (lc : x.data.length ≤ c) (cm : c ≤ 140737488351232) (nl : a = none → c = 0) (h : Row w a x.data) (wy : (Lit.int .i64 y).wf = true) (wz : (Lit.int .u8 z).wf = true) (hm : mayB x = true) (hz : ¬ z = 0) (hn : ¬ x.data.length = 0) :
    Calls Try.prog 7 #[.agg #[.int .i64 x.t.fam, .int .i64 x.t.pr, .int .i64 x.t.s.fam, .int .u64 x.t.s.hi, .int .u64 x.t.s.lo, .int .i64 x.t.d.fam, .int .u64 x.t.d.hi, .int .u64 x.t.d.lo, .int .i64 x.t.sp, .int .i64 x.t.dp, .int .i64 x.fl, .int .u32 x.sq, .int .u32 x.ak, .int .i64 x.wn, .int .i64 x.ty, .int .i64 x.cd, .bool x.er, .int .i64 x.inn.fam, .int .i64 x.inn.pr, .int .i64 x.inn.s.fam, .int .u64 x.inn.s.hi, .int .u64 x.inn.s.lo, .int .i64 x.inn.d.fam, .int .u64 x.inn.d.hi, .int .u64 x.inn.d.lo, .int .i64 x.inn.sp, .int .i64 x.inn.dp, .slice a x.data.length c], .int .i64 y, .int .u8 z] w fun e w' => e = .returned (.bool true) ∧ Below w.heap.size w w' := by
  obtain ⟨W1, hW1⟩ : ∃ W1, w.alloc (.cells #[.int .i64 x.t.fam, .int .i64 x.t.pr, .int .i64 x.t.s.fam, .int .u64 x.t.s.hi, .int .u64 x.t.s.lo, .int .i64 x.t.d.fam, .int .u64 x.t.d.hi, .int .u64 x.t.d.lo, .int .i64 x.t.sp, .int .i64 x.t.dp, .int .i64 x.fl, .int .u32 x.sq, .int .u32 x.ak, .int .i64 x.wn, .int .i64 x.ty, .int .i64 x.cd, .bool x.er, .int .i64 x.inn.fam, .int .i64 x.inn.pr, .int .i64 x.inn.s.fam, .int .u64 x.inn.s.hi, .int .u64 x.inn.s.lo, .int .i64 x.inn.d.fam, .int .u64 x.inn.d.hi, .int .u64 x.inn.d.lo, .int .i64 x.inn.sp, .int .i64 x.inn.dp, .slice a x.data.length c] 38) = W1 := ⟨_, rfl⟩
  have b1 : Below w.heap.size w W1 := by rw [← hW1]; exact (Below.refl _ _).alloc (Nat.le_refl _) _
  have B1 : Blk W1 w.heap.size 38 #[.int .i64 x.t.fam, .int .i64 x.t.pr, .int .i64 x.t.s.fam, .int .u64 x.t.s.hi, .int .u64 x.t.s.lo, .int .i64 x.t.d.fam, .int .u64 x.t.d.hi, .int .u64 x.t.d.lo, .int .i64 x.t.sp, .int .i64 x.t.dp, .int .i64 x.fl, .int .u32 x.sq, .int .u32 x.ak, .int .i64 x.wn, .int .i64 x.ty, .int .i64 x.cd, .bool x.er, .int .i64 x.inn.fam, .int .i64 x.inn.pr, .int .i64 x.inn.s.fam, .int .u64 x.inn.s.hi, .int .u64 x.inn.s.lo, .int .i64 x.inn.d.fam, .int .u64 x.inn.d.hi, .int .u64 x.inn.d.lo, .int .i64 x.inn.sp, .int .i64 x.inn.dp, .slice a x.data.length c] := by rw [← hW1]; exact blk_new _ _ _
  have r1 := h.below b1
  have KA : Hid _ := segAlive_any
  obtain ⟨L, hL⟩ : ∃ L, madeB x = L := ⟨_, rfl⟩
  have KB : Hid (Calls Try.prog 19 #[.agg #[.int .i64 x.t.fam, .int .i64 x.t.pr, .int .i64 x.t.s.fam, .int .u64 x.t.s.hi, .int .u64 x.t.s.lo, .int .i64 x.t.d.fam, .int .u64 x.t.d.hi, .int .u64 x.t.d.lo, .int .i64 x.t.sp, .int .i64 x.t.dp, .int .i64 x.fl, .int .u32 x.sq, .int .u32 x.ak, .int .i64 x.wn, .int .i64 x.ty, .int .i64 x.cd, .bool x.er, .int .i64 x.inn.fam, .int .i64 x.inn.pr, .int .i64 x.inn.s.fam, .int .u64 x.inn.s.hi, .int .u64 x.inn.s.lo, .int .i64 x.inn.d.fam, .int .u64 x.inn.d.hi, .int .u64 x.inn.d.lo, .int .i64 x.inn.sp, .int .i64 x.inn.dp, .slice a x.data.length c]] W1 fun e w' => ∃ a' c', e = .returned (.tuple #[.slice a' L.length c', .int .i64 0]) ∧ Fresh W1 w' a' c' L) := by
    have := build_any x a c W1 r1 nl ok
    rw [hm, if_pos rfl, if_pos rfl, hL] at this
    exact this
  have hd : M.Bytes x.data := h.bytes
  have m := may5 hm
  have lD := m.len
  obtain ⟨hh, lH⟩ : ∃ hh : Nat, L.length = hh + x.data.length := by
    refine ⟨(headB x).length, ?_⟩
    rw [← hL, madeB_len]
    unfold bodyB
    rw [List.length_append]
  have lH2 : hh ≤ 20 := by
    have h1 := (headB_len x).2
    have h2 : L.length = (headB x).length + x.data.length := by
      rw [← hL, madeB_len]
      unfold bodyB
      rw [List.length_append]
    omega
  have lL2 : L.length ≤ 65535 := by omega
  have hy := wf_i64 wy
  have hzb : 0 ≤ z ∧ z ≤ 255 := by simpa [Lit.wf, IntKind.min, IntKind.max, IntKind.signed, IntKind.bits] using wz
  obtain ⟨i, hi, ei⟩ := turn_place y x.data.length (by omega) (by omega)
  have hk : hh + i < L.length := by omega
  obtain ⟨v, hv⟩ : ∃ v, L.getD (hh + i) 0 = v := ⟨_, rfl⟩
  have bL : M.Bytes L := by rw [← hL]; exact made_ok ok hd
  have qv := bL.get (hh + i)
  rw [hv] at qv
  obtain ⟨u, hu⟩ : ∃ u, bits .xor .u8 v z = u := ⟨_, rfl⟩
  have hub : 0 ≤ u ∧ u ≤ 255 := by rw [← hu]; exact u8_xor_bd v z
  have hne : u ≠ v := by rw [← hu]; exact xor_ne v z qv ⟨by omega, hzb.2⟩
  obtain ⟨E, hE⟩ : ∃ E, segE x.t.fam x.t.pr x.t.s x.t.d (L.set (hh + i) u) = E := ⟨_, rfl⟩
  obtain ⟨X, hX⟩ : ∃ X, segX x.t.fam x.t.pr x.t.s x.t.d (L.set (hh + i) u) = X := ⟨_, rfl⟩
  have hE0 : (E != 0) = true := by
    have := turned_E ok hd m (hh + i) u (by rw [hL]; exact hk) (by rw [hL]; omega) hub (by rw [hL, hv]; exact hne)
    rw [hL, hE] at this
    simpa using this
  have hz' : (z == 0) = false := by simpa using hz
  have hn' : ((x.data.length : Int) == 0) = false := beq_eq_false_iff_ne.2 (by omega)
  have hn3 : ¬ (x.data.length : Int) = 0 := by omega
  have hn4 : ¬ x.data = [] := fun e => hn (by rw [e]; rfl)
  have hlt : ¬ (L.length : Int) < (x.data.length : Int) := by omega
  have ei' : (wrap64 (y.tmod (x.data.length : Int) + (x.data.length : Int))).tmod (x.data.length : Int) = (i : Int) := ei
  have w1 : IntKind.i64.wrap ((L.length : Int) - (x.data.length : Int)) = (hh : Int) := by rw [IntKind.wrap_i64]; omega
  have w2 : IntKind.i64.wrap ((hh : Int) + (i : Int)) = (hh : Int) + (i : Int) := wraps_i64 _ (by omega) (by omega)
  have j1 : (0 : Int) ≤ (hh : Int) + (i : Int) := by omega
  have j2 : (hh : Int) + (i : Int) < (L.length : Int) := by omega
  have HLL : Hid (segE x.t.fam x.t.pr x.t.s x.t.d (L.set (hh + i) u) = E ∧ segX x.t.fam x.t.pr x.t.s x.t.d (L.set (hh + i) u) = X ∧ L.getD (hh + i) 0 = v ∧ M.Bytes L) := ⟨hE, hX, hv, bL⟩
  clear hL hz hn hE hX hv bL hne ei lH hd m
  go_enter Try.func7, Try.ntmps7
  go_wp2_with (refine wpList_load_row rfl _ _ rfl w.heap.size (by rfl) _ _ _ _ B1 Try.underlying38 rfl (by kernel_rfl) ?_)
  refine Calls.mono KB.out ?_
  rintro e W2 ⟨a2, c2, rfl, f2⟩
  have b2 : Below w.heap.size w W2 := b1.trans (f2.below.mono b1.size)
  have B2 := B1.kept f2.below
  have r2 := f2.row
  have n2 := f2.nil
  have m2 := f2.room
  have o2 := f2.owns.cap_le
  have O2 := owns_le (B' := W1.heap.size) (Nat.le_refl _) f2.owns
  clear KB f2 hW1
  have t1 := B2.cell 1 (.int .i64 x.t.pr) rfl
  have e27 := B2.cell 27 (.slice a x.data.length c) rfl
  go_wp2
  go_quiet (fail)
  have b3 : Below w.heap.size w (W2.drewN nq) := below_drewN b2 nq
  have b23 : Below W2.heap.size W2 (W2.drewN nq) := below_drewN (Below.refl _ _) nq
  have B3 := B2.kept b23
  have O3 : Owns (W2.drewN nq) W1.heap.size (.slice a2 L.length c2) L := O2
  obtain ⟨W3, hW3⟩ : ∃ W, W2.drewN nq = W := ⟨_, rfl⟩
  rw [hW3] at b3 B3 O3 ⊢
  clear hW3 b23 B2 O2 r2 b2 e27 t1
  have e27 := B3.cell 27 (.slice a x.data.length c) rfl
  obtain ⟨g, rfl, hg1, hg2, y1, z1, O4⟩ := O3.write rfl (hh + i) hk
  rw [HLL.out.2.2.1] at y1
  have O4 := O4 u
  have gw : w.heap.size < W1.heap.size := B1.lt
  have b4 := b3.setCell (p := ⟨g, hh + i, none⟩) (show w.heap.size ≤ g by omega) (.int .u8 u)
  have B4 : Blk (W3.setCell ⟨g, hh + i, none⟩ (.int .u8 u)) w.heap.size 38 #[.int .i64 x.t.fam, .int .i64 x.t.pr, .int .i64 x.t.s.fam, .int .u64 x.t.s.hi, .int .u64 x.t.s.lo, .int .i64 x.t.d.fam, .int .u64 x.t.d.hi, .int .u64 x.t.d.lo, .int .i64 x.t.sp, .int .i64 x.t.dp, .int .i64 x.fl, .int .u32 x.sq, .int .u32 x.ak, .int .i64 x.wn, .int .i64 x.ty, .int .i64 x.cd, .bool x.er, .int .i64 x.inn.fam, .int .i64 x.inn.pr, .int .i64 x.inn.s.fam, .int .u64 x.inn.s.hi, .int .u64 x.inn.s.lo, .int .i64 x.inn.d.fam, .int .u64 x.inn.d.hi, .int .u64 x.inn.d.lo, .int .i64 x.inn.sp, .int .i64 x.inn.dp, .slice a x.data.length c] := by
    have hb : Below W1.heap.size W3 (W3.setCell ⟨g, hh + i, none⟩ (.int .u8 u)) := (Below.refl _ _).setCell (p := ⟨g, hh + i, none⟩) (show W1.heap.size ≤ g by omega) _
    exact B3.below hb gw
  have ls : (L.set (hh + i) u).length = L.length := List.length_set
  have r4 : Row (W3.setCell ⟨g, hh + i, none⟩ (.int .u8 u)) (some ⟨g, 0, none⟩) (L.set (hh + i) u) := Owns.row (B := W1.heap.size) (c := c2) (by rw [ls]; exact O4) (by rw [ls]; omega) (HLL.out.2.2.2.set _ hub)
  obtain ⟨W4, hW4⟩ : ∃ W, W3.setCell ⟨g, hh + i, none⟩ (.int .u8 u) = W := ⟨_, rfl⟩
  rw [hW4] at b4 B4 r4
  have KQ : Hid (∀ W, Calls Try.prog 21 #[.agg #[.int .i64 x.t.fam, .int .i64 x.t.pr, .int .i64 x.t.s.fam, .int .u64 x.t.s.hi, .int .u64 x.t.s.lo, .int .i64 x.t.d.fam, .int .u64 x.t.d.hi, .int .u64 x.t.d.lo, .int .i64 x.t.sp, .int .i64 x.t.dp, .int .i64 x.fl, .int .u32 x.sq, .int .u32 x.ak, .int .i64 x.wn, .int .i64 x.ty, .int .i64 x.cd, .bool x.er, .int .i64 x.inn.fam, .int .i64 x.inn.pr, .int .i64 x.inn.s.fam, .int .u64 x.inn.s.hi, .int .u64 x.inn.s.lo, .int .i64 x.inn.d.fam, .int .u64 x.inn.d.hi, .int .u64 x.inn.d.lo, .int .i64 x.inn.sp, .int .i64 x.inn.dp, .slice a x.data.length c], .slice (some ⟨g, 0, none⟩) L.length c2] W fun e w' => e = .returned (.agg #[.int .i64 x.t.fam, .int .i64 x.t.s.fam, .int .u64 x.t.s.hi, .int .u64 x.t.s.lo, .int .i64 x.t.d.fam, .int .u64 x.t.d.hi, .int .u64 x.t.d.lo, .int .i64 x.t.pr, .int .i64 1, .bool false, .int .u32 0, .int .i64 0, .bool false, .slice none 0 0, .slice (some ⟨g, 0, none⟩) L.length c2]) ∧ Below W.heap.size W w') := fun W => packet_any x a c (some ⟨g, 0, none⟩) L.length c2 W
  have KR : Hid (∀ W, Row W (some ⟨g, 0, none⟩) (L.set (hh + i) u) → Calls Try.prog 16 #[.agg #[.int .i64 x.t.fam, .int .i64 x.t.s.fam, .int .u64 x.t.s.hi, .int .u64 x.t.s.lo, .int .i64 x.t.d.fam, .int .u64 x.t.d.hi, .int .u64 x.t.d.lo, .int .i64 x.t.pr, .int .i64 1, .bool false, .int .u32 0, .int .i64 0, .bool false, .slice none 0 0, .slice (some ⟨g, 0, none⟩) L.length c2]] W fun e w' => ∃ ax cx, e = .returned (.tuple #[.agg #[.int .i64 X.t.fam, .int .i64 X.t.pr, .int .i64 X.t.s.fam, .int .u64 X.t.s.hi, .int .u64 X.t.s.lo, .int .i64 X.t.d.fam, .int .u64 X.t.d.hi, .int .u64 X.t.d.lo, .int .i64 X.t.sp, .int .i64 X.t.dp, .int .i64 X.fl, .int .u32 X.sq, .int .u32 X.ak, .int .i64 X.wn, .int .i64 X.ty, .int .i64 X.cd, .bool X.er, .int .i64 X.inn.fam, .int .i64 X.inn.pr, .int .i64 X.inn.s.fam, .int .u64 X.inn.s.hi, .int .u64 X.inn.s.lo, .int .i64 X.inn.d.fam, .int .u64 X.inn.d.hi, .int .u64 X.inn.d.lo, .int .i64 X.inn.sp, .int .i64 X.inn.dp, .slice ax X.data.length cx], .int .i64 E]) ∧ Fresh W w' ax cx X.data) := fun W hW => by
    have := segParse_any x.t.fam x.t.s.fam x.t.s.hi x.t.s.lo x.t.d.fam x.t.d.hi x.t.d.lo x.t.pr 1 false 0 0 false none 0 0 (some ⟨g, 0, none⟩) c2 (L.set (hh + i) u) W hW (fun e => by cases e) (by rw [ls]; exact m2) o2 (by rw [ls]; omega) ok.s ok.d
    rw [ls, show segE x.t.fam x.t.pr ⟨x.t.s.fam, x.t.s.hi, x.t.s.lo⟩ ⟨x.t.d.fam, x.t.d.hi, x.t.d.lo⟩ (L.set (hh + i) u) = E from HLL.out.1, show segX x.t.fam x.t.pr ⟨x.t.s.fam, x.t.s.hi, x.t.s.lo⟩ ⟨x.t.d.fam, x.t.d.hi, x.t.d.lo⟩ (L.set (hh + i) u) = X from HLL.out.2.1] at this
    exact this
  clear HLL ls O3 O4 B3 b3 hg1 hg2 B1 b1 r1
  go_wp2_with (refine wpList_load_row rfl _ _ rfl w.heap.size (by rfl) _ _ _ _ B4 Try.underlying38 rfl (by kernel_rfl) ?_)
  refine Calls.mono (KQ.out _) ?_
  rintro e W5 ⟨rfl, bb⟩
  have b5 : Below w.heap.size w W5 := b4.trans (bb.mono b4.size)
  have r5 := r4.below bb
  clear KQ bb B4 b4 r4 e27 y1 z1 hW4
  go_wp2_with fail
  refine Calls.mono (KR.out _ r5) ?_
  rintro e W6 ⟨ax, cx, rfl, f6⟩
  have b6 : Below w.heap.size w W6 := b5.trans (f6.below.mono b5.size)
  clear KR f6 b5 r5
  obtain ⟨W7, hW7⟩ : ∃ W, W6.alloc (.cells #[.int .i64 0, .int .i64 0, .int .i64 0, .int .u64 0, .int .u64 0, .int .i64 0, .int .u64 0, .int .u64 0, .int .i64 0, .int .i64 0, .int .i64 0, .int .u32 0, .int .u32 0, .int .i64 0, .int .i64 0, .int .i64 0, .bool false, .int .i64 0, .int .i64 0, .int .i64 0, .int .u64 0, .int .u64 0, .int .i64 0, .int .u64 0, .int .u64 0, .int .i64 0, .int .i64 0, .slice none 0 0] 38) = W := ⟨_, rfl⟩
  have N7 : Blk W7 W6.heap.size 38 #[.int .i64 0, .int .i64 0, .int .i64 0, .int .u64 0, .int .u64 0, .int .i64 0, .int .u64 0, .int .u64 0, .int .i64 0, .int .i64 0, .int .i64 0, .int .u32 0, .int .u32 0, .int .i64 0, .int .i64 0, .int .i64 0, .bool false, .int .i64 0, .int .i64 0, .int .i64 0, .int .u64 0, .int .u64 0, .int .i64 0, .int .u64 0, .int .u64 0, .int .i64 0, .int .i64 0, .slice none 0 0] := by rw [← hW7]; exact blk_new _ _ _
  have b7 : Below w.heap.size w W7 := by rw [← hW7]; exact b6.alloc b6.size _
  have b8 := below_setRow b7 b6.size #[.int .i64 X.t.fam, .int .i64 X.t.pr, .int .i64 X.t.s.fam, .int .u64 X.t.s.hi, .int .u64 X.t.s.lo, .int .i64 X.t.d.fam, .int .u64 X.t.d.hi, .int .u64 X.t.d.lo, .int .i64 X.t.sp, .int .i64 X.t.dp, .int .i64 X.fl, .int .u32 X.sq, .int .u32 X.ak, .int .i64 X.wn, .int .i64 X.ty, .int .i64 X.cd, .bool X.er, .int .i64 X.inn.fam, .int .i64 X.inn.pr, .int .i64 X.inn.s.fam, .int .u64 X.inn.s.hi, .int .u64 X.inn.s.lo, .int .i64 X.inn.d.fam, .int .u64 X.inn.d.hi, .int .u64 X.inn.d.lo, .int .i64 X.inn.sp, .int .i64 X.inn.dp, .slice ax X.data.length cx]
  obtain ⟨W8, hW8⟩ : ∃ W, W7.setRow W6.heap.size #[.int .i64 X.t.fam, .int .i64 X.t.pr, .int .i64 X.t.s.fam, .int .u64 X.t.s.hi, .int .u64 X.t.s.lo, .int .i64 X.t.d.fam, .int .u64 X.t.d.hi, .int .u64 X.t.d.lo, .int .i64 X.t.sp, .int .i64 X.t.dp, .int .i64 X.fl, .int .u32 X.sq, .int .u32 X.ak, .int .i64 X.wn, .int .i64 X.ty, .int .i64 X.cd, .bool X.er, .int .i64 X.inn.fam, .int .i64 X.inn.pr, .int .i64 X.inn.s.fam, .int .u64 X.inn.s.hi, .int .u64 X.inn.s.lo, .int .i64 X.inn.d.fam, .int .u64 X.inn.d.hi, .int .u64 X.inn.d.lo, .int .i64 X.inn.sp, .int .i64 X.inn.dp, .slice ax X.data.length cx] = W := ⟨_, rfl⟩
  rw [hW8] at b8
  have HW8 : Hid _ := hW8
  clear hW8 b7
  go_wp2_with (refine wpList_store_row rfl _ _ _ rfl W6.heap.size #[.int .i64 X.t.fam, .int .i64 X.t.pr, .int .i64 X.t.s.fam, .int .u64 X.t.s.hi, .int .u64 X.t.s.lo, .int .i64 X.t.d.fam, .int .u64 X.t.d.hi, .int .u64 X.t.d.lo, .int .i64 X.t.sp, .int .i64 X.t.dp, .int .i64 X.fl, .int .u32 X.sq, .int .u32 X.ak, .int .i64 X.wn, .int .i64 X.ty, .int .i64 X.cd, .bool X.er, .int .i64 X.inn.fam, .int .i64 X.inn.pr, .int .i64 X.inn.s.fam, .int .u64 X.inn.s.hi, .int .u64 X.inn.s.lo, .int .i64 X.inn.d.fam, .int .u64 X.inn.d.hi, .int .u64 X.inn.d.lo, .int .i64 X.inn.sp, .int .i64 X.inn.dp, .slice ax X.data.length cx] (by rfl) (by rfl) _ _ N7 (by kernel_rfl) (by rfl) (by kernel_rfl) ?_; rw [HW8.out])
  refine Calls.mono (KA.out _) ?_
  rintro e W9 ⟨rfl, bb⟩
  have b9 : Below w.heap.size w W9 := b8.trans (bb.mono b8.size)
  clear bb KA N7 HW8 hW7
  go_wp2
  go_ret
  exact ⟨rfl, b9⟩

theorem segTurned_walk (x : Sg) (a : Option Addr) (c : Nat) (y z : Int) (w : World) (ok : x.ok) (tk : x.t.ok) (lc : x.data.length ≤ c) (cm : c ≤ 140737488351232) (nl : a = none → c = 0) (h : Row w a x.data) (wy : (Lit.int .i64 y).wf = true) (wz : (Lit.int .u8 z).wf = true) :
    Calls Try.prog 7 #[.agg #[.int .i64 x.t.fam, .int .i64 x.t.pr, .int .i64 x.t.s.fam, .int .u64 x.t.s.hi, .int .u64 x.t.s.lo, .int .i64 x.t.d.fam, .int .u64 x.t.d.hi, .int .u64 x.t.d.lo, .int .i64 x.t.sp, .int .i64 x.t.dp, .int .i64 x.fl, .int .u32 x.sq, .int .u32 x.ak, .int .i64 x.wn, .int .i64 x.ty, .int .i64 x.cd, .bool x.er, .int .i64 x.inn.fam, .int .i64 x.inn.pr, .int .i64 x.inn.s.fam, .int .u64 x.inn.s.hi, .int .u64 x.inn.s.lo, .int .i64 x.inn.d.fam, .int .u64 x.inn.d.hi, .int .u64 x.inn.d.lo, .int .i64 x.inn.sp, .int .i64 x.inn.dp, .slice a x.data.length c], .int .i64 y, .int .u8 z] w fun e w' => e = .returned (.bool true) ∧ Below w.heap.size w w' := by
  cases hm : mayB x with
  | false => exact turned_no x a c y z w ok tk lc cm nl h wy wz hm
  | true =>
    by_cases hz : z = 0
    · exact turned_z x a c y z w ok tk lc cm nl h wy wz hm hz
    by_cases hn : x.data.length = 0
    · exact turned_e x a c y z w ok tk lc cm nl h wy wz hm hz hn
    · exact turned_y x a c y z w ok tk lc cm nl h wy wz hm hz hn

end Go.Proofs.Ytgdpcomcndidcaa

namespace Go.Proofs.Ytgdpcomcndidcaa.segTurned
open Go.ChangeShapes Go.WideShapes Go.ChangeAt Go.RowKit
open Go.ChangeMaps (open_string shut_string)
set_option linter.unusedVariables false

theorem own : ownKnob Try.prog.godebug = none := by kernel_rfl
theorem laidOut : laidOutB Try.prog = true := by kernel_rfl

set_option maxRecDepth 100000 in
theorem lifted (os : Os) (started : os.Started) (H : Type) (enc : TypeId × Value → H) :
    ReturnsInHanded {} Try.checked os 7 .any (Rows.segTurnedSpec.pre6 enc Try.prog Try.f7 Rows.segTurnedRow.domain false) (Rows.segTurnedSpec.post enc Try.prog Try.f7 false true false false) := by
  refine returnsInHanded_of_change_sized (C := Try.checked) own started (by kernel_rfl) Try.func7
    (ChangeSpec.witness6 (enc := enc) (C := Try.checked) false ⟨#[], #[.agg #[.int .i64 0, .int .i64 0, .int .i64 0, .int .u64 0, .int .u64 0, .int .i64 0, .int .u64 0, .int .u64 0, .int .i64 0, .int .i64 0, .int .i64 0, .int .u32 0, .int .u32 0, .int .i64 0, .int .i64 0, .int .i64 0, .bool false, .int .i64 0, .int .i64 0, .int .i64 0, .int .u64 0, .int .u64 0, .int .i64 0, .int .u64 0, .int .u64 0, .int .i64 0, .int .i64 0, .slice none 0 0], .int .i64 0, .int .u8 0], []⟩ 8 (by kernel_rfl) (by kernel_rfl) (by kernel_rfl) (by kernel_rfl)) ?_
  intro W base args ds gs before hval0 hW hcnd hsz0 _
  have hval : ∀ (j : Nat) t v, Try.f7.params[j]? = some t → args[j]? = some v → Value.okWide Try.prog W .any base t v := hval0
  have hW' := hW
  obtain ⟨p, q, hA0, hV, rfl, hfz, hnd⟩ := hW
  have hA : DataW.TrodAll enc Try.prog W 0 (fun _ => true) true Try.f7.params.toList args.toList ds p := hA0
  have hsz : (DataW.weightsEach Try.prog (Try.f7.params.toList ++ Rows.segTurnedSpec.plain.varTypes Try.prog) (ds ++ gs)).all (· ≤ reachBytes) = true := hsz0
  rw [Try.params7] at hA hval hsz
  obtain ⟨v0, vs0, d0, ds0, p0, q0, hargs, rfl, rfl, h0, r0⟩ := trodAll_cons hA
  obtain ⟨v1, vs1, d1, ds1, p1, q1, rfl, rfl, rfl, h1, r1⟩ := trodAll_cons r0
  obtain ⟨v2, vs2, d2, ds2, p2, q2, rfl, rfl, rfl, h2, r2⟩ := trodAll_cons r1
  obtain ⟨rfl, rfl, rfl⟩ := trodAll_nil r2
  obtain rfl : args = #[v0, v1, v2] := by cases args; simp_all
  obtain ⟨rfl, rfl⟩ := trodVars_none hV
  have lt0 : ∀ x ∈ p0, x.block < W.heap.size := by obtain ⟨m, hm⟩ := h0; exact DataW.trod_lt m _ _ _ hm
  have s0 : ∀ n ∈ d0.weights Try.prog 38, n ≤ reachBytes := fun n hn => by simpa using List.all_eq_true.1 hsz n (DataW.weights_mem_each (j := 0) (t := 38) rfl rfl n hn)
  obtain ⟨q0, da0, dc0, rfl, ok0, tk0, lc0, cm0, nl0, w0⟩ := open_seg (hval 0 38 v0 rfl rfl) h0 s0
  obtain ⟨x1, rfl, rfl, rfl, w1⟩ := open_int Try.underlying3 (hval 1 3 v1 rfl rfl) h1
  obtain ⟨x2, rfl, rfl, rfl, w2⟩ := open_int Try.underlying5 (hval 2 5 v2 rfl rfl) h2
  clear hA0 hval0 hsz0
  refine (segTurned_walk q0 da0 dc0 x1 x2 W ok0 tk0 lc0 cm0 nl0 w0 w1 w2).mono fun e W' ⟨he, bel⟩ => ?_
  subst he
  exact ⟨_, rfl, _, _, _, [], _, [], hW', trodAll_mk1 (shut_bool Try.underlying4 _), (trodAll_cons_mk (Below.trod laidOut (by kernel_rfl) (of_decide_eq_true (by kernel_rfl)) h0 bel lt0) (trodAll_cons_mk (shut_int Try.underlying3 w1) (trodAll_cons_mk (shut_int Try.underlying5 w2) trodAll_mk0))), rfl, bel.frame _, fun h => by cases h⟩

theorem over : Rows.segTurnedRow.holds Try.pinned (OpenSpec.ofChange Rows.segTurnedSpec) :=
  OpenClaim.holds_of_wide 7 Try.f7 rfl rfl rfl rfl rfl rfl rfl ⟨rfl, rfl, rfl, rfl, rfl⟩ rfl rfl rfl rfl rfl (by kernel_rfl) Try.func7 (by kernel_rfl)
    (of_decide_eq_true (by kernel_rfl)) (by unfold Func.isWrapper; first | (rw [if_pos (by decide +kernel)]; kernel_rfl) | (rw [if_neg (by decide +kernel)]; exact ⟨rfl, rfl⟩))
    (fun os started H enc _ => lifted os started H enc)
end Go.Proofs.Ytgdpcomcndidcaa.segTurned
namespace Go.Proofs.Ytgdpcomcndidcaa
theorem segTurned_holds : Rows.SegTurnedSaid := segTurned.over
end Go.Proofs.Ytgdpcomcndidcaa
