/- For every input the law SegBack returns true and leaves its arguments as they were. -/
import Derived.Test.YtgdpcomcndidcaaSgqG
import Derived.Test.YtgdpcomcndidcaaSgqF
import Derived.Test.YtgdpcomcndidcaaRows
import Derived.Test.YtgdpcomcndidcaaArgs
import Derived.WalkKit
import Derived.ProofKit
import Derived.OpenShut
import Derived.ShutString
import Derived.ChangeOld
import Derived.Below
import Derived.SizedLaws
namespace Go.Proofs.Ytgdpcomcndidcaa
open Go.RowKit
set_option linter.unusedVariables false
set_option linter.unusedSimpArgs false

set_option maxRecDepth 100000 in
set_option maxHeartbeats 4000000 in
theorem back_no (x : Sg) (a : Option Addr) (c : Nat)  (w : World) (ok : x.ok) (tk : x.t.ok) (lc : x.data.length ≤ c) (cm : c ≤ 140737488351232) (nl : a = none → c = 0) (h : Row w a x.data)  (hm : mayB x = false) :
    Calls Try.prog 6 #[.agg #[.int .i64 x.t.fam, .int .i64 x.t.pr, .int .i64 x.t.s.fam, .int .u64 x.t.s.hi, .int .u64 x.t.s.lo, .int .i64 x.t.d.fam, .int .u64 x.t.d.hi, .int .u64 x.t.d.lo, .int .i64 x.t.sp, .int .i64 x.t.dp, .int .i64 x.fl, .int .u32 x.sq, .int .u32 x.ak, .int .i64 x.wn, .int .i64 x.ty, .int .i64 x.cd, .bool x.er, .int .i64 x.inn.fam, .int .i64 x.inn.pr, .int .i64 x.inn.s.fam, .int .u64 x.inn.s.hi, .int .u64 x.inn.s.lo, .int .i64 x.inn.d.fam, .int .u64 x.inn.d.hi, .int .u64 x.inn.d.lo, .int .i64 x.inn.sp, .int .i64 x.inn.dp, .slice a x.data.length c]] w fun e w' => e = .returned (.bool true) ∧ Below w.heap.size w w' := by
  obtain ⟨W1, hW1⟩ : ∃ W1, w.alloc (.cells #[.int .i64 x.t.fam, .int .i64 x.t.pr, .int .i64 x.t.s.fam, .int .u64 x.t.s.hi, .int .u64 x.t.s.lo, .int .i64 x.t.d.fam, .int .u64 x.t.d.hi, .int .u64 x.t.d.lo, .int .i64 x.t.sp, .int .i64 x.t.dp, .int .i64 x.fl, .int .u32 x.sq, .int .u32 x.ak, .int .i64 x.wn, .int .i64 x.ty, .int .i64 x.cd, .bool x.er, .int .i64 x.inn.fam, .int .i64 x.inn.pr, .int .i64 x.inn.s.fam, .int .u64 x.inn.s.hi, .int .u64 x.inn.s.lo, .int .i64 x.inn.d.fam, .int .u64 x.inn.d.hi, .int .u64 x.inn.d.lo, .int .i64 x.inn.sp, .int .i64 x.inn.dp, .slice a x.data.length c] 38) = W1 := ⟨_, rfl⟩
  have b1 : Below w.heap.size w W1 := by rw [← hW1]; exact (Below.refl _ _).alloc (Nat.le_refl _) _
  have B1 : Blk W1 w.heap.size 38 #[.int .i64 x.t.fam, .int .i64 x.t.pr, .int .i64 x.t.s.fam, .int .u64 x.t.s.hi, .int .u64 x.t.s.lo, .int .i64 x.t.d.fam, .int .u64 x.t.d.hi, .int .u64 x.t.d.lo, .int .i64 x.t.sp, .int .i64 x.t.dp, .int .i64 x.fl, .int .u32 x.sq, .int .u32 x.ak, .int .i64 x.wn, .int .i64 x.ty, .int .i64 x.cd, .bool x.er, .int .i64 x.inn.fam, .int .i64 x.inn.pr, .int .i64 x.inn.s.fam, .int .u64 x.inn.s.hi, .int .u64 x.inn.s.lo, .int .i64 x.inn.d.fam, .int .u64 x.inn.d.hi, .int .u64 x.inn.d.lo, .int .i64 x.inn.sp, .int .i64 x.inn.dp, .slice a x.data.length c] := by rw [← hW1]; exact blk_new _ _ _
  have r1 := h.below b1
  have KA : Hid _ := segAlive_any
  have KB : Hid (Calls Try.prog 19 #[.agg #[.int .i64 x.t.fam, .int .i64 x.t.pr, .int .i64 x.t.s.fam, .int .u64 x.t.s.hi, .int .u64 x.t.s.lo, .int .i64 x.t.d.fam, .int .u64 x.t.d.hi, .int .u64 x.t.d.lo, .int .i64 x.t.sp, .int .i64 x.t.dp, .int .i64 x.fl, .int .u32 x.sq, .int .u32 x.ak, .int .i64 x.wn, .int .i64 x.ty, .int .i64 x.cd, .bool x.er, .int .i64 x.inn.fam, .int .i64 x.inn.pr, .int .i64 x.inn.s.fam, .int .u64 x.inn.s.hi, .int .u64 x.inn.s.lo, .int .i64 x.inn.d.fam, .int .u64 x.inn.d.hi, .int .u64 x.inn.d.lo, .int .i64 x.inn.sp, .int .i64 x.inn.dp, .slice a x.data.length c]] W1 fun e w' => ∃ a' c', e = .returned (.tuple #[.slice a' 0 c', .int .i64 1]) ∧ Fresh W1 w' a' c' []) := by
    have := build_any x a c W1 r1 nl ok
    rw [hm] at this
    exact this
  go_enter Try.func6, Try.ntmps6
  go_wp2_with (refine wpList_load_row rfl _ _ rfl w.heap.size (by rfl) _ _ _ _ B1 Try.underlying38 rfl (by kernel_rfl) ?_)
  refine Calls.mono KB.out ?_
  rintro e W2 ⟨a2, c2, rfl, f2⟩
  have b2 : Below w.heap.size w W2 := b1.trans (f2.below.mono b1.size)
  have B2 := B1.kept f2.below
  have r2 := f2.row
  have n2 := f2.nil
  have m2 := f2.room
  have o2 := f2.owns.cap_le
  have O2 := owns_le (B' := W1.heap.size) (Nat.le_refl _) f2.owns
  clear KB f2 hW1
  have t1 := B2.cell 1 (.int .i64 x.t.pr) rfl
  go_wp2_with fail
  refine Calls.mono (KA.out _) ?_
  rintro e W3 ⟨rfl, bb⟩
  have b3 : Below w.heap.size w W3 := b2.trans (bb.mono b2.size)
  clear bb KA
  go_wp2
  go_ret
  exact ⟨rfl, b3⟩

set_option maxRecDepth 100000 in
set_option maxHeartbeats 4000000 in
theorem back_yes (x : Sg) (a : Option Addr) (c : Nat)  (w : World) (ok : x.ok) (tk : x.t.ok) (lc : x.data.length ≤ c) (cm : c ≤ 140737488351232) (nl : a = none → c = 0) (h : Row w a x.data)  (hm : mayB x = true) :
    Calls Try.prog 6 #[.agg #[.int .i64 x.t.fam, .int .i64 x.t.pr, .int .i64 x.t.s.fam, .int .u64 x.t.s.hi, .int .u64 x.t.s.lo, .int .i64 x.t.d.fam, .int .u64 x.t.d.hi, .int .u64 x.t.d.lo, .int .i64 x.t.sp, .int .i64 x.t.dp, .int .i64 x.fl, .int .u32 x.sq, .int .u32 x.ak, .int .i64 x.wn, .int .i64 x.ty, .int .i64 x.cd, .bool x.er, .int .i64 x.inn.fam, .int .i64 x.inn.pr, .int .i64 x.inn.s.fam, .int .u64 x.inn.s.hi, .int .u64 x.inn.s.lo, .int .i64 x.inn.d.fam, .int .u64 x.inn.d.hi, .int .u64 x.inn.d.lo, .int .i64 x.inn.sp, .int .i64 x.inn.dp, .slice a x.data.length c]] w fun e w' => e = .returned (.bool true) ∧ Below w.heap.size w w' := by
  obtain ⟨W1, hW1⟩ : ∃ W1, w.alloc (.cells #[.int .i64 x.t.fam, .int .i64 x.t.pr, .int .i64 x.t.s.fam, .int .u64 x.t.s.hi, .int .u64 x.t.s.lo, .int .i64 x.t.d.fam, .int .u64 x.t.d.hi, .int .u64 x.t.d.lo, .int .i64 x.t.sp, .int .i64 x.t.dp, .int .i64 x.fl, .int .u32 x.sq, .int .u32 x.ak, .int .i64 x.wn, .int .i64 x.ty, .int .i64 x.cd, .bool x.er, .int .i64 x.inn.fam, .int .i64 x.inn.pr, .int .i64 x.inn.s.fam, .int .u64 x.inn.s.hi, .int .u64 x.inn.s.lo, .int .i64 x.inn.d.fam, .int .u64 x.inn.d.hi, .int .u64 x.inn.d.lo, .int .i64 x.inn.sp, .int .i64 x.inn.dp, .slice a x.data.length c] 38) = W1 := ⟨_, rfl⟩
  have b1 : Below w.heap.size w W1 := by rw [← hW1]; exact (Below.refl _ _).alloc (Nat.le_refl _) _
  have B1 : Blk W1 w.heap.size 38 #[.int .i64 x.t.fam, .int .i64 x.t.pr, .int .i64 x.t.s.fam, .int .u64 x.t.s.hi, .int .u64 x.t.s.lo, .int .i64 x.t.d.fam, .int .u64 x.t.d.hi, .int .u64 x.t.d.lo, .int .i64 x.t.sp, .int .i64 x.t.dp, .int .i64 x.fl, .int .u32 x.sq, .int .u32 x.ak, .int .i64 x.wn, .int .i64 x.ty, .int .i64 x.cd, .bool x.er, .int .i64 x.inn.fam, .int .i64 x.inn.pr, .int .i64 x.inn.s.fam, .int .u64 x.inn.s.hi, .int .u64 x.inn.s.lo, .int .i64 x.inn.d.fam, .int .u64 x.inn.d.hi, .int .u64 x.inn.d.lo, .int .i64 x.inn.sp, .int .i64 x.inn.dp, .slice a x.data.length c] := by rw [← hW1]; exact blk_new _ _ _
  have r1 := h.below b1
  have KA : Hid _ := segAlive_any
  obtain ⟨L, hL⟩ : ∃ L, madeB x = L := ⟨_, rfl⟩
  have KB : Hid (Calls Try.prog 19 #[.agg #[.int .i64 x.t.fam, .int .i64 x.t.pr, .int .i64 x.t.s.fam, .int .u64 x.t.s.hi, .int .u64 x.t.s.lo, .int .i64 x.t.d.fam, .int .u64 x.t.d.hi, .int .u64 x.t.d.lo, .int .i64 x.t.sp, .int .i64 x.t.dp, .int .i64 x.fl, .int .u32 x.sq, .int .u32 x.ak, .int .i64 x.wn, .int .i64 x.ty, .int .i64 x.cd, .bool x.er, .int .i64 x.inn.fam, .int .i64 x.inn.pr, .int .i64 x.inn.s.fam, .int .u64 x.inn.s.hi, .int .u64 x.inn.s.lo, .int .i64 x.inn.d.fam, .int .u64 x.inn.d.hi, .int .u64 x.inn.d.lo, .int .i64 x.inn.sp, .int .i64 x.inn.dp, .slice a x.data.length c]] W1 fun e w' => ∃ a' c', e = .returned (.tuple #[.slice a' L.length c', .int .i64 0]) ∧ Fresh W1 w' a' c' L) := by
    have := build_any x a c W1 r1 nl ok
    rw [hm, if_pos rfl, if_pos rfl, hL] at this
    exact this
  have m := may5 hm
  have hd : M.Bytes x.data := h.bytes
  have lL : L.length ≤ 65535 := by
    have := m.len
    have h2 := (headB_len x).2
    rw [← hL, madeB_len]
    unfold bodyB
    rw [List.length_append]
    omega
  obtain ⟨E, hE⟩ : ∃ E, segE x.t.fam x.t.pr x.t.s x.t.d L = E := ⟨_, rfl⟩
  obtain ⟨X, hX⟩ : ∃ X, segX x.t.fam x.t.pr x.t.s x.t.d L = X := ⟨_, rfl⟩
  have HEX : Hid (Pl x → x.er = false → x.inn = zTp → E = 0 ∧ X = x) := fun p he hi => by
    have := back_EX ok hd m p he hi
    rw [hL, hE, hX] at this
    exact this
  have HLL : Hid (segE x.t.fam x.t.pr x.t.s x.t.d L = E ∧ segX x.t.fam x.t.pr x.t.s x.t.d L = X) := ⟨hE, hX⟩
  have KL : Hid _ := plain_any x a c
  clear hL hE hX m hd
  go_enter Try.func6, Try.ntmps6
  go_wp2_with (refine wpList_load_row rfl _ _ rfl w.heap.size (by rfl) _ _ _ _ B1 Try.underlying38 rfl (by kernel_rfl) ?_)
  refine Calls.mono KB.out ?_
  rintro e W2 ⟨a2, c2, rfl, f2⟩
  have b2 : Below w.heap.size w W2 := b1.trans (f2.below.mono b1.size)
  have B2 := B1.kept f2.below
  have r2 := f2.row
  have n2 := f2.nil
  have m2 := f2.room
  have o2 := f2.owns.cap_le
  have O2 := owns_le (B' := W1.heap.size) (Nat.le_refl _) f2.owns
  clear KB f2 hW1
  have t1 := B2.cell 1 (.int .i64 x.t.pr) rfl
  have KQ : Hid (∀ W, Calls Try.prog 21 #[.agg #[.int .i64 x.t.fam, .int .i64 x.t.pr, .int .i64 x.t.s.fam, .int .u64 x.t.s.hi, .int .u64 x.t.s.lo, .int .i64 x.t.d.fam, .int .u64 x.t.d.hi, .int .u64 x.t.d.lo, .int .i64 x.t.sp, .int .i64 x.t.dp, .int .i64 x.fl, .int .u32 x.sq, .int .u32 x.ak, .int .i64 x.wn, .int .i64 x.ty, .int .i64 x.cd, .bool x.er, .int .i64 x.inn.fam, .int .i64 x.inn.pr, .int .i64 x.inn.s.fam, .int .u64 x.inn.s.hi, .int .u64 x.inn.s.lo, .int .i64 x.inn.d.fam, .int .u64 x.inn.d.hi, .int .u64 x.inn.d.lo, .int .i64 x.inn.sp, .int .i64 x.inn.dp, .slice a x.data.length c], .slice a2 L.length c2] W fun e w' => e = .returned (.agg #[.int .i64 x.t.fam, .int .i64 x.t.s.fam, .int .u64 x.t.s.hi, .int .u64 x.t.s.lo, .int .i64 x.t.d.fam, .int .u64 x.t.d.hi, .int .u64 x.t.d.lo, .int .i64 x.t.pr, .int .i64 1, .bool false, .int .u32 0, .int .i64 0, .bool false, .slice none 0 0, .slice a2 L.length c2]) ∧ Below W.heap.size W w') := fun W => packet_any x a c a2 L.length c2 W
  have KR : Hid (∀ W, Row W a2 L → Calls Try.prog 16 #[.agg #[.int .i64 x.t.fam, .int .i64 x.t.s.fam, .int .u64 x.t.s.hi, .int .u64 x.t.s.lo, .int .i64 x.t.d.fam, .int .u64 x.t.d.hi, .int .u64 x.t.d.lo, .int .i64 x.t.pr, .int .i64 1, .bool false, .int .u32 0, .int .i64 0, .bool false, .slice none 0 0, .slice a2 L.length c2]] W fun e w' => ∃ ax cx, e = .returned (.tuple #[.agg #[.int .i64 X.t.fam, .int .i64 X.t.pr, .int .i64 X.t.s.fam, .int .u64 X.t.s.hi, .int .u64 X.t.s.lo, .int .i64 X.t.d.fam, .int .u64 X.t.d.hi, .int .u64 X.t.d.lo, .int .i64 X.t.sp, .int .i64 X.t.dp, .int .i64 X.fl, .int .u32 X.sq, .int .u32 X.ak, .int .i64 X.wn, .int .i64 X.ty, .int .i64 X.cd, .bool X.er, .int .i64 X.inn.fam, .int .i64 X.inn.pr, .int .i64 X.inn.s.fam, .int .u64 X.inn.s.hi, .int .u64 X.inn.s.lo, .int .i64 X.inn.d.fam, .int .u64 X.inn.d.hi, .int .u64 X.inn.d.lo, .int .i64 X.inn.sp, .int .i64 X.inn.dp, .slice ax X.data.length cx], .int .i64 E]) ∧ Fresh W w' ax cx X.data) := fun W hW => by
    have := segParse_any x.t.fam x.t.s.fam x.t.s.hi x.t.s.lo x.t.d.fam x.t.d.hi x.t.d.lo x.t.pr 1 false 0 0 false none 0 0 a2 c2 L W hW n2 m2 o2 (by omega) ok.s ok.d
    rw [show segE x.t.fam x.t.pr ⟨x.t.s.fam, x.t.s.hi, x.t.s.lo⟩ ⟨x.t.d.fam, x.t.d.hi, x.t.d.lo⟩ L = E from HLL.out.1, show segX x.t.fam x.t.pr ⟨x.t.s.fam, x.t.s.hi, x.t.s.lo⟩ ⟨x.t.d.fam, x.t.d.hi, x.t.d.lo⟩ L = X from HLL.out.2] at this
    exact this
  clear HLL O2 B1 b1 t1
  go_wp2_with (refine wpList_load_row rfl _ _ rfl w.heap.size (by rfl) _ _ _ _ B2 Try.underlying38 rfl (by kernel_rfl) ?_)
  refine Calls.mono (KQ.out _) ?_
  rintro e W3 ⟨rfl, bb⟩
  have b3 : Below w.heap.size w W3 := b2.trans (bb.mono b2.size)
  have B3 := B2.kept bb
  have r3 := r2.below bb
  clear KQ bb B2 b2 r2
  go_wp2_with fail
  refine Calls.mono (KR.out _ r3) ?_
  rintro e W4 ⟨ax, cx, rfl, f4⟩
  have b4 : Below w.heap.size w W4 := b3.trans (f4.below.mono b3.size)
  have B4 := B3.kept f4.below
  have q4 := f4.row
  clear KR f4 b3 r3 B3
  obtain ⟨W5, hW5⟩ : ∃ W, W4.alloc (.cells #[.int .i64 0, .int .i64 0, .int .i64 0, .int .u64 0, .int .u64 0, .int .i64 0, .int .u64 0, .int .u64 0, .int .i64 0, .int .i64 0, .int .i64 0, .int .u32 0, .int .u32 0, .int .i64 0, .int .i64 0, .int .i64 0, .bool false, .int .i64 0, .int .i64 0, .int .i64 0, .int .u64 0, .int .u64 0, .int .i64 0, .int .u64 0, .int .u64 0, .int .i64 0, .int .i64 0, .slice none 0 0] 38) = W := ⟨_, rfl⟩
  have N5 : Blk W5 W4.heap.size 38 #[.int .i64 0, .int .i64 0, .int .i64 0, .int .u64 0, .int .u64 0, .int .i64 0, .int .u64 0, .int .u64 0, .int .i64 0, .int .i64 0, .int .i64 0, .int .u32 0, .int .u32 0, .int .i64 0, .int .i64 0, .int .i64 0, .bool false, .int .i64 0, .int .i64 0, .int .i64 0, .int .u64 0, .int .u64 0, .int .i64 0, .int .u64 0, .int .u64 0, .int .i64 0, .int .i64 0, .slice none 0 0] := by rw [← hW5]; exact blk_new _ _ _
  have b5 : Below w.heap.size w W5 := by rw [← hW5]; exact b4.alloc b4.size _
  have g4 : w.heap.size < W4.heap.size := B4.lt
  have b45 : Below W4.heap.size W4 (W5.setRow W4.heap.size #[.int .i64 X.t.fam, .int .i64 X.t.pr, .int .i64 X.t.s.fam, .int .u64 X.t.s.hi, .int .u64 X.t.s.lo, .int .i64 X.t.d.fam, .int .u64 X.t.d.hi, .int .u64 X.t.d.lo, .int .i64 X.t.sp, .int .i64 X.t.dp, .int .i64 X.fl, .int .u32 X.sq, .int .u32 X.ak, .int .i64 X.wn, .int .i64 X.ty, .int .i64 X.cd, .bool X.er, .int .i64 X.inn.fam, .int .i64 X.inn.pr, .int .i64 X.inn.s.fam, .int .u64 X.inn.s.hi, .int .u64 X.inn.s.lo, .int .i64 X.inn.d.fam, .int .u64 X.inn.d.hi, .int .u64 X.inn.d.lo, .int .i64 X.inn.sp, .int .i64 X.inn.dp, .slice ax X.data.length cx]) := by
    rw [← hW5]
    exact below_setRow ((Below.refl _ _).alloc (Nat.le_refl _) _) (Nat.le_refl _) _
  have b6 := b4.trans (b45.mono b4.size)
  have B6 := B4.kept b45
  have q6 := q4.below b45
  have N6 := N5.set #[.int .i64 X.t.fam, .int .i64 X.t.pr, .int .i64 X.t.s.fam, .int .u64 X.t.s.hi, .int .u64 X.t.s.lo, .int .i64 X.t.d.fam, .int .u64 X.t.d.hi, .int .u64 X.t.d.lo, .int .i64 X.t.sp, .int .i64 X.t.dp, .int .i64 X.fl, .int .u32 X.sq, .int .u32 X.ak, .int .i64 X.wn, .int .i64 X.ty, .int .i64 X.cd, .bool X.er, .int .i64 X.inn.fam, .int .i64 X.inn.pr, .int .i64 X.inn.s.fam, .int .u64 X.inn.s.hi, .int .u64 X.inn.s.lo, .int .i64 X.inn.d.fam, .int .u64 X.inn.d.hi, .int .u64 X.inn.d.lo, .int .i64 X.inn.sp, .int .i64 X.inn.dp, .slice ax X.data.length cx]
  obtain ⟨W6, hW6⟩ : ∃ W, W5.setRow W4.heap.size #[.int .i64 X.t.fam, .int .i64 X.t.pr, .int .i64 X.t.s.fam, .int .u64 X.t.s.hi, .int .u64 X.t.s.lo, .int .i64 X.t.d.fam, .int .u64 X.t.d.hi, .int .u64 X.t.d.lo, .int .i64 X.t.sp, .int .i64 X.t.dp, .int .i64 X.fl, .int .u32 X.sq, .int .u32 X.ak, .int .i64 X.wn, .int .i64 X.ty, .int .i64 X.cd, .bool X.er, .int .i64 X.inn.fam, .int .i64 X.inn.pr, .int .i64 X.inn.s.fam, .int .u64 X.inn.s.hi, .int .u64 X.inn.s.lo, .int .i64 X.inn.d.fam, .int .u64 X.inn.d.hi, .int .u64 X.inn.d.lo, .int .i64 X.inn.sp, .int .i64 X.inn.dp, .slice ax X.data.length cx] = W := ⟨_, rfl⟩
  rw [hW6] at b6 B6 q6 N6
  have HW6 : Hid _ := hW6
  clear hW6 b45 b4 B4 q4 b5
  go_wp2_with (first
    | (refine wpList_store_row rfl _ _ _ rfl W4.heap.size #[.int .i64 X.t.fam, .int .i64 X.t.pr, .int .i64 X.t.s.fam, .int .u64 X.t.s.hi, .int .u64 X.t.s.lo, .int .i64 X.t.d.fam, .int .u64 X.t.d.hi, .int .u64 X.t.d.lo, .int .i64 X.t.sp, .int .i64 X.t.dp, .int .i64 X.fl, .int .u32 X.sq, .int .u32 X.ak, .int .i64 X.wn, .int .i64 X.ty, .int .i64 X.cd, .bool X.er, .int .i64 X.inn.fam, .int .i64 X.inn.pr, .int .i64 X.inn.s.fam, .int .u64 X.inn.s.hi, .int .u64 X.inn.s.lo, .int .i64 X.inn.d.fam, .int .u64 X.inn.d.hi, .int .u64 X.inn.d.lo, .int .i64 X.inn.sp, .int .i64 X.inn.dp, .slice ax X.data.length cx] (by rfl) (by rfl) _ _ N5 (by kernel_rfl) (by rfl) (by kernel_rfl) ?_; rw [HW6.out])
    | (refine wpList_load_row rfl _ _ rfl w.heap.size (by rfl) _ _ _ _ B6 Try.underlying38 rfl (by kernel_rfl) ?_))
  refine Calls.mono (KL.out _) ?_
  rintro e W7 ⟨R, rfl, hR, bb⟩
  have HR : Hid (R = true → Pl x) := hR
  have b7 : Below w.heap.size w W7 := b6.trans (bb.mono b6.size)
  have B7 := B6.kept bb
  have N7 := N6.kept bb
  have q7 := q6.below bb
  clear KL bb B6 N6 q6 b6 N5 HW6 hW5 hR
  have d16 := B7.cell 16 (.bool x.er) rfl
  cases R with
  | false =>
    go_wp2_with fail
    refine Calls.mono (KA.out _) ?_
    rintro e W8 ⟨rfl, bb⟩
    have b8 : Below w.heap.size w W8 := b7.trans (bb.mono b7.size)
    clear bb KA
    go_wp2
    go_ret
    exact ⟨rfl, b8⟩
  | true =>
    have hP : Pl x := HR.out rfl
    have HP : Hid (Pl x) := hP
    clear hP HR
    obtain ⟨er, her⟩ : ∃ b, x.er = b := ⟨_, rfl⟩
    have HER : Hid (x.er = er) := her
    rw [her] at d16
    cases er with
    | true =>
      clear her
      go_wp2_with fail
      refine Calls.mono (KA.out _) ?_
      rintro e W8 ⟨rfl, bb⟩
      have b8 : Below w.heap.size w W8 := b7.trans (bb.mono b7.size)
      clear bb KA
      go_wp2
      go_ret
      exact ⟨rfl, b8⟩
    | false =>
      clear her
      obtain ⟨NB, hNB⟩ : ∃ b, (!(x.inn.fam == 0 && (x.inn.pr == 0 && ((x.inn.s.fam == 0 && (x.inn.s.hi == 0 && x.inn.s.lo == 0)) && ((x.inn.d.fam == 0 && (x.inn.d.hi == 0 && x.inn.d.lo == 0)) && (x.inn.sp == 0 && x.inn.dp == 0)))))) = b := ⟨_, rfl⟩
      have hneq := neq_zero x.inn W7
      rw [hNB] at hneq
      have HZ : Hid (NB = false → x.inn = zTp) := fun e => zero_of x.inn (by rw [hNB]; exact e)
      have hbz : (Instr.build 26 #[]).run Try.prog W7 = .ok (.agg zT10) W7 := by kernel_rfl
      clear hNB
      cases NB with
      | true =>
        go_wp2_with (first
          | (refine wpList_load_sub_w (by kernel_rfl) _ _ rfl w.heap.size 17 38 (by rfl) _ (tpv x.inn) B7 (by rfl) Try.underlying26 (by kernel_rfl) ?_)
          | (refine wpList_neq_w (by kernel_rfl) _ _ rfl _ _ (by rfl) (by rfl) true hneq ?_))
        refine Calls.mono (KA.out _) ?_
        rintro e W8 ⟨rfl, bb⟩
        have b8 : Below w.heap.size w W8 := b7.trans (bb.mono b7.size)
        clear bb KA
        go_wp2
        go_ret
        exact ⟨rfl, b8⟩
      | false =>
        obtain ⟨hE0, hXx⟩ := HEX.out HP.out HER.out (HZ.out rfl)
        subst hE0
        subst hXx
        clear HZ HEX HP HER
        have KS : Hid _ := same_seg X ax a cx c W7 q7 (h.below b7)
        go_wp2_with (first
          | (refine wpList_load_sub_w (by kernel_rfl) _ _ rfl w.heap.size 17 38 (by rfl) _ (tpv X.inn) B7 (by rfl) Try.underlying26 (by kernel_rfl) ?_)
          | (refine wpList_neq_w (by kernel_rfl) _ _ rfl _ _ (by rfl) (by rfl) false hneq ?_)
          | (refine wpList_load_blk_w (by kernel_rfl) _ _ rfl W4.heap.size (by rfl) _ N7 Try.underlying38 (by kernel_rfl) ?_)
          | (refine wpList_load_blk_w (by kernel_rfl) _ _ rfl w.heap.size (by rfl) _ B7 Try.underlying38 (by kernel_rfl) ?_))
        refine Calls.mono KS.out ?_
        rintro e W8 ⟨rfl, bb⟩
        have b8 : Below w.heap.size w W8 := b7.trans (bb.mono b7.size)
        clear bb KS B7 N7 q7 b7 hneq hbz d16
        go_wp2_with fail
        refine Calls.mono (KA.out _) ?_
        rintro e W9 ⟨rfl, bb⟩
        have b9 : Below w.heap.size w W9 := b8.trans (bb.mono b8.size)
        clear bb KA
        go_wp2
        go_ret
        exact ⟨rfl, b9⟩

theorem segBack_walk (x : Sg) (a : Option Addr) (c : Nat)  (w : World) (ok : x.ok) (tk : x.t.ok) (lc : x.data.length ≤ c) (cm : c ≤ 140737488351232) (nl : a = none → c = 0) (h : Row w a x.data)  :
    Calls Try.prog 6 #[.agg #[.int .i64 x.t.fam, .int .i64 x.t.pr, .int .i64 x.t.s.fam, .int .u64 x.t.s.hi, .int .u64 x.t.s.lo, .int .i64 x.t.d.fam, .int .u64 x.t.d.hi, .int .u64 x.t.d.lo, .int .i64 x.t.sp, .int .i64 x.t.dp, .int .i64 x.fl, .int .u32 x.sq, .int .u32 x.ak, .int .i64 x.wn, .int .i64 x.ty, .int .i64 x.cd, .bool x.er, .int .i64 x.inn.fam, .int .i64 x.inn.pr, .int .i64 x.inn.s.fam, .int .u64 x.inn.s.hi, .int .u64 x.inn.s.lo, .int .i64 x.inn.d.fam, .int .u64 x.inn.d.hi, .int .u64 x.inn.d.lo, .int .i64 x.inn.sp, .int .i64 x.inn.dp, .slice a x.data.length c]] w fun e w' => e = .returned (.bool true) ∧ Below w.heap.size w w' := by
  cases hm : mayB x with
  | false => exact back_no x a c w ok tk lc cm nl h hm
  | true => exact back_yes x a c w ok tk lc cm nl h hm

end Go.Proofs.Ytgdpcomcndidcaa

namespace Go.Proofs.Ytgdpcomcndidcaa.segBack
open Go.ChangeShapes Go.WideShapes Go.ChangeAt Go.RowKit
open Go.ChangeMaps (open_string shut_string)
set_option linter.unusedVariables false

theorem own : ownKnob Try.prog.godebug = none := by kernel_rfl
theorem laidOut : laidOutB Try.prog = true := by kernel_rfl

set_option maxRecDepth 100000 in
theorem lifted (os : Os) (started : os.Started) (H : Type) (enc : TypeId × Value → H) :
    ReturnsInHanded {} Try.checked os 6 .any (Rows.segBackSpec.pre6 enc Try.prog Try.f6 Rows.segBackRow.domain false) (Rows.segBackSpec.post enc Try.prog Try.f6 false true false false) := by
  refine returnsInHanded_of_change_sized (C := Try.checked) own started (by kernel_rfl) Try.func6
    (ChangeSpec.witness6 (enc := enc) (C := Try.checked) false ⟨#[], #[.agg #[.int .i64 0, .int .i64 0, .int .i64 0, .int .u64 0, .int .u64 0, .int .i64 0, .int .u64 0, .int .u64 0, .int .i64 0, .int .i64 0, .int .i64 0, .int .u32 0, .int .u32 0, .int .i64 0, .int .i64 0, .int .i64 0, .bool false, .int .i64 0, .int .i64 0, .int .i64 0, .int .u64 0, .int .u64 0, .int .i64 0, .int .u64 0, .int .u64 0, .int .i64 0, .int .i64 0, .slice none 0 0]], []⟩ 8 (by kernel_rfl) (by kernel_rfl) (by kernel_rfl) (by kernel_rfl)) ?_
  intro W base args ds gs before hval0 hW hcnd hsz0 _
  have hval : ∀ (j : Nat) t v, Try.f6.params[j]? = some t → args[j]? = some v → Value.okWide Try.prog W .any base t v := hval0
  have hW' := hW
  obtain ⟨p, q, hA0, hV, rfl, hfz, hnd⟩ := hW
  have hA : DataW.TrodAll enc Try.prog W 0 (fun _ => true) true Try.f6.params.toList args.toList ds p := hA0
  have hsz : (DataW.weightsEach Try.prog (Try.f6.params.toList ++ Rows.segBackSpec.plain.varTypes Try.prog) (ds ++ gs)).all (· ≤ reachBytes) = true := hsz0
  rw [Try.params6] at hA hval hsz
  obtain ⟨v0, vs0, d0, ds0, p0, q0, hargs, rfl, rfl, h0, r0⟩ := trodAll_cons hA
  obtain ⟨rfl, rfl, rfl⟩ := trodAll_nil r0
  obtain rfl : args = #[v0] := by cases args; simp_all
  obtain ⟨rfl, rfl⟩ := trodVars_none hV
  have lt0 : ∀ x ∈ p0, x.block < W.heap.size := by obtain ⟨m, hm⟩ := h0; exact DataW.trod_lt m _ _ _ hm
  have s0 : ∀ n ∈ d0.weights Try.prog 38, n ≤ reachBytes := fun n hn => by simpa using List.all_eq_true.1 hsz n (DataW.weights_mem_each (j := 0) (t := 38) rfl rfl n hn)
  obtain ⟨q0, da0, dc0, rfl, ok0, tk0, lc0, cm0, nl0, w0⟩ := open_seg (hval 0 38 v0 rfl rfl) h0 s0
  clear hA0 hval0 hsz0
  refine (segBack_walk q0 da0 dc0 W ok0 tk0 lc0 cm0 nl0 w0).mono fun e W' ⟨he, bel⟩ => ?_
  subst he
  exact ⟨_, rfl, _, _, _, [], _, [], hW', trodAll_mk1 (shut_bool Try.underlying4 _), (trodAll_cons_mk (Below.trod laidOut (by kernel_rfl) (of_decide_eq_true (by kernel_rfl)) h0 bel lt0) trodAll_mk0), rfl, bel.frame _, fun h => by cases h⟩

theorem over : Rows.segBackRow.holds Try.pinned (OpenSpec.ofChange Rows.segBackSpec) :=
  OpenClaim.holds_of_wide 6 Try.f6 rfl rfl rfl rfl rfl rfl rfl ⟨rfl, rfl, rfl, rfl, rfl⟩ rfl rfl rfl rfl rfl (by kernel_rfl) Try.func6 (by kernel_rfl)
    (of_decide_eq_true (by kernel_rfl)) (by unfold Func.isWrapper; first | (rw [if_pos (by decide +kernel)]; kernel_rfl) | (rw [if_neg (by decide +kernel)]; exact ⟨rfl, rfl⟩))
    (fun os started H enc _ => lifted os started H enc)
end Go.Proofs.Ytgdpcomcndidcaa.segBack
namespace Go.Proofs.Ytgdpcomcndidcaa
theorem segBack_holds : Rows.SegBackSaid := segBack.over
end Go.Proofs.Ytgdpcomcndidcaa
