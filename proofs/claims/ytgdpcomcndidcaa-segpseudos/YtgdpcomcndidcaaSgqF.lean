/- Segments: Build, a small one, plain facts, arguments. -/
import Derived.Test.YtgdpcomcndidcaaSgqE
import Derived.Test.YtgdpcomcndidcaaArg3
namespace Go.Proofs.Ytgdpcomcndidcaa
open Go.RowKit
set_option linter.unusedVariables false
set_option linter.unusedSimpArgs false

def bodyB (x : Sg) : List Int := headB x ++ x.data
def sumB (x : Sg) : Int := 65535 - M.sumOf [ahead x.t.s x.t.d x.t.pr (bodyB x).length, bodyB x]
def checkB (x : Sg) : Int := if sumB x = 0 ∧ x.t.pr = 17 then 65535 else sumB x
def madeB (x : Sg) : List Int := ((bodyB x).set (placeB x) (checkB x / 256)).set (placeB x + 1) (checkB x % 256)
theorem headB_len (x : Sg) : placeB x + 2 ≤ (headB x).length ∧ (headB x).length ≤ 20 := by
  unfold placeB headB
  split
  · simp [portB, put16, put32]
  · split <;> simp [portB, put16]
theorem sumB_bd (x : Sg) : 0 ≤ sumB x ∧ sumB x ≤ 65535 := by
  unfold sumB M.sumOf
  have := M.nf_bd (M.raw true [ahead x.t.s x.t.d x.t.pr (bodyB x).length, bodyB x].flatten)
  omega
theorem checkB_bd (x : Sg) : 0 ≤ checkB x ∧ checkB x ≤ 65535 := by
  unfold checkB
  split
  · omega
  · exact sumB_bd x
/-- A whole struct out of its block, where a guard asks for it. -/
theorem wpList_load_blk_w {ops : Array Oper} {rest : List Oper} {o : Oper} {ac : Act} {w : World} {Q : Exit → Act → World → Prop} (hw : Region.wanted o (yielded ops ac.tmps) = true) (ty : TypeId) (x : Operand) (ho : o.op = .load ty x)
    (g : Nat) (hx : ac.eval x = .pointer (some ⟨g, 0, none⟩)) (cs : Array Value) (hg : Blk w g ty cs) {fs : _} (hu : Try.prog.underlying ty = some (.struct fs)) (hi : (Try.prog.info? ty).map (·.size) = some cs.size)
    (h : wpList Try.prog ops Q rest (ac.put o.dst (.agg cs)) w) : wpList Try.prog ops Q (o :: rest) ac w :=
  wpList_step fun K hK => by rw [if_pos hw]; exact wp_load_row ty x ho g hx ty cs (0, 0) (.struct fs) hg hu rfl hi (hK _ _ h)
/-- The numbers of a segment lie in their kinds. -/
structure Sg.ok (x : Sg) : Prop where
  s : x.t.s.ok
  d : x.t.d.ok
  sq : 0 ≤ x.sq ∧ x.sq ≤ 4294967295
  ak : 0 ≤ x.ak ∧ x.ak ≤ 4294967295

set_option maxRecDepth 100000 in
set_option maxHeartbeats 4000000 in
theorem build_n1 (x : Sg) (a : Option Addr) (c : Nat) (w : World) (h : Row w a x.data) (hnil : a = none → c = 0) (ok : x.ok) (hE : endsB x.t.fam x.t.s x.t.d = false) :
    Calls Try.prog 19 #[.agg #[.int .i64 x.t.fam, .int .i64 x.t.pr, .int .i64 x.t.s.fam, .int .u64 x.t.s.hi, .int .u64 x.t.s.lo, .int .i64 x.t.d.fam, .int .u64 x.t.d.hi, .int .u64 x.t.d.lo, .int .i64 x.t.sp, .int .i64 x.t.dp, .int .i64 x.fl, .int .u32 x.sq, .int .u32 x.ak, .int .i64 x.wn, .int .i64 x.ty, .int .i64 x.cd, .bool x.er, .int .i64 x.inn.fam, .int .i64 x.inn.pr, .int .i64 x.inn.s.fam, .int .u64 x.inn.s.hi, .int .u64 x.inn.s.lo, .int .i64 x.inn.d.fam, .int .u64 x.inn.d.hi, .int .u64 x.inn.d.lo, .int .i64 x.inn.sp, .int .i64 x.inn.dp, .slice a x.data.length c]] w fun e w' => e = .returned (.tuple #[.slice none 0 0, .int .i64 1]) ∧ Below w.heap.size w w' := by
  obtain ⟨W1, hW1⟩ : ∃ W1, w.alloc (.cells #[.int .i64 x.t.fam, .int .i64 x.t.pr, .int .i64 x.t.s.fam, .int .u64 x.t.s.hi, .int .u64 x.t.s.lo, .int .i64 x.t.d.fam, .int .u64 x.t.d.hi, .int .u64 x.t.d.lo, .int .i64 x.t.sp, .int .i64 x.t.dp, .int .i64 x.fl, .int .u32 x.sq, .int .u32 x.ak, .int .i64 x.wn, .int .i64 x.ty, .int .i64 x.cd, .bool x.er, .int .i64 x.inn.fam, .int .i64 x.inn.pr, .int .i64 x.inn.s.fam, .int .u64 x.inn.s.hi, .int .u64 x.inn.s.lo, .int .i64 x.inn.d.fam, .int .u64 x.inn.d.hi, .int .u64 x.inn.d.lo, .int .i64 x.inn.sp, .int .i64 x.inn.dp, .slice a x.data.length c] 38) = W1 := ⟨_, rfl⟩
  have b1 : Below w.heap.size w W1 := by rw [← hW1]; exact (Below.refl _ _).alloc (Nat.le_refl _) _
  have B1 : Blk W1 w.heap.size 38 #[.int .i64 x.t.fam, .int .i64 x.t.pr, .int .i64 x.t.s.fam, .int .u64 x.t.s.hi, .int .u64 x.t.s.lo, .int .i64 x.t.d.fam, .int .u64 x.t.d.hi, .int .u64 x.t.d.lo, .int .i64 x.t.sp, .int .i64 x.t.dp, .int .i64 x.fl, .int .u32 x.sq, .int .u32 x.ak, .int .i64 x.wn, .int .i64 x.ty, .int .i64 x.cd, .bool x.er, .int .i64 x.inn.fam, .int .i64 x.inn.pr, .int .i64 x.inn.s.fam, .int .u64 x.inn.s.hi, .int .u64 x.inn.s.lo, .int .i64 x.inn.d.fam, .int .u64 x.inn.d.hi, .int .u64 x.inn.d.lo, .int .i64 x.inn.sp, .int .i64 x.inn.dp, .slice a x.data.length c] := by rw [← hW1]; exact blk_new _ _ _
  have g1 : w.heap.size < W1.heap.size := B1.lt
  obtain ⟨W2, hW2⟩ : ∃ W2, W1.alloc (.cells #[.int .i64 0, .int .i64 0, .int .i64 0, .int .u64 0, .int .u64 0, .int .i64 0, .int .u64 0, .int .u64 0, .int .i64 0, .int .i64 0] 26) = W2 := ⟨_, rfl⟩
  have b2 : Below w.heap.size w W2 := by rw [← hW2]; exact b1.alloc b1.size _
  have B2 : Blk W2 w.heap.size 38 #[.int .i64 x.t.fam, .int .i64 x.t.pr, .int .i64 x.t.s.fam, .int .u64 x.t.s.hi, .int .u64 x.t.s.lo, .int .i64 x.t.d.fam, .int .u64 x.t.d.hi, .int .u64 x.t.d.lo, .int .i64 x.t.sp, .int .i64 x.t.dp, .int .i64 x.fl, .int .u32 x.sq, .int .u32 x.ak, .int .i64 x.wn, .int .i64 x.ty, .int .i64 x.cd, .bool x.er, .int .i64 x.inn.fam, .int .i64 x.inn.pr, .int .i64 x.inn.s.fam, .int .u64 x.inn.s.hi, .int .u64 x.inn.s.lo, .int .i64 x.inn.d.fam, .int .u64 x.inn.d.hi, .int .u64 x.inn.d.lo, .int .i64 x.inn.sp, .int .i64 x.inn.dp, .slice a x.data.length c] := by rw [← hW2]; exact B1.alloc _
  have T2 : Blk W2 W1.heap.size 26 #[.int .i64 0, .int .i64 0, .int .i64 0, .int .u64 0, .int .u64 0, .int .i64 0, .int .u64 0, .int .u64 0, .int .i64 0, .int .i64 0] := by rw [← hW2]; exact blk_new _ _ _
  obtain ⟨W3, hW3⟩ : ∃ W, W2.setRow W1.heap.size #[.int .i64 x.t.fam, .int .i64 x.t.pr, .int .i64 x.t.s.fam, .int .u64 x.t.s.hi, .int .u64 x.t.s.lo, .int .i64 x.t.d.fam, .int .u64 x.t.d.hi, .int .u64 x.t.d.lo, .int .i64 x.t.sp, .int .i64 x.t.dp] = W := ⟨_, rfl⟩
  have b3 : Below w.heap.size w W3 := by rw [← hW3]; exact below_setRow b2 (Nat.le_of_lt g1) _
  have B3 : Blk W3 w.heap.size 38 #[.int .i64 x.t.fam, .int .i64 x.t.pr, .int .i64 x.t.s.fam, .int .u64 x.t.s.hi, .int .u64 x.t.s.lo, .int .i64 x.t.d.fam, .int .u64 x.t.d.hi, .int .u64 x.t.d.lo, .int .i64 x.t.sp, .int .i64 x.t.dp, .int .i64 x.fl, .int .u32 x.sq, .int .u32 x.ak, .int .i64 x.wn, .int .i64 x.ty, .int .i64 x.cd, .bool x.er, .int .i64 x.inn.fam, .int .i64 x.inn.pr, .int .i64 x.inn.s.fam, .int .u64 x.inn.s.hi, .int .u64 x.inn.s.lo, .int .i64 x.inn.d.fam, .int .u64 x.inn.d.hi, .int .u64 x.inn.d.lo, .int .i64 x.inn.sp, .int .i64 x.inn.dp, .slice a x.data.length c] := by rw [← hW3]; exact B2.other (by omega) _
  have T3 : Blk W3 W1.heap.size 26 #[.int .i64 x.t.fam, .int .i64 x.t.pr, .int .i64 x.t.s.fam, .int .u64 x.t.s.hi, .int .u64 x.t.s.lo, .int .i64 x.t.d.fam, .int .u64 x.t.d.hi, .int .u64 x.t.d.lo, .int .i64 x.t.sp, .int .i64 x.t.dp] := by rw [← hW3]; exact T2.set _
  have HW3 : Hid _ := hW3
  clear hW3
  have K0 : Hid _ := ofFamily_any x.t.fam x.t.s.fam x.t.s.hi x.t.s.lo x.t.d.fam x.t.d.hi x.t.d.lo W3
  have e0 := T3.cell 0 (.int .i64 x.t.fam) rfl
  have e1 := T3.cell 1 (.int .i64 x.t.pr) rfl
  have e2 := T3.cell 2 (.int .i64 x.t.s.fam) rfl
  have e3 := T3.cell 3 (.int .u64 x.t.s.hi) rfl
  have e4 := T3.cell 4 (.int .u64 x.t.s.lo) rfl
  have e5 := T3.cell 5 (.int .i64 x.t.d.fam) rfl
  have e6 := T3.cell 6 (.int .u64 x.t.d.hi) rfl
  have e7 := T3.cell 7 (.int .u64 x.t.d.lo) rfl
  rw [show endsB x.t.fam ⟨x.t.s.fam, x.t.s.hi, x.t.s.lo⟩ ⟨x.t.d.fam, x.t.d.hi, x.t.d.lo⟩ = false from hE] at K0
  go_enter Try.func19, Try.ntmps19
  go_wp2_with (first
    | (refine wpList_load_sub rfl _ _ rfl w.heap.size 0 38 (by rfl) _ #[.int .i64 x.t.fam, .int .i64 x.t.pr, .int .i64 x.t.s.fam, .int .u64 x.t.s.hi, .int .u64 x.t.s.lo, .int .i64 x.t.d.fam, .int .u64 x.t.d.hi, .int .u64 x.t.d.lo, .int .i64 x.t.sp, .int .i64 x.t.dp] B1 (by rfl) Try.underlying26 (by kernel_rfl) ?_)
    | (refine wpList_store_row rfl _ _ _ rfl W1.heap.size #[.int .i64 x.t.fam, .int .i64 x.t.pr, .int .i64 x.t.s.fam, .int .u64 x.t.s.hi, .int .u64 x.t.s.lo, .int .i64 x.t.d.fam, .int .u64 x.t.d.hi, .int .u64 x.t.d.lo, .int .i64 x.t.sp, .int .i64 x.t.dp] (by rfl) (by rfl) _ _ T2 (by kernel_rfl) (by rfl) (by kernel_rfl) ?_; rw [HW3.out]))
  refine Calls.mono K0.out ?_
  rintro e W4 ⟨rfl, bb⟩
  have b4 : Below w.heap.size w W4 := b3.trans (bb.mono b3.size)
  have B4 := B3.kept bb
  have T4 := T3.kept bb
  clear K0 bb B1 b1 B2 T2 b2 B3 T3 b3 hW1 hW2 HW3 e0 e1 e2 e3 e4 e5 e6 e7
  go_wp2
  go_ret2
  exact ⟨rfl, b4⟩

set_option maxRecDepth 100000 in
set_option maxHeartbeats 4000000 in
theorem build_n2 (x : Sg) (a : Option Addr) (c : Nat) (w : World) (h : Row w a x.data) (hnil : a = none → c = 0) (ok : x.ok) (hE : endsB x.t.fam x.t.s x.t.d = true) (hP : protoB x = false) :
    Calls Try.prog 19 #[.agg #[.int .i64 x.t.fam, .int .i64 x.t.pr, .int .i64 x.t.s.fam, .int .u64 x.t.s.hi, .int .u64 x.t.s.lo, .int .i64 x.t.d.fam, .int .u64 x.t.d.hi, .int .u64 x.t.d.lo, .int .i64 x.t.sp, .int .i64 x.t.dp, .int .i64 x.fl, .int .u32 x.sq, .int .u32 x.ak, .int .i64 x.wn, .int .i64 x.ty, .int .i64 x.cd, .bool x.er, .int .i64 x.inn.fam, .int .i64 x.inn.pr, .int .i64 x.inn.s.fam, .int .u64 x.inn.s.hi, .int .u64 x.inn.s.lo, .int .i64 x.inn.d.fam, .int .u64 x.inn.d.hi, .int .u64 x.inn.d.lo, .int .i64 x.inn.sp, .int .i64 x.inn.dp, .slice a x.data.length c]] w fun e w' => e = .returned (.tuple #[.slice none 0 0, .int .i64 1]) ∧ Below w.heap.size w w' := by
  obtain ⟨W1, hW1⟩ : ∃ W1, w.alloc (.cells #[.int .i64 x.t.fam, .int .i64 x.t.pr, .int .i64 x.t.s.fam, .int .u64 x.t.s.hi, .int .u64 x.t.s.lo, .int .i64 x.t.d.fam, .int .u64 x.t.d.hi, .int .u64 x.t.d.lo, .int .i64 x.t.sp, .int .i64 x.t.dp, .int .i64 x.fl, .int .u32 x.sq, .int .u32 x.ak, .int .i64 x.wn, .int .i64 x.ty, .int .i64 x.cd, .bool x.er, .int .i64 x.inn.fam, .int .i64 x.inn.pr, .int .i64 x.inn.s.fam, .int .u64 x.inn.s.hi, .int .u64 x.inn.s.lo, .int .i64 x.inn.d.fam, .int .u64 x.inn.d.hi, .int .u64 x.inn.d.lo, .int .i64 x.inn.sp, .int .i64 x.inn.dp, .slice a x.data.length c] 38) = W1 := ⟨_, rfl⟩
  have b1 : Below w.heap.size w W1 := by rw [← hW1]; exact (Below.refl _ _).alloc (Nat.le_refl _) _
  have B1 : Blk W1 w.heap.size 38 #[.int .i64 x.t.fam, .int .i64 x.t.pr, .int .i64 x.t.s.fam, .int .u64 x.t.s.hi, .int .u64 x.t.s.lo, .int .i64 x.t.d.fam, .int .u64 x.t.d.hi, .int .u64 x.t.d.lo, .int .i64 x.t.sp, .int .i64 x.t.dp, .int .i64 x.fl, .int .u32 x.sq, .int .u32 x.ak, .int .i64 x.wn, .int .i64 x.ty, .int .i64 x.cd, .bool x.er, .int .i64 x.inn.fam, .int .i64 x.inn.pr, .int .i64 x.inn.s.fam, .int .u64 x.inn.s.hi, .int .u64 x.inn.s.lo, .int .i64 x.inn.d.fam, .int .u64 x.inn.d.hi, .int .u64 x.inn.d.lo, .int .i64 x.inn.sp, .int .i64 x.inn.dp, .slice a x.data.length c] := by rw [← hW1]; exact blk_new _ _ _
  have g1 : w.heap.size < W1.heap.size := B1.lt
  obtain ⟨W2, hW2⟩ : ∃ W2, W1.alloc (.cells #[.int .i64 0, .int .i64 0, .int .i64 0, .int .u64 0, .int .u64 0, .int .i64 0, .int .u64 0, .int .u64 0, .int .i64 0, .int .i64 0] 26) = W2 := ⟨_, rfl⟩
  have b2 : Below w.heap.size w W2 := by rw [← hW2]; exact b1.alloc b1.size _
  have B2 : Blk W2 w.heap.size 38 #[.int .i64 x.t.fam, .int .i64 x.t.pr, .int .i64 x.t.s.fam, .int .u64 x.t.s.hi, .int .u64 x.t.s.lo, .int .i64 x.t.d.fam, .int .u64 x.t.d.hi, .int .u64 x.t.d.lo, .int .i64 x.t.sp, .int .i64 x.t.dp, .int .i64 x.fl, .int .u32 x.sq, .int .u32 x.ak, .int .i64 x.wn, .int .i64 x.ty, .int .i64 x.cd, .bool x.er, .int .i64 x.inn.fam, .int .i64 x.inn.pr, .int .i64 x.inn.s.fam, .int .u64 x.inn.s.hi, .int .u64 x.inn.s.lo, .int .i64 x.inn.d.fam, .int .u64 x.inn.d.hi, .int .u64 x.inn.d.lo, .int .i64 x.inn.sp, .int .i64 x.inn.dp, .slice a x.data.length c] := by rw [← hW2]; exact B1.alloc _
  have T2 : Blk W2 W1.heap.size 26 #[.int .i64 0, .int .i64 0, .int .i64 0, .int .u64 0, .int .u64 0, .int .i64 0, .int .u64 0, .int .u64 0, .int .i64 0, .int .i64 0] := by rw [← hW2]; exact blk_new _ _ _
  obtain ⟨W3, hW3⟩ : ∃ W, W2.setRow W1.heap.size #[.int .i64 x.t.fam, .int .i64 x.t.pr, .int .i64 x.t.s.fam, .int .u64 x.t.s.hi, .int .u64 x.t.s.lo, .int .i64 x.t.d.fam, .int .u64 x.t.d.hi, .int .u64 x.t.d.lo, .int .i64 x.t.sp, .int .i64 x.t.dp] = W := ⟨_, rfl⟩
  have b3 : Below w.heap.size w W3 := by rw [← hW3]; exact below_setRow b2 (Nat.le_of_lt g1) _
  have B3 : Blk W3 w.heap.size 38 #[.int .i64 x.t.fam, .int .i64 x.t.pr, .int .i64 x.t.s.fam, .int .u64 x.t.s.hi, .int .u64 x.t.s.lo, .int .i64 x.t.d.fam, .int .u64 x.t.d.hi, .int .u64 x.t.d.lo, .int .i64 x.t.sp, .int .i64 x.t.dp, .int .i64 x.fl, .int .u32 x.sq, .int .u32 x.ak, .int .i64 x.wn, .int .i64 x.ty, .int .i64 x.cd, .bool x.er, .int .i64 x.inn.fam, .int .i64 x.inn.pr, .int .i64 x.inn.s.fam, .int .u64 x.inn.s.hi, .int .u64 x.inn.s.lo, .int .i64 x.inn.d.fam, .int .u64 x.inn.d.hi, .int .u64 x.inn.d.lo, .int .i64 x.inn.sp, .int .i64 x.inn.dp, .slice a x.data.length c] := by rw [← hW3]; exact B2.other (by omega) _
  have T3 : Blk W3 W1.heap.size 26 #[.int .i64 x.t.fam, .int .i64 x.t.pr, .int .i64 x.t.s.fam, .int .u64 x.t.s.hi, .int .u64 x.t.s.lo, .int .i64 x.t.d.fam, .int .u64 x.t.d.hi, .int .u64 x.t.d.lo, .int .i64 x.t.sp, .int .i64 x.t.dp] := by rw [← hW3]; exact T2.set _
  have HW3 : Hid _ := hW3
  clear hW3
  have K0 : Hid _ := ofFamily_any x.t.fam x.t.s.fam x.t.s.hi x.t.s.lo x.t.d.fam x.t.d.hi x.t.d.lo W3
  have e0 := T3.cell 0 (.int .i64 x.t.fam) rfl
  have e1 := T3.cell 1 (.int .i64 x.t.pr) rfl
  have e2 := T3.cell 2 (.int .i64 x.t.s.fam) rfl
  have e3 := T3.cell 3 (.int .u64 x.t.s.hi) rfl
  have e4 := T3.cell 4 (.int .u64 x.t.s.lo) rfl
  have e5 := T3.cell 5 (.int .i64 x.t.d.fam) rfl
  have e6 := T3.cell 6 (.int .u64 x.t.d.hi) rfl
  have e7 := T3.cell 7 (.int .u64 x.t.d.lo) rfl
  rw [show endsB x.t.fam ⟨x.t.s.fam, x.t.s.hi, x.t.s.lo⟩ ⟨x.t.d.fam, x.t.d.hi, x.t.d.lo⟩ = true from hE] at K0
  have KP : Hid (∀ W, Calls Try.prog 39 #[.agg #[.int .i64 x.t.fam, .int .i64 x.t.pr, .int .i64 x.t.s.fam, .int .u64 x.t.s.hi, .int .u64 x.t.s.lo, .int .i64 x.t.d.fam, .int .u64 x.t.d.hi, .int .u64 x.t.d.lo, .int .i64 x.t.sp, .int .i64 x.t.dp]] W fun e w' => e = .returned (.bool false) ∧ Below W.heap.size W w') := fun W => by
    have := rightProto_any x W
    rw [hP] at this
    exact this
  go_enter Try.func19, Try.ntmps19
  go_wp2_with (first
    | (refine wpList_load_sub rfl _ _ rfl w.heap.size 0 38 (by rfl) _ #[.int .i64 x.t.fam, .int .i64 x.t.pr, .int .i64 x.t.s.fam, .int .u64 x.t.s.hi, .int .u64 x.t.s.lo, .int .i64 x.t.d.fam, .int .u64 x.t.d.hi, .int .u64 x.t.d.lo, .int .i64 x.t.sp, .int .i64 x.t.dp] B1 (by rfl) Try.underlying26 (by kernel_rfl) ?_)
    | (refine wpList_store_row rfl _ _ _ rfl W1.heap.size #[.int .i64 x.t.fam, .int .i64 x.t.pr, .int .i64 x.t.s.fam, .int .u64 x.t.s.hi, .int .u64 x.t.s.lo, .int .i64 x.t.d.fam, .int .u64 x.t.d.hi, .int .u64 x.t.d.lo, .int .i64 x.t.sp, .int .i64 x.t.dp] (by rfl) (by rfl) _ _ T2 (by kernel_rfl) (by rfl) (by kernel_rfl) ?_; rw [HW3.out]))
  refine Calls.mono K0.out ?_
  rintro e W4 ⟨rfl, bb⟩
  have b4 : Below w.heap.size w W4 := b3.trans (bb.mono b3.size)
  have B4 := B3.kept bb
  have T4 := T3.kept bb
  clear K0 bb B1 b1 B2 T2 b2 B3 T3 b3 hW1 hW2 HW3 e0 e1 e2 e3 e4 e5 e6 e7
  go_wp2_with (refine wpList_load_blk_w (by kernel_rfl) _ _ rfl W1.heap.size (by rfl) _ T4 Try.underlying26 (by kernel_rfl) ?_)
  refine Calls.mono (KP.out _) ?_
  rintro e W5 ⟨rfl, bb⟩
  have b5 : Below w.heap.size w W5 := b4.trans (bb.mono b4.size)
  have B5 := B4.kept bb
  have T5 := T4.kept bb
  clear KP bb B4 T4 b4
  go_wp2
  go_ret2
  exact ⟨rfl, b5⟩

set_option maxRecDepth 100000 in
set_option maxHeartbeats 4000000 in
theorem build_n3 (x : Sg) (a : Option Addr) (c : Nat) (w : World) (h : Row w a x.data) (hnil : a = none → c = 0) (ok : x.ok) (hE : endsB x.t.fam x.t.s x.t.d = true) (hP : protoB x = true) (hN : numB x = false) :
    Calls Try.prog 19 #[.agg #[.int .i64 x.t.fam, .int .i64 x.t.pr, .int .i64 x.t.s.fam, .int .u64 x.t.s.hi, .int .u64 x.t.s.lo, .int .i64 x.t.d.fam, .int .u64 x.t.d.hi, .int .u64 x.t.d.lo, .int .i64 x.t.sp, .int .i64 x.t.dp, .int .i64 x.fl, .int .u32 x.sq, .int .u32 x.ak, .int .i64 x.wn, .int .i64 x.ty, .int .i64 x.cd, .bool x.er, .int .i64 x.inn.fam, .int .i64 x.inn.pr, .int .i64 x.inn.s.fam, .int .u64 x.inn.s.hi, .int .u64 x.inn.s.lo, .int .i64 x.inn.d.fam, .int .u64 x.inn.d.hi, .int .u64 x.inn.d.lo, .int .i64 x.inn.sp, .int .i64 x.inn.dp, .slice a x.data.length c]] w fun e w' => e = .returned (.tuple #[.slice none 0 0, .int .i64 1]) ∧ Below w.heap.size w w' := by
  obtain ⟨W1, hW1⟩ : ∃ W1, w.alloc (.cells #[.int .i64 x.t.fam, .int .i64 x.t.pr, .int .i64 x.t.s.fam, .int .u64 x.t.s.hi, .int .u64 x.t.s.lo, .int .i64 x.t.d.fam, .int .u64 x.t.d.hi, .int .u64 x.t.d.lo, .int .i64 x.t.sp, .int .i64 x.t.dp, .int .i64 x.fl, .int .u32 x.sq, .int .u32 x.ak, .int .i64 x.wn, .int .i64 x.ty, .int .i64 x.cd, .bool x.er, .int .i64 x.inn.fam, .int .i64 x.inn.pr, .int .i64 x.inn.s.fam, .int .u64 x.inn.s.hi, .int .u64 x.inn.s.lo, .int .i64 x.inn.d.fam, .int .u64 x.inn.d.hi, .int .u64 x.inn.d.lo, .int .i64 x.inn.sp, .int .i64 x.inn.dp, .slice a x.data.length c] 38) = W1 := ⟨_, rfl⟩
  have b1 : Below w.heap.size w W1 := by rw [← hW1]; exact (Below.refl _ _).alloc (Nat.le_refl _) _
  have B1 : Blk W1 w.heap.size 38 #[.int .i64 x.t.fam, .int .i64 x.t.pr, .int .i64 x.t.s.fam, .int .u64 x.t.s.hi, .int .u64 x.t.s.lo, .int .i64 x.t.d.fam, .int .u64 x.t.d.hi, .int .u64 x.t.d.lo, .int .i64 x.t.sp, .int .i64 x.t.dp, .int .i64 x.fl, .int .u32 x.sq, .int .u32 x.ak, .int .i64 x.wn, .int .i64 x.ty, .int .i64 x.cd, .bool x.er, .int .i64 x.inn.fam, .int .i64 x.inn.pr, .int .i64 x.inn.s.fam, .int .u64 x.inn.s.hi, .int .u64 x.inn.s.lo, .int .i64 x.inn.d.fam, .int .u64 x.inn.d.hi, .int .u64 x.inn.d.lo, .int .i64 x.inn.sp, .int .i64 x.inn.dp, .slice a x.data.length c] := by rw [← hW1]; exact blk_new _ _ _
  have g1 : w.heap.size < W1.heap.size := B1.lt
  obtain ⟨W2, hW2⟩ : ∃ W2, W1.alloc (.cells #[.int .i64 0, .int .i64 0, .int .i64 0, .int .u64 0, .int .u64 0, .int .i64 0, .int .u64 0, .int .u64 0, .int .i64 0, .int .i64 0] 26) = W2 := ⟨_, rfl⟩
  have b2 : Below w.heap.size w W2 := by rw [← hW2]; exact b1.alloc b1.size _
  have B2 : Blk W2 w.heap.size 38 #[.int .i64 x.t.fam, .int .i64 x.t.pr, .int .i64 x.t.s.fam, .int .u64 x.t.s.hi, .int .u64 x.t.s.lo, .int .i64 x.t.d.fam, .int .u64 x.t.d.hi, .int .u64 x.t.d.lo, .int .i64 x.t.sp, .int .i64 x.t.dp, .int .i64 x.fl, .int .u32 x.sq, .int .u32 x.ak, .int .i64 x.wn, .int .i64 x.ty, .int .i64 x.cd, .bool x.er, .int .i64 x.inn.fam, .int .i64 x.inn.pr, .int .i64 x.inn.s.fam, .int .u64 x.inn.s.hi, .int .u64 x.inn.s.lo, .int .i64 x.inn.d.fam, .int .u64 x.inn.d.hi, .int .u64 x.inn.d.lo, .int .i64 x.inn.sp, .int .i64 x.inn.dp, .slice a x.data.length c] := by rw [← hW2]; exact B1.alloc _
  have T2 : Blk W2 W1.heap.size 26 #[.int .i64 0, .int .i64 0, .int .i64 0, .int .u64 0, .int .u64 0, .int .i64 0, .int .u64 0, .int .u64 0, .int .i64 0, .int .i64 0] := by rw [← hW2]; exact blk_new _ _ _
  obtain ⟨W3, hW3⟩ : ∃ W, W2.setRow W1.heap.size #[.int .i64 x.t.fam, .int .i64 x.t.pr, .int .i64 x.t.s.fam, .int .u64 x.t.s.hi, .int .u64 x.t.s.lo, .int .i64 x.t.d.fam, .int .u64 x.t.d.hi, .int .u64 x.t.d.lo, .int .i64 x.t.sp, .int .i64 x.t.dp] = W := ⟨_, rfl⟩
  have b3 : Below w.heap.size w W3 := by rw [← hW3]; exact below_setRow b2 (Nat.le_of_lt g1) _
  have B3 : Blk W3 w.heap.size 38 #[.int .i64 x.t.fam, .int .i64 x.t.pr, .int .i64 x.t.s.fam, .int .u64 x.t.s.hi, .int .u64 x.t.s.lo, .int .i64 x.t.d.fam, .int .u64 x.t.d.hi, .int .u64 x.t.d.lo, .int .i64 x.t.sp, .int .i64 x.t.dp, .int .i64 x.fl, .int .u32 x.sq, .int .u32 x.ak, .int .i64 x.wn, .int .i64 x.ty, .int .i64 x.cd, .bool x.er, .int .i64 x.inn.fam, .int .i64 x.inn.pr, .int .i64 x.inn.s.fam, .int .u64 x.inn.s.hi, .int .u64 x.inn.s.lo, .int .i64 x.inn.d.fam, .int .u64 x.inn.d.hi, .int .u64 x.inn.d.lo, .int .i64 x.inn.sp, .int .i64 x.inn.dp, .slice a x.data.length c] := by rw [← hW3]; exact B2.other (by omega) _
  have T3 : Blk W3 W1.heap.size 26 #[.int .i64 x.t.fam, .int .i64 x.t.pr, .int .i64 x.t.s.fam, .int .u64 x.t.s.hi, .int .u64 x.t.s.lo, .int .i64 x.t.d.fam, .int .u64 x.t.d.hi, .int .u64 x.t.d.lo, .int .i64 x.t.sp, .int .i64 x.t.dp] := by rw [← hW3]; exact T2.set _
  have HW3 : Hid _ := hW3
  clear hW3
  have K0 : Hid _ := ofFamily_any x.t.fam x.t.s.fam x.t.s.hi x.t.s.lo x.t.d.fam x.t.d.hi x.t.d.lo W3
  have e0 := T3.cell 0 (.int .i64 x.t.fam) rfl
  have e1 := T3.cell 1 (.int .i64 x.t.pr) rfl
  have e2 := T3.cell 2 (.int .i64 x.t.s.fam) rfl
  have e3 := T3.cell 3 (.int .u64 x.t.s.hi) rfl
  have e4 := T3.cell 4 (.int .u64 x.t.s.lo) rfl
  have e5 := T3.cell 5 (.int .i64 x.t.d.fam) rfl
  have e6 := T3.cell 6 (.int .u64 x.t.d.hi) rfl
  have e7 := T3.cell 7 (.int .u64 x.t.d.lo) rfl
  rw [show endsB x.t.fam ⟨x.t.s.fam, x.t.s.hi, x.t.s.lo⟩ ⟨x.t.d.fam, x.t.d.hi, x.t.d.lo⟩ = true from hE] at K0
  have KP : Hid (∀ W, Calls Try.prog 39 #[.agg #[.int .i64 x.t.fam, .int .i64 x.t.pr, .int .i64 x.t.s.fam, .int .u64 x.t.s.hi, .int .u64 x.t.s.lo, .int .i64 x.t.d.fam, .int .u64 x.t.d.hi, .int .u64 x.t.d.lo, .int .i64 x.t.sp, .int .i64 x.t.dp]] W fun e w' => e = .returned (.bool true) ∧ Below W.heap.size W w') := fun W => by
    have := rightProto_any x W
    rw [hP] at this
    exact this
  have KN : Hid (∀ W, Calls Try.prog 40 #[.agg #[.int .i64 x.t.fam, .int .i64 x.t.pr, .int .i64 x.t.s.fam, .int .u64 x.t.s.hi, .int .u64 x.t.s.lo, .int .i64 x.t.d.fam, .int .u64 x.t.d.hi, .int .u64 x.t.d.lo, .int .i64 x.t.sp, .int .i64 x.t.dp, .int .i64 x.fl, .int .u32 x.sq, .int .u32 x.ak, .int .i64 x.wn, .int .i64 x.ty, .int .i64 x.cd, .bool x.er, .int .i64 x.inn.fam, .int .i64 x.inn.pr, .int .i64 x.inn.s.fam, .int .u64 x.inn.s.hi, .int .u64 x.inn.s.lo, .int .i64 x.inn.d.fam, .int .u64 x.inn.d.hi, .int .u64 x.inn.d.lo, .int .i64 x.inn.sp, .int .i64 x.inn.dp, .slice a x.data.length c]] W fun e w' => e = .returned (.bool false) ∧ Below W.heap.size W w') := fun W => by
    have := rightNumbers_any x a c W
    rw [hN] at this
    exact this
  go_enter Try.func19, Try.ntmps19
  go_wp2_with (first
    | (refine wpList_load_sub rfl _ _ rfl w.heap.size 0 38 (by rfl) _ #[.int .i64 x.t.fam, .int .i64 x.t.pr, .int .i64 x.t.s.fam, .int .u64 x.t.s.hi, .int .u64 x.t.s.lo, .int .i64 x.t.d.fam, .int .u64 x.t.d.hi, .int .u64 x.t.d.lo, .int .i64 x.t.sp, .int .i64 x.t.dp] B1 (by rfl) Try.underlying26 (by kernel_rfl) ?_)
    | (refine wpList_store_row rfl _ _ _ rfl W1.heap.size #[.int .i64 x.t.fam, .int .i64 x.t.pr, .int .i64 x.t.s.fam, .int .u64 x.t.s.hi, .int .u64 x.t.s.lo, .int .i64 x.t.d.fam, .int .u64 x.t.d.hi, .int .u64 x.t.d.lo, .int .i64 x.t.sp, .int .i64 x.t.dp] (by rfl) (by rfl) _ _ T2 (by kernel_rfl) (by rfl) (by kernel_rfl) ?_; rw [HW3.out]))
  refine Calls.mono K0.out ?_
  rintro e W4 ⟨rfl, bb⟩
  have b4 : Below w.heap.size w W4 := b3.trans (bb.mono b3.size)
  have B4 := B3.kept bb
  have T4 := T3.kept bb
  clear K0 bb B1 b1 B2 T2 b2 B3 T3 b3 hW1 hW2 HW3 e0 e1 e2 e3 e4 e5 e6 e7
  go_wp2_with (refine wpList_load_blk_w (by kernel_rfl) _ _ rfl W1.heap.size (by rfl) _ T4 Try.underlying26 (by kernel_rfl) ?_)
  refine Calls.mono (KP.out _) ?_
  rintro e W5 ⟨rfl, bb⟩
  have b5 : Below w.heap.size w W5 := b4.trans (bb.mono b4.size)
  have B5 := B4.kept bb
  have T5 := T4.kept bb
  clear KP bb B4 T4 b4
  go_wp2_with (refine wpList_load_blk_w (by kernel_rfl) _ _ rfl w.heap.size (by rfl) _ B5 Try.underlying38 (by kernel_rfl) ?_)
  refine Calls.mono (KN.out _) ?_
  rintro e W6 ⟨rfl, bb⟩
  have b6 : Below w.heap.size w W6 := b5.trans (bb.mono b5.size)
  have B6 := B5.kept bb
  have T6 := T5.kept bb
  clear KN bb B5 T5 b5
  have e27 := B6.cell 27 (.slice a x.data.length c) rfl
  go_wp2
  go_ret2
  exact ⟨rfl, b6⟩

set_option maxRecDepth 100000 in
set_option maxHeartbeats 4000000 in
theorem build_n4 (x : Sg) (a : Option Addr) (c : Nat) (w : World) (h : Row w a x.data) (hnil : a = none → c = 0) (ok : x.ok) (hE : endsB x.t.fam x.t.s x.t.d = true) (hP : protoB x = true) (hN : numB x = true) (hL : ¬ x.data.length ≤ 65000) :
    Calls Try.prog 19 #[.agg #[.int .i64 x.t.fam, .int .i64 x.t.pr, .int .i64 x.t.s.fam, .int .u64 x.t.s.hi, .int .u64 x.t.s.lo, .int .i64 x.t.d.fam, .int .u64 x.t.d.hi, .int .u64 x.t.d.lo, .int .i64 x.t.sp, .int .i64 x.t.dp, .int .i64 x.fl, .int .u32 x.sq, .int .u32 x.ak, .int .i64 x.wn, .int .i64 x.ty, .int .i64 x.cd, .bool x.er, .int .i64 x.inn.fam, .int .i64 x.inn.pr, .int .i64 x.inn.s.fam, .int .u64 x.inn.s.hi, .int .u64 x.inn.s.lo, .int .i64 x.inn.d.fam, .int .u64 x.inn.d.hi, .int .u64 x.inn.d.lo, .int .i64 x.inn.sp, .int .i64 x.inn.dp, .slice a x.data.length c]] w fun e w' => e = .returned (.tuple #[.slice none 0 0, .int .i64 1]) ∧ Below w.heap.size w w' := by
  obtain ⟨W1, hW1⟩ : ∃ W1, w.alloc (.cells #[.int .i64 x.t.fam, .int .i64 x.t.pr, .int .i64 x.t.s.fam, .int .u64 x.t.s.hi, .int .u64 x.t.s.lo, .int .i64 x.t.d.fam, .int .u64 x.t.d.hi, .int .u64 x.t.d.lo, .int .i64 x.t.sp, .int .i64 x.t.dp, .int .i64 x.fl, .int .u32 x.sq, .int .u32 x.ak, .int .i64 x.wn, .int .i64 x.ty, .int .i64 x.cd, .bool x.er, .int .i64 x.inn.fam, .int .i64 x.inn.pr, .int .i64 x.inn.s.fam, .int .u64 x.inn.s.hi, .int .u64 x.inn.s.lo, .int .i64 x.inn.d.fam, .int .u64 x.inn.d.hi, .int .u64 x.inn.d.lo, .int .i64 x.inn.sp, .int .i64 x.inn.dp, .slice a x.data.length c] 38) = W1 := ⟨_, rfl⟩
  have b1 : Below w.heap.size w W1 := by rw [← hW1]; exact (Below.refl _ _).alloc (Nat.le_refl _) _
  have B1 : Blk W1 w.heap.size 38 #[.int .i64 x.t.fam, .int .i64 x.t.pr, .int .i64 x.t.s.fam, .int .u64 x.t.s.hi, .int .u64 x.t.s.lo, .int .i64 x.t.d.fam, .int .u64 x.t.d.hi, .int .u64 x.t.d.lo, .int .i64 x.t.sp, .int .i64 x.t.dp, .int .i64 x.fl, .int .u32 x.sq, .int .u32 x.ak, .int .i64 x.wn, .int .i64 x.ty, .int .i64 x.cd, .bool x.er, .int .i64 x.inn.fam, .int .i64 x.inn.pr, .int .i64 x.inn.s.fam, .int .u64 x.inn.s.hi, .int .u64 x.inn.s.lo, .int .i64 x.inn.d.fam, .int .u64 x.inn.d.hi, .int .u64 x.inn.d.lo, .int .i64 x.inn.sp, .int .i64 x.inn.dp, .slice a x.data.length c] := by rw [← hW1]; exact blk_new _ _ _
  have g1 : w.heap.size < W1.heap.size := B1.lt
  obtain ⟨W2, hW2⟩ : ∃ W2, W1.alloc (.cells #[.int .i64 0, .int .i64 0, .int .i64 0, .int .u64 0, .int .u64 0, .int .i64 0, .int .u64 0, .int .u64 0, .int .i64 0, .int .i64 0] 26) = W2 := ⟨_, rfl⟩
  have b2 : Below w.heap.size w W2 := by rw [← hW2]; exact b1.alloc b1.size _
  have B2 : Blk W2 w.heap.size 38 #[.int .i64 x.t.fam, .int .i64 x.t.pr, .int .i64 x.t.s.fam, .int .u64 x.t.s.hi, .int .u64 x.t.s.lo, .int .i64 x.t.d.fam, .int .u64 x.t.d.hi, .int .u64 x.t.d.lo, .int .i64 x.t.sp, .int .i64 x.t.dp, .int .i64 x.fl, .int .u32 x.sq, .int .u32 x.ak, .int .i64 x.wn, .int .i64 x.ty, .int .i64 x.cd, .bool x.er, .int .i64 x.inn.fam, .int .i64 x.inn.pr, .int .i64 x.inn.s.fam, .int .u64 x.inn.s.hi, .int .u64 x.inn.s.lo, .int .i64 x.inn.d.fam, .int .u64 x.inn.d.hi, .int .u64 x.inn.d.lo, .int .i64 x.inn.sp, .int .i64 x.inn.dp, .slice a x.data.length c] := by rw [← hW2]; exact B1.alloc _
  have T2 : Blk W2 W1.heap.size 26 #[.int .i64 0, .int .i64 0, .int .i64 0, .int .u64 0, .int .u64 0, .int .i64 0, .int .u64 0, .int .u64 0, .int .i64 0, .int .i64 0] := by rw [← hW2]; exact blk_new _ _ _
  obtain ⟨W3, hW3⟩ : ∃ W, W2.setRow W1.heap.size #[.int .i64 x.t.fam, .int .i64 x.t.pr, .int .i64 x.t.s.fam, .int .u64 x.t.s.hi, .int .u64 x.t.s.lo, .int .i64 x.t.d.fam, .int .u64 x.t.d.hi, .int .u64 x.t.d.lo, .int .i64 x.t.sp, .int .i64 x.t.dp] = W := ⟨_, rfl⟩
  have b3 : Below w.heap.size w W3 := by rw [← hW3]; exact below_setRow b2 (Nat.le_of_lt g1) _
  have B3 : Blk W3 w.heap.size 38 #[.int .i64 x.t.fam, .int .i64 x.t.pr, .int .i64 x.t.s.fam, .int .u64 x.t.s.hi, .int .u64 x.t.s.lo, .int .i64 x.t.d.fam, .int .u64 x.t.d.hi, .int .u64 x.t.d.lo, .int .i64 x.t.sp, .int .i64 x.t.dp, .int .i64 x.fl, .int .u32 x.sq, .int .u32 x.ak, .int .i64 x.wn, .int .i64 x.ty, .int .i64 x.cd, .bool x.er, .int .i64 x.inn.fam, .int .i64 x.inn.pr, .int .i64 x.inn.s.fam, .int .u64 x.inn.s.hi, .int .u64 x.inn.s.lo, .int .i64 x.inn.d.fam, .int .u64 x.inn.d.hi, .int .u64 x.inn.d.lo, .int .i64 x.inn.sp, .int .i64 x.inn.dp, .slice a x.data.length c] := by rw [← hW3]; exact B2.other (by omega) _
  have T3 : Blk W3 W1.heap.size 26 #[.int .i64 x.t.fam, .int .i64 x.t.pr, .int .i64 x.t.s.fam, .int .u64 x.t.s.hi, .int .u64 x.t.s.lo, .int .i64 x.t.d.fam, .int .u64 x.t.d.hi, .int .u64 x.t.d.lo, .int .i64 x.t.sp, .int .i64 x.t.dp] := by rw [← hW3]; exact T2.set _
  have HW3 : Hid _ := hW3
  clear hW3
  have K0 : Hid _ := ofFamily_any x.t.fam x.t.s.fam x.t.s.hi x.t.s.lo x.t.d.fam x.t.d.hi x.t.d.lo W3
  have e0 := T3.cell 0 (.int .i64 x.t.fam) rfl
  have e1 := T3.cell 1 (.int .i64 x.t.pr) rfl
  have e2 := T3.cell 2 (.int .i64 x.t.s.fam) rfl
  have e3 := T3.cell 3 (.int .u64 x.t.s.hi) rfl
  have e4 := T3.cell 4 (.int .u64 x.t.s.lo) rfl
  have e5 := T3.cell 5 (.int .i64 x.t.d.fam) rfl
  have e6 := T3.cell 6 (.int .u64 x.t.d.hi) rfl
  have e7 := T3.cell 7 (.int .u64 x.t.d.lo) rfl
  rw [show endsB x.t.fam ⟨x.t.s.fam, x.t.s.hi, x.t.s.lo⟩ ⟨x.t.d.fam, x.t.d.hi, x.t.d.lo⟩ = true from hE] at K0
  have KP : Hid (∀ W, Calls Try.prog 39 #[.agg #[.int .i64 x.t.fam, .int .i64 x.t.pr, .int .i64 x.t.s.fam, .int .u64 x.t.s.hi, .int .u64 x.t.s.lo, .int .i64 x.t.d.fam, .int .u64 x.t.d.hi, .int .u64 x.t.d.lo, .int .i64 x.t.sp, .int .i64 x.t.dp]] W fun e w' => e = .returned (.bool true) ∧ Below W.heap.size W w') := fun W => by
    have := rightProto_any x W
    rw [hP] at this
    exact this
  have KN : Hid (∀ W, Calls Try.prog 40 #[.agg #[.int .i64 x.t.fam, .int .i64 x.t.pr, .int .i64 x.t.s.fam, .int .u64 x.t.s.hi, .int .u64 x.t.s.lo, .int .i64 x.t.d.fam, .int .u64 x.t.d.hi, .int .u64 x.t.d.lo, .int .i64 x.t.sp, .int .i64 x.t.dp, .int .i64 x.fl, .int .u32 x.sq, .int .u32 x.ak, .int .i64 x.wn, .int .i64 x.ty, .int .i64 x.cd, .bool x.er, .int .i64 x.inn.fam, .int .i64 x.inn.pr, .int .i64 x.inn.s.fam, .int .u64 x.inn.s.hi, .int .u64 x.inn.s.lo, .int .i64 x.inn.d.fam, .int .u64 x.inn.d.hi, .int .u64 x.inn.d.lo, .int .i64 x.inn.sp, .int .i64 x.inn.dp, .slice a x.data.length c]] W fun e w' => e = .returned (.bool true) ∧ Below W.heap.size W w') := fun W => by
    have := rightNumbers_any x a c W
    rw [hN] at this
    exact this
  have hL' : (x.data.length : Int) > 65000 := by omega
  go_enter Try.func19, Try.ntmps19
  go_wp2_with (first
    | (refine wpList_load_sub rfl _ _ rfl w.heap.size 0 38 (by rfl) _ #[.int .i64 x.t.fam, .int .i64 x.t.pr, .int .i64 x.t.s.fam, .int .u64 x.t.s.hi, .int .u64 x.t.s.lo, .int .i64 x.t.d.fam, .int .u64 x.t.d.hi, .int .u64 x.t.d.lo, .int .i64 x.t.sp, .int .i64 x.t.dp] B1 (by rfl) Try.underlying26 (by kernel_rfl) ?_)
    | (refine wpList_store_row rfl _ _ _ rfl W1.heap.size #[.int .i64 x.t.fam, .int .i64 x.t.pr, .int .i64 x.t.s.fam, .int .u64 x.t.s.hi, .int .u64 x.t.s.lo, .int .i64 x.t.d.fam, .int .u64 x.t.d.hi, .int .u64 x.t.d.lo, .int .i64 x.t.sp, .int .i64 x.t.dp] (by rfl) (by rfl) _ _ T2 (by kernel_rfl) (by rfl) (by kernel_rfl) ?_; rw [HW3.out]))
  refine Calls.mono K0.out ?_
  rintro e W4 ⟨rfl, bb⟩
  have b4 : Below w.heap.size w W4 := b3.trans (bb.mono b3.size)
  have B4 := B3.kept bb
  have T4 := T3.kept bb
  clear K0 bb B1 b1 B2 T2 b2 B3 T3 b3 hW1 hW2 HW3 e0 e1 e2 e3 e4 e5 e6 e7
  go_wp2_with (refine wpList_load_blk_w (by kernel_rfl) _ _ rfl W1.heap.size (by rfl) _ T4 Try.underlying26 (by kernel_rfl) ?_)
  refine Calls.mono (KP.out _) ?_
  rintro e W5 ⟨rfl, bb⟩
  have b5 : Below w.heap.size w W5 := b4.trans (bb.mono b4.size)
  have B5 := B4.kept bb
  have T5 := T4.kept bb
  clear KP bb B4 T4 b4
  go_wp2_with (refine wpList_load_blk_w (by kernel_rfl) _ _ rfl w.heap.size (by rfl) _ B5 Try.underlying38 (by kernel_rfl) ?_)
  refine Calls.mono (KN.out _) ?_
  rintro e W6 ⟨rfl, bb⟩
  have b6 : Below w.heap.size w W6 := b5.trans (bb.mono b5.size)
  have B6 := B5.kept bb
  have T6 := T5.kept bb
  clear KN bb B5 T5 b5
  have e27 := B6.cell 27 (.slice a x.data.length c) rfl
  go_wp2
  go_ret2
  exact ⟨rfl, b6⟩

end Go.Proofs.Ytgdpcomcndidcaa

namespace Go.Proofs.Ytgdpcomcndidcaa
open Go.ChangeShapes Go.WideShapes Go.ChangeAt Go.RowKit
set_option linter.unusedVariables false
set_option linter.unusedSimpArgs false
set_option linter.constructorNameAsVariable false
set_option maxRecDepth 100000

/-- The numbers of a way lie in their kinds. -/
structure Tp.ok (t : Tp) : Prop where
  fam : -9223372036854775808 ≤ t.fam ∧ t.fam ≤ 9223372036854775807
  pr : -9223372036854775808 ≤ t.pr ∧ t.pr ≤ 9223372036854775807
  s : t.s.ok
  d : t.d.ok
  sp : -9223372036854775808 ≤ t.sp ∧ t.sp ≤ 9223372036854775807
  dp : -9223372036854775808 ≤ t.dp ∧ t.dp ≤ 9223372036854775807
theorem one_of {x y : Value} (h : [x] = [y]) : x = y := (List.cons.inj h).1
theorem lst10 {cs : List Value} (h : cs.length = 10) : ∃ v0 v1 v2 v3 v4 v5 v6 v7 v8 v9, cs = [v0, v1, v2, v3, v4, v5, v6, v7, v8, v9] := by
  match cs, h with
  | [v0, v1, v2, v3, v4, v5, v6, v7, v8, v9], _ => exact ⟨v0, v1, v2, v3, v4, v5, v6, v7, v8, v9, rfl⟩
theorem tuple_cells {H : Type} {enc : TypeId × Value → H} {W : World} {fuel : Nat} {cs : List Value} {y : DataW H × List MemPlace}
    (h : DataW.trod enc Try.prog W 0 (fun _ => true) true fuel 26 cs = some y) : ∃ t : Tp, cs = (tpv t).toList ∧ t.ok := by
  have cT : Try.prog.cellsOf 26 = 10 := by kernel_rfl
  have cA : Try.prog.cellsOf 24 = 3 := by kernel_rfl
  have cI : Try.prog.cellsOf 3 = 1 := by kernel_rfl
  obtain ⟨xs, n, _, hx, hl, hlen, hf⟩ := DataW.trod_struct Try.underlying26 h
  rw [cT] at hl
  obtain ⟨v0, v1, v2, v3, v4, v5, v6, v7, v8, v9, rfl⟩ := lst10 hl
  obtain ⟨y0, y1, y2, y3, y4, y5, rfl⟩ : ∃ y0 y1 y2 y3 y4 y5, xs = [y0, y1, y2, y3, y4, y5] := by
    match xs, hlen with
    | [y0, y1, y2, y3, y4, y5], _ => exact ⟨y0, y1, y2, y3, y4, y5, rfl⟩
  have h0 : DataW.trod enc Try.prog W 0 (fun _ => true) true n 3 ((([v0, v1, v2, v3, v4, v5, v6, v7, v8, v9] : List Value).drop 0).take (Try.prog.cellsOf 3)) = some y0 := hf 0 _ rfl
  have h1 : DataW.trod enc Try.prog W 0 (fun _ => true) true n 3 ((([v0, v1, v2, v3, v4, v5, v6, v7, v8, v9] : List Value).drop 1).take (Try.prog.cellsOf 3)) = some y1 := hf 1 _ rfl
  have h2 : DataW.trod enc Try.prog W 0 (fun _ => true) true n 24 ((([v0, v1, v2, v3, v4, v5, v6, v7, v8, v9] : List Value).drop 2).take (Try.prog.cellsOf 24)) = some y2 := hf 2 _ rfl
  have h3 : DataW.trod enc Try.prog W 0 (fun _ => true) true n 24 ((([v0, v1, v2, v3, v4, v5, v6, v7, v8, v9] : List Value).drop 5).take (Try.prog.cellsOf 24)) = some y3 := hf 3 _ rfl
  have h4 : DataW.trod enc Try.prog W 0 (fun _ => true) true n 3 ((([v0, v1, v2, v3, v4, v5, v6, v7, v8, v9] : List Value).drop 8).take (Try.prog.cellsOf 3)) = some y4 := hf 4 _ rfl
  have h5 : DataW.trod enc Try.prog W 0 (fun _ => true) true n 3 ((([v0, v1, v2, v3, v4, v5, v6, v7, v8, v9] : List Value).drop 9).take (Try.prog.cellsOf 3)) = some y5 := hf 5 _ rfl
  simp only [cA, cI, List.drop_zero, List.drop_succ_cons, List.take_succ_cons, List.take_zero] at h0 h1 h2 h3 h4 h5
  obtain ⟨f, e0, _, w0⟩ := DataW.trod_int Try.underlying3 h0
  obtain ⟨pr, e1, _, w1⟩ := DataW.trod_int Try.underlying3 h1
  obtain ⟨sf, sh, sl, e2, ok2⟩ := adr_cells h2
  obtain ⟨df, dh, dl, e3, ok3⟩ := adr_cells h3
  obtain ⟨sp, e4, _, w4⟩ := DataW.trod_int Try.underlying3 h4
  obtain ⟨dp, e5, _, w5⟩ := DataW.trod_int Try.underlying3 h5
  simp only [List.cons.injEq, and_true] at e2
  simp only [List.cons.injEq, and_true] at e3
  obtain ⟨rfl, rfl, rfl⟩ := e2
  obtain ⟨rfl, rfl, rfl⟩ := e3
  obtain rfl := one_of e0
  obtain rfl := one_of e1
  obtain rfl := one_of e4
  obtain rfl := one_of e5
  exact ⟨⟨f, pr, ⟨sf, sh, sl⟩, ⟨df, dh, dl⟩, sp, dp⟩, rfl, ⟨wf_i64 w0, wf_i64 w1, ok2, ok3, wf_i64 w4, wf_i64 w5⟩⟩
theorem open_tuple {H : Type} {enc : TypeId × Value → H} {W : World} {base : Nat} {v : Value} {d : DataW H} {p : List MemPlace}
    (hv : Value.okWide Try.prog W .any base 26 v) (h : DataW.Trod enc Try.prog W 0 (fun _ => true) true 26 v d p) : ∃ t : Tp, v = .agg (tpv t) ∧ t.ok := by
  obtain ⟨cs, rfl, hs⟩ := okWide_struct Try.underlying26 hv
  obtain ⟨fuel, hf0⟩ := h
  obtain ⟨t, e, ok⟩ := tuple_cells hf0
  refine ⟨t, ?_, ok⟩
  have e' : cs.toList = (tpv t).toList := e
  rw [Array.toList_inj.1 e']
theorem arr28 {cs : Array Value} (h : cs.size = 28) : ∃ v0 v1 v2 v3 v4 v5 v6 v7 v8 v9 v10 v11 v12 v13 v14 v15 v16 v17 v18 v19 v20 v21 v22 v23 v24 v25 v26 v27, cs = #[v0, v1, v2, v3, v4, v5, v6, v7, v8, v9, v10, v11, v12, v13, v14, v15, v16, v17, v18, v19, v20, v21, v22, v23, v24, v25, v26, v27] := by
  obtain ⟨l⟩ := cs
  match l, h with
  | [v0, v1, v2, v3, v4, v5, v6, v7, v8, v9, v10, v11, v12, v13, v14, v15, v16, v17, v18, v19, v20, v21, v22, v23, v24, v25, v26, v27], _ => exact ⟨v0, v1, v2, v3, v4, v5, v6, v7, v8, v9, v10, v11, v12, v13, v14, v15, v16, v17, v18, v19, v20, v21, v22, v23, v24, v25, v26, v27, rfl⟩
theorem open_seg {H : Type} {enc : TypeId × Value → H} {W : World} {base : Nat} {v : Value} {d : DataW H} {p : List MemPlace}
    (hv : Value.okWide Try.prog W .any base 38 v) (h : DataW.Trod enc Try.prog W 0 (fun _ => true) true 38 v d p) (hsz : ∀ n ∈ d.weights Try.prog 38, n ≤ reachBytes) :
    ∃ (x : Sg) (da : Option Addr) (dc : Nat), v = .agg (sgv x da dc) ∧ x.ok ∧ x.t.ok ∧ x.data.length ≤ dc ∧ dc ≤ 140737488351232 ∧ (da = none → dc = 0) ∧ Row W da x.data := by
  have cS : Try.prog.cellsOf 38 = 28 := by kernel_rfl
  have cT : Try.prog.cellsOf 26 = 10 := by kernel_rfl
  have cI : Try.prog.cellsOf 3 = 1 := by kernel_rfl
  have cB : Try.prog.cellsOf 4 = 1 := by kernel_rfl
  have cU : Try.prog.cellsOf 33 = 1 := by kernel_rfl
  have cY : Try.prog.cellsOf 28 = 1 := by kernel_rfl
  obtain ⟨cs, rfl, hs⟩ := okWide_struct Try.underlying38 hv
  obtain ⟨v0, v1, v2, v3, v4, v5, v6, v7, v8, v9, v10, v11, v12, v13, v14, v15, v16, v17, v18, v19, v20, v21, v22, v23, v24, v25, v26, v27, rfl⟩ := arr28 (hs.trans cS)
  obtain ⟨fuel, hf0⟩ := h
  obtain ⟨xs, n, _, hx, hl, hlen, hf⟩ := DataW.trod_struct Try.underlying38 hf0
  obtain ⟨y0, y1, y2, y3, y4, y5, y6, y7, y8, y9, rfl⟩ : ∃ y0 y1 y2 y3 y4 y5 y6 y7 y8 y9, xs = [y0, y1, y2, y3, y4, y5, y6, y7, y8, y9] := by
    match xs, hlen with
    | [y0, y1, y2, y3, y4, y5, y6, y7, y8, y9], _ => exact ⟨y0, y1, y2, y3, y4, y5, y6, y7, y8, y9, rfl⟩
  have h0 : DataW.trod enc Try.prog W 0 (fun _ => true) true n 26 ((([v0, v1, v2, v3, v4, v5, v6, v7, v8, v9, v10, v11, v12, v13, v14, v15, v16, v17, v18, v19, v20, v21, v22, v23, v24, v25, v26, v27] : List Value).drop 0).take (Try.prog.cellsOf 26)) = some y0 := hf 0 _ rfl
  have h1 : DataW.trod enc Try.prog W 0 (fun _ => true) true n 3 ((([v0, v1, v2, v3, v4, v5, v6, v7, v8, v9, v10, v11, v12, v13, v14, v15, v16, v17, v18, v19, v20, v21, v22, v23, v24, v25, v26, v27] : List Value).drop 10).take (Try.prog.cellsOf 3)) = some y1 := hf 1 _ rfl
  have h2 : DataW.trod enc Try.prog W 0 (fun _ => true) true n 33 ((([v0, v1, v2, v3, v4, v5, v6, v7, v8, v9, v10, v11, v12, v13, v14, v15, v16, v17, v18, v19, v20, v21, v22, v23, v24, v25, v26, v27] : List Value).drop 11).take (Try.prog.cellsOf 33)) = some y2 := hf 2 _ rfl
  have h3 : DataW.trod enc Try.prog W 0 (fun _ => true) true n 33 ((([v0, v1, v2, v3, v4, v5, v6, v7, v8, v9, v10, v11, v12, v13, v14, v15, v16, v17, v18, v19, v20, v21, v22, v23, v24, v25, v26, v27] : List Value).drop 12).take (Try.prog.cellsOf 33)) = some y3 := hf 3 _ rfl
  have h4 : DataW.trod enc Try.prog W 0 (fun _ => true) true n 3 ((([v0, v1, v2, v3, v4, v5, v6, v7, v8, v9, v10, v11, v12, v13, v14, v15, v16, v17, v18, v19, v20, v21, v22, v23, v24, v25, v26, v27] : List Value).drop 13).take (Try.prog.cellsOf 3)) = some y4 := hf 4 _ rfl
  have h5 : DataW.trod enc Try.prog W 0 (fun _ => true) true n 3 ((([v0, v1, v2, v3, v4, v5, v6, v7, v8, v9, v10, v11, v12, v13, v14, v15, v16, v17, v18, v19, v20, v21, v22, v23, v24, v25, v26, v27] : List Value).drop 14).take (Try.prog.cellsOf 3)) = some y5 := hf 5 _ rfl
  have h6 : DataW.trod enc Try.prog W 0 (fun _ => true) true n 3 ((([v0, v1, v2, v3, v4, v5, v6, v7, v8, v9, v10, v11, v12, v13, v14, v15, v16, v17, v18, v19, v20, v21, v22, v23, v24, v25, v26, v27] : List Value).drop 15).take (Try.prog.cellsOf 3)) = some y6 := hf 6 _ rfl
  have h7 : DataW.trod enc Try.prog W 0 (fun _ => true) true n 4 ((([v0, v1, v2, v3, v4, v5, v6, v7, v8, v9, v10, v11, v12, v13, v14, v15, v16, v17, v18, v19, v20, v21, v22, v23, v24, v25, v26, v27] : List Value).drop 16).take (Try.prog.cellsOf 4)) = some y7 := hf 7 _ rfl
  have h8 : DataW.trod enc Try.prog W 0 (fun _ => true) true n 26 ((([v0, v1, v2, v3, v4, v5, v6, v7, v8, v9, v10, v11, v12, v13, v14, v15, v16, v17, v18, v19, v20, v21, v22, v23, v24, v25, v26, v27] : List Value).drop 17).take (Try.prog.cellsOf 26)) = some y8 := hf 8 _ rfl
  have h9 : DataW.trod enc Try.prog W 0 (fun _ => true) true n 28 ((([v0, v1, v2, v3, v4, v5, v6, v7, v8, v9, v10, v11, v12, v13, v14, v15, v16, v17, v18, v19, v20, v21, v22, v23, v24, v25, v26, v27] : List Value).drop 27).take (Try.prog.cellsOf 28)) = some y9 := hf 9 _ rfl
  simp only [cT, cI, cB, cU, cY, List.drop_zero, List.drop_succ_cons, List.take_succ_cons, List.take_zero] at h0 h1 h2 h3 h4 h5 h6 h7 h8 h9
  obtain ⟨t, e0, ok0⟩ := tuple_cells h0
  obtain ⟨fl, e1, _, w1⟩ := DataW.trod_int Try.underlying3 h1
  obtain ⟨sq, e2, _, w2⟩ := DataW.trod_int Try.underlying33 h2
  obtain ⟨ak, e3, _, w3⟩ := DataW.trod_int Try.underlying33 h3
  obtain ⟨wn, e4, _, w4⟩ := DataW.trod_int Try.underlying3 h4
  obtain ⟨ty, e5, _, w5⟩ := DataW.trod_int Try.underlying3 h5
  obtain ⟨cd, e6, _, w6⟩ := DataW.trod_int Try.underlying3 h6
  obtain ⟨er, e7, _⟩ := DataW.trod_bool Try.underlying4 h7
  obtain ⟨ti, e8, ok8⟩ := tuple_cells h8
  have hd : d = .agg [y0.1, y1.1, y2.1, y3.1, y4.1, y5.1, y6.1, y7.1, y8.1, y9.1] := by simpa using congrArg Prod.fst hx
  obtain ⟨da, dc, dat, e9, g1, g2, g3, g4⟩ := bytes_cells h9 (fun m hm => hsz m (by
    rw [hd]
    simp only [DataW.weights, Try.underlying38]
    exact DataW.weights_mem_each (j := 9) (t := 28) rfl rfl m hm))
  simp only [List.cons.injEq, and_true] at e0
  simp only [List.cons.injEq, and_true] at e8
  obtain ⟨rfl, rfl, rfl, rfl, rfl, rfl, rfl, rfl, rfl, rfl⟩ := e0
  obtain ⟨rfl, rfl, rfl, rfl, rfl, rfl, rfl, rfl, rfl, rfl⟩ := e8
  obtain rfl := one_of e1
  obtain rfl := one_of e2
  obtain rfl := one_of e3
  obtain rfl := one_of e4
  obtain rfl := one_of e5
  obtain rfl := one_of e6
  obtain rfl := one_of e7
  obtain rfl := one_of e9
  exact ⟨⟨t, fl, sq, ak, wn, ty, cd, er, ti, dat⟩, da, dc, rfl, ⟨ok0.s, ok0.d, wf_u32 w2, wf_u32 w3⟩, ok0, g1, g2, g3, g4⟩
end Go.Proofs.Ytgdpcomcndidcaa

namespace Go.Proofs.Ytgdpcomcndidcaa
open Go.RowKit
set_option linter.unusedVariables false
set_option linter.unusedSimpArgs false

set_option maxRecDepth 100000 in
set_option maxHeartbeats 4000000 in
theorem build_yes (x : Sg) (a : Option Addr) (c : Nat) (w : World) (h : Row w a x.data) (hnil : a = none → c = 0) (ok : x.ok) (hE : endsB x.t.fam x.t.s x.t.d = true) (hP : protoB x = true) (hN : numB x = true) (hL : x.data.length ≤ 65000) :
    Calls Try.prog 19 #[.agg #[.int .i64 x.t.fam, .int .i64 x.t.pr, .int .i64 x.t.s.fam, .int .u64 x.t.s.hi, .int .u64 x.t.s.lo, .int .i64 x.t.d.fam, .int .u64 x.t.d.hi, .int .u64 x.t.d.lo, .int .i64 x.t.sp, .int .i64 x.t.dp, .int .i64 x.fl, .int .u32 x.sq, .int .u32 x.ak, .int .i64 x.wn, .int .i64 x.ty, .int .i64 x.cd, .bool x.er, .int .i64 x.inn.fam, .int .i64 x.inn.pr, .int .i64 x.inn.s.fam, .int .u64 x.inn.s.hi, .int .u64 x.inn.s.lo, .int .i64 x.inn.d.fam, .int .u64 x.inn.d.hi, .int .u64 x.inn.d.lo, .int .i64 x.inn.sp, .int .i64 x.inn.dp, .slice a x.data.length c]] w fun e w' => ∃ a' c', e = .returned (.tuple #[.slice a' (madeB x).length c', .int .i64 0]) ∧ Fresh w w' a' c' (madeB x) := by
  obtain ⟨W1, hW1⟩ : ∃ W1, w.alloc (.cells #[.int .i64 x.t.fam, .int .i64 x.t.pr, .int .i64 x.t.s.fam, .int .u64 x.t.s.hi, .int .u64 x.t.s.lo, .int .i64 x.t.d.fam, .int .u64 x.t.d.hi, .int .u64 x.t.d.lo, .int .i64 x.t.sp, .int .i64 x.t.dp, .int .i64 x.fl, .int .u32 x.sq, .int .u32 x.ak, .int .i64 x.wn, .int .i64 x.ty, .int .i64 x.cd, .bool x.er, .int .i64 x.inn.fam, .int .i64 x.inn.pr, .int .i64 x.inn.s.fam, .int .u64 x.inn.s.hi, .int .u64 x.inn.s.lo, .int .i64 x.inn.d.fam, .int .u64 x.inn.d.hi, .int .u64 x.inn.d.lo, .int .i64 x.inn.sp, .int .i64 x.inn.dp, .slice a x.data.length c] 38) = W1 := ⟨_, rfl⟩
  have b1 : Below w.heap.size w W1 := by rw [← hW1]; exact (Below.refl _ _).alloc (Nat.le_refl _) _
  have B1 : Blk W1 w.heap.size 38 #[.int .i64 x.t.fam, .int .i64 x.t.pr, .int .i64 x.t.s.fam, .int .u64 x.t.s.hi, .int .u64 x.t.s.lo, .int .i64 x.t.d.fam, .int .u64 x.t.d.hi, .int .u64 x.t.d.lo, .int .i64 x.t.sp, .int .i64 x.t.dp, .int .i64 x.fl, .int .u32 x.sq, .int .u32 x.ak, .int .i64 x.wn, .int .i64 x.ty, .int .i64 x.cd, .bool x.er, .int .i64 x.inn.fam, .int .i64 x.inn.pr, .int .i64 x.inn.s.fam, .int .u64 x.inn.s.hi, .int .u64 x.inn.s.lo, .int .i64 x.inn.d.fam, .int .u64 x.inn.d.hi, .int .u64 x.inn.d.lo, .int .i64 x.inn.sp, .int .i64 x.inn.dp, .slice a x.data.length c] := by rw [← hW1]; exact blk_new _ _ _
  have g1 : w.heap.size < W1.heap.size := B1.lt
  obtain ⟨W2, hW2⟩ : ∃ W2, W1.alloc (.cells #[.int .i64 0, .int .i64 0, .int .i64 0, .int .u64 0, .int .u64 0, .int .i64 0, .int .u64 0, .int .u64 0, .int .i64 0, .int .i64 0] 26) = W2 := ⟨_, rfl⟩
  have b2 : Below w.heap.size w W2 := by rw [← hW2]; exact b1.alloc b1.size _
  have B2 : Blk W2 w.heap.size 38 #[.int .i64 x.t.fam, .int .i64 x.t.pr, .int .i64 x.t.s.fam, .int .u64 x.t.s.hi, .int .u64 x.t.s.lo, .int .i64 x.t.d.fam, .int .u64 x.t.d.hi, .int .u64 x.t.d.lo, .int .i64 x.t.sp, .int .i64 x.t.dp, .int .i64 x.fl, .int .u32 x.sq, .int .u32 x.ak, .int .i64 x.wn, .int .i64 x.ty, .int .i64 x.cd, .bool x.er, .int .i64 x.inn.fam, .int .i64 x.inn.pr, .int .i64 x.inn.s.fam, .int .u64 x.inn.s.hi, .int .u64 x.inn.s.lo, .int .i64 x.inn.d.fam, .int .u64 x.inn.d.hi, .int .u64 x.inn.d.lo, .int .i64 x.inn.sp, .int .i64 x.inn.dp, .slice a x.data.length c] := by rw [← hW2]; exact B1.alloc _
  have T2 : Blk W2 W1.heap.size 26 #[.int .i64 0, .int .i64 0, .int .i64 0, .int .u64 0, .int .u64 0, .int .i64 0, .int .u64 0, .int .u64 0, .int .i64 0, .int .i64 0] := by rw [← hW2]; exact blk_new _ _ _
  obtain ⟨W3, hW3⟩ : ∃ W, W2.setRow W1.heap.size #[.int .i64 x.t.fam, .int .i64 x.t.pr, .int .i64 x.t.s.fam, .int .u64 x.t.s.hi, .int .u64 x.t.s.lo, .int .i64 x.t.d.fam, .int .u64 x.t.d.hi, .int .u64 x.t.d.lo, .int .i64 x.t.sp, .int .i64 x.t.dp] = W := ⟨_, rfl⟩
  have b3 : Below w.heap.size w W3 := by rw [← hW3]; exact below_setRow b2 (Nat.le_of_lt g1) _
  have B3 : Blk W3 w.heap.size 38 #[.int .i64 x.t.fam, .int .i64 x.t.pr, .int .i64 x.t.s.fam, .int .u64 x.t.s.hi, .int .u64 x.t.s.lo, .int .i64 x.t.d.fam, .int .u64 x.t.d.hi, .int .u64 x.t.d.lo, .int .i64 x.t.sp, .int .i64 x.t.dp, .int .i64 x.fl, .int .u32 x.sq, .int .u32 x.ak, .int .i64 x.wn, .int .i64 x.ty, .int .i64 x.cd, .bool x.er, .int .i64 x.inn.fam, .int .i64 x.inn.pr, .int .i64 x.inn.s.fam, .int .u64 x.inn.s.hi, .int .u64 x.inn.s.lo, .int .i64 x.inn.d.fam, .int .u64 x.inn.d.hi, .int .u64 x.inn.d.lo, .int .i64 x.inn.sp, .int .i64 x.inn.dp, .slice a x.data.length c] := by rw [← hW3]; exact B2.other (by omega) _
  have T3 : Blk W3 W1.heap.size 26 #[.int .i64 x.t.fam, .int .i64 x.t.pr, .int .i64 x.t.s.fam, .int .u64 x.t.s.hi, .int .u64 x.t.s.lo, .int .i64 x.t.d.fam, .int .u64 x.t.d.hi, .int .u64 x.t.d.lo, .int .i64 x.t.sp, .int .i64 x.t.dp] := by rw [← hW3]; exact T2.set _
  have HW3 : Hid _ := hW3
  clear hW3
  have K0 : Hid _ := ofFamily_any x.t.fam x.t.s.fam x.t.s.hi x.t.s.lo x.t.d.fam x.t.d.hi x.t.d.lo W3
  have e0 := T3.cell 0 (.int .i64 x.t.fam) rfl
  have e1 := T3.cell 1 (.int .i64 x.t.pr) rfl
  have e2 := T3.cell 2 (.int .i64 x.t.s.fam) rfl
  have e3 := T3.cell 3 (.int .u64 x.t.s.hi) rfl
  have e4 := T3.cell 4 (.int .u64 x.t.s.lo) rfl
  have e5 := T3.cell 5 (.int .i64 x.t.d.fam) rfl
  have e6 := T3.cell 6 (.int .u64 x.t.d.hi) rfl
  have e7 := T3.cell 7 (.int .u64 x.t.d.lo) rfl
  rw [show endsB x.t.fam ⟨x.t.s.fam, x.t.s.hi, x.t.s.lo⟩ ⟨x.t.d.fam, x.t.d.hi, x.t.d.lo⟩ = true from hE] at K0
  have KP : Hid (∀ W, Calls Try.prog 39 #[.agg #[.int .i64 x.t.fam, .int .i64 x.t.pr, .int .i64 x.t.s.fam, .int .u64 x.t.s.hi, .int .u64 x.t.s.lo, .int .i64 x.t.d.fam, .int .u64 x.t.d.hi, .int .u64 x.t.d.lo, .int .i64 x.t.sp, .int .i64 x.t.dp]] W fun e w' => e = .returned (.bool true) ∧ Below W.heap.size W w') := fun W => by
    have := rightProto_any x W
    rw [hP] at this
    exact this
  have KN : Hid (∀ W, Calls Try.prog 40 #[.agg #[.int .i64 x.t.fam, .int .i64 x.t.pr, .int .i64 x.t.s.fam, .int .u64 x.t.s.hi, .int .u64 x.t.s.lo, .int .i64 x.t.d.fam, .int .u64 x.t.d.hi, .int .u64 x.t.d.lo, .int .i64 x.t.sp, .int .i64 x.t.dp, .int .i64 x.fl, .int .u32 x.sq, .int .u32 x.ak, .int .i64 x.wn, .int .i64 x.ty, .int .i64 x.cd, .bool x.er, .int .i64 x.inn.fam, .int .i64 x.inn.pr, .int .i64 x.inn.s.fam, .int .u64 x.inn.s.hi, .int .u64 x.inn.s.lo, .int .i64 x.inn.d.fam, .int .u64 x.inn.d.hi, .int .u64 x.inn.d.lo, .int .i64 x.inn.sp, .int .i64 x.inn.dp, .slice a x.data.length c]] W fun e w' => e = .returned (.bool true) ∧ Below W.heap.size W w') := fun W => by
    have := rightNumbers_any x a c W
    rw [hN] at this
    exact this
  obtain ⟨HD, hHD⟩ : ∃ L, headB x = L := ⟨_, rfl⟩
  obtain ⟨P, hP_⟩ : ∃ P, placeB x = P := ⟨_, rfl⟩
  obtain ⟨BD, hBD⟩ : ∃ L, bodyB x = L := ⟨_, rfl⟩
  have hBD' : HD ++ x.data = BD := by rw [← hBD, ← hHD]; rfl
  have lH := headB_len x
  rw [hHD, hP_] at lH
  have lB : BD.length = HD.length + x.data.length := by rw [← hBD', List.length_append]
  have lP : P + 2 ≤ BD.length := by omega
  have lB2 : BD.length ≤ 65020 := by omega
  obtain ⟨L0, hL0⟩ : ∃ L, ahead x.t.s x.t.d x.t.pr BD.length = L := ⟨_, rfl⟩
  obtain ⟨SU, hSU⟩ : ∃ s, sumB x = s := ⟨_, rfl⟩
  have hSU' : 65535 - M.sumOf [L0, BD] = SU := by rw [← hSU, ← hL0, ← hBD]; rfl
  have qS := sumB_bd x
  rw [hSU] at qS
  obtain ⟨CK, hCK⟩ : ∃ s, checkB x = s := ⟨_, rfl⟩
  have qC := checkB_bd x
  rw [hCK] at qC
  obtain ⟨MD, hMD⟩ : ∃ s, madeB x = s := ⟨_, rfl⟩
  have hMD' : (BD.set P (CK / 256)).set (P + 1) (CK % 256) = MD := by rw [← hMD, ← hBD, ← hP_, ← hCK]; rfl
  rw [hMD]
  have KW : Hid (∀ W, Calls Try.prog 41 #[.agg #[.int .i64 x.t.fam, .int .i64 x.t.pr, .int .i64 x.t.s.fam, .int .u64 x.t.s.hi, .int .u64 x.t.s.lo, .int .i64 x.t.d.fam, .int .u64 x.t.d.hi, .int .u64 x.t.d.lo, .int .i64 x.t.sp, .int .i64 x.t.dp, .int .i64 x.fl, .int .u32 x.sq, .int .u32 x.ak, .int .i64 x.wn, .int .i64 x.ty, .int .i64 x.cd, .bool x.er, .int .i64 x.inn.fam, .int .i64 x.inn.pr, .int .i64 x.inn.s.fam, .int .u64 x.inn.s.hi, .int .u64 x.inn.s.lo, .int .i64 x.inn.d.fam, .int .u64 x.inn.d.hi, .int .u64 x.inn.d.lo, .int .i64 x.inn.sp, .int .i64 x.inn.dp, .slice a x.data.length c]] W fun e w' => ∃ a' c', e = .returned (.tuple #[.slice a' HD.length c', .int .i64 (P : Nat)]) ∧ Fresh W w' a' c' HD) := fun W => by
    have := written_any x a c W ok.sq ok.ak h.small
    rw [hHD, hP_] at this
    exact this
  have KS : Hid (∀ W, Calls Try.prog 43 #[.agg #[.int .i64 x.t.fam, .int .i64 x.t.pr, .int .i64 x.t.s.fam, .int .u64 x.t.s.hi, .int .u64 x.t.s.lo, .int .i64 x.t.d.fam, .int .u64 x.t.d.hi, .int .u64 x.t.d.lo, .int .i64 x.t.sp, .int .i64 x.t.dp], .int .i64 (BD.length : Int)] W fun e w' => ∃ a c, e = .returned (.slice a L0.length c) ∧ Fresh W w' a c L0) := fun W => by
    have := summed_any x.t.fam x.t.pr x.t.s.fam x.t.s.hi x.t.s.lo x.t.d.fam x.t.d.hi x.t.d.lo x.t.sp x.t.dp (BD.length : Int) W ok.s ok.d
    rw [show ahead ⟨x.t.s.fam, x.t.s.hi, x.t.s.lo⟩ ⟨x.t.d.fam, x.t.d.hi, x.t.d.lo⟩ x.t.pr (BD.length : Int) = L0 from hL0] at this
    exact this
  have KC : Hid (∀ W a' c' a2 c2, Row W a' L0 → Row W a2 BD → Calls Try.prog 42 #[.slice (some ⟨W.heap.size, 0, none⟩) 2 2] (W.alloc (.cells #[.slice a' L0.length c', .slice a2 BD.length c2] 28)) fun e w' => e = .returned (.int .i64 SU) ∧ w' = W.alloc (.cells #[.slice a' L0.length c', .slice a2 BD.length c2] 28)) := fun W a' c' a2 c2 h1 h2 => by
    have := check_any (some ⟨W.heap.size, 0, none⟩) 2 [L0, BD] _ (rowss_two W 28 W.heap.size rfl a' a2 c' c2 L0 BD h1 h2)
    rw [hSU'] at this
    exact this
  have HBD : Hid (HD ++ x.data = BD) := hBD'
  have HMD : Hid ((BD.set P (CK / 256)).set (P + 1) (CK % 256) = MD) := hMD'
  have hL' : ¬ (x.data.length : Int) > 65000 := by omega
  have j1 : (0 : Int) ≤ (P : Int) := by omega
  have j2 : (P : Int) < (BD.length : Int) := by omega
  have j3 : (P : Int) + 1 < (BD.length : Int) := by omega
  have w1 : IntKind.i64.wrap ((P : Int) + 1) = (P : Int) + 1 := wraps_i64 _ (by omega) (by omega)
  have wc1 : IntKind.u8.wrap (CK / 256) = CK / 256 := by rw [wrapU8]; omega
  have wc2 : IntKind.u8.wrap CK = CK % 256 := wrapU8 CK
  have hckc : CK = if SU = 0 ∧ x.t.pr = 17 then 65535 else SU := by rw [← hCK, ← hSU]; rfl
  have HCK : Hid (CK = if SU = 0 ∧ x.t.pr = 17 then 65535 else SU) := hckc
  clear hHD hP_ hBD hBD' hL0 hSU hSU' hCK hMD hMD' hckc lB lH
  go_enter Try.func19, Try.ntmps19
  go_wp2_with (first
    | (refine wpList_load_sub rfl _ _ rfl w.heap.size 0 38 (by rfl) _ #[.int .i64 x.t.fam, .int .i64 x.t.pr, .int .i64 x.t.s.fam, .int .u64 x.t.s.hi, .int .u64 x.t.s.lo, .int .i64 x.t.d.fam, .int .u64 x.t.d.hi, .int .u64 x.t.d.lo, .int .i64 x.t.sp, .int .i64 x.t.dp] B1 (by rfl) Try.underlying26 (by kernel_rfl) ?_)
    | (refine wpList_store_row rfl _ _ _ rfl W1.heap.size #[.int .i64 x.t.fam, .int .i64 x.t.pr, .int .i64 x.t.s.fam, .int .u64 x.t.s.hi, .int .u64 x.t.s.lo, .int .i64 x.t.d.fam, .int .u64 x.t.d.hi, .int .u64 x.t.d.lo, .int .i64 x.t.sp, .int .i64 x.t.dp] (by rfl) (by rfl) _ _ T2 (by kernel_rfl) (by rfl) (by kernel_rfl) ?_; rw [HW3.out]))
  refine Calls.mono K0.out ?_
  rintro e W4 ⟨rfl, bb⟩
  have b4 : Below w.heap.size w W4 := b3.trans (bb.mono b3.size)
  have B4 := B3.kept bb
  have T4 := T3.kept bb
  clear K0 bb B1 b1 B2 T2 b2 B3 T3 b3 hW1 hW2 HW3 e0 e1 e2 e3 e4 e5 e6 e7
  go_wp2_with (refine wpList_load_blk_w (by kernel_rfl) _ _ rfl W1.heap.size (by rfl) _ T4 Try.underlying26 (by kernel_rfl) ?_)
  refine Calls.mono (KP.out _) ?_
  rintro e W5 ⟨rfl, bb⟩
  have b5 : Below w.heap.size w W5 := b4.trans (bb.mono b4.size)
  have B5 := B4.kept bb
  have T5 := T4.kept bb
  clear KP bb B4 T4 b4
  go_wp2_with (refine wpList_load_blk_w (by kernel_rfl) _ _ rfl w.heap.size (by rfl) _ B5 Try.underlying38 (by kernel_rfl) ?_)
  refine Calls.mono (KN.out _) ?_
  rintro e W6 ⟨rfl, bb⟩
  have b6 : Below w.heap.size w W6 := b5.trans (bb.mono b5.size)
  have B6 := B5.kept bb
  have T6 := T5.kept bb
  clear KN bb B5 T5 b5
  have e27 := B6.cell 27 (.slice a x.data.length c) rfl
  go_wp2_with (refine wpList_load_row rfl _ _ rfl w.heap.size (by rfl) _ _ _ _ B6 Try.underlying38 rfl (by kernel_rfl) ?_)
  refine Calls.mono (KW.out _) ?_
  rintro e W7 ⟨a7, c7, rfl, f7⟩
  have b7 : Below w.heap.size w W7 := b6.trans (f7.below.mono b6.size)
  have B7 := B6.kept f7.below
  have T7 := T6.kept f7.below
  have e27 := B7.cell 27 (.slice a x.data.length c) rfl
  have KX : Hid _ := concat2 W7 a7 a c7 c HD x.data BD f7.row f7.nil (h.below b7) hnil HBD.out (by omega)
  clear KW f7 B6 T6 b6 HBD
  go_wp2_with fail
  refine Calls.mono KX.out ?_
  rintro e W8 ⟨a8, c8, rfl, f8⟩
  have b8 : Below w.heap.size w W8 := b7.trans (f8.below.mono b7.size)
  have T8 := T7.kept f8.below
  have r8 := f8.row
  have O8 := owns_le (B' := W1.heap.size + 1) (by have := T7.lt; omega) f8.owns
  have rm8 := f8.room
  have nl8 := f8.nil
  clear KX f8 B7 T7 b7 e27
  go_wp2_with (refine wpList_load_row rfl _ _ rfl W1.heap.size (by rfl) _ _ _ _ T8 Try.underlying26 rfl (by kernel_rfl) ?_)
  refine Calls.mono (KS.out _) ?_
  rintro e W9 ⟨a9, c9, rfl, f9⟩
  have b9 : Below w.heap.size w W9 := b8.trans (f9.below.mono b8.size)
  have T9 := T8.kept f9.below
  have r9 := r8.below f9.below
  have O9 := O8.below f9.below
  have q9 := f9.row
  clear KS f9 T8 b8 r8 O8
  go_wp2_with fail
  refine Calls.mono (KC.out _ _ _ _ _ q9 r9) ?_
  rintro e W10 ⟨rfl, hW10⟩
  have b10 : Below w.heap.size w W10 := by rw [hW10]; exact b9.alloc b9.size _
  have T10 : Blk W10 W1.heap.size 26 #[.int .i64 x.t.fam, .int .i64 x.t.pr, .int .i64 x.t.s.fam, .int .u64 x.t.s.hi, .int .u64 x.t.s.lo, .int .i64 x.t.d.fam, .int .u64 x.t.d.hi, .int .u64 x.t.d.lo, .int .i64 x.t.sp, .int .i64 x.t.dp] := by rw [hW10]; exact T9.alloc _
  have r10 : Row W10 a8 BD := by rw [hW10]; exact r9.alloc _
  have O10 : Owns W10 (W1.heap.size + 1) (.slice a8 BD.length c8) BD := by rw [hW10]; exact O9.alloc _
  have t1 := T10.cell 1 (.int .i64 x.t.pr) rfl
  clear KC hW10 T9 b9 r9 O9 q9
  obtain ⟨g, rfl, hg1, hg2, y1, z1, O11⟩ := O10.write rfl P (by omega)
  obtain ⟨g', hg', _, _, y2, z2, _⟩ := O10.write rfl (P + 1) (by omega)
  cases hg'
  have O12 := (O11 (CK / 256)).write (by simp) (P + 1) (by omega)
  obtain ⟨g', hg', _, _, _, _, O12⟩ := O12
  cases hg'
  have Of := O12 (CK % 256)
  rw [HMD.out] at Of
  have bf := (b10.setCell (p := ⟨g, P, none⟩) (show w.heap.size ≤ g by omega) (.int .u8 (CK / 256))).setCell (p := ⟨g, P + 1, none⟩) (show w.heap.size ≤ g by omega) (.int .u8 (CK % 256))
  have lM : MD.length = BD.length := by rw [← HMD.out]; simp
  have bM : M.Bytes MD := by
    rw [← HMD.out]
    exact (r10.bytes.set P (by omega)).set (P + 1) (by omega)
  have HOf : Hid (Owns ((W10.setCell ⟨g, P, none⟩ (.int .u8 (CK / 256))).setCell ⟨g, P + 1, none⟩ (.int .u8 (CK % 256))) (W1.heap.size + 1) (.slice (some ⟨g, 0, none⟩) BD.length c8) MD) := Of
  have Hbf : Hid _ := bf
  clear O11 O12 O10 Of bf T10
  have lM' : Hid (MD.length = BD.length) := lM
  clear lM
  by_cases hz : SU = 0
  · have hz' : (SU == 0) = true := by simpa using hz
    by_cases h17 : x.t.pr = 17
    · have h17' : (x.t.pr == 17) = true := by simpa using h17
      have e : CK = 65535 := by rw [HCK.out, if_pos ⟨hz, h17⟩]
      subst e
      clear hz h17 HCK
      go_wp2
      go_ret2
      have lM := lM'.out
      have Of : Owns _ (W1.heap.size + 1) (.slice (some ⟨g, 0, none⟩) BD.length c8) MD := HOf.out
      rw [← lM] at Of
      have Rf := Owns.row Of (by omega) bM
      exact ⟨some ⟨g, 0, none⟩, c8, by rw [lM]; rfl, owns_le (by omega) Of, by omega, nl8, Rf, Hbf.out⟩
    · have h17' : (x.t.pr == 17) = false := by simpa using h17
      have e : CK = SU := by rw [HCK.out, if_neg (by intro hh; exact h17 hh.2)]
      subst e
      clear hz h17 HCK
      go_wp2
      go_ret2
      have lM := lM'.out
      have Of : Owns _ (W1.heap.size + 1) (.slice (some ⟨g, 0, none⟩) BD.length c8) MD := HOf.out
      rw [← lM] at Of
      have Rf := Owns.row Of (by omega) bM
      exact ⟨some ⟨g, 0, none⟩, c8, by rw [lM]; rfl, owns_le (by omega) Of, by omega, nl8, Rf, Hbf.out⟩
  · have hz' : (SU == 0) = false := by simpa using hz
    have e : CK = SU := by rw [HCK.out, if_neg (by intro hh; exact hz hh.1)]
    subst e
    clear hz HCK
    go_wp2
    go_ret2
    have lM := lM'.out
    have Of : Owns _ (W1.heap.size + 1) (.slice (some ⟨g, 0, none⟩) BD.length c8) MD := HOf.out
    rw [← lM] at Of
    have Rf := Owns.row Of (by omega) bM
    exact ⟨some ⟨g, 0, none⟩, c8, by rw [lM]; rfl, owns_le (by omega) Of, by omega, nl8, Rf, Hbf.out⟩

theorem build_any (x : Sg) (a : Option Addr) (c : Nat) (w : World) (h : Row w a x.data) (hnil : a = none → c = 0) (ok : x.ok) :
    Calls Try.prog 19 #[.agg #[.int .i64 x.t.fam, .int .i64 x.t.pr, .int .i64 x.t.s.fam, .int .u64 x.t.s.hi, .int .u64 x.t.s.lo, .int .i64 x.t.d.fam, .int .u64 x.t.d.hi, .int .u64 x.t.d.lo, .int .i64 x.t.sp, .int .i64 x.t.dp, .int .i64 x.fl, .int .u32 x.sq, .int .u32 x.ak, .int .i64 x.wn, .int .i64 x.ty, .int .i64 x.cd, .bool x.er, .int .i64 x.inn.fam, .int .i64 x.inn.pr, .int .i64 x.inn.s.fam, .int .u64 x.inn.s.hi, .int .u64 x.inn.s.lo, .int .i64 x.inn.d.fam, .int .u64 x.inn.d.hi, .int .u64 x.inn.d.lo, .int .i64 x.inn.sp, .int .i64 x.inn.dp, .slice a x.data.length c]] w fun e w' => ∃ a' c', e = .returned (.tuple #[.slice a' (if mayB x = true then madeB x else []).length c', .int .i64 (if mayB x = true then 0 else 1)]) ∧ Fresh w w' a' c' (if mayB x = true then madeB x else []) := by
  have no : mayB x = false → Calls Try.prog 19 #[.agg #[.int .i64 x.t.fam, .int .i64 x.t.pr, .int .i64 x.t.s.fam, .int .u64 x.t.s.hi, .int .u64 x.t.s.lo, .int .i64 x.t.d.fam, .int .u64 x.t.d.hi, .int .u64 x.t.d.lo, .int .i64 x.t.sp, .int .i64 x.t.dp, .int .i64 x.fl, .int .u32 x.sq, .int .u32 x.ak, .int .i64 x.wn, .int .i64 x.ty, .int .i64 x.cd, .bool x.er, .int .i64 x.inn.fam, .int .i64 x.inn.pr, .int .i64 x.inn.s.fam, .int .u64 x.inn.s.hi, .int .u64 x.inn.s.lo, .int .i64 x.inn.d.fam, .int .u64 x.inn.d.hi, .int .u64 x.inn.d.lo, .int .i64 x.inn.sp, .int .i64 x.inn.dp, .slice a x.data.length c]] w (fun e w' => e = .returned (.tuple #[.slice none 0 0, .int .i64 1]) ∧ Below w.heap.size w w') → Calls Try.prog 19 #[.agg #[.int .i64 x.t.fam, .int .i64 x.t.pr, .int .i64 x.t.s.fam, .int .u64 x.t.s.hi, .int .u64 x.t.s.lo, .int .i64 x.t.d.fam, .int .u64 x.t.d.hi, .int .u64 x.t.d.lo, .int .i64 x.t.sp, .int .i64 x.t.dp, .int .i64 x.fl, .int .u32 x.sq, .int .u32 x.ak, .int .i64 x.wn, .int .i64 x.ty, .int .i64 x.cd, .bool x.er, .int .i64 x.inn.fam, .int .i64 x.inn.pr, .int .i64 x.inn.s.fam, .int .u64 x.inn.s.hi, .int .u64 x.inn.s.lo, .int .i64 x.inn.d.fam, .int .u64 x.inn.d.hi, .int .u64 x.inn.d.lo, .int .i64 x.inn.sp, .int .i64 x.inn.dp, .slice a x.data.length c]] w fun e w' => ∃ a' c', e = .returned (.tuple #[.slice a' (if mayB x = true then madeB x else []).length c', .int .i64 (if mayB x = true then 0 else 1)]) ∧ Fresh w w' a' c' (if mayB x = true then madeB x else []) := by
    intro hm hc
    rw [hm]
    refine Calls.mono hc ?_
    rintro e w' ⟨rfl, hb⟩
    exact ⟨none, 0, rfl, fresh_nil hb⟩
  cases hE : endsB x.t.fam x.t.s x.t.d with
  | false => exact no (by unfold mayB; rw [hE]; rfl) (build_n1 x a c w h hnil ok hE)
  | true =>
    cases hP : protoB x with
    | false => exact no (by unfold mayB; rw [hE, hP]; rfl) (build_n2 x a c w h hnil ok hE hP)
    | true =>
      cases hN : numB x with
      | false => exact no (by unfold mayB; rw [hE, hP, hN]; rfl) (build_n3 x a c w h hnil ok hE hP hN)
      | true =>
        by_cases hL : x.data.length ≤ 65000
        · have hm : mayB x = true := by unfold mayB; rw [hE, hP, hN]; simpa using hL
          rw [hm]
          exact build_yes x a c w h hnil ok hE hP hN hL
        · exact no (by unfold mayB; rw [hE, hP, hN]; simpa using hL) (build_n4 x a c w h hnil ok hE hP hN hL)

end Go.Proofs.Ytgdpcomcndidcaa

namespace Go.Proofs.Ytgdpcomcndidcaa
open Go.RowKit
set_option linter.unusedVariables false
set_option linter.unusedSimpArgs false

theorem wpList_load_sub_w {ops : Array Oper} {rest : List Oper} {o : Oper} {ac : Act} {w : World} {Q : Exit → Act → World → Prop} (hw : Region.wanted o (yielded ops ac.tmps) = true) (ty : TypeId) (p : Operand) (ho : o.op = Op.load ty p) (g k : Nat) (t : TypeId) (hp : ac.eval p = .pointer (some ⟨g, k, none⟩)) (cs sub : Array Value)
    (hb : Blk w g t cs) (hs : (cs.toList.drop k).take sub.size = sub.toList) {fs : _} (hu : Try.prog.underlying ty = some (.struct fs)) (hi : (Try.prog.info? ty).map (·.size) = some sub.size) (h : wpList Try.prog ops Q rest (ac.put o.dst (.agg sub)) w) : wpList Try.prog ops Q (o :: rest) ac w := by
  refine wpList_step fun K hK => ?_
  rw [if_pos hw]
  have hl := load_sub hb k sub hs hu hi
  unfold Oper.wp
  simp [execOp, ho, hp, Instr.loadAt, Instr.sureAddr, hl, Result.andThen]
  exact hK _ _ h

set_option maxRecDepth 100000 in
set_option maxHeartbeats 4000000 in
theorem same_seg (x : Sg) (a b : Option Addr) (c d : Nat) (w : World) (h : Row w a x.data) (h' : Row w b x.data) :
    Calls Try.prog 18 #[.agg #[.int .i64 x.t.fam, .int .i64 x.t.pr, .int .i64 x.t.s.fam, .int .u64 x.t.s.hi, .int .u64 x.t.s.lo, .int .i64 x.t.d.fam, .int .u64 x.t.d.hi, .int .u64 x.t.d.lo, .int .i64 x.t.sp, .int .i64 x.t.dp, .int .i64 x.fl, .int .u32 x.sq, .int .u32 x.ak, .int .i64 x.wn, .int .i64 x.ty, .int .i64 x.cd, .bool x.er, .int .i64 x.inn.fam, .int .i64 x.inn.pr, .int .i64 x.inn.s.fam, .int .u64 x.inn.s.hi, .int .u64 x.inn.s.lo, .int .i64 x.inn.d.fam, .int .u64 x.inn.d.hi, .int .u64 x.inn.d.lo, .int .i64 x.inn.sp, .int .i64 x.inn.dp, .slice a x.data.length c], .agg #[.int .i64 x.t.fam, .int .i64 x.t.pr, .int .i64 x.t.s.fam, .int .u64 x.t.s.hi, .int .u64 x.t.s.lo, .int .i64 x.t.d.fam, .int .u64 x.t.d.hi, .int .u64 x.t.d.lo, .int .i64 x.t.sp, .int .i64 x.t.dp, .int .i64 x.fl, .int .u32 x.sq, .int .u32 x.ak, .int .i64 x.wn, .int .i64 x.ty, .int .i64 x.cd, .bool x.er, .int .i64 x.inn.fam, .int .i64 x.inn.pr, .int .i64 x.inn.s.fam, .int .u64 x.inn.s.hi, .int .u64 x.inn.s.lo, .int .i64 x.inn.d.fam, .int .u64 x.inn.d.hi, .int .u64 x.inn.d.lo, .int .i64 x.inn.sp, .int .i64 x.inn.dp, .slice b x.data.length d]] w fun e w' => e = .returned (.bool true) ∧ Below w.heap.size w w' := by
  obtain ⟨W1, hW1⟩ : ∃ W1, w.alloc (.cells #[.int .i64 x.t.fam, .int .i64 x.t.pr, .int .i64 x.t.s.fam, .int .u64 x.t.s.hi, .int .u64 x.t.s.lo, .int .i64 x.t.d.fam, .int .u64 x.t.d.hi, .int .u64 x.t.d.lo, .int .i64 x.t.sp, .int .i64 x.t.dp, .int .i64 x.fl, .int .u32 x.sq, .int .u32 x.ak, .int .i64 x.wn, .int .i64 x.ty, .int .i64 x.cd, .bool x.er, .int .i64 x.inn.fam, .int .i64 x.inn.pr, .int .i64 x.inn.s.fam, .int .u64 x.inn.s.hi, .int .u64 x.inn.s.lo, .int .i64 x.inn.d.fam, .int .u64 x.inn.d.hi, .int .u64 x.inn.d.lo, .int .i64 x.inn.sp, .int .i64 x.inn.dp, .slice a x.data.length c] 38) = W1 := ⟨_, rfl⟩
  obtain ⟨W2, hW2⟩ : ∃ W2, W1.alloc (.cells #[.int .i64 x.t.fam, .int .i64 x.t.pr, .int .i64 x.t.s.fam, .int .u64 x.t.s.hi, .int .u64 x.t.s.lo, .int .i64 x.t.d.fam, .int .u64 x.t.d.hi, .int .u64 x.t.d.lo, .int .i64 x.t.sp, .int .i64 x.t.dp, .int .i64 x.fl, .int .u32 x.sq, .int .u32 x.ak, .int .i64 x.wn, .int .i64 x.ty, .int .i64 x.cd, .bool x.er, .int .i64 x.inn.fam, .int .i64 x.inn.pr, .int .i64 x.inn.s.fam, .int .u64 x.inn.s.hi, .int .u64 x.inn.s.lo, .int .i64 x.inn.d.fam, .int .u64 x.inn.d.hi, .int .u64 x.inn.d.lo, .int .i64 x.inn.sp, .int .i64 x.inn.dp, .slice b x.data.length d] 38) = W2 := ⟨_, rfl⟩
  have b1 : Below w.heap.size w W1 := by rw [← hW1]; exact (Below.refl _ _).alloc (Nat.le_refl _) _
  have b2 : Below w.heap.size w W2 := by rw [← hW2]; exact b1.alloc b1.size _
  have B1' : Blk W1 w.heap.size 38 #[.int .i64 x.t.fam, .int .i64 x.t.pr, .int .i64 x.t.s.fam, .int .u64 x.t.s.hi, .int .u64 x.t.s.lo, .int .i64 x.t.d.fam, .int .u64 x.t.d.hi, .int .u64 x.t.d.lo, .int .i64 x.t.sp, .int .i64 x.t.dp, .int .i64 x.fl, .int .u32 x.sq, .int .u32 x.ak, .int .i64 x.wn, .int .i64 x.ty, .int .i64 x.cd, .bool x.er, .int .i64 x.inn.fam, .int .i64 x.inn.pr, .int .i64 x.inn.s.fam, .int .u64 x.inn.s.hi, .int .u64 x.inn.s.lo, .int .i64 x.inn.d.fam, .int .u64 x.inn.d.hi, .int .u64 x.inn.d.lo, .int .i64 x.inn.sp, .int .i64 x.inn.dp, .slice a x.data.length c] := by rw [← hW1]; exact blk_new _ _ _
  have B1 : Blk W2 w.heap.size 38 #[.int .i64 x.t.fam, .int .i64 x.t.pr, .int .i64 x.t.s.fam, .int .u64 x.t.s.hi, .int .u64 x.t.s.lo, .int .i64 x.t.d.fam, .int .u64 x.t.d.hi, .int .u64 x.t.d.lo, .int .i64 x.t.sp, .int .i64 x.t.dp, .int .i64 x.fl, .int .u32 x.sq, .int .u32 x.ak, .int .i64 x.wn, .int .i64 x.ty, .int .i64 x.cd, .bool x.er, .int .i64 x.inn.fam, .int .i64 x.inn.pr, .int .i64 x.inn.s.fam, .int .u64 x.inn.s.hi, .int .u64 x.inn.s.lo, .int .i64 x.inn.d.fam, .int .u64 x.inn.d.hi, .int .u64 x.inn.d.lo, .int .i64 x.inn.sp, .int .i64 x.inn.dp, .slice a x.data.length c] := by rw [← hW2]; exact B1'.alloc _
  have B2 : Blk W2 W1.heap.size 38 #[.int .i64 x.t.fam, .int .i64 x.t.pr, .int .i64 x.t.s.fam, .int .u64 x.t.s.hi, .int .u64 x.t.s.lo, .int .i64 x.t.d.fam, .int .u64 x.t.d.hi, .int .u64 x.t.d.lo, .int .i64 x.t.sp, .int .i64 x.t.dp, .int .i64 x.fl, .int .u32 x.sq, .int .u32 x.ak, .int .i64 x.wn, .int .i64 x.ty, .int .i64 x.cd, .bool x.er, .int .i64 x.inn.fam, .int .i64 x.inn.pr, .int .i64 x.inn.s.fam, .int .u64 x.inn.s.hi, .int .u64 x.inn.s.lo, .int .i64 x.inn.d.fam, .int .u64 x.inn.d.hi, .int .u64 x.inn.d.lo, .int .i64 x.inn.sp, .int .i64 x.inn.dp, .slice b x.data.length d] := by rw [← hW2]; exact blk_new _ _ _
  have K : Hid _ := same_any a b c d x.data W2 (h.below b2) (h'.below b2)
  have d0 := B1.cell 0 (.int .i64 x.t.fam) rfl
  have d1 := B1.cell 1 (.int .i64 x.t.pr) rfl
  have d2 := B1.cell 2 (.int .i64 x.t.s.fam) rfl
  have d3 := B1.cell 3 (.int .u64 x.t.s.hi) rfl
  have d4 := B1.cell 4 (.int .u64 x.t.s.lo) rfl
  have d5 := B1.cell 5 (.int .i64 x.t.d.fam) rfl
  have d6 := B1.cell 6 (.int .u64 x.t.d.hi) rfl
  have d7 := B1.cell 7 (.int .u64 x.t.d.lo) rfl
  have d8 := B1.cell 8 (.int .i64 x.t.sp) rfl
  have d9 := B1.cell 9 (.int .i64 x.t.dp) rfl
  have d10 := B1.cell 10 (.int .i64 x.fl) rfl
  have d11 := B1.cell 11 (.int .u32 x.sq) rfl
  have d12 := B1.cell 12 (.int .u32 x.ak) rfl
  have d13 := B1.cell 13 (.int .i64 x.wn) rfl
  have d14 := B1.cell 14 (.int .i64 x.ty) rfl
  have d15 := B1.cell 15 (.int .i64 x.cd) rfl
  have d16 := B1.cell 16 (.bool x.er) rfl
  have d17 := B1.cell 17 (.int .i64 x.inn.fam) rfl
  have d18 := B1.cell 18 (.int .i64 x.inn.pr) rfl
  have d19 := B1.cell 19 (.int .i64 x.inn.s.fam) rfl
  have d20 := B1.cell 20 (.int .u64 x.inn.s.hi) rfl
  have d21 := B1.cell 21 (.int .u64 x.inn.s.lo) rfl
  have d22 := B1.cell 22 (.int .i64 x.inn.d.fam) rfl
  have d23 := B1.cell 23 (.int .u64 x.inn.d.hi) rfl
  have d24 := B1.cell 24 (.int .u64 x.inn.d.lo) rfl
  have d25 := B1.cell 25 (.int .i64 x.inn.sp) rfl
  have d26 := B1.cell 26 (.int .i64 x.inn.dp) rfl
  have d27 := B1.cell 27 (.slice a x.data.length c) rfl
  have e0 := B2.cell 0 (.int .i64 x.t.fam) rfl
  have e1 := B2.cell 1 (.int .i64 x.t.pr) rfl
  have e2 := B2.cell 2 (.int .i64 x.t.s.fam) rfl
  have e3 := B2.cell 3 (.int .u64 x.t.s.hi) rfl
  have e4 := B2.cell 4 (.int .u64 x.t.s.lo) rfl
  have e5 := B2.cell 5 (.int .i64 x.t.d.fam) rfl
  have e6 := B2.cell 6 (.int .u64 x.t.d.hi) rfl
  have e7 := B2.cell 7 (.int .u64 x.t.d.lo) rfl
  have e8 := B2.cell 8 (.int .i64 x.t.sp) rfl
  have e9 := B2.cell 9 (.int .i64 x.t.dp) rfl
  have e10 := B2.cell 10 (.int .i64 x.fl) rfl
  have e11 := B2.cell 11 (.int .u32 x.sq) rfl
  have e12 := B2.cell 12 (.int .u32 x.ak) rfl
  have e13 := B2.cell 13 (.int .i64 x.wn) rfl
  have e14 := B2.cell 14 (.int .i64 x.ty) rfl
  have e15 := B2.cell 15 (.int .i64 x.cd) rfl
  have e16 := B2.cell 16 (.bool x.er) rfl
  have e17 := B2.cell 17 (.int .i64 x.inn.fam) rfl
  have e18 := B2.cell 18 (.int .i64 x.inn.pr) rfl
  have e19 := B2.cell 19 (.int .i64 x.inn.s.fam) rfl
  have e20 := B2.cell 20 (.int .u64 x.inn.s.hi) rfl
  have e21 := B2.cell 21 (.int .u64 x.inn.s.lo) rfl
  have e22 := B2.cell 22 (.int .i64 x.inn.d.fam) rfl
  have e23 := B2.cell 23 (.int .u64 x.inn.d.hi) rfl
  have e24 := B2.cell 24 (.int .u64 x.inn.d.lo) rfl
  have e25 := B2.cell 25 (.int .i64 x.inn.sp) rfl
  have e26 := B2.cell 26 (.int .i64 x.inn.dp) rfl
  have e27 := B2.cell 27 (.slice b x.data.length d) rfl
  go_enter Try.func18, Try.ntmps18
  go_wp2_with fail
  refine Calls.mono K.out ?_
  rintro e W3 ⟨rfl, hW3⟩
  rw [hW3]
  clear K hW3 W3
  go_wp2
  go_ret
  exact ⟨rfl, b2⟩

def smallSg : Sg := ⟨⟨4, 17, ⟨4, 0, 167772161⟩, ⟨4, 0, 167772162⟩, 53, 1024⟩, 0, 0, 0, 0, 0, 0, false, zTp, [1, 2, 3, 4]⟩
theorem bytes1234 : M.Bytes [1, 2, 3, 4] := M.Bytes.of (by decide)
set_option maxRecDepth 100000 in
set_option maxHeartbeats 4000000 in
theorem small_any (w : World) : Calls Try.prog 32 #[] w fun e w' => ∃ G, e = .returned (.agg #[.int .i64 4, .int .i64 17, .int .i64 4, .int .u64 0, .int .u64 167772161, .int .i64 4, .int .u64 0, .int .u64 167772162, .int .i64 53, .int .i64 1024, .int .i64 0, .int .u32 0, .int .u32 0, .int .i64 0, .int .i64 0, .int .i64 0, .bool false, .int .i64 0, .int .i64 0, .int .i64 0, .int .u64 0, .int .u64 0, .int .i64 0, .int .u64 0, .int .u64 0, .int .i64 0, .int .i64 0, .slice (some ⟨G, 0, none⟩) 4 4]) ∧ Row w' (some ⟨G, 0, none⟩) [1, 2, 3, 4] ∧ Below w.heap.size w w' := by
  obtain ⟨W1, hW1⟩ : ∃ W1, w.alloc (.cells #[.int .i64 0, .int .i64 0, .int .i64 0, .int .u64 0, .int .u64 0, .int .i64 0, .int .u64 0, .int .u64 0, .int .i64 0, .int .i64 0, .int .i64 0, .int .u32 0, .int .u32 0, .int .i64 0, .int .i64 0, .int .i64 0, .bool false, .int .i64 0, .int .i64 0, .int .i64 0, .int .u64 0, .int .u64 0, .int .i64 0, .int .u64 0, .int .u64 0, .int .i64 0, .int .i64 0, .slice none 0 0] 38) = W1 := ⟨_, rfl⟩
  have b1 : Below w.heap.size w W1 := by rw [← hW1]; exact (Below.refl _ _).alloc (Nat.le_refl _) _
  have B1 : Blk W1 w.heap.size 38 #[.int .i64 0, .int .i64 0, .int .i64 0, .int .u64 0, .int .u64 0, .int .i64 0, .int .u64 0, .int .u64 0, .int .i64 0, .int .i64 0, .int .i64 0, .int .u32 0, .int .u32 0, .int .i64 0, .int .i64 0, .int .i64 0, .bool false, .int .i64 0, .int .i64 0, .int .i64 0, .int .u64 0, .int .u64 0, .int .i64 0, .int .u64 0, .int .u64 0, .int .i64 0, .int .i64 0, .slice none 0 0] := by rw [← hW1]; exact blk_new _ _ _
  have g1 : w.heap.size < W1.heap.size := B1.lt
  obtain ⟨W2, hW2⟩ : ∃ W2, W1.alloc (.cells #[.int .i64 0, .int .i64 0, .int .i64 0, .int .u64 0, .int .u64 0, .int .i64 0, .int .u64 0, .int .u64 0, .int .i64 0, .int .i64 0] 26) = W2 := ⟨_, rfl⟩
  have b2 : Below w.heap.size w W2 := by rw [← hW2]; exact b1.alloc b1.size _
  have B2 : Blk W2 w.heap.size 38 #[.int .i64 0, .int .i64 0, .int .i64 0, .int .u64 0, .int .u64 0, .int .i64 0, .int .u64 0, .int .u64 0, .int .i64 0, .int .i64 0, .int .i64 0, .int .u32 0, .int .u32 0, .int .i64 0, .int .i64 0, .int .i64 0, .bool false, .int .i64 0, .int .i64 0, .int .i64 0, .int .u64 0, .int .u64 0, .int .i64 0, .int .u64 0, .int .u64 0, .int .i64 0, .int .i64 0, .slice none 0 0] := by rw [← hW2]; exact B1.alloc _
  have T2 : Blk W2 W1.heap.size 26 #[.int .i64 0, .int .i64 0, .int .i64 0, .int .u64 0, .int .u64 0, .int .i64 0, .int .u64 0, .int .u64 0, .int .i64 0, .int .i64 0] := by rw [← hW2]; exact blk_new _ _ _
  obtain ⟨W3, hW3⟩ : ∃ W, W2.setRow W1.heap.size #[.int .i64 4, .int .i64 17, .int .i64 4, .int .u64 0, .int .u64 167772161, .int .i64 4, .int .u64 0, .int .u64 167772162, .int .i64 53, .int .i64 1024] = W := ⟨_, rfl⟩
  have b3 : Below w.heap.size w W3 := by rw [← hW3]; exact below_setRow b2 (Nat.le_of_lt g1) _
  have B3 : Blk W3 w.heap.size 38 #[.int .i64 0, .int .i64 0, .int .i64 0, .int .u64 0, .int .u64 0, .int .i64 0, .int .u64 0, .int .u64 0, .int .i64 0, .int .i64 0, .int .i64 0, .int .u32 0, .int .u32 0, .int .i64 0, .int .i64 0, .int .i64 0, .bool false, .int .i64 0, .int .i64 0, .int .i64 0, .int .u64 0, .int .u64 0, .int .i64 0, .int .u64 0, .int .u64 0, .int .i64 0, .int .i64 0, .slice none 0 0] := by rw [← hW3]; exact B2.other (by omega) _
  have T3 : Blk W3 W1.heap.size 26 #[.int .i64 4, .int .i64 17, .int .i64 4, .int .u64 0, .int .u64 167772161, .int .i64 4, .int .u64 0, .int .u64 167772162, .int .i64 53, .int .i64 1024] := by rw [← hW3]; exact T2.set _
  have HW3 : Hid _ := hW3
  obtain ⟨W4, hW4⟩ : ∃ W4, W3.alloc (.cells #[.int .u8 1, .int .u8 2, .int .u8 3, .int .u8 4] 5) = W4 := ⟨_, rfl⟩
  have b4 : Below w.heap.size w W4 := by rw [← hW4]; exact b3.alloc b3.size _
  have B4 : Blk W4 w.heap.size 38 #[.int .i64 0, .int .i64 0, .int .i64 0, .int .u64 0, .int .u64 0, .int .i64 0, .int .u64 0, .int .u64 0, .int .i64 0, .int .i64 0, .int .i64 0, .int .u32 0, .int .u32 0, .int .i64 0, .int .i64 0, .int .i64 0, .bool false, .int .i64 0, .int .i64 0, .int .i64 0, .int .u64 0, .int .u64 0, .int .i64 0, .int .u64 0, .int .u64 0, .int .i64 0, .int .i64 0, .slice none 0 0] := by rw [← hW4]; exact B3.alloc _
  have r4 : Row W4 (some ⟨W3.heap.size, 0, none⟩) [1, 2, 3, 4] := by rw [← hW4]; exact row_at W3 5 [1, 2, 3, 4] W3.heap.size rfl (by simp) bytes1234
  have g3 : w.heap.size < W3.heap.size := B3.lt
  obtain ⟨G, hG⟩ : ∃ G, W3.heap.size = G := ⟨_, rfl⟩
  rw [hG] at r4 g3
  have hb24 : ∀ W, (Instr.build 24 #[(0, .int .i64 4), (2, .int .u64 167772161)]).run Try.prog W = .ok (.agg #[.int .i64 4, .int .u64 0, .int .u64 167772161]) W := fun W => by kernel_rfl
  have O4 : Owns W4 (w.heap.size + 1) (.slice (some ⟨G, 0, none⟩) 4 4) [1, 2, 3, 4] := by
    rw [← hW4, ← hG]
    exact owns_new (l := [1, 2, 3, 4]) (by omega) (by decide) (heap_alloc_last W3 _)
  have Of := O4.blk_other B4 (by decide) #[.int .i64 4, .int .i64 17, .int .i64 4, .int .u64 0, .int .u64 167772161, .int .i64 4, .int .u64 0, .int .u64 167772162, .int .i64 53, .int .i64 1024, .int .i64 0, .int .u32 0, .int .u32 0, .int .i64 0, .int .i64 0, .int .i64 0, .bool false, .int .i64 0, .int .i64 0, .int .i64 0, .int .u64 0, .int .u64 0, .int .i64 0, .int .u64 0, .int .u64 0, .int .i64 0, .int .i64 0, .slice (some ⟨G, 0, none⟩) 4 4]
  have rf := Owns.row (l := [1, 2, 3, 4]) Of (by decide) bytes1234
  have bf := below_setRow b4 (Nat.le_refl _) #[.int .i64 4, .int .i64 17, .int .i64 4, .int .u64 0, .int .u64 167772161, .int .i64 4, .int .u64 0, .int .u64 167772162, .int .i64 53, .int .i64 1024, .int .i64 0, .int .u32 0, .int .u32 0, .int .i64 0, .int .i64 0, .int .i64 0, .bool false, .int .i64 0, .int .i64 0, .int .i64 0, .int .u64 0, .int .u64 0, .int .i64 0, .int .u64 0, .int .u64 0, .int .i64 0, .int .i64 0, .slice (some ⟨G, 0, none⟩) 4 4]
  have Bf := B4.set #[.int .i64 4, .int .i64 17, .int .i64 4, .int .u64 0, .int .u64 167772161, .int .i64 4, .int .u64 0, .int .u64 167772162, .int .i64 53, .int .i64 1024, .int .i64 0, .int .u32 0, .int .u32 0, .int .i64 0, .int .i64 0, .int .i64 0, .bool false, .int .i64 0, .int .i64 0, .int .i64 0, .int .u64 0, .int .u64 0, .int .i64 0, .int .u64 0, .int .u64 0, .int .i64 0, .int .i64 0, .slice (some ⟨G, 0, none⟩) 4 4]
  have hb38 : (Instr.build 38 #[(0, .agg #[.int .i64 4, .int .i64 17, .int .i64 4, .int .u64 0, .int .u64 167772161, .int .i64 4, .int .u64 0, .int .u64 167772162, .int .i64 53, .int .i64 1024]), (9, .slice (some ⟨G, 0, none⟩) 4 4)]).run Try.prog W4 = .ok (.agg #[.int .i64 4, .int .i64 17, .int .i64 4, .int .u64 0, .int .u64 167772161, .int .i64 4, .int .u64 0, .int .u64 167772162, .int .i64 53, .int .i64 1024, .int .i64 0, .int .u32 0, .int .u32 0, .int .i64 0, .int .i64 0, .int .i64 0, .bool false, .int .i64 0, .int .i64 0, .int .i64 0, .int .u64 0, .int .u64 0, .int .i64 0, .int .u64 0, .int .u64 0, .int .i64 0, .int .i64 0, .slice (some ⟨G, 0, none⟩) 4 4]) W4 := by kernel_rfl
  clear hW3 hb24 Of O4
  go_enter Try.func32, Try.ntmps32
  go_wp2_with (first
    | (refine wpList_build _ rfl _ _ rfl _ (by rfl) _ hb38 ?_)
    | (refine wpList_store_row rfl _ _ _ rfl W1.heap.size #[.int .i64 4, .int .i64 17, .int .i64 4, .int .u64 0, .int .u64 167772161, .int .i64 4, .int .u64 0, .int .u64 167772162, .int .i64 53, .int .i64 1024] (by rfl) (by rfl) _ _ T2 (by kernel_rfl) (by rfl) (by kernel_rfl) ?_; rw [HW3.out])
    | (refine wpList_load_row rfl _ _ rfl W1.heap.size (by rfl) _ _ _ _ T3 Try.underlying26 rfl (by kernel_rfl) ?_)
    | (refine wpList_store_row rfl _ _ _ rfl w.heap.size #[.int .i64 4, .int .i64 17, .int .i64 4, .int .u64 0, .int .u64 167772161, .int .i64 4, .int .u64 0, .int .u64 167772162, .int .i64 53, .int .i64 1024, .int .i64 0, .int .u32 0, .int .u32 0, .int .i64 0, .int .i64 0, .int .i64 0, .bool false, .int .i64 0, .int .i64 0, .int .i64 0, .int .u64 0, .int .u64 0, .int .i64 0, .int .u64 0, .int .u64 0, .int .i64 0, .int .i64 0, .slice (some ⟨G, 0, none⟩) 4 4] (by rfl) (by rfl) _ _ B4 (by kernel_rfl) (by rfl) (by kernel_rfl) ?_))
  exact ret_cell (k := 0) Try.f32 (by kernel_rfl) Bf Try.underlying38 (by kernel_rfl) (by rfl) rfl ⟨G, rfl, rf, bf⟩

set_option maxRecDepth 100000 in
set_option maxHeartbeats 4000000 in
theorem packet_any (x : Sg) (a : Option Addr) (c : Nat) (b : Option Addr) (bn d : Nat) (w : World) :
    Calls Try.prog 21 #[.agg #[.int .i64 x.t.fam, .int .i64 x.t.pr, .int .i64 x.t.s.fam, .int .u64 x.t.s.hi, .int .u64 x.t.s.lo, .int .i64 x.t.d.fam, .int .u64 x.t.d.hi, .int .u64 x.t.d.lo, .int .i64 x.t.sp, .int .i64 x.t.dp, .int .i64 x.fl, .int .u32 x.sq, .int .u32 x.ak, .int .i64 x.wn, .int .i64 x.ty, .int .i64 x.cd, .bool x.er, .int .i64 x.inn.fam, .int .i64 x.inn.pr, .int .i64 x.inn.s.fam, .int .u64 x.inn.s.hi, .int .u64 x.inn.s.lo, .int .i64 x.inn.d.fam, .int .u64 x.inn.d.hi, .int .u64 x.inn.d.lo, .int .i64 x.inn.sp, .int .i64 x.inn.dp, .slice a x.data.length c], .slice b bn d] w fun e w' => e = .returned (.agg #[.int .i64 x.t.fam, .int .i64 x.t.s.fam, .int .u64 x.t.s.hi, .int .u64 x.t.s.lo, .int .i64 x.t.d.fam, .int .u64 x.t.d.hi, .int .u64 x.t.d.lo, .int .i64 x.t.pr, .int .i64 1, .bool false, .int .u32 0, .int .i64 0, .bool false, .slice none 0 0, .slice b bn d]) ∧ Below w.heap.size w w' := by
  obtain ⟨W1, hW1⟩ : ∃ W1, w.alloc (.cells #[.int .i64 x.t.fam, .int .i64 x.t.pr, .int .i64 x.t.s.fam, .int .u64 x.t.s.hi, .int .u64 x.t.s.lo, .int .i64 x.t.d.fam, .int .u64 x.t.d.hi, .int .u64 x.t.d.lo, .int .i64 x.t.sp, .int .i64 x.t.dp, .int .i64 x.fl, .int .u32 x.sq, .int .u32 x.ak, .int .i64 x.wn, .int .i64 x.ty, .int .i64 x.cd, .bool x.er, .int .i64 x.inn.fam, .int .i64 x.inn.pr, .int .i64 x.inn.s.fam, .int .u64 x.inn.s.hi, .int .u64 x.inn.s.lo, .int .i64 x.inn.d.fam, .int .u64 x.inn.d.hi, .int .u64 x.inn.d.lo, .int .i64 x.inn.sp, .int .i64 x.inn.dp, .slice a x.data.length c] 38) = W1 := ⟨_, rfl⟩
  obtain ⟨W2, hW2⟩ : ∃ W2, W1.alloc (.cells #[.int .i64 0, .int .i64 0, .int .u64 0, .int .u64 0, .int .i64 0, .int .u64 0, .int .u64 0, .int .i64 0, .int .i64 0, .bool false, .int .u32 0, .int .i64 0, .bool false, .slice none 0 0, .slice none 0 0] 36) = W2 := ⟨_, rfl⟩
  have b1 : Below w.heap.size w W1 := by rw [← hW1]; exact (Below.refl _ _).alloc (Nat.le_refl _) _
  have b2 : Below w.heap.size w W2 := by rw [← hW2]; exact b1.alloc b1.size _
  have B1' : Blk W1 w.heap.size 38 #[.int .i64 x.t.fam, .int .i64 x.t.pr, .int .i64 x.t.s.fam, .int .u64 x.t.s.hi, .int .u64 x.t.s.lo, .int .i64 x.t.d.fam, .int .u64 x.t.d.hi, .int .u64 x.t.d.lo, .int .i64 x.t.sp, .int .i64 x.t.dp, .int .i64 x.fl, .int .u32 x.sq, .int .u32 x.ak, .int .i64 x.wn, .int .i64 x.ty, .int .i64 x.cd, .bool x.er, .int .i64 x.inn.fam, .int .i64 x.inn.pr, .int .i64 x.inn.s.fam, .int .u64 x.inn.s.hi, .int .u64 x.inn.s.lo, .int .i64 x.inn.d.fam, .int .u64 x.inn.d.hi, .int .u64 x.inn.d.lo, .int .i64 x.inn.sp, .int .i64 x.inn.dp, .slice a x.data.length c] := by rw [← hW1]; exact blk_new _ _ _
  have B1 : Blk W2 w.heap.size 38 #[.int .i64 x.t.fam, .int .i64 x.t.pr, .int .i64 x.t.s.fam, .int .u64 x.t.s.hi, .int .u64 x.t.s.lo, .int .i64 x.t.d.fam, .int .u64 x.t.d.hi, .int .u64 x.t.d.lo, .int .i64 x.t.sp, .int .i64 x.t.dp, .int .i64 x.fl, .int .u32 x.sq, .int .u32 x.ak, .int .i64 x.wn, .int .i64 x.ty, .int .i64 x.cd, .bool x.er, .int .i64 x.inn.fam, .int .i64 x.inn.pr, .int .i64 x.inn.s.fam, .int .u64 x.inn.s.hi, .int .u64 x.inn.s.lo, .int .i64 x.inn.d.fam, .int .u64 x.inn.d.hi, .int .u64 x.inn.d.lo, .int .i64 x.inn.sp, .int .i64 x.inn.dp, .slice a x.data.length c] := by rw [← hW2]; exact B1'.alloc _
  have B2 : Blk W2 W1.heap.size 36 #[.int .i64 0, .int .i64 0, .int .u64 0, .int .u64 0, .int .i64 0, .int .u64 0, .int .u64 0, .int .i64 0, .int .i64 0, .bool false, .int .u32 0, .int .i64 0, .bool false, .slice none 0 0, .slice none 0 0] := by rw [← hW2]; exact blk_new _ _ _
  have g1 : w.heap.size < W1.heap.size := B1'.lt
  clear B1'
  have d0 := B1.cell 0 (.int .i64 x.t.fam) rfl
  have d1 := B1.cell 1 (.int .i64 x.t.pr) rfl
  have d2 := B1.cell 2 (.int .i64 x.t.s.fam) rfl
  have d3 := B1.cell 3 (.int .u64 x.t.s.hi) rfl
  have d4 := B1.cell 4 (.int .u64 x.t.s.lo) rfl
  have d5 := B1.cell 5 (.int .i64 x.t.d.fam) rfl
  have d6 := B1.cell 6 (.int .u64 x.t.d.hi) rfl
  have d7 := B1.cell 7 (.int .u64 x.t.d.lo) rfl
  have b3 := below_setRow b2 (Nat.le_of_lt g1) #[.int .i64 x.t.fam, .int .i64 x.t.s.fam, .int .u64 x.t.s.hi, .int .u64 x.t.s.lo, .int .i64 x.t.d.fam, .int .u64 x.t.d.hi, .int .u64 x.t.d.lo, .int .i64 x.t.pr, .int .i64 1, .bool false, .int .u32 0, .int .i64 0, .bool false, .slice none 0 0, .slice b bn d]
  have B3 := B2.set #[.int .i64 x.t.fam, .int .i64 x.t.s.fam, .int .u64 x.t.s.hi, .int .u64 x.t.s.lo, .int .i64 x.t.d.fam, .int .u64 x.t.d.hi, .int .u64 x.t.d.lo, .int .i64 x.t.pr, .int .i64 1, .bool false, .int .u32 0, .int .i64 0, .bool false, .slice none 0 0, .slice b bn d]
  have hbd : (Instr.build 36 #[(0, .int .i64 x.t.fam), (1, .agg #[.int .i64 x.t.s.fam, .int .u64 x.t.s.hi, .int .u64 x.t.s.lo]), (2, .agg #[.int .i64 x.t.d.fam, .int .u64 x.t.d.hi, .int .u64 x.t.d.lo]), (3, .int .i64 x.t.pr), (4, .int .i64 1), (10, .slice b bn d)]).run Try.prog W2 = .ok (.agg #[.int .i64 x.t.fam, .int .i64 x.t.s.fam, .int .u64 x.t.s.hi, .int .u64 x.t.s.lo, .int .i64 x.t.d.fam, .int .u64 x.t.d.hi, .int .u64 x.t.d.lo, .int .i64 x.t.pr, .int .i64 1, .bool false, .int .u32 0, .int .i64 0, .bool false, .slice none 0 0, .slice b bn d]) W2 := by kernel_rfl
  go_enter Try.func21, Try.ntmps21
  go_wp2_with (first
    | (refine wpList_build _ rfl _ _ rfl _ (by rfl) _ hbd ?_)
    | (refine wpList_store_row rfl _ _ _ rfl W1.heap.size #[.int .i64 x.t.fam, .int .i64 x.t.s.fam, .int .u64 x.t.s.hi, .int .u64 x.t.s.lo, .int .i64 x.t.d.fam, .int .u64 x.t.d.hi, .int .u64 x.t.d.lo, .int .i64 x.t.pr, .int .i64 1, .bool false, .int .u32 0, .int .i64 0, .bool false, .slice none 0 0, .slice b bn d] (by rfl) (by rfl) _ _ B2 (by kernel_rfl) (by rfl) (by kernel_rfl) ?_))
  exact ret_cell (k := 4) Try.f21 (by kernel_rfl) B3 Try.underlying36 (by kernel_rfl) (by rfl) rfl ⟨rfl, b3⟩

end Go.Proofs.Ytgdpcomcndidcaa

namespace Go.Proofs.Ytgdpcomcndidcaa
open Go.RowKit
set_option linter.unusedVariables false
set_option linter.unusedSimpArgs false

set_option maxRecDepth 100000 in
theorem small_may : mayB smallSg = true := by decide
set_option maxRecDepth 100000 in
theorem small_made : madeB smallSg = [0, 53, 4, 0, 0, 12, 227, 152, 1, 2, 3, 4] := by decide
set_option maxRecDepth 100000 in
theorem small_E : segE 4 17 ⟨4, 0, 167772161⟩ ⟨4, 0, 167772162⟩ [0, 53, 4, 0, 0, 12, 227, 152, 1, 2, 3, 4] = 0 := by decide
set_option maxRecDepth 100000 in
theorem small_X : segX 4 17 ⟨4, 0, 167772161⟩ ⟨4, 0, 167772162⟩ [0, 53, 4, 0, 0, 12, 227, 152, 1, 2, 3, 4] = smallSg := by
  unfold segX
  rw [small_E]
  rfl
theorem small_ok : smallSg.ok := ⟨by unfold Ad.ok; decide, by unfold Ad.ok; decide, by decide, by decide⟩
theorem yieldsIf_blk_w {ops : Array Oper} {S : World → Prop} {o : Oper} {ac : Act} (hw : Region.wanted o (yielded ops ac.tmps) = true) (t : TypeId) (p : Operand) (ho : o.op = Op.load t p) (g : Nat) (hp : ac.eval p = .pointer (some ⟨g, 0, none⟩)) (cs : Array Value)
    (hS : ∀ w, S w → Blk w g t cs) {fs : _} (hu : Try.prog.underlying t = some (.struct fs)) (hi : (Try.prog.info? t).map (·.size) = some cs.size) : YieldsIf Try.prog ops S o (.agg cs) ac := by
  refine .inl ⟨hw, fun w hw' => ?_⟩
  have hl := load_blk (hS w hw') hu hi
  simp [execOp, ho, hp, Instr.loadAt, Instr.sureAddr, hl, Result.andThen]

set_option maxRecDepth 100000 in
set_option maxHeartbeats 4000000 in
theorem segAlive_any (w : World) : Calls Try.prog 15 #[] w fun e w' => e = .returned (.bool true) ∧ Below w.heap.size w w' := by
  have KS : Hid _ := small_any
  have KE : Hid (∀ W, Calls Try.prog 13 #[.int .i64 4, .int .i64 3] W fun e w' => e = .returned (.bool true) ∧ w' = W) := fun W => isError_any 4 3 W
  have KB : Hid (∀ W G, Row W (some ⟨G, 0, none⟩) [1, 2, 3, 4] → Calls Try.prog 19 #[.agg #[.int .i64 4, .int .i64 17, .int .i64 4, .int .u64 0, .int .u64 167772161, .int .i64 4, .int .u64 0, .int .u64 167772162, .int .i64 53, .int .i64 1024, .int .i64 0, .int .u32 0, .int .u32 0, .int .i64 0, .int .i64 0, .int .i64 0, .bool false, .int .i64 0, .int .i64 0, .int .i64 0, .int .u64 0, .int .u64 0, .int .i64 0, .int .u64 0, .int .u64 0, .int .i64 0, .int .i64 0, .slice (some ⟨G, 0, none⟩) 4 4]] W fun e w' => ∃ a' c', e = .returned (.tuple #[.slice a' 12 c', .int .i64 0]) ∧ Fresh W w' a' c' [0, 53, 4, 0, 0, 12, 227, 152, 1, 2, 3, 4]) := fun W G hr => by
    have := build_any smallSg (some ⟨G, 0, none⟩) 4 W hr (fun e => by cases e) small_ok
    rw [small_may, if_pos rfl, if_pos rfl, small_made] at this
    exact this
  have KP : Hid (∀ W a' c' b d, Calls Try.prog 21 #[.agg #[.int .i64 4, .int .i64 17, .int .i64 4, .int .u64 0, .int .u64 167772161, .int .i64 4, .int .u64 0, .int .u64 167772162, .int .i64 53, .int .i64 1024, .int .i64 0, .int .u32 0, .int .u32 0, .int .i64 0, .int .i64 0, .int .i64 0, .bool false, .int .i64 0, .int .i64 0, .int .i64 0, .int .u64 0, .int .u64 0, .int .i64 0, .int .u64 0, .int .u64 0, .int .i64 0, .int .i64 0, .slice a' 4 c'], .slice b 12 d] W fun e w' => e = .returned (.agg #[.int .i64 4, .int .i64 4, .int .u64 0, .int .u64 167772161, .int .i64 4, .int .u64 0, .int .u64 167772162, .int .i64 17, .int .i64 1, .bool false, .int .u32 0, .int .i64 0, .bool false, .slice none 0 0, .slice b 12 d]) ∧ Below W.heap.size W w') := fun W a' c' b d => packet_any smallSg a' c' b 12 d W
  have KR : Hid (∀ W b d, Row W b [0, 53, 4, 0, 0, 12, 227, 152, 1, 2, 3, 4] → (b = none → d = 0) → 12 ≤ d → d ≤ 9223372036854775807 → Calls Try.prog 16 #[.agg #[.int .i64 4, .int .i64 4, .int .u64 0, .int .u64 167772161, .int .i64 4, .int .u64 0, .int .u64 167772162, .int .i64 17, .int .i64 1, .bool false, .int .u32 0, .int .i64 0, .bool false, .slice none 0 0, .slice b 12 d]] W fun e w' => ∃ a5 c5, e = .returned (.tuple #[.agg #[.int .i64 4, .int .i64 17, .int .i64 4, .int .u64 0, .int .u64 167772161, .int .i64 4, .int .u64 0, .int .u64 167772162, .int .i64 53, .int .i64 1024, .int .i64 0, .int .u32 0, .int .u32 0, .int .i64 0, .int .i64 0, .int .i64 0, .bool false, .int .i64 0, .int .i64 0, .int .i64 0, .int .u64 0, .int .u64 0, .int .i64 0, .int .u64 0, .int .u64 0, .int .i64 0, .int .i64 0, .slice a5 4 c5], .int .i64 0]) ∧ Fresh W w' a5 c5 [1, 2, 3, 4]) := fun W b d hr hn h1 h2 => by
    have := segParse_any 4 4 0 167772161 4 0 167772162 17 1 false 0 0 false none 0 0 b d [0, 53, 4, 0, 0, 12, 227, 152, 1, 2, 3, 4] W hr hn (by simpa using h1) h2 (by decide) (by unfold Ad.ok; decide) (by unfold Ad.ok; decide)
    rw [small_E, small_X] at this
    exact this
  go_enter Try.func15, Try.ntmps15
  go_wp2_with fail
  refine Calls.mono (KS.out _) ?_
  rintro e W1 ⟨G, rfl, r1, b1⟩
  go_wp2_with fail
  refine Calls.mono (KB.out _ _ r1) ?_
  rintro e W2 ⟨a2, c2, rfl, f2⟩
  have b2 : Below w.heap.size w W2 := b1.trans (f2.below.mono b1.size)
  have r2 := f2.row
  have n2 := f2.nil
  have m2 := f2.room
  have o2 := f2.owns.cap_le
  clear KB r1 b1 f2
  go_wp2_with fail
  refine Calls.mono (KS.out _) ?_
  rintro e W3 ⟨G3, rfl, r3, bb⟩
  have b3 : Below w.heap.size w W3 := b2.trans (bb.mono b2.size)
  replace r2 := r2.below bb
  clear bb b2 r3
  go_wp2_with fail
  refine Calls.mono (KP.out _ _ _ _ _) ?_
  rintro e W4 ⟨rfl, bb⟩
  have b4 : Below w.heap.size w W4 := b3.trans (bb.mono b3.size)
  replace r2 := r2.below bb
  clear bb b3 KP
  go_wp2_with fail
  refine Calls.mono (KR.out _ _ _ r2 n2 m2 o2) ?_
  rintro e W5 ⟨a5, c5, rfl, f5⟩
  have b5 : Below w.heap.size w W5 := b4.trans (f5.below.mono b4.size)
  have r5 := f5.row
  clear f5 b4 r2 n2 m2 o2 KR
  obtain ⟨W6', hW6'⟩ : ∃ W, W5.alloc (.cells #[.int .i64 0, .int .i64 0, .int .i64 0, .int .u64 0, .int .u64 0, .int .i64 0, .int .u64 0, .int .u64 0, .int .i64 0, .int .i64 0, .int .i64 0, .int .u32 0, .int .u32 0, .int .i64 0, .int .i64 0, .int .i64 0, .bool false, .int .i64 0, .int .i64 0, .int .i64 0, .int .u64 0, .int .u64 0, .int .i64 0, .int .u64 0, .int .u64 0, .int .i64 0, .int .i64 0, .slice none 0 0] 38) = W := ⟨_, rfl⟩
  have B6' : Blk W6' W5.heap.size 38 #[.int .i64 0, .int .i64 0, .int .i64 0, .int .u64 0, .int .u64 0, .int .i64 0, .int .u64 0, .int .u64 0, .int .i64 0, .int .i64 0, .int .i64 0, .int .u32 0, .int .u32 0, .int .i64 0, .int .i64 0, .int .i64 0, .bool false, .int .i64 0, .int .i64 0, .int .i64 0, .int .u64 0, .int .u64 0, .int .i64 0, .int .u64 0, .int .u64 0, .int .i64 0, .int .i64 0, .slice none 0 0] := by rw [← hW6']; exact blk_new _ _ _
  obtain ⟨W6, hW6⟩ : ∃ W, W6'.setRow W5.heap.size #[.int .i64 4, .int .i64 17, .int .i64 4, .int .u64 0, .int .u64 167772161, .int .i64 4, .int .u64 0, .int .u64 167772162, .int .i64 53, .int .i64 1024, .int .i64 0, .int .u32 0, .int .u32 0, .int .i64 0, .int .i64 0, .int .i64 0, .bool false, .int .i64 0, .int .i64 0, .int .i64 0, .int .u64 0, .int .u64 0, .int .i64 0, .int .u64 0, .int .u64 0, .int .i64 0, .int .i64 0, .slice a5 4 c5] = W := ⟨_, rfl⟩
  have B6 : Blk W6 W5.heap.size 38 #[.int .i64 4, .int .i64 17, .int .i64 4, .int .u64 0, .int .u64 167772161, .int .i64 4, .int .u64 0, .int .u64 167772162, .int .i64 53, .int .i64 1024, .int .i64 0, .int .u32 0, .int .u32 0, .int .i64 0, .int .i64 0, .int .i64 0, .bool false, .int .i64 0, .int .i64 0, .int .i64 0, .int .u64 0, .int .u64 0, .int .i64 0, .int .u64 0, .int .u64 0, .int .i64 0, .int .i64 0, .slice a5 4 c5] := by rw [← hW6]; exact B6'.set _
  have b56 : Below W5.heap.size W5 W6 := by rw [← hW6, ← hW6']; exact below_setRow ((Below.refl _ _).alloc (Nat.le_refl _) _) (Nat.le_refl _) _
  have b6 : Below w.heap.size w W6 := b5.trans (b56.mono b5.size)
  have r6 := r5.below b56
  have HW6 : Hid _ := hW6
  clear hW6 b56 r5 b5
  go_wp2_with (refine wpList_store_row rfl _ _ _ rfl W5.heap.size #[.int .i64 4, .int .i64 17, .int .i64 4, .int .u64 0, .int .u64 167772161, .int .i64 4, .int .u64 0, .int .u64 167772162, .int .i64 53, .int .i64 1024, .int .i64 0, .int .u32 0, .int .u32 0, .int .i64 0, .int .i64 0, .int .i64 0, .bool false, .int .i64 0, .int .i64 0, .int .i64 0, .int .u64 0, .int .u64 0, .int .i64 0, .int .u64 0, .int .u64 0, .int .i64 0, .int .i64 0, .slice a5 4 c5] (by rfl) (by rfl) _ _ B6' (by kernel_rfl) (by rfl) (by kernel_rfl) ?_; rw [HW6.out])
  clear HW6 B6' hW6'
  refine wp_region_noPanic ?_
  refine wp_region_held_drew (S := fun w' => Blk w' W5.heap.size 38 #[.int .i64 4, .int .i64 17, .int .i64 4, .int .u64 0, .int .u64 167772161, .int .i64 4, .int .u64 0, .int .u64 167772162, .int .i64 53, .int .i64 1024, .int .i64 0, .int .u32 0, .int .u32 0, .int .i64 0, .int .i64 0, .int .i64 0, .bool false, .int .i64 0, .int .i64 0, .int .i64 0, .int .u64 0, .int .u64 0, .int .i64 0, .int .u64 0, .int .u64 0, .int .i64 0, .int .i64 0, .slice a5 4 c5]) (by kernel_rfl) (by exact B6.drew) (fun hHeld => ?_)
  refine wpAnyH_take (i := 0) (oi := { dst := some 17, op := Op.move (.tmp 2), type := 39, pos := "law.go:26", after := #[], guard := none }) (v := (.int .i64 0)) rfl (by kernel_rfl) (by kernel_rfl) (by kernel_rfl) (fun _ _ _ h => h) (Or.inl ⟨by rfl, ?_⟩) hHeld ?_
  · intro w9 hSw
    try dsimp only at hSw
    go_simp
  try simp only [Act.put, List.setIfInBounds_toArray, List.set_cons_zero, List.set_cons_succ]
  refine wpAnyH_take (i := 1) (oi := { dst := some 18, op := Op.binOp BinOp.eql 39 (.tmp 17) (.const (.int .i64 0)) 39, type := 4, pos := "law.go:26", after := #[{ on := 0, ground := Ground.data }], guard := none }) (v := (.bool true)) rfl (by kernel_rfl) (by kernel_rfl) (by kernel_rfl) (fun _ _ _ h => h) (Or.inl ⟨by rfl, ?_⟩) hHeld ?_
  · intro w9 hSw
    try dsimp only at hSw
    go_simp
  try simp only [Act.put, List.setIfInBounds_toArray, List.set_cons_zero, List.set_cons_succ]
  refine wpAnyH_take (i := 2) (oi := { dst := some 19, op := Op.move (.tmp 18), type := 4, pos := "law.go:26", after := #[{ on := 1, ground := Ground.data }], guard := none }) (v := (.bool true)) rfl (by kernel_rfl) (by kernel_rfl) (by kernel_rfl) (fun _ _ _ h => h) (Or.inl ⟨by rfl, ?_⟩) hHeld ?_
  · intro w9 hSw
    try dsimp only at hSw
    go_simp
  try simp only [Act.put, List.setIfInBounds_toArray, List.set_cons_zero, List.set_cons_succ]
  refine wpAnyH_take (i := 3) (oi := { dst := some 20, op := Op.move (.tmp 4), type := 39, pos := "law.go:26", after := #[{ on := 2, ground := Ground.guard }], guard := some (2, true) }) (v := (.int .i64 0)) rfl (by kernel_rfl) (by kernel_rfl) (by kernel_rfl) (fun _ _ _ h => h) (Or.inl ⟨by rfl, ?_⟩) hHeld ?_
  · intro w9 hSw
    try dsimp only at hSw
    go_simp
  try simp only [Act.put, List.setIfInBounds_toArray, List.set_cons_zero, List.set_cons_succ]
  refine wpAnyH_take (i := 4) (oi := { dst := some 21, op := Op.binOp BinOp.eql 39 (.tmp 20) (.const (.int .i64 0)) 39, type := 4, pos := "law.go:26", after := #[{ on := 3, ground := Ground.data }, { on := 2, ground := Ground.guard }], guard := some (2, true) }) (v := (.bool true)) rfl (by kernel_rfl) (by kernel_rfl) (by kernel_rfl) (fun _ _ _ h => h) (Or.inl ⟨by rfl, ?_⟩) hHeld ?_
  · intro w9 hSw
    try dsimp only at hSw
    go_simp
  try simp only [Act.put, List.setIfInBounds_toArray, List.set_cons_zero, List.set_cons_succ]
  refine wpAnyH_take (i := 5) (oi := { dst := some 22, op := Op.pick (.tmp 19) (.tmp 21) (.const (.bool false)), type := 4, pos := "law.go:26", after := #[{ on := 2, ground := Ground.data }, { on := 4, ground := Ground.data }], guard := none }) (v := (.bool true)) rfl (by kernel_rfl) (by kernel_rfl) (by kernel_rfl) (fun _ _ _ h => h) (Or.inl ⟨by rfl, ?_⟩) hHeld ?_
  · intro w9 hSw
    try dsimp only at hSw
    go_simp
  try simp only [Act.put, List.setIfInBounds_toArray, List.set_cons_zero, List.set_cons_succ]
  refine wpAnyH_take (i := 6) (oi := { dst := some 23, op := Op.move (.tmp 22), type := 4, pos := "law.go:26", after := #[{ on := 5, ground := Ground.data }, { on := 2, ground := Ground.chain }], guard := none }) (v := (.bool true)) rfl (by kernel_rfl) (by kernel_rfl) (by kernel_rfl) (fun _ _ _ h => h) (Or.inl ⟨by rfl, ?_⟩) hHeld ?_
  · intro w9 hSw
    try dsimp only at hSw
    go_simp
  try simp only [Act.put, List.setIfInBounds_toArray, List.set_cons_zero, List.set_cons_succ]
  refine wpAnyH_take (i := 7) (oi := { dst := some 24, op := Op.move (.tmp 1), type := 28, pos := "law.go:26", after := #[{ on := 6, ground := Ground.guard }], guard := some (6, true) }) (v := (.slice a2 12 c2)) rfl (by kernel_rfl) (by kernel_rfl) (by kernel_rfl) (fun _ _ _ h => h) (Or.inl ⟨by rfl, ?_⟩) hHeld ?_
  · intro w9 hSw
    try dsimp only at hSw
    go_simp
  try simp only [Act.put, List.setIfInBounds_toArray, List.set_cons_zero, List.set_cons_succ]
  refine wpAnyH_take (i := 8) (oi := { dst := some 25, op := Op.call { callee := Callee.builtin Builtin.len, args := #[.tmp 24], argTypes := #[28] }, type := 3, pos := "law.go:26", after := #[{ on := 7, ground := Ground.data }, { on := 6, ground := Ground.guard }], guard := some (6, true) }) (v := (.int .i64 12)) rfl (by kernel_rfl) (by kernel_rfl) (by kernel_rfl) (fun _ _ _ h => h) (Or.inl ⟨by rfl, ?_⟩) hHeld ?_
  · intro w9 hSw
    try dsimp only at hSw
    go_simp
  try simp only [Act.put, List.setIfInBounds_toArray, List.set_cons_zero, List.set_cons_succ]
  refine wpAnyH_take (i := 9) (oi := { dst := some 26, op := Op.binOp BinOp.eql 3 (.tmp 25) (.const (.int .i64 12)) 3, type := 4, pos := "law.go:26", after := #[{ on := 8, ground := Ground.data }, { on := 6, ground := Ground.guard }], guard := some (6, true) }) (v := (.bool true)) rfl (by kernel_rfl) (by kernel_rfl) (by kernel_rfl) (fun _ _ _ h => h) (Or.inl ⟨by rfl, ?_⟩) hHeld ?_
  · intro w9 hSw
    try dsimp only at hSw
    go_simp
  try simp only [Act.put, List.setIfInBounds_toArray, List.set_cons_zero, List.set_cons_succ]
  refine wpAnyH_take (i := 10) (oi := { dst := some 27, op := Op.pick (.tmp 23) (.tmp 26) (.const (.bool false)), type := 4, pos := "law.go:26", after := #[{ on := 6, ground := Ground.data }, { on := 9, ground := Ground.data }], guard := none }) (v := (.bool true)) rfl (by kernel_rfl) (by kernel_rfl) (by kernel_rfl) (fun _ _ _ h => h) (Or.inl ⟨by rfl, ?_⟩) hHeld ?_
  · intro w9 hSw
    try dsimp only at hSw
    go_simp
  try simp only [Act.put, List.setIfInBounds_toArray, List.set_cons_zero, List.set_cons_succ]
  refine wpAnyH_take (i := 11) (oi := { dst := some 28, op := Op.move (.tmp 27), type := 4, pos := "law.go:26", after := #[{ on := 10, ground := Ground.data }, { on := 6, ground := Ground.chain }], guard := none }) (v := (.bool true)) rfl (by kernel_rfl) (by kernel_rfl) (by kernel_rfl) (fun _ _ _ h => h) (Or.inl ⟨by rfl, ?_⟩) hHeld ?_
  · intro w9 hSw
    try dsimp only at hSw
    go_simp
  try simp only [Act.put, List.setIfInBounds_toArray, List.set_cons_zero, List.set_cons_succ]
  refine wpAnyH_take (i := 12) (oi := { dst := some 29, op := Op.load 38 (.tmp 3), type := 38, pos := "law.go:26", after := #[{ on := 11, ground := Ground.guard }], guard := some (11, true) }) (v := (.agg #[.int .i64 4, .int .i64 17, .int .i64 4, .int .u64 0, .int .u64 167772161, .int .i64 4, .int .u64 0, .int .u64 167772162, .int .i64 53, .int .i64 1024, .int .i64 0, .int .u32 0, .int .u32 0, .int .i64 0, .int .i64 0, .int .i64 0, .bool false, .int .i64 0, .int .i64 0, .int .i64 0, .int .u64 0, .int .u64 0, .int .i64 0, .int .u64 0, .int .u64 0, .int .i64 0, .int .i64 0, .slice a5 4 c5])) rfl (by kernel_rfl) (by kernel_rfl) (by kernel_rfl) (fun _ _ _ h => h) (yieldsIf_blk_w (by kernel_rfl) _ _ rfl W5.heap.size (by rfl) _ (fun _ hSw => hSw) Try.underlying38 (by kernel_rfl)) hHeld ?_
  try simp only [Act.put, List.setIfInBounds_toArray, List.set_cons_zero, List.set_cons_succ]
  refine wpAnyH_ready (rs := [13]) (by kernel_rfl) (by simp) ?_
  refine AllReadyH.cons (o := { dst := some 30, op := Op.call { callee := Callee.value (.func 32), args := #[], argTypes := #[] }, type := 38, pos := "law.go:26", after := #[{ on := 11, ground := Ground.chain }, { on := 11, ground := Ground.guard }], guard := some (11, true) }) rfl (fun K hK => ?_) AllReadyH.nil
  go_simp
  refine Calls.mono (KS.out _) ?_
  rintro e W7 ⟨G7, rfl, r7, bb⟩
  have B7 := B6.drew.kept bb
  have rr7 := (r6.below ((Below.refl _ _).drew)).below bb
  have b7 : Below w.heap.size w W7 := b6.drew.trans (bb.mono b6.drew.size)
  refine hK.out _ _ ?_ (fun hHeld => ?_)
  · exact B7
  clear hK K
  try simp only [Act.put, List.setIfInBounds_toArray, List.set_cons_zero, List.set_cons_succ]
  refine wpAnyH_ready (rs := [14]) (by kernel_rfl) (by simp) ?_
  refine AllReadyH.cons (o := { dst := some 31, op := Op.call { callee := Callee.value (.func 18), args := #[.tmp 29, .tmp 30], argTypes := #[38, 38] }, type := 4, pos := "law.go:26", after := #[{ on := 12, ground := Ground.data }, { on := 13, ground := Ground.data }, { on := 13, ground := Ground.chain }, { on := 11, ground := Ground.guard }], guard := some (11, true) }) rfl (fun K hK => ?_) AllReadyH.nil
  go_simp
  refine Calls.mono (same_seg smallSg a5 (some ⟨G7, 0, none⟩) c5 4 _ rr7 r7) ?_
  rintro e W8 ⟨rfl, bb⟩
  have B8 := B7.kept bb
  have b8 : Below w.heap.size w W8 := b7.trans (bb.mono b7.size)
  refine hK.out _ _ ?_ (fun hHeld => ?_)
  · exact B8
  clear hK K
  try simp only [Act.put, List.setIfInBounds_toArray, List.set_cons_zero, List.set_cons_succ]
  refine wpAnyH_take (i := 15) (oi := { dst := some 32, op := Op.pick (.tmp 28) (.tmp 31) (.const (.bool false)), type := 4, pos := "law.go:26", after := #[{ on := 11, ground := Ground.data }, { on := 14, ground := Ground.data }], guard := none }) (v := (.bool true)) rfl (by kernel_rfl) (by kernel_rfl) (by kernel_rfl) (fun _ _ _ h => h) (Or.inl ⟨by rfl, ?_⟩) hHeld ?_
  · intro w9 hSw
    try dsimp only at hSw
    go_simp
  try simp only [Act.put, List.setIfInBounds_toArray, List.set_cons_zero, List.set_cons_succ]
  refine wpAnyH_take (i := 16) (oi := { dst := some 33, op := Op.move (.tmp 32), type := 4, pos := "law.go:26", after := #[{ on := 15, ground := Ground.data }, { on := 14, ground := Ground.chain }], guard := none }) (v := (.bool true)) rfl (by kernel_rfl) (by kernel_rfl) (by kernel_rfl) (fun _ _ _ h => h) (Or.inl ⟨by rfl, ?_⟩) hHeld ?_
  · intro w9 hSw
    try dsimp only at hSw
    go_simp
  try simp only [Act.put, List.setIfInBounds_toArray, List.set_cons_zero, List.set_cons_succ]
  refine wpAnyH_ready (rs := [17]) (by kernel_rfl) (by simp) ?_
  refine AllReadyH.cons (o := { dst := some 34, op := Op.call { callee := Callee.value (.func 13), args := #[.const (.int .i64 4), .const (.int .i64 3)], argTypes := #[3, 3] }, type := 4, pos := "law.go:26", after := #[{ on := 16, ground := Ground.chain }, { on := 16, ground := Ground.guard }], guard := some (16, true) }) rfl (fun K hK => ?_) AllReadyH.nil
  go_simp
  refine Calls.mono (KE.out _) ?_
  rintro e W9 ⟨rfl, hW9⟩
  rw [hW9]
  clear hW9 W9
  refine hK.out _ _ ?_ (fun hHeld => ?_)
  · exact B8
  clear hK K
  try simp only [Act.put, List.setIfInBounds_toArray, List.set_cons_zero, List.set_cons_succ]
  refine wpAnyH_take (i := 18) (oi := { dst := some 35, op := Op.pick (.tmp 33) (.tmp 34) (.const (.bool false)), type := 4, pos := "law.go:26", after := #[{ on := 16, ground := Ground.data }, { on := 17, ground := Ground.data }], guard := none }) (v := (.bool true)) rfl (by kernel_rfl) (by kernel_rfl) (by kernel_rfl) (fun _ _ _ h => h) (Or.inl ⟨by rfl, ?_⟩) hHeld ?_
  · intro w9 hSw
    try dsimp only at hSw
    go_simp
  try simp only [Act.put, List.setIfInBounds_toArray, List.set_cons_zero, List.set_cons_succ]
  refine wpAnyH_take (i := 19) (oi := { dst := some 0, op := Op.assign (.tmp 35), type := 4, pos := "law.go:26", after := #[{ on := 18, ground := Ground.data }, { on := 17, ground := Ground.chain }, { on := 0, ground := Ground.phase }, { on := 1, ground := Ground.phase }, { on := 2, ground := Ground.phase }, { on := 3, ground := Ground.phase }, { on := 4, ground := Ground.phase }, { on := 5, ground := Ground.phase }, { on := 6, ground := Ground.phase }, { on := 7, ground := Ground.phase }, { on := 8, ground := Ground.phase }, { on := 9, ground := Ground.phase }, { on := 10, ground := Ground.phase }, { on := 11, ground := Ground.phase }, { on := 12, ground := Ground.phase }, { on := 13, ground := Ground.phase }, { on := 14, ground := Ground.phase }, { on := 15, ground := Ground.phase }, { on := 16, ground := Ground.phase }, { on := 17, ground := Ground.phase }, { on := 18, ground := Ground.phase }], guard := none }) (v := (.bool true)) rfl (by kernel_rfl) (by kernel_rfl) (by kernel_rfl) (fun _ _ _ h => h) (Or.inl ⟨by rfl, ?_⟩) hHeld ?_
  · intro w9 hSw
    try dsimp only at hSw
    go_simp
  try simp only [Act.put, List.setIfInBounds_toArray, List.set_cons_zero, List.set_cons_succ]
  refine wpAnyH_done (by kernel_rfl) ?_ _
  refine NoPanic.normal ?_
  go_wp2
  go_ret
  exact ⟨rfl, b8⟩

end Go.Proofs.Ytgdpcomcndidcaa

namespace Go.Proofs.Ytgdpcomcndidcaa
open Go.RowKit
set_option linter.unusedVariables false
set_option linter.unusedSimpArgs false

theorem made_udp {x : Sg} (h : x.t.pr = 17) : madeB x = [x.t.sp / 256 % 256, x.t.sp % 256, x.t.dp / 256 % 256, x.t.dp % 256, (8 + (x.data.length : Int)) / 256 % 256, (8 + (x.data.length : Int)) % 256, checkB x / 256, checkB x % 256] ++ x.data := by
  unfold madeB bodyB placeB headB portB
  rw [if_neg (by omega), if_pos h, if_neg (by omega), if_pos h]
  rfl
theorem body_udp {x : Sg} (h : x.t.pr = 17) : bodyB x = [x.t.sp / 256 % 256, x.t.sp % 256, x.t.dp / 256 % 256, x.t.dp % 256, (8 + (x.data.length : Int)) / 256 % 256, (8 + (x.data.length : Int)) % 256, 0, 0] ++ x.data := by
  unfold bodyB headB portB
  rw [if_neg (by omega), if_pos h]
  rfl
theorem made_tcp {x : Sg} (h : x.t.pr = 6) : madeB x = [x.t.sp / 256 % 256, x.t.sp % 256, x.t.dp / 256 % 256, x.t.dp % 256, x.sq / 16777216, x.sq / 65536 % 256, x.sq / 256 % 256, x.sq % 256, x.ak / 16777216, x.ak / 65536 % 256, x.ak / 256 % 256, x.ak % 256, 80, x.fl % 256, x.wn / 256 % 256, x.wn % 256, checkB x / 256, checkB x % 256, 0, 0] ++ x.data := by
  unfold madeB bodyB placeB headB portB
  rw [if_pos h, if_pos h]
  rfl
theorem body_tcp {x : Sg} (h : x.t.pr = 6) : bodyB x = [x.t.sp / 256 % 256, x.t.sp % 256, x.t.dp / 256 % 256, x.t.dp % 256, x.sq / 16777216, x.sq / 65536 % 256, x.sq / 256 % 256, x.sq % 256, x.ak / 16777216, x.ak / 65536 % 256, x.ak / 256 % 256, x.ak % 256, 80, x.fl % 256, x.wn / 256 % 256, x.wn % 256, 0, 0, 0, 0] ++ x.data := by
  unfold bodyB headB portB
  rw [if_pos h]
  rfl
/-- The number of a message. -/
def numE (x : Sg) : Int := if isEcho x.t.fam x.ty = true then x.t.sp else 0
theorem made_icmp {x : Sg} (h : ¬ x.t.pr = 6) (h' : ¬ x.t.pr = 17) : madeB x = [x.ty % 256, x.cd % 256, checkB x / 256, checkB x % 256, numE x / 256 % 256, numE x % 256, 0, 0] ++ x.data := by
  unfold madeB bodyB placeB headB portB
  rw [if_neg h, if_neg h', if_neg h, if_neg h']
  rfl
theorem body_icmp {x : Sg} (h : ¬ x.t.pr = 6) (h' : ¬ x.t.pr = 17) : bodyB x = [x.ty % 256, x.cd % 256, 0, 0, numE x / 256 % 256, numE x % 256, 0, 0] ++ x.data := by
  unfold bodyB headB portB
  rw [if_neg h, if_neg h']
  rfl
theorem madeB_len {x : Sg} : (madeB x).length = (bodyB x).length := by unfold madeB; simp

theorem Ad.bytes_ok (a : Ad) : M.Bytes a.bytes := by
  unfold Ad.bytes
  split
  · exact bytesGo_bytes _ _ _
  · exact M.Bytes.nil
theorem bytes_len {a : Ad} (h : a.right = true) : a.bytes.length = if a.fam = 4 then 4 else 16 := by
  unfold Ad.bytes
  rw [if_pos h, bytesGo_length]
theorem ahead_even {s d : Ad} {f pr sz : Int} (h : endsB f s d = true) : (ahead s d pr sz).length % 2 = 0 := by
  obtain ⟨h1, h2, h3, h4⟩ := (endsB_iff f s d).1 h
  unfold ahead
  split
  · rfl
  · unfold pseudo
    split
    · unfold pseudoL
      split
      · rename_i h5
        simp only [put16, List.length_append, bytes_len h1, bytes_len h2, List.length_cons, List.length_nil]
        rw [if_pos h5, if_pos (by omega)]
      · rename_i h5
        simp only [put32, List.length_append, bytes_len h1, bytes_len h2, List.length_cons, List.length_nil]
        rw [if_neg h5, if_neg (by omega)]
    · rfl
theorem ahead_ok (s d : Ad) (pr sz : Int) : M.Bytes (ahead s d pr sz) := by
  unfold ahead
  split
  · exact M.Bytes.nil
  · unfold pseudo
    split
    · unfold pseudoL
      split
      · unfold put16
        refine ((s.bytes_ok.app d.bytes_ok).app (bytes_two pr)).app ?_
        intro y hy
        simp at hy
        rcases hy with rfl | rfl <;> omega
      · unfold put32
        refine ((s.bytes_ok.app d.bytes_ok).app ?_).app (bytes_four pr)
        intro y hy
        simp at hy
        rcases hy with rfl | rfl | rfl | rfl <;> omega
    · exact M.Bytes.nil
theorem made_raw (x : Sg) : M.raw true (madeB x) = M.raw true (bodyB x) + checkB x := by
  by_cases h6 : x.t.pr = 6
  · rw [made_tcp h6, body_tcp h6]
    simp only [List.cons_append, List.nil_append, M.raw]
    omega
  by_cases h17 : x.t.pr = 17
  · rw [made_udp h17, body_udp h17]
    simp only [List.cons_append, List.nil_append, M.raw]
    omega
  · rw [made_icmp h6 h17, body_icmp h6 h17]
    simp only [List.cons_append, List.nil_append, M.raw]
    omega
theorem body_ok {x : Sg} (ok : x.ok) (hd : M.Bytes x.data) : M.Bytes (bodyB x) := by
  have h1 := ok.sq
  have h2 := ok.ak
  by_cases h6 : x.t.pr = 6
  · rw [body_tcp h6]
    refine M.Bytes.app ?_ hd
    intro y hy
    simp only [List.mem_cons, List.not_mem_nil, or_false] at hy
    omega
  by_cases h17 : x.t.pr = 17
  · rw [body_udp h17]
    refine M.Bytes.app ?_ hd
    intro y hy
    simp only [List.mem_cons, List.not_mem_nil, or_false] at hy
    omega
  · rw [body_icmp h6 h17]
    refine M.Bytes.app ?_ hd
    intro y hy
    simp only [List.mem_cons, List.not_mem_nil, or_false] at hy
    omega
theorem made_ok {x : Sg} (ok : x.ok) (hd : M.Bytes x.data) : M.Bytes (madeB x) := by
  have := checkB_bd x
  unfold madeB
  exact ((body_ok ok hd).set _ (by omega)).set _ (by omega)
theorem sum_two (A l : List Int) (h : A.length % 2 = 0) : M.sumOf [A, l] = M.nf (M.raw true A + M.raw true l) := by
  unfold M.sumOf
  simp only [List.flatten_cons, List.flatten_nil, List.append_nil]
  rw [M.raw_append, M.par_even true h]
theorem made_total {x : Sg} (ok : x.ok) (hd : M.Bytes x.data) (hE : endsB x.t.fam x.t.s x.t.d = true) :
    (M.raw true (ahead x.t.s x.t.d x.t.pr (madeB x).length) + M.raw true (madeB x)) % 65535 = 0 ∧ 0 < M.raw true (ahead x.t.s x.t.d x.t.pr (madeB x).length) + M.raw true (madeB x) := by
  have e1 : sumB x = 65535 - M.nf (M.raw true (ahead x.t.s x.t.d x.t.pr (bodyB x).length) + M.raw true (bodyB x)) := by
    unfold sumB
    rw [sum_two _ _ (ahead_even hE)]
  rw [made_raw, madeB_len]
  have b1 := (M.raw_bd true _ (ahead_ok x.t.s x.t.d x.t.pr (bodyB x).length)).1
  have b2 := (M.raw_bd true _ (body_ok ok hd)).1
  have e2 : checkB x = if sumB x = 0 ∧ x.t.pr = 17 then 65535 else sumB x := rfl
  generalize M.raw true (ahead x.t.s x.t.d x.t.pr (bodyB x).length) = RA at *
  generalize M.raw true (bodyB x) = RB at *
  generalize checkB x = c at *
  generalize sumB x = s at *
  have h4 : M.nf (RA + RB) % 65535 = (RA + RB) % 65535 := by unfold M.nf; split <;> omega
  have h5 := M.nf_bd (RA + RB)
  have h6 : M.nf (RA + RB) ≤ RA + RB := by unfold M.nf; split <;> omega
  generalize M.nf (RA + RB) = F at *
  split at e2 <;> omega
theorem made_sums {x : Sg} (ok : x.ok) (hd : M.Bytes x.data) (hE : endsB x.t.fam x.t.s x.t.d = true) : sumsB x.t.s x.t.d x.t.pr (madeB x) = true := by
  unfold sumsB
  rw [sum_two _ _ (ahead_even hE)]
  obtain ⟨h1, h2⟩ := made_total ok hd hE
  rw [M.nf_full h1 h2]
  rfl
theorem turned_sums {x : Sg} (ok : x.ok) (hd : M.Bytes x.data) (hE : endsB x.t.fam x.t.s x.t.d = true) (k : Nat) (u : Int) (hk : k < (madeB x).length) (hu : 0 ≤ u ∧ u ≤ 255) (hne : u ≠ (madeB x).getD k 0) :
    sumsB x.t.s x.t.d x.t.pr ((madeB x).set k u) = false := by
  unfold sumsB
  rw [sum_two _ _ (ahead_even hE), List.length_set, M.raw_set true _ k u hk]
  obtain ⟨h1, h2⟩ := made_total ok hd hE
  have hz := (made_ok ok hd).get k
  generalize M.raw true (ahead x.t.s x.t.d x.t.pr (madeB x).length) = RA at *
  generalize M.raw true (madeB x) = RM at *
  generalize (madeB x).getD k 0 = z at *
  simp only [beq_eq_false_iff_ne, ne_eq]
  intro h
  have h3 := (M.nf_zero h).1
  split at h3 <;> omega
end Go.Proofs.Ytgdpcomcndidcaa

namespace Go.Proofs.Ytgdpcomcndidcaa
open Go.RowKit
set_option linter.unusedVariables false
set_option linter.unusedSimpArgs false

structure May5 (x : Sg) : Prop where
  ends : endsB x.t.fam x.t.s x.t.d = true
  proto : x.t.pr = 6 ∨ x.t.pr = 17 ∨ x.t.pr = icmpOf x.t.fam
  sp : 0 ≤ x.t.sp ∧ x.t.sp ≤ 65535
  dp : 0 ≤ x.t.dp ∧ x.t.dp ≤ 65535
  wn : 0 ≤ x.wn ∧ x.wn ≤ 65535
  ty : 0 ≤ x.ty ∧ x.ty ≤ 255
  cd : 0 ≤ x.cd ∧ x.cd ≤ 255
  fl : 0 ≤ x.fl ∧ x.fl ≤ 63
  len : x.data.length ≤ 65000
theorem may5 {x : Sg} (h : mayB x = true) : May5 x := by
  simp only [mayB, protoB, numB, upB, badN, List.any_cons, List.any_nil, Bool.and_eq_true, Bool.or_eq_true, Bool.not_eq_true', Bool.or_eq_false_iff, decide_eq_false_iff_not, decide_eq_true_eq, beq_iff_eq, Bool.or_false] at h
  obtain ⟨h1, h2, ⟨⟨⟨h3, h4⟩, ⟨h5, h6⟩, ⟨h7, h8⟩⟩, ⟨⟨h9, h10⟩, ⟨h11, h12⟩⟩, h13, h14⟩, h15⟩ := h
  exact ⟨h1, h2, by omega, by omega, by omega, by omega, by omega, by omega, h15⟩
theorem u16v_yes {l : List Int} {k : Nat} (h : k + 2 ≤ l.length) : u16v l (k : Int) = 256 * l.getD k 0 + l.getD (k + 1) 0 := by
  unfold u16v
  rw [if_pos (by unfold liesB; simp; omega)]
  unfold u16
  simp
theorem u32v_yes {l : List Int} {k : Nat} (h : k + 4 ≤ l.length) : u32v l (k : Int) = 16777216 * l.getD k 0 + 65536 * l.getD (k + 1) 0 + 256 * l.getD (k + 2) 0 + l.getD (k + 3) 0 := by
  unfold u32v
  rw [if_pos (by unfold liesB; simp; omega)]
  unfold u32
  simp
theorem getD_set_ne' (l : List Int) (i k : Nat) (z : Int) (h : k < i) : (l.set i z).getD k 0 = l.getD k 0 := M.getD_set_ne l i k z (by omega)

theorem short_E {x : Sg} (m : May5 x) (h17 : x.t.pr = 17) (k : Nat) (hk : k < (madeB x).length) : segE x.t.fam x.t.pr x.t.s x.t.d ((madeB x).take k) ≠ 0 := by
  unfold segE
  rw [m.ends, if_neg (by decide), if_neg (by omega), if_pos h17]
  have hl := m.len
  rw [made_udp h17] at hk ⊢
  simp only [List.length_append, List.length_cons, List.length_nil] at hk
  by_cases h8 : k < 8
  · unfold udpE
    rw [if_pos (by rw [List.length_take]; omega)]
    decide
  · obtain ⟨j, rfl⟩ : ∃ j, k = 8 + j := ⟨k - 8, by omega⟩
    have e : ([x.t.sp / 256 % 256, x.t.sp % 256, x.t.dp / 256 % 256, x.t.dp % 256, (8 + (x.data.length : Int)) / 256 % 256, (8 + (x.data.length : Int)) % 256, checkB x / 256, checkB x % 256] ++ x.data).take (8 + j) = [x.t.sp / 256 % 256, x.t.sp % 256, x.t.dp / 256 % 256, x.t.dp % 256, (8 + (x.data.length : Int)) / 256 % 256, (8 + (x.data.length : Int)) % 256, checkB x / 256, checkB x % 256] ++ x.data.take j := by
      rw [List.take_append, List.take_of_length_le (by simp)]
      simp
    rw [e]
    unfold udpE
    have ll : ([x.t.sp / 256 % 256, x.t.sp % 256, x.t.dp / 256 % 256, x.t.dp % 256, (8 + (x.data.length : Int)) / 256 % 256, (8 + (x.data.length : Int)) % 256, checkB x / 256, checkB x % 256] ++ x.data.take j).length = 8 + j := by
      simp only [List.length_append, List.length_cons, List.length_nil, List.length_take]
      omega
    have eu := u16v_yes (l := [x.t.sp / 256 % 256, x.t.sp % 256, x.t.dp / 256 % 256, x.t.dp % 256, (8 + (x.data.length : Int)) / 256 % 256, (8 + (x.data.length : Int)) % 256, checkB x / 256, checkB x % 256] ++ x.data.take j) (k := 4) (by omega)
    simp only [List.cons_append, List.nil_append, List.getD_cons_succ, List.getD_cons_zero] at eu
    rw [if_neg (by omega), if_pos (.inr (by
      rw [ll]
      have : (4 : Int) = ((4 : Nat) : Int) := rfl
      rw [this]
      simp only [List.cons_append, List.nil_append]
      rw [eu]
      omega))]
    decide
theorem turned_E {x : Sg} (ok : x.ok) (hd : M.Bytes x.data) (m : May5 x) (k : Nat) (u : Int) (hk : k < (madeB x).length) (hk' : (madeB x).length ≤ k + x.data.length) (hu : 0 ≤ u ∧ u ≤ 255) (hne : u ≠ (madeB x).getD k 0) :
    segE x.t.fam x.t.pr x.t.s x.t.d ((madeB x).set k u) ≠ 0 := by
  have hs := turned_sums ok hd m.ends k u hk hu hne
  have hl := m.len
  unfold segE
  rw [m.ends, if_neg (by decide)]
  have lset : ((madeB x).set k u).length = (madeB x).length := List.length_set
  by_cases h6 : x.t.pr = 6
  · rw [if_pos h6]
    have ll : (madeB x).length = 20 + x.data.length := by rw [made_tcp h6]; simp; omega
    unfold tcpE
    have eH : tcpH ((madeB x).set k u) = 20 := by
      unfold tcpH
      rw [getD_set_ne' _ _ _ _ (by omega), made_tcp h6]
      rfl
    rw [if_neg (by omega), eH, if_neg (by omega), if_pos hs]
    decide
  rw [if_neg h6]
  by_cases h17 : x.t.pr = 17
  · rw [if_pos h17]
    have ll : (madeB x).length = 8 + x.data.length := by rw [made_udp h17]; simp; omega
    have e4 : u16v ((madeB x).set k u) 4 = 8 + (x.data.length : Int) := by
      have := u16v_yes (l := (madeB x).set k u) (k := 4) (by omega)
      rw [getD_set_ne' _ _ _ _ (by omega), getD_set_ne' _ _ _ _ (by omega), made_udp h17] at this
      simp only [List.cons_append, List.nil_append, List.getD_cons_succ, List.getD_cons_zero] at this
      rw [made_udp h17]
      simp only [List.cons_append, List.nil_append]
      have e : (4 : Int) = ((4 : Nat) : Int) := rfl
      rw [e, this]
      omega
    unfold udpE
    rw [if_neg (by omega), e4, if_neg (by omega)]
    have et : ((madeB x).set k u).take (8 + (x.data.length : Int)).toNat = (madeB x).set k u := List.take_of_length_le (by omega)
    rw [et]
    have e6 : u16v ((madeB x).set k u) 6 = checkB x := by
      have hb := checkB_bd x
      have := u16v_yes (l := (madeB x).set k u) (k := 6) (by omega)
      rw [getD_set_ne' _ _ _ _ (by omega), getD_set_ne' _ _ _ _ (by omega), made_udp h17] at this
      simp only [List.cons_append, List.nil_append, List.getD_cons_succ, List.getD_cons_zero] at this
      rw [made_udp h17]
      simp only [List.cons_append, List.nil_append]
      have e : (6 : Int) = ((6 : Nat) : Int) := rfl
      rw [e, this]
      omega
    have hc : checkB x ≠ 0 := by
      unfold checkB
      split
      · decide
      · rename_i h
        intro h0
        exact h ⟨h0, h17⟩
    rw [e6, if_neg hc, if_neg (by rw [hs]; decide)]
    decide
  rw [if_neg h17]
  have hi : x.t.pr = icmpOf x.t.fam := by rcases m.proto with h | h | h <;> first | exact absurd h h6 | exact absurd h h17 | exact h
  rw [if_pos hi]
  have ll : (madeB x).length = 8 + x.data.length := by rw [made_icmp h6 h17]; simp; omega
  unfold icmpE
  rw [if_neg (by omega), if_pos hs]
  decide
end Go.Proofs.Ytgdpcomcndidcaa
