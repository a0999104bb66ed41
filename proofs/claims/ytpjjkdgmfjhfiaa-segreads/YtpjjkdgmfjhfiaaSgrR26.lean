/- Texts joined: SgY -/
import Derived.Test.YtpjjkdgmfjhfiaaSgrR25
namespace Go.Proofs.Ytpjjkdgmfjhfiaa
open Go.RowKit
set_option linter.unusedVariables false
set_option linter.unusedSimpArgs false
def bodyB (x : Sg) : List Int := headB x ++ x.data
def sumB (x : Sg) : Int := 65535 - M.sumOf [ahead x.t.s x.t.d x.t.pr (bodyB x).length, bodyB x]
def checkB (x : Sg) : Int := if sumB x = 0 ∧ x.t.pr = 17 then 65535 else sumB x
def madeB (x : Sg) : List Int := ((bodyB x).set (placeB x) (checkB x / 256)).set (placeB x + 1) (checkB x % 256)
theorem headB_len (x : Sg) : placeB x + 2 ≤ (headB x).length ∧ (headB x).length ≤ 20 := by
  unfold placeB headB
  split
  · simp [portB, put16, put32]
  · split <;> simp [portB, put16]
theorem sumB_bd (x : Sg) : 0 ≤ sumB x ∧ sumB x ≤ 65535 := by
  unfold sumB M.sumOf
  have := M.nf_bd (M.raw true [ahead x.t.s x.t.d x.t.pr (bodyB x).length, bodyB x].flatten)
  omega
theorem checkB_bd (x : Sg) : 0 ≤ checkB x ∧ checkB x ≤ 65535 := by
  unfold checkB
  split
  · omega
  · exact sumB_bd x
/-- A whole struct out of its block, where a guard asks for it. -/
theorem wpList_load_blk_w {ops : Array Oper} {rest : List Oper} {o : Oper} {ac : Act} {w : World} {Q : Exit → Act → World → Prop} (hw : Region.wanted o (yielded ops ac.tmps) = true) (ty : TypeId) (x : Operand) (ho : o.op = .load ty x)
    (g : Nat) (hx : ac.eval x = .pointer (some ⟨g, 0, none⟩)) (cs : Array Value) (hg : Blk w g ty cs) {fs : _} (hu : Try.prog.underlying ty = some (.struct fs)) (hi : (Try.prog.info? ty).map (·.size) = some cs.size)
    (h : wpList Try.prog ops Q rest (ac.put o.dst (.agg cs)) w) : wpList Try.prog ops Q (o :: rest) ac w :=
  wpList_step fun K hK => by rw [if_pos hw]; exact wp_load_row ty x ho g hx ty cs (0, 0) (.struct fs) hg hu rfl hi (hK _ _ h)
/-- The numbers of a segment lie in their kinds. -/
structure Sg.ok (x : Sg) : Prop where
  s : x.t.s.ok
  d : x.t.d.ok
  sq : 0 ≤ x.sq ∧ x.sq ≤ 4294967295
  ak : 0 ≤ x.ak ∧ x.ak ≤ 4294967295
set_option maxRecDepth 100000 in
set_option maxHeartbeats 4000000 in
theorem build_n1 (x : Sg) (a : Option Addr) (c : Nat) (w : World) (h : Row w a x.data) (hnil : a = none → c = 0) (ok : x.ok) (hE : endsB x.t.fam x.t.s x.t.d = false) :
    Calls Try.prog 19 #[.agg (sRc x.t.fam x.t.pr x.t.s.fam x.t.s.hi x.t.s.lo x.t.d.fam x.t.d.hi x.t.d.lo x.t.sp x.t.dp x.fl x.sq x.ak x.wn x.ty x.cd x.er x.inn.fam x.inn.pr x.inn.s.fam x.inn.s.hi x.inn.s.lo x.inn.d.fam x.inn.d.hi x.inn.d.lo x.inn.sp x.inn.dp a x.data.length c)] w fun e w' => e = .returned (.tuple #[.slice none 0 0, .int .i64 1]) ∧ Below w.heap.size w w' := by
  obtain ⟨W1, hW1⟩ : ∃ W1, w.alloc (.cells (sRc x.t.fam x.t.pr x.t.s.fam x.t.s.hi x.t.s.lo x.t.d.fam x.t.d.hi x.t.d.lo x.t.sp x.t.dp x.fl x.sq x.ak x.wn x.ty x.cd x.er x.inn.fam x.inn.pr x.inn.s.fam x.inn.s.hi x.inn.s.lo x.inn.d.fam x.inn.d.hi x.inn.d.lo x.inn.sp x.inn.dp a x.data.length c) 38) = W1 := ⟨_, rfl⟩
  have b1 := bel_nw hW1
  have B1 := blk_nw hW1
  have g1 : w.heap.size < W1.heap.size := B1.lt
  obtain ⟨W2, hW2⟩ : ∃ W2, W1.alloc (.cells (sRb 0 0 0 0 0 0 0 0 0 0) 26) = W2 := ⟨_, rfl⟩
  have b2 := bel_al b1 hW2
  have B2 := B1.al hW2
  have T2 := blk_nw hW2
  obtain ⟨W3, hW3⟩ : ∃ W, W2.setRow W1.heap.size (sRb x.t.fam x.t.pr x.t.s.fam x.t.s.hi x.t.s.lo x.t.d.fam x.t.d.hi x.t.d.lo x.t.sp x.t.dp) = W := ⟨_, rfl⟩
  have b3 : Below w.heap.size w W3 := by rw [← hW3]; exact below_setRow b2 (Nat.le_of_lt g1) _
  have B3 : Blk W3 w.heap.size 38 (sRc x.t.fam x.t.pr x.t.s.fam x.t.s.hi x.t.s.lo x.t.d.fam x.t.d.hi x.t.d.lo x.t.sp x.t.dp x.fl x.sq x.ak x.wn x.ty x.cd x.er x.inn.fam x.inn.pr x.inn.s.fam x.inn.s.hi x.inn.s.lo x.inn.d.fam x.inn.d.hi x.inn.d.lo x.inn.sp x.inn.dp a x.data.length c) := by rw [← hW3]; exact B2.other (by omega) _
  have T3 : Blk W3 W1.heap.size 26 (sRb x.t.fam x.t.pr x.t.s.fam x.t.s.hi x.t.s.lo x.t.d.fam x.t.d.hi x.t.d.lo x.t.sp x.t.dp) := by rw [← hW3]; exact T2.set _
  have HW3 : Hid _ := hW3
  clear hW3
  have K0 : Hid _ := ofFamily_any x.t.fam x.t.s.fam x.t.s.hi x.t.s.lo x.t.d.fam x.t.d.hi x.t.d.lo W3
  have e0 := T3.cell 0 (.int .i64 x.t.fam) rfl
  have e1 := T3.cell 1 (.int .i64 x.t.pr) rfl
  have e2 := T3.cell 2 (.int .i64 x.t.s.fam) rfl
  have e3 := T3.cell 3 (.int .u64 x.t.s.hi) rfl
  have e4 := T3.cell 4 (.int .u64 x.t.s.lo) rfl
  have e5 := T3.cell 5 (.int .i64 x.t.d.fam) rfl
  have e6 := T3.cell 6 (.int .u64 x.t.d.hi) rfl
  have e7 := T3.cell 7 (.int .u64 x.t.d.lo) rfl
  rw [show endsB x.t.fam ⟨x.t.s.fam, x.t.s.hi, x.t.s.lo⟩ ⟨x.t.d.fam, x.t.d.hi, x.t.d.lo⟩ = false from hE] at K0
  go_enter Try.func19, Try.ntmps19
  go_wp2_with (first
    | (refine wpList_load_sub rfl _ _ rfl w.heap.size 0 38 (by rfl) _ (sRb x.t.fam x.t.pr x.t.s.fam x.t.s.hi x.t.s.lo x.t.d.fam x.t.d.hi x.t.d.lo x.t.sp x.t.dp) B1 (by rfl) Try.underlying26 (by kernel_rfl) ?_)
    | (refine wpList_store_row rfl _ _ _ rfl W1.heap.size (sRb x.t.fam x.t.pr x.t.s.fam x.t.s.hi x.t.s.lo x.t.d.fam x.t.d.hi x.t.d.lo x.t.sp x.t.dp) (by rfl) (by rfl) _ _ T2 (by kernel_rfl) (by rfl) (by kernel_rfl) ?_; rw [HW3.out]))
  refine Calls.mono K0.out ?_
  rintro e W4 ⟨rfl, bb⟩
  have b4 := bel_tr b3 bb
  have B4 := B3.kept bb
  have T4 := T3.kept bb
  clear K0 bb B1 b1 B2 T2 b2 B3 T3 b3 hW1 hW2 HW3 e0 e1 e2 e3 e4 e5 e6 e7
  go_wp2
  go_ret2
  exact ⟨rfl, b4⟩
set_option maxRecDepth 100000 in
set_option maxHeartbeats 4000000 in
theorem build_n2 (x : Sg) (a : Option Addr) (c : Nat) (w : World) (h : Row w a x.data) (hnil : a = none → c = 0) (ok : x.ok) (hE : endsB x.t.fam x.t.s x.t.d = true) (hP : protoB x = false) :
    Calls Try.prog 19 #[.agg (sRc x.t.fam x.t.pr x.t.s.fam x.t.s.hi x.t.s.lo x.t.d.fam x.t.d.hi x.t.d.lo x.t.sp x.t.dp x.fl x.sq x.ak x.wn x.ty x.cd x.er x.inn.fam x.inn.pr x.inn.s.fam x.inn.s.hi x.inn.s.lo x.inn.d.fam x.inn.d.hi x.inn.d.lo x.inn.sp x.inn.dp a x.data.length c)] w fun e w' => e = .returned (.tuple #[.slice none 0 0, .int .i64 1]) ∧ Below w.heap.size w w' := by
  obtain ⟨W1, hW1⟩ : ∃ W1, w.alloc (.cells (sRc x.t.fam x.t.pr x.t.s.fam x.t.s.hi x.t.s.lo x.t.d.fam x.t.d.hi x.t.d.lo x.t.sp x.t.dp x.fl x.sq x.ak x.wn x.ty x.cd x.er x.inn.fam x.inn.pr x.inn.s.fam x.inn.s.hi x.inn.s.lo x.inn.d.fam x.inn.d.hi x.inn.d.lo x.inn.sp x.inn.dp a x.data.length c) 38) = W1 := ⟨_, rfl⟩
  have b1 := bel_nw hW1
  have B1 := blk_nw hW1
  have g1 : w.heap.size < W1.heap.size := B1.lt
  obtain ⟨W2, hW2⟩ : ∃ W2, W1.alloc (.cells (sRb 0 0 0 0 0 0 0 0 0 0) 26) = W2 := ⟨_, rfl⟩
  have b2 := bel_al b1 hW2
  have B2 := B1.al hW2
  have T2 := blk_nw hW2
  obtain ⟨W3, hW3⟩ : ∃ W, W2.setRow W1.heap.size (sRb x.t.fam x.t.pr x.t.s.fam x.t.s.hi x.t.s.lo x.t.d.fam x.t.d.hi x.t.d.lo x.t.sp x.t.dp) = W := ⟨_, rfl⟩
  have b3 : Below w.heap.size w W3 := by rw [← hW3]; exact below_setRow b2 (Nat.le_of_lt g1) _
  have B3 : Blk W3 w.heap.size 38 (sRc x.t.fam x.t.pr x.t.s.fam x.t.s.hi x.t.s.lo x.t.d.fam x.t.d.hi x.t.d.lo x.t.sp x.t.dp x.fl x.sq x.ak x.wn x.ty x.cd x.er x.inn.fam x.inn.pr x.inn.s.fam x.inn.s.hi x.inn.s.lo x.inn.d.fam x.inn.d.hi x.inn.d.lo x.inn.sp x.inn.dp a x.data.length c) := by rw [← hW3]; exact B2.other (by omega) _
  have T3 : Blk W3 W1.heap.size 26 (sRb x.t.fam x.t.pr x.t.s.fam x.t.s.hi x.t.s.lo x.t.d.fam x.t.d.hi x.t.d.lo x.t.sp x.t.dp) := by rw [← hW3]; exact T2.set _
  have HW3 : Hid _ := hW3
  clear hW3
  have K0 : Hid _ := ofFamily_any x.t.fam x.t.s.fam x.t.s.hi x.t.s.lo x.t.d.fam x.t.d.hi x.t.d.lo W3
  have e0 := T3.cell 0 (.int .i64 x.t.fam) rfl
  have e1 := T3.cell 1 (.int .i64 x.t.pr) rfl
  have e2 := T3.cell 2 (.int .i64 x.t.s.fam) rfl
  have e3 := T3.cell 3 (.int .u64 x.t.s.hi) rfl
  have e4 := T3.cell 4 (.int .u64 x.t.s.lo) rfl
  have e5 := T3.cell 5 (.int .i64 x.t.d.fam) rfl
  have e6 := T3.cell 6 (.int .u64 x.t.d.hi) rfl
  have e7 := T3.cell 7 (.int .u64 x.t.d.lo) rfl
  rw [show endsB x.t.fam ⟨x.t.s.fam, x.t.s.hi, x.t.s.lo⟩ ⟨x.t.d.fam, x.t.d.hi, x.t.d.lo⟩ = true from hE] at K0
  have KP : Hid (∀ W, Calls Try.prog 39 #[.agg (sRb x.t.fam x.t.pr x.t.s.fam x.t.s.hi x.t.s.lo x.t.d.fam x.t.d.hi x.t.d.lo x.t.sp x.t.dp)] W fun e w' => e = .returned (.bool false) ∧ Below W.heap.size W w') := fun W => by
    have := rightProto_any x W
    rw [hP] at this
    exact this
  go_enter Try.func19, Try.ntmps19
  go_wp2_with (first
    | (refine wpList_load_sub rfl _ _ rfl w.heap.size 0 38 (by rfl) _ (sRb x.t.fam x.t.pr x.t.s.fam x.t.s.hi x.t.s.lo x.t.d.fam x.t.d.hi x.t.d.lo x.t.sp x.t.dp) B1 (by rfl) Try.underlying26 (by kernel_rfl) ?_)
    | (refine wpList_store_row rfl _ _ _ rfl W1.heap.size (sRb x.t.fam x.t.pr x.t.s.fam x.t.s.hi x.t.s.lo x.t.d.fam x.t.d.hi x.t.d.lo x.t.sp x.t.dp) (by rfl) (by rfl) _ _ T2 (by kernel_rfl) (by rfl) (by kernel_rfl) ?_; rw [HW3.out]))
  refine Calls.mono K0.out ?_
  rintro e W4 ⟨rfl, bb⟩
  have b4 := bel_tr b3 bb
  have B4 := B3.kept bb
  have T4 := T3.kept bb
  clear K0 bb B1 b1 B2 T2 b2 B3 T3 b3 hW1 hW2 HW3 e0 e1 e2 e3 e4 e5 e6 e7
  go_wp2_with (refine wpList_load_blk_w (by kernel_rfl) _ _ rfl W1.heap.size (by rfl) _ T4 Try.underlying26 (by kernel_rfl) ?_)
  refine Calls.mono (KP.out _) ?_
  rintro e W5 ⟨rfl, bb⟩
  have b5 := bel_tr b4 bb
  have B5 := B4.kept bb
  have T5 := T4.kept bb
  clear KP bb B4 T4 b4
  go_wp2
  go_ret2
  exact ⟨rfl, b5⟩
set_option maxRecDepth 100000 in
set_option maxHeartbeats 4000000 in
theorem build_n3 (x : Sg) (a : Option Addr) (c : Nat) (w : World) (h : Row w a x.data) (hnil : a = none → c = 0) (ok : x.ok) (hE : endsB x.t.fam x.t.s x.t.d = true) (hP : protoB x = true) (hN : numB x = false) :
    Calls Try.prog 19 #[.agg (sRc x.t.fam x.t.pr x.t.s.fam x.t.s.hi x.t.s.lo x.t.d.fam x.t.d.hi x.t.d.lo x.t.sp x.t.dp x.fl x.sq x.ak x.wn x.ty x.cd x.er x.inn.fam x.inn.pr x.inn.s.fam x.inn.s.hi x.inn.s.lo x.inn.d.fam x.inn.d.hi x.inn.d.lo x.inn.sp x.inn.dp a x.data.length c)] w fun e w' => e = .returned (.tuple #[.slice none 0 0, .int .i64 1]) ∧ Below w.heap.size w w' := by
  obtain ⟨W1, hW1⟩ : ∃ W1, w.alloc (.cells (sRc x.t.fam x.t.pr x.t.s.fam x.t.s.hi x.t.s.lo x.t.d.fam x.t.d.hi x.t.d.lo x.t.sp x.t.dp x.fl x.sq x.ak x.wn x.ty x.cd x.er x.inn.fam x.inn.pr x.inn.s.fam x.inn.s.hi x.inn.s.lo x.inn.d.fam x.inn.d.hi x.inn.d.lo x.inn.sp x.inn.dp a x.data.length c) 38) = W1 := ⟨_, rfl⟩
  have b1 := bel_nw hW1
  have B1 := blk_nw hW1
  have g1 : w.heap.size < W1.heap.size := B1.lt
  obtain ⟨W2, hW2⟩ : ∃ W2, W1.alloc (.cells (sRb 0 0 0 0 0 0 0 0 0 0) 26) = W2 := ⟨_, rfl⟩
  have b2 := bel_al b1 hW2
  have B2 := B1.al hW2
  have T2 := blk_nw hW2
  obtain ⟨W3, hW3⟩ : ∃ W, W2.setRow W1.heap.size (sRb x.t.fam x.t.pr x.t.s.fam x.t.s.hi x.t.s.lo x.t.d.fam x.t.d.hi x.t.d.lo x.t.sp x.t.dp) = W := ⟨_, rfl⟩
  have b3 : Below w.heap.size w W3 := by rw [← hW3]; exact below_setRow b2 (Nat.le_of_lt g1) _
  have B3 : Blk W3 w.heap.size 38 (sRc x.t.fam x.t.pr x.t.s.fam x.t.s.hi x.t.s.lo x.t.d.fam x.t.d.hi x.t.d.lo x.t.sp x.t.dp x.fl x.sq x.ak x.wn x.ty x.cd x.er x.inn.fam x.inn.pr x.inn.s.fam x.inn.s.hi x.inn.s.lo x.inn.d.fam x.inn.d.hi x.inn.d.lo x.inn.sp x.inn.dp a x.data.length c) := by rw [← hW3]; exact B2.other (by omega) _
  have T3 : Blk W3 W1.heap.size 26 (sRb x.t.fam x.t.pr x.t.s.fam x.t.s.hi x.t.s.lo x.t.d.fam x.t.d.hi x.t.d.lo x.t.sp x.t.dp) := by rw [← hW3]; exact T2.set _
  have HW3 : Hid _ := hW3
  clear hW3
  have K0 : Hid _ := ofFamily_any x.t.fam x.t.s.fam x.t.s.hi x.t.s.lo x.t.d.fam x.t.d.hi x.t.d.lo W3
  have e0 := T3.cell 0 (.int .i64 x.t.fam) rfl
  have e1 := T3.cell 1 (.int .i64 x.t.pr) rfl
  have e2 := T3.cell 2 (.int .i64 x.t.s.fam) rfl
  have e3 := T3.cell 3 (.int .u64 x.t.s.hi) rfl
  have e4 := T3.cell 4 (.int .u64 x.t.s.lo) rfl
  have e5 := T3.cell 5 (.int .i64 x.t.d.fam) rfl
  have e6 := T3.cell 6 (.int .u64 x.t.d.hi) rfl
  have e7 := T3.cell 7 (.int .u64 x.t.d.lo) rfl
  rw [show endsB x.t.fam ⟨x.t.s.fam, x.t.s.hi, x.t.s.lo⟩ ⟨x.t.d.fam, x.t.d.hi, x.t.d.lo⟩ = true from hE] at K0
  have KP : Hid (∀ W, Calls Try.prog 39 #[.agg (sRb x.t.fam x.t.pr x.t.s.fam x.t.s.hi x.t.s.lo x.t.d.fam x.t.d.hi x.t.d.lo x.t.sp x.t.dp)] W fun e w' => e = .returned (.bool true) ∧ Below W.heap.size W w') := fun W => by
    have := rightProto_any x W
    rw [hP] at this
    exact this
  have KN : Hid (∀ W, Calls Try.prog 40 #[.agg (sRc x.t.fam x.t.pr x.t.s.fam x.t.s.hi x.t.s.lo x.t.d.fam x.t.d.hi x.t.d.lo x.t.sp x.t.dp x.fl x.sq x.ak x.wn x.ty x.cd x.er x.inn.fam x.inn.pr x.inn.s.fam x.inn.s.hi x.inn.s.lo x.inn.d.fam x.inn.d.hi x.inn.d.lo x.inn.sp x.inn.dp a x.data.length c)] W fun e w' => e = .returned (.bool false) ∧ Below W.heap.size W w') := fun W => by
    have := rightNumbers_any x a c W
    rw [hN] at this
    exact this
  go_enter Try.func19, Try.ntmps19
  go_wp2_with (first
    | (refine wpList_load_sub rfl _ _ rfl w.heap.size 0 38 (by rfl) _ (sRb x.t.fam x.t.pr x.t.s.fam x.t.s.hi x.t.s.lo x.t.d.fam x.t.d.hi x.t.d.lo x.t.sp x.t.dp) B1 (by rfl) Try.underlying26 (by kernel_rfl) ?_)
    | (refine wpList_store_row rfl _ _ _ rfl W1.heap.size (sRb x.t.fam x.t.pr x.t.s.fam x.t.s.hi x.t.s.lo x.t.d.fam x.t.d.hi x.t.d.lo x.t.sp x.t.dp) (by rfl) (by rfl) _ _ T2 (by kernel_rfl) (by rfl) (by kernel_rfl) ?_; rw [HW3.out]))
  refine Calls.mono K0.out ?_
  rintro e W4 ⟨rfl, bb⟩
  have b4 := bel_tr b3 bb
  have B4 := B3.kept bb
  have T4 := T3.kept bb
  clear K0 bb B1 b1 B2 T2 b2 B3 T3 b3 hW1 hW2 HW3 e0 e1 e2 e3 e4 e5 e6 e7
  go_wp2_with (refine wpList_load_blk_w (by kernel_rfl) _ _ rfl W1.heap.size (by rfl) _ T4 Try.underlying26 (by kernel_rfl) ?_)
  refine Calls.mono (KP.out _) ?_
  rintro e W5 ⟨rfl, bb⟩
  have b5 := bel_tr b4 bb
  have B5 := B4.kept bb
  have T5 := T4.kept bb
  clear KP bb B4 T4 b4
  go_wp2_with (refine wpList_load_blk_w (by kernel_rfl) _ _ rfl w.heap.size (by rfl) _ B5 Try.underlying38 (by kernel_rfl) ?_)
  refine Calls.mono (KN.out _) ?_
  rintro e W6 ⟨rfl, bb⟩
  have b6 := bel_tr b5 bb
  have B6 := B5.kept bb
  have T6 := T5.kept bb
  clear KN bb B5 T5 b5
  have e27 := B6.cell 27 (.slice a x.data.length c) rfl
  go_wp2
  go_ret2
  exact ⟨rfl, b6⟩
set_option maxRecDepth 100000 in
set_option maxHeartbeats 4000000 in
theorem build_n4 (x : Sg) (a : Option Addr) (c : Nat) (w : World) (h : Row w a x.data) (hnil : a = none → c = 0) (ok : x.ok) (hE : endsB x.t.fam x.t.s x.t.d = true) (hP : protoB x = true) (hN : numB x = true) (hL : ¬ x.data.length ≤ 65000) :
    Calls Try.prog 19 #[.agg (sRc x.t.fam x.t.pr x.t.s.fam x.t.s.hi x.t.s.lo x.t.d.fam x.t.d.hi x.t.d.lo x.t.sp x.t.dp x.fl x.sq x.ak x.wn x.ty x.cd x.er x.inn.fam x.inn.pr x.inn.s.fam x.inn.s.hi x.inn.s.lo x.inn.d.fam x.inn.d.hi x.inn.d.lo x.inn.sp x.inn.dp a x.data.length c)] w fun e w' => e = .returned (.tuple #[.slice none 0 0, .int .i64 1]) ∧ Below w.heap.size w w' := by
  obtain ⟨W1, hW1⟩ : ∃ W1, w.alloc (.cells (sRc x.t.fam x.t.pr x.t.s.fam x.t.s.hi x.t.s.lo x.t.d.fam x.t.d.hi x.t.d.lo x.t.sp x.t.dp x.fl x.sq x.ak x.wn x.ty x.cd x.er x.inn.fam x.inn.pr x.inn.s.fam x.inn.s.hi x.inn.s.lo x.inn.d.fam x.inn.d.hi x.inn.d.lo x.inn.sp x.inn.dp a x.data.length c) 38) = W1 := ⟨_, rfl⟩
  have b1 := bel_nw hW1
  have B1 := blk_nw hW1
  have g1 : w.heap.size < W1.heap.size := B1.lt
  obtain ⟨W2, hW2⟩ : ∃ W2, W1.alloc (.cells (sRb 0 0 0 0 0 0 0 0 0 0) 26) = W2 := ⟨_, rfl⟩
  have b2 := bel_al b1 hW2
  have B2 := B1.al hW2
  have T2 := blk_nw hW2
  obtain ⟨W3, hW3⟩ : ∃ W, W2.setRow W1.heap.size (sRb x.t.fam x.t.pr x.t.s.fam x.t.s.hi x.t.s.lo x.t.d.fam x.t.d.hi x.t.d.lo x.t.sp x.t.dp) = W := ⟨_, rfl⟩
  have b3 : Below w.heap.size w W3 := by rw [← hW3]; exact below_setRow b2 (Nat.le_of_lt g1) _
  have B3 : Blk W3 w.heap.size 38 (sRc x.t.fam x.t.pr x.t.s.fam x.t.s.hi x.t.s.lo x.t.d.fam x.t.d.hi x.t.d.lo x.t.sp x.t.dp x.fl x.sq x.ak x.wn x.ty x.cd x.er x.inn.fam x.inn.pr x.inn.s.fam x.inn.s.hi x.inn.s.lo x.inn.d.fam x.inn.d.hi x.inn.d.lo x.inn.sp x.inn.dp a x.data.length c) := by rw [← hW3]; exact B2.other (by omega) _
  have T3 : Blk W3 W1.heap.size 26 (sRb x.t.fam x.t.pr x.t.s.fam x.t.s.hi x.t.s.lo x.t.d.fam x.t.d.hi x.t.d.lo x.t.sp x.t.dp) := by rw [← hW3]; exact T2.set _
  have HW3 : Hid _ := hW3
  clear hW3
  have K0 : Hid _ := ofFamily_any x.t.fam x.t.s.fam x.t.s.hi x.t.s.lo x.t.d.fam x.t.d.hi x.t.d.lo W3
  have e0 := T3.cell 0 (.int .i64 x.t.fam) rfl
  have e1 := T3.cell 1 (.int .i64 x.t.pr) rfl
  have e2 := T3.cell 2 (.int .i64 x.t.s.fam) rfl
  have e3 := T3.cell 3 (.int .u64 x.t.s.hi) rfl
  have e4 := T3.cell 4 (.int .u64 x.t.s.lo) rfl
  have e5 := T3.cell 5 (.int .i64 x.t.d.fam) rfl
  have e6 := T3.cell 6 (.int .u64 x.t.d.hi) rfl
  have e7 := T3.cell 7 (.int .u64 x.t.d.lo) rfl
  rw [show endsB x.t.fam ⟨x.t.s.fam, x.t.s.hi, x.t.s.lo⟩ ⟨x.t.d.fam, x.t.d.hi, x.t.d.lo⟩ = true from hE] at K0
  have KP : Hid (∀ W, Calls Try.prog 39 #[.agg (sRb x.t.fam x.t.pr x.t.s.fam x.t.s.hi x.t.s.lo x.t.d.fam x.t.d.hi x.t.d.lo x.t.sp x.t.dp)] W fun e w' => e = .returned (.bool true) ∧ Below W.heap.size W w') := fun W => by
    have := rightProto_any x W
    rw [hP] at this
    exact this
  have KN : Hid (∀ W, Calls Try.prog 40 #[.agg (sRc x.t.fam x.t.pr x.t.s.fam x.t.s.hi x.t.s.lo x.t.d.fam x.t.d.hi x.t.d.lo x.t.sp x.t.dp x.fl x.sq x.ak x.wn x.ty x.cd x.er x.inn.fam x.inn.pr x.inn.s.fam x.inn.s.hi x.inn.s.lo x.inn.d.fam x.inn.d.hi x.inn.d.lo x.inn.sp x.inn.dp a x.data.length c)] W fun e w' => e = .returned (.bool true) ∧ Below W.heap.size W w') := fun W => by
    have := rightNumbers_any x a c W
    rw [hN] at this
    exact this
  have hL' : (x.data.length : Int) > 65000 := by omega
  go_enter Try.func19, Try.ntmps19
  go_wp2_with (first
    | (refine wpList_load_sub rfl _ _ rfl w.heap.size 0 38 (by rfl) _ (sRb x.t.fam x.t.pr x.t.s.fam x.t.s.hi x.t.s.lo x.t.d.fam x.t.d.hi x.t.d.lo x.t.sp x.t.dp) B1 (by rfl) Try.underlying26 (by kernel_rfl) ?_)
    | (refine wpList_store_row rfl _ _ _ rfl W1.heap.size (sRb x.t.fam x.t.pr x.t.s.fam x.t.s.hi x.t.s.lo x.t.d.fam x.t.d.hi x.t.d.lo x.t.sp x.t.dp) (by rfl) (by rfl) _ _ T2 (by kernel_rfl) (by rfl) (by kernel_rfl) ?_; rw [HW3.out]))
  refine Calls.mono K0.out ?_
  rintro e W4 ⟨rfl, bb⟩
  have b4 := bel_tr b3 bb
  have B4 := B3.kept bb
  have T4 := T3.kept bb
  clear K0 bb B1 b1 B2 T2 b2 B3 T3 b3 hW1 hW2 HW3 e0 e1 e2 e3 e4 e5 e6 e7
  go_wp2_with (refine wpList_load_blk_w (by kernel_rfl) _ _ rfl W1.heap.size (by rfl) _ T4 Try.underlying26 (by kernel_rfl) ?_)
  refine Calls.mono (KP.out _) ?_
  rintro e W5 ⟨rfl, bb⟩
  have b5 := bel_tr b4 bb
  have B5 := B4.kept bb
  have T5 := T4.kept bb
  clear KP bb B4 T4 b4
  go_wp2_with (refine wpList_load_blk_w (by kernel_rfl) _ _ rfl w.heap.size (by rfl) _ B5 Try.underlying38 (by kernel_rfl) ?_)
  refine Calls.mono (KN.out _) ?_
  rintro e W6 ⟨rfl, bb⟩
  have b6 := bel_tr b5 bb
  have B6 := B5.kept bb
  have T6 := T5.kept bb
  clear KN bb B5 T5 b5
  have e27 := B6.cell 27 (.slice a x.data.length c) rfl
  go_wp2
  go_ret2
  exact ⟨rfl, b6⟩
end Go.Proofs.Ytpjjkdgmfjhfiaa
