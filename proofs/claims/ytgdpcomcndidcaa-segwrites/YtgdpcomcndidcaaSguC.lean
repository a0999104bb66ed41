/- Segments: Build, a small one, plain facts, arguments. -/
import Derived.Test.YtgdpcomcndidcaaSguB
import Derived.Test.YtgdpcomcndidcaaArg3
namespace Go.Proofs.Ytgdpcomcndidcaa
open Go.RowKit
set_option linter.unusedVariables false
set_option linter.unusedSimpArgs false

def badN (m x : Int) : Bool := decide (x < 0) || decide (x > m)
def upB (m : Int) (X : List Int) : Bool := !(X.any (badN m))

theorem upTo1_any (x m : Int) (g : Nat) (w : World) (hc : w.cell? ⟨g, 0, none⟩ = some (.int .i64 m)) :
    Calls Try.prog 78 #[.int .i64 x, .pointer (some ⟨g, 0, none⟩)] w fun e w' => e = .returned (.bool (badN m x)) ∧ w' = w := by
  go_enter Try.func78, Try.ntmps78
  by_cases h0 : x < 0
  · go_wp2
    go_ret
    exact ⟨retB (by simp [badN, h0]), rfl⟩
  · go_wp2
    go_ret
    exact ⟨retB (by simp [badN, h0]; try omega), rfl⟩

set_option maxRecDepth 100000 in
set_option maxHeartbeats 2000000 in
theorem indexFunc_any (m : Int) (g : Nat) (a : Option Addr) (c : Nat) (X : List Int) (w : World) (h : RowI w a X) (hc : w.cell? ⟨g, 0, none⟩ = some (.int .i64 m)) :
    Calls Try.prog 87 #[.slice a X.length c, .func (.func 78) #[] #[.pointer (some ⟨g, 0, none⟩)]] w fun e w' => ∃ i : Int, e = .returned (.int .i64 i) ∧ (decide (0 ≤ i) = X.any (badN m)) ∧ w' = w := by
  have hs := h.small
  obtain ⟨N, hN⟩ : ∃ N, X.length = N := ⟨_, rfl⟩
  have HN : Hid (X.length = N) := hN
  rw [hN] at hs ⊢
  clear hN
  have KU : Hid (∀ x, Calls Try.prog 78 #[.int .i64 x, .pointer (some ⟨g, 0, none⟩)] w _) := fun x => upTo1_any x m g w hc
  clear hc
  go_enter Try.func87, Try.ntmps87
  go_wp2
  go_loopw [8] (fun i w' => ∃ k : Nat, k ≤ N ∧ i = .int .i64 k ∧ w' = w ∧ Hid ((X.take k).any (badN m) = false)) (fun i _ => N - (intOf i).toNat)
  case atStart => exact ⟨0, Nat.zero_le _, rfl, rfl, by show (X.take 0).any (badN m) = false; simp⟩
  case round =>
    obtain ⟨k, hk, rfl, rfl, ho⟩ := hrel
    by_cases hlt : k < N
    · obtain ⟨b, off, rfl, hcl⟩ := h.cells (by have := HN.out; omega)
      have c0 := hcl k (by have := HN.out; omega)
      have hlk : (k : Int) < (N : Int) := by omega
      have e1 : Hid (X.take (k + 1) = X.take k ++ [X.getD k 0]) := by
        show X.take (k + 1) = X.take k ++ [X.getD k 0]
        rw [List.take_succ_eq_append_getElem (by have := HN.out; omega)]; simp [show k < X.length by have := HN.out; omega]
      have e2 : Hid (X.take (k + 1) ++ X.drop (k + 1) = X) := List.take_append_drop _ _
      clear hcl h
      generalize X.getD k 0 = x at *
      have KX : Hid _ := KU.out x
      cases hb : badN m x with
      | false =>
        rw [hb] at KX
        clear KU
        go_wp2_with fail
        refine Calls.mono KX.out ?_
        rintro e W ⟨rfl, hW⟩
        rw [hW]
        clear hW KX
        go_wp2
        exact ⟨⟨k + 1, by omega, int_eq (by omega), trivial, by show (X.take (k + 1)).any (badN m) = false; rw [e1.out, List.any_append, ho.out]; simp [hb]⟩, by simp [intOf]; omega⟩
      | true =>
        rw [hb] at KX
        clear KU
        go_wp2_with fail
        refine Calls.mono KX.out ?_
        rintro e W ⟨rfl, hW⟩
        rw [hW]
        clear hW KX
        go_wp2
        go_ret
        refine ⟨(k : Int), rfl, ?_⟩
        rw [← e2.out, e1.out]
        simp [hb]
    · have hlt' : ¬ (k : Int) < (N : Int) := by omega
      go_wp2
      go_ret
      refine ⟨-1, rfl, ?_⟩
      have := ho.out
      rw [List.take_of_length_le (by have := HN.out; omega)] at this
      rw [this]
      exact ⟨rfl, rfl⟩

theorem upTo_any (m : Int) (a : Option Addr) (c : Nat) (X : List Int) (w : World) (h : RowI w a X) :
    Calls Try.prog 62 #[.int .i64 m, .slice a X.length c] w fun e w' => e = .returned (.bool (upB m X)) ∧ Below w.heap.size w w' := by
  obtain ⟨W1, hW1⟩ : ∃ W1, w.alloc (.cells #[.int .i64 m] 3) = W1 := ⟨_, rfl⟩
  have b1 : Below w.heap.size w W1 := by rw [← hW1]; exact (Below.refl _ _).alloc (Nat.le_refl _) _
  have c0 : W1.cell? ⟨w.heap.size, 0, none⟩ = some (.int .i64 m) := by rw [← hW1]; simp
  have KI : Hid _ := indexFunc_any m w.heap.size a c X W1 (h.below b1) c0
  have KC : Hid (Calls Try.prog 77 #[.slice a X.length c, .func (.func 78) #[] #[.pointer (some ⟨w.heap.size, 0, none⟩)]] W1 fun e w' => e = .returned (.bool (X.any (badN m))) ∧ w' = W1) := by
    show Calls _ _ _ _ _
    generalize X.any (badN m) = R at *
    go_enter Try.func77, Try.ntmps77
    go_wp2_with fail
    refine Calls.mono KI.out ?_
    rintro e W ⟨i, rfl, hi, hW⟩
    rw [hW]
    clear hW KI
    go_wp2
    go_ret
    exact ⟨rfl, rfl⟩
  have e : upB m X = !(X.any (badN m)) := rfl
  rw [e]
  clear e
  generalize X.any (badN m) = R at *
  clear KI
  go_enter Try.func62, Try.ntmps62
  go_wp2_with fail
  refine Calls.mono KC.out ?_
  rintro e W ⟨rfl, hW⟩
  rw [hW]
  clear hW KC
  go_wp2
  go_ret
  exact ⟨rfl, b1⟩
end Go.Proofs.Ytgdpcomcndidcaa

namespace Go.Proofs.Ytgdpcomcndidcaa
open Go.RowKit
set_option linter.unusedVariables false
set_option linter.unusedSimpArgs false

def numB (x : Sg) : Bool := upB 65535 [x.t.sp, x.t.dp, x.wn] && (upB 255 [x.ty, x.cd] && upB 63 [x.fl])
def protoB (x : Sg) : Bool := x.t.pr == 6 || (x.t.pr == 17 || x.t.pr == icmpOf x.t.fam)
def mayB (x : Sg) : Bool := endsB x.t.fam x.t.s x.t.d && (protoB x && (numB x && decide (x.data.length ≤ 65000)))
def portB (x : Sg) : List Int := put16 (put16 [] x.t.sp) x.t.dp
def headB (x : Sg) : List Int :=
  if x.t.pr = 6 then put16 (put32 (put32 (portB x) x.sq) x.ak ++ [80, x.fl % 256]) x.wn ++ [0, 0, 0, 0]
  else if x.t.pr = 17 then put16 (portB x) (8 + x.data.length) ++ [0, 0]
  else put16 [x.ty % 256, x.cd % 256, 0, 0] (if isEcho x.t.fam x.ty = true then x.t.sp else 0) ++ [0, 0]
def placeB (x : Sg) : Nat := if x.t.pr = 6 then 16 else if x.t.pr = 17 then 6 else 2
theorem rowI_at (w : World) (t : TypeId) (X : List Int) (hs : X.length ≤ 17592186044416) : RowI (w.alloc (.cells (X.map (Value.int .i64)).toArray t)) (some ⟨w.heap.size, 0, none⟩) X :=
  ⟨hs, fun _ => ⟨_, _, rfl, fun i hi => by
    have e : X.getD i 0 = X[i] := by simp [hi]
    rw [e, Nat.zero_add, World.cell?_alloc_new]
    simp [hi]⟩⟩
/-- append(v, x...) as one step of a region that draws. -/
theorem step_app {ops : Array Oper} {o : Oper} {ac : Act} {K : Act → World → Prop} {Q : Exit → Act → World → Prop} {Z : Prop} (w : World) (hgd : o.guard = none) (s x : Operand)
    (ho : o.op = .call { callee := .builtin .append, args := #[s, x], argTypes := #[28, 28] })
    (B : Nat) (v : Value) (xs : List Int) (hs : ac.eval s = v) (hown : Owns w B v xs)
    (a : Option Addr) (n c : Nat) (l : List Int) (hx : ac.eval x = .slice a n c) (hn : n = l.length) (hrow : Row w a l) (hnil : a = none → c = 0)
    (hsum : xs.length + l.length ≤ 140737488355328) (hbase : B ≤ w.heap.size)
    (h : ∀ v' w', Owns w' B v' (xs ++ l) → w.grownBy w' v.ownBlock → K (ac.put o.dst v') w') :
    if Region.wanted o (yielded ops ac.tmps) = true then Oper.wp Try.prog o ac w K Q else Z := by
  subst hn
  have hw : Region.wanted o (yielded ops ac.tmps) = true := by simp [Region.wanted, hgd]
  rw [if_pos hw]
  have key : ∃ v' w', (Builtin.append_ #[28, 28] o.type #[v, .slice a l.length c]).run Try.prog w = .ok v' w' ∧ Owns w' B v' (xs ++ l) ∧ w.grownBy w' v.ownBlock := by
    obtain ⟨i0, hi, hz0, hz1, hz2⟩ := info_parts info_u8
    have hrun : ∀ ad : Addr, a = some ad → ∃ v' w', (Builtin.append_ #[28, 28] o.type #[v, .slice a l.length c]).run Try.prog w = .ok v' w' ∧ Owns w' B v' (xs ++ l) ∧ w.grownBy w' v.ownBlock := by
      intro ad ha
      subst ha
      obtain ⟨v', w', h1, h2, h3, _⟩ := run_append_own (P := Try.prog) w B 28 o.type 5 i0 (.int .u8 0) 1 1 Try.underlying28 hi hz0 hz1 hz2 rfl (by decide) v xs.length (xs.map (Value.int .u8)) hown ad l.length c (l.map (Value.int .u8)) (by simp) (by
        intro j u hj
        have hjl : j < l.length := by
          have := (List.getElem?_eq_some_iff.1 hj).1
          simpa using this
        obtain ⟨b, off, hh, hc⟩ := hrow.cells (by omega)
        cases hh
        have e1 : Addr.add ⟨b, off, none⟩ j = ⟨b, off + j, none⟩ := Go.WideShapes.add_plain ..
        rw [e1, hc j hjl]
        rw [← hj]
        simp [hjl]) oneCell_u8 (by unfold maxLen; omega) (by omega) hbase
      refine ⟨v', w', h1, ?_, h3⟩
      show w'.ownsRow B 5 1 v' (xs ++ l).length ((xs ++ l).map (Value.int .u8))
      rw [List.length_append, List.map_append]
      exact h2
    cases ha : a with
    | some ad => rw [← ha]; exact hrun ad ha
    | none =>
      have hl : l = [] := by
        cases l with
        | nil => rfl
        | cons y l => obtain ⟨b, off, hh, _⟩ := hrow.cells (by simp); rw [ha] at hh; cases hh
      subst hl
      rw [hnil ha]
      refine ⟨v, w, ?_, by simpa using hown, World.grownBy.refl _ _⟩
      exact run_append_owned_none (P := Try.prog) (w := w) B 28 o.type 5 i0 1 Try.underlying28 hi v xs.length (xs.map (Value.int .u8)) hown
  obtain ⟨v', w', hr, h2, h3⟩ := key
  unfold Oper.wp execOp
  simp only [ho, resolve, invoke, builtin, Sem.run_bind, Sem.run_pure, Result.andThen_ok, List.map_toArray, List.map_cons, List.map_nil, hs, hx, hr]
  exact h v' w' h2 h3
/-- The same, its answer laid out. -/
theorem step_app2 {ops : Array Oper} {o : Oper} {ac : Act} {K : Act → World → Prop} {Q : Exit → Act → World → Prop} {Z : Prop} (w : World) (hgd : o.guard = none) (s x : Operand)
    (ho : o.op = .call { callee := .builtin .append, args := #[s, x], argTypes := #[28, 28] })
    (B : Nat) (v : Value) (xs : List Int) (hs : ac.eval s = v) (hown : Owns w B v xs) (hxs : M.Bytes xs)
    (a : Option Addr) (n c : Nat) (l : List Int) (hx : ac.eval x = .slice a n c) (hn : n = l.length) (hrow : Row w a l) (hnil : a = none → c = 0)
    (r : List Int) (hr : xs ++ l = r) (hsum : r.length ≤ 140737488355328) (hbase : B ≤ w.heap.size)
    (h : ∀ a' c' w', Owns w' B (.slice a' r.length c') r → r.length ≤ c' → (a' = none → c' = 0) → Row w' a' r → Below B w w' → K (ac.put o.dst (.slice a' r.length c')) w') :
    if Region.wanted o (yielded ops ac.tmps) = true then Oper.wp Try.prog o ac w K Q else Z := by
  subst hr
  refine step_app w hgd s x ho B v xs hs hown a n c l hx hn hrow hnil (by simpa using hsum) hbase fun v' w' h1 h2 => ?_
  obtain ⟨a', c', rfl, h3, h4, h5, h6⟩ := h1.form
  refine h a' c' w' h1 h3 h4 (h1.row hsum (hxs.app hrow.bytes)) ((Below.refl _ _).grown h2 hbase fun k hk => ?_)
  exact (World.ownsRow.lt hown k hk).1
theorem bytes_list {l : List Int} (h : ∀ x ∈ l, 0 ≤ x ∧ x ≤ 255) : M.Bytes l := fun x hx => h x hx

theorem upTo3 (m a b d : Int) (W : World) : Calls Try.prog 62 #[.int .i64 m, .slice (some ⟨W.heap.size, 0, none⟩) 3 3] (W.alloc (.cells #[.int .i64 a, .int .i64 b, .int .i64 d] 3)) fun e w' => e = .returned (.bool (upB m [a, b, d])) ∧ Below (W.alloc (.cells #[.int .i64 a, .int .i64 b, .int .i64 d] 3)).heap.size (W.alloc (.cells #[.int .i64 a, .int .i64 b, .int .i64 d] 3)) w' :=
  upTo_any m (some ⟨W.heap.size, 0, none⟩) 3 [a, b, d] (W.alloc (.cells #[.int .i64 a, .int .i64 b, .int .i64 d] 3)) (rowI_at W 3 [a, b, d] (by simp))
theorem upTo2 (m a b : Int) (W : World) : Calls Try.prog 62 #[.int .i64 m, .slice (some ⟨W.heap.size, 0, none⟩) 2 2] (W.alloc (.cells #[.int .i64 a, .int .i64 b] 3)) fun e w' => e = .returned (.bool (upB m [a, b])) ∧ Below (W.alloc (.cells #[.int .i64 a, .int .i64 b] 3)).heap.size (W.alloc (.cells #[.int .i64 a, .int .i64 b] 3)) w' :=
  upTo_any m (some ⟨W.heap.size, 0, none⟩) 2 [a, b] (W.alloc (.cells #[.int .i64 a, .int .i64 b] 3)) (rowI_at W 3 [a, b] (by simp))
theorem upTo1_ (m a : Int) (W : World) : Calls Try.prog 62 #[.int .i64 m, .slice (some ⟨W.heap.size, 0, none⟩) 1 1] (W.alloc (.cells #[.int .i64 a] 3)) fun e w' => e = .returned (.bool (upB m [a])) ∧ Below (W.alloc (.cells #[.int .i64 a] 3)).heap.size (W.alloc (.cells #[.int .i64 a] 3)) w' :=
  upTo_any m (some ⟨W.heap.size, 0, none⟩) 1 [a] (W.alloc (.cells #[.int .i64 a] 3)) (rowI_at W 3 [a] (by simp))

set_option maxRecDepth 100000 in
set_option maxHeartbeats 4000000 in
theorem rightNumbers_any (x : Sg) (a : Option Addr) (c : Nat) (w : World) :
    Calls Try.prog 40 #[.agg #[.int .i64 x.t.fam, .int .i64 x.t.pr, .int .i64 x.t.s.fam, .int .u64 x.t.s.hi, .int .u64 x.t.s.lo, .int .i64 x.t.d.fam, .int .u64 x.t.d.hi, .int .u64 x.t.d.lo, .int .i64 x.t.sp, .int .i64 x.t.dp, .int .i64 x.fl, .int .u32 x.sq, .int .u32 x.ak, .int .i64 x.wn, .int .i64 x.ty, .int .i64 x.cd, .bool x.er, .int .i64 x.inn.fam, .int .i64 x.inn.pr, .int .i64 x.inn.s.fam, .int .u64 x.inn.s.hi, .int .u64 x.inn.s.lo, .int .i64 x.inn.d.fam, .int .u64 x.inn.d.hi, .int .u64 x.inn.d.lo, .int .i64 x.inn.sp, .int .i64 x.inn.dp, .slice a x.data.length c]] w fun e w' => e = .returned (.bool (numB x)) ∧ Below w.heap.size w w' := by
  obtain ⟨W1, hW1⟩ : ∃ W1, w.alloc (.cells #[.int .i64 x.t.fam, .int .i64 x.t.pr, .int .i64 x.t.s.fam, .int .u64 x.t.s.hi, .int .u64 x.t.s.lo, .int .i64 x.t.d.fam, .int .u64 x.t.d.hi, .int .u64 x.t.d.lo, .int .i64 x.t.sp, .int .i64 x.t.dp, .int .i64 x.fl, .int .u32 x.sq, .int .u32 x.ak, .int .i64 x.wn, .int .i64 x.ty, .int .i64 x.cd, .bool x.er, .int .i64 x.inn.fam, .int .i64 x.inn.pr, .int .i64 x.inn.s.fam, .int .u64 x.inn.s.hi, .int .u64 x.inn.s.lo, .int .i64 x.inn.d.fam, .int .u64 x.inn.d.hi, .int .u64 x.inn.d.lo, .int .i64 x.inn.sp, .int .i64 x.inn.dp, .slice a x.data.length c] 38) = W1 := ⟨_, rfl⟩
  have b1 : Below w.heap.size w W1 := by rw [← hW1]; exact (Below.refl _ _).alloc (Nat.le_refl _) _
  have B1 : Blk W1 w.heap.size 38 #[.int .i64 x.t.fam, .int .i64 x.t.pr, .int .i64 x.t.s.fam, .int .u64 x.t.s.hi, .int .u64 x.t.s.lo, .int .i64 x.t.d.fam, .int .u64 x.t.d.hi, .int .u64 x.t.d.lo, .int .i64 x.t.sp, .int .i64 x.t.dp, .int .i64 x.fl, .int .u32 x.sq, .int .u32 x.ak, .int .i64 x.wn, .int .i64 x.ty, .int .i64 x.cd, .bool x.er, .int .i64 x.inn.fam, .int .i64 x.inn.pr, .int .i64 x.inn.s.fam, .int .u64 x.inn.s.hi, .int .u64 x.inn.s.lo, .int .i64 x.inn.d.fam, .int .u64 x.inn.d.hi, .int .u64 x.inn.d.lo, .int .i64 x.inn.sp, .int .i64 x.inn.dp, .slice a x.data.length c] := by rw [← hW1]; exact blk_new _ _ _
  have K1 : Hid _ := upTo3 65535 x.t.sp x.t.dp x.wn W1
  have K2 : Hid _ := upTo2 255 x.ty x.cd
  have K3 : Hid _ := upTo1_ 63 x.fl
  unfold numB
  generalize upB 65535 [x.t.sp, x.t.dp, x.wn] = R1 at *
  generalize upB 255 [x.ty, x.cd] = R2 at *
  generalize upB 63 [x.fl] = R3 at *
  have d8 := B1.cell 8 (.int .i64 x.t.sp) rfl
  have d9 := B1.cell 9 (.int .i64 x.t.dp) rfl
  have d10 := B1.cell 10 (.int .i64 x.fl) rfl
  have d13 := B1.cell 13 (.int .i64 x.wn) rfl
  have d14 := B1.cell 14 (.int .i64 x.ty) rfl
  have d15 := B1.cell 15 (.int .i64 x.cd) rfl
  go_enter Try.func40, Try.ntmps40
  go_wp2_with fail
  refine Calls.mono K1.out ?_
  rintro e W2 ⟨rfl, bb⟩
  have b2 : Below w.heap.size w W2 := (b1.alloc b1.size _).trans (bb.mono (b1.alloc b1.size _).size)
  have B2 := (B1.alloc (.cells #[.int .i64 x.t.sp, .int .i64 x.t.dp, .int .i64 x.wn] 3)).kept bb
  clear K1 bb B1 b1 hW1 d8 d9 d10 d13 d14 d15
  have d10 := B2.cell 10 (.int .i64 x.fl) rfl
  have d14 := B2.cell 14 (.int .i64 x.ty) rfl
  have d15 := B2.cell 15 (.int .i64 x.cd) rfl
  cases R1 with
  | false =>
    go_wp2
    go_ret
    exact ⟨retB (by simp), b2⟩
  | true =>
    go_wp2_with fail
    refine Calls.mono (K2.out _) ?_
    rintro e W3 ⟨rfl, bb⟩
    have b3 : Below w.heap.size w W3 := (b2.alloc b2.size _).trans (bb.mono (b2.alloc b2.size _).size)
    have B3 := (B2.alloc (.cells #[.int .i64 x.ty, .int .i64 x.cd] 3)).kept bb
    clear K2 bb B2 b2 d10 d14 d15
    have d10 := B3.cell 10 (.int .i64 x.fl) rfl
    cases R2 with
    | false =>
      go_wp2
      go_ret
      exact ⟨retB (by simp), b3⟩
    | true =>
      go_wp2_with fail
      refine Calls.mono (K3.out _) ?_
      rintro e W4 ⟨rfl, bb⟩
      have b4 : Below w.heap.size w W4 := (b3.alloc b3.size _).trans (bb.mono (b3.alloc b3.size _).size)
      clear K3 bb B3 d10
      go_wp2
      go_ret
      exact ⟨retB (by simp), b4⟩

set_option maxRecDepth 100000 in
set_option maxHeartbeats 4000000 in
theorem rightProto_any (x : Sg) (w : World) :
    Calls Try.prog 39 #[.agg #[.int .i64 x.t.fam, .int .i64 x.t.pr, .int .i64 x.t.s.fam, .int .u64 x.t.s.hi, .int .u64 x.t.s.lo, .int .i64 x.t.d.fam, .int .u64 x.t.d.hi, .int .u64 x.t.d.lo, .int .i64 x.t.sp, .int .i64 x.t.dp]] w fun e w' => e = .returned (.bool (protoB x)) ∧ Below w.heap.size w w' := by
  obtain ⟨W1, hW1⟩ : ∃ W1, w.alloc (.cells #[.int .i64 x.t.fam, .int .i64 x.t.pr, .int .i64 x.t.s.fam, .int .u64 x.t.s.hi, .int .u64 x.t.s.lo, .int .i64 x.t.d.fam, .int .u64 x.t.d.hi, .int .u64 x.t.d.lo, .int .i64 x.t.sp, .int .i64 x.t.dp] 26) = W1 := ⟨_, rfl⟩
  have b1 : Below w.heap.size w W1 := by rw [← hW1]; exact (Below.refl _ _).alloc (Nat.le_refl _) _
  have B1 : Blk W1 w.heap.size 26 #[.int .i64 x.t.fam, .int .i64 x.t.pr, .int .i64 x.t.s.fam, .int .u64 x.t.s.hi, .int .u64 x.t.s.lo, .int .i64 x.t.d.fam, .int .u64 x.t.d.hi, .int .u64 x.t.d.lo, .int .i64 x.t.sp, .int .i64 x.t.dp] := by rw [← hW1]; exact blk_new _ _ _
  have d0 := B1.cell 0 (.int .i64 x.t.fam) rfl
  have d1 := B1.cell 1 (.int .i64 x.t.pr) rfl
  have KI : Hid (∀ W, Calls Try.prog 57 #[.int .i64 x.t.fam] W _) := fun W => icmpOf_any x.t.fam W
  unfold protoB
  generalize icmpOf x.t.fam = I at *
  by_cases h6 : x.t.pr = 6
  · have h6' : (x.t.pr == 6) = true := by simpa using h6
    have e : (x.t.pr == 6 || (x.t.pr == 17 || x.t.pr == I)) = true := by rw [h6']; rfl
    rw [e]
    clear h6 e
    go_enter Try.func39, Try.ntmps39
    go_wp2
    go_quiet (fail)
    go_wp2
    go_ret
    exact ⟨retB (by simp), below_drewN b1 _⟩
  have h6' : (x.t.pr == 6) = false := by simpa using h6
  clear h6
  by_cases h17 : x.t.pr = 17
  · have h17' : (x.t.pr == 17) = true := by simpa using h17
    have e : (x.t.pr == 6 || (x.t.pr == 17 || x.t.pr == I)) = true := by rw [h6', h17']; rfl
    rw [e]
    clear h17 e
    go_enter Try.func39, Try.ntmps39
    go_wp2
    go_quiet (fail)
    go_wp2
    go_ret
    exact ⟨retB (by simp), below_drewN b1 _⟩
  have h17' : (x.t.pr == 17) = false := by simpa using h17
  have e : (x.t.pr == 6 || (x.t.pr == 17 || x.t.pr == I)) = (x.t.pr == I) := by rw [h6', h17']; rfl
  rw [e]
  clear h17 e
  go_enter Try.func39, Try.ntmps39
  go_wp2
  go_quiet (first | (go_at_call 57; refine Calls.quiet_of_same (KI.out _)))
  go_wp2
  go_ret
  exact ⟨rfl, below_drewN b1 _⟩

set_option maxRecDepth 100000 in
set_option maxHeartbeats 4000000 in
theorem portBytes_any (x : Sg) (w : World) :
    Calls Try.prog 63 #[.agg #[.int .i64 x.t.fam, .int .i64 x.t.pr, .int .i64 x.t.s.fam, .int .u64 x.t.s.hi, .int .u64 x.t.s.lo, .int .i64 x.t.d.fam, .int .u64 x.t.d.hi, .int .u64 x.t.d.lo, .int .i64 x.t.sp, .int .i64 x.t.dp]] w fun e w' => ∃ a c, e = .returned (.slice a 4 c) ∧ Fresh w w' a c (portB x) := by
  obtain ⟨W1, hW1⟩ : ∃ W1, w.alloc (.cells #[.int .i64 x.t.fam, .int .i64 x.t.pr, .int .i64 x.t.s.fam, .int .u64 x.t.s.hi, .int .u64 x.t.s.lo, .int .i64 x.t.d.fam, .int .u64 x.t.d.hi, .int .u64 x.t.d.lo, .int .i64 x.t.sp, .int .i64 x.t.dp] 26) = W1 := ⟨_, rfl⟩
  have b1 : Below w.heap.size w W1 := by rw [← hW1]; exact (Below.refl _ _).alloc (Nat.le_refl _) _
  have B1 : Blk W1 w.heap.size 26 #[.int .i64 x.t.fam, .int .i64 x.t.pr, .int .i64 x.t.s.fam, .int .u64 x.t.s.hi, .int .u64 x.t.s.lo, .int .i64 x.t.d.fam, .int .u64 x.t.d.hi, .int .u64 x.t.d.lo, .int .i64 x.t.sp, .int .i64 x.t.dp] := by rw [← hW1]; exact blk_new _ _ _
  obtain ⟨L1, hL1⟩ : ∃ L, put16 [] x.t.sp = L := ⟨_, rfl⟩
  obtain ⟨L2, hL2⟩ : ∃ L, portB x = L := ⟨_, rfl⟩
  have hL2' : put16 L1 x.t.dp = L2 := by rw [← hL2, ← hL1]; rfl
  have l1 : L1.length = 2 := by rw [← hL1]; simp [put16]
  have l2 : L2.length = 4 := by rw [← hL2']; simp [put16, l1]
  rw [hL2]
  have K1 : Hid (∀ W, Calls Try.prog 26 #[.slice none 0 0, .int .i64 x.t.sp] W fun e w' => ∃ a' c', e = .returned (.slice a' 2 c') ∧ Fresh W w' a' c' L1) := fun W => by
    have := put16_any none 0 [] x.t.sp W ⟨by simp, M.Bytes.nil, fun h => by simp at h⟩ (fun _ => rfl) (by simp)
    rw [hL1, l1] at this
    exact this
  have K2 : Hid (∀ W a c, Row W a L1 → (a = none → c = 0) → Calls Try.prog 26 #[.slice a 2 c, .int .i64 x.t.dp] W fun e w' => ∃ a' c', e = .returned (.slice a' 4 c') ∧ Fresh W w' a' c' L2) := fun W a c hr hn => by
    have := put16_any a c L1 x.t.dp W hr hn (by omega)
    rw [hL2', l2, l1] at this
    exact this
  have l2' : Hid (L2.length = 4) := l2
  clear hL1 hL2 hL2' l1 l2
  go_enter Try.func63, Try.ntmps63
  go_wp2_with fail
  refine wp_region_noPanic ?_
  refine wp_region_held_drew (S := fun w' => w'.cell? ⟨w.heap.size, 8, none⟩ = some (.int .i64 x.t.sp) ∧ w'.cell? ⟨w.heap.size, 9, none⟩ = some (.int .i64 x.t.dp)) (by kernel_rfl) (by exact ⟨B1.drew.cell 8 _ rfl, B1.drew.cell 9 _ rfl⟩) (fun hHeld => ?_)
  refine wpAnyH_take (i := 0) (oi := { dst := some 3, op := Op.fieldAddr 26 (.tmp 1) 4, type := 0, pos := "build.go:63", after := #[], guard := none }) (v := (.pointer (some ⟨w.heap.size, 8, none⟩))) rfl (by kernel_rfl) (by kernel_rfl) (by kernel_rfl) (fun _ _ _ h => h) (Or.inl ⟨by rfl, ?_⟩) hHeld ?_
  · intro w9 hSw
    try dsimp only at hSw
    go_simp
  try simp only [Act.put, List.setIfInBounds_toArray, List.set_cons_zero, List.set_cons_succ]
  refine wpAnyH_take (i := 1) (oi := { dst := some 4, op := Op.load 3 (.tmp 3), type := 3, pos := "build.go:63", after := #[{ on := 0, ground := Ground.data }], guard := none }) (v := (.int .i64 x.t.sp)) rfl (by kernel_rfl) (by kernel_rfl) (by kernel_rfl) (fun _ _ _ h => h) (Or.inl ⟨by rfl, ?_⟩) hHeld ?_
  · intro w9 hSw
    try dsimp only at hSw
    go_simp
  try simp only [Act.put, List.setIfInBounds_toArray, List.set_cons_zero, List.set_cons_succ]
  refine wpAnyH_take (i := 3) (oi := { dst := some 6, op := Op.fieldAddr 26 (.tmp 1) 5, type := 0, pos := "build.go:63", after := #[], guard := none }) (v := (.pointer (some ⟨w.heap.size, 9, none⟩))) rfl (by kernel_rfl) (by kernel_rfl) (by kernel_rfl) (fun _ _ _ h => h) (Or.inl ⟨by rfl, ?_⟩) hHeld ?_
  · intro w9 hSw
    try dsimp only at hSw
    go_simp
  try simp only [Act.put, List.setIfInBounds_toArray, List.set_cons_zero, List.set_cons_succ]
  refine wpAnyH_take (i := 4) (oi := { dst := some 7, op := Op.load 3 (.tmp 6), type := 3, pos := "build.go:63", after := #[{ on := 3, ground := Ground.data }], guard := none }) (v := (.int .i64 x.t.dp)) rfl (by kernel_rfl) (by kernel_rfl) (by kernel_rfl) (fun _ _ _ h => h) (Or.inl ⟨by rfl, ?_⟩) hHeld ?_
  · intro w9 hSw
    try dsimp only at hSw
    go_simp
  try simp only [Act.put, List.setIfInBounds_toArray, List.set_cons_zero, List.set_cons_succ]
  refine wpAnyH_ready (rs := [2]) (by kernel_rfl) (by simp) ?_
  refine AllReadyH.cons (o := { dst := some 5, op := Op.call { callee := Callee.value (.func 26), args := #[.const (.slice none 0 0), .tmp 4], argTypes := #[28, 3] }, type := 28, pos := "build.go:63", after := #[{ on := 1, ground := Ground.data }], guard := none }) rfl (fun K hK => ?_) AllReadyH.nil
  go_simp
  refine Calls.mono (K1.out _) ?_
  rintro e W2 ⟨a2, c2, rfl, f2⟩
  have B2 := B1.drew.kept f2.below
  have b2 : Below w.heap.size w W2 := b1.drew.trans (f2.below.mono b1.drew.size)
  refine hK.out _ _ ?_ (fun hHeld => ?_)
  · exact ⟨B2.cell 8 _ rfl, B2.cell 9 _ rfl⟩
  clear hK K
  try simp only [Act.put, List.setIfInBounds_toArray, List.set_cons_zero, List.set_cons_succ]
  refine wpAnyH_ready (rs := [5]) (by kernel_rfl) (by simp) ?_
  refine AllReadyH.cons (o := { dst := some 8, op := Op.call { callee := Callee.value (.func 26), args := #[.tmp 5, .tmp 7], argTypes := #[28, 3] }, type := 28, pos := "build.go:63", after := #[{ on := 2, ground := Ground.data }, { on := 4, ground := Ground.data }, { on := 2, ground := Ground.chain }], guard := none }) rfl (fun K hK => ?_) AllReadyH.nil
  go_simp
  refine Calls.mono (K2.out _ _ _ f2.row f2.nil) ?_
  rintro e W3 ⟨a3, c3, rfl, f3⟩
  have B3 := B2.kept f3.below
  have b3 : Below w.heap.size w W3 := b2.trans (f3.below.mono b2.size)
  refine hK.out _ _ ?_ (fun hHeld => ?_)
  · exact ⟨B3.cell 8 _ rfl, B3.cell 9 _ rfl⟩
  clear hK K
  try simp only [Act.put, List.setIfInBounds_toArray, List.set_cons_zero, List.set_cons_succ]
  refine wpAnyH_take (i := 6) (oi := { dst := some 2, op := Op.assign (.tmp 8), type := 28, pos := "build.go:63", after := #[{ on := 5, ground := Ground.data }, { on := 5, ground := Ground.chain }, { on := 0, ground := Ground.phase }, { on := 1, ground := Ground.phase }, { on := 2, ground := Ground.phase }, { on := 3, ground := Ground.phase }, { on := 4, ground := Ground.phase }, { on := 5, ground := Ground.phase }], guard := none }) (v := (.slice a3 4 c3)) rfl (by kernel_rfl) (by kernel_rfl) (by kernel_rfl) (fun _ _ _ h => h) (Or.inl ⟨by rfl, ?_⟩) hHeld ?_
  · intro w9 hSw
    try dsimp only at hSw
    go_simp
  try simp only [Act.put, List.setIfInBounds_toArray, List.set_cons_zero, List.set_cons_succ]
  refine wpAnyH_done (by kernel_rfl) ?_ _
  refine NoPanic.normal ?_
  go_wp2
  go_ret
  exact ⟨a3, c3, rfl, owns_le b2.size f3.owns, f3.room, f3.nil, f3.row, b3⟩

end Go.Proofs.Ytgdpcomcndidcaa

namespace Go.Proofs.Ytgdpcomcndidcaa
open Go.RowKit
set_option linter.unusedVariables false
set_option linter.unusedSimpArgs false

/-- A struct that lies within another one. -/
theorem load_sub {W : World} {g : Nat} {t ty : TypeId} {cs : Array Value} (h : Blk W g t cs) (k : Nat) (sub : Array Value) (hs : (cs.toList.drop k).take sub.size = sub.toList) {fs : _} (hu : Try.prog.underlying ty = some (.struct fs)) (hi : (Try.prog.info? ty).map (·.size) = some sub.size) :
    (loadVar ty ⟨g, k, none⟩).run Try.prog W = .ok (.agg sub) W := by
  have hl : (loadCells ⟨g, k, none⟩ sub.toList.length).run Try.prog W = .ok sub.toList.toArray W :=
    run_loadCells_list (P := Try.prog) W ⟨g, k, none⟩ sub.toList (fun j v hv => by
      have hadd : (⟨g, k, none⟩ : Addr).add j = ⟨g, k + j, none⟩ := Go.WideShapes.add_plain ..
      rw [hadd]
      refine h.cell (k + j) v ?_
      rw [← hs] at hv
      rw [List.getElem?_take] at hv
      split at hv
      · rw [List.getElem?_drop] at hv
        simpa using hv
      · cases hv)
  cases hq : Try.prog.info? ty with
  | none => simp [hq] at hi
  | some i =>
    have hs' : i.size = sub.size := by simpa [hq] using hi
    have hagg : (isAgg ty).run Try.prog W = .ok true W := by
      unfold isAgg
      rw [Sem.run_bind, run_underlying hu W]
      rfl
    simp only [Array.length_toList, Array.toArray_toList] at hl
    simp [loadVar, Sem.run_bind, hagg, sizeOf, typeInfo, hq, hs', hl]
theorem yieldsIf_sub {ops : Array Oper} {S : World → Prop} {o : Oper} {ac : Act} (hgd : o.guard = none) (ty : TypeId) (p : Operand) (ho : o.op = Op.load ty p) (g k : Nat) (t : TypeId) (hp : ac.eval p = .pointer (some ⟨g, k, none⟩)) (cs sub : Array Value)
    (hS : ∀ w, S w → Blk w g t cs) (hs : (cs.toList.drop k).take sub.size = sub.toList) {fs : _} (hu : Try.prog.underlying ty = some (.struct fs)) (hi : (Try.prog.info? ty).map (·.size) = some sub.size) : YieldsIf Try.prog ops S o (.agg sub) ac := by
  refine .inl ⟨by simp [Region.wanted, hgd], fun w hw => ?_⟩
  have hl := load_sub (hS w hw) k sub hs hu hi
  simp [execOp, ho, hp, Instr.loadAt, Instr.sureAddr, hl, Result.andThen]
theorem wpList_load_sub {ops : Array Oper} {rest : List Oper} {o : Oper} {ac : Act} {w : World} {Q : Exit → Act → World → Prop} (hgd : o.guard = none) (ty : TypeId) (p : Operand) (ho : o.op = Op.load ty p) (g k : Nat) (t : TypeId) (hp : ac.eval p = .pointer (some ⟨g, k, none⟩)) (cs sub : Array Value)
    (hb : Blk w g t cs) (hs : (cs.toList.drop k).take sub.size = sub.toList) {fs : _} (hu : Try.prog.underlying ty = some (.struct fs)) (hi : (Try.prog.info? ty).map (·.size) = some sub.size) (h : wpList Try.prog ops Q rest (ac.put o.dst (.agg sub)) w) : wpList Try.prog ops Q (o :: rest) ac w := by
  refine wpList_plain hgd fun K hK => ?_
  have hl := load_sub hb k sub hs hu hi
  unfold Oper.wp
  simp [execOp, ho, hp, Instr.loadAt, Instr.sureAddr, hl, Result.andThen]
  exact hK _ _ h
theorem bytes_tcp (p : Int) : M.Bytes [80, p % 256] := by
  intro x hx
  simp at hx
  rcases hx with rfl | rfl <;> omega
theorem bytes_icmp (p q : Int) : M.Bytes [p % 256, q % 256, 0, 0] := by
  intro x hx
  simp at hx
  rcases hx with rfl | rfl | rfl <;> omega
theorem bytes_00 : M.Bytes [0, 0] := by
  intro x hx
  simp at hx
  subst hx
  omega
theorem bytes_0000 : M.Bytes [0, 0, 0, 0] := by
  intro x hx
  simp at hx
  subst hx
  omega

set_option maxRecDepth 100000 in
set_option maxHeartbeats 4000000 in
theorem written_tcp (x : Sg) (a : Option Addr) (c : Nat) (w : World) (hsq : 0 ≤ x.sq ∧ x.sq ≤ 4294967295) (hak : 0 ≤ x.ak ∧ x.ak ≤ 4294967295) (hdl : x.data.length ≤ 140737488355328) (h6 : x.t.pr = 6) :
    Calls Try.prog 41 #[.agg #[.int .i64 x.t.fam, .int .i64 x.t.pr, .int .i64 x.t.s.fam, .int .u64 x.t.s.hi, .int .u64 x.t.s.lo, .int .i64 x.t.d.fam, .int .u64 x.t.d.hi, .int .u64 x.t.d.lo, .int .i64 x.t.sp, .int .i64 x.t.dp, .int .i64 x.fl, .int .u32 x.sq, .int .u32 x.ak, .int .i64 x.wn, .int .i64 x.ty, .int .i64 x.cd, .bool x.er, .int .i64 x.inn.fam, .int .i64 x.inn.pr, .int .i64 x.inn.s.fam, .int .u64 x.inn.s.hi, .int .u64 x.inn.s.lo, .int .i64 x.inn.d.fam, .int .u64 x.inn.d.hi, .int .u64 x.inn.d.lo, .int .i64 x.inn.sp, .int .i64 x.inn.dp, .slice a x.data.length c]] w fun e w' => ∃ a' c', e = .returned (.tuple #[.slice a' (headB x).length c', .int .i64 (placeB x : Nat)]) ∧ Fresh w w' a' c' (headB x) := by
  obtain ⟨W1, hW1⟩ : ∃ W1, w.alloc (.cells #[.int .i64 x.t.fam, .int .i64 x.t.pr, .int .i64 x.t.s.fam, .int .u64 x.t.s.hi, .int .u64 x.t.s.lo, .int .i64 x.t.d.fam, .int .u64 x.t.d.hi, .int .u64 x.t.d.lo, .int .i64 x.t.sp, .int .i64 x.t.dp, .int .i64 x.fl, .int .u32 x.sq, .int .u32 x.ak, .int .i64 x.wn, .int .i64 x.ty, .int .i64 x.cd, .bool x.er, .int .i64 x.inn.fam, .int .i64 x.inn.pr, .int .i64 x.inn.s.fam, .int .u64 x.inn.s.hi, .int .u64 x.inn.s.lo, .int .i64 x.inn.d.fam, .int .u64 x.inn.d.hi, .int .u64 x.inn.d.lo, .int .i64 x.inn.sp, .int .i64 x.inn.dp, .slice a x.data.length c] 38) = W1 := ⟨_, rfl⟩
  have b1 : Below w.heap.size w W1 := by rw [← hW1]; exact (Below.refl _ _).alloc (Nat.le_refl _) _
  have B1 : Blk W1 w.heap.size 38 #[.int .i64 x.t.fam, .int .i64 x.t.pr, .int .i64 x.t.s.fam, .int .u64 x.t.s.hi, .int .u64 x.t.s.lo, .int .i64 x.t.d.fam, .int .u64 x.t.d.hi, .int .u64 x.t.d.lo, .int .i64 x.t.sp, .int .i64 x.t.dp, .int .i64 x.fl, .int .u32 x.sq, .int .u32 x.ak, .int .i64 x.wn, .int .i64 x.ty, .int .i64 x.cd, .bool x.er, .int .i64 x.inn.fam, .int .i64 x.inn.pr, .int .i64 x.inn.s.fam, .int .u64 x.inn.s.hi, .int .u64 x.inn.s.lo, .int .i64 x.inn.d.fam, .int .u64 x.inn.d.hi, .int .u64 x.inn.d.lo, .int .i64 x.inn.sp, .int .i64 x.inn.dp, .slice a x.data.length c] := by rw [← hW1]; exact blk_new _ _ _
  have g1 : w.heap.size < W1.heap.size := B1.lt
  have d1 := B1.cell 1 (.int .i64 x.t.pr) rfl
  have KP : Hid _ := portBytes_any x
  have e6 : (x.t.pr == 6) = true := by simpa using h6
  have eP : placeB x = 16 := by unfold placeB; rw [if_pos h6]
  have eH : headB x = put16 (put32 (put32 (portB x) x.sq) x.ak ++ [80, x.fl % 256]) x.wn ++ [0, 0, 0, 0] := by unfold headB; rw [if_pos h6]
  rw [eP, eH]
  obtain ⟨L0, h0⟩ : ∃ L, portB x = L := ⟨_, rfl⟩
  have l0 : L0.length = 4 := by rw [← h0]; simp [portB, put16]
  rw [h0] at KP ⊢
  obtain ⟨L1, h1⟩ : ∃ L, put32 L0 x.sq = L := ⟨_, rfl⟩
  have l1 : L1.length = 8 := by rw [← h1]; simp [put32, l0]
  obtain ⟨L2, h2⟩ : ∃ L, put32 L1 x.ak = L := ⟨_, rfl⟩
  have l2 : L2.length = 12 := by rw [← h2]; simp [put32, l1]
  obtain ⟨L3, h3⟩ : ∃ L, L2 ++ [80, x.fl % 256] = L := ⟨_, rfl⟩
  have l3 : L3.length = 14 := by rw [← h3]; simp [l2]
  obtain ⟨L4, h4⟩ : ∃ L, put16 L3 x.wn = L := ⟨_, rfl⟩
  have l4 : L4.length = 16 := by rw [← h4]; simp [put16, l3]
  obtain ⟨L5, h5⟩ : ∃ L, L4 ++ [0, 0, 0, 0] = L := ⟨_, rfl⟩
  have l5 : L5.length = 20 := by rw [← h5]; simp [l4]
  rw [h1, h2, h3, h4, h5]
  have K1 : Hid (∀ W a c, Row W a L0 → (a = none → c = 0) → Calls Try.prog 27 #[.slice a 4 c, .int .u32 x.sq] W fun e w' => ∃ a' c', e = .returned (.slice a' L1.length c') ∧ Fresh W w' a' c' L1) := fun W a c hr hn => by
    have := put32_any a c L0 x.sq W hr hn (by omega) hsq
    rw [h1, l0] at this
    exact this
  have K2 : Hid (∀ W a c, Row W a L1 → (a = none → c = 0) → Calls Try.prog 27 #[.slice a L1.length c, .int .u32 x.ak] W fun e w' => ∃ a' c', e = .returned (.slice a' L2.length c') ∧ Fresh W w' a' c' L2) := fun W a c hr hn => by
    have := put32_any a c L1 x.ak W hr hn (by omega) hak
    rw [h2] at this
    exact this
  have K3 : Hid (∀ W a c, Row W a L3 → (a = none → c = 0) → Calls Try.prog 26 #[.slice a L3.length c, .int .i64 x.wn] W fun e w' => ∃ a' c', e = .returned (.slice a' L4.length c') ∧ Fresh W w' a' c' L4) := fun W a c hr hn => by
    have := put16_any a c L3 x.wn W hr hn (by omega)
    rw [h4] at this
    exact this
  have HL3 : Hid (L2 ++ [80, x.fl % 256] = L3) := h3
  have HL5 : Hid (L4 ++ [0, 0, 0, 0] = L5) := h5
  have wfl := wrapU8 x.fl
  have l3' : L3.length ≤ 14 := by omega
  have l5' : L5.length ≤ 20 := by omega
  clear h0 h1 h2 h3 h4 h5 l0 l1 l2 l3 l4 l5 eP eH h6
  go_enter Try.func41, Try.ntmps41
  go_wp2_with fail
  refine wp_region_noPanic ?_
  refine wp_region_held_drew (S := fun w' => Blk w' w.heap.size 38 #[.int .i64 x.t.fam, .int .i64 x.t.pr, .int .i64 x.t.s.fam, .int .u64 x.t.s.hi, .int .u64 x.t.s.lo, .int .i64 x.t.d.fam, .int .u64 x.t.d.hi, .int .u64 x.t.d.lo, .int .i64 x.t.sp, .int .i64 x.t.dp, .int .i64 x.fl, .int .u32 x.sq, .int .u32 x.ak, .int .i64 x.wn, .int .i64 x.ty, .int .i64 x.cd, .bool x.er, .int .i64 x.inn.fam, .int .i64 x.inn.pr, .int .i64 x.inn.s.fam, .int .u64 x.inn.s.hi, .int .u64 x.inn.s.lo, .int .i64 x.inn.d.fam, .int .u64 x.inn.d.hi, .int .u64 x.inn.d.lo, .int .i64 x.inn.sp, .int .i64 x.inn.dp, .slice a x.data.length c] ∧ w'.cell? ⟨w.heap.size, 11, none⟩ = some (.int .u32 x.sq) ∧ w'.cell? ⟨w.heap.size, 12, none⟩ = some (.int .u32 x.ak)) (by kernel_rfl) (by exact ⟨B1.drew, B1.drew.cell 11 _ rfl, B1.drew.cell 12 _ rfl⟩) (fun hHeld => ?_)
  refine wpAnyH_take (i := 0) (oi := { dst := some 12, op := Op.fieldAddr 38 (.tmp 1) 0, type := 0, pos := "build.go:47", after := #[], guard := none }) (v := (.pointer (some ⟨w.heap.size, 0, none⟩))) rfl (by kernel_rfl) (by kernel_rfl) (by kernel_rfl) (fun _ _ _ h => h) (Or.inl ⟨by rfl, ?_⟩) hHeld ?_
  · intro w9 hSw
    try dsimp only at hSw
    go_simp
  try simp only [Act.put, List.setIfInBounds_toArray, List.set_cons_zero, List.set_cons_succ]
  refine wpAnyH_take (i := 1) (oi := { dst := some 13, op := Op.load 26 (.tmp 12), type := 26, pos := "build.go:47", after := #[{ on := 0, ground := Ground.data }], guard := none }) (v := (.agg #[.int .i64 x.t.fam, .int .i64 x.t.pr, .int .i64 x.t.s.fam, .int .u64 x.t.s.hi, .int .u64 x.t.s.lo, .int .i64 x.t.d.fam, .int .u64 x.t.d.hi, .int .u64 x.t.d.lo, .int .i64 x.t.sp, .int .i64 x.t.dp])) rfl (by kernel_rfl) (by kernel_rfl) (by kernel_rfl) (fun _ _ _ h => h) (yieldsIf_sub rfl _ _ rfl w.heap.size 0 38 (by rfl) _ _ (fun _ hSw => hSw.1) (by rfl) Try.underlying26 (by kernel_rfl)) hHeld ?_
  try simp only [Act.put, List.setIfInBounds_toArray, List.set_cons_zero, List.set_cons_succ]
  refine wpAnyH_take (i := 3) (oi := { dst := some 15, op := Op.fieldAddr 38 (.tmp 1) 2, type := 0, pos := "build.go:47", after := #[], guard := none }) (v := (.pointer (some ⟨w.heap.size, 11, none⟩))) rfl (by kernel_rfl) (by kernel_rfl) (by kernel_rfl) (fun _ _ _ h => h) (Or.inl ⟨by rfl, ?_⟩) hHeld ?_
  · intro w9 hSw
    try dsimp only at hSw
    go_simp
  try simp only [Act.put, List.setIfInBounds_toArray, List.set_cons_zero, List.set_cons_succ]
  refine wpAnyH_take (i := 4) (oi := { dst := some 16, op := Op.load 33 (.tmp 15), type := 33, pos := "build.go:47", after := #[{ on := 3, ground := Ground.data }], guard := none }) (v := (.int .u32 x.sq)) rfl (by kernel_rfl) (by kernel_rfl) (by kernel_rfl) (fun _ _ _ h => h) (Or.inl ⟨by rfl, ?_⟩) hHeld ?_
  · intro w9 hSw
    try dsimp only at hSw
    go_simp
  try simp only [Act.put, List.setIfInBounds_toArray, List.set_cons_zero, List.set_cons_succ]
  refine wpAnyH_take (i := 6) (oi := { dst := some 18, op := Op.fieldAddr 38 (.tmp 1) 3, type := 0, pos := "build.go:47", after := #[], guard := none }) (v := (.pointer (some ⟨w.heap.size, 12, none⟩))) rfl (by kernel_rfl) (by kernel_rfl) (by kernel_rfl) (fun _ _ _ h => h) (Or.inl ⟨by rfl, ?_⟩) hHeld ?_
  · intro w9 hSw
    try dsimp only at hSw
    go_simp
  try simp only [Act.put, List.setIfInBounds_toArray, List.set_cons_zero, List.set_cons_succ]
  refine wpAnyH_take (i := 7) (oi := { dst := some 19, op := Op.load 33 (.tmp 18), type := 33, pos := "build.go:47", after := #[{ on := 6, ground := Ground.data }], guard := none }) (v := (.int .u32 x.ak)) rfl (by kernel_rfl) (by kernel_rfl) (by kernel_rfl) (fun _ _ _ h => h) (Or.inl ⟨by rfl, ?_⟩) hHeld ?_
  · intro w9 hSw
    try dsimp only at hSw
    go_simp
  try simp only [Act.put, List.setIfInBounds_toArray, List.set_cons_zero, List.set_cons_succ]
  refine wpAnyH_ready (rs := [2]) (by kernel_rfl) (by simp) ?_
  refine AllReadyH.cons (o := { dst := some 14, op := Op.call { callee := Callee.value (.func 63), args := #[.tmp 13], argTypes := #[26] }, type := 28, pos := "build.go:47", after := #[{ on := 1, ground := Ground.data }], guard := none }) rfl (fun K hK => ?_) AllReadyH.nil
  go_simp
  refine Calls.mono (KP.out _) ?_
  rintro e W2 ⟨a2, c2, rfl, f2⟩
  have B2 := B1.drew.kept f2.below
  have b2 : Below w.heap.size w W2 := b1.drew.trans (f2.below.mono b1.drew.size)
  refine hK.out _ _ ?_ (fun hHeld => ?_)
  · exact ⟨B2, B2.cell 11 _ rfl, B2.cell 12 _ rfl⟩
  clear hK K
  try simp only [Act.put, List.setIfInBounds_toArray, List.set_cons_zero, List.set_cons_succ]
  refine wpAnyH_ready (rs := [5]) (by kernel_rfl) (by simp) ?_
  refine AllReadyH.cons (o := { dst := some 17, op := Op.call { callee := Callee.value (.func 27), args := #[.tmp 14, .tmp 16], argTypes := #[28, 33] }, type := 28, pos := "build.go:47", after := #[{ on := 2, ground := Ground.data }, { on := 4, ground := Ground.data }, { on := 2, ground := Ground.chain }], guard := none }) rfl (fun K hK => ?_) AllReadyH.nil
  go_simp
  refine Calls.mono (K1.out _ _ _ f2.row f2.nil) ?_
  rintro e W3 ⟨a3, c3, rfl, f3⟩
  have B3 := B2.kept f3.below
  have b3 : Below w.heap.size w W3 := b2.trans (f3.below.mono b2.size)
  refine hK.out _ _ ?_ (fun hHeld => ?_)
  · exact ⟨B3, B3.cell 11 _ rfl, B3.cell 12 _ rfl⟩
  clear hK K
  try simp only [Act.put, List.setIfInBounds_toArray, List.set_cons_zero, List.set_cons_succ]
  refine wpAnyH_ready (rs := [8]) (by kernel_rfl) (by simp) ?_
  refine AllReadyH.cons (o := { dst := some 20, op := Op.call { callee := Callee.value (.func 27), args := #[.tmp 17, .tmp 19], argTypes := #[28, 33] }, type := 28, pos := "build.go:47", after := #[{ on := 5, ground := Ground.data }, { on := 7, ground := Ground.data }, { on := 5, ground := Ground.chain }], guard := none }) rfl (fun K hK => ?_) AllReadyH.nil
  go_simp
  refine Calls.mono (K2.out _ _ _ f3.row f3.nil) ?_
  rintro e W4 ⟨a4, c4, rfl, f4⟩
  have B4 := B3.kept f4.below
  have b4 : Below w.heap.size w W4 := b3.trans (f4.below.mono b3.size)
  refine hK.out _ _ ?_ (fun hHeld => ?_)
  · exact ⟨B4, B4.cell 11 _ rfl, B4.cell 12 _ rfl⟩
  clear hK K
  try simp only [Act.put, List.setIfInBounds_toArray, List.set_cons_zero, List.set_cons_succ]
  refine wpAnyH_take (i := 9) (oi := { dst := some 4, op := Op.assign (.tmp 20), type := 28, pos := "build.go:47", after := #[{ on := 8, ground := Ground.data }, { on := 8, ground := Ground.chain }, { on := 0, ground := Ground.phase }, { on := 1, ground := Ground.phase }, { on := 2, ground := Ground.phase }, { on := 3, ground := Ground.phase }, { on := 4, ground := Ground.phase }, { on := 5, ground := Ground.phase }, { on := 6, ground := Ground.phase }, { on := 7, ground := Ground.phase }, { on := 8, ground := Ground.phase }], guard := none }) (v := (.slice a4 L2.length c4)) rfl (by kernel_rfl) (by kernel_rfl) (by kernel_rfl) (fun _ _ _ h => h) (Or.inl ⟨by rfl, ?_⟩) hHeld ?_
  · intro w9 hSw
    try dsimp only at hSw
    go_simp
  try simp only [Act.put, List.setIfInBounds_toArray, List.set_cons_zero, List.set_cons_succ]
  refine wpAnyH_done (by kernel_rfl) ?_ _
  refine NoPanic.normal ?_
  have s3 : W1.heap.size ≤ W3.heap.size := Nat.le_trans (Nat.le_trans (show W1.heap.size ≤ W1.drew.heap.size from Nat.le_refl _) f2.below.size) f3.below.size
  have s4 : W1.heap.size ≤ W4.heap.size := Nat.le_trans s3 f4.below.size
  clear KP K1 K2 f2 f3 B2 B3 hHeld
  go_wp2_with fail
  refine wp_region_noPanic ?_
  refine wp_region_held_drew (S := fun w' => Blk w' w.heap.size 38 #[.int .i64 x.t.fam, .int .i64 x.t.pr, .int .i64 x.t.s.fam, .int .u64 x.t.s.hi, .int .u64 x.t.s.lo, .int .i64 x.t.d.fam, .int .u64 x.t.d.hi, .int .u64 x.t.d.lo, .int .i64 x.t.sp, .int .i64 x.t.dp, .int .i64 x.fl, .int .u32 x.sq, .int .u32 x.ak, .int .i64 x.wn, .int .i64 x.ty, .int .i64 x.cd, .bool x.er, .int .i64 x.inn.fam, .int .i64 x.inn.pr, .int .i64 x.inn.s.fam, .int .u64 x.inn.s.hi, .int .u64 x.inn.s.lo, .int .i64 x.inn.d.fam, .int .u64 x.inn.d.hi, .int .u64 x.inn.d.lo, .int .i64 x.inn.sp, .int .i64 x.inn.dp, .slice a x.data.length c] ∧ w'.cell? ⟨w.heap.size, 10, none⟩ = some (.int .i64 x.fl) ∧ w'.cell? ⟨w.heap.size, 13, none⟩ = some (.int .i64 x.wn)) (by kernel_rfl) (by exact ⟨B4.drew, B4.drew.cell 10 _ rfl, B4.drew.cell 13 _ rfl⟩) (fun hHeld => ?_)
  refine wpAnyH_take (i := 0) (oi := { dst := some 21, op := Op.move (.tmp 4), type := 28, pos := "build.go:48", after := #[], guard := none }) (v := (.slice a4 L2.length c4)) rfl (by kernel_rfl) (by kernel_rfl) (by kernel_rfl) (fun _ _ _ h => h) (Or.inl ⟨by rfl, ?_⟩) hHeld ?_
  · intro w9 hSw
    try dsimp only at hSw
    go_simp
  try simp only [Act.put, List.setIfInBounds_toArray, List.set_cons_zero, List.set_cons_succ]
  refine wpAnyH_take (i := 1) (oi := { dst := some 22, op := Op.fieldAddr 38 (.tmp 1) 1, type := 0, pos := "build.go:48", after := #[], guard := none }) (v := (.pointer (some ⟨w.heap.size, 10, none⟩))) rfl (by kernel_rfl) (by kernel_rfl) (by kernel_rfl) (fun _ _ _ h => h) (Or.inl ⟨by rfl, ?_⟩) hHeld ?_
  · intro w9 hSw
    try dsimp only at hSw
    go_simp
  try simp only [Act.put, List.setIfInBounds_toArray, List.set_cons_zero, List.set_cons_succ]
  refine wpAnyH_take (i := 2) (oi := { dst := some 23, op := Op.load 3 (.tmp 22), type := 3, pos := "build.go:48", after := #[{ on := 1, ground := Ground.data }], guard := none }) (v := (.int .i64 x.fl)) rfl (by kernel_rfl) (by kernel_rfl) (by kernel_rfl) (fun _ _ _ h => h) (Or.inl ⟨by rfl, ?_⟩) hHeld ?_
  · intro w9 hSw
    try dsimp only at hSw
    go_simp
  try simp only [Act.put, List.setIfInBounds_toArray, List.set_cons_zero, List.set_cons_succ]
  refine wpAnyH_take (i := 3) (oi := { dst := some 24, op := Op.convert 3 5 (.tmp 23), type := 5, pos := "build.go:48", after := #[{ on := 2, ground := Ground.data }], guard := none }) (v := (.int .u8 (x.fl % 256))) rfl (by kernel_rfl) (by kernel_rfl) (by kernel_rfl) (fun _ _ _ h => h) (Or.inl ⟨by rfl, ?_⟩) hHeld ?_
  · intro w9 hSw
    try dsimp only at hSw
    go_simp
  try simp only [Act.put, List.setIfInBounds_toArray, List.set_cons_zero, List.set_cons_succ]
  refine wpAnyH_take (i := 6) (oi := { dst := some 27, op := Op.fieldAddr 38 (.tmp 1) 4, type := 0, pos := "build.go:48", after := #[], guard := none }) (v := (.pointer (some ⟨w.heap.size, 13, none⟩))) rfl (by kernel_rfl) (by kernel_rfl) (by kernel_rfl) (fun _ _ _ h => h) (Or.inl ⟨by rfl, ?_⟩) hHeld ?_
  · intro w9 hSw
    try dsimp only at hSw
    go_simp
  try simp only [Act.put, List.setIfInBounds_toArray, List.set_cons_zero, List.set_cons_succ]
  refine wpAnyH_take (i := 7) (oi := { dst := some 28, op := Op.load 3 (.tmp 27), type := 3, pos := "build.go:48", after := #[{ on := 6, ground := Ground.data }], guard := none }) (v := (.int .i64 x.wn)) rfl (by kernel_rfl) (by kernel_rfl) (by kernel_rfl) (fun _ _ _ h => h) (Or.inl ⟨by rfl, ?_⟩) hHeld ?_
  · intro w9 hSw
    try dsimp only at hSw
    go_simp
  try simp only [Act.put, List.setIfInBounds_toArray, List.set_cons_zero, List.set_cons_succ]
  refine wpAnyH_ready (rs := [4]) (by kernel_rfl) (by simp) ?_
  refine AllReadyH.cons (o := { dst := some 25, op := Op.buildSlice 28 2 #[(0, .const (.int .u8 80)), (1, .tmp 24)], type := 28, pos := "build.go:48", after := #[{ on := 3, ground := Ground.data }], guard := none }) rfl (fun K hK => ?_) AllReadyH.nil
  go_simp
  have B5 := B4.drew.alloc (.cells #[.int .u8 80, .int .u8 (x.fl % 256)] 5)
  have b5 := b4.drew.alloc b4.drew.size (.cells #[.int .u8 80, .int .u8 (x.fl % 256)] 5)
  have O5 := Owns.alloc (owns_le (B' := W1.heap.size) s3 (f4.owns.below ((Below.refl _ _).drew))) (.cells #[.int .u8 80, .int .u8 (x.fl % 256)] 5)
  have s5 : W1.heap.size ≤ (W4.drew.alloc (.cells #[.int .u8 80, .int .u8 (x.fl % 256)] 5)).heap.size := by
    have : W4.drew.heap.size = W4.heap.size := rfl
    simp only [World.size_alloc]
    omega
  have r5 := row_at W4.drew 5 [80, x.fl % 256] W4.drew.heap.size rfl (by simp) (bytes_tcp x.fl)
  refine hK.out _ _ ?_ (fun hHeld => ?_)
  · exact ⟨B5, B5.cell 10 _ rfl, B5.cell 13 _ rfl⟩
  clear hK K
  try simp only [Act.put, List.setIfInBounds_toArray, List.set_cons_zero, List.set_cons_succ]
  refine wpAnyH_ready (rs := [5]) (by kernel_rfl) (by simp) ?_
  refine AllReadyH.cons (o := { dst := some 26, op := Op.call { callee := Callee.builtin Builtin.append, args := #[.tmp 21, .tmp 25], argTypes := #[28, 28] }, type := 28, pos := "build.go:48", after := #[{ on := 0, ground := Ground.data }, { on := 4, ground := Ground.data }], guard := none }) rfl (fun K hK => ?_) AllReadyH.nil
  refine step_app2 _ rfl _ _ rfl W1.heap.size _ L2 rfl O5 f4.row.bytes _ 2 2 [80, x.fl % 256] (by rfl) rfl r5 (fun hh => by cases hh) L3 HL3.out (by omega) s5 ?_
  intro a6 c6 W6 O6 rm6 nl6 r6 bb
  have b6 : Below w.heap.size w W6 := b5.trans (bb.mono b1.size)
  have B6 := B5.below bb g1
  have s6 : W1.heap.size ≤ W6.heap.size := Nat.le_trans s5 bb.size
  refine hK.out _ _ ?_ (fun hHeld => ?_)
  · exact ⟨B6, B6.cell 10 _ rfl, B6.cell 13 _ rfl⟩
  clear hK K
  try simp only [Act.put, List.setIfInBounds_toArray, List.set_cons_zero, List.set_cons_succ]
  refine wpAnyH_ready (rs := [8]) (by kernel_rfl) (by simp) ?_
  refine AllReadyH.cons (o := { dst := some 29, op := Op.call { callee := Callee.value (.func 26), args := #[.tmp 26, .tmp 28], argTypes := #[28, 3] }, type := 28, pos := "build.go:48", after := #[{ on := 5, ground := Ground.data }, { on := 7, ground := Ground.data }, { on := 5, ground := Ground.chain }], guard := none }) rfl (fun K hK => ?_) AllReadyH.nil
  go_simp
  refine Calls.mono (K3.out _ _ _ r6 nl6) ?_
  rintro e W7 ⟨a7, c7, rfl, f7⟩
  have B7 := B6.kept f7.below
  have b7 : Below w.heap.size w W7 := b6.trans (f7.below.mono b6.size)
  refine hK.out _ _ ?_ (fun hHeld => ?_)
  · exact ⟨B7, B7.cell 10 _ rfl, B7.cell 13 _ rfl⟩
  clear hK K
  try simp only [Act.put, List.setIfInBounds_toArray, List.set_cons_zero, List.set_cons_succ]
  refine wpAnyH_take (i := 9) (oi := { dst := some 4, op := Op.assign (.tmp 29), type := 28, pos := "build.go:48", after := #[{ on := 8, ground := Ground.data }, { on := 8, ground := Ground.chain }, { on := 0, ground := Ground.phase }, { on := 1, ground := Ground.phase }, { on := 2, ground := Ground.phase }, { on := 3, ground := Ground.phase }, { on := 4, ground := Ground.phase }, { on := 5, ground := Ground.phase }, { on := 6, ground := Ground.phase }, { on := 7, ground := Ground.phase }, { on := 8, ground := Ground.phase }], guard := none }) (v := (.slice a7 L4.length c7)) rfl (by kernel_rfl) (by kernel_rfl) (by kernel_rfl) (fun _ _ _ h => h) (Or.inl ⟨by rfl, ?_⟩) hHeld ?_
  · intro w9 hSw
    try dsimp only at hSw
    go_simp
  try simp only [Act.put, List.setIfInBounds_toArray, List.set_cons_zero, List.set_cons_succ]
  refine wpAnyH_done (by kernel_rfl) ?_ _
  refine NoPanic.normal ?_
  have OW := owns_le b6.size f7.owns
  have rb := f7.row.bytes
  clear K3 f7 f4 B4 B5 B6 B7 hHeld r6 O5 O6 r5 HL3
  go_wp2_with (at_builtin; refine wpList_app2 _ rfl _ _ rfl w.heap.size _ L4 rfl (OW.alloc _) rb _ 4 [0, 0, 0, 0] rfl ?row (fun hh => by cases hh) L5 HL5.out ?c1 ?c2 ?_)
  case row => exact row_at W7 5 [0, 0, 0, 0] W7.heap.size rfl (by simp) bytes_0000
  case c1 => omega
  case c2 => exact Nat.le_trans b7.size (by simp)
  intro a8 c8 W8 o8 rm8 nl8 r8 bb _
  have b8 : Below w.heap.size w W8 := (b7.alloc b7.size _).trans bb
  go_wp2
  go_ret2
  exact ⟨a8, c8, rfl, o8, rm8, nl8, r8, b8⟩

set_option maxRecDepth 100000 in
set_option maxHeartbeats 4000000 in
theorem written_udp (x : Sg) (a : Option Addr) (c : Nat) (w : World) (hsq : 0 ≤ x.sq ∧ x.sq ≤ 4294967295) (hak : 0 ≤ x.ak ∧ x.ak ≤ 4294967295) (hdl : x.data.length ≤ 140737488355328) (h6 : ¬ x.t.pr = 6) (h17 : x.t.pr = 17) :
    Calls Try.prog 41 #[.agg #[.int .i64 x.t.fam, .int .i64 x.t.pr, .int .i64 x.t.s.fam, .int .u64 x.t.s.hi, .int .u64 x.t.s.lo, .int .i64 x.t.d.fam, .int .u64 x.t.d.hi, .int .u64 x.t.d.lo, .int .i64 x.t.sp, .int .i64 x.t.dp, .int .i64 x.fl, .int .u32 x.sq, .int .u32 x.ak, .int .i64 x.wn, .int .i64 x.ty, .int .i64 x.cd, .bool x.er, .int .i64 x.inn.fam, .int .i64 x.inn.pr, .int .i64 x.inn.s.fam, .int .u64 x.inn.s.hi, .int .u64 x.inn.s.lo, .int .i64 x.inn.d.fam, .int .u64 x.inn.d.hi, .int .u64 x.inn.d.lo, .int .i64 x.inn.sp, .int .i64 x.inn.dp, .slice a x.data.length c]] w fun e w' => ∃ a' c', e = .returned (.tuple #[.slice a' (headB x).length c', .int .i64 (placeB x : Nat)]) ∧ Fresh w w' a' c' (headB x) := by
  obtain ⟨W1, hW1⟩ : ∃ W1, w.alloc (.cells #[.int .i64 x.t.fam, .int .i64 x.t.pr, .int .i64 x.t.s.fam, .int .u64 x.t.s.hi, .int .u64 x.t.s.lo, .int .i64 x.t.d.fam, .int .u64 x.t.d.hi, .int .u64 x.t.d.lo, .int .i64 x.t.sp, .int .i64 x.t.dp, .int .i64 x.fl, .int .u32 x.sq, .int .u32 x.ak, .int .i64 x.wn, .int .i64 x.ty, .int .i64 x.cd, .bool x.er, .int .i64 x.inn.fam, .int .i64 x.inn.pr, .int .i64 x.inn.s.fam, .int .u64 x.inn.s.hi, .int .u64 x.inn.s.lo, .int .i64 x.inn.d.fam, .int .u64 x.inn.d.hi, .int .u64 x.inn.d.lo, .int .i64 x.inn.sp, .int .i64 x.inn.dp, .slice a x.data.length c] 38) = W1 := ⟨_, rfl⟩
  have b1 : Below w.heap.size w W1 := by rw [← hW1]; exact (Below.refl _ _).alloc (Nat.le_refl _) _
  have B1 : Blk W1 w.heap.size 38 #[.int .i64 x.t.fam, .int .i64 x.t.pr, .int .i64 x.t.s.fam, .int .u64 x.t.s.hi, .int .u64 x.t.s.lo, .int .i64 x.t.d.fam, .int .u64 x.t.d.hi, .int .u64 x.t.d.lo, .int .i64 x.t.sp, .int .i64 x.t.dp, .int .i64 x.fl, .int .u32 x.sq, .int .u32 x.ak, .int .i64 x.wn, .int .i64 x.ty, .int .i64 x.cd, .bool x.er, .int .i64 x.inn.fam, .int .i64 x.inn.pr, .int .i64 x.inn.s.fam, .int .u64 x.inn.s.hi, .int .u64 x.inn.s.lo, .int .i64 x.inn.d.fam, .int .u64 x.inn.d.hi, .int .u64 x.inn.d.lo, .int .i64 x.inn.sp, .int .i64 x.inn.dp, .slice a x.data.length c] := by rw [← hW1]; exact blk_new _ _ _
  have g1 : w.heap.size < W1.heap.size := B1.lt
  have d1 := B1.cell 1 (.int .i64 x.t.pr) rfl
  have KP : Hid _ := portBytes_any x
  have d27 := B1.cell 27 (.slice a x.data.length c) rfl
  have HC : Hid (∀ W, Blk W w.heap.size 38 #[.int .i64 x.t.fam, .int .i64 x.t.pr, .int .i64 x.t.s.fam, .int .u64 x.t.s.hi, .int .u64 x.t.s.lo, .int .i64 x.t.d.fam, .int .u64 x.t.d.hi, .int .u64 x.t.d.lo, .int .i64 x.t.sp, .int .i64 x.t.dp, .int .i64 x.fl, .int .u32 x.sq, .int .u32 x.ak, .int .i64 x.wn, .int .i64 x.ty, .int .i64 x.cd, .bool x.er, .int .i64 x.inn.fam, .int .i64 x.inn.pr, .int .i64 x.inn.s.fam, .int .u64 x.inn.s.hi, .int .u64 x.inn.s.lo, .int .i64 x.inn.d.fam, .int .u64 x.inn.d.hi, .int .u64 x.inn.d.lo, .int .i64 x.inn.sp, .int .i64 x.inn.dp, .slice a x.data.length c] → W.cell? ⟨w.heap.size, 27, none⟩ = some (.slice a x.data.length c)) := fun W hW => hW.cell 27 _ rfl
  have e6 : (x.t.pr == 6) = false := by simpa using h6
  have e17 : (x.t.pr == 17) = true := by simpa using h17
  have eP : placeB x = 6 := by unfold placeB; rw [if_neg h6, if_pos h17]
  have eH : headB x = put16 (portB x) (8 + x.data.length) ++ [0, 0] := by unfold headB; rw [if_neg h6, if_pos h17]
  rw [eP, eH]
  obtain ⟨L0, h0⟩ : ∃ L, portB x = L := ⟨_, rfl⟩
  have l0 : L0.length = 4 := by rw [← h0]; simp [portB, put16]
  rw [h0] at KP ⊢
  have w8 : IntKind.i64.wrap (8 + (x.data.length : Int)) = 8 + (x.data.length : Int) := wraps_i64 _ (by omega) (by omega)
  obtain ⟨L1, h1⟩ : ∃ L, put16 L0 (8 + (x.data.length : Int)) = L := ⟨_, rfl⟩
  have l1 : L1.length = 6 := by rw [← h1]; simp [put16, l0]
  obtain ⟨L2, h2⟩ : ∃ L, L1 ++ [0, 0] = L := ⟨_, rfl⟩
  have l2 : L2.length = 8 := by rw [← h2]; simp [l1]
  rw [h1, h2]
  have K1 : Hid (∀ W a c, Row W a L0 → (a = none → c = 0) → Calls Try.prog 26 #[.slice a 4 c, .int .i64 (8 + (x.data.length : Int))] W fun e w' => ∃ a' c', e = .returned (.slice a' L1.length c') ∧ Fresh W w' a' c' L1) := fun W a c hr hn => by
    have := put16_any a c L0 (8 + (x.data.length : Int)) W hr hn (by omega)
    rw [h1, l0] at this
    exact this
  have HL2 : Hid (L1 ++ [0, 0] = L2) := h2
  have l2' : L2.length ≤ 8 := by omega
  have s0 : W1.heap.size ≤ W1.drew.heap.size := Nat.le_refl _
  clear h0 h1 h2 l0 l1 l2 eP eH h6 h17
  go_enter Try.func41, Try.ntmps41
  go_wp2_with fail
  refine wp_region_noPanic ?_
  refine wp_region_held_drew (S := fun w' => Blk w' w.heap.size 38 #[.int .i64 x.t.fam, .int .i64 x.t.pr, .int .i64 x.t.s.fam, .int .u64 x.t.s.hi, .int .u64 x.t.s.lo, .int .i64 x.t.d.fam, .int .u64 x.t.d.hi, .int .u64 x.t.d.lo, .int .i64 x.t.sp, .int .i64 x.t.dp, .int .i64 x.fl, .int .u32 x.sq, .int .u32 x.ak, .int .i64 x.wn, .int .i64 x.ty, .int .i64 x.cd, .bool x.er, .int .i64 x.inn.fam, .int .i64 x.inn.pr, .int .i64 x.inn.s.fam, .int .u64 x.inn.s.hi, .int .u64 x.inn.s.lo, .int .i64 x.inn.d.fam, .int .u64 x.inn.d.hi, .int .u64 x.inn.d.lo, .int .i64 x.inn.sp, .int .i64 x.inn.dp, .slice a x.data.length c] ∧ w'.cell? ⟨w.heap.size, 27, none⟩ = some (.slice a x.data.length c)) (by kernel_rfl) (by exact ⟨B1.drew, d27⟩) (fun hHeld => ?_)
  refine wpAnyH_take (i := 0) (oi := { dst := some 35, op := Op.fieldAddr 38 (.tmp 1) 0, type := 0, pos := "build.go:51", after := #[], guard := none }) (v := (.pointer (some ⟨w.heap.size, 0, none⟩))) rfl (by kernel_rfl) (by kernel_rfl) (by kernel_rfl) (fun _ _ _ h => h) (Or.inl ⟨by rfl, ?_⟩) hHeld ?_
  · intro w9 hSw
    try dsimp only at hSw
    go_simp
  try simp only [Act.put, List.setIfInBounds_toArray, List.set_cons_zero, List.set_cons_succ]
  refine wpAnyH_take (i := 1) (oi := { dst := some 36, op := Op.load 26 (.tmp 35), type := 26, pos := "build.go:51", after := #[{ on := 0, ground := Ground.data }], guard := none }) (v := (.agg #[.int .i64 x.t.fam, .int .i64 x.t.pr, .int .i64 x.t.s.fam, .int .u64 x.t.s.hi, .int .u64 x.t.s.lo, .int .i64 x.t.d.fam, .int .u64 x.t.d.hi, .int .u64 x.t.d.lo, .int .i64 x.t.sp, .int .i64 x.t.dp])) rfl (by kernel_rfl) (by kernel_rfl) (by kernel_rfl) (fun _ _ _ h => h) (yieldsIf_sub rfl _ _ rfl w.heap.size 0 38 (by rfl) _ _ (fun _ hSw => hSw.1) (by rfl) Try.underlying26 (by kernel_rfl)) hHeld ?_
  try simp only [Act.put, List.setIfInBounds_toArray, List.set_cons_zero, List.set_cons_succ]
  refine wpAnyH_take (i := 3) (oi := { dst := some 38, op := Op.fieldAddr 38 (.tmp 1) 9, type := 0, pos := "build.go:51", after := #[], guard := none }) (v := (.pointer (some ⟨w.heap.size, 27, none⟩))) rfl (by kernel_rfl) (by kernel_rfl) (by kernel_rfl) (fun _ _ _ h => h) (Or.inl ⟨by rfl, ?_⟩) hHeld ?_
  · intro w9 hSw
    try dsimp only at hSw
    go_simp
  try simp only [Act.put, List.setIfInBounds_toArray, List.set_cons_zero, List.set_cons_succ]
  refine wpAnyH_take (i := 4) (oi := { dst := some 39, op := Op.load 28 (.tmp 38), type := 28, pos := "build.go:51", after := #[{ on := 3, ground := Ground.data }], guard := none }) (v := (.slice a x.data.length c)) rfl (by kernel_rfl) (by kernel_rfl) (by kernel_rfl) (fun _ _ _ h => h) (Or.inl ⟨by rfl, ?_⟩) hHeld ?_
  · intro w9 hSw
    try dsimp only at hSw
    go_simp
  try simp only [Act.put, List.setIfInBounds_toArray, List.set_cons_zero, List.set_cons_succ]
  refine wpAnyH_take (i := 5) (oi := { dst := some 40, op := Op.call { callee := Callee.builtin Builtin.len, args := #[.tmp 39], argTypes := #[28] }, type := 3, pos := "build.go:51", after := #[{ on := 4, ground := Ground.data }], guard := none }) (v := (.int .i64 (x.data.length : Int))) rfl (by kernel_rfl) (by kernel_rfl) (by kernel_rfl) (fun _ _ _ h => h) (Or.inl ⟨by rfl, ?_⟩) hHeld ?_
  · intro w9 hSw
    try dsimp only at hSw
    go_simp
  try simp only [Act.put, List.setIfInBounds_toArray, List.set_cons_zero, List.set_cons_succ]
  refine wpAnyH_take (i := 6) (oi := { dst := some 41, op := Op.binOp BinOp.add 3 (.const (.int .i64 8)) (.tmp 40) 3, type := 3, pos := "build.go:51", after := #[{ on := 5, ground := Ground.data }], guard := none }) (v := (.int .i64 (8 + (x.data.length : Int)))) rfl (by kernel_rfl) (by kernel_rfl) (by kernel_rfl) (fun _ _ _ h => h) (Or.inl ⟨by rfl, ?_⟩) hHeld ?_
  · intro w9 hSw
    try dsimp only at hSw
    go_simp
  try simp only [Act.put, List.setIfInBounds_toArray, List.set_cons_zero, List.set_cons_succ]
  have B1x := B1.drew
  have b1x := b1.drew
  obtain ⟨W1x, hW1x⟩ : ∃ W, W1.drew = W := ⟨_, rfl⟩
  rw [hW1x] at B1x b1x s0 ⊢
  clear hW1x
  refine wpAnyH_ready (rs := [2, 8]) (by kernel_rfl) (by simp) ?_
  refine (AllReadyH.cons (o := { dst := some 37, op := Op.call { callee := Callee.value (.func 63), args := #[.tmp 36], argTypes := #[26] }, type := 28, pos := "build.go:51", after := #[{ on := 1, ground := Ground.data }], guard := none }) rfl (fun K hK => ?_) (AllReadyH.cons (o := { dst := some 43, op := Op.buildSlice 28 2 #[(0, .const (.int .u8 0)), (1, .const (.int .u8 0))], type := 28, pos := "build.go:51", after := #[], guard := none }) rfl (fun K hK => ?_) AllReadyH.nil))
  · go_simp
    refine Calls.mono (KP.out _) ?_
    rintro e W2 ⟨a2, c2, rfl, f2⟩
    have B2 := B1x.kept f2.below
    have b2 : Below w.heap.size w W2 := b1x.trans (f2.below.mono b1x.size)
    have s2 : W1.heap.size ≤ W2.heap.size := Nat.le_trans s0 f2.below.size
    refine hK.out _ _ (by exact ⟨B2, HC.out _ B2⟩) (fun hHeld => ?_)
    clear hK K
    try simp only [Act.put, List.setIfInBounds_toArray, List.set_cons_zero, List.set_cons_succ]
    refine wpAnyH_ready (rs := [7, 8]) (by kernel_rfl) (by simp) ?_
    refine (AllReadyH.cons (o := { dst := some 42, op := Op.call { callee := Callee.value (.func 26), args := #[.tmp 37, .tmp 41], argTypes := #[28, 3] }, type := 28, pos := "build.go:51", after := #[{ on := 2, ground := Ground.data }, { on := 6, ground := Ground.data }, { on := 2, ground := Ground.chain }], guard := none }) rfl (fun K hK => ?_) (AllReadyH.cons (o := { dst := some 43, op := Op.buildSlice 28 2 #[(0, .const (.int .u8 0)), (1, .const (.int .u8 0))], type := 28, pos := "build.go:51", after := #[], guard := none }) rfl (fun K hK => ?_) AllReadyH.nil))
    · go_simp
      refine Calls.mono (K1.out _ _ _ f2.row f2.nil) ?_
      rintro e W3 ⟨a3, c3, rfl, f3⟩
      have B3 := B2.kept f3.below
      have b3 : Below w.heap.size w W3 := b2.trans (f3.below.mono b2.size)
      have s3 : W1.heap.size ≤ W3.heap.size := Nat.le_trans s2 f3.below.size
      have O3 := owns_le (B' := W1.heap.size) s2 f3.owns
      have y3 := f3.row.bytes
      refine hK.out _ _ (by exact ⟨B3, HC.out _ B3⟩) (fun hHeld => ?_)
      clear hK K
      try simp only [Act.put, List.setIfInBounds_toArray, List.set_cons_zero, List.set_cons_succ]
      refine wpAnyH_ready (rs := [8]) (by kernel_rfl) (by simp) ?_
      refine AllReadyH.cons (o := { dst := some 43, op := Op.buildSlice 28 2 #[(0, .const (.int .u8 0)), (1, .const (.int .u8 0))], type := 28, pos := "build.go:51", after := #[], guard := none }) rfl (fun K hK => ?_) AllReadyH.nil
      obtain ⟨W4, hA⟩ : ∃ W, W3.alloc (.cells #[.int .u8 0, .int .u8 0] 5) = W := ⟨_, rfl⟩
      have b4 : Below w.heap.size w W4 := by rw [← hA]; exact b3.alloc b3.size _
      have B4 := B3.alloc (.cells #[.int .u8 0, .int .u8 0] 5)
      have q4 := row_at W3 5 [0, 0] W3.heap.size rfl (by simp) bytes_00
      have s4 : W1.heap.size ≤ W4.heap.size := by rw [← hA]; simp only [World.size_alloc]; omega
      have al4 : Below W3.heap.size W3 W4 := by rw [← hA]; exact (Below.refl _ _).alloc (Nat.le_refl _) _
      have O4 := O3.alloc (.cells #[.int .u8 0, .int .u8 0] 5)
      rw [hA] at O4
      go_simp
      replace q4 : Row W4 (some ⟨W3.heap.size, 0, none⟩) [0, 0] := by rw [← hA]; exact q4
      rw [hA] at B4
      obtain ⟨G, hG⟩ : ∃ G, W3.heap.size = G := ⟨_, rfl⟩
      rw [hG] at q4 ⊢
      refine hK.out _ _ (by exact ⟨B4, HC.out _ B4⟩) (fun hHeld => ?_)
      clear hK K hG hA
      try simp only [Act.put, List.setIfInBounds_toArray, List.set_cons_zero, List.set_cons_succ]
      refine wpAnyH_ready (rs := [9]) (by kernel_rfl) (by simp) ?_
      refine AllReadyH.cons (o := { dst := some 44, op := Op.call { callee := Callee.builtin Builtin.append, args := #[.tmp 42, .tmp 43], argTypes := #[28, 28] }, type := 28, pos := "build.go:51", after := #[{ on := 7, ground := Ground.data }, { on := 8, ground := Ground.data }, { on := 7, ground := Ground.chain }], guard := none }) rfl (fun K hK => ?_) AllReadyH.nil
      refine step_app2 _ rfl _ _ rfl W1.heap.size _ L1 rfl O4 y3 _ 2 2 [0, 0] (by rfl) rfl q4 (fun hh => by cases hh) L2 HL2.out (by omega) s4 ?_
      intro a9 c9 W9 O9 rm9 nl9 r9 bb
      have b9 : Below w.heap.size w W9 := b4.trans (bb.mono b1.size)
      have B9 := B4.below bb g1
      refine hK.out _ _ (by exact ⟨B9, HC.out _ B9⟩) (fun hHeld => ?_)
      clear hK K
      try simp only [Act.put, List.setIfInBounds_toArray, List.set_cons_zero, List.set_cons_succ]
      refine wpAnyH_take (i := 10) (oi := { dst := some 2, op := Op.assign (.tmp 44), type := 28, pos := "build.go:51", after := #[{ on := 9, ground := Ground.data }, { on := 9, ground := Ground.chain }, { on := 0, ground := Ground.phase }, { on := 1, ground := Ground.phase }, { on := 2, ground := Ground.phase }, { on := 3, ground := Ground.phase }, { on := 4, ground := Ground.phase }, { on := 5, ground := Ground.phase }, { on := 6, ground := Ground.phase }, { on := 7, ground := Ground.phase }, { on := 8, ground := Ground.phase }, { on := 9, ground := Ground.phase }], guard := none }) (v := (.slice a9 L2.length c9)) rfl (by kernel_rfl) (by kernel_rfl) (by kernel_rfl) (fun _ _ _ h => h) (Or.inl ⟨by rfl, ?_⟩) hHeld ?_
      · intro w9 hSw
        try dsimp only at hSw
        go_simp
      try simp only [Act.put, List.setIfInBounds_toArray, List.set_cons_zero, List.set_cons_succ]
      refine wpAnyH_take (i := 11) (oi := { dst := some 3, op := Op.assign (.const (.int .i64 6)), type := 3, pos := "build.go:51", after := #[{ on := 10, ground := Ground.chain }, { on := 0, ground := Ground.phase }, { on := 1, ground := Ground.phase }, { on := 2, ground := Ground.phase }, { on := 3, ground := Ground.phase }, { on := 4, ground := Ground.phase }, { on := 5, ground := Ground.phase }, { on := 6, ground := Ground.phase }, { on := 7, ground := Ground.phase }, { on := 8, ground := Ground.phase }, { on := 9, ground := Ground.phase }, { on := 10, ground := Ground.phase }], guard := none }) (v := (.int .i64 6)) rfl (by kernel_rfl) (by kernel_rfl) (by kernel_rfl) (fun _ _ _ h => h) (Or.inl ⟨by rfl, ?_⟩) hHeld ?_
      · intro w9 hSw
        try dsimp only at hSw
        go_simp
      try simp only [Act.put, List.setIfInBounds_toArray, List.set_cons_zero, List.set_cons_succ]
      refine wpAnyH_done (by kernel_rfl) ?_ _
      refine NoPanic.normal ?_
      go_wp2
      go_ret2
      exact ⟨a9, c9, rfl, owns_le b1.size O9, rm9, nl9, r9, b9⟩
    · obtain ⟨W3, hA⟩ : ∃ W, W2.alloc (.cells #[.int .u8 0, .int .u8 0] 5) = W := ⟨_, rfl⟩
      have b3 : Below w.heap.size w W3 := by rw [← hA]; exact b2.alloc b2.size _
      have B3 := B2.alloc (.cells #[.int .u8 0, .int .u8 0] 5)
      have q3 := row_at W2 5 [0, 0] W2.heap.size rfl (by simp) bytes_00
      have s3 : W1.heap.size ≤ W3.heap.size := by rw [← hA]; simp only [World.size_alloc]; omega
      have al3 : Below W2.heap.size W2 W3 := by rw [← hA]; exact (Below.refl _ _).alloc (Nat.le_refl _) _
      go_simp
      replace q3 : Row W3 (some ⟨W2.heap.size, 0, none⟩) [0, 0] := by rw [← hA]; exact q3
      rw [hA] at B3
      obtain ⟨G, hG⟩ : ∃ G, W2.heap.size = G := ⟨_, rfl⟩
      rw [hG] at q3 ⊢
      refine hK.out _ _ (by exact ⟨B3, HC.out _ B3⟩) (fun hHeld => ?_)
      clear hK K hG hA
      try simp only [Act.put, List.setIfInBounds_toArray, List.set_cons_zero, List.set_cons_succ]
      refine wpAnyH_ready (rs := [7]) (by kernel_rfl) (by simp) ?_
      refine AllReadyH.cons (o := { dst := some 42, op := Op.call { callee := Callee.value (.func 26), args := #[.tmp 37, .tmp 41], argTypes := #[28, 3] }, type := 28, pos := "build.go:51", after := #[{ on := 2, ground := Ground.data }, { on := 6, ground := Ground.data }, { on := 2, ground := Ground.chain }], guard := none }) rfl (fun K hK => ?_) AllReadyH.nil
      go_simp
      refine Calls.mono (K1.out _ _ _ (f2.row.below al3) f2.nil) ?_
      rintro e W4 ⟨a4, c4, rfl, f4⟩
      have B4 := B3.kept f4.below
      have b4 : Below w.heap.size w W4 := b3.trans (f4.below.mono b3.size)
      have s4 : W1.heap.size ≤ W4.heap.size := Nat.le_trans s3 f4.below.size
      have O4 := owns_le (B' := W1.heap.size) s3 f4.owns
      have y4 := f4.row.bytes
      have q4 := q3.below f4.below
      refine hK.out _ _ (by exact ⟨B4, HC.out _ B4⟩) (fun hHeld => ?_)
      clear hK K
      try simp only [Act.put, List.setIfInBounds_toArray, List.set_cons_zero, List.set_cons_succ]
      refine wpAnyH_ready (rs := [9]) (by kernel_rfl) (by simp) ?_
      refine AllReadyH.cons (o := { dst := some 44, op := Op.call { callee := Callee.builtin Builtin.append, args := #[.tmp 42, .tmp 43], argTypes := #[28, 28] }, type := 28, pos := "build.go:51", after := #[{ on := 7, ground := Ground.data }, { on := 8, ground := Ground.data }, { on := 7, ground := Ground.chain }], guard := none }) rfl (fun K hK => ?_) AllReadyH.nil
      refine step_app2 _ rfl _ _ rfl W1.heap.size _ L1 rfl O4 y4 _ 2 2 [0, 0] (by rfl) rfl q4 (fun hh => by cases hh) L2 HL2.out (by omega) s4 ?_
      intro a9 c9 W9 O9 rm9 nl9 r9 bb
      have b9 : Below w.heap.size w W9 := b4.trans (bb.mono b1.size)
      have B9 := B4.below bb g1
      refine hK.out _ _ (by exact ⟨B9, HC.out _ B9⟩) (fun hHeld => ?_)
      clear hK K
      try simp only [Act.put, List.setIfInBounds_toArray, List.set_cons_zero, List.set_cons_succ]
      refine wpAnyH_take (i := 10) (oi := { dst := some 2, op := Op.assign (.tmp 44), type := 28, pos := "build.go:51", after := #[{ on := 9, ground := Ground.data }, { on := 9, ground := Ground.chain }, { on := 0, ground := Ground.phase }, { on := 1, ground := Ground.phase }, { on := 2, ground := Ground.phase }, { on := 3, ground := Ground.phase }, { on := 4, ground := Ground.phase }, { on := 5, ground := Ground.phase }, { on := 6, ground := Ground.phase }, { on := 7, ground := Ground.phase }, { on := 8, ground := Ground.phase }, { on := 9, ground := Ground.phase }], guard := none }) (v := (.slice a9 L2.length c9)) rfl (by kernel_rfl) (by kernel_rfl) (by kernel_rfl) (fun _ _ _ h => h) (Or.inl ⟨by rfl, ?_⟩) hHeld ?_
      · intro w9 hSw
        try dsimp only at hSw
        go_simp
      try simp only [Act.put, List.setIfInBounds_toArray, List.set_cons_zero, List.set_cons_succ]
      refine wpAnyH_take (i := 11) (oi := { dst := some 3, op := Op.assign (.const (.int .i64 6)), type := 3, pos := "build.go:51", after := #[{ on := 10, ground := Ground.chain }, { on := 0, ground := Ground.phase }, { on := 1, ground := Ground.phase }, { on := 2, ground := Ground.phase }, { on := 3, ground := Ground.phase }, { on := 4, ground := Ground.phase }, { on := 5, ground := Ground.phase }, { on := 6, ground := Ground.phase }, { on := 7, ground := Ground.phase }, { on := 8, ground := Ground.phase }, { on := 9, ground := Ground.phase }, { on := 10, ground := Ground.phase }], guard := none }) (v := (.int .i64 6)) rfl (by kernel_rfl) (by kernel_rfl) (by kernel_rfl) (fun _ _ _ h => h) (Or.inl ⟨by rfl, ?_⟩) hHeld ?_
      · intro w9 hSw
        try dsimp only at hSw
        go_simp
      try simp only [Act.put, List.setIfInBounds_toArray, List.set_cons_zero, List.set_cons_succ]
      refine wpAnyH_done (by kernel_rfl) ?_ _
      refine NoPanic.normal ?_
      go_wp2
      go_ret2
      exact ⟨a9, c9, rfl, owns_le b1.size O9, rm9, nl9, r9, b9⟩
  · obtain ⟨W2, hA⟩ : ∃ W, W1x.alloc (.cells #[.int .u8 0, .int .u8 0] 5) = W := ⟨_, rfl⟩
    have b2 : Below w.heap.size w W2 := by rw [← hA]; exact b1x.alloc b1x.size _
    have B2 := B1x.alloc (.cells #[.int .u8 0, .int .u8 0] 5)
    have q2 := row_at W1x 5 [0, 0] W1x.heap.size rfl (by simp) bytes_00
    have s2 : W1.heap.size ≤ W2.heap.size := by rw [← hA]; simp only [World.size_alloc]; omega
    have al2 : Below W1x.heap.size W1x W2 := by rw [← hA]; exact (Below.refl _ _).alloc (Nat.le_refl _) _
    go_simp
    replace q2 : Row W2 (some ⟨W1x.heap.size, 0, none⟩) [0, 0] := by rw [← hA]; exact q2
    rw [hA] at B2
    obtain ⟨G, hG⟩ : ∃ G, W1x.heap.size = G := ⟨_, rfl⟩
    rw [hG] at q2 ⊢
    refine hK.out _ _ (by exact ⟨B2, HC.out _ B2⟩) (fun hHeld => ?_)
    clear hK K hG hA
    try simp only [Act.put, List.setIfInBounds_toArray, List.set_cons_zero, List.set_cons_succ]
    refine wpAnyH_ready (rs := [2]) (by kernel_rfl) (by simp) ?_
    refine AllReadyH.cons (o := { dst := some 37, op := Op.call { callee := Callee.value (.func 63), args := #[.tmp 36], argTypes := #[26] }, type := 28, pos := "build.go:51", after := #[{ on := 1, ground := Ground.data }], guard := none }) rfl (fun K hK => ?_) AllReadyH.nil
    go_simp
    refine Calls.mono (KP.out _) ?_
    rintro e W3 ⟨a3, c3, rfl, f3⟩
    have B3 := B2.kept f3.below
    have b3 : Below w.heap.size w W3 := b2.trans (f3.below.mono b2.size)
    have s3 : W1.heap.size ≤ W3.heap.size := Nat.le_trans s2 f3.below.size
    have q3 := q2.below f3.below
    refine hK.out _ _ (by exact ⟨B3, HC.out _ B3⟩) (fun hHeld => ?_)
    clear hK K
    try simp only [Act.put, List.setIfInBounds_toArray, List.set_cons_zero, List.set_cons_succ]
    refine wpAnyH_ready (rs := [7]) (by kernel_rfl) (by simp) ?_
    refine AllReadyH.cons (o := { dst := some 42, op := Op.call { callee := Callee.value (.func 26), args := #[.tmp 37, .tmp 41], argTypes := #[28, 3] }, type := 28, pos := "build.go:51", after := #[{ on := 2, ground := Ground.data }, { on := 6, ground := Ground.data }, { on := 2, ground := Ground.chain }], guard := none }) rfl (fun K hK => ?_) AllReadyH.nil
    go_simp
    refine Calls.mono (K1.out _ _ _ f3.row f3.nil) ?_
    rintro e W4 ⟨a4, c4, rfl, f4⟩
    have B4 := B3.kept f4.below
    have b4 : Below w.heap.size w W4 := b3.trans (f4.below.mono b3.size)
    have s4 : W1.heap.size ≤ W4.heap.size := Nat.le_trans s3 f4.below.size
    have O4 := owns_le (B' := W1.heap.size) s3 f4.owns
    have y4 := f4.row.bytes
    have q4 := q3.below f4.below
    refine hK.out _ _ (by exact ⟨B4, HC.out _ B4⟩) (fun hHeld => ?_)
    clear hK K
    try simp only [Act.put, List.setIfInBounds_toArray, List.set_cons_zero, List.set_cons_succ]
    refine wpAnyH_ready (rs := [9]) (by kernel_rfl) (by simp) ?_
    refine AllReadyH.cons (o := { dst := some 44, op := Op.call { callee := Callee.builtin Builtin.append, args := #[.tmp 42, .tmp 43], argTypes := #[28, 28] }, type := 28, pos := "build.go:51", after := #[{ on := 7, ground := Ground.data }, { on := 8, ground := Ground.data }, { on := 7, ground := Ground.chain }], guard := none }) rfl (fun K hK => ?_) AllReadyH.nil
    refine step_app2 _ rfl _ _ rfl W1.heap.size _ L1 rfl O4 y4 _ 2 2 [0, 0] (by rfl) rfl q4 (fun hh => by cases hh) L2 HL2.out (by omega) s4 ?_
    intro a9 c9 W9 O9 rm9 nl9 r9 bb
    have b9 : Below w.heap.size w W9 := b4.trans (bb.mono b1.size)
    have B9 := B4.below bb g1
    refine hK.out _ _ (by exact ⟨B9, HC.out _ B9⟩) (fun hHeld => ?_)
    clear hK K
    try simp only [Act.put, List.setIfInBounds_toArray, List.set_cons_zero, List.set_cons_succ]
    refine wpAnyH_take (i := 10) (oi := { dst := some 2, op := Op.assign (.tmp 44), type := 28, pos := "build.go:51", after := #[{ on := 9, ground := Ground.data }, { on := 9, ground := Ground.chain }, { on := 0, ground := Ground.phase }, { on := 1, ground := Ground.phase }, { on := 2, ground := Ground.phase }, { on := 3, ground := Ground.phase }, { on := 4, ground := Ground.phase }, { on := 5, ground := Ground.phase }, { on := 6, ground := Ground.phase }, { on := 7, ground := Ground.phase }, { on := 8, ground := Ground.phase }, { on := 9, ground := Ground.phase }], guard := none }) (v := (.slice a9 L2.length c9)) rfl (by kernel_rfl) (by kernel_rfl) (by kernel_rfl) (fun _ _ _ h => h) (Or.inl ⟨by rfl, ?_⟩) hHeld ?_
    · intro w9 hSw
      try dsimp only at hSw
      go_simp
    try simp only [Act.put, List.setIfInBounds_toArray, List.set_cons_zero, List.set_cons_succ]
    refine wpAnyH_take (i := 11) (oi := { dst := some 3, op := Op.assign (.const (.int .i64 6)), type := 3, pos := "build.go:51", after := #[{ on := 10, ground := Ground.chain }, { on := 0, ground := Ground.phase }, { on := 1, ground := Ground.phase }, { on := 2, ground := Ground.phase }, { on := 3, ground := Ground.phase }, { on := 4, ground := Ground.phase }, { on := 5, ground := Ground.phase }, { on := 6, ground := Ground.phase }, { on := 7, ground := Ground.phase }, { on := 8, ground := Ground.phase }, { on := 9, ground := Ground.phase }, { on := 10, ground := Ground.phase }], guard := none }) (v := (.int .i64 6)) rfl (by kernel_rfl) (by kernel_rfl) (by kernel_rfl) (fun _ _ _ h => h) (Or.inl ⟨by rfl, ?_⟩) hHeld ?_
    · intro w9 hSw
      try dsimp only at hSw
      go_simp
    try simp only [Act.put, List.setIfInBounds_toArray, List.set_cons_zero, List.set_cons_succ]
    refine wpAnyH_done (by kernel_rfl) ?_ _
    refine NoPanic.normal ?_
    go_wp2
    go_ret2
    exact ⟨a9, c9, rfl, owns_le b1.size O9, rm9, nl9, r9, b9⟩

set_option maxRecDepth 100000 in
set_option maxHeartbeats 4000000 in
theorem written_echo (x : Sg) (a : Option Addr) (c : Nat) (w : World) (hsq : 0 ≤ x.sq ∧ x.sq ≤ 4294967295) (hak : 0 ≤ x.ak ∧ x.ak ≤ 4294967295) (hdl : x.data.length ≤ 140737488355328) (h6 : ¬ x.t.pr = 6) (h17 : ¬ x.t.pr = 17) (he : isEcho x.t.fam x.ty = true) :
    Calls Try.prog 41 #[.agg #[.int .i64 x.t.fam, .int .i64 x.t.pr, .int .i64 x.t.s.fam, .int .u64 x.t.s.hi, .int .u64 x.t.s.lo, .int .i64 x.t.d.fam, .int .u64 x.t.d.hi, .int .u64 x.t.d.lo, .int .i64 x.t.sp, .int .i64 x.t.dp, .int .i64 x.fl, .int .u32 x.sq, .int .u32 x.ak, .int .i64 x.wn, .int .i64 x.ty, .int .i64 x.cd, .bool x.er, .int .i64 x.inn.fam, .int .i64 x.inn.pr, .int .i64 x.inn.s.fam, .int .u64 x.inn.s.hi, .int .u64 x.inn.s.lo, .int .i64 x.inn.d.fam, .int .u64 x.inn.d.hi, .int .u64 x.inn.d.lo, .int .i64 x.inn.sp, .int .i64 x.inn.dp, .slice a x.data.length c]] w fun e w' => ∃ a' c', e = .returned (.tuple #[.slice a' (headB x).length c', .int .i64 (placeB x : Nat)]) ∧ Fresh w w' a' c' (headB x) := by
  obtain ⟨W1, hW1⟩ : ∃ W1, w.alloc (.cells #[.int .i64 x.t.fam, .int .i64 x.t.pr, .int .i64 x.t.s.fam, .int .u64 x.t.s.hi, .int .u64 x.t.s.lo, .int .i64 x.t.d.fam, .int .u64 x.t.d.hi, .int .u64 x.t.d.lo, .int .i64 x.t.sp, .int .i64 x.t.dp, .int .i64 x.fl, .int .u32 x.sq, .int .u32 x.ak, .int .i64 x.wn, .int .i64 x.ty, .int .i64 x.cd, .bool x.er, .int .i64 x.inn.fam, .int .i64 x.inn.pr, .int .i64 x.inn.s.fam, .int .u64 x.inn.s.hi, .int .u64 x.inn.s.lo, .int .i64 x.inn.d.fam, .int .u64 x.inn.d.hi, .int .u64 x.inn.d.lo, .int .i64 x.inn.sp, .int .i64 x.inn.dp, .slice a x.data.length c] 38) = W1 := ⟨_, rfl⟩
  have b1 : Below w.heap.size w W1 := by rw [← hW1]; exact (Below.refl _ _).alloc (Nat.le_refl _) _
  have B1 : Blk W1 w.heap.size 38 #[.int .i64 x.t.fam, .int .i64 x.t.pr, .int .i64 x.t.s.fam, .int .u64 x.t.s.hi, .int .u64 x.t.s.lo, .int .i64 x.t.d.fam, .int .u64 x.t.d.hi, .int .u64 x.t.d.lo, .int .i64 x.t.sp, .int .i64 x.t.dp, .int .i64 x.fl, .int .u32 x.sq, .int .u32 x.ak, .int .i64 x.wn, .int .i64 x.ty, .int .i64 x.cd, .bool x.er, .int .i64 x.inn.fam, .int .i64 x.inn.pr, .int .i64 x.inn.s.fam, .int .u64 x.inn.s.hi, .int .u64 x.inn.s.lo, .int .i64 x.inn.d.fam, .int .u64 x.inn.d.hi, .int .u64 x.inn.d.lo, .int .i64 x.inn.sp, .int .i64 x.inn.dp, .slice a x.data.length c] := by rw [← hW1]; exact blk_new _ _ _
  have g1 : w.heap.size < W1.heap.size := B1.lt
  have d1 := B1.cell 1 (.int .i64 x.t.pr) rfl
  have KP : Hid _ := portBytes_any x
  have d0 := B1.cell 0 (.int .i64 x.t.fam) rfl
  have d8 := B1.cell 8 (.int .i64 x.t.sp) rfl
  have d14 := B1.cell 14 (.int .i64 x.ty) rfl
  have d15 := B1.cell 15 (.int .i64 x.cd) rfl
  have e6 : (x.t.pr == 6) = false := by simpa using h6
  have e17 : (x.t.pr == 17) = false := by simpa using h17
  have eP : placeB x = 2 := by unfold placeB; rw [if_neg h6, if_neg h17]
  have eH : headB x = put16 [x.ty % 256, x.cd % 256, 0, 0] x.t.sp ++ [0, 0] := by unfold headB; rw [if_neg h6, if_neg h17, he]; rfl
  rw [eP, eH]
  obtain ⟨L1, h1⟩ : ∃ L, put16 [x.ty % 256, x.cd % 256, 0, 0] x.t.sp = L := ⟨_, rfl⟩
  have l1 : L1.length = 6 := by rw [← h1]; simp [put16]
  obtain ⟨L2, h2⟩ : ∃ L, L1 ++ [0, 0] = L := ⟨_, rfl⟩
  have l2 : L2.length = 8 := by rw [← h2]; simp [l1]
  rw [h1, h2]
  have K1 : Hid (∀ W a c, Row W a [x.ty % 256, x.cd % 256, 0, 0] → (a = none → c = 0) → Calls Try.prog 26 #[.slice a 4 c, .int .i64 x.t.sp] W fun e w' => ∃ a' c', e = .returned (.slice a' L1.length c') ∧ Fresh W w' a' c' L1) := fun W a c hr hn => by
    have := put16_any a c [x.ty % 256, x.cd % 256, 0, 0] x.t.sp W hr hn (by simp)
    rw [h1] at this
    exact this
  have KE : Hid (∀ W, Calls Try.prog 64 #[.int .i64 x.t.fam, .int .i64 x.ty] W fun e w' => e = .returned (.bool true) ∧ w' = W) := fun W => by
    have := isEcho_any x.t.fam x.ty W
    rw [he] at this
    exact this
  have HL2 : Hid (L1 ++ [0, 0] = L2) := h2
  have l2' : L2.length ≤ 8 := by omega
  have wty := wrapU8 x.ty
  have wcd := wrapU8 x.cd
  clear h1 h2 l1 l2 eP eH h6 h17 he KP
  go_enter Try.func41, Try.ntmps41
  go_wp2_with fail
  refine Calls.mono (KE.out _) ?_
  rintro e W2 ⟨rfl, hW2⟩
  rw [hW2]
  clear hW2 W2 KE
  go_wp2_with fail
  refine Calls.mono (K1.out _ _ _ (row_at W1 5 [x.ty % 256, x.cd % 256, 0, 0] W1.heap.size rfl (by simp) (bytes_icmp x.ty x.cd)) (fun hh => by cases hh)) ?_
  rintro e W7 ⟨a7, c7, rfl, f7⟩
  have bx := b1.alloc b1.size (.cells #[.int .u8 (x.ty % 256), .int .u8 (x.cd % 256), .int .u8 0, .int .u8 0] 5)
  have b7 : Below w.heap.size w W7 := bx.trans (f7.below.mono bx.size)
  have OW := owns_le bx.size f7.owns
  have rb := f7.row.bytes
  clear K1 f7 bx B1 d0 d8 d14 d15 d1 hW1
  go_wp2_with (at_builtin; refine wpList_app2 _ rfl _ _ rfl w.heap.size _ L1 rfl (OW.alloc _) rb _ 2 [0, 0] rfl ?row (fun hh => by cases hh) L2 HL2.out ?c1 ?c2 ?_)
  case row => exact row_at W7 5 [0, 0] W7.heap.size rfl (by simp) bytes_00
  case c1 => omega
  case c2 => exact Nat.le_trans b7.size (by simp)
  intro a8 c8 W8 o8 rm8 nl8 r8 bb _
  have b8 : Below w.heap.size w W8 := (b7.alloc b7.size _).trans bb
  go_wp2
  go_ret2
  exact ⟨a8, c8, rfl, o8, rm8, nl8, r8, b8⟩

set_option maxRecDepth 100000 in
set_option maxHeartbeats 4000000 in
theorem written_mute (x : Sg) (a : Option Addr) (c : Nat) (w : World) (hsq : 0 ≤ x.sq ∧ x.sq ≤ 4294967295) (hak : 0 ≤ x.ak ∧ x.ak ≤ 4294967295) (hdl : x.data.length ≤ 140737488355328) (h6 : ¬ x.t.pr = 6) (h17 : ¬ x.t.pr = 17) (he : isEcho x.t.fam x.ty = false) :
    Calls Try.prog 41 #[.agg #[.int .i64 x.t.fam, .int .i64 x.t.pr, .int .i64 x.t.s.fam, .int .u64 x.t.s.hi, .int .u64 x.t.s.lo, .int .i64 x.t.d.fam, .int .u64 x.t.d.hi, .int .u64 x.t.d.lo, .int .i64 x.t.sp, .int .i64 x.t.dp, .int .i64 x.fl, .int .u32 x.sq, .int .u32 x.ak, .int .i64 x.wn, .int .i64 x.ty, .int .i64 x.cd, .bool x.er, .int .i64 x.inn.fam, .int .i64 x.inn.pr, .int .i64 x.inn.s.fam, .int .u64 x.inn.s.hi, .int .u64 x.inn.s.lo, .int .i64 x.inn.d.fam, .int .u64 x.inn.d.hi, .int .u64 x.inn.d.lo, .int .i64 x.inn.sp, .int .i64 x.inn.dp, .slice a x.data.length c]] w fun e w' => ∃ a' c', e = .returned (.tuple #[.slice a' (headB x).length c', .int .i64 (placeB x : Nat)]) ∧ Fresh w w' a' c' (headB x) := by
  obtain ⟨W1, hW1⟩ : ∃ W1, w.alloc (.cells #[.int .i64 x.t.fam, .int .i64 x.t.pr, .int .i64 x.t.s.fam, .int .u64 x.t.s.hi, .int .u64 x.t.s.lo, .int .i64 x.t.d.fam, .int .u64 x.t.d.hi, .int .u64 x.t.d.lo, .int .i64 x.t.sp, .int .i64 x.t.dp, .int .i64 x.fl, .int .u32 x.sq, .int .u32 x.ak, .int .i64 x.wn, .int .i64 x.ty, .int .i64 x.cd, .bool x.er, .int .i64 x.inn.fam, .int .i64 x.inn.pr, .int .i64 x.inn.s.fam, .int .u64 x.inn.s.hi, .int .u64 x.inn.s.lo, .int .i64 x.inn.d.fam, .int .u64 x.inn.d.hi, .int .u64 x.inn.d.lo, .int .i64 x.inn.sp, .int .i64 x.inn.dp, .slice a x.data.length c] 38) = W1 := ⟨_, rfl⟩
  have b1 : Below w.heap.size w W1 := by rw [← hW1]; exact (Below.refl _ _).alloc (Nat.le_refl _) _
  have B1 : Blk W1 w.heap.size 38 #[.int .i64 x.t.fam, .int .i64 x.t.pr, .int .i64 x.t.s.fam, .int .u64 x.t.s.hi, .int .u64 x.t.s.lo, .int .i64 x.t.d.fam, .int .u64 x.t.d.hi, .int .u64 x.t.d.lo, .int .i64 x.t.sp, .int .i64 x.t.dp, .int .i64 x.fl, .int .u32 x.sq, .int .u32 x.ak, .int .i64 x.wn, .int .i64 x.ty, .int .i64 x.cd, .bool x.er, .int .i64 x.inn.fam, .int .i64 x.inn.pr, .int .i64 x.inn.s.fam, .int .u64 x.inn.s.hi, .int .u64 x.inn.s.lo, .int .i64 x.inn.d.fam, .int .u64 x.inn.d.hi, .int .u64 x.inn.d.lo, .int .i64 x.inn.sp, .int .i64 x.inn.dp, .slice a x.data.length c] := by rw [← hW1]; exact blk_new _ _ _
  have g1 : w.heap.size < W1.heap.size := B1.lt
  have d1 := B1.cell 1 (.int .i64 x.t.pr) rfl
  have KP : Hid _ := portBytes_any x
  have d0 := B1.cell 0 (.int .i64 x.t.fam) rfl
  have d8 := B1.cell 8 (.int .i64 x.t.sp) rfl
  have d14 := B1.cell 14 (.int .i64 x.ty) rfl
  have d15 := B1.cell 15 (.int .i64 x.cd) rfl
  have e6 : (x.t.pr == 6) = false := by simpa using h6
  have e17 : (x.t.pr == 17) = false := by simpa using h17
  have eP : placeB x = 2 := by unfold placeB; rw [if_neg h6, if_neg h17]
  have eH : headB x = put16 [x.ty % 256, x.cd % 256, 0, 0] 0 ++ [0, 0] := by unfold headB; rw [if_neg h6, if_neg h17, he]; rfl
  rw [eP, eH]
  obtain ⟨L1, h1⟩ : ∃ L, put16 [x.ty % 256, x.cd % 256, 0, 0] 0 = L := ⟨_, rfl⟩
  have l1 : L1.length = 6 := by rw [← h1]; simp [put16]
  obtain ⟨L2, h2⟩ : ∃ L, L1 ++ [0, 0] = L := ⟨_, rfl⟩
  have l2 : L2.length = 8 := by rw [← h2]; simp [l1]
  rw [h1, h2]
  have K1 : Hid (∀ W a c, Row W a [x.ty % 256, x.cd % 256, 0, 0] → (a = none → c = 0) → Calls Try.prog 26 #[.slice a 4 c, .int .i64 0] W fun e w' => ∃ a' c', e = .returned (.slice a' L1.length c') ∧ Fresh W w' a' c' L1) := fun W a c hr hn => by
    have := put16_any a c [x.ty % 256, x.cd % 256, 0, 0] 0 W hr hn (by simp)
    rw [h1] at this
    exact this
  have KE : Hid (∀ W, Calls Try.prog 64 #[.int .i64 x.t.fam, .int .i64 x.ty] W fun e w' => e = .returned (.bool false) ∧ w' = W) := fun W => by
    have := isEcho_any x.t.fam x.ty W
    rw [he] at this
    exact this
  have HL2 : Hid (L1 ++ [0, 0] = L2) := h2
  have l2' : L2.length ≤ 8 := by omega
  have wty := wrapU8 x.ty
  have wcd := wrapU8 x.cd
  clear h1 h2 l1 l2 eP eH h6 h17 he KP
  go_enter Try.func41, Try.ntmps41
  go_wp2_with fail
  refine Calls.mono (KE.out _) ?_
  rintro e W2 ⟨rfl, hW2⟩
  rw [hW2]
  clear hW2 W2 KE
  go_wp2_with fail
  refine Calls.mono (K1.out _ _ _ (row_at W1 5 [x.ty % 256, x.cd % 256, 0, 0] W1.heap.size rfl (by simp) (bytes_icmp x.ty x.cd)) (fun hh => by cases hh)) ?_
  rintro e W7 ⟨a7, c7, rfl, f7⟩
  have bx := b1.alloc b1.size (.cells #[.int .u8 (x.ty % 256), .int .u8 (x.cd % 256), .int .u8 0, .int .u8 0] 5)
  have b7 : Below w.heap.size w W7 := bx.trans (f7.below.mono bx.size)
  have OW := owns_le bx.size f7.owns
  have rb := f7.row.bytes
  clear K1 f7 bx B1 d0 d8 d14 d15 d1 hW1
  go_wp2_with (at_builtin; refine wpList_app2 _ rfl _ _ rfl w.heap.size _ L1 rfl (OW.alloc _) rb _ 2 [0, 0] rfl ?row (fun hh => by cases hh) L2 HL2.out ?c1 ?c2 ?_)
  case row => exact row_at W7 5 [0, 0] W7.heap.size rfl (by simp) bytes_00
  case c1 => omega
  case c2 => exact Nat.le_trans b7.size (by simp)
  intro a8 c8 W8 o8 rm8 nl8 r8 bb _
  have b8 : Below w.heap.size w W8 := (b7.alloc b7.size _).trans bb
  go_wp2
  go_ret2
  exact ⟨a8, c8, rfl, o8, rm8, nl8, r8, b8⟩

theorem written_any (x : Sg) (a : Option Addr) (c : Nat) (w : World) (hsq : 0 ≤ x.sq ∧ x.sq ≤ 4294967295) (hak : 0 ≤ x.ak ∧ x.ak ≤ 4294967295) (hdl : x.data.length ≤ 140737488355328) :
    Calls Try.prog 41 #[.agg #[.int .i64 x.t.fam, .int .i64 x.t.pr, .int .i64 x.t.s.fam, .int .u64 x.t.s.hi, .int .u64 x.t.s.lo, .int .i64 x.t.d.fam, .int .u64 x.t.d.hi, .int .u64 x.t.d.lo, .int .i64 x.t.sp, .int .i64 x.t.dp, .int .i64 x.fl, .int .u32 x.sq, .int .u32 x.ak, .int .i64 x.wn, .int .i64 x.ty, .int .i64 x.cd, .bool x.er, .int .i64 x.inn.fam, .int .i64 x.inn.pr, .int .i64 x.inn.s.fam, .int .u64 x.inn.s.hi, .int .u64 x.inn.s.lo, .int .i64 x.inn.d.fam, .int .u64 x.inn.d.hi, .int .u64 x.inn.d.lo, .int .i64 x.inn.sp, .int .i64 x.inn.dp, .slice a x.data.length c]] w fun e w' => ∃ a' c', e = .returned (.tuple #[.slice a' (headB x).length c', .int .i64 (placeB x : Nat)]) ∧ Fresh w w' a' c' (headB x) := by
  by_cases h6 : x.t.pr = 6
  · exact written_tcp x a c w hsq hak hdl h6
  by_cases h17 : x.t.pr = 17
  · exact written_udp x a c w hsq hak hdl h6 h17
  cases he : isEcho x.t.fam x.ty with
  | true => exact written_echo x a c w hsq hak hdl h6 h17 he
  | false => exact written_mute x a c w hsq hak hdl h6 h17 he

end Go.Proofs.Ytgdpcomcndidcaa

namespace Go.Proofs.Ytgdpcomcndidcaa
open Go.RowKit
set_option linter.unusedVariables false
set_option linter.unusedSimpArgs false

def bodyB (x : Sg) : List Int := headB x ++ x.data
def sumB (x : Sg) : Int := 65535 - M.sumOf [ahead x.t.s x.t.d x.t.pr (bodyB x).length, bodyB x]
def checkB (x : Sg) : Int := if sumB x = 0 ∧ x.t.pr = 17 then 65535 else sumB x
def madeB (x : Sg) : List Int := ((bodyB x).set (placeB x) (checkB x / 256)).set (placeB x + 1) (checkB x % 256)
theorem headB_len (x : Sg) : placeB x + 2 ≤ (headB x).length ∧ (headB x).length ≤ 20 := by
  unfold placeB headB
  split
  · simp [portB, put16, put32]
  · split <;> simp [portB, put16]
theorem sumB_bd (x : Sg) : 0 ≤ sumB x ∧ sumB x ≤ 65535 := by
  unfold sumB M.sumOf
  have := M.nf_bd (M.raw true [ahead x.t.s x.t.d x.t.pr (bodyB x).length, bodyB x].flatten)
  omega
theorem checkB_bd (x : Sg) : 0 ≤ checkB x ∧ checkB x ≤ 65535 := by
  unfold checkB
  split
  · omega
  · exact sumB_bd x
/-- A whole struct out of its block, where a guard asks for it. -/
theorem wpList_load_blk_w {ops : Array Oper} {rest : List Oper} {o : Oper} {ac : Act} {w : World} {Q : Exit → Act → World → Prop} (hw : Region.wanted o (yielded ops ac.tmps) = true) (ty : TypeId) (x : Operand) (ho : o.op = .load ty x)
    (g : Nat) (hx : ac.eval x = .pointer (some ⟨g, 0, none⟩)) (cs : Array Value) (hg : Blk w g ty cs) {fs : _} (hu : Try.prog.underlying ty = some (.struct fs)) (hi : (Try.prog.info? ty).map (·.size) = some cs.size)
    (h : wpList Try.prog ops Q rest (ac.put o.dst (.agg cs)) w) : wpList Try.prog ops Q (o :: rest) ac w :=
  wpList_step fun K hK => by rw [if_pos hw]; exact wp_load_row ty x ho g hx ty cs (0, 0) (.struct fs) hg hu rfl hi (hK _ _ h)
/-- The numbers of a segment lie in their kinds. -/
structure Sg.ok (x : Sg) : Prop where
  s : x.t.s.ok
  d : x.t.d.ok
  sq : 0 ≤ x.sq ∧ x.sq ≤ 4294967295
  ak : 0 ≤ x.ak ∧ x.ak ≤ 4294967295

set_option maxRecDepth 100000 in
set_option maxHeartbeats 4000000 in
theorem build_n1 (x : Sg) (a : Option Addr) (c : Nat) (w : World) (h : Row w a x.data) (hnil : a = none → c = 0) (ok : x.ok) (hE : endsB x.t.fam x.t.s x.t.d = false) :
    Calls Try.prog 19 #[.agg #[.int .i64 x.t.fam, .int .i64 x.t.pr, .int .i64 x.t.s.fam, .int .u64 x.t.s.hi, .int .u64 x.t.s.lo, .int .i64 x.t.d.fam, .int .u64 x.t.d.hi, .int .u64 x.t.d.lo, .int .i64 x.t.sp, .int .i64 x.t.dp, .int .i64 x.fl, .int .u32 x.sq, .int .u32 x.ak, .int .i64 x.wn, .int .i64 x.ty, .int .i64 x.cd, .bool x.er, .int .i64 x.inn.fam, .int .i64 x.inn.pr, .int .i64 x.inn.s.fam, .int .u64 x.inn.s.hi, .int .u64 x.inn.s.lo, .int .i64 x.inn.d.fam, .int .u64 x.inn.d.hi, .int .u64 x.inn.d.lo, .int .i64 x.inn.sp, .int .i64 x.inn.dp, .slice a x.data.length c]] w fun e w' => e = .returned (.tuple #[.slice none 0 0, .int .i64 1]) ∧ Below w.heap.size w w' := by
  obtain ⟨W1, hW1⟩ : ∃ W1, w.alloc (.cells #[.int .i64 x.t.fam, .int .i64 x.t.pr, .int .i64 x.t.s.fam, .int .u64 x.t.s.hi, .int .u64 x.t.s.lo, .int .i64 x.t.d.fam, .int .u64 x.t.d.hi, .int .u64 x.t.d.lo, .int .i64 x.t.sp, .int .i64 x.t.dp, .int .i64 x.fl, .int .u32 x.sq, .int .u32 x.ak, .int .i64 x.wn, .int .i64 x.ty, .int .i64 x.cd, .bool x.er, .int .i64 x.inn.fam, .int .i64 x.inn.pr, .int .i64 x.inn.s.fam, .int .u64 x.inn.s.hi, .int .u64 x.inn.s.lo, .int .i64 x.inn.d.fam, .int .u64 x.inn.d.hi, .int .u64 x.inn.d.lo, .int .i64 x.inn.sp, .int .i64 x.inn.dp, .slice a x.data.length c] 38) = W1 := ⟨_, rfl⟩
  have b1 : Below w.heap.size w W1 := by rw [← hW1]; exact (Below.refl _ _).alloc (Nat.le_refl _) _
  have B1 : Blk W1 w.heap.size 38 #[.int .i64 x.t.fam, .int .i64 x.t.pr, .int .i64 x.t.s.fam, .int .u64 x.t.s.hi, .int .u64 x.t.s.lo, .int .i64 x.t.d.fam, .int .u64 x.t.d.hi, .int .u64 x.t.d.lo, .int .i64 x.t.sp, .int .i64 x.t.dp, .int .i64 x.fl, .int .u32 x.sq, .int .u32 x.ak, .int .i64 x.wn, .int .i64 x.ty, .int .i64 x.cd, .bool x.er, .int .i64 x.inn.fam, .int .i64 x.inn.pr, .int .i64 x.inn.s.fam, .int .u64 x.inn.s.hi, .int .u64 x.inn.s.lo, .int .i64 x.inn.d.fam, .int .u64 x.inn.d.hi, .int .u64 x.inn.d.lo, .int .i64 x.inn.sp, .int .i64 x.inn.dp, .slice a x.data.length c] := by rw [← hW1]; exact blk_new _ _ _
  have g1 : w.heap.size < W1.heap.size := B1.lt
  obtain ⟨W2, hW2⟩ : ∃ W2, W1.alloc (.cells #[.int .i64 0, .int .i64 0, .int .i64 0, .int .u64 0, .int .u64 0, .int .i64 0, .int .u64 0, .int .u64 0, .int .i64 0, .int .i64 0] 26) = W2 := ⟨_, rfl⟩
  have b2 : Below w.heap.size w W2 := by rw [← hW2]; exact b1.alloc b1.size _
  have B2 : Blk W2 w.heap.size 38 #[.int .i64 x.t.fam, .int .i64 x.t.pr, .int .i64 x.t.s.fam, .int .u64 x.t.s.hi, .int .u64 x.t.s.lo, .int .i64 x.t.d.fam, .int .u64 x.t.d.hi, .int .u64 x.t.d.lo, .int .i64 x.t.sp, .int .i64 x.t.dp, .int .i64 x.fl, .int .u32 x.sq, .int .u32 x.ak, .int .i64 x.wn, .int .i64 x.ty, .int .i64 x.cd, .bool x.er, .int .i64 x.inn.fam, .int .i64 x.inn.pr, .int .i64 x.inn.s.fam, .int .u64 x.inn.s.hi, .int .u64 x.inn.s.lo, .int .i64 x.inn.d.fam, .int .u64 x.inn.d.hi, .int .u64 x.inn.d.lo, .int .i64 x.inn.sp, .int .i64 x.inn.dp, .slice a x.data.length c] := by rw [← hW2]; exact B1.alloc _
  have T2 : Blk W2 W1.heap.size 26 #[.int .i64 0, .int .i64 0, .int .i64 0, .int .u64 0, .int .u64 0, .int .i64 0, .int .u64 0, .int .u64 0, .int .i64 0, .int .i64 0] := by rw [← hW2]; exact blk_new _ _ _
  obtain ⟨W3, hW3⟩ : ∃ W, W2.setRow W1.heap.size #[.int .i64 x.t.fam, .int .i64 x.t.pr, .int .i64 x.t.s.fam, .int .u64 x.t.s.hi, .int .u64 x.t.s.lo, .int .i64 x.t.d.fam, .int .u64 x.t.d.hi, .int .u64 x.t.d.lo, .int .i64 x.t.sp, .int .i64 x.t.dp] = W := ⟨_, rfl⟩
  have b3 : Below w.heap.size w W3 := by rw [← hW3]; exact below_setRow b2 (Nat.le_of_lt g1) _
  have B3 : Blk W3 w.heap.size 38 #[.int .i64 x.t.fam, .int .i64 x.t.pr, .int .i64 x.t.s.fam, .int .u64 x.t.s.hi, .int .u64 x.t.s.lo, .int .i64 x.t.d.fam, .int .u64 x.t.d.hi, .int .u64 x.t.d.lo, .int .i64 x.t.sp, .int .i64 x.t.dp, .int .i64 x.fl, .int .u32 x.sq, .int .u32 x.ak, .int .i64 x.wn, .int .i64 x.ty, .int .i64 x.cd, .bool x.er, .int .i64 x.inn.fam, .int .i64 x.inn.pr, .int .i64 x.inn.s.fam, .int .u64 x.inn.s.hi, .int .u64 x.inn.s.lo, .int .i64 x.inn.d.fam, .int .u64 x.inn.d.hi, .int .u64 x.inn.d.lo, .int .i64 x.inn.sp, .int .i64 x.inn.dp, .slice a x.data.length c] := by rw [← hW3]; exact B2.other (by omega) _
  have T3 : Blk W3 W1.heap.size 26 #[.int .i64 x.t.fam, .int .i64 x.t.pr, .int .i64 x.t.s.fam, .int .u64 x.t.s.hi, .int .u64 x.t.s.lo, .int .i64 x.t.d.fam, .int .u64 x.t.d.hi, .int .u64 x.t.d.lo, .int .i64 x.t.sp, .int .i64 x.t.dp] := by rw [← hW3]; exact T2.set _
  have HW3 : Hid _ := hW3
  clear hW3
  have K0 : Hid _ := ofFamily_any x.t.fam x.t.s.fam x.t.s.hi x.t.s.lo x.t.d.fam x.t.d.hi x.t.d.lo W3
  have e0 := T3.cell 0 (.int .i64 x.t.fam) rfl
  have e1 := T3.cell 1 (.int .i64 x.t.pr) rfl
  have e2 := T3.cell 2 (.int .i64 x.t.s.fam) rfl
  have e3 := T3.cell 3 (.int .u64 x.t.s.hi) rfl
  have e4 := T3.cell 4 (.int .u64 x.t.s.lo) rfl
  have e5 := T3.cell 5 (.int .i64 x.t.d.fam) rfl
  have e6 := T3.cell 6 (.int .u64 x.t.d.hi) rfl
  have e7 := T3.cell 7 (.int .u64 x.t.d.lo) rfl
  rw [show endsB x.t.fam ⟨x.t.s.fam, x.t.s.hi, x.t.s.lo⟩ ⟨x.t.d.fam, x.t.d.hi, x.t.d.lo⟩ = false from hE] at K0
  go_enter Try.func19, Try.ntmps19
  go_wp2_with (first
    | (refine wpList_load_sub rfl _ _ rfl w.heap.size 0 38 (by rfl) _ #[.int .i64 x.t.fam, .int .i64 x.t.pr, .int .i64 x.t.s.fam, .int .u64 x.t.s.hi, .int .u64 x.t.s.lo, .int .i64 x.t.d.fam, .int .u64 x.t.d.hi, .int .u64 x.t.d.lo, .int .i64 x.t.sp, .int .i64 x.t.dp] B1 (by rfl) Try.underlying26 (by kernel_rfl) ?_)
    | (refine wpList_store_row rfl _ _ _ rfl W1.heap.size #[.int .i64 x.t.fam, .int .i64 x.t.pr, .int .i64 x.t.s.fam, .int .u64 x.t.s.hi, .int .u64 x.t.s.lo, .int .i64 x.t.d.fam, .int .u64 x.t.d.hi, .int .u64 x.t.d.lo, .int .i64 x.t.sp, .int .i64 x.t.dp] (by rfl) (by rfl) _ _ T2 (by kernel_rfl) (by rfl) (by kernel_rfl) ?_; rw [HW3.out]))
  refine Calls.mono K0.out ?_
  rintro e W4 ⟨rfl, bb⟩
  have b4 : Below w.heap.size w W4 := b3.trans (bb.mono b3.size)
  have B4 := B3.kept bb
  have T4 := T3.kept bb
  clear K0 bb B1 b1 B2 T2 b2 B3 T3 b3 hW1 hW2 HW3 e0 e1 e2 e3 e4 e5 e6 e7
  go_wp2
  go_ret2
  exact ⟨rfl, b4⟩

set_option maxRecDepth 100000 in
set_option maxHeartbeats 4000000 in
theorem build_n2 (x : Sg) (a : Option Addr) (c : Nat) (w : World) (h : Row w a x.data) (hnil : a = none → c = 0) (ok : x.ok) (hE : endsB x.t.fam x.t.s x.t.d = true) (hP : protoB x = false) :
    Calls Try.prog 19 #[.agg #[.int .i64 x.t.fam, .int .i64 x.t.pr, .int .i64 x.t.s.fam, .int .u64 x.t.s.hi, .int .u64 x.t.s.lo, .int .i64 x.t.d.fam, .int .u64 x.t.d.hi, .int .u64 x.t.d.lo, .int .i64 x.t.sp, .int .i64 x.t.dp, .int .i64 x.fl, .int .u32 x.sq, .int .u32 x.ak, .int .i64 x.wn, .int .i64 x.ty, .int .i64 x.cd, .bool x.er, .int .i64 x.inn.fam, .int .i64 x.inn.pr, .int .i64 x.inn.s.fam, .int .u64 x.inn.s.hi, .int .u64 x.inn.s.lo, .int .i64 x.inn.d.fam, .int .u64 x.inn.d.hi, .int .u64 x.inn.d.lo, .int .i64 x.inn.sp, .int .i64 x.inn.dp, .slice a x.data.length c]] w fun e w' => e = .returned (.tuple #[.slice none 0 0, .int .i64 1]) ∧ Below w.heap.size w w' := by
  obtain ⟨W1, hW1⟩ : ∃ W1, w.alloc (.cells #[.int .i64 x.t.fam, .int .i64 x.t.pr, .int .i64 x.t.s.fam, .int .u64 x.t.s.hi, .int .u64 x.t.s.lo, .int .i64 x.t.d.fam, .int .u64 x.t.d.hi, .int .u64 x.t.d.lo, .int .i64 x.t.sp, .int .i64 x.t.dp, .int .i64 x.fl, .int .u32 x.sq, .int .u32 x.ak, .int .i64 x.wn, .int .i64 x.ty, .int .i64 x.cd, .bool x.er, .int .i64 x.inn.fam, .int .i64 x.inn.pr, .int .i64 x.inn.s.fam, .int .u64 x.inn.s.hi, .int .u64 x.inn.s.lo, .int .i64 x.inn.d.fam, .int .u64 x.inn.d.hi, .int .u64 x.inn.d.lo, .int .i64 x.inn.sp, .int .i64 x.inn.dp, .slice a x.data.length c] 38) = W1 := ⟨_, rfl⟩
  have b1 : Below w.heap.size w W1 := by rw [← hW1]; exact (Below.refl _ _).alloc (Nat.le_refl _) _
  have B1 : Blk W1 w.heap.size 38 #[.int .i64 x.t.fam, .int .i64 x.t.pr, .int .i64 x.t.s.fam, .int .u64 x.t.s.hi, .int .u64 x.t.s.lo, .int .i64 x.t.d.fam, .int .u64 x.t.d.hi, .int .u64 x.t.d.lo, .int .i64 x.t.sp, .int .i64 x.t.dp, .int .i64 x.fl, .int .u32 x.sq, .int .u32 x.ak, .int .i64 x.wn, .int .i64 x.ty, .int .i64 x.cd, .bool x.er, .int .i64 x.inn.fam, .int .i64 x.inn.pr, .int .i64 x.inn.s.fam, .int .u64 x.inn.s.hi, .int .u64 x.inn.s.lo, .int .i64 x.inn.d.fam, .int .u64 x.inn.d.hi, .int .u64 x.inn.d.lo, .int .i64 x.inn.sp, .int .i64 x.inn.dp, .slice a x.data.length c] := by rw [← hW1]; exact blk_new _ _ _
  have g1 : w.heap.size < W1.heap.size := B1.lt
  obtain ⟨W2, hW2⟩ : ∃ W2, W1.alloc (.cells #[.int .i64 0, .int .i64 0, .int .i64 0, .int .u64 0, .int .u64 0, .int .i64 0, .int .u64 0, .int .u64 0, .int .i64 0, .int .i64 0] 26) = W2 := ⟨_, rfl⟩
  have b2 : Below w.heap.size w W2 := by rw [← hW2]; exact b1.alloc b1.size _
  have B2 : Blk W2 w.heap.size 38 #[.int .i64 x.t.fam, .int .i64 x.t.pr, .int .i64 x.t.s.fam, .int .u64 x.t.s.hi, .int .u64 x.t.s.lo, .int .i64 x.t.d.fam, .int .u64 x.t.d.hi, .int .u64 x.t.d.lo, .int .i64 x.t.sp, .int .i64 x.t.dp, .int .i64 x.fl, .int .u32 x.sq, .int .u32 x.ak, .int .i64 x.wn, .int .i64 x.ty, .int .i64 x.cd, .bool x.er, .int .i64 x.inn.fam, .int .i64 x.inn.pr, .int .i64 x.inn.s.fam, .int .u64 x.inn.s.hi, .int .u64 x.inn.s.lo, .int .i64 x.inn.d.fam, .int .u64 x.inn.d.hi, .int .u64 x.inn.d.lo, .int .i64 x.inn.sp, .int .i64 x.inn.dp, .slice a x.data.length c] := by rw [← hW2]; exact B1.alloc _
  have T2 : Blk W2 W1.heap.size 26 #[.int .i64 0, .int .i64 0, .int .i64 0, .int .u64 0, .int .u64 0, .int .i64 0, .int .u64 0, .int .u64 0, .int .i64 0, .int .i64 0] := by rw [← hW2]; exact blk_new _ _ _
  obtain ⟨W3, hW3⟩ : ∃ W, W2.setRow W1.heap.size #[.int .i64 x.t.fam, .int .i64 x.t.pr, .int .i64 x.t.s.fam, .int .u64 x.t.s.hi, .int .u64 x.t.s.lo, .int .i64 x.t.d.fam, .int .u64 x.t.d.hi, .int .u64 x.t.d.lo, .int .i64 x.t.sp, .int .i64 x.t.dp] = W := ⟨_, rfl⟩
  have b3 : Below w.heap.size w W3 := by rw [← hW3]; exact below_setRow b2 (Nat.le_of_lt g1) _
  have B3 : Blk W3 w.heap.size 38 #[.int .i64 x.t.fam, .int .i64 x.t.pr, .int .i64 x.t.s.fam, .int .u64 x.t.s.hi, .int .u64 x.t.s.lo, .int .i64 x.t.d.fam, .int .u64 x.t.d.hi, .int .u64 x.t.d.lo, .int .i64 x.t.sp, .int .i64 x.t.dp, .int .i64 x.fl, .int .u32 x.sq, .int .u32 x.ak, .int .i64 x.wn, .int .i64 x.ty, .int .i64 x.cd, .bool x.er, .int .i64 x.inn.fam, .int .i64 x.inn.pr, .int .i64 x.inn.s.fam, .int .u64 x.inn.s.hi, .int .u64 x.inn.s.lo, .int .i64 x.inn.d.fam, .int .u64 x.inn.d.hi, .int .u64 x.inn.d.lo, .int .i64 x.inn.sp, .int .i64 x.inn.dp, .slice a x.data.length c] := by rw [← hW3]; exact B2.other (by omega) _
  have T3 : Blk W3 W1.heap.size 26 #[.int .i64 x.t.fam, .int .i64 x.t.pr, .int .i64 x.t.s.fam, .int .u64 x.t.s.hi, .int .u64 x.t.s.lo, .int .i64 x.t.d.fam, .int .u64 x.t.d.hi, .int .u64 x.t.d.lo, .int .i64 x.t.sp, .int .i64 x.t.dp] := by rw [← hW3]; exact T2.set _
  have HW3 : Hid _ := hW3
  clear hW3
  have K0 : Hid _ := ofFamily_any x.t.fam x.t.s.fam x.t.s.hi x.t.s.lo x.t.d.fam x.t.d.hi x.t.d.lo W3
  have e0 := T3.cell 0 (.int .i64 x.t.fam) rfl
  have e1 := T3.cell 1 (.int .i64 x.t.pr) rfl
  have e2 := T3.cell 2 (.int .i64 x.t.s.fam) rfl
  have e3 := T3.cell 3 (.int .u64 x.t.s.hi) rfl
  have e4 := T3.cell 4 (.int .u64 x.t.s.lo) rfl
  have e5 := T3.cell 5 (.int .i64 x.t.d.fam) rfl
  have e6 := T3.cell 6 (.int .u64 x.t.d.hi) rfl
  have e7 := T3.cell 7 (.int .u64 x.t.d.lo) rfl
  rw [show endsB x.t.fam ⟨x.t.s.fam, x.t.s.hi, x.t.s.lo⟩ ⟨x.t.d.fam, x.t.d.hi, x.t.d.lo⟩ = true from hE] at K0
  have KP : Hid (∀ W, Calls Try.prog 39 #[.agg #[.int .i64 x.t.fam, .int .i64 x.t.pr, .int .i64 x.t.s.fam, .int .u64 x.t.s.hi, .int .u64 x.t.s.lo, .int .i64 x.t.d.fam, .int .u64 x.t.d.hi, .int .u64 x.t.d.lo, .int .i64 x.t.sp, .int .i64 x.t.dp]] W fun e w' => e = .returned (.bool false) ∧ Below W.heap.size W w') := fun W => by
    have := rightProto_any x W
    rw [hP] at this
    exact this
  go_enter Try.func19, Try.ntmps19
  go_wp2_with (first
    | (refine wpList_load_sub rfl _ _ rfl w.heap.size 0 38 (by rfl) _ #[.int .i64 x.t.fam, .int .i64 x.t.pr, .int .i64 x.t.s.fam, .int .u64 x.t.s.hi, .int .u64 x.t.s.lo, .int .i64 x.t.d.fam, .int .u64 x.t.d.hi, .int .u64 x.t.d.lo, .int .i64 x.t.sp, .int .i64 x.t.dp] B1 (by rfl) Try.underlying26 (by kernel_rfl) ?_)
    | (refine wpList_store_row rfl _ _ _ rfl W1.heap.size #[.int .i64 x.t.fam, .int .i64 x.t.pr, .int .i64 x.t.s.fam, .int .u64 x.t.s.hi, .int .u64 x.t.s.lo, .int .i64 x.t.d.fam, .int .u64 x.t.d.hi, .int .u64 x.t.d.lo, .int .i64 x.t.sp, .int .i64 x.t.dp] (by rfl) (by rfl) _ _ T2 (by kernel_rfl) (by rfl) (by kernel_rfl) ?_; rw [HW3.out]))
  refine Calls.mono K0.out ?_
  rintro e W4 ⟨rfl, bb⟩
  have b4 : Below w.heap.size w W4 := b3.trans (bb.mono b3.size)
  have B4 := B3.kept bb
  have T4 := T3.kept bb
  clear K0 bb B1 b1 B2 T2 b2 B3 T3 b3 hW1 hW2 HW3 e0 e1 e2 e3 e4 e5 e6 e7
  go_wp2_with (refine wpList_load_blk_w (by kernel_rfl) _ _ rfl W1.heap.size (by rfl) _ T4 Try.underlying26 (by kernel_rfl) ?_)
  refine Calls.mono (KP.out _) ?_
  rintro e W5 ⟨rfl, bb⟩
  have b5 : Below w.heap.size w W5 := b4.trans (bb.mono b4.size)
  have B5 := B4.kept bb
  have T5 := T4.kept bb
  clear KP bb B4 T4 b4
  go_wp2
  go_ret2
  exact ⟨rfl, b5⟩

set_option maxRecDepth 100000 in
set_option maxHeartbeats 4000000 in
theorem build_n3 (x : Sg) (a : Option Addr) (c : Nat) (w : World) (h : Row w a x.data) (hnil : a = none → c = 0) (ok : x.ok) (hE : endsB x.t.fam x.t.s x.t.d = true) (hP : protoB x = true) (hN : numB x = false) :
    Calls Try.prog 19 #[.agg #[.int .i64 x.t.fam, .int .i64 x.t.pr, .int .i64 x.t.s.fam, .int .u64 x.t.s.hi, .int .u64 x.t.s.lo, .int .i64 x.t.d.fam, .int .u64 x.t.d.hi, .int .u64 x.t.d.lo, .int .i64 x.t.sp, .int .i64 x.t.dp, .int .i64 x.fl, .int .u32 x.sq, .int .u32 x.ak, .int .i64 x.wn, .int .i64 x.ty, .int .i64 x.cd, .bool x.er, .int .i64 x.inn.fam, .int .i64 x.inn.pr, .int .i64 x.inn.s.fam, .int .u64 x.inn.s.hi, .int .u64 x.inn.s.lo, .int .i64 x.inn.d.fam, .int .u64 x.inn.d.hi, .int .u64 x.inn.d.lo, .int .i64 x.inn.sp, .int .i64 x.inn.dp, .slice a x.data.length c]] w fun e w' => e = .returned (.tuple #[.slice none 0 0, .int .i64 1]) ∧ Below w.heap.size w w' := by
  obtain ⟨W1, hW1⟩ : ∃ W1, w.alloc (.cells #[.int .i64 x.t.fam, .int .i64 x.t.pr, .int .i64 x.t.s.fam, .int .u64 x.t.s.hi, .int .u64 x.t.s.lo, .int .i64 x.t.d.fam, .int .u64 x.t.d.hi, .int .u64 x.t.d.lo, .int .i64 x.t.sp, .int .i64 x.t.dp, .int .i64 x.fl, .int .u32 x.sq, .int .u32 x.ak, .int .i64 x.wn, .int .i64 x.ty, .int .i64 x.cd, .bool x.er, .int .i64 x.inn.fam, .int .i64 x.inn.pr, .int .i64 x.inn.s.fam, .int .u64 x.inn.s.hi, .int .u64 x.inn.s.lo, .int .i64 x.inn.d.fam, .int .u64 x.inn.d.hi, .int .u64 x.inn.d.lo, .int .i64 x.inn.sp, .int .i64 x.inn.dp, .slice a x.data.length c] 38) = W1 := ⟨_, rfl⟩
  have b1 : Below w.heap.size w W1 := by rw [← hW1]; exact (Below.refl _ _).alloc (Nat.le_refl _) _
  have B1 : Blk W1 w.heap.size 38 #[.int .i64 x.t.fam, .int .i64 x.t.pr, .int .i64 x.t.s.fam, .int .u64 x.t.s.hi, .int .u64 x.t.s.lo, .int .i64 x.t.d.fam, .int .u64 x.t.d.hi, .int .u64 x.t.d.lo, .int .i64 x.t.sp, .int .i64 x.t.dp, .int .i64 x.fl, .int .u32 x.sq, .int .u32 x.ak, .int .i64 x.wn, .int .i64 x.ty, .int .i64 x.cd, .bool x.er, .int .i64 x.inn.fam, .int .i64 x.inn.pr, .int .i64 x.inn.s.fam, .int .u64 x.inn.s.hi, .int .u64 x.inn.s.lo, .int .i64 x.inn.d.fam, .int .u64 x.inn.d.hi, .int .u64 x.inn.d.lo, .int .i64 x.inn.sp, .int .i64 x.inn.dp, .slice a x.data.length c] := by rw [← hW1]; exact blk_new _ _ _
  have g1 : w.heap.size < W1.heap.size := B1.lt
  obtain ⟨W2, hW2⟩ : ∃ W2, W1.alloc (.cells #[.int .i64 0, .int .i64 0, .int .i64 0, .int .u64 0, .int .u64 0, .int .i64 0, .int .u64 0, .int .u64 0, .int .i64 0, .int .i64 0] 26) = W2 := ⟨_, rfl⟩
  have b2 : Below w.heap.size w W2 := by rw [← hW2]; exact b1.alloc b1.size _
  have B2 : Blk W2 w.heap.size 38 #[.int .i64 x.t.fam, .int .i64 x.t.pr, .int .i64 x.t.s.fam, .int .u64 x.t.s.hi, .int .u64 x.t.s.lo, .int .i64 x.t.d.fam, .int .u64 x.t.d.hi, .int .u64 x.t.d.lo, .int .i64 x.t.sp, .int .i64 x.t.dp, .int .i64 x.fl, .int .u32 x.sq, .int .u32 x.ak, .int .i64 x.wn, .int .i64 x.ty, .int .i64 x.cd, .bool x.er, .int .i64 x.inn.fam, .int .i64 x.inn.pr, .int .i64 x.inn.s.fam, .int .u64 x.inn.s.hi, .int .u64 x.inn.s.lo, .int .i64 x.inn.d.fam, .int .u64 x.inn.d.hi, .int .u64 x.inn.d.lo, .int .i64 x.inn.sp, .int .i64 x.inn.dp, .slice a x.data.length c] := by rw [← hW2]; exact B1.alloc _
  have T2 : Blk W2 W1.heap.size 26 #[.int .i64 0, .int .i64 0, .int .i64 0, .int .u64 0, .int .u64 0, .int .i64 0, .int .u64 0, .int .u64 0, .int .i64 0, .int .i64 0] := by rw [← hW2]; exact blk_new _ _ _
  obtain ⟨W3, hW3⟩ : ∃ W, W2.setRow W1.heap.size #[.int .i64 x.t.fam, .int .i64 x.t.pr, .int .i64 x.t.s.fam, .int .u64 x.t.s.hi, .int .u64 x.t.s.lo, .int .i64 x.t.d.fam, .int .u64 x.t.d.hi, .int .u64 x.t.d.lo, .int .i64 x.t.sp, .int .i64 x.t.dp] = W := ⟨_, rfl⟩
  have b3 : Below w.heap.size w W3 := by rw [← hW3]; exact below_setRow b2 (Nat.le_of_lt g1) _
  have B3 : Blk W3 w.heap.size 38 #[.int .i64 x.t.fam, .int .i64 x.t.pr, .int .i64 x.t.s.fam, .int .u64 x.t.s.hi, .int .u64 x.t.s.lo, .int .i64 x.t.d.fam, .int .u64 x.t.d.hi, .int .u64 x.t.d.lo, .int .i64 x.t.sp, .int .i64 x.t.dp, .int .i64 x.fl, .int .u32 x.sq, .int .u32 x.ak, .int .i64 x.wn, .int .i64 x.ty, .int .i64 x.cd, .bool x.er, .int .i64 x.inn.fam, .int .i64 x.inn.pr, .int .i64 x.inn.s.fam, .int .u64 x.inn.s.hi, .int .u64 x.inn.s.lo, .int .i64 x.inn.d.fam, .int .u64 x.inn.d.hi, .int .u64 x.inn.d.lo, .int .i64 x.inn.sp, .int .i64 x.inn.dp, .slice a x.data.length c] := by rw [← hW3]; exact B2.other (by omega) _
  have T3 : Blk W3 W1.heap.size 26 #[.int .i64 x.t.fam, .int .i64 x.t.pr, .int .i64 x.t.s.fam, .int .u64 x.t.s.hi, .int .u64 x.t.s.lo, .int .i64 x.t.d.fam, .int .u64 x.t.d.hi, .int .u64 x.t.d.lo, .int .i64 x.t.sp, .int .i64 x.t.dp] := by rw [← hW3]; exact T2.set _
  have HW3 : Hid _ := hW3
  clear hW3
  have K0 : Hid _ := ofFamily_any x.t.fam x.t.s.fam x.t.s.hi x.t.s.lo x.t.d.fam x.t.d.hi x.t.d.lo W3
  have e0 := T3.cell 0 (.int .i64 x.t.fam) rfl
  have e1 := T3.cell 1 (.int .i64 x.t.pr) rfl
  have e2 := T3.cell 2 (.int .i64 x.t.s.fam) rfl
  have e3 := T3.cell 3 (.int .u64 x.t.s.hi) rfl
  have e4 := T3.cell 4 (.int .u64 x.t.s.lo) rfl
  have e5 := T3.cell 5 (.int .i64 x.t.d.fam) rfl
  have e6 := T3.cell 6 (.int .u64 x.t.d.hi) rfl
  have e7 := T3.cell 7 (.int .u64 x.t.d.lo) rfl
  rw [show endsB x.t.fam ⟨x.t.s.fam, x.t.s.hi, x.t.s.lo⟩ ⟨x.t.d.fam, x.t.d.hi, x.t.d.lo⟩ = true from hE] at K0
  have KP : Hid (∀ W, Calls Try.prog 39 #[.agg #[.int .i64 x.t.fam, .int .i64 x.t.pr, .int .i64 x.t.s.fam, .int .u64 x.t.s.hi, .int .u64 x.t.s.lo, .int .i64 x.t.d.fam, .int .u64 x.t.d.hi, .int .u64 x.t.d.lo, .int .i64 x.t.sp, .int .i64 x.t.dp]] W fun e w' => e = .returned (.bool true) ∧ Below W.heap.size W w') := fun W => by
    have := rightProto_any x W
    rw [hP] at this
    exact this
  have KN : Hid (∀ W, Calls Try.prog 40 #[.agg #[.int .i64 x.t.fam, .int .i64 x.t.pr, .int .i64 x.t.s.fam, .int .u64 x.t.s.hi, .int .u64 x.t.s.lo, .int .i64 x.t.d.fam, .int .u64 x.t.d.hi, .int .u64 x.t.d.lo, .int .i64 x.t.sp, .int .i64 x.t.dp, .int .i64 x.fl, .int .u32 x.sq, .int .u32 x.ak, .int .i64 x.wn, .int .i64 x.ty, .int .i64 x.cd, .bool x.er, .int .i64 x.inn.fam, .int .i64 x.inn.pr, .int .i64 x.inn.s.fam, .int .u64 x.inn.s.hi, .int .u64 x.inn.s.lo, .int .i64 x.inn.d.fam, .int .u64 x.inn.d.hi, .int .u64 x.inn.d.lo, .int .i64 x.inn.sp, .int .i64 x.inn.dp, .slice a x.data.length c]] W fun e w' => e = .returned (.bool false) ∧ Below W.heap.size W w') := fun W => by
    have := rightNumbers_any x a c W
    rw [hN] at this
    exact this
  go_enter Try.func19, Try.ntmps19
  go_wp2_with (first
    | (refine wpList_load_sub rfl _ _ rfl w.heap.size 0 38 (by rfl) _ #[.int .i64 x.t.fam, .int .i64 x.t.pr, .int .i64 x.t.s.fam, .int .u64 x.t.s.hi, .int .u64 x.t.s.lo, .int .i64 x.t.d.fam, .int .u64 x.t.d.hi, .int .u64 x.t.d.lo, .int .i64 x.t.sp, .int .i64 x.t.dp] B1 (by rfl) Try.underlying26 (by kernel_rfl) ?_)
    | (refine wpList_store_row rfl _ _ _ rfl W1.heap.size #[.int .i64 x.t.fam, .int .i64 x.t.pr, .int .i64 x.t.s.fam, .int .u64 x.t.s.hi, .int .u64 x.t.s.lo, .int .i64 x.t.d.fam, .int .u64 x.t.d.hi, .int .u64 x.t.d.lo, .int .i64 x.t.sp, .int .i64 x.t.dp] (by rfl) (by rfl) _ _ T2 (by kernel_rfl) (by rfl) (by kernel_rfl) ?_; rw [HW3.out]))
  refine Calls.mono K0.out ?_
  rintro e W4 ⟨rfl, bb⟩
  have b4 : Below w.heap.size w W4 := b3.trans (bb.mono b3.size)
  have B4 := B3.kept bb
  have T4 := T3.kept bb
  clear K0 bb B1 b1 B2 T2 b2 B3 T3 b3 hW1 hW2 HW3 e0 e1 e2 e3 e4 e5 e6 e7
  go_wp2_with (refine wpList_load_blk_w (by kernel_rfl) _ _ rfl W1.heap.size (by rfl) _ T4 Try.underlying26 (by kernel_rfl) ?_)
  refine Calls.mono (KP.out _) ?_
  rintro e W5 ⟨rfl, bb⟩
  have b5 : Below w.heap.size w W5 := b4.trans (bb.mono b4.size)
  have B5 := B4.kept bb
  have T5 := T4.kept bb
  clear KP bb B4 T4 b4
  go_wp2_with (refine wpList_load_blk_w (by kernel_rfl) _ _ rfl w.heap.size (by rfl) _ B5 Try.underlying38 (by kernel_rfl) ?_)
  refine Calls.mono (KN.out _) ?_
  rintro e W6 ⟨rfl, bb⟩
  have b6 : Below w.heap.size w W6 := b5.trans (bb.mono b5.size)
  have B6 := B5.kept bb
  have T6 := T5.kept bb
  clear KN bb B5 T5 b5
  have e27 := B6.cell 27 (.slice a x.data.length c) rfl
  go_wp2
  go_ret2
  exact ⟨rfl, b6⟩

set_option maxRecDepth 100000 in
set_option maxHeartbeats 4000000 in
theorem build_n4 (x : Sg) (a : Option Addr) (c : Nat) (w : World) (h : Row w a x.data) (hnil : a = none → c = 0) (ok : x.ok) (hE : endsB x.t.fam x.t.s x.t.d = true) (hP : protoB x = true) (hN : numB x = true) (hL : ¬ x.data.length ≤ 65000) :
    Calls Try.prog 19 #[.agg #[.int .i64 x.t.fam, .int .i64 x.t.pr, .int .i64 x.t.s.fam, .int .u64 x.t.s.hi, .int .u64 x.t.s.lo, .int .i64 x.t.d.fam, .int .u64 x.t.d.hi, .int .u64 x.t.d.lo, .int .i64 x.t.sp, .int .i64 x.t.dp, .int .i64 x.fl, .int .u32 x.sq, .int .u32 x.ak, .int .i64 x.wn, .int .i64 x.ty, .int .i64 x.cd, .bool x.er, .int .i64 x.inn.fam, .int .i64 x.inn.pr, .int .i64 x.inn.s.fam, .int .u64 x.inn.s.hi, .int .u64 x.inn.s.lo, .int .i64 x.inn.d.fam, .int .u64 x.inn.d.hi, .int .u64 x.inn.d.lo, .int .i64 x.inn.sp, .int .i64 x.inn.dp, .slice a x.data.length c]] w fun e w' => e = .returned (.tuple #[.slice none 0 0, .int .i64 1]) ∧ Below w.heap.size w w' := by
  obtain ⟨W1, hW1⟩ : ∃ W1, w.alloc (.cells #[.int .i64 x.t.fam, .int .i64 x.t.pr, .int .i64 x.t.s.fam, .int .u64 x.t.s.hi, .int .u64 x.t.s.lo, .int .i64 x.t.d.fam, .int .u64 x.t.d.hi, .int .u64 x.t.d.lo, .int .i64 x.t.sp, .int .i64 x.t.dp, .int .i64 x.fl, .int .u32 x.sq, .int .u32 x.ak, .int .i64 x.wn, .int .i64 x.ty, .int .i64 x.cd, .bool x.er, .int .i64 x.inn.fam, .int .i64 x.inn.pr, .int .i64 x.inn.s.fam, .int .u64 x.inn.s.hi, .int .u64 x.inn.s.lo, .int .i64 x.inn.d.fam, .int .u64 x.inn.d.hi, .int .u64 x.inn.d.lo, .int .i64 x.inn.sp, .int .i64 x.inn.dp, .slice a x.data.length c] 38) = W1 := ⟨_, rfl⟩
  have b1 : Below w.heap.size w W1 := by rw [← hW1]; exact (Below.refl _ _).alloc (Nat.le_refl _) _
  have B1 : Blk W1 w.heap.size 38 #[.int .i64 x.t.fam, .int .i64 x.t.pr, .int .i64 x.t.s.fam, .int .u64 x.t.s.hi, .int .u64 x.t.s.lo, .int .i64 x.t.d.fam, .int .u64 x.t.d.hi, .int .u64 x.t.d.lo, .int .i64 x.t.sp, .int .i64 x.t.dp, .int .i64 x.fl, .int .u32 x.sq, .int .u32 x.ak, .int .i64 x.wn, .int .i64 x.ty, .int .i64 x.cd, .bool x.er, .int .i64 x.inn.fam, .int .i64 x.inn.pr, .int .i64 x.inn.s.fam, .int .u64 x.inn.s.hi, .int .u64 x.inn.s.lo, .int .i64 x.inn.d.fam, .int .u64 x.inn.d.hi, .int .u64 x.inn.d.lo, .int .i64 x.inn.sp, .int .i64 x.inn.dp, .slice a x.data.length c] := by rw [← hW1]; exact blk_new _ _ _
  have g1 : w.heap.size < W1.heap.size := B1.lt
  obtain ⟨W2, hW2⟩ : ∃ W2, W1.alloc (.cells #[.int .i64 0, .int .i64 0, .int .i64 0, .int .u64 0, .int .u64 0, .int .i64 0, .int .u64 0, .int .u64 0, .int .i64 0, .int .i64 0] 26) = W2 := ⟨_, rfl⟩
  have b2 : Below w.heap.size w W2 := by rw [← hW2]; exact b1.alloc b1.size _
  have B2 : Blk W2 w.heap.size 38 #[.int .i64 x.t.fam, .int .i64 x.t.pr, .int .i64 x.t.s.fam, .int .u64 x.t.s.hi, .int .u64 x.t.s.lo, .int .i64 x.t.d.fam, .int .u64 x.t.d.hi, .int .u64 x.t.d.lo, .int .i64 x.t.sp, .int .i64 x.t.dp, .int .i64 x.fl, .int .u32 x.sq, .int .u32 x.ak, .int .i64 x.wn, .int .i64 x.ty, .int .i64 x.cd, .bool x.er, .int .i64 x.inn.fam, .int .i64 x.inn.pr, .int .i64 x.inn.s.fam, .int .u64 x.inn.s.hi, .int .u64 x.inn.s.lo, .int .i64 x.inn.d.fam, .int .u64 x.inn.d.hi, .int .u64 x.inn.d.lo, .int .i64 x.inn.sp, .int .i64 x.inn.dp, .slice a x.data.length c] := by rw [← hW2]; exact B1.alloc _
  have T2 : Blk W2 W1.heap.size 26 #[.int .i64 0, .int .i64 0, .int .i64 0, .int .u64 0, .int .u64 0, .int .i64 0, .int .u64 0, .int .u64 0, .int .i64 0, .int .i64 0] := by rw [← hW2]; exact blk_new _ _ _
  obtain ⟨W3, hW3⟩ : ∃ W, W2.setRow W1.heap.size #[.int .i64 x.t.fam, .int .i64 x.t.pr, .int .i64 x.t.s.fam, .int .u64 x.t.s.hi, .int .u64 x.t.s.lo, .int .i64 x.t.d.fam, .int .u64 x.t.d.hi, .int .u64 x.t.d.lo, .int .i64 x.t.sp, .int .i64 x.t.dp] = W := ⟨_, rfl⟩
  have b3 : Below w.heap.size w W3 := by rw [← hW3]; exact below_setRow b2 (Nat.le_of_lt g1) _
  have B3 : Blk W3 w.heap.size 38 #[.int .i64 x.t.fam, .int .i64 x.t.pr, .int .i64 x.t.s.fam, .int .u64 x.t.s.hi, .int .u64 x.t.s.lo, .int .i64 x.t.d.fam, .int .u64 x.t.d.hi, .int .u64 x.t.d.lo, .int .i64 x.t.sp, .int .i64 x.t.dp, .int .i64 x.fl, .int .u32 x.sq, .int .u32 x.ak, .int .i64 x.wn, .int .i64 x.ty, .int .i64 x.cd, .bool x.er, .int .i64 x.inn.fam, .int .i64 x.inn.pr, .int .i64 x.inn.s.fam, .int .u64 x.inn.s.hi, .int .u64 x.inn.s.lo, .int .i64 x.inn.d.fam, .int .u64 x.inn.d.hi, .int .u64 x.inn.d.lo, .int .i64 x.inn.sp, .int .i64 x.inn.dp, .slice a x.data.length c] := by rw [← hW3]; exact B2.other (by omega) _
  have T3 : Blk W3 W1.heap.size 26 #[.int .i64 x.t.fam, .int .i64 x.t.pr, .int .i64 x.t.s.fam, .int .u64 x.t.s.hi, .int .u64 x.t.s.lo, .int .i64 x.t.d.fam, .int .u64 x.t.d.hi, .int .u64 x.t.d.lo, .int .i64 x.t.sp, .int .i64 x.t.dp] := by rw [← hW3]; exact T2.set _
  have HW3 : Hid _ := hW3
  clear hW3
  have K0 : Hid _ := ofFamily_any x.t.fam x.t.s.fam x.t.s.hi x.t.s.lo x.t.d.fam x.t.d.hi x.t.d.lo W3
  have e0 := T3.cell 0 (.int .i64 x.t.fam) rfl
  have e1 := T3.cell 1 (.int .i64 x.t.pr) rfl
  have e2 := T3.cell 2 (.int .i64 x.t.s.fam) rfl
  have e3 := T3.cell 3 (.int .u64 x.t.s.hi) rfl
  have e4 := T3.cell 4 (.int .u64 x.t.s.lo) rfl
  have e5 := T3.cell 5 (.int .i64 x.t.d.fam) rfl
  have e6 := T3.cell 6 (.int .u64 x.t.d.hi) rfl
  have e7 := T3.cell 7 (.int .u64 x.t.d.lo) rfl
  rw [show endsB x.t.fam ⟨x.t.s.fam, x.t.s.hi, x.t.s.lo⟩ ⟨x.t.d.fam, x.t.d.hi, x.t.d.lo⟩ = true from hE] at K0
  have KP : Hid (∀ W, Calls Try.prog 39 #[.agg #[.int .i64 x.t.fam, .int .i64 x.t.pr, .int .i64 x.t.s.fam, .int .u64 x.t.s.hi, .int .u64 x.t.s.lo, .int .i64 x.t.d.fam, .int .u64 x.t.d.hi, .int .u64 x.t.d.lo, .int .i64 x.t.sp, .int .i64 x.t.dp]] W fun e w' => e = .returned (.bool true) ∧ Below W.heap.size W w') := fun W => by
    have := rightProto_any x W
    rw [hP] at this
    exact this
  have KN : Hid (∀ W, Calls Try.prog 40 #[.agg #[.int .i64 x.t.fam, .int .i64 x.t.pr, .int .i64 x.t.s.fam, .int .u64 x.t.s.hi, .int .u64 x.t.s.lo, .int .i64 x.t.d.fam, .int .u64 x.t.d.hi, .int .u64 x.t.d.lo, .int .i64 x.t.sp, .int .i64 x.t.dp, .int .i64 x.fl, .int .u32 x.sq, .int .u32 x.ak, .int .i64 x.wn, .int .i64 x.ty, .int .i64 x.cd, .bool x.er, .int .i64 x.inn.fam, .int .i64 x.inn.pr, .int .i64 x.inn.s.fam, .int .u64 x.inn.s.hi, .int .u64 x.inn.s.lo, .int .i64 x.inn.d.fam, .int .u64 x.inn.d.hi, .int .u64 x.inn.d.lo, .int .i64 x.inn.sp, .int .i64 x.inn.dp, .slice a x.data.length c]] W fun e w' => e = .returned (.bool true) ∧ Below W.heap.size W w') := fun W => by
    have := rightNumbers_any x a c W
    rw [hN] at this
    exact this
  have hL' : (x.data.length : Int) > 65000 := by omega
  go_enter Try.func19, Try.ntmps19
  go_wp2_with (first
    | (refine wpList_load_sub rfl _ _ rfl w.heap.size 0 38 (by rfl) _ #[.int .i64 x.t.fam, .int .i64 x.t.pr, .int .i64 x.t.s.fam, .int .u64 x.t.s.hi, .int .u64 x.t.s.lo, .int .i64 x.t.d.fam, .int .u64 x.t.d.hi, .int .u64 x.t.d.lo, .int .i64 x.t.sp, .int .i64 x.t.dp] B1 (by rfl) Try.underlying26 (by kernel_rfl) ?_)
    | (refine wpList_store_row rfl _ _ _ rfl W1.heap.size #[.int .i64 x.t.fam, .int .i64 x.t.pr, .int .i64 x.t.s.fam, .int .u64 x.t.s.hi, .int .u64 x.t.s.lo, .int .i64 x.t.d.fam, .int .u64 x.t.d.hi, .int .u64 x.t.d.lo, .int .i64 x.t.sp, .int .i64 x.t.dp] (by rfl) (by rfl) _ _ T2 (by kernel_rfl) (by rfl) (by kernel_rfl) ?_; rw [HW3.out]))
  refine Calls.mono K0.out ?_
  rintro e W4 ⟨rfl, bb⟩
  have b4 : Below w.heap.size w W4 := b3.trans (bb.mono b3.size)
  have B4 := B3.kept bb
  have T4 := T3.kept bb
  clear K0 bb B1 b1 B2 T2 b2 B3 T3 b3 hW1 hW2 HW3 e0 e1 e2 e3 e4 e5 e6 e7
  go_wp2_with (refine wpList_load_blk_w (by kernel_rfl) _ _ rfl W1.heap.size (by rfl) _ T4 Try.underlying26 (by kernel_rfl) ?_)
  refine Calls.mono (KP.out _) ?_
  rintro e W5 ⟨rfl, bb⟩
  have b5 : Below w.heap.size w W5 := b4.trans (bb.mono b4.size)
  have B5 := B4.kept bb
  have T5 := T4.kept bb
  clear KP bb B4 T4 b4
  go_wp2_with (refine wpList_load_blk_w (by kernel_rfl) _ _ rfl w.heap.size (by rfl) _ B5 Try.underlying38 (by kernel_rfl) ?_)
  refine Calls.mono (KN.out _) ?_
  rintro e W6 ⟨rfl, bb⟩
  have b6 : Below w.heap.size w W6 := b5.trans (bb.mono b5.size)
  have B6 := B5.kept bb
  have T6 := T5.kept bb
  clear KN bb B5 T5 b5
  have e27 := B6.cell 27 (.slice a x.data.length c) rfl
  go_wp2
  go_ret2
  exact ⟨rfl, b6⟩

end Go.Proofs.Ytgdpcomcndidcaa

namespace Go.Proofs.Ytgdpcomcndidcaa
open Go.ChangeShapes Go.WideShapes Go.ChangeAt Go.RowKit
set_option linter.unusedVariables false
set_option linter.unusedSimpArgs false
set_option linter.constructorNameAsVariable false
set_option maxRecDepth 100000

/-- The numbers of a way lie in their kinds. -/
structure Tp.ok (t : Tp) : Prop where
  fam : -9223372036854775808 ≤ t.fam ∧ t.fam ≤ 9223372036854775807
  pr : -9223372036854775808 ≤ t.pr ∧ t.pr ≤ 9223372036854775807
  s : t.s.ok
  d : t.d.ok
  sp : -9223372036854775808 ≤ t.sp ∧ t.sp ≤ 9223372036854775807
  dp : -9223372036854775808 ≤ t.dp ∧ t.dp ≤ 9223372036854775807
theorem one_of {x y : Value} (h : [x] = [y]) : x = y := (List.cons.inj h).1
theorem lst10 {cs : List Value} (h : cs.length = 10) : ∃ v0 v1 v2 v3 v4 v5 v6 v7 v8 v9, cs = [v0, v1, v2, v3, v4, v5, v6, v7, v8, v9] := by
  match cs, h with
  | [v0, v1, v2, v3, v4, v5, v6, v7, v8, v9], _ => exact ⟨v0, v1, v2, v3, v4, v5, v6, v7, v8, v9, rfl⟩
theorem tuple_cells {H : Type} {enc : TypeId × Value → H} {W : World} {fuel : Nat} {cs : List Value} {y : DataW H × List MemPlace}
    (h : DataW.trod enc Try.prog W 0 (fun _ => true) true fuel 26 cs = some y) : ∃ t : Tp, cs = (tpv t).toList ∧ t.ok := by
  have cT : Try.prog.cellsOf 26 = 10 := by kernel_rfl
  have cA : Try.prog.cellsOf 24 = 3 := by kernel_rfl
  have cI : Try.prog.cellsOf 3 = 1 := by kernel_rfl
  obtain ⟨xs, n, _, hx, hl, hlen, hf⟩ := DataW.trod_struct Try.underlying26 h
  rw [cT] at hl
  obtain ⟨v0, v1, v2, v3, v4, v5, v6, v7, v8, v9, rfl⟩ := lst10 hl
  obtain ⟨y0, y1, y2, y3, y4, y5, rfl⟩ : ∃ y0 y1 y2 y3 y4 y5, xs = [y0, y1, y2, y3, y4, y5] := by
    match xs, hlen with
    | [y0, y1, y2, y3, y4, y5], _ => exact ⟨y0, y1, y2, y3, y4, y5, rfl⟩
  have h0 : DataW.trod enc Try.prog W 0 (fun _ => true) true n 3 ((([v0, v1, v2, v3, v4, v5, v6, v7, v8, v9] : List Value).drop 0).take (Try.prog.cellsOf 3)) = some y0 := hf 0 _ rfl
  have h1 : DataW.trod enc Try.prog W 0 (fun _ => true) true n 3 ((([v0, v1, v2, v3, v4, v5, v6, v7, v8, v9] : List Value).drop 1).take (Try.prog.cellsOf 3)) = some y1 := hf 1 _ rfl
  have h2 : DataW.trod enc Try.prog W 0 (fun _ => true) true n 24 ((([v0, v1, v2, v3, v4, v5, v6, v7, v8, v9] : List Value).drop 2).take (Try.prog.cellsOf 24)) = some y2 := hf 2 _ rfl
  have h3 : DataW.trod enc Try.prog W 0 (fun _ => true) true n 24 ((([v0, v1, v2, v3, v4, v5, v6, v7, v8, v9] : List Value).drop 5).take (Try.prog.cellsOf 24)) = some y3 := hf 3 _ rfl
  have h4 : DataW.trod enc Try.prog W 0 (fun _ => true) true n 3 ((([v0, v1, v2, v3, v4, v5, v6, v7, v8, v9] : List Value).drop 8).take (Try.prog.cellsOf 3)) = some y4 := hf 4 _ rfl
  have h5 : DataW.trod enc Try.prog W 0 (fun _ => true) true n 3 ((([v0, v1, v2, v3, v4, v5, v6, v7, v8, v9] : List Value).drop 9).take (Try.prog.cellsOf 3)) = some y5 := hf 5 _ rfl
  simp only [cA, cI, List.drop_zero, List.drop_succ_cons, List.take_succ_cons, List.take_zero] at h0 h1 h2 h3 h4 h5
  obtain ⟨f, e0, _, w0⟩ := DataW.trod_int Try.underlying3 h0
  obtain ⟨pr, e1, _, w1⟩ := DataW.trod_int Try.underlying3 h1
  obtain ⟨sf, sh, sl, e2, ok2⟩ := adr_cells h2
  obtain ⟨df, dh, dl, e3, ok3⟩ := adr_cells h3
  obtain ⟨sp, e4, _, w4⟩ := DataW.trod_int Try.underlying3 h4
  obtain ⟨dp, e5, _, w5⟩ := DataW.trod_int Try.underlying3 h5
  simp only [List.cons.injEq, and_true] at e2
  simp only [List.cons.injEq, and_true] at e3
  obtain ⟨rfl, rfl, rfl⟩ := e2
  obtain ⟨rfl, rfl, rfl⟩ := e3
  obtain rfl := one_of e0
  obtain rfl := one_of e1
  obtain rfl := one_of e4
  obtain rfl := one_of e5
  exact ⟨⟨f, pr, ⟨sf, sh, sl⟩, ⟨df, dh, dl⟩, sp, dp⟩, rfl, ⟨wf_i64 w0, wf_i64 w1, ok2, ok3, wf_i64 w4, wf_i64 w5⟩⟩
theorem open_tuple {H : Type} {enc : TypeId × Value → H} {W : World} {base : Nat} {v : Value} {d : DataW H} {p : List MemPlace}
    (hv : Value.okWide Try.prog W .any base 26 v) (h : DataW.Trod enc Try.prog W 0 (fun _ => true) true 26 v d p) : ∃ t : Tp, v = .agg (tpv t) ∧ t.ok := by
  obtain ⟨cs, rfl, hs⟩ := okWide_struct Try.underlying26 hv
  obtain ⟨fuel, hf0⟩ := h
  obtain ⟨t, e, ok⟩ := tuple_cells hf0
  refine ⟨t, ?_, ok⟩
  have e' : cs.toList = (tpv t).toList := e
  rw [Array.toList_inj.1 e']
theorem arr28 {cs : Array Value} (h : cs.size = 28) : ∃ v0 v1 v2 v3 v4 v5 v6 v7 v8 v9 v10 v11 v12 v13 v14 v15 v16 v17 v18 v19 v20 v21 v22 v23 v24 v25 v26 v27, cs = #[v0, v1, v2, v3, v4, v5, v6, v7, v8, v9, v10, v11, v12, v13, v14, v15, v16, v17, v18, v19, v20, v21, v22, v23, v24, v25, v26, v27] := by
  obtain ⟨l⟩ := cs
  match l, h with
  | [v0, v1, v2, v3, v4, v5, v6, v7, v8, v9, v10, v11, v12, v13, v14, v15, v16, v17, v18, v19, v20, v21, v22, v23, v24, v25, v26, v27], _ => exact ⟨v0, v1, v2, v3, v4, v5, v6, v7, v8, v9, v10, v11, v12, v13, v14, v15, v16, v17, v18, v19, v20, v21, v22, v23, v24, v25, v26, v27, rfl⟩
theorem open_seg {H : Type} {enc : TypeId × Value → H} {W : World} {base : Nat} {v : Value} {d : DataW H} {p : List MemPlace}
    (hv : Value.okWide Try.prog W .any base 38 v) (h : DataW.Trod enc Try.prog W 0 (fun _ => true) true 38 v d p) (hsz : ∀ n ∈ d.weights Try.prog 38, n ≤ reachBytes) :
    ∃ (x : Sg) (da : Option Addr) (dc : Nat), v = .agg (sgv x da dc) ∧ x.ok ∧ x.t.ok ∧ x.data.length ≤ dc ∧ dc ≤ 140737488351232 ∧ (da = none → dc = 0) ∧ Row W da x.data := by
  have cS : Try.prog.cellsOf 38 = 28 := by kernel_rfl
  have cT : Try.prog.cellsOf 26 = 10 := by kernel_rfl
  have cI : Try.prog.cellsOf 3 = 1 := by kernel_rfl
  have cB : Try.prog.cellsOf 4 = 1 := by kernel_rfl
  have cU : Try.prog.cellsOf 33 = 1 := by kernel_rfl
  have cY : Try.prog.cellsOf 28 = 1 := by kernel_rfl
  obtain ⟨cs, rfl, hs⟩ := okWide_struct Try.underlying38 hv
  obtain ⟨v0, v1, v2, v3, v4, v5, v6, v7, v8, v9, v10, v11, v12, v13, v14, v15, v16, v17, v18, v19, v20, v21, v22, v23, v24, v25, v26, v27, rfl⟩ := arr28 (hs.trans cS)
  obtain ⟨fuel, hf0⟩ := h
  obtain ⟨xs, n, _, hx, hl, hlen, hf⟩ := DataW.trod_struct Try.underlying38 hf0
  obtain ⟨y0, y1, y2, y3, y4, y5, y6, y7, y8, y9, rfl⟩ : ∃ y0 y1 y2 y3 y4 y5 y6 y7 y8 y9, xs = [y0, y1, y2, y3, y4, y5, y6, y7, y8, y9] := by
    match xs, hlen with
    | [y0, y1, y2, y3, y4, y5, y6, y7, y8, y9], _ => exact ⟨y0, y1, y2, y3, y4, y5, y6, y7, y8, y9, rfl⟩
  have h0 : DataW.trod enc Try.prog W 0 (fun _ => true) true n 26 ((([v0, v1, v2, v3, v4, v5, v6, v7, v8, v9, v10, v11, v12, v13, v14, v15, v16, v17, v18, v19, v20, v21, v22, v23, v24, v25, v26, v27] : List Value).drop 0).take (Try.prog.cellsOf 26)) = some y0 := hf 0 _ rfl
  have h1 : DataW.trod enc Try.prog W 0 (fun _ => true) true n 3 ((([v0, v1, v2, v3, v4, v5, v6, v7, v8, v9, v10, v11, v12, v13, v14, v15, v16, v17, v18, v19, v20, v21, v22, v23, v24, v25, v26, v27] : List Value).drop 10).take (Try.prog.cellsOf 3)) = some y1 := hf 1 _ rfl
  have h2 : DataW.trod enc Try.prog W 0 (fun _ => true) true n 33 ((([v0, v1, v2, v3, v4, v5, v6, v7, v8, v9, v10, v11, v12, v13, v14, v15, v16, v17, v18, v19, v20, v21, v22, v23, v24, v25, v26, v27] : List Value).drop 11).take (Try.prog.cellsOf 33)) = some y2 := hf 2 _ rfl
  have h3 : DataW.trod enc Try.prog W 0 (fun _ => true) true n 33 ((([v0, v1, v2, v3, v4, v5, v6, v7, v8, v9, v10, v11, v12, v13, v14, v15, v16, v17, v18, v19, v20, v21, v22, v23, v24, v25, v26, v27] : List Value).drop 12).take (Try.prog.cellsOf 33)) = some y3 := hf 3 _ rfl
  have h4 : DataW.trod enc Try.prog W 0 (fun _ => true) true n 3 ((([v0, v1, v2, v3, v4, v5, v6, v7, v8, v9, v10, v11, v12, v13, v14, v15, v16, v17, v18, v19, v20, v21, v22, v23, v24, v25, v26, v27] : List Value).drop 13).take (Try.prog.cellsOf 3)) = some y4 := hf 4 _ rfl
  have h5 : DataW.trod enc Try.prog W 0 (fun _ => true) true n 3 ((([v0, v1, v2, v3, v4, v5, v6, v7, v8, v9, v10, v11, v12, v13, v14, v15, v16, v17, v18, v19, v20, v21, v22, v23, v24, v25, v26, v27] : List Value).drop 14).take (Try.prog.cellsOf 3)) = some y5 := hf 5 _ rfl
  have h6 : DataW.trod enc Try.prog W 0 (fun _ => true) true n 3 ((([v0, v1, v2, v3, v4, v5, v6, v7, v8, v9, v10, v11, v12, v13, v14, v15, v16, v17, v18, v19, v20, v21, v22, v23, v24, v25, v26, v27] : List Value).drop 15).take (Try.prog.cellsOf 3)) = some y6 := hf 6 _ rfl
  have h7 : DataW.trod enc Try.prog W 0 (fun _ => true) true n 4 ((([v0, v1, v2, v3, v4, v5, v6, v7, v8, v9, v10, v11, v12, v13, v14, v15, v16, v17, v18, v19, v20, v21, v22, v23, v24, v25, v26, v27] : List Value).drop 16).take (Try.prog.cellsOf 4)) = some y7 := hf 7 _ rfl
  have h8 : DataW.trod enc Try.prog W 0 (fun _ => true) true n 26 ((([v0, v1, v2, v3, v4, v5, v6, v7, v8, v9, v10, v11, v12, v13, v14, v15, v16, v17, v18, v19, v20, v21, v22, v23, v24, v25, v26, v27] : List Value).drop 17).take (Try.prog.cellsOf 26)) = some y8 := hf 8 _ rfl
  have h9 : DataW.trod enc Try.prog W 0 (fun _ => true) true n 28 ((([v0, v1, v2, v3, v4, v5, v6, v7, v8, v9, v10, v11, v12, v13, v14, v15, v16, v17, v18, v19, v20, v21, v22, v23, v24, v25, v26, v27] : List Value).drop 27).take (Try.prog.cellsOf 28)) = some y9 := hf 9 _ rfl
  simp only [cT, cI, cB, cU, cY, List.drop_zero, List.drop_succ_cons, List.take_succ_cons, List.take_zero] at h0 h1 h2 h3 h4 h5 h6 h7 h8 h9
  obtain ⟨t, e0, ok0⟩ := tuple_cells h0
  obtain ⟨fl, e1, _, w1⟩ := DataW.trod_int Try.underlying3 h1
  obtain ⟨sq, e2, _, w2⟩ := DataW.trod_int Try.underlying33 h2
  obtain ⟨ak, e3, _, w3⟩ := DataW.trod_int Try.underlying33 h3
  obtain ⟨wn, e4, _, w4⟩ := DataW.trod_int Try.underlying3 h4
  obtain ⟨ty, e5, _, w5⟩ := DataW.trod_int Try.underlying3 h5
  obtain ⟨cd, e6, _, w6⟩ := DataW.trod_int Try.underlying3 h6
  obtain ⟨er, e7, _⟩ := DataW.trod_bool Try.underlying4 h7
  obtain ⟨ti, e8, ok8⟩ := tuple_cells h8
  have hd : d = .agg [y0.1, y1.1, y2.1, y3.1, y4.1, y5.1, y6.1, y7.1, y8.1, y9.1] := by simpa using congrArg Prod.fst hx
  obtain ⟨da, dc, dat, e9, g1, g2, g3, g4⟩ := bytes_cells h9 (fun m hm => hsz m (by
    rw [hd]
    simp only [DataW.weights, Try.underlying38]
    exact DataW.weights_mem_each (j := 9) (t := 28) rfl rfl m hm))
  simp only [List.cons.injEq, and_true] at e0
  simp only [List.cons.injEq, and_true] at e8
  obtain ⟨rfl, rfl, rfl, rfl, rfl, rfl, rfl, rfl, rfl, rfl⟩ := e0
  obtain ⟨rfl, rfl, rfl, rfl, rfl, rfl, rfl, rfl, rfl, rfl⟩ := e8
  obtain rfl := one_of e1
  obtain rfl := one_of e2
  obtain rfl := one_of e3
  obtain rfl := one_of e4
  obtain rfl := one_of e5
  obtain rfl := one_of e6
  obtain rfl := one_of e7
  obtain rfl := one_of e9
  exact ⟨⟨t, fl, sq, ak, wn, ty, cd, er, ti, dat⟩, da, dc, rfl, ⟨ok0.s, ok0.d, wf_u32 w2, wf_u32 w3⟩, ok0, g1, g2, g3, g4⟩
end Go.Proofs.Ytgdpcomcndidcaa

namespace Go.Proofs.Ytgdpcomcndidcaa
open Go.RowKit
set_option linter.unusedVariables false
set_option linter.unusedSimpArgs false

set_option maxRecDepth 100000 in
set_option maxHeartbeats 4000000 in
theorem build_yes (x : Sg) (a : Option Addr) (c : Nat) (w : World) (h : Row w a x.data) (hnil : a = none → c = 0) (ok : x.ok) (hE : endsB x.t.fam x.t.s x.t.d = true) (hP : protoB x = true) (hN : numB x = true) (hL : x.data.length ≤ 65000) :
    Calls Try.prog 19 #[.agg #[.int .i64 x.t.fam, .int .i64 x.t.pr, .int .i64 x.t.s.fam, .int .u64 x.t.s.hi, .int .u64 x.t.s.lo, .int .i64 x.t.d.fam, .int .u64 x.t.d.hi, .int .u64 x.t.d.lo, .int .i64 x.t.sp, .int .i64 x.t.dp, .int .i64 x.fl, .int .u32 x.sq, .int .u32 x.ak, .int .i64 x.wn, .int .i64 x.ty, .int .i64 x.cd, .bool x.er, .int .i64 x.inn.fam, .int .i64 x.inn.pr, .int .i64 x.inn.s.fam, .int .u64 x.inn.s.hi, .int .u64 x.inn.s.lo, .int .i64 x.inn.d.fam, .int .u64 x.inn.d.hi, .int .u64 x.inn.d.lo, .int .i64 x.inn.sp, .int .i64 x.inn.dp, .slice a x.data.length c]] w fun e w' => ∃ a' c', e = .returned (.tuple #[.slice a' (madeB x).length c', .int .i64 0]) ∧ Fresh w w' a' c' (madeB x) := by
  obtain ⟨W1, hW1⟩ : ∃ W1, w.alloc (.cells #[.int .i64 x.t.fam, .int .i64 x.t.pr, .int .i64 x.t.s.fam, .int .u64 x.t.s.hi, .int .u64 x.t.s.lo, .int .i64 x.t.d.fam, .int .u64 x.t.d.hi, .int .u64 x.t.d.lo, .int .i64 x.t.sp, .int .i64 x.t.dp, .int .i64 x.fl, .int .u32 x.sq, .int .u32 x.ak, .int .i64 x.wn, .int .i64 x.ty, .int .i64 x.cd, .bool x.er, .int .i64 x.inn.fam, .int .i64 x.inn.pr, .int .i64 x.inn.s.fam, .int .u64 x.inn.s.hi, .int .u64 x.inn.s.lo, .int .i64 x.inn.d.fam, .int .u64 x.inn.d.hi, .int .u64 x.inn.d.lo, .int .i64 x.inn.sp, .int .i64 x.inn.dp, .slice a x.data.length c] 38) = W1 := ⟨_, rfl⟩
  have b1 : Below w.heap.size w W1 := by rw [← hW1]; exact (Below.refl _ _).alloc (Nat.le_refl _) _
  have B1 : Blk W1 w.heap.size 38 #[.int .i64 x.t.fam, .int .i64 x.t.pr, .int .i64 x.t.s.fam, .int .u64 x.t.s.hi, .int .u64 x.t.s.lo, .int .i64 x.t.d.fam, .int .u64 x.t.d.hi, .int .u64 x.t.d.lo, .int .i64 x.t.sp, .int .i64 x.t.dp, .int .i64 x.fl, .int .u32 x.sq, .int .u32 x.ak, .int .i64 x.wn, .int .i64 x.ty, .int .i64 x.cd, .bool x.er, .int .i64 x.inn.fam, .int .i64 x.inn.pr, .int .i64 x.inn.s.fam, .int .u64 x.inn.s.hi, .int .u64 x.inn.s.lo, .int .i64 x.inn.d.fam, .int .u64 x.inn.d.hi, .int .u64 x.inn.d.lo, .int .i64 x.inn.sp, .int .i64 x.inn.dp, .slice a x.data.length c] := by rw [← hW1]; exact blk_new _ _ _
  have g1 : w.heap.size < W1.heap.size := B1.lt
  obtain ⟨W2, hW2⟩ : ∃ W2, W1.alloc (.cells #[.int .i64 0, .int .i64 0, .int .i64 0, .int .u64 0, .int .u64 0, .int .i64 0, .int .u64 0, .int .u64 0, .int .i64 0, .int .i64 0] 26) = W2 := ⟨_, rfl⟩
  have b2 : Below w.heap.size w W2 := by rw [← hW2]; exact b1.alloc b1.size _
  have B2 : Blk W2 w.heap.size 38 #[.int .i64 x.t.fam, .int .i64 x.t.pr, .int .i64 x.t.s.fam, .int .u64 x.t.s.hi, .int .u64 x.t.s.lo, .int .i64 x.t.d.fam, .int .u64 x.t.d.hi, .int .u64 x.t.d.lo, .int .i64 x.t.sp, .int .i64 x.t.dp, .int .i64 x.fl, .int .u32 x.sq, .int .u32 x.ak, .int .i64 x.wn, .int .i64 x.ty, .int .i64 x.cd, .bool x.er, .int .i64 x.inn.fam, .int .i64 x.inn.pr, .int .i64 x.inn.s.fam, .int .u64 x.inn.s.hi, .int .u64 x.inn.s.lo, .int .i64 x.inn.d.fam, .int .u64 x.inn.d.hi, .int .u64 x.inn.d.lo, .int .i64 x.inn.sp, .int .i64 x.inn.dp, .slice a x.data.length c] := by rw [← hW2]; exact B1.alloc _
  have T2 : Blk W2 W1.heap.size 26 #[.int .i64 0, .int .i64 0, .int .i64 0, .int .u64 0, .int .u64 0, .int .i64 0, .int .u64 0, .int .u64 0, .int .i64 0, .int .i64 0] := by rw [← hW2]; exact blk_new _ _ _
  obtain ⟨W3, hW3⟩ : ∃ W, W2.setRow W1.heap.size #[.int .i64 x.t.fam, .int .i64 x.t.pr, .int .i64 x.t.s.fam, .int .u64 x.t.s.hi, .int .u64 x.t.s.lo, .int .i64 x.t.d.fam, .int .u64 x.t.d.hi, .int .u64 x.t.d.lo, .int .i64 x.t.sp, .int .i64 x.t.dp] = W := ⟨_, rfl⟩
  have b3 : Below w.heap.size w W3 := by rw [← hW3]; exact below_setRow b2 (Nat.le_of_lt g1) _
  have B3 : Blk W3 w.heap.size 38 #[.int .i64 x.t.fam, .int .i64 x.t.pr, .int .i64 x.t.s.fam, .int .u64 x.t.s.hi, .int .u64 x.t.s.lo, .int .i64 x.t.d.fam, .int .u64 x.t.d.hi, .int .u64 x.t.d.lo, .int .i64 x.t.sp, .int .i64 x.t.dp, .int .i64 x.fl, .int .u32 x.sq, .int .u32 x.ak, .int .i64 x.wn, .int .i64 x.ty, .int .i64 x.cd, .bool x.er, .int .i64 x.inn.fam, .int .i64 x.inn.pr, .int .i64 x.inn.s.fam, .int .u64 x.inn.s.hi, .int .u64 x.inn.s.lo, .int .i64 x.inn.d.fam, .int .u64 x.inn.d.hi, .int .u64 x.inn.d.lo, .int .i64 x.inn.sp, .int .i64 x.inn.dp, .slice a x.data.length c] := by rw [← hW3]; exact B2.other (by omega) _
  have T3 : Blk W3 W1.heap.size 26 #[.int .i64 x.t.fam, .int .i64 x.t.pr, .int .i64 x.t.s.fam, .int .u64 x.t.s.hi, .int .u64 x.t.s.lo, .int .i64 x.t.d.fam, .int .u64 x.t.d.hi, .int .u64 x.t.d.lo, .int .i64 x.t.sp, .int .i64 x.t.dp] := by rw [← hW3]; exact T2.set _
  have HW3 : Hid _ := hW3
  clear hW3
  have K0 : Hid _ := ofFamily_any x.t.fam x.t.s.fam x.t.s.hi x.t.s.lo x.t.d.fam x.t.d.hi x.t.d.lo W3
  have e0 := T3.cell 0 (.int .i64 x.t.fam) rfl
  have e1 := T3.cell 1 (.int .i64 x.t.pr) rfl
  have e2 := T3.cell 2 (.int .i64 x.t.s.fam) rfl
  have e3 := T3.cell 3 (.int .u64 x.t.s.hi) rfl
  have e4 := T3.cell 4 (.int .u64 x.t.s.lo) rfl
  have e5 := T3.cell 5 (.int .i64 x.t.d.fam) rfl
  have e6 := T3.cell 6 (.int .u64 x.t.d.hi) rfl
  have e7 := T3.cell 7 (.int .u64 x.t.d.lo) rfl
  rw [show endsB x.t.fam ⟨x.t.s.fam, x.t.s.hi, x.t.s.lo⟩ ⟨x.t.d.fam, x.t.d.hi, x.t.d.lo⟩ = true from hE] at K0
  have KP : Hid (∀ W, Calls Try.prog 39 #[.agg #[.int .i64 x.t.fam, .int .i64 x.t.pr, .int .i64 x.t.s.fam, .int .u64 x.t.s.hi, .int .u64 x.t.s.lo, .int .i64 x.t.d.fam, .int .u64 x.t.d.hi, .int .u64 x.t.d.lo, .int .i64 x.t.sp, .int .i64 x.t.dp]] W fun e w' => e = .returned (.bool true) ∧ Below W.heap.size W w') := fun W => by
    have := rightProto_any x W
    rw [hP] at this
    exact this
  have KN : Hid (∀ W, Calls Try.prog 40 #[.agg #[.int .i64 x.t.fam, .int .i64 x.t.pr, .int .i64 x.t.s.fam, .int .u64 x.t.s.hi, .int .u64 x.t.s.lo, .int .i64 x.t.d.fam, .int .u64 x.t.d.hi, .int .u64 x.t.d.lo, .int .i64 x.t.sp, .int .i64 x.t.dp, .int .i64 x.fl, .int .u32 x.sq, .int .u32 x.ak, .int .i64 x.wn, .int .i64 x.ty, .int .i64 x.cd, .bool x.er, .int .i64 x.inn.fam, .int .i64 x.inn.pr, .int .i64 x.inn.s.fam, .int .u64 x.inn.s.hi, .int .u64 x.inn.s.lo, .int .i64 x.inn.d.fam, .int .u64 x.inn.d.hi, .int .u64 x.inn.d.lo, .int .i64 x.inn.sp, .int .i64 x.inn.dp, .slice a x.data.length c]] W fun e w' => e = .returned (.bool true) ∧ Below W.heap.size W w') := fun W => by
    have := rightNumbers_any x a c W
    rw [hN] at this
    exact this
  obtain ⟨HD, hHD⟩ : ∃ L, headB x = L := ⟨_, rfl⟩
  obtain ⟨P, hP_⟩ : ∃ P, placeB x = P := ⟨_, rfl⟩
  obtain ⟨BD, hBD⟩ : ∃ L, bodyB x = L := ⟨_, rfl⟩
  have hBD' : HD ++ x.data = BD := by rw [← hBD, ← hHD]; rfl
  have lH := headB_len x
  rw [hHD, hP_] at lH
  have lB : BD.length = HD.length + x.data.length := by rw [← hBD', List.length_append]
  have lP : P + 2 ≤ BD.length := by omega
  have lB2 : BD.length ≤ 65020 := by omega
  obtain ⟨L0, hL0⟩ : ∃ L, ahead x.t.s x.t.d x.t.pr BD.length = L := ⟨_, rfl⟩
  obtain ⟨SU, hSU⟩ : ∃ s, sumB x = s := ⟨_, rfl⟩
  have hSU' : 65535 - M.sumOf [L0, BD] = SU := by rw [← hSU, ← hL0, ← hBD]; rfl
  have qS := sumB_bd x
  rw [hSU] at qS
  obtain ⟨CK, hCK⟩ : ∃ s, checkB x = s := ⟨_, rfl⟩
  have qC := checkB_bd x
  rw [hCK] at qC
  obtain ⟨MD, hMD⟩ : ∃ s, madeB x = s := ⟨_, rfl⟩
  have hMD' : (BD.set P (CK / 256)).set (P + 1) (CK % 256) = MD := by rw [← hMD, ← hBD, ← hP_, ← hCK]; rfl
  rw [hMD]
  have KW : Hid (∀ W, Calls Try.prog 41 #[.agg #[.int .i64 x.t.fam, .int .i64 x.t.pr, .int .i64 x.t.s.fam, .int .u64 x.t.s.hi, .int .u64 x.t.s.lo, .int .i64 x.t.d.fam, .int .u64 x.t.d.hi, .int .u64 x.t.d.lo, .int .i64 x.t.sp, .int .i64 x.t.dp, .int .i64 x.fl, .int .u32 x.sq, .int .u32 x.ak, .int .i64 x.wn, .int .i64 x.ty, .int .i64 x.cd, .bool x.er, .int .i64 x.inn.fam, .int .i64 x.inn.pr, .int .i64 x.inn.s.fam, .int .u64 x.inn.s.hi, .int .u64 x.inn.s.lo, .int .i64 x.inn.d.fam, .int .u64 x.inn.d.hi, .int .u64 x.inn.d.lo, .int .i64 x.inn.sp, .int .i64 x.inn.dp, .slice a x.data.length c]] W fun e w' => ∃ a' c', e = .returned (.tuple #[.slice a' HD.length c', .int .i64 (P : Nat)]) ∧ Fresh W w' a' c' HD) := fun W => by
    have := written_any x a c W ok.sq ok.ak h.small
    rw [hHD, hP_] at this
    exact this
  have KS : Hid (∀ W, Calls Try.prog 43 #[.agg #[.int .i64 x.t.fam, .int .i64 x.t.pr, .int .i64 x.t.s.fam, .int .u64 x.t.s.hi, .int .u64 x.t.s.lo, .int .i64 x.t.d.fam, .int .u64 x.t.d.hi, .int .u64 x.t.d.lo, .int .i64 x.t.sp, .int .i64 x.t.dp], .int .i64 (BD.length : Int)] W fun e w' => ∃ a c, e = .returned (.slice a L0.length c) ∧ Fresh W w' a c L0) := fun W => by
    have := summed_any x.t.fam x.t.pr x.t.s.fam x.t.s.hi x.t.s.lo x.t.d.fam x.t.d.hi x.t.d.lo x.t.sp x.t.dp (BD.length : Int) W ok.s ok.d
    rw [show ahead ⟨x.t.s.fam, x.t.s.hi, x.t.s.lo⟩ ⟨x.t.d.fam, x.t.d.hi, x.t.d.lo⟩ x.t.pr (BD.length : Int) = L0 from hL0] at this
    exact this
  have KC : Hid (∀ W a' c' a2 c2, Row W a' L0 → Row W a2 BD → Calls Try.prog 42 #[.slice (some ⟨W.heap.size, 0, none⟩) 2 2] (W.alloc (.cells #[.slice a' L0.length c', .slice a2 BD.length c2] 28)) fun e w' => e = .returned (.int .i64 SU) ∧ w' = W.alloc (.cells #[.slice a' L0.length c', .slice a2 BD.length c2] 28)) := fun W a' c' a2 c2 h1 h2 => by
    have := check_any (some ⟨W.heap.size, 0, none⟩) 2 [L0, BD] _ (rowss_two W 28 W.heap.size rfl a' a2 c' c2 L0 BD h1 h2)
    rw [hSU'] at this
    exact this
  have HBD : Hid (HD ++ x.data = BD) := hBD'
  have HMD : Hid ((BD.set P (CK / 256)).set (P + 1) (CK % 256) = MD) := hMD'
  have hL' : ¬ (x.data.length : Int) > 65000 := by omega
  have j1 : (0 : Int) ≤ (P : Int) := by omega
  have j2 : (P : Int) < (BD.length : Int) := by omega
  have j3 : (P : Int) + 1 < (BD.length : Int) := by omega
  have w1 : IntKind.i64.wrap ((P : Int) + 1) = (P : Int) + 1 := wraps_i64 _ (by omega) (by omega)
  have wc1 : IntKind.u8.wrap (CK / 256) = CK / 256 := by rw [wrapU8]; omega
  have wc2 : IntKind.u8.wrap CK = CK % 256 := wrapU8 CK
  have hckc : CK = if SU = 0 ∧ x.t.pr = 17 then 65535 else SU := by rw [← hCK, ← hSU]; rfl
  have HCK : Hid (CK = if SU = 0 ∧ x.t.pr = 17 then 65535 else SU) := hckc
  clear hHD hP_ hBD hBD' hL0 hSU hSU' hCK hMD hMD' hckc lB lH
  go_enter Try.func19, Try.ntmps19
  go_wp2_with (first
    | (refine wpList_load_sub rfl _ _ rfl w.heap.size 0 38 (by rfl) _ #[.int .i64 x.t.fam, .int .i64 x.t.pr, .int .i64 x.t.s.fam, .int .u64 x.t.s.hi, .int .u64 x.t.s.lo, .int .i64 x.t.d.fam, .int .u64 x.t.d.hi, .int .u64 x.t.d.lo, .int .i64 x.t.sp, .int .i64 x.t.dp] B1 (by rfl) Try.underlying26 (by kernel_rfl) ?_)
    | (refine wpList_store_row rfl _ _ _ rfl W1.heap.size #[.int .i64 x.t.fam, .int .i64 x.t.pr, .int .i64 x.t.s.fam, .int .u64 x.t.s.hi, .int .u64 x.t.s.lo, .int .i64 x.t.d.fam, .int .u64 x.t.d.hi, .int .u64 x.t.d.lo, .int .i64 x.t.sp, .int .i64 x.t.dp] (by rfl) (by rfl) _ _ T2 (by kernel_rfl) (by rfl) (by kernel_rfl) ?_; rw [HW3.out]))
  refine Calls.mono K0.out ?_
  rintro e W4 ⟨rfl, bb⟩
  have b4 : Below w.heap.size w W4 := b3.trans (bb.mono b3.size)
  have B4 := B3.kept bb
  have T4 := T3.kept bb
  clear K0 bb B1 b1 B2 T2 b2 B3 T3 b3 hW1 hW2 HW3 e0 e1 e2 e3 e4 e5 e6 e7
  go_wp2_with (refine wpList_load_blk_w (by kernel_rfl) _ _ rfl W1.heap.size (by rfl) _ T4 Try.underlying26 (by kernel_rfl) ?_)
  refine Calls.mono (KP.out _) ?_
  rintro e W5 ⟨rfl, bb⟩
  have b5 : Below w.heap.size w W5 := b4.trans (bb.mono b4.size)
  have B5 := B4.kept bb
  have T5 := T4.kept bb
  clear KP bb B4 T4 b4
  go_wp2_with (refine wpList_load_blk_w (by kernel_rfl) _ _ rfl w.heap.size (by rfl) _ B5 Try.underlying38 (by kernel_rfl) ?_)
  refine Calls.mono (KN.out _) ?_
  rintro e W6 ⟨rfl, bb⟩
  have b6 : Below w.heap.size w W6 := b5.trans (bb.mono b5.size)
  have B6 := B5.kept bb
  have T6 := T5.kept bb
  clear KN bb B5 T5 b5
  have e27 := B6.cell 27 (.slice a x.data.length c) rfl
  go_wp2_with (refine wpList_load_row rfl _ _ rfl w.heap.size (by rfl) _ _ _ _ B6 Try.underlying38 rfl (by kernel_rfl) ?_)
  refine Calls.mono (KW.out _) ?_
  rintro e W7 ⟨a7, c7, rfl, f7⟩
  have b7 : Below w.heap.size w W7 := b6.trans (f7.below.mono b6.size)
  have B7 := B6.kept f7.below
  have T7 := T6.kept f7.below
  have e27 := B7.cell 27 (.slice a x.data.length c) rfl
  have KX : Hid _ := concat2 W7 a7 a c7 c HD x.data BD f7.row f7.nil (h.below b7) hnil HBD.out (by omega)
  clear KW f7 B6 T6 b6 HBD
  go_wp2_with fail
  refine Calls.mono KX.out ?_
  rintro e W8 ⟨a8, c8, rfl, f8⟩
  have b8 : Below w.heap.size w W8 := b7.trans (f8.below.mono b7.size)
  have T8 := T7.kept f8.below
  have r8 := f8.row
  have O8 := owns_le (B' := W1.heap.size + 1) (by have := T7.lt; omega) f8.owns
  have rm8 := f8.room
  have nl8 := f8.nil
  clear KX f8 B7 T7 b7 e27
  go_wp2_with (refine wpList_load_row rfl _ _ rfl W1.heap.size (by rfl) _ _ _ _ T8 Try.underlying26 rfl (by kernel_rfl) ?_)
  refine Calls.mono (KS.out _) ?_
  rintro e W9 ⟨a9, c9, rfl, f9⟩
  have b9 : Below w.heap.size w W9 := b8.trans (f9.below.mono b8.size)
  have T9 := T8.kept f9.below
  have r9 := r8.below f9.below
  have O9 := O8.below f9.below
  have q9 := f9.row
  clear KS f9 T8 b8 r8 O8
  go_wp2_with fail
  refine Calls.mono (KC.out _ _ _ _ _ q9 r9) ?_
  rintro e W10 ⟨rfl, hW10⟩
  have b10 : Below w.heap.size w W10 := by rw [hW10]; exact b9.alloc b9.size _
  have T10 : Blk W10 W1.heap.size 26 #[.int .i64 x.t.fam, .int .i64 x.t.pr, .int .i64 x.t.s.fam, .int .u64 x.t.s.hi, .int .u64 x.t.s.lo, .int .i64 x.t.d.fam, .int .u64 x.t.d.hi, .int .u64 x.t.d.lo, .int .i64 x.t.sp, .int .i64 x.t.dp] := by rw [hW10]; exact T9.alloc _
  have r10 : Row W10 a8 BD := by rw [hW10]; exact r9.alloc _
  have O10 : Owns W10 (W1.heap.size + 1) (.slice a8 BD.length c8) BD := by rw [hW10]; exact O9.alloc _
  have t1 := T10.cell 1 (.int .i64 x.t.pr) rfl
  clear KC hW10 T9 b9 r9 O9 q9
  obtain ⟨g, rfl, hg1, hg2, y1, z1, O11⟩ := O10.write rfl P (by omega)
  obtain ⟨g', hg', _, _, y2, z2, _⟩ := O10.write rfl (P + 1) (by omega)
  cases hg'
  have O12 := (O11 (CK / 256)).write (by simp) (P + 1) (by omega)
  obtain ⟨g', hg', _, _, _, _, O12⟩ := O12
  cases hg'
  have Of := O12 (CK % 256)
  rw [HMD.out] at Of
  have bf := (b10.setCell (p := ⟨g, P, none⟩) (show w.heap.size ≤ g by omega) (.int .u8 (CK / 256))).setCell (p := ⟨g, P + 1, none⟩) (show w.heap.size ≤ g by omega) (.int .u8 (CK % 256))
  have lM : MD.length = BD.length := by rw [← HMD.out]; simp
  have bM : M.Bytes MD := by
    rw [← HMD.out]
    exact (r10.bytes.set P (by omega)).set (P + 1) (by omega)
  have HOf : Hid (Owns ((W10.setCell ⟨g, P, none⟩ (.int .u8 (CK / 256))).setCell ⟨g, P + 1, none⟩ (.int .u8 (CK % 256))) (W1.heap.size + 1) (.slice (some ⟨g, 0, none⟩) BD.length c8) MD) := Of
  have Hbf : Hid _ := bf
  clear O11 O12 O10 Of bf T10
  have lM' : Hid (MD.length = BD.length) := lM
  clear lM
  by_cases hz : SU = 0
  · have hz' : (SU == 0) = true := by simpa using hz
    by_cases h17 : x.t.pr = 17
    · have h17' : (x.t.pr == 17) = true := by simpa using h17
      have e : CK = 65535 := by rw [HCK.out, if_pos ⟨hz, h17⟩]
      subst e
      clear hz h17 HCK
      go_wp2
      go_ret2
      have lM := lM'.out
      have Of : Owns _ (W1.heap.size + 1) (.slice (some ⟨g, 0, none⟩) BD.length c8) MD := HOf.out
      rw [← lM] at Of
      have Rf := Owns.row Of (by omega) bM
      exact ⟨some ⟨g, 0, none⟩, c8, by rw [lM]; rfl, owns_le (by omega) Of, by omega, nl8, Rf, Hbf.out⟩
    · have h17' : (x.t.pr == 17) = false := by simpa using h17
      have e : CK = SU := by rw [HCK.out, if_neg (by intro hh; exact h17 hh.2)]
      subst e
      clear hz h17 HCK
      go_wp2
      go_ret2
      have lM := lM'.out
      have Of : Owns _ (W1.heap.size + 1) (.slice (some ⟨g, 0, none⟩) BD.length c8) MD := HOf.out
      rw [← lM] at Of
      have Rf := Owns.row Of (by omega) bM
      exact ⟨some ⟨g, 0, none⟩, c8, by rw [lM]; rfl, owns_le (by omega) Of, by omega, nl8, Rf, Hbf.out⟩
  · have hz' : (SU == 0) = false := by simpa using hz
    have e : CK = SU := by rw [HCK.out, if_neg (by intro hh; exact hz hh.1)]
    subst e
    clear hz HCK
    go_wp2
    go_ret2
    have lM := lM'.out
    have Of : Owns _ (W1.heap.size + 1) (.slice (some ⟨g, 0, none⟩) BD.length c8) MD := HOf.out
    rw [← lM] at Of
    have Rf := Owns.row Of (by omega) bM
    exact ⟨some ⟨g, 0, none⟩, c8, by rw [lM]; rfl, owns_le (by omega) Of, by omega, nl8, Rf, Hbf.out⟩

theorem build_any (x : Sg) (a : Option Addr) (c : Nat) (w : World) (h : Row w a x.data) (hnil : a = none → c = 0) (ok : x.ok) :
    Calls Try.prog 19 #[.agg #[.int .i64 x.t.fam, .int .i64 x.t.pr, .int .i64 x.t.s.fam, .int .u64 x.t.s.hi, .int .u64 x.t.s.lo, .int .i64 x.t.d.fam, .int .u64 x.t.d.hi, .int .u64 x.t.d.lo, .int .i64 x.t.sp, .int .i64 x.t.dp, .int .i64 x.fl, .int .u32 x.sq, .int .u32 x.ak, .int .i64 x.wn, .int .i64 x.ty, .int .i64 x.cd, .bool x.er, .int .i64 x.inn.fam, .int .i64 x.inn.pr, .int .i64 x.inn.s.fam, .int .u64 x.inn.s.hi, .int .u64 x.inn.s.lo, .int .i64 x.inn.d.fam, .int .u64 x.inn.d.hi, .int .u64 x.inn.d.lo, .int .i64 x.inn.sp, .int .i64 x.inn.dp, .slice a x.data.length c]] w fun e w' => ∃ a' c', e = .returned (.tuple #[.slice a' (if mayB x = true then madeB x else []).length c', .int .i64 (if mayB x = true then 0 else 1)]) ∧ Fresh w w' a' c' (if mayB x = true then madeB x else []) := by
  have no : mayB x = false → Calls Try.prog 19 #[.agg #[.int .i64 x.t.fam, .int .i64 x.t.pr, .int .i64 x.t.s.fam, .int .u64 x.t.s.hi, .int .u64 x.t.s.lo, .int .i64 x.t.d.fam, .int .u64 x.t.d.hi, .int .u64 x.t.d.lo, .int .i64 x.t.sp, .int .i64 x.t.dp, .int .i64 x.fl, .int .u32 x.sq, .int .u32 x.ak, .int .i64 x.wn, .int .i64 x.ty, .int .i64 x.cd, .bool x.er, .int .i64 x.inn.fam, .int .i64 x.inn.pr, .int .i64 x.inn.s.fam, .int .u64 x.inn.s.hi, .int .u64 x.inn.s.lo, .int .i64 x.inn.d.fam, .int .u64 x.inn.d.hi, .int .u64 x.inn.d.lo, .int .i64 x.inn.sp, .int .i64 x.inn.dp, .slice a x.data.length c]] w (fun e w' => e = .returned (.tuple #[.slice none 0 0, .int .i64 1]) ∧ Below w.heap.size w w') → Calls Try.prog 19 #[.agg #[.int .i64 x.t.fam, .int .i64 x.t.pr, .int .i64 x.t.s.fam, .int .u64 x.t.s.hi, .int .u64 x.t.s.lo, .int .i64 x.t.d.fam, .int .u64 x.t.d.hi, .int .u64 x.t.d.lo, .int .i64 x.t.sp, .int .i64 x.t.dp, .int .i64 x.fl, .int .u32 x.sq, .int .u32 x.ak, .int .i64 x.wn, .int .i64 x.ty, .int .i64 x.cd, .bool x.er, .int .i64 x.inn.fam, .int .i64 x.inn.pr, .int .i64 x.inn.s.fam, .int .u64 x.inn.s.hi, .int .u64 x.inn.s.lo, .int .i64 x.inn.d.fam, .int .u64 x.inn.d.hi, .int .u64 x.inn.d.lo, .int .i64 x.inn.sp, .int .i64 x.inn.dp, .slice a x.data.length c]] w fun e w' => ∃ a' c', e = .returned (.tuple #[.slice a' (if mayB x = true then madeB x else []).length c', .int .i64 (if mayB x = true then 0 else 1)]) ∧ Fresh w w' a' c' (if mayB x = true then madeB x else []) := by
    intro hm hc
    rw [hm]
    refine Calls.mono hc ?_
    rintro e w' ⟨rfl, hb⟩
    exact ⟨none, 0, rfl, fresh_nil hb⟩
  cases hE : endsB x.t.fam x.t.s x.t.d with
  | false => exact no (by unfold mayB; rw [hE]; rfl) (build_n1 x a c w h hnil ok hE)
  | true =>
    cases hP : protoB x with
    | false => exact no (by unfold mayB; rw [hE, hP]; rfl) (build_n2 x a c w h hnil ok hE hP)
    | true =>
      cases hN : numB x with
      | false => exact no (by unfold mayB; rw [hE, hP, hN]; rfl) (build_n3 x a c w h hnil ok hE hP hN)
      | true =>
        by_cases hL : x.data.length ≤ 65000
        · have hm : mayB x = true := by unfold mayB; rw [hE, hP, hN]; simpa using hL
          rw [hm]
          exact build_yes x a c w h hnil ok hE hP hN hL
        · exact no (by unfold mayB; rw [hE, hP, hN]; simpa using hL) (build_n4 x a c w h hnil ok hE hP hN hL)

end Go.Proofs.Ytgdpcomcndidcaa

namespace Go.Proofs.Ytgdpcomcndidcaa
open Go.RowKit
set_option linter.unusedVariables false
set_option linter.unusedSimpArgs false

theorem wpList_load_sub_w {ops : Array Oper} {rest : List Oper} {o : Oper} {ac : Act} {w : World} {Q : Exit → Act → World → Prop} (hw : Region.wanted o (yielded ops ac.tmps) = true) (ty : TypeId) (p : Operand) (ho : o.op = Op.load ty p) (g k : Nat) (t : TypeId) (hp : ac.eval p = .pointer (some ⟨g, k, none⟩)) (cs sub : Array Value)
    (hb : Blk w g t cs) (hs : (cs.toList.drop k).take sub.size = sub.toList) {fs : _} (hu : Try.prog.underlying ty = some (.struct fs)) (hi : (Try.prog.info? ty).map (·.size) = some sub.size) (h : wpList Try.prog ops Q rest (ac.put o.dst (.agg sub)) w) : wpList Try.prog ops Q (o :: rest) ac w := by
  refine wpList_step fun K hK => ?_
  rw [if_pos hw]
  have hl := load_sub hb k sub hs hu hi
  unfold Oper.wp
  simp [execOp, ho, hp, Instr.loadAt, Instr.sureAddr, hl, Result.andThen]
  exact hK _ _ h

set_option maxRecDepth 100000 in
set_option maxHeartbeats 4000000 in
theorem same_seg (x : Sg) (a b : Option Addr) (c d : Nat) (w : World) (h : Row w a x.data) (h' : Row w b x.data) :
    Calls Try.prog 18 #[.agg #[.int .i64 x.t.fam, .int .i64 x.t.pr, .int .i64 x.t.s.fam, .int .u64 x.t.s.hi, .int .u64 x.t.s.lo, .int .i64 x.t.d.fam, .int .u64 x.t.d.hi, .int .u64 x.t.d.lo, .int .i64 x.t.sp, .int .i64 x.t.dp, .int .i64 x.fl, .int .u32 x.sq, .int .u32 x.ak, .int .i64 x.wn, .int .i64 x.ty, .int .i64 x.cd, .bool x.er, .int .i64 x.inn.fam, .int .i64 x.inn.pr, .int .i64 x.inn.s.fam, .int .u64 x.inn.s.hi, .int .u64 x.inn.s.lo, .int .i64 x.inn.d.fam, .int .u64 x.inn.d.hi, .int .u64 x.inn.d.lo, .int .i64 x.inn.sp, .int .i64 x.inn.dp, .slice a x.data.length c], .agg #[.int .i64 x.t.fam, .int .i64 x.t.pr, .int .i64 x.t.s.fam, .int .u64 x.t.s.hi, .int .u64 x.t.s.lo, .int .i64 x.t.d.fam, .int .u64 x.t.d.hi, .int .u64 x.t.d.lo, .int .i64 x.t.sp, .int .i64 x.t.dp, .int .i64 x.fl, .int .u32 x.sq, .int .u32 x.ak, .int .i64 x.wn, .int .i64 x.ty, .int .i64 x.cd, .bool x.er, .int .i64 x.inn.fam, .int .i64 x.inn.pr, .int .i64 x.inn.s.fam, .int .u64 x.inn.s.hi, .int .u64 x.inn.s.lo, .int .i64 x.inn.d.fam, .int .u64 x.inn.d.hi, .int .u64 x.inn.d.lo, .int .i64 x.inn.sp, .int .i64 x.inn.dp, .slice b x.data.length d]] w fun e w' => e = .returned (.bool true) ∧ Below w.heap.size w w' := by
  obtain ⟨W1, hW1⟩ : ∃ W1, w.alloc (.cells #[.int .i64 x.t.fam, .int .i64 x.t.pr, .int .i64 x.t.s.fam, .int .u64 x.t.s.hi, .int .u64 x.t.s.lo, .int .i64 x.t.d.fam, .int .u64 x.t.d.hi, .int .u64 x.t.d.lo, .int .i64 x.t.sp, .int .i64 x.t.dp, .int .i64 x.fl, .int .u32 x.sq, .int .u32 x.ak, .int .i64 x.wn, .int .i64 x.ty, .int .i64 x.cd, .bool x.er, .int .i64 x.inn.fam, .int .i64 x.inn.pr, .int .i64 x.inn.s.fam, .int .u64 x.inn.s.hi, .int .u64 x.inn.s.lo, .int .i64 x.inn.d.fam, .int .u64 x.inn.d.hi, .int .u64 x.inn.d.lo, .int .i64 x.inn.sp, .int .i64 x.inn.dp, .slice a x.data.length c] 38) = W1 := ⟨_, rfl⟩
  obtain ⟨W2, hW2⟩ : ∃ W2, W1.alloc (.cells #[.int .i64 x.t.fam, .int .i64 x.t.pr, .int .i64 x.t.s.fam, .int .u64 x.t.s.hi, .int .u64 x.t.s.lo, .int .i64 x.t.d.fam, .int .u64 x.t.d.hi, .int .u64 x.t.d.lo, .int .i64 x.t.sp, .int .i64 x.t.dp, .int .i64 x.fl, .int .u32 x.sq, .int .u32 x.ak, .int .i64 x.wn, .int .i64 x.ty, .int .i64 x.cd, .bool x.er, .int .i64 x.inn.fam, .int .i64 x.inn.pr, .int .i64 x.inn.s.fam, .int .u64 x.inn.s.hi, .int .u64 x.inn.s.lo, .int .i64 x.inn.d.fam, .int .u64 x.inn.d.hi, .int .u64 x.inn.d.lo, .int .i64 x.inn.sp, .int .i64 x.inn.dp, .slice b x.data.length d] 38) = W2 := ⟨_, rfl⟩
  have b1 : Below w.heap.size w W1 := by rw [← hW1]; exact (Below.refl _ _).alloc (Nat.le_refl _) _
  have b2 : Below w.heap.size w W2 := by rw [← hW2]; exact b1.alloc b1.size _
  have B1' : Blk W1 w.heap.size 38 #[.int .i64 x.t.fam, .int .i64 x.t.pr, .int .i64 x.t.s.fam, .int .u64 x.t.s.hi, .int .u64 x.t.s.lo, .int .i64 x.t.d.fam, .int .u64 x.t.d.hi, .int .u64 x.t.d.lo, .int .i64 x.t.sp, .int .i64 x.t.dp, .int .i64 x.fl, .int .u32 x.sq, .int .u32 x.ak, .int .i64 x.wn, .int .i64 x.ty, .int .i64 x.cd, .bool x.er, .int .i64 x.inn.fam, .int .i64 x.inn.pr, .int .i64 x.inn.s.fam, .int .u64 x.inn.s.hi, .int .u64 x.inn.s.lo, .int .i64 x.inn.d.fam, .int .u64 x.inn.d.hi, .int .u64 x.inn.d.lo, .int .i64 x.inn.sp, .int .i64 x.inn.dp, .slice a x.data.length c] := by rw [← hW1]; exact blk_new _ _ _
  have B1 : Blk W2 w.heap.size 38 #[.int .i64 x.t.fam, .int .i64 x.t.pr, .int .i64 x.t.s.fam, .int .u64 x.t.s.hi, .int .u64 x.t.s.lo, .int .i64 x.t.d.fam, .int .u64 x.t.d.hi, .int .u64 x.t.d.lo, .int .i64 x.t.sp, .int .i64 x.t.dp, .int .i64 x.fl, .int .u32 x.sq, .int .u32 x.ak, .int .i64 x.wn, .int .i64 x.ty, .int .i64 x.cd, .bool x.er, .int .i64 x.inn.fam, .int .i64 x.inn.pr, .int .i64 x.inn.s.fam, .int .u64 x.inn.s.hi, .int .u64 x.inn.s.lo, .int .i64 x.inn.d.fam, .int .u64 x.inn.d.hi, .int .u64 x.inn.d.lo, .int .i64 x.inn.sp, .int .i64 x.inn.dp, .slice a x.data.length c] := by rw [← hW2]; exact B1'.alloc _
  have B2 : Blk W2 W1.heap.size 38 #[.int .i64 x.t.fam, .int .i64 x.t.pr, .int .i64 x.t.s.fam, .int .u64 x.t.s.hi, .int .u64 x.t.s.lo, .int .i64 x.t.d.fam, .int .u64 x.t.d.hi, .int .u64 x.t.d.lo, .int .i64 x.t.sp, .int .i64 x.t.dp, .int .i64 x.fl, .int .u32 x.sq, .int .u32 x.ak, .int .i64 x.wn, .int .i64 x.ty, .int .i64 x.cd, .bool x.er, .int .i64 x.inn.fam, .int .i64 x.inn.pr, .int .i64 x.inn.s.fam, .int .u64 x.inn.s.hi, .int .u64 x.inn.s.lo, .int .i64 x.inn.d.fam, .int .u64 x.inn.d.hi, .int .u64 x.inn.d.lo, .int .i64 x.inn.sp, .int .i64 x.inn.dp, .slice b x.data.length d] := by rw [← hW2]; exact blk_new _ _ _
  have K : Hid _ := same_any a b c d x.data W2 (h.below b2) (h'.below b2)
  have d0 := B1.cell 0 (.int .i64 x.t.fam) rfl
  have d1 := B1.cell 1 (.int .i64 x.t.pr) rfl
  have d2 := B1.cell 2 (.int .i64 x.t.s.fam) rfl
  have d3 := B1.cell 3 (.int .u64 x.t.s.hi) rfl
  have d4 := B1.cell 4 (.int .u64 x.t.s.lo) rfl
  have d5 := B1.cell 5 (.int .i64 x.t.d.fam) rfl
  have d6 := B1.cell 6 (.int .u64 x.t.d.hi) rfl
  have d7 := B1.cell 7 (.int .u64 x.t.d.lo) rfl
  have d8 := B1.cell 8 (.int .i64 x.t.sp) rfl
  have d9 := B1.cell 9 (.int .i64 x.t.dp) rfl
  have d10 := B1.cell 10 (.int .i64 x.fl) rfl
  have d11 := B1.cell 11 (.int .u32 x.sq) rfl
  have d12 := B1.cell 12 (.int .u32 x.ak) rfl
  have d13 := B1.cell 13 (.int .i64 x.wn) rfl
  have d14 := B1.cell 14 (.int .i64 x.ty) rfl
  have d15 := B1.cell 15 (.int .i64 x.cd) rfl
  have d16 := B1.cell 16 (.bool x.er) rfl
  have d17 := B1.cell 17 (.int .i64 x.inn.fam) rfl
  have d18 := B1.cell 18 (.int .i64 x.inn.pr) rfl
  have d19 := B1.cell 19 (.int .i64 x.inn.s.fam) rfl
  have d20 := B1.cell 20 (.int .u64 x.inn.s.hi) rfl
  have d21 := B1.cell 21 (.int .u64 x.inn.s.lo) rfl
  have d22 := B1.cell 22 (.int .i64 x.inn.d.fam) rfl
  have d23 := B1.cell 23 (.int .u64 x.inn.d.hi) rfl
  have d24 := B1.cell 24 (.int .u64 x.inn.d.lo) rfl
  have d25 := B1.cell 25 (.int .i64 x.inn.sp) rfl
  have d26 := B1.cell 26 (.int .i64 x.inn.dp) rfl
  have d27 := B1.cell 27 (.slice a x.data.length c) rfl
  have e0 := B2.cell 0 (.int .i64 x.t.fam) rfl
  have e1 := B2.cell 1 (.int .i64 x.t.pr) rfl
  have e2 := B2.cell 2 (.int .i64 x.t.s.fam) rfl
  have e3 := B2.cell 3 (.int .u64 x.t.s.hi) rfl
  have e4 := B2.cell 4 (.int .u64 x.t.s.lo) rfl
  have e5 := B2.cell 5 (.int .i64 x.t.d.fam) rfl
  have e6 := B2.cell 6 (.int .u64 x.t.d.hi) rfl
  have e7 := B2.cell 7 (.int .u64 x.t.d.lo) rfl
  have e8 := B2.cell 8 (.int .i64 x.t.sp) rfl
  have e9 := B2.cell 9 (.int .i64 x.t.dp) rfl
  have e10 := B2.cell 10 (.int .i64 x.fl) rfl
  have e11 := B2.cell 11 (.int .u32 x.sq) rfl
  have e12 := B2.cell 12 (.int .u32 x.ak) rfl
  have e13 := B2.cell 13 (.int .i64 x.wn) rfl
  have e14 := B2.cell 14 (.int .i64 x.ty) rfl
  have e15 := B2.cell 15 (.int .i64 x.cd) rfl
  have e16 := B2.cell 16 (.bool x.er) rfl
  have e17 := B2.cell 17 (.int .i64 x.inn.fam) rfl
  have e18 := B2.cell 18 (.int .i64 x.inn.pr) rfl
  have e19 := B2.cell 19 (.int .i64 x.inn.s.fam) rfl
  have e20 := B2.cell 20 (.int .u64 x.inn.s.hi) rfl
  have e21 := B2.cell 21 (.int .u64 x.inn.s.lo) rfl
  have e22 := B2.cell 22 (.int .i64 x.inn.d.fam) rfl
  have e23 := B2.cell 23 (.int .u64 x.inn.d.hi) rfl
  have e24 := B2.cell 24 (.int .u64 x.inn.d.lo) rfl
  have e25 := B2.cell 25 (.int .i64 x.inn.sp) rfl
  have e26 := B2.cell 26 (.int .i64 x.inn.dp) rfl
  have e27 := B2.cell 27 (.slice b x.data.length d) rfl
  go_enter Try.func18, Try.ntmps18
  go_wp2_with fail
  refine Calls.mono K.out ?_
  rintro e W3 ⟨rfl, hW3⟩
  rw [hW3]
  clear K hW3 W3
  go_wp2
  go_ret
  exact ⟨rfl, b2⟩

def smallSg : Sg := ⟨⟨4, 17, ⟨4, 0, 167772161⟩, ⟨4, 0, 167772162⟩, 53, 1024⟩, 0, 0, 0, 0, 0, 0, false, zTp, [1, 2, 3, 4]⟩
theorem bytes1234 : M.Bytes [1, 2, 3, 4] := M.Bytes.of (by decide)
set_option maxRecDepth 100000 in
set_option maxHeartbeats 4000000 in
theorem small_any (w : World) : Calls Try.prog 32 #[] w fun e w' => ∃ G, e = .returned (.agg #[.int .i64 4, .int .i64 17, .int .i64 4, .int .u64 0, .int .u64 167772161, .int .i64 4, .int .u64 0, .int .u64 167772162, .int .i64 53, .int .i64 1024, .int .i64 0, .int .u32 0, .int .u32 0, .int .i64 0, .int .i64 0, .int .i64 0, .bool false, .int .i64 0, .int .i64 0, .int .i64 0, .int .u64 0, .int .u64 0, .int .i64 0, .int .u64 0, .int .u64 0, .int .i64 0, .int .i64 0, .slice (some ⟨G, 0, none⟩) 4 4]) ∧ Row w' (some ⟨G, 0, none⟩) [1, 2, 3, 4] ∧ Below w.heap.size w w' := by
  obtain ⟨W1, hW1⟩ : ∃ W1, w.alloc (.cells #[.int .i64 0, .int .i64 0, .int .i64 0, .int .u64 0, .int .u64 0, .int .i64 0, .int .u64 0, .int .u64 0, .int .i64 0, .int .i64 0, .int .i64 0, .int .u32 0, .int .u32 0, .int .i64 0, .int .i64 0, .int .i64 0, .bool false, .int .i64 0, .int .i64 0, .int .i64 0, .int .u64 0, .int .u64 0, .int .i64 0, .int .u64 0, .int .u64 0, .int .i64 0, .int .i64 0, .slice none 0 0] 38) = W1 := ⟨_, rfl⟩
  have b1 : Below w.heap.size w W1 := by rw [← hW1]; exact (Below.refl _ _).alloc (Nat.le_refl _) _
  have B1 : Blk W1 w.heap.size 38 #[.int .i64 0, .int .i64 0, .int .i64 0, .int .u64 0, .int .u64 0, .int .i64 0, .int .u64 0, .int .u64 0, .int .i64 0, .int .i64 0, .int .i64 0, .int .u32 0, .int .u32 0, .int .i64 0, .int .i64 0, .int .i64 0, .bool false, .int .i64 0, .int .i64 0, .int .i64 0, .int .u64 0, .int .u64 0, .int .i64 0, .int .u64 0, .int .u64 0, .int .i64 0, .int .i64 0, .slice none 0 0] := by rw [← hW1]; exact blk_new _ _ _
  have g1 : w.heap.size < W1.heap.size := B1.lt
  obtain ⟨W2, hW2⟩ : ∃ W2, W1.alloc (.cells #[.int .i64 0, .int .i64 0, .int .i64 0, .int .u64 0, .int .u64 0, .int .i64 0, .int .u64 0, .int .u64 0, .int .i64 0, .int .i64 0] 26) = W2 := ⟨_, rfl⟩
  have b2 : Below w.heap.size w W2 := by rw [← hW2]; exact b1.alloc b1.size _
  have B2 : Blk W2 w.heap.size 38 #[.int .i64 0, .int .i64 0, .int .i64 0, .int .u64 0, .int .u64 0, .int .i64 0, .int .u64 0, .int .u64 0, .int .i64 0, .int .i64 0, .int .i64 0, .int .u32 0, .int .u32 0, .int .i64 0, .int .i64 0, .int .i64 0, .bool false, .int .i64 0, .int .i64 0, .int .i64 0, .int .u64 0, .int .u64 0, .int .i64 0, .int .u64 0, .int .u64 0, .int .i64 0, .int .i64 0, .slice none 0 0] := by rw [← hW2]; exact B1.alloc _
  have T2 : Blk W2 W1.heap.size 26 #[.int .i64 0, .int .i64 0, .int .i64 0, .int .u64 0, .int .u64 0, .int .i64 0, .int .u64 0, .int .u64 0, .int .i64 0, .int .i64 0] := by rw [← hW2]; exact blk_new _ _ _
  obtain ⟨W3, hW3⟩ : ∃ W, W2.setRow W1.heap.size #[.int .i64 4, .int .i64 17, .int .i64 4, .int .u64 0, .int .u64 167772161, .int .i64 4, .int .u64 0, .int .u64 167772162, .int .i64 53, .int .i64 1024] = W := ⟨_, rfl⟩
  have b3 : Below w.heap.size w W3 := by rw [← hW3]; exact below_setRow b2 (Nat.le_of_lt g1) _
  have B3 : Blk W3 w.heap.size 38 #[.int .i64 0, .int .i64 0, .int .i64 0, .int .u64 0, .int .u64 0, .int .i64 0, .int .u64 0, .int .u64 0, .int .i64 0, .int .i64 0, .int .i64 0, .int .u32 0, .int .u32 0, .int .i64 0, .int .i64 0, .int .i64 0, .bool false, .int .i64 0, .int .i64 0, .int .i64 0, .int .u64 0, .int .u64 0, .int .i64 0, .int .u64 0, .int .u64 0, .int .i64 0, .int .i64 0, .slice none 0 0] := by rw [← hW3]; exact B2.other (by omega) _
  have T3 : Blk W3 W1.heap.size 26 #[.int .i64 4, .int .i64 17, .int .i64 4, .int .u64 0, .int .u64 167772161, .int .i64 4, .int .u64 0, .int .u64 167772162, .int .i64 53, .int .i64 1024] := by rw [← hW3]; exact T2.set _
  have HW3 : Hid _ := hW3
  obtain ⟨W4, hW4⟩ : ∃ W4, W3.alloc (.cells #[.int .u8 1, .int .u8 2, .int .u8 3, .int .u8 4] 5) = W4 := ⟨_, rfl⟩
  have b4 : Below w.heap.size w W4 := by rw [← hW4]; exact b3.alloc b3.size _
  have B4 : Blk W4 w.heap.size 38 #[.int .i64 0, .int .i64 0, .int .i64 0, .int .u64 0, .int .u64 0, .int .i64 0, .int .u64 0, .int .u64 0, .int .i64 0, .int .i64 0, .int .i64 0, .int .u32 0, .int .u32 0, .int .i64 0, .int .i64 0, .int .i64 0, .bool false, .int .i64 0, .int .i64 0, .int .i64 0, .int .u64 0, .int .u64 0, .int .i64 0, .int .u64 0, .int .u64 0, .int .i64 0, .int .i64 0, .slice none 0 0] := by rw [← hW4]; exact B3.alloc _
  have r4 : Row W4 (some ⟨W3.heap.size, 0, none⟩) [1, 2, 3, 4] := by rw [← hW4]; exact row_at W3 5 [1, 2, 3, 4] W3.heap.size rfl (by simp) bytes1234
  have g3 : w.heap.size < W3.heap.size := B3.lt
  obtain ⟨G, hG⟩ : ∃ G, W3.heap.size = G := ⟨_, rfl⟩
  rw [hG] at r4 g3
  have hb24 : ∀ W, (Instr.build 24 #[(0, .int .i64 4), (2, .int .u64 167772161)]).run Try.prog W = .ok (.agg #[.int .i64 4, .int .u64 0, .int .u64 167772161]) W := fun W => by kernel_rfl
  have O4 : Owns W4 (w.heap.size + 1) (.slice (some ⟨G, 0, none⟩) 4 4) [1, 2, 3, 4] := by
    rw [← hW4, ← hG]
    exact owns_new (l := [1, 2, 3, 4]) (by omega) (by decide) (heap_alloc_last W3 _)
  have Of := O4.blk_other B4 (by decide) #[.int .i64 4, .int .i64 17, .int .i64 4, .int .u64 0, .int .u64 167772161, .int .i64 4, .int .u64 0, .int .u64 167772162, .int .i64 53, .int .i64 1024, .int .i64 0, .int .u32 0, .int .u32 0, .int .i64 0, .int .i64 0, .int .i64 0, .bool false, .int .i64 0, .int .i64 0, .int .i64 0, .int .u64 0, .int .u64 0, .int .i64 0, .int .u64 0, .int .u64 0, .int .i64 0, .int .i64 0, .slice (some ⟨G, 0, none⟩) 4 4]
  have rf := Owns.row (l := [1, 2, 3, 4]) Of (by decide) bytes1234
  have bf := below_setRow b4 (Nat.le_refl _) #[.int .i64 4, .int .i64 17, .int .i64 4, .int .u64 0, .int .u64 167772161, .int .i64 4, .int .u64 0, .int .u64 167772162, .int .i64 53, .int .i64 1024, .int .i64 0, .int .u32 0, .int .u32 0, .int .i64 0, .int .i64 0, .int .i64 0, .bool false, .int .i64 0, .int .i64 0, .int .i64 0, .int .u64 0, .int .u64 0, .int .i64 0, .int .u64 0, .int .u64 0, .int .i64 0, .int .i64 0, .slice (some ⟨G, 0, none⟩) 4 4]
  have Bf := B4.set #[.int .i64 4, .int .i64 17, .int .i64 4, .int .u64 0, .int .u64 167772161, .int .i64 4, .int .u64 0, .int .u64 167772162, .int .i64 53, .int .i64 1024, .int .i64 0, .int .u32 0, .int .u32 0, .int .i64 0, .int .i64 0, .int .i64 0, .bool false, .int .i64 0, .int .i64 0, .int .i64 0, .int .u64 0, .int .u64 0, .int .i64 0, .int .u64 0, .int .u64 0, .int .i64 0, .int .i64 0, .slice (some ⟨G, 0, none⟩) 4 4]
  have hb38 : (Instr.build 38 #[(0, .agg #[.int .i64 4, .int .i64 17, .int .i64 4, .int .u64 0, .int .u64 167772161, .int .i64 4, .int .u64 0, .int .u64 167772162, .int .i64 53, .int .i64 1024]), (9, .slice (some ⟨G, 0, none⟩) 4 4)]).run Try.prog W4 = .ok (.agg #[.int .i64 4, .int .i64 17, .int .i64 4, .int .u64 0, .int .u64 167772161, .int .i64 4, .int .u64 0, .int .u64 167772162, .int .i64 53, .int .i64 1024, .int .i64 0, .int .u32 0, .int .u32 0, .int .i64 0, .int .i64 0, .int .i64 0, .bool false, .int .i64 0, .int .i64 0, .int .i64 0, .int .u64 0, .int .u64 0, .int .i64 0, .int .u64 0, .int .u64 0, .int .i64 0, .int .i64 0, .slice (some ⟨G, 0, none⟩) 4 4]) W4 := by kernel_rfl
  clear hW3 hb24 Of O4
  go_enter Try.func32, Try.ntmps32
  go_wp2_with (first
    | (refine wpList_build _ rfl _ _ rfl _ (by rfl) _ hb38 ?_)
    | (refine wpList_store_row rfl _ _ _ rfl W1.heap.size #[.int .i64 4, .int .i64 17, .int .i64 4, .int .u64 0, .int .u64 167772161, .int .i64 4, .int .u64 0, .int .u64 167772162, .int .i64 53, .int .i64 1024] (by rfl) (by rfl) _ _ T2 (by kernel_rfl) (by rfl) (by kernel_rfl) ?_; rw [HW3.out])
    | (refine wpList_load_row rfl _ _ rfl W1.heap.size (by rfl) _ _ _ _ T3 Try.underlying26 rfl (by kernel_rfl) ?_)
    | (refine wpList_store_row rfl _ _ _ rfl w.heap.size #[.int .i64 4, .int .i64 17, .int .i64 4, .int .u64 0, .int .u64 167772161, .int .i64 4, .int .u64 0, .int .u64 167772162, .int .i64 53, .int .i64 1024, .int .i64 0, .int .u32 0, .int .u32 0, .int .i64 0, .int .i64 0, .int .i64 0, .bool false, .int .i64 0, .int .i64 0, .int .i64 0, .int .u64 0, .int .u64 0, .int .i64 0, .int .u64 0, .int .u64 0, .int .i64 0, .int .i64 0, .slice (some ⟨G, 0, none⟩) 4 4] (by rfl) (by rfl) _ _ B4 (by kernel_rfl) (by rfl) (by kernel_rfl) ?_))
  exact ret_cell (k := 0) Try.f32 (by kernel_rfl) Bf Try.underlying38 (by kernel_rfl) (by rfl) rfl ⟨G, rfl, rf, bf⟩

set_option maxRecDepth 100000 in
set_option maxHeartbeats 4000000 in
theorem packet_any (x : Sg) (a : Option Addr) (c : Nat) (b : Option Addr) (bn d : Nat) (w : World) :
    Calls Try.prog 21 #[.agg #[.int .i64 x.t.fam, .int .i64 x.t.pr, .int .i64 x.t.s.fam, .int .u64 x.t.s.hi, .int .u64 x.t.s.lo, .int .i64 x.t.d.fam, .int .u64 x.t.d.hi, .int .u64 x.t.d.lo, .int .i64 x.t.sp, .int .i64 x.t.dp, .int .i64 x.fl, .int .u32 x.sq, .int .u32 x.ak, .int .i64 x.wn, .int .i64 x.ty, .int .i64 x.cd, .bool x.er, .int .i64 x.inn.fam, .int .i64 x.inn.pr, .int .i64 x.inn.s.fam, .int .u64 x.inn.s.hi, .int .u64 x.inn.s.lo, .int .i64 x.inn.d.fam, .int .u64 x.inn.d.hi, .int .u64 x.inn.d.lo, .int .i64 x.inn.sp, .int .i64 x.inn.dp, .slice a x.data.length c], .slice b bn d] w fun e w' => e = .returned (.agg #[.int .i64 x.t.fam, .int .i64 x.t.s.fam, .int .u64 x.t.s.hi, .int .u64 x.t.s.lo, .int .i64 x.t.d.fam, .int .u64 x.t.d.hi, .int .u64 x.t.d.lo, .int .i64 x.t.pr, .int .i64 1, .bool false, .int .u32 0, .int .i64 0, .bool false, .slice none 0 0, .slice b bn d]) ∧ Below w.heap.size w w' := by
  obtain ⟨W1, hW1⟩ : ∃ W1, w.alloc (.cells #[.int .i64 x.t.fam, .int .i64 x.t.pr, .int .i64 x.t.s.fam, .int .u64 x.t.s.hi, .int .u64 x.t.s.lo, .int .i64 x.t.d.fam, .int .u64 x.t.d.hi, .int .u64 x.t.d.lo, .int .i64 x.t.sp, .int .i64 x.t.dp, .int .i64 x.fl, .int .u32 x.sq, .int .u32 x.ak, .int .i64 x.wn, .int .i64 x.ty, .int .i64 x.cd, .bool x.er, .int .i64 x.inn.fam, .int .i64 x.inn.pr, .int .i64 x.inn.s.fam, .int .u64 x.inn.s.hi, .int .u64 x.inn.s.lo, .int .i64 x.inn.d.fam, .int .u64 x.inn.d.hi, .int .u64 x.inn.d.lo, .int .i64 x.inn.sp, .int .i64 x.inn.dp, .slice a x.data.length c] 38) = W1 := ⟨_, rfl⟩
  obtain ⟨W2, hW2⟩ : ∃ W2, W1.alloc (.cells #[.int .i64 0, .int .i64 0, .int .u64 0, .int .u64 0, .int .i64 0, .int .u64 0, .int .u64 0, .int .i64 0, .int .i64 0, .bool false, .int .u32 0, .int .i64 0, .bool false, .slice none 0 0, .slice none 0 0] 36) = W2 := ⟨_, rfl⟩
  have b1 : Below w.heap.size w W1 := by rw [← hW1]; exact (Below.refl _ _).alloc (Nat.le_refl _) _
  have b2 : Below w.heap.size w W2 := by rw [← hW2]; exact b1.alloc b1.size _
  have B1' : Blk W1 w.heap.size 38 #[.int .i64 x.t.fam, .int .i64 x.t.pr, .int .i64 x.t.s.fam, .int .u64 x.t.s.hi, .int .u64 x.t.s.lo, .int .i64 x.t.d.fam, .int .u64 x.t.d.hi, .int .u64 x.t.d.lo, .int .i64 x.t.sp, .int .i64 x.t.dp, .int .i64 x.fl, .int .u32 x.sq, .int .u32 x.ak, .int .i64 x.wn, .int .i64 x.ty, .int .i64 x.cd, .bool x.er, .int .i64 x.inn.fam, .int .i64 x.inn.pr, .int .i64 x.inn.s.fam, .int .u64 x.inn.s.hi, .int .u64 x.inn.s.lo, .int .i64 x.inn.d.fam, .int .u64 x.inn.d.hi, .int .u64 x.inn.d.lo, .int .i64 x.inn.sp, .int .i64 x.inn.dp, .slice a x.data.length c] := by rw [← hW1]; exact blk_new _ _ _
  have B1 : Blk W2 w.heap.size 38 #[.int .i64 x.t.fam, .int .i64 x.t.pr, .int .i64 x.t.s.fam, .int .u64 x.t.s.hi, .int .u64 x.t.s.lo, .int .i64 x.t.d.fam, .int .u64 x.t.d.hi, .int .u64 x.t.d.lo, .int .i64 x.t.sp, .int .i64 x.t.dp, .int .i64 x.fl, .int .u32 x.sq, .int .u32 x.ak, .int .i64 x.wn, .int .i64 x.ty, .int .i64 x.cd, .bool x.er, .int .i64 x.inn.fam, .int .i64 x.inn.pr, .int .i64 x.inn.s.fam, .int .u64 x.inn.s.hi, .int .u64 x.inn.s.lo, .int .i64 x.inn.d.fam, .int .u64 x.inn.d.hi, .int .u64 x.inn.d.lo, .int .i64 x.inn.sp, .int .i64 x.inn.dp, .slice a x.data.length c] := by rw [← hW2]; exact B1'.alloc _
  have B2 : Blk W2 W1.heap.size 36 #[.int .i64 0, .int .i64 0, .int .u64 0, .int .u64 0, .int .i64 0, .int .u64 0, .int .u64 0, .int .i64 0, .int .i64 0, .bool false, .int .u32 0, .int .i64 0, .bool false, .slice none 0 0, .slice none 0 0] := by rw [← hW2]; exact blk_new _ _ _
  have g1 : w.heap.size < W1.heap.size := B1'.lt
  clear B1'
  have d0 := B1.cell 0 (.int .i64 x.t.fam) rfl
  have d1 := B1.cell 1 (.int .i64 x.t.pr) rfl
  have d2 := B1.cell 2 (.int .i64 x.t.s.fam) rfl
  have d3 := B1.cell 3 (.int .u64 x.t.s.hi) rfl
  have d4 := B1.cell 4 (.int .u64 x.t.s.lo) rfl
  have d5 := B1.cell 5 (.int .i64 x.t.d.fam) rfl
  have d6 := B1.cell 6 (.int .u64 x.t.d.hi) rfl
  have d7 := B1.cell 7 (.int .u64 x.t.d.lo) rfl
  have b3 := below_setRow b2 (Nat.le_of_lt g1) #[.int .i64 x.t.fam, .int .i64 x.t.s.fam, .int .u64 x.t.s.hi, .int .u64 x.t.s.lo, .int .i64 x.t.d.fam, .int .u64 x.t.d.hi, .int .u64 x.t.d.lo, .int .i64 x.t.pr, .int .i64 1, .bool false, .int .u32 0, .int .i64 0, .bool false, .slice none 0 0, .slice b bn d]
  have B3 := B2.set #[.int .i64 x.t.fam, .int .i64 x.t.s.fam, .int .u64 x.t.s.hi, .int .u64 x.t.s.lo, .int .i64 x.t.d.fam, .int .u64 x.t.d.hi, .int .u64 x.t.d.lo, .int .i64 x.t.pr, .int .i64 1, .bool false, .int .u32 0, .int .i64 0, .bool false, .slice none 0 0, .slice b bn d]
  have hbd : (Instr.build 36 #[(0, .int .i64 x.t.fam), (1, .agg #[.int .i64 x.t.s.fam, .int .u64 x.t.s.hi, .int .u64 x.t.s.lo]), (2, .agg #[.int .i64 x.t.d.fam, .int .u64 x.t.d.hi, .int .u64 x.t.d.lo]), (3, .int .i64 x.t.pr), (4, .int .i64 1), (10, .slice b bn d)]).run Try.prog W2 = .ok (.agg #[.int .i64 x.t.fam, .int .i64 x.t.s.fam, .int .u64 x.t.s.hi, .int .u64 x.t.s.lo, .int .i64 x.t.d.fam, .int .u64 x.t.d.hi, .int .u64 x.t.d.lo, .int .i64 x.t.pr, .int .i64 1, .bool false, .int .u32 0, .int .i64 0, .bool false, .slice none 0 0, .slice b bn d]) W2 := by kernel_rfl
  go_enter Try.func21, Try.ntmps21
  go_wp2_with (first
    | (refine wpList_build _ rfl _ _ rfl _ (by rfl) _ hbd ?_)
    | (refine wpList_store_row rfl _ _ _ rfl W1.heap.size #[.int .i64 x.t.fam, .int .i64 x.t.s.fam, .int .u64 x.t.s.hi, .int .u64 x.t.s.lo, .int .i64 x.t.d.fam, .int .u64 x.t.d.hi, .int .u64 x.t.d.lo, .int .i64 x.t.pr, .int .i64 1, .bool false, .int .u32 0, .int .i64 0, .bool false, .slice none 0 0, .slice b bn d] (by rfl) (by rfl) _ _ B2 (by kernel_rfl) (by rfl) (by kernel_rfl) ?_))
  exact ret_cell (k := 4) Try.f21 (by kernel_rfl) B3 Try.underlying36 (by kernel_rfl) (by rfl) rfl ⟨rfl, b3⟩

end Go.Proofs.Ytgdpcomcndidcaa

namespace Go.Proofs.Ytgdpcomcndidcaa
open Go.RowKit
set_option linter.unusedVariables false
set_option linter.unusedSimpArgs false

set_option maxRecDepth 100000 in
theorem small_may : mayB smallSg = true := by decide
set_option maxRecDepth 100000 in
theorem small_made : madeB smallSg = [0, 53, 4, 0, 0, 12, 227, 152, 1, 2, 3, 4] := by decide
set_option maxRecDepth 100000 in
theorem small_E : segE 4 17 ⟨4, 0, 167772161⟩ ⟨4, 0, 167772162⟩ [0, 53, 4, 0, 0, 12, 227, 152, 1, 2, 3, 4] = 0 := by decide
set_option maxRecDepth 100000 in
theorem small_X : segX 4 17 ⟨4, 0, 167772161⟩ ⟨4, 0, 167772162⟩ [0, 53, 4, 0, 0, 12, 227, 152, 1, 2, 3, 4] = smallSg := by
  unfold segX
  rw [small_E]
  rfl
theorem small_ok : smallSg.ok := ⟨by unfold Ad.ok; decide, by unfold Ad.ok; decide, by decide, by decide⟩
theorem yieldsIf_blk_w {ops : Array Oper} {S : World → Prop} {o : Oper} {ac : Act} (hw : Region.wanted o (yielded ops ac.tmps) = true) (t : TypeId) (p : Operand) (ho : o.op = Op.load t p) (g : Nat) (hp : ac.eval p = .pointer (some ⟨g, 0, none⟩)) (cs : Array Value)
    (hS : ∀ w, S w → Blk w g t cs) {fs : _} (hu : Try.prog.underlying t = some (.struct fs)) (hi : (Try.prog.info? t).map (·.size) = some cs.size) : YieldsIf Try.prog ops S o (.agg cs) ac := by
  refine .inl ⟨hw, fun w hw' => ?_⟩
  have hl := load_blk (hS w hw') hu hi
  simp [execOp, ho, hp, Instr.loadAt, Instr.sureAddr, hl, Result.andThen]

set_option maxRecDepth 100000 in
set_option maxHeartbeats 4000000 in
theorem segAlive_any (w : World) : Calls Try.prog 15 #[] w fun e w' => e = .returned (.bool true) ∧ Below w.heap.size w w' := by
  have KS : Hid _ := small_any
  have KE : Hid (∀ W, Calls Try.prog 13 #[.int .i64 4, .int .i64 3] W fun e w' => e = .returned (.bool true) ∧ w' = W) := fun W => isError_any 4 3 W
  have KB : Hid (∀ W G, Row W (some ⟨G, 0, none⟩) [1, 2, 3, 4] → Calls Try.prog 19 #[.agg #[.int .i64 4, .int .i64 17, .int .i64 4, .int .u64 0, .int .u64 167772161, .int .i64 4, .int .u64 0, .int .u64 167772162, .int .i64 53, .int .i64 1024, .int .i64 0, .int .u32 0, .int .u32 0, .int .i64 0, .int .i64 0, .int .i64 0, .bool false, .int .i64 0, .int .i64 0, .int .i64 0, .int .u64 0, .int .u64 0, .int .i64 0, .int .u64 0, .int .u64 0, .int .i64 0, .int .i64 0, .slice (some ⟨G, 0, none⟩) 4 4]] W fun e w' => ∃ a' c', e = .returned (.tuple #[.slice a' 12 c', .int .i64 0]) ∧ Fresh W w' a' c' [0, 53, 4, 0, 0, 12, 227, 152, 1, 2, 3, 4]) := fun W G hr => by
    have := build_any smallSg (some ⟨G, 0, none⟩) 4 W hr (fun e => by cases e) small_ok
    rw [small_may, if_pos rfl, if_pos rfl, small_made] at this
    exact this
  have KP : Hid (∀ W a' c' b d, Calls Try.prog 21 #[.agg #[.int .i64 4, .int .i64 17, .int .i64 4, .int .u64 0, .int .u64 167772161, .int .i64 4, .int .u64 0, .int .u64 167772162, .int .i64 53, .int .i64 1024, .int .i64 0, .int .u32 0, .int .u32 0, .int .i64 0, .int .i64 0, .int .i64 0, .bool false, .int .i64 0, .int .i64 0, .int .i64 0, .int .u64 0, .int .u64 0, .int .i64 0, .int .u64 0, .int .u64 0, .int .i64 0, .int .i64 0, .slice a' 4 c'], .slice b 12 d] W fun e w' => e = .returned (.agg #[.int .i64 4, .int .i64 4, .int .u64 0, .int .u64 167772161, .int .i64 4, .int .u64 0, .int .u64 167772162, .int .i64 17, .int .i64 1, .bool false, .int .u32 0, .int .i64 0, .bool false, .slice none 0 0, .slice b 12 d]) ∧ Below W.heap.size W w') := fun W a' c' b d => packet_any smallSg a' c' b 12 d W
  have KR : Hid (∀ W b d, Row W b [0, 53, 4, 0, 0, 12, 227, 152, 1, 2, 3, 4] → (b = none → d = 0) → 12 ≤ d → d ≤ 9223372036854775807 → Calls Try.prog 16 #[.agg #[.int .i64 4, .int .i64 4, .int .u64 0, .int .u64 167772161, .int .i64 4, .int .u64 0, .int .u64 167772162, .int .i64 17, .int .i64 1, .bool false, .int .u32 0, .int .i64 0, .bool false, .slice none 0 0, .slice b 12 d]] W fun e w' => ∃ a5 c5, e = .returned (.tuple #[.agg #[.int .i64 4, .int .i64 17, .int .i64 4, .int .u64 0, .int .u64 167772161, .int .i64 4, .int .u64 0, .int .u64 167772162, .int .i64 53, .int .i64 1024, .int .i64 0, .int .u32 0, .int .u32 0, .int .i64 0, .int .i64 0, .int .i64 0, .bool false, .int .i64 0, .int .i64 0, .int .i64 0, .int .u64 0, .int .u64 0, .int .i64 0, .int .u64 0, .int .u64 0, .int .i64 0, .int .i64 0, .slice a5 4 c5], .int .i64 0]) ∧ Fresh W w' a5 c5 [1, 2, 3, 4]) := fun W b d hr hn h1 h2 => by
    have := segParse_17 4 4 0 167772161 4 0 167772162 17 1 false 0 0 false none 0 0 b d [0, 53, 4, 0, 0, 12, 227, 152, 1, 2, 3, 4] W hr hn (by simpa using h1) h2 (by decide) (by unfold Ad.ok; decide) (by unfold Ad.ok; decide) (by decide) rfl
    rw [small_E, small_X] at this
    exact this
  go_enter Try.func15, Try.ntmps15
  go_wp2_with fail
  refine Calls.mono (KS.out _) ?_
  rintro e W1 ⟨G, rfl, r1, b1⟩
  go_wp2_with fail
  refine Calls.mono (KB.out _ _ r1) ?_
  rintro e W2 ⟨a2, c2, rfl, f2⟩
  have b2 : Below w.heap.size w W2 := b1.trans (f2.below.mono b1.size)
  have r2 := f2.row
  have n2 := f2.nil
  have m2 := f2.room
  have o2 := f2.owns.cap_le
  clear KB r1 b1 f2
  go_wp2_with fail
  refine Calls.mono (KS.out _) ?_
  rintro e W3 ⟨G3, rfl, r3, bb⟩
  have b3 : Below w.heap.size w W3 := b2.trans (bb.mono b2.size)
  replace r2 := r2.below bb
  clear bb b2 r3
  go_wp2_with fail
  refine Calls.mono (KP.out _ _ _ _ _) ?_
  rintro e W4 ⟨rfl, bb⟩
  have b4 : Below w.heap.size w W4 := b3.trans (bb.mono b3.size)
  replace r2 := r2.below bb
  clear bb b3 KP
  go_wp2_with fail
  refine Calls.mono (KR.out _ _ _ r2 n2 m2 o2) ?_
  rintro e W5 ⟨a5, c5, rfl, f5⟩
  have b5 : Below w.heap.size w W5 := b4.trans (f5.below.mono b4.size)
  have r5 := f5.row
  clear f5 b4 r2 n2 m2 o2 KR
  obtain ⟨W6', hW6'⟩ : ∃ W, W5.alloc (.cells #[.int .i64 0, .int .i64 0, .int .i64 0, .int .u64 0, .int .u64 0, .int .i64 0, .int .u64 0, .int .u64 0, .int .i64 0, .int .i64 0, .int .i64 0, .int .u32 0, .int .u32 0, .int .i64 0, .int .i64 0, .int .i64 0, .bool false, .int .i64 0, .int .i64 0, .int .i64 0, .int .u64 0, .int .u64 0, .int .i64 0, .int .u64 0, .int .u64 0, .int .i64 0, .int .i64 0, .slice none 0 0] 38) = W := ⟨_, rfl⟩
  have B6' : Blk W6' W5.heap.size 38 #[.int .i64 0, .int .i64 0, .int .i64 0, .int .u64 0, .int .u64 0, .int .i64 0, .int .u64 0, .int .u64 0, .int .i64 0, .int .i64 0, .int .i64 0, .int .u32 0, .int .u32 0, .int .i64 0, .int .i64 0, .int .i64 0, .bool false, .int .i64 0, .int .i64 0, .int .i64 0, .int .u64 0, .int .u64 0, .int .i64 0, .int .u64 0, .int .u64 0, .int .i64 0, .int .i64 0, .slice none 0 0] := by rw [← hW6']; exact blk_new _ _ _
  obtain ⟨W6, hW6⟩ : ∃ W, W6'.setRow W5.heap.size #[.int .i64 4, .int .i64 17, .int .i64 4, .int .u64 0, .int .u64 167772161, .int .i64 4, .int .u64 0, .int .u64 167772162, .int .i64 53, .int .i64 1024, .int .i64 0, .int .u32 0, .int .u32 0, .int .i64 0, .int .i64 0, .int .i64 0, .bool false, .int .i64 0, .int .i64 0, .int .i64 0, .int .u64 0, .int .u64 0, .int .i64 0, .int .u64 0, .int .u64 0, .int .i64 0, .int .i64 0, .slice a5 4 c5] = W := ⟨_, rfl⟩
  have B6 : Blk W6 W5.heap.size 38 #[.int .i64 4, .int .i64 17, .int .i64 4, .int .u64 0, .int .u64 167772161, .int .i64 4, .int .u64 0, .int .u64 167772162, .int .i64 53, .int .i64 1024, .int .i64 0, .int .u32 0, .int .u32 0, .int .i64 0, .int .i64 0, .int .i64 0, .bool false, .int .i64 0, .int .i64 0, .int .i64 0, .int .u64 0, .int .u64 0, .int .i64 0, .int .u64 0, .int .u64 0, .int .i64 0, .int .i64 0, .slice a5 4 c5] := by rw [← hW6]; exact B6'.set _
  have b56 : Below W5.heap.size W5 W6 := by rw [← hW6, ← hW6']; exact below_setRow ((Below.refl _ _).alloc (Nat.le_refl _) _) (Nat.le_refl _) _
  have b6 : Below w.heap.size w W6 := b5.trans (b56.mono b5.size)
  have r6 := r5.below b56
  have HW6 : Hid _ := hW6
  clear hW6 b56 r5 b5
  go_wp2_with (refine wpList_store_row rfl _ _ _ rfl W5.heap.size #[.int .i64 4, .int .i64 17, .int .i64 4, .int .u64 0, .int .u64 167772161, .int .i64 4, .int .u64 0, .int .u64 167772162, .int .i64 53, .int .i64 1024, .int .i64 0, .int .u32 0, .int .u32 0, .int .i64 0, .int .i64 0, .int .i64 0, .bool false, .int .i64 0, .int .i64 0, .int .i64 0, .int .u64 0, .int .u64 0, .int .i64 0, .int .u64 0, .int .u64 0, .int .i64 0, .int .i64 0, .slice a5 4 c5] (by rfl) (by rfl) _ _ B6' (by kernel_rfl) (by rfl) (by kernel_rfl) ?_; rw [HW6.out])
  clear HW6 B6' hW6'
  refine wp_region_noPanic ?_
  refine wp_region_held_drew (S := fun w' => Blk w' W5.heap.size 38 #[.int .i64 4, .int .i64 17, .int .i64 4, .int .u64 0, .int .u64 167772161, .int .i64 4, .int .u64 0, .int .u64 167772162, .int .i64 53, .int .i64 1024, .int .i64 0, .int .u32 0, .int .u32 0, .int .i64 0, .int .i64 0, .int .i64 0, .bool false, .int .i64 0, .int .i64 0, .int .i64 0, .int .u64 0, .int .u64 0, .int .i64 0, .int .u64 0, .int .u64 0, .int .i64 0, .int .i64 0, .slice a5 4 c5]) (by kernel_rfl) (by exact B6.drew) (fun hHeld => ?_)
  refine wpAnyH_take (i := 0) (oi := { dst := some 17, op := Op.move (.tmp 2), type := 39, pos := "law.go:26", after := #[], guard := none }) (v := (.int .i64 0)) rfl (by kernel_rfl) (by kernel_rfl) (by kernel_rfl) (fun _ _ _ h => h) (Or.inl ⟨by rfl, ?_⟩) hHeld ?_
  · intro w9 hSw
    try dsimp only at hSw
    go_simp
  try simp only [Act.put, List.setIfInBounds_toArray, List.set_cons_zero, List.set_cons_succ]
  refine wpAnyH_take (i := 1) (oi := { dst := some 18, op := Op.binOp BinOp.eql 39 (.tmp 17) (.const (.int .i64 0)) 39, type := 4, pos := "law.go:26", after := #[{ on := 0, ground := Ground.data }], guard := none }) (v := (.bool true)) rfl (by kernel_rfl) (by kernel_rfl) (by kernel_rfl) (fun _ _ _ h => h) (Or.inl ⟨by rfl, ?_⟩) hHeld ?_
  · intro w9 hSw
    try dsimp only at hSw
    go_simp
  try simp only [Act.put, List.setIfInBounds_toArray, List.set_cons_zero, List.set_cons_succ]
  refine wpAnyH_take (i := 2) (oi := { dst := some 19, op := Op.move (.tmp 18), type := 4, pos := "law.go:26", after := #[{ on := 1, ground := Ground.data }], guard := none }) (v := (.bool true)) rfl (by kernel_rfl) (by kernel_rfl) (by kernel_rfl) (fun _ _ _ h => h) (Or.inl ⟨by rfl, ?_⟩) hHeld ?_
  · intro w9 hSw
    try dsimp only at hSw
    go_simp
  try simp only [Act.put, List.setIfInBounds_toArray, List.set_cons_zero, List.set_cons_succ]
  refine wpAnyH_take (i := 3) (oi := { dst := some 20, op := Op.move (.tmp 4), type := 39, pos := "law.go:26", after := #[{ on := 2, ground := Ground.guard }], guard := some (2, true) }) (v := (.int .i64 0)) rfl (by kernel_rfl) (by kernel_rfl) (by kernel_rfl) (fun _ _ _ h => h) (Or.inl ⟨by rfl, ?_⟩) hHeld ?_
  · intro w9 hSw
    try dsimp only at hSw
    go_simp
  try simp only [Act.put, List.setIfInBounds_toArray, List.set_cons_zero, List.set_cons_succ]
  refine wpAnyH_take (i := 4) (oi := { dst := some 21, op := Op.binOp BinOp.eql 39 (.tmp 20) (.const (.int .i64 0)) 39, type := 4, pos := "law.go:26", after := #[{ on := 3, ground := Ground.data }, { on := 2, ground := Ground.guard }], guard := some (2, true) }) (v := (.bool true)) rfl (by kernel_rfl) (by kernel_rfl) (by kernel_rfl) (fun _ _ _ h => h) (Or.inl ⟨by rfl, ?_⟩) hHeld ?_
  · intro w9 hSw
    try dsimp only at hSw
    go_simp
  try simp only [Act.put, List.setIfInBounds_toArray, List.set_cons_zero, List.set_cons_succ]
  refine wpAnyH_take (i := 5) (oi := { dst := some 22, op := Op.pick (.tmp 19) (.tmp 21) (.const (.bool false)), type := 4, pos := "law.go:26", after := #[{ on := 2, ground := Ground.data }, { on := 4, ground := Ground.data }], guard := none }) (v := (.bool true)) rfl (by kernel_rfl) (by kernel_rfl) (by kernel_rfl) (fun _ _ _ h => h) (Or.inl ⟨by rfl, ?_⟩) hHeld ?_
  · intro w9 hSw
    try dsimp only at hSw
    go_simp
  try simp only [Act.put, List.setIfInBounds_toArray, List.set_cons_zero, List.set_cons_succ]
  refine wpAnyH_take (i := 6) (oi := { dst := some 23, op := Op.move (.tmp 22), type := 4, pos := "law.go:26", after := #[{ on := 5, ground := Ground.data }, { on := 2, ground := Ground.chain }], guard := none }) (v := (.bool true)) rfl (by kernel_rfl) (by kernel_rfl) (by kernel_rfl) (fun _ _ _ h => h) (Or.inl ⟨by rfl, ?_⟩) hHeld ?_
  · intro w9 hSw
    try dsimp only at hSw
    go_simp
  try simp only [Act.put, List.setIfInBounds_toArray, List.set_cons_zero, List.set_cons_succ]
  refine wpAnyH_take (i := 7) (oi := { dst := some 24, op := Op.move (.tmp 1), type := 28, pos := "law.go:26", after := #[{ on := 6, ground := Ground.guard }], guard := some (6, true) }) (v := (.slice a2 12 c2)) rfl (by kernel_rfl) (by kernel_rfl) (by kernel_rfl) (fun _ _ _ h => h) (Or.inl ⟨by rfl, ?_⟩) hHeld ?_
  · intro w9 hSw
    try dsimp only at hSw
    go_simp
  try simp only [Act.put, List.setIfInBounds_toArray, List.set_cons_zero, List.set_cons_succ]
  refine wpAnyH_take (i := 8) (oi := { dst := some 25, op := Op.call { callee := Callee.builtin Builtin.len, args := #[.tmp 24], argTypes := #[28] }, type := 3, pos := "law.go:26", after := #[{ on := 7, ground := Ground.data }, { on := 6, ground := Ground.guard }], guard := some (6, true) }) (v := (.int .i64 12)) rfl (by kernel_rfl) (by kernel_rfl) (by kernel_rfl) (fun _ _ _ h => h) (Or.inl ⟨by rfl, ?_⟩) hHeld ?_
  · intro w9 hSw
    try dsimp only at hSw
    go_simp
  try simp only [Act.put, List.setIfInBounds_toArray, List.set_cons_zero, List.set_cons_succ]
  refine wpAnyH_take (i := 9) (oi := { dst := some 26, op := Op.binOp BinOp.eql 3 (.tmp 25) (.const (.int .i64 12)) 3, type := 4, pos := "law.go:26", after := #[{ on := 8, ground := Ground.data }, { on := 6, ground := Ground.guard }], guard := some (6, true) }) (v := (.bool true)) rfl (by kernel_rfl) (by kernel_rfl) (by kernel_rfl) (fun _ _ _ h => h) (Or.inl ⟨by rfl, ?_⟩) hHeld ?_
  · intro w9 hSw
    try dsimp only at hSw
    go_simp
  try simp only [Act.put, List.setIfInBounds_toArray, List.set_cons_zero, List.set_cons_succ]
  refine wpAnyH_take (i := 10) (oi := { dst := some 27, op := Op.pick (.tmp 23) (.tmp 26) (.const (.bool false)), type := 4, pos := "law.go:26", after := #[{ on := 6, ground := Ground.data }, { on := 9, ground := Ground.data }], guard := none }) (v := (.bool true)) rfl (by kernel_rfl) (by kernel_rfl) (by kernel_rfl) (fun _ _ _ h => h) (Or.inl ⟨by rfl, ?_⟩) hHeld ?_
  · intro w9 hSw
    try dsimp only at hSw
    go_simp
  try simp only [Act.put, List.setIfInBounds_toArray, List.set_cons_zero, List.set_cons_succ]
  refine wpAnyH_take (i := 11) (oi := { dst := some 28, op := Op.move (.tmp 27), type := 4, pos := "law.go:26", after := #[{ on := 10, ground := Ground.data }, { on := 6, ground := Ground.chain }], guard := none }) (v := (.bool true)) rfl (by kernel_rfl) (by kernel_rfl) (by kernel_rfl) (fun _ _ _ h => h) (Or.inl ⟨by rfl, ?_⟩) hHeld ?_
  · intro w9 hSw
    try dsimp only at hSw
    go_simp
  try simp only [Act.put, List.setIfInBounds_toArray, List.set_cons_zero, List.set_cons_succ]
  refine wpAnyH_take (i := 12) (oi := { dst := some 29, op := Op.load 38 (.tmp 3), type := 38, pos := "law.go:26", after := #[{ on := 11, ground := Ground.guard }], guard := some (11, true) }) (v := (.agg #[.int .i64 4, .int .i64 17, .int .i64 4, .int .u64 0, .int .u64 167772161, .int .i64 4, .int .u64 0, .int .u64 167772162, .int .i64 53, .int .i64 1024, .int .i64 0, .int .u32 0, .int .u32 0, .int .i64 0, .int .i64 0, .int .i64 0, .bool false, .int .i64 0, .int .i64 0, .int .i64 0, .int .u64 0, .int .u64 0, .int .i64 0, .int .u64 0, .int .u64 0, .int .i64 0, .int .i64 0, .slice a5 4 c5])) rfl (by kernel_rfl) (by kernel_rfl) (by kernel_rfl) (fun _ _ _ h => h) (yieldsIf_blk_w (by kernel_rfl) _ _ rfl W5.heap.size (by rfl) _ (fun _ hSw => hSw) Try.underlying38 (by kernel_rfl)) hHeld ?_
  try simp only [Act.put, List.setIfInBounds_toArray, List.set_cons_zero, List.set_cons_succ]
  refine wpAnyH_ready (rs := [13]) (by kernel_rfl) (by simp) ?_
  refine AllReadyH.cons (o := { dst := some 30, op := Op.call { callee := Callee.value (.func 32), args := #[], argTypes := #[] }, type := 38, pos := "law.go:26", after := #[{ on := 11, ground := Ground.chain }, { on := 11, ground := Ground.guard }], guard := some (11, true) }) rfl (fun K hK => ?_) AllReadyH.nil
  go_simp
  refine Calls.mono (KS.out _) ?_
  rintro e W7 ⟨G7, rfl, r7, bb⟩
  have B7 := B6.drew.kept bb
  have rr7 := (r6.below ((Below.refl _ _).drew)).below bb
  have b7 : Below w.heap.size w W7 := b6.drew.trans (bb.mono b6.drew.size)
  refine hK.out _ _ ?_ (fun hHeld => ?_)
  · exact B7
  clear hK K
  try simp only [Act.put, List.setIfInBounds_toArray, List.set_cons_zero, List.set_cons_succ]
  refine wpAnyH_ready (rs := [14]) (by kernel_rfl) (by simp) ?_
  refine AllReadyH.cons (o := { dst := some 31, op := Op.call { callee := Callee.value (.func 18), args := #[.tmp 29, .tmp 30], argTypes := #[38, 38] }, type := 4, pos := "law.go:26", after := #[{ on := 12, ground := Ground.data }, { on := 13, ground := Ground.data }, { on := 13, ground := Ground.chain }, { on := 11, ground := Ground.guard }], guard := some (11, true) }) rfl (fun K hK => ?_) AllReadyH.nil
  go_simp
  refine Calls.mono (same_seg smallSg a5 (some ⟨G7, 0, none⟩) c5 4 _ rr7 r7) ?_
  rintro e W8 ⟨rfl, bb⟩
  have B8 := B7.kept bb
  have b8 : Below w.heap.size w W8 := b7.trans (bb.mono b7.size)
  refine hK.out _ _ ?_ (fun hHeld => ?_)
  · exact B8
  clear hK K
  try simp only [Act.put, List.setIfInBounds_toArray, List.set_cons_zero, List.set_cons_succ]
  refine wpAnyH_take (i := 15) (oi := { dst := some 32, op := Op.pick (.tmp 28) (.tmp 31) (.const (.bool false)), type := 4, pos := "law.go:26", after := #[{ on := 11, ground := Ground.data }, { on := 14, ground := Ground.data }], guard := none }) (v := (.bool true)) rfl (by kernel_rfl) (by kernel_rfl) (by kernel_rfl) (fun _ _ _ h => h) (Or.inl ⟨by rfl, ?_⟩) hHeld ?_
  · intro w9 hSw
    try dsimp only at hSw
    go_simp
  try simp only [Act.put, List.setIfInBounds_toArray, List.set_cons_zero, List.set_cons_succ]
  refine wpAnyH_take (i := 16) (oi := { dst := some 33, op := Op.move (.tmp 32), type := 4, pos := "law.go:26", after := #[{ on := 15, ground := Ground.data }, { on := 14, ground := Ground.chain }], guard := none }) (v := (.bool true)) rfl (by kernel_rfl) (by kernel_rfl) (by kernel_rfl) (fun _ _ _ h => h) (Or.inl ⟨by rfl, ?_⟩) hHeld ?_
  · intro w9 hSw
    try dsimp only at hSw
    go_simp
  try simp only [Act.put, List.setIfInBounds_toArray, List.set_cons_zero, List.set_cons_succ]
  refine wpAnyH_ready (rs := [17]) (by kernel_rfl) (by simp) ?_
  refine AllReadyH.cons (o := { dst := some 34, op := Op.call { callee := Callee.value (.func 13), args := #[.const (.int .i64 4), .const (.int .i64 3)], argTypes := #[3, 3] }, type := 4, pos := "law.go:26", after := #[{ on := 16, ground := Ground.chain }, { on := 16, ground := Ground.guard }], guard := some (16, true) }) rfl (fun K hK => ?_) AllReadyH.nil
  go_simp
  refine Calls.mono (KE.out _) ?_
  rintro e W9 ⟨rfl, hW9⟩
  rw [hW9]
  clear hW9 W9
  refine hK.out _ _ ?_ (fun hHeld => ?_)
  · exact B8
  clear hK K
  try simp only [Act.put, List.setIfInBounds_toArray, List.set_cons_zero, List.set_cons_succ]
  refine wpAnyH_take (i := 18) (oi := { dst := some 35, op := Op.pick (.tmp 33) (.tmp 34) (.const (.bool false)), type := 4, pos := "law.go:26", after := #[{ on := 16, ground := Ground.data }, { on := 17, ground := Ground.data }], guard := none }) (v := (.bool true)) rfl (by kernel_rfl) (by kernel_rfl) (by kernel_rfl) (fun _ _ _ h => h) (Or.inl ⟨by rfl, ?_⟩) hHeld ?_
  · intro w9 hSw
    try dsimp only at hSw
    go_simp
  try simp only [Act.put, List.setIfInBounds_toArray, List.set_cons_zero, List.set_cons_succ]
  refine wpAnyH_take (i := 19) (oi := { dst := some 0, op := Op.assign (.tmp 35), type := 4, pos := "law.go:26", after := #[{ on := 18, ground := Ground.data }, { on := 17, ground := Ground.chain }, { on := 0, ground := Ground.phase }, { on := 1, ground := Ground.phase }, { on := 2, ground := Ground.phase }, { on := 3, ground := Ground.phase }, { on := 4, ground := Ground.phase }, { on := 5, ground := Ground.phase }, { on := 6, ground := Ground.phase }, { on := 7, ground := Ground.phase }, { on := 8, ground := Ground.phase }, { on := 9, ground := Ground.phase }, { on := 10, ground := Ground.phase }, { on := 11, ground := Ground.phase }, { on := 12, ground := Ground.phase }, { on := 13, ground := Ground.phase }, { on := 14, ground := Ground.phase }, { on := 15, ground := Ground.phase }, { on := 16, ground := Ground.phase }, { on := 17, ground := Ground.phase }, { on := 18, ground := Ground.phase }], guard := none }) (v := (.bool true)) rfl (by kernel_rfl) (by kernel_rfl) (by kernel_rfl) (fun _ _ _ h => h) (Or.inl ⟨by rfl, ?_⟩) hHeld ?_
  · intro w9 hSw
    try dsimp only at hSw
    go_simp
  try simp only [Act.put, List.setIfInBounds_toArray, List.set_cons_zero, List.set_cons_succ]
  refine wpAnyH_done (by kernel_rfl) ?_ _
  refine NoPanic.normal ?_
  go_wp2
  go_ret
  exact ⟨rfl, b8⟩

end Go.Proofs.Ytgdpcomcndidcaa

namespace Go.Proofs.Ytgdpcomcndidcaa
open Go.RowKit
set_option linter.unusedVariables false
set_option linter.unusedSimpArgs false

theorem made_udp {x : Sg} (h : x.t.pr = 17) : madeB x = [x.t.sp / 256 % 256, x.t.sp % 256, x.t.dp / 256 % 256, x.t.dp % 256, (8 + (x.data.length : Int)) / 256 % 256, (8 + (x.data.length : Int)) % 256, checkB x / 256, checkB x % 256] ++ x.data := by
  unfold madeB bodyB placeB headB portB
  rw [if_neg (by omega), if_pos h, if_neg (by omega), if_pos h]
  rfl
theorem body_udp {x : Sg} (h : x.t.pr = 17) : bodyB x = [x.t.sp / 256 % 256, x.t.sp % 256, x.t.dp / 256 % 256, x.t.dp % 256, (8 + (x.data.length : Int)) / 256 % 256, (8 + (x.data.length : Int)) % 256, 0, 0] ++ x.data := by
  unfold bodyB headB portB
  rw [if_neg (by omega), if_pos h]
  rfl
theorem made_tcp {x : Sg} (h : x.t.pr = 6) : madeB x = [x.t.sp / 256 % 256, x.t.sp % 256, x.t.dp / 256 % 256, x.t.dp % 256, x.sq / 16777216, x.sq / 65536 % 256, x.sq / 256 % 256, x.sq % 256, x.ak / 16777216, x.ak / 65536 % 256, x.ak / 256 % 256, x.ak % 256, 80, x.fl % 256, x.wn / 256 % 256, x.wn % 256, checkB x / 256, checkB x % 256, 0, 0] ++ x.data := by
  unfold madeB bodyB placeB headB portB
  rw [if_pos h, if_pos h]
  rfl
theorem body_tcp {x : Sg} (h : x.t.pr = 6) : bodyB x = [x.t.sp / 256 % 256, x.t.sp % 256, x.t.dp / 256 % 256, x.t.dp % 256, x.sq / 16777216, x.sq / 65536 % 256, x.sq / 256 % 256, x.sq % 256, x.ak / 16777216, x.ak / 65536 % 256, x.ak / 256 % 256, x.ak % 256, 80, x.fl % 256, x.wn / 256 % 256, x.wn % 256, 0, 0, 0, 0] ++ x.data := by
  unfold bodyB headB portB
  rw [if_pos h]
  rfl
/-- The number of a message. -/
def numE (x : Sg) : Int := if isEcho x.t.fam x.ty = true then x.t.sp else 0
theorem made_icmp {x : Sg} (h : ¬ x.t.pr = 6) (h' : ¬ x.t.pr = 17) : madeB x = [x.ty % 256, x.cd % 256, checkB x / 256, checkB x % 256, numE x / 256 % 256, numE x % 256, 0, 0] ++ x.data := by
  unfold madeB bodyB placeB headB portB
  rw [if_neg h, if_neg h', if_neg h, if_neg h']
  rfl
theorem body_icmp {x : Sg} (h : ¬ x.t.pr = 6) (h' : ¬ x.t.pr = 17) : bodyB x = [x.ty % 256, x.cd % 256, 0, 0, numE x / 256 % 256, numE x % 256, 0, 0] ++ x.data := by
  unfold bodyB headB portB
  rw [if_neg h, if_neg h']
  rfl
theorem madeB_len {x : Sg} : (madeB x).length = (bodyB x).length := by unfold madeB; simp

theorem Ad.bytes_ok (a : Ad) : M.Bytes a.bytes := by
  unfold Ad.bytes
  split
  · exact bytesGo_bytes _ _ _
  · exact M.Bytes.nil
theorem bytes_len {a : Ad} (h : a.right = true) : a.bytes.length = if a.fam = 4 then 4 else 16 := by
  unfold Ad.bytes
  rw [if_pos h, bytesGo_length]
theorem ahead_even {s d : Ad} {f pr sz : Int} (h : endsB f s d = true) : (ahead s d pr sz).length % 2 = 0 := by
  obtain ⟨h1, h2, h3, h4⟩ := (endsB_iff f s d).1 h
  unfold ahead
  split
  · rfl
  · unfold pseudo
    split
    · unfold pseudoL
      split
      · rename_i h5
        simp only [put16, List.length_append, bytes_len h1, bytes_len h2, List.length_cons, List.length_nil]
        rw [if_pos h5, if_pos (by omega)]
      · rename_i h5
        simp only [put32, List.length_append, bytes_len h1, bytes_len h2, List.length_cons, List.length_nil]
        rw [if_neg h5, if_neg (by omega)]
    · rfl
theorem ahead_ok (s d : Ad) (pr sz : Int) : M.Bytes (ahead s d pr sz) := by
  unfold ahead
  split
  · exact M.Bytes.nil
  · unfold pseudo
    split
    · unfold pseudoL
      split
      · unfold put16
        refine ((s.bytes_ok.app d.bytes_ok).app (bytes_two pr)).app ?_
        intro y hy
        simp at hy
        rcases hy with rfl | rfl <;> omega
      · unfold put32
        refine ((s.bytes_ok.app d.bytes_ok).app ?_).app (bytes_four pr)
        intro y hy
        simp at hy
        rcases hy with rfl | rfl | rfl | rfl <;> omega
    · exact M.Bytes.nil
theorem made_raw (x : Sg) : M.raw true (madeB x) = M.raw true (bodyB x) + checkB x := by
  by_cases h6 : x.t.pr = 6
  · rw [made_tcp h6, body_tcp h6]
    simp only [List.cons_append, List.nil_append, M.raw]
    omega
  by_cases h17 : x.t.pr = 17
  · rw [made_udp h17, body_udp h17]
    simp only [List.cons_append, List.nil_append, M.raw]
    omega
  · rw [made_icmp h6 h17, body_icmp h6 h17]
    simp only [List.cons_append, List.nil_append, M.raw]
    omega
theorem body_ok {x : Sg} (ok : x.ok) (hd : M.Bytes x.data) : M.Bytes (bodyB x) := by
  have h1 := ok.sq
  have h2 := ok.ak
  by_cases h6 : x.t.pr = 6
  · rw [body_tcp h6]
    refine M.Bytes.app ?_ hd
    intro y hy
    simp only [List.mem_cons, List.not_mem_nil, or_false] at hy
    omega
  by_cases h17 : x.t.pr = 17
  · rw [body_udp h17]
    refine M.Bytes.app ?_ hd
    intro y hy
    simp only [List.mem_cons, List.not_mem_nil, or_false] at hy
    omega
  · rw [body_icmp h6 h17]
    refine M.Bytes.app ?_ hd
    intro y hy
    simp only [List.mem_cons, List.not_mem_nil, or_false] at hy
    omega
theorem made_ok {x : Sg} (ok : x.ok) (hd : M.Bytes x.data) : M.Bytes (madeB x) := by
  have := checkB_bd x
  unfold madeB
  exact ((body_ok ok hd).set _ (by omega)).set _ (by omega)
theorem sum_two (A l : List Int) (h : A.length % 2 = 0) : M.sumOf [A, l] = M.nf (M.raw true A + M.raw true l) := by
  unfold M.sumOf
  simp only [List.flatten_cons, List.flatten_nil, List.append_nil]
  rw [M.raw_append, M.par_even true h]
theorem made_total {x : Sg} (ok : x.ok) (hd : M.Bytes x.data) (hE : endsB x.t.fam x.t.s x.t.d = true) :
    (M.raw true (ahead x.t.s x.t.d x.t.pr (madeB x).length) + M.raw true (madeB x)) % 65535 = 0 ∧ 0 < M.raw true (ahead x.t.s x.t.d x.t.pr (madeB x).length) + M.raw true (madeB x) := by
  have e1 : sumB x = 65535 - M.nf (M.raw true (ahead x.t.s x.t.d x.t.pr (bodyB x).length) + M.raw true (bodyB x)) := by
    unfold sumB
    rw [sum_two _ _ (ahead_even hE)]
  rw [made_raw, madeB_len]
  have b1 := (M.raw_bd true _ (ahead_ok x.t.s x.t.d x.t.pr (bodyB x).length)).1
  have b2 := (M.raw_bd true _ (body_ok ok hd)).1
  have e2 : checkB x = if sumB x = 0 ∧ x.t.pr = 17 then 65535 else sumB x := rfl
  generalize M.raw true (ahead x.t.s x.t.d x.t.pr (bodyB x).length) = RA at *
  generalize M.raw true (bodyB x) = RB at *
  generalize checkB x = c at *
  generalize sumB x = s at *
  have h4 : M.nf (RA + RB) % 65535 = (RA + RB) % 65535 := by unfold M.nf; split <;> omega
  have h5 := M.nf_bd (RA + RB)
  have h6 : M.nf (RA + RB) ≤ RA + RB := by unfold M.nf; split <;> omega
  generalize M.nf (RA + RB) = F at *
  split at e2 <;> omega
theorem made_sums {x : Sg} (ok : x.ok) (hd : M.Bytes x.data) (hE : endsB x.t.fam x.t.s x.t.d = true) : sumsB x.t.s x.t.d x.t.pr (madeB x) = true := by
  unfold sumsB
  rw [sum_two _ _ (ahead_even hE)]
  obtain ⟨h1, h2⟩ := made_total ok hd hE
  rw [M.nf_full h1 h2]
  rfl
theorem turned_sums {x : Sg} (ok : x.ok) (hd : M.Bytes x.data) (hE : endsB x.t.fam x.t.s x.t.d = true) (k : Nat) (u : Int) (hk : k < (madeB x).length) (hu : 0 ≤ u ∧ u ≤ 255) (hne : u ≠ (madeB x).getD k 0) :
    sumsB x.t.s x.t.d x.t.pr ((madeB x).set k u) = false := by
  unfold sumsB
  rw [sum_two _ _ (ahead_even hE), List.length_set, M.raw_set true _ k u hk]
  obtain ⟨h1, h2⟩ := made_total ok hd hE
  have hz := (made_ok ok hd).get k
  generalize M.raw true (ahead x.t.s x.t.d x.t.pr (madeB x).length) = RA at *
  generalize M.raw true (madeB x) = RM at *
  generalize (madeB x).getD k 0 = z at *
  simp only [beq_eq_false_iff_ne, ne_eq]
  intro h
  have h3 := (M.nf_zero h).1
  split at h3 <;> omega
end Go.Proofs.Ytgdpcomcndidcaa

namespace Go.Proofs.Ytgdpcomcndidcaa
open Go.RowKit
set_option linter.unusedVariables false
set_option linter.unusedSimpArgs false

structure May5 (x : Sg) : Prop where
  ends : endsB x.t.fam x.t.s x.t.d = true
  proto : x.t.pr = 6 ∨ x.t.pr = 17 ∨ x.t.pr = icmpOf x.t.fam
  sp : 0 ≤ x.t.sp ∧ x.t.sp ≤ 65535
  dp : 0 ≤ x.t.dp ∧ x.t.dp ≤ 65535
  wn : 0 ≤ x.wn ∧ x.wn ≤ 65535
  ty : 0 ≤ x.ty ∧ x.ty ≤ 255
  cd : 0 ≤ x.cd ∧ x.cd ≤ 255
  fl : 0 ≤ x.fl ∧ x.fl ≤ 63
  len : x.data.length ≤ 65000
theorem may5 {x : Sg} (h : mayB x = true) : May5 x := by
  simp only [mayB, protoB, numB, upB, badN, List.any_cons, List.any_nil, Bool.and_eq_true, Bool.or_eq_true, Bool.not_eq_true', Bool.or_eq_false_iff, decide_eq_false_iff_not, decide_eq_true_eq, beq_iff_eq, Bool.or_false] at h
  obtain ⟨h1, h2, ⟨⟨⟨h3, h4⟩, ⟨h5, h6⟩, ⟨h7, h8⟩⟩, ⟨⟨h9, h10⟩, ⟨h11, h12⟩⟩, h13, h14⟩, h15⟩ := h
  exact ⟨h1, h2, by omega, by omega, by omega, by omega, by omega, by omega, h15⟩
theorem u16v_yes {l : List Int} {k : Nat} (h : k + 2 ≤ l.length) : u16v l (k : Int) = 256 * l.getD k 0 + l.getD (k + 1) 0 := by
  unfold u16v
  rw [if_pos (by unfold liesB; simp; omega)]
  unfold u16
  simp
theorem u32v_yes {l : List Int} {k : Nat} (h : k + 4 ≤ l.length) : u32v l (k : Int) = 16777216 * l.getD k 0 + 65536 * l.getD (k + 1) 0 + 256 * l.getD (k + 2) 0 + l.getD (k + 3) 0 := by
  unfold u32v
  rw [if_pos (by unfold liesB; simp; omega)]
  unfold u32
  simp
theorem getD_set_ne' (l : List Int) (i k : Nat) (z : Int) (h : k < i) : (l.set i z).getD k 0 = l.getD k 0 := M.getD_set_ne l i k z (by omega)

theorem short_E {x : Sg} (m : May5 x) (h17 : x.t.pr = 17) (k : Nat) (hk : k < (madeB x).length) : segE x.t.fam x.t.pr x.t.s x.t.d ((madeB x).take k) ≠ 0 := by
  unfold segE
  rw [m.ends, if_neg (by decide), if_neg (by omega), if_pos h17]
  have hl := m.len
  rw [made_udp h17] at hk ⊢
  simp only [List.length_append, List.length_cons, List.length_nil] at hk
  by_cases h8 : k < 8
  · unfold udpE
    rw [if_pos (by rw [List.length_take]; omega)]
    decide
  · obtain ⟨j, rfl⟩ : ∃ j, k = 8 + j := ⟨k - 8, by omega⟩
    have e : ([x.t.sp / 256 % 256, x.t.sp % 256, x.t.dp / 256 % 256, x.t.dp % 256, (8 + (x.data.length : Int)) / 256 % 256, (8 + (x.data.length : Int)) % 256, checkB x / 256, checkB x % 256] ++ x.data).take (8 + j) = [x.t.sp / 256 % 256, x.t.sp % 256, x.t.dp / 256 % 256, x.t.dp % 256, (8 + (x.data.length : Int)) / 256 % 256, (8 + (x.data.length : Int)) % 256, checkB x / 256, checkB x % 256] ++ x.data.take j := by
      rw [List.take_append, List.take_of_length_le (by simp)]
      simp
    rw [e]
    unfold udpE
    have ll : ([x.t.sp / 256 % 256, x.t.sp % 256, x.t.dp / 256 % 256, x.t.dp % 256, (8 + (x.data.length : Int)) / 256 % 256, (8 + (x.data.length : Int)) % 256, checkB x / 256, checkB x % 256] ++ x.data.take j).length = 8 + j := by
      simp only [List.length_append, List.length_cons, List.length_nil, List.length_take]
      omega
    have eu := u16v_yes (l := [x.t.sp / 256 % 256, x.t.sp % 256, x.t.dp / 256 % 256, x.t.dp % 256, (8 + (x.data.length : Int)) / 256 % 256, (8 + (x.data.length : Int)) % 256, checkB x / 256, checkB x % 256] ++ x.data.take j) (k := 4) (by omega)
    simp only [List.cons_append, List.nil_append, List.getD_cons_succ, List.getD_cons_zero] at eu
    rw [if_neg (by omega), if_pos (.inr (by
      rw [ll]
      have : (4 : Int) = ((4 : Nat) : Int) := rfl
      rw [this]
      simp only [List.cons_append, List.nil_append]
      rw [eu]
      omega))]
    decide
theorem turned_E {x : Sg} (ok : x.ok) (hd : M.Bytes x.data) (m : May5 x) (k : Nat) (u : Int) (hk : k < (madeB x).length) (hk' : (madeB x).length ≤ k + x.data.length) (hu : 0 ≤ u ∧ u ≤ 255) (hne : u ≠ (madeB x).getD k 0) :
    segE x.t.fam x.t.pr x.t.s x.t.d ((madeB x).set k u) ≠ 0 := by
  have hs := turned_sums ok hd m.ends k u hk hu hne
  have hl := m.len
  unfold segE
  rw [m.ends, if_neg (by decide)]
  have lset : ((madeB x).set k u).length = (madeB x).length := List.length_set
  by_cases h6 : x.t.pr = 6
  · rw [if_pos h6]
    have ll : (madeB x).length = 20 + x.data.length := by rw [made_tcp h6]; simp; omega
    unfold tcpE
    have eH : tcpH ((madeB x).set k u) = 20 := by
      unfold tcpH
      rw [getD_set_ne' _ _ _ _ (by omega), made_tcp h6]
      rfl
    rw [if_neg (by omega), eH, if_neg (by omega), if_pos hs]
    decide
  rw [if_neg h6]
  by_cases h17 : x.t.pr = 17
  · rw [if_pos h17]
    have ll : (madeB x).length = 8 + x.data.length := by rw [made_udp h17]; simp; omega
    have e4 : u16v ((madeB x).set k u) 4 = 8 + (x.data.length : Int) := by
      have := u16v_yes (l := (madeB x).set k u) (k := 4) (by omega)
      rw [getD_set_ne' _ _ _ _ (by omega), getD_set_ne' _ _ _ _ (by omega), made_udp h17] at this
      simp only [List.cons_append, List.nil_append, List.getD_cons_succ, List.getD_cons_zero] at this
      rw [made_udp h17]
      simp only [List.cons_append, List.nil_append]
      have e : (4 : Int) = ((4 : Nat) : Int) := rfl
      rw [e, this]
      omega
    unfold udpE
    rw [if_neg (by omega), e4, if_neg (by omega)]
    have et : ((madeB x).set k u).take (8 + (x.data.length : Int)).toNat = (madeB x).set k u := List.take_of_length_le (by omega)
    rw [et]
    have e6 : u16v ((madeB x).set k u) 6 = checkB x := by
      have hb := checkB_bd x
      have := u16v_yes (l := (madeB x).set k u) (k := 6) (by omega)
      rw [getD_set_ne' _ _ _ _ (by omega), getD_set_ne' _ _ _ _ (by omega), made_udp h17] at this
      simp only [List.cons_append, List.nil_append, List.getD_cons_succ, List.getD_cons_zero] at this
      rw [made_udp h17]
      simp only [List.cons_append, List.nil_append]
      have e : (6 : Int) = ((6 : Nat) : Int) := rfl
      rw [e, this]
      omega
    have hc : checkB x ≠ 0 := by
      unfold checkB
      split
      · decide
      · rename_i h
        intro h0
        exact h ⟨h0, h17⟩
    rw [e6, if_neg hc, if_neg (by rw [hs]; decide)]
    decide
  rw [if_neg h17]
  have hi : x.t.pr = icmpOf x.t.fam := by rcases m.proto with h | h | h <;> first | exact absurd h h6 | exact absurd h h17 | exact h
  rw [if_pos hi]
  have ll : (madeB x).length = 8 + x.data.length := by rw [made_icmp h6 h17]; simp; omega
  unfold icmpE
  rw [if_neg (by omega), if_pos hs]
  decide
end Go.Proofs.Ytgdpcomcndidcaa
