/- Texts joined: SgR SgS -/
import Derived.Test.YtpjjkdgmfjhfiaaSgrR21
namespace Go.Proofs.Ytpjjkdgmfjhfiaa
open Go.RowKit
set_option linter.unusedVariables false
set_option linter.unusedSimpArgs false
def badN (m x : Int) : Bool := decide (x < 0) || decide (x > m)
def upB (m : Int) (X : List Int) : Bool := !(X.any (badN m))
theorem upTo1_any (x m : Int) (g : Nat) (w : World) (hc : w.cell? ⟨g, 0, none⟩ = some (.int .i64 m)) :
    Calls Try.prog 78 #[.int .i64 x, .pointer (some ⟨g, 0, none⟩)] w fun e w' => e = .returned (.bool (badN m x)) ∧ w' = w := by
  go_enter Try.func78, Try.ntmps78
  by_cases h0 : x < 0
  · go_wp2
    go_ret
    exact ⟨retB (by simp [badN, h0]), rfl⟩
  · go_wp2
    go_ret
    exact ⟨retB (by simp [badN, h0]; try omega), rfl⟩
set_option maxRecDepth 100000 in
set_option maxHeartbeats 2000000 in
theorem indexFunc_any (m : Int) (g : Nat) (a : Option Addr) (c : Nat) (X : List Int) (w : World) (h : RowI w a X) (hc : w.cell? ⟨g, 0, none⟩ = some (.int .i64 m)) :
    Calls Try.prog 87 #[.slice a X.length c, .func (.func 78) #[] #[.pointer (some ⟨g, 0, none⟩)]] w fun e w' => ∃ i : Int, e = .returned (.int .i64 i) ∧ (decide (0 ≤ i) = X.any (badN m)) ∧ w' = w := by
  have hs := h.small
  obtain ⟨N, hN⟩ : ∃ N, X.length = N := ⟨_, rfl⟩
  have HN : Hid (X.length = N) := hN
  rw [hN] at hs ⊢
  clear hN
  have KU : Hid (∀ x, Calls Try.prog 78 #[.int .i64 x, .pointer (some ⟨g, 0, none⟩)] w _) := fun x => upTo1_any x m g w hc
  clear hc
  go_enter Try.func87, Try.ntmps87
  go_wp2
  go_loopw [8] (fun i w' => ∃ k : Nat, k ≤ N ∧ i = .int .i64 k ∧ w' = w ∧ Hid ((X.take k).any (badN m) = false)) (fun i _ => N - (intOf i).toNat)
  case atStart => exact ⟨0, Nat.zero_le _, rfl, rfl, by show (X.take 0).any (badN m) = false; simp⟩
  case round =>
    obtain ⟨k, hk, rfl, rfl, ho⟩ := hrel
    by_cases hlt : k < N
    · obtain ⟨b, off, rfl, hcl⟩ := h.cells (by have := HN.out; omega)
      have c0 := hcl k (by have := HN.out; omega)
      have hlk : (k : Int) < (N : Int) := by omega
      have e1 : Hid (X.take (k + 1) = X.take k ++ [X.getD k 0]) := by
        show X.take (k + 1) = X.take k ++ [X.getD k 0]
        rw [List.take_succ_eq_append_getElem (by have := HN.out; omega)]; simp [show k < X.length by have := HN.out; omega]
      have e2 : Hid (X.take (k + 1) ++ X.drop (k + 1) = X) := List.take_append_drop _ _
      clear hcl h
      generalize X.getD k 0 = x at *
      have KX : Hid _ := KU.out x
      cases hb : badN m x with
      | false =>
        rw [hb] at KX
        clear KU
        go_wp2_with fail
        refine Calls.mono KX.out ?_
        rintro e W ⟨rfl, hW⟩
        rw [hW]
        clear hW KX
        go_wp2
        exact ⟨⟨k + 1, by omega, int_eq (by omega), trivial, by show (X.take (k + 1)).any (badN m) = false; rw [e1.out, List.any_append, ho.out]; simp [hb]⟩, by simp [intOf]; omega⟩
      | true =>
        rw [hb] at KX
        clear KU
        go_wp2_with fail
        refine Calls.mono KX.out ?_
        rintro e W ⟨rfl, hW⟩
        rw [hW]
        clear hW KX
        go_wp2
        go_ret
        refine ⟨(k : Int), rfl, ?_⟩
        rw [← e2.out, e1.out]
        simp [hb]
    · have hlt' : ¬ (k : Int) < (N : Int) := by omega
      go_wp2
      go_ret
      refine ⟨-1, rfl, ?_⟩
      have := ho.out
      rw [List.take_of_length_le (by have := HN.out; omega)] at this
      rw [this]
      exact ⟨rfl, rfl⟩
theorem upTo_any (m : Int) (a : Option Addr) (c : Nat) (X : List Int) (w : World) (h : RowI w a X) :
    Calls Try.prog 62 #[.int .i64 m, .slice a X.length c] w fun e w' => e = .returned (.bool (upB m X)) ∧ Below w.heap.size w w' := by
  obtain ⟨W1, hW1⟩ : ∃ W1, w.alloc (.cells #[.int .i64 m] 3) = W1 := ⟨_, rfl⟩
  have b1 := bel_nw hW1
  have c0 : W1.cell? ⟨w.heap.size, 0, none⟩ = some (.int .i64 m) := by rw [← hW1]; simp
  have KI : Hid _ := indexFunc_any m w.heap.size a c X W1 (h.below b1) c0
  have KC : Hid (Calls Try.prog 77 #[.slice a X.length c, .func (.func 78) #[] #[.pointer (some ⟨w.heap.size, 0, none⟩)]] W1 fun e w' => e = .returned (.bool (X.any (badN m))) ∧ w' = W1) := by
    show Calls _ _ _ _ _
    generalize X.any (badN m) = R at *
    go_enter Try.func77, Try.ntmps77
    go_wp2_with fail
    refine Calls.mono KI.out ?_
    rintro e W ⟨i, rfl, hi, hW⟩
    rw [hW]
    clear hW KI
    go_wp2
    go_ret
    exact ⟨rfl, rfl⟩
  have e : upB m X = !(X.any (badN m)) := rfl
  rw [e]
  clear e
  generalize X.any (badN m) = R at *
  clear KI
  go_enter Try.func62, Try.ntmps62
  go_wp2_with fail
  refine Calls.mono KC.out ?_
  rintro e W ⟨rfl, hW⟩
  rw [hW]
  clear hW KC
  go_wp2
  go_ret
  exact ⟨rfl, b1⟩
def numB (x : Sg) : Bool := upB 65535 [x.t.sp, x.t.dp, x.wn] && (upB 255 [x.ty, x.cd] && upB 63 [x.fl])
def protoB (x : Sg) : Bool := x.t.pr == 6 || (x.t.pr == 17 || x.t.pr == icmpOf x.t.fam)
def mayB (x : Sg) : Bool := endsB x.t.fam x.t.s x.t.d && (protoB x && (numB x && decide (x.data.length ≤ 65000)))
def portB (x : Sg) : List Int := put16 (put16 [] x.t.sp) x.t.dp
def headB (x : Sg) : List Int :=
  if x.t.pr = 6 then put16 (put32 (put32 (portB x) x.sq) x.ak ++ [80, x.fl % 256]) x.wn ++ [0, 0, 0, 0]
  else if x.t.pr = 17 then put16 (portB x) (8 + x.data.length) ++ [0, 0]
  else put16 [x.ty % 256, x.cd % 256, 0, 0] (if isEcho x.t.fam x.ty = true then x.t.sp else 0) ++ [0, 0]
def placeB (x : Sg) : Nat := if x.t.pr = 6 then 16 else if x.t.pr = 17 then 6 else 2
theorem rowI_at (w : World) (t : TypeId) (X : List Int) (hs : X.length ≤ 17592186044416) : RowI (w.alloc (.cells (X.map (Value.int .i64)).toArray t)) (some ⟨w.heap.size, 0, none⟩) X :=
  ⟨hs, fun _ => ⟨_, _, rfl, fun i hi => by
    have e : X.getD i 0 = X[i] := by simp [hi]
    rw [e, Nat.zero_add, World.cell?_alloc_new]
    simp [hi]⟩⟩
/-- append(v, x...) as one step of a region that draws. -/
theorem step_app {ops : Array Oper} {o : Oper} {ac : Act} {K : Act → World → Prop} {Q : Exit → Act → World → Prop} {Z : Prop} (w : World) (hgd : o.guard = none) (s x : Operand)
    (ho : o.op = .call { callee := .builtin .append, args := #[s, x], argTypes := #[28, 28] })
    (B : Nat) (v : Value) (xs : List Int) (hs : ac.eval s = v) (hown : Owns w B v xs)
    (a : Option Addr) (n c : Nat) (l : List Int) (hx : ac.eval x = .slice a n c) (hn : n = l.length) (hrow : Row w a l) (hnil : a = none → c = 0)
    (hsum : xs.length + l.length ≤ 140737488355328) (hbase : B ≤ w.heap.size)
    (h : ∀ v' w', Owns w' B v' (xs ++ l) → w.grownBy w' v.ownBlock → K (ac.put o.dst v') w') :
    if Region.wanted o (yielded ops ac.tmps) = true then Oper.wp Try.prog o ac w K Q else Z := by
  subst hn
  have hw : Region.wanted o (yielded ops ac.tmps) = true := by simp [Region.wanted, hgd]
  rw [if_pos hw]
  have key : ∃ v' w', (Builtin.append_ #[28, 28] o.type #[v, .slice a l.length c]).run Try.prog w = .ok v' w' ∧ Owns w' B v' (xs ++ l) ∧ w.grownBy w' v.ownBlock := by
    obtain ⟨i0, hi, hz0, hz1, hz2⟩ := info_parts info_u8
    have hrun : ∀ ad : Addr, a = some ad → ∃ v' w', (Builtin.append_ #[28, 28] o.type #[v, .slice a l.length c]).run Try.prog w = .ok v' w' ∧ Owns w' B v' (xs ++ l) ∧ w.grownBy w' v.ownBlock := by
      intro ad ha
      subst ha
      obtain ⟨v', w', h1, h2, h3, _⟩ := run_append_own (P := Try.prog) w B 28 o.type 5 i0 (.int .u8 0) 1 1 Try.underlying28 hi hz0 hz1 hz2 rfl (by decide) v xs.length (xs.map (Value.int .u8)) hown ad l.length c (l.map (Value.int .u8)) (by simp) (by
        intro j u hj
        have hjl : j < l.length := by
          have := (List.getElem?_eq_some_iff.1 hj).1
          simpa using this
        obtain ⟨b, off, hh, hc⟩ := hrow.cells (by omega)
        cases hh
        have e1 : Addr.add ⟨b, off, none⟩ j = ⟨b, off + j, none⟩ := Go.WideShapes.add_plain ..
        rw [e1, hc j hjl]
        rw [← hj]
        simp [hjl]) oneCell_u8 (by unfold maxLen; omega) (by omega) hbase
      refine ⟨v', w', h1, ?_, h3⟩
      show w'.ownsRow B 5 1 v' (xs ++ l).length ((xs ++ l).map (Value.int .u8))
      rw [List.length_append, List.map_append]
      exact h2
    cases ha : a with
    | some ad => rw [← ha]; exact hrun ad ha
    | none =>
      have hl : l = [] := by
        cases l with
        | nil => rfl
        | cons y l => obtain ⟨b, off, hh, _⟩ := hrow.cells (by simp); rw [ha] at hh; cases hh
      subst hl
      rw [hnil ha]
      refine ⟨v, w, ?_, by simpa using hown, World.grownBy.refl _ _⟩
      exact run_append_owned_none (P := Try.prog) (w := w) B 28 o.type 5 i0 1 Try.underlying28 hi v xs.length (xs.map (Value.int .u8)) hown
  obtain ⟨v', w', hr, h2, h3⟩ := key
  unfold Oper.wp execOp
  simp only [ho, resolve, invoke, builtin, Sem.run_bind, Sem.run_pure, Result.andThen_ok, List.map_toArray, List.map_cons, List.map_nil, hs, hx, hr]
  exact h v' w' h2 h3
/-- The same, its answer laid out. -/
theorem step_app2 {ops : Array Oper} {o : Oper} {ac : Act} {K : Act → World → Prop} {Q : Exit → Act → World → Prop} {Z : Prop} (w : World) (hgd : o.guard = none) (s x : Operand)
    (ho : o.op = .call { callee := .builtin .append, args := #[s, x], argTypes := #[28, 28] })
    (B : Nat) (v : Value) (xs : List Int) (hs : ac.eval s = v) (hown : Owns w B v xs) (hxs : M.Bytes xs)
    (a : Option Addr) (n c : Nat) (l : List Int) (hx : ac.eval x = .slice a n c) (hn : n = l.length) (hrow : Row w a l) (hnil : a = none → c = 0)
    (r : List Int) (hr : xs ++ l = r) (hsum : r.length ≤ 140737488355328) (hbase : B ≤ w.heap.size)
    (h : ∀ a' c' w', Owns w' B (.slice a' r.length c') r → r.length ≤ c' → (a' = none → c' = 0) → Row w' a' r → Below B w w' → K (ac.put o.dst (.slice a' r.length c')) w') :
    if Region.wanted o (yielded ops ac.tmps) = true then Oper.wp Try.prog o ac w K Q else Z := by
  subst hr
  refine step_app w hgd s x ho B v xs hs hown a n c l hx hn hrow hnil (by simpa using hsum) hbase fun v' w' h1 h2 => ?_
  obtain ⟨a', c', rfl, h3, h4, h5, h6⟩ := h1.form
  refine h a' c' w' h1 h3 h4 (h1.row hsum (hxs.app hrow.bytes)) ((Below.refl _ _).grown h2 hbase fun k hk => ?_)
  exact (World.ownsRow.lt hown k hk).1
theorem upTo3 (m a b d : Int) (W : World) : Calls Try.prog 62 #[.int .i64 m, .slice (some ⟨W.heap.size, 0, none⟩) 3 3] (W.alloc (.cells #[.int .i64 a, .int .i64 b, .int .i64 d] 3)) fun e w' => e = .returned (.bool (upB m [a, b, d])) ∧ Below (W.alloc (.cells #[.int .i64 a, .int .i64 b, .int .i64 d] 3)).heap.size (W.alloc (.cells #[.int .i64 a, .int .i64 b, .int .i64 d] 3)) w' :=
  upTo_any m (some ⟨W.heap.size, 0, none⟩) 3 [a, b, d] (W.alloc (.cells #[.int .i64 a, .int .i64 b, .int .i64 d] 3)) (rowI_at W 3 [a, b, d] (by simp))
theorem upTo2 (m a b : Int) (W : World) : Calls Try.prog 62 #[.int .i64 m, .slice (some ⟨W.heap.size, 0, none⟩) 2 2] (W.alloc (.cells #[.int .i64 a, .int .i64 b] 3)) fun e w' => e = .returned (.bool (upB m [a, b])) ∧ Below (W.alloc (.cells #[.int .i64 a, .int .i64 b] 3)).heap.size (W.alloc (.cells #[.int .i64 a, .int .i64 b] 3)) w' :=
  upTo_any m (some ⟨W.heap.size, 0, none⟩) 2 [a, b] (W.alloc (.cells #[.int .i64 a, .int .i64 b] 3)) (rowI_at W 3 [a, b] (by simp))
theorem upTo1_ (m a : Int) (W : World) : Calls Try.prog 62 #[.int .i64 m, .slice (some ⟨W.heap.size, 0, none⟩) 1 1] (W.alloc (.cells #[.int .i64 a] 3)) fun e w' => e = .returned (.bool (upB m [a])) ∧ Below (W.alloc (.cells #[.int .i64 a] 3)).heap.size (W.alloc (.cells #[.int .i64 a] 3)) w' :=
  upTo_any m (some ⟨W.heap.size, 0, none⟩) 1 [a] (W.alloc (.cells #[.int .i64 a] 3)) (rowI_at W 3 [a] (by simp))
set_option maxRecDepth 100000 in
set_option maxHeartbeats 4000000 in
theorem rightNumbers_any (x : Sg) (a : Option Addr) (c : Nat) (w : World) :
    Calls Try.prog 40 #[.agg (sRc x.t.fam x.t.pr x.t.s.fam x.t.s.hi x.t.s.lo x.t.d.fam x.t.d.hi x.t.d.lo x.t.sp x.t.dp x.fl x.sq x.ak x.wn x.ty x.cd x.er x.inn.fam x.inn.pr x.inn.s.fam x.inn.s.hi x.inn.s.lo x.inn.d.fam x.inn.d.hi x.inn.d.lo x.inn.sp x.inn.dp a x.data.length c)] w fun e w' => e = .returned (.bool (numB x)) ∧ Below w.heap.size w w' := by
  obtain ⟨W1, hW1⟩ : ∃ W1, w.alloc (.cells (sRc x.t.fam x.t.pr x.t.s.fam x.t.s.hi x.t.s.lo x.t.d.fam x.t.d.hi x.t.d.lo x.t.sp x.t.dp x.fl x.sq x.ak x.wn x.ty x.cd x.er x.inn.fam x.inn.pr x.inn.s.fam x.inn.s.hi x.inn.s.lo x.inn.d.fam x.inn.d.hi x.inn.d.lo x.inn.sp x.inn.dp a x.data.length c) 38) = W1 := ⟨_, rfl⟩
  have b1 := bel_nw hW1
  have B1 := blk_nw hW1
  have K1 : Hid _ := upTo3 65535 x.t.sp x.t.dp x.wn W1
  have K2 : Hid _ := upTo2 255 x.ty x.cd
  have K3 : Hid _ := upTo1_ 63 x.fl
  unfold numB
  generalize upB 65535 [x.t.sp, x.t.dp, x.wn] = R1 at *
  generalize upB 255 [x.ty, x.cd] = R2 at *
  generalize upB 63 [x.fl] = R3 at *
  have d8 := B1.cell 8 (.int .i64 x.t.sp) rfl
  have d9 := B1.cell 9 (.int .i64 x.t.dp) rfl
  have d10 := B1.cell 10 (.int .i64 x.fl) rfl
  have d13 := B1.cell 13 (.int .i64 x.wn) rfl
  have d14 := B1.cell 14 (.int .i64 x.ty) rfl
  have d15 := B1.cell 15 (.int .i64 x.cd) rfl
  go_enter Try.func40, Try.ntmps40
  go_wp2_with fail
  refine Calls.mono K1.out ?_
  rintro e W2 ⟨rfl, bb⟩
  have b2 : Below w.heap.size w W2 := (b1.alloc b1.size _).trans (bb.mono (b1.alloc b1.size _).size)
  have B2 := (B1.alloc (.cells #[.int .i64 x.t.sp, .int .i64 x.t.dp, .int .i64 x.wn] 3)).kept bb
  clear K1 bb B1 b1 hW1 d8 d9 d10 d13 d14 d15
  have d10 := B2.cell 10 (.int .i64 x.fl) rfl
  have d14 := B2.cell 14 (.int .i64 x.ty) rfl
  have d15 := B2.cell 15 (.int .i64 x.cd) rfl
  cases R1 with
  | false =>
    go_wp2
    go_ret
    exact ⟨retB (by simp), b2⟩
  | true =>
    go_wp2_with fail
    refine Calls.mono (K2.out _) ?_
    rintro e W3 ⟨rfl, bb⟩
    have b3 : Below w.heap.size w W3 := (b2.alloc b2.size _).trans (bb.mono (b2.alloc b2.size _).size)
    have B3 := (B2.alloc (.cells #[.int .i64 x.ty, .int .i64 x.cd] 3)).kept bb
    clear K2 bb B2 b2 d10 d14 d15
    have d10 := B3.cell 10 (.int .i64 x.fl) rfl
    cases R2 with
    | false =>
      go_wp2
      go_ret
      exact ⟨retB (by simp), b3⟩
    | true =>
      go_wp2_with fail
      refine Calls.mono (K3.out _) ?_
      rintro e W4 ⟨rfl, bb⟩
      have b4 : Below w.heap.size w W4 := (b3.alloc b3.size _).trans (bb.mono (b3.alloc b3.size _).size)
      clear K3 bb B3 d10
      go_wp2
      go_ret
      exact ⟨retB (by simp), b4⟩
set_option maxRecDepth 100000 in
set_option maxHeartbeats 4000000 in
theorem rightProto_any (x : Sg) (w : World) :
    Calls Try.prog 39 #[.agg (sRb x.t.fam x.t.pr x.t.s.fam x.t.s.hi x.t.s.lo x.t.d.fam x.t.d.hi x.t.d.lo x.t.sp x.t.dp)] w fun e w' => e = .returned (.bool (protoB x)) ∧ Below w.heap.size w w' := by
  obtain ⟨W1, hW1⟩ : ∃ W1, w.alloc (.cells (sRb x.t.fam x.t.pr x.t.s.fam x.t.s.hi x.t.s.lo x.t.d.fam x.t.d.hi x.t.d.lo x.t.sp x.t.dp) 26) = W1 := ⟨_, rfl⟩
  have b1 := bel_nw hW1
  have B1 := blk_nw hW1
  have d0 := B1.cell 0 (.int .i64 x.t.fam) rfl
  have d1 := B1.cell 1 (.int .i64 x.t.pr) rfl
  have KI : Hid (∀ W, Calls Try.prog 57 #[.int .i64 x.t.fam] W _) := fun W => icmpOf_any x.t.fam W
  unfold protoB
  generalize icmpOf x.t.fam = I at *
  by_cases h6 : x.t.pr = 6
  · have h6' : (x.t.pr == 6) = true := by simpa using h6
    have e : (x.t.pr == 6 || (x.t.pr == 17 || x.t.pr == I)) = true := by rw [h6']; rfl
    rw [e]
    clear h6 e
    go_enter Try.func39, Try.ntmps39
    go_wp2
    go_quiet (fail)
    go_wp2
    go_ret
    exact ⟨retB (by simp), below_drewN b1 _⟩
  have h6' : (x.t.pr == 6) = false := by simpa using h6
  clear h6
  by_cases h17 : x.t.pr = 17
  · have h17' : (x.t.pr == 17) = true := by simpa using h17
    have e : (x.t.pr == 6 || (x.t.pr == 17 || x.t.pr == I)) = true := by rw [h6', h17']; rfl
    rw [e]
    clear h17 e
    go_enter Try.func39, Try.ntmps39
    go_wp2
    go_quiet (fail)
    go_wp2
    go_ret
    exact ⟨retB (by simp), below_drewN b1 _⟩
  have h17' : (x.t.pr == 17) = false := by simpa using h17
  have e : (x.t.pr == 6 || (x.t.pr == 17 || x.t.pr == I)) = (x.t.pr == I) := by rw [h6', h17']; rfl
  rw [e]
  clear h17 e
  go_enter Try.func39, Try.ntmps39
  go_wp2
  go_quiet (first | (go_at_call 57; refine Calls.quiet_of_same (KI.out _)))
  go_wp2
  go_ret
  exact ⟨rfl, below_drewN b1 _⟩
set_option maxRecDepth 100000 in
set_option maxHeartbeats 4000000 in
theorem portBytes_any (x : Sg) (w : World) :
    Calls Try.prog 63 #[.agg (sRb x.t.fam x.t.pr x.t.s.fam x.t.s.hi x.t.s.lo x.t.d.fam x.t.d.hi x.t.d.lo x.t.sp x.t.dp)] w fun e w' => ∃ a c, e = .returned (.slice a 4 c) ∧ Fresh w w' a c (portB x) := by
  obtain ⟨W1, hW1⟩ : ∃ W1, w.alloc (.cells (sRb x.t.fam x.t.pr x.t.s.fam x.t.s.hi x.t.s.lo x.t.d.fam x.t.d.hi x.t.d.lo x.t.sp x.t.dp) 26) = W1 := ⟨_, rfl⟩
  have b1 := bel_nw hW1
  have B1 := blk_nw hW1
  obtain ⟨L1, hL1⟩ : ∃ L, put16 [] x.t.sp = L := ⟨_, rfl⟩
  obtain ⟨L2, hL2⟩ : ∃ L, portB x = L := ⟨_, rfl⟩
  have hL2' : put16 L1 x.t.dp = L2 := by rw [← hL2, ← hL1]; rfl
  have l1 : L1.length = 2 := by rw [← hL1]; simp [put16]
  have l2 : L2.length = 4 := by rw [← hL2']; simp [put16, l1]
  rw [hL2]
  have K1 : Hid (∀ W, Calls Try.prog 26 #[.slice none 0 0, .int .i64 x.t.sp] W fun e w' => ∃ a' c', e = .returned (.slice a' 2 c') ∧ Fresh W w' a' c' L1) := fun W => by
    have := put16_any none 0 [] x.t.sp W ⟨by simp, M.Bytes.nil, fun h => by simp at h⟩ (fun _ => rfl) (by simp)
    rw [hL1, l1] at this
    exact this
  have K2 : Hid (∀ W a c, Row W a L1 → (a = none → c = 0) → Calls Try.prog 26 #[.slice a 2 c, .int .i64 x.t.dp] W fun e w' => ∃ a' c', e = .returned (.slice a' 4 c') ∧ Fresh W w' a' c' L2) := fun W a c hr hn => by
    have := put16_any a c L1 x.t.dp W hr hn (by omega)
    rw [hL2', l2, l1] at this
    exact this
  have l2' : Hid (L2.length = 4) := l2
  clear hL1 hL2 hL2' l1 l2
  go_enter Try.func63, Try.ntmps63
  go_wp2_with fail
  refine wp_region_noPanic ?_
  refine wp_region_held_drew (S := fun w' => w'.cell? ⟨w.heap.size, 8, none⟩ = some (.int .i64 x.t.sp) ∧ w'.cell? ⟨w.heap.size, 9, none⟩ = some (.int .i64 x.t.dp)) (by kernel_rfl) (by exact ⟨B1.drew.cell 8 _ rfl, B1.drew.cell 9 _ rfl⟩) (fun hHeld => ?_)
  refine tk (i := 0) (oi := { dst := some 3, op := Op.fieldAddr 26 (.tmp 1) 4, type := 0, pos := "build.go:63", after := #[], guard := none }) (v := (.pointer (some ⟨w.heap.size, 8, none⟩))) hHeld ?_ ?_
  · intro w9 hSw
    try dsimp only at hSw
    go_simp
  try simp only [pu]
  refine tk (i := 1) (oi := { dst := some 4, op := Op.load 3 (.tmp 3), type := 3, pos := "build.go:63", after := #[{ on := 0, ground := Ground.data }], guard := none }) (v := (.int .i64 x.t.sp)) hHeld ?_ ?_
  · intro w9 hSw
    try dsimp only at hSw
    go_simp
  try simp only [pu]
  refine tk (i := 3) (oi := { dst := some 6, op := Op.fieldAddr 26 (.tmp 1) 5, type := 0, pos := "build.go:63", after := #[], guard := none }) (v := (.pointer (some ⟨w.heap.size, 9, none⟩))) hHeld ?_ ?_
  · intro w9 hSw
    try dsimp only at hSw
    go_simp
  try simp only [pu]
  refine tk (i := 4) (oi := { dst := some 7, op := Op.load 3 (.tmp 6), type := 3, pos := "build.go:63", after := #[{ on := 3, ground := Ground.data }], guard := none }) (v := (.int .i64 x.t.dp)) hHeld ?_ ?_
  · intro w9 hSw
    try dsimp only at hSw
    go_simp
  try simp only [pu]
  refine wpAnyH_ready (rs := [2]) (by kernel_rfl) (by simp) ?_
  refine AllReadyH.cons (o := { dst := some 5, op := Op.call { callee := Callee.value (.func 26), args := #[.const (.slice none 0 0), .tmp 4], argTypes := #[28, 3] }, type := 28, pos := "build.go:63", after := #[{ on := 1, ground := Ground.data }], guard := none }) rfl (fun K hK => ?_) AllReadyH.nil
  go_simp
  refine Calls.mono (K1.out _) ?_
  rintro e W2 ⟨a2, c2, rfl, f2⟩
  have B2 := B1.drew.kept f2.below
  have b2 : Below w.heap.size w W2 := b1.drew.trans (f2.below.mono b1.drew.size)
  refine hK.out _ _ ?_ (fun hHeld => ?_)
  · exact ⟨B2.cell 8 _ rfl, B2.cell 9 _ rfl⟩
  clear hK K
  try simp only [pu]
  refine wpAnyH_ready (rs := [5]) (by kernel_rfl) (by simp) ?_
  refine AllReadyH.cons (o := { dst := some 8, op := Op.call { callee := Callee.value (.func 26), args := #[.tmp 5, .tmp 7], argTypes := #[28, 3] }, type := 28, pos := "build.go:63", after := #[{ on := 2, ground := Ground.data }, { on := 4, ground := Ground.data }, { on := 2, ground := Ground.chain }], guard := none }) rfl (fun K hK => ?_) AllReadyH.nil
  go_simp
  refine Calls.mono (K2.out _ _ _ f2.row f2.nil) ?_
  rintro e W3 ⟨a3, c3, rfl, f3⟩
  have B3 := B2.kept f3.below
  have b3 := bel_tr b2 f3.below
  refine hK.out _ _ ?_ (fun hHeld => ?_)
  · exact ⟨B3.cell 8 _ rfl, B3.cell 9 _ rfl⟩
  clear hK K
  try simp only [pu]
  refine tk (i := 6) (oi := { dst := some 2, op := Op.assign (.tmp 8), type := 28, pos := "build.go:63", after := #[{ on := 5, ground := Ground.data }, { on := 5, ground := Ground.chain }, { on := 0, ground := Ground.phase }, { on := 1, ground := Ground.phase }, { on := 2, ground := Ground.phase }, { on := 3, ground := Ground.phase }, { on := 4, ground := Ground.phase }, { on := 5, ground := Ground.phase }], guard := none }) (v := (.slice a3 4 c3)) hHeld ?_ ?_
  · intro w9 hSw
    try dsimp only at hSw
    go_simp
  try simp only [pu]
  refine wpAnyH_done (by kernel_rfl) ?_ _
  refine NoPanic.normal ?_
  go_wp2
  go_ret
  exact ⟨a3, c3, rfl, owns_le b2.size f3.owns, f3.room, f3.nil, f3.row, b3⟩
end Go.Proofs.Ytpjjkdgmfjhfiaa
