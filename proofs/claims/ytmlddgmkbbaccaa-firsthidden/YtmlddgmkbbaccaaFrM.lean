/- Slices of ints of one's own; is a rule hidden by one that was kept. -/
import Derived.Test.YtmlddgmkbbaccaaFrG
import Derived.Test.YtmlddgmkbbaccaaFrL
import Derived.Deep.AppendLies
namespace Go.Proofs.Ytmlddgmkbbaccaa
open Go.RowKit
set_option linter.unusedVariables false
set_option linter.unusedSimpArgs false
theorem info_int : (Try.prog.info? 3).map (fun i => (i.zero, i.size, i.bytes)) = some (some (.int .i64 0), 1, 8) := by kernel_rfl
/-- A slice of ints, as it is read. -/
structure RowI (w : World) (a : Option Addr) (l : List Int) : Prop where
  small : l.length ≤ 17592186044416
  cells : 0 < l.length → ∃ b off, a = some ⟨b, off, none⟩ ∧ ∀ i, i < l.length → w.cell? ⟨b, off + i, none⟩ = some (.int .i64 (l.getD i 0))
theorem RowI.below {w w' : World} {a : Option Addr} {l : List Int} (h : RowI w a l) (hb : Below w.heap.size w w') : RowI w' a l :=
  ⟨h.small, fun hl => by
    obtain ⟨b, off, ha, hc⟩ := h.cells hl
    exact ⟨b, off, ha, fun i hi => (hb.cell (World.block_lt_of_cell? w _ (hc i hi))).trans (hc i hi)⟩⟩
theorem RowI.drewN {w : World} {a : Option Addr} {l : List Int} (h : RowI w a l) (n : Nat) : RowI (w.drewN n) a l := h.below (below_drewN (Below.refl _ _) n)
/-- A slice of places that the call itself made. -/
def OwnI (w : World) (B : Nat) (a : Option Addr) (c : Nat) (l : List Nat) : Prop := w.ownsRow B 3 1 (.slice a l.length c) l.length (l.map fun i : Nat => Value.int .i64 i)
theorem OwnI.nil (w : World) (B : Nat) : OwnI w B none 0 [] := World.ownsRow_nil _ _ _ _
theorem OwnI.below {w w' : World} {B : Nat} {a : Option Addr} {c : Nat} {l : List Nat} (h : OwnI w B a c l) (hb : Below w.heap.size w w') : OwnI w' B a c l := by
  obtain ⟨h1, h2⟩ := h
  refine ⟨h1, ?_⟩
  rcases h2 with h2 | ⟨g, cap, cur, h3, h4, h5, h6⟩
  · exact .inl h2
  · refine .inr ⟨g, cap, cur, h3, h4, (hb.block g ?_).trans h5, h6⟩
    exact (Array.getElem?_eq_some_iff.1 h5).1
theorem OwnI.row {w : World} {B : Nat} {a : Option Addr} {c : Nat} {l : List Nat} (h : OwnI w B a c l) (hs : l.length ≤ 17592186044416) : RowI w a (l.map fun i : Nat => (i : Int)) := by
  refine ⟨by simpa using hs, fun hp => ?_⟩
  simp only [List.length_map] at hp
  have h0 := h
  obtain ⟨h1, h2⟩ := h
  rcases h2 with ⟨h3, h4⟩ | ⟨g, cap, cur, h3, h4, h5, h6, h7, h8, h9⟩
  · omega
  · simp only [Value.slice.injEq] at h3
    obtain ⟨rfl, _, rfl⟩ := h3
    refine ⟨g, 0, rfl, fun i hi => ?_⟩
    simp only [List.length_map] at hi
    have hc := World.ownsRow.cellAt (e := 3) (size := 1) h0 i (by omega)
    rw [Nat.zero_add, hc]
    simp [hi]
/-- What an append to another slice of one's own leaves. -/
theorem OwnI.far {w w' : World} {B : Nat} {a : Option Addr} {c : Nat} {l : List Nat} {x : Option Nat} (h : OwnI w B a c l) (hg : w.grownBy w' x) (hx : ∀ y, a = some y → x ≠ some y.block) : OwnI w' B a c l := by
  obtain ⟨h1, h2⟩ := h
  refine ⟨h1, ?_⟩
  rcases h2 with h2 | ⟨g, cap, cur, h3, h4, h5, h6⟩
  · exact .inl h2
  · refine .inr ⟨g, cap, cur, h3, h4, ?_, h6⟩
    simp only [Value.slice.injEq] at h3
    rw [hg.block g (Array.getElem?_eq_some_iff.1 h5).1 (fun e => hx _ h3.1 e.symm)]
    exact h5
theorem OwnI.lt {w : World} {B : Nat} {a : Option Addr} {c : Nat} {l : List Nat} (h : OwnI w B a c l) : ∀ y, a = some y → B ≤ y.block ∧ y.block < w.heap.size ∧ y.off = 0 ∧ y.spot = none := by
  intro y hy
  obtain ⟨h1, h2⟩ := h
  rcases h2 with ⟨h2, _⟩ | ⟨g, cap, cur, h3, h4, h5, h6⟩
  · simp only [Value.slice.injEq] at h2
    rw [h2.1] at hy
    cases hy
  · simp only [Value.slice.injEq] at h3
    rw [h3.1] at hy
    cases hy
    exact ⟨h4, (Array.getElem?_eq_some_iff.1 h5).1, rfl, rfl⟩
/-- append(v, x) of one place, which lies in a new block. -/
theorem wpList_appI {ops : Array Oper} {rest : List Oper} {o : Oper} {ac : Act} {Q : Exit → Act → World → Prop} (w : World) (hgd : o.guard = none) (s x : Operand)
    (ho : o.op = .call { callee := .builtin .append, args := #[s, x], argTypes := #[42, 42] })
    (B : Nat) (a : Option Addr) (c : Nat) (xs : List Nat) (hs : ac.eval s = .slice a xs.length c) (hown : OwnI w B a c xs)
    (ad : Addr) (cc : Nat) (y : Nat) (hx : ac.eval x = .slice (some ad) 1 cc) (hc : w.cell? ad = some (.int .i64 y))
    (hsum : xs.length + 1 ≤ 8796093022208) (hbase : B ≤ w.heap.size)
    (h : ∀ g c' w', OwnI w' B (some ⟨g, 0, none⟩) c' (xs ++ [y]) → Below B w w' → w.grownBy w' (a.map (·.block)) → (a.map (·.block) = some g ∨ g = w.heap.size) → g < w'.heap.size → wpList Try.prog ops Q rest (ac.put o.dst (.slice (some ⟨g, 0, none⟩) (xs.length + 1) c')) w') : wpList Try.prog ops Q (o :: rest) ac w := by
  obtain ⟨i0, hi, hz0, hz1, hz2⟩ := info_parts info_int
  refine wpList_append_lies w hgd s x 42 ho B 3 i0 (.int .i64 0) 1 8 Try.underlying42 hi hz0 hz1 hz2 rfl (by decide) (.slice a xs.length c) xs.length (xs.map fun i : Nat => Value.int .i64 i) hs hown ad 1 cc [Value.int .i64 y] hx (by simp) ?_ (by intro u hu; simp at hu; rw [hu]; rfl) (by decide) (by unfold maxLen; omega) (by omega) hbase _ rfl ?_
  · intro j u hj
    have hjl : j = 0 := by
      have := (List.getElem?_eq_some_iff.1 hj).1
      simp at this; omega
    subst hjl
    have e1 : Addr.add ad 0 = ad := by cases ad; rfl
    rw [e1, hc]
    simpa using hj
  · intro g cap w' h1 h2 h3 h4
    have hb : (Value.slice a xs.length c).ownBlock = a.map (·.block) := by
      cases a with
      | none => rfl
      | some ad' => cases ad'; rfl
    rw [hb] at h2 h3
    refine h g cap w' ?_ ((Below.refl _ _).grown h2 hbase fun k hk => ?_) h2 h3 h4
    · show w'.ownsRow B 3 1 _ (xs ++ [y]).length ((xs ++ [y]).map fun i : Nat => Value.int .i64 i)
      rw [List.length_append, List.map_append]
      exact h1
    · cases a with
      | none => cases hk
      | some ad' =>
        simp only [Option.map_some, Option.some.injEq] at hk
        rw [← hk]
        exact (OwnI.lt hown ad' rfl).1
set_option maxRecDepth 100000 in
set_option maxHeartbeats 4000000 in
theorem keep1_any (j N c g0 q7 qb g : Nat) (a : Option Addr) (b off : Nat) (q r : Rl) (w : World) (hN : N ≤ 17592186044416) (hj : j < N) (ha : a = some ⟨b, off, none⟩) (hc : CellsAt w b (off + j * 17) q.v) (h0 : w.cell? ⟨g0, 0, none⟩ = some (.slice a N c)) (h7 : w.cell? ⟨q7, 0, none⟩ = some (.slice (some ⟨qb, 0, none⟩) 7 7)) (hq : Qw w g qb r) (ho : r.ok) :
    Calls Try.prog 35 #[.int .i64 j, .pointer (some ⟨q7, 0, none⟩), .pointer (some ⟨g0, 0, none⟩)] w fun e w' => e = .returned (.bool ((LW q r).all (·.2))) ∧ Below w.heap.size w w' := by
  subst ha
  have KY : Hid _ := yesW q r b (off + j * 17) g qb 7 w.drew (hc.below (below_drew _)) (hq.below (below_drew _)) ho
  generalize (LW q r).all (·.2) = A at *
  have ij : (j : Int) < (N : Int) := by omega
  have ij0 : (0 : Int) ≤ (j : Int) := by omega
  clear hc hq ho
  go_enter Try.func35, Try.ntmps35
  go_wp2
  refine wp_region_noPanic ?_
  refine wp_region_held_drew (S := fun w'' => w''.cell? ⟨g0, 0, none⟩ = some (.slice (some ⟨b, off, none⟩) N c) ∧ w''.cell? ⟨q7, 0, none⟩ = some (.slice (some ⟨qb, 0, none⟩) 7 7)) (by kernel_rfl) (by exact ⟨h0, h7⟩) (fun hHeld => ?_)
  refine wpAnyH_take (i := 0) (oi := { dst := some 5, op := Op.load 52 (.tmp 1), type := 52, pos := "first.go:126", after := #[], guard := none }) (v := (.slice (some ⟨qb, 0, none⟩) 7 7)) rfl (by kernel_rfl) (by kernel_rfl) (by kernel_rfl) (fun _ _ _ h => h) (Or.inl ⟨by rfl, ?_⟩) hHeld ?_
  · intro w9 hSw
    try dsimp only at hSw
    go_simp
  try simp only [Act.put, List.setIfInBounds_toArray, List.set_cons_zero, List.set_cons_succ]
  refine wpAnyH_take (i := 1) (oi := { dst := some 6, op := Op.load 37 (.tmp 2), type := 37, pos := "first.go:126", after := #[], guard := none }) (v := (.slice (some ⟨b, off, none⟩) N c)) rfl (by kernel_rfl) (by kernel_rfl) (by kernel_rfl) (fun _ _ _ h => h) (Or.inl ⟨by rfl, ?_⟩) hHeld ?_
  · intro w9 hSw
    try dsimp only at hSw
    go_simp
  try simp only [Act.put, List.setIfInBounds_toArray, List.set_cons_zero, List.set_cons_succ]
  refine wpAnyH_take (i := 2) (oi := { dst := some 7, op := Op.move (.tmp 0), type := 3, pos := "first.go:126", after := #[], guard := none }) (v := (.int .i64 j)) rfl (by kernel_rfl) (by kernel_rfl) (by kernel_rfl) (fun _ _ _ h => h) (Or.inl ⟨by rfl, ?_⟩) hHeld ?_
  · intro w9 hSw
    try dsimp only at hSw
    go_simp
  try simp only [Act.put, List.setIfInBounds_toArray, List.set_cons_zero, List.set_cons_succ]
  refine wpAnyH_take (i := 3) (oi := { dst := some 8, op := Op.indexAddr 37 (.tmp 6) (.tmp 7), type := 0, pos := "first.go:126", after := #[{ on := 1, ground := Ground.data }, { on := 2, ground := Ground.data }], guard := none }) (v := (.pointer (some ⟨b, off + j * 17, none⟩))) rfl (by kernel_rfl) (by kernel_rfl) (by kernel_rfl) (fun _ _ _ h => h) (Or.inl ⟨by rfl, ?_⟩) hHeld ?_
  · intro w9 hSw
    try dsimp only at hSw
    go_simp
  try simp only [Act.put, List.setIfInBounds_toArray, List.set_cons_zero, List.set_cons_succ]
  refine wpAnyH_ready (rs := [4]) (by kernel_rfl) (by simp) ?_
  refine AllReadyH.cons (o := { dst := some 9, op := Op.call { callee := Callee.value (.func 29), args := #[.tmp 5, .tmp 8], argTypes := #[52, 54] }, type := 4, pos := "first.go:126", after := #[{ on := 0, ground := Ground.data }, { on := 3, ground := Ground.data }], guard := none }) rfl (fun K hK => ?_) AllReadyH.nil
  go_simp
  refine Calls.mono KY.out ?_
  rintro e W3 ⟨rfl, bb⟩
  refine hK.out _ _ ?_ (fun hHeld => ?_)
  · exact ⟨kept bb h0, kept bb h7⟩
  clear hK K
  try simp only [Act.put, List.setIfInBounds_toArray, List.set_cons_zero, List.set_cons_succ]
  refine wpAnyH_take (i := 5) (oi := { dst := some 4, op := Op.assign (.tmp 9), type := 4, pos := "first.go:126", after := #[{ on := 4, ground := Ground.data }, { on := 4, ground := Ground.chain }, { on := 0, ground := Ground.phase }, { on := 1, ground := Ground.phase }, { on := 2, ground := Ground.phase }, { on := 3, ground := Ground.phase }, { on := 4, ground := Ground.phase }], guard := none }) (v := (.bool A)) rfl (by kernel_rfl) (by kernel_rfl) (by kernel_rfl) (fun _ _ _ h => h) (Or.inl ⟨by rfl, ?_⟩) hHeld ?_
  · intro w9 hSw
    try dsimp only at hSw
    go_simp
  try simp only [Act.put, List.setIfInBounds_toArray, List.set_cons_zero, List.set_cons_succ]
  refine wpAnyH_done (by kernel_rfl) ?_ _
  refine NoPanic.normal ?_
  go_wp2
  go_ret
  exact ⟨rfl, bel_tr (below_drew _) bb⟩
set_option maxRecDepth 100000 in
set_option maxHeartbeats 4000000 in
theorem indexI_any (fn : Nat) (ca : Array Value) (p : Int → Bool) (a : Option Addr) (c : Nat) (l : List Int) (w : World) (hr : RowI w a l)
    (hcf : ∀ args w, (callFunc fn args).run Try.prog w = .ok (.enter fn args) w)
    (HK : Hid (∀ W x, Below w.heap.size w W → x ∈ l → Calls Try.prog fn (#[.int .i64 x] ++ ca) W fun e w' => e = .returned (.bool (p x)) ∧ Below W.heap.size W w')) :
    Calls Try.prog 58 #[.slice a l.length c, .func (.func fn) #[] ca] w fun e w' => ∃ r : Int, e = .returned (.int .i64 r) ∧ (0 ≤ r ↔ l.any p = true) ∧ Below w.heap.size w w' := by
  have few := hr.small
  obtain ⟨N, hN⟩ : ∃ N, l.length = N := ⟨_, rfl⟩
  have HN : Hid (l.length = N) := hN
  have HR : Hid (RowI w a l) := hr
  rw [hN] at few ⊢
  clear hr hN
  go_enter Try.func58, Try.ntmps58
  go_wp2_with fail
  go_loopw [8] (fun i wr => ∃ (k : Nat), k ≤ N ∧ i = .int .i64 k ∧ Below w.heap.size w wr ∧ Hid (∀ j x, j < k → l[j]? = some x → p x = false)) (fun i _ => N - (intOf i).toNat)
  case atStart => exact ⟨0, Nat.zero_le _, rfl, Below.refl _ _, fun j p hj => by omega⟩
  case round =>
    obtain ⟨k, hk, rfl, qb, qe⟩ := hrel
    by_cases hlt : k < N
    · have ik : (k : Int) < (N : Int) := by omega
      obtain ⟨b, off, ha, hcs⟩ := (HR.out.below qb).cells (by rw [HN.out]; omega)
      have d0 := hcs k (by rw [HN.out]; omega)
      obtain ⟨x, hx⟩ : ∃ x, l[k]? = some x := ⟨_, List.getElem?_eq_getElem (by rw [HN.out]; exact hlt)⟩
      have e0 : l.getD k 0 = x := by simp [hx]
      rw [e0] at d0
      have hmem : x ∈ l := List.mem_of_getElem? hx
      have KK : Hid _ := HK.out wr x qb hmem
      have HX : Hid (l[k]? = some x ∧ x ∈ l) := ⟨hx, hmem⟩
      subst ha
      clear hcs hx hmem e0
      go_wp2_with fail
      refine Calls.mono KK.out ?_
      rintro e W2 ⟨rfl, bb⟩
      have b2 := bel_tr qb bb
      clear KK bb d0 qb
      cases hsb : p x with
      | true =>
        have hany : Hid (l.any p = true) := List.any_eq_true.2 ⟨x, HX.out.2, hsb⟩
        clear qe
        go_wp2
        go_ret
        exact ⟨k, rfl, ⟨fun _ => hany.out, fun _ => by omega⟩, b2⟩
      | false =>
        have HN' : Hid (∀ j q, j < k + 1 → l[j]? = some q → p q = false) := fun j q hj hq => by
          by_cases e : j = k
          · subst e
            rw [HX.out.1] at hq
            cases hq
            exact hsb
          · exact qe.out j q (by omega) hq
        clear qe
        go_wp2
        exact ⟨⟨k + 1, by omega, by go_num, b2, HN'⟩, by simp [intOf]; omega⟩
    · have ik : ¬ (k : Int) < (N : Int) := by omega
      have hall : l.any p = false := by
        rw [List.any_eq_false]
        intro x hx
        obtain ⟨j, hj⟩ := List.getElem?_of_mem hx
        have hjl : j < l.length := (List.getElem?_eq_some_iff.1 hj).1
        rw [qe.out j x (by have := HN.out; omega) hj]
        decide
      clear qe
      go_wp2
      go_ret
      exact ⟨-1, rfl, by first | decide | (rw [hall]; decide), qb⟩
set_option maxRecDepth 100000 in
set_option maxHeartbeats 4000000 in
theorem containsI_any (fn : Nat) (ca : Array Value) (p : Int → Bool) (a : Option Addr) (c : Nat) (l : List Int) (w : World) (hr : RowI w a l)
    (hcf : ∀ args w, (callFunc fn args).run Try.prog w = .ok (.enter fn args) w)
    (HK : Hid (∀ W x, Below w.heap.size w W → x ∈ l → Calls Try.prog fn (#[.int .i64 x] ++ ca) W fun e w' => e = .returned (.bool (p x)) ∧ Below W.heap.size W w')) :
    Calls Try.prog 34 #[.slice a l.length c, .func (.func fn) #[] ca] w fun e w' => e = .returned (.bool (l.any p)) ∧ Below w.heap.size w w' := by
  have K : Hid _ := indexI_any fn ca p a c l w hr hcf HK
  clear hr hcf HK
  obtain ⟨A, hA⟩ : ∃ A, l.any p = A := ⟨_, rfl⟩
  rw [hA] at K ⊢
  go_enter Try.func34, Try.ntmps34
  go_wp2_with fail
  refine Calls.mono K.out ?_
  rintro e W2 ⟨r, rfl, hr, bb⟩
  clear K
  go_wp2
  go_ret
  refine ⟨?_, bb⟩
  have e : decide (r ≥ 0) = A := by rw [Bool.eq_iff_iff, ← hr]; simp
  first | rw [e] | (rw [← e]; done) | simp [← e]
end Go.Proofs.Ytmlddgmkbbaccaa
