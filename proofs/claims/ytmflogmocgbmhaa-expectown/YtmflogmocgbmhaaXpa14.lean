/- Texts joined: XpE -/
import Derived.Test.YtmflogmocgbmhaaXpa12
import Derived.Test.YtmflogmocgbmhaaXpa13
namespace Go.Proofs.Ytmflogmocgbmhaa
open Go.RowKit
set_option linter.unusedVariables false
set_option linter.unusedSimpArgs false
set_option maxRecDepth 100000 in
set_option maxHeartbeats 4000000 in
theorem clos_way (q : Wt) (x : Wy) (g : Nat) (w : World) (G : Blk w g 26 x.v) :
    Calls Try.prog 55 #[.agg q.v, .pointer (some ⟨g, 0, none⟩)] w fun e w' => e = .returned (.bool (q.w.eqB x)) ∧ Below w.heap.size w w' := by
  obtain ⟨R, hR⟩ : ∃ R, q.w.eqB x = R := ⟨_, rfl⟩
  have HR : Hid (q.w.eqB x = R) := hR
  try rw [hR]
  clear hR
  have b := Below.refl w.heap.size w
  go_enter Try.func55, Try.ntmps55
  obtain ⟨Wm1, hWm1⟩ : ∃ W, w.alloc (.cells q.v 28) = W := ⟨_, rfl⟩
  have bm1 := bel_al b hWm1
  have Gm1 := G.al hWm1
  have Am1 := blk_nw hWm1
  have gA : w.heap.size ≤ w.heap.size := b.size
  have nGA : g ≠ w.heap.size := by have := G.lt; omega
  have nAG : w.heap.size ≠ g := fun e => nGA e.symm
  have hE2 := eql_way q.w x
  go_wp2_with (first | (refine wpList_load_sub_w (by rfl) _ _ rfl w.heap.size 0 _ (by rfl) _ q.w.v Am1 (by rfl) Try.underlying26 (by kernel_rfl) ?_) | (refine wpList_load_blk_w (by rfl) _ _ rfl g (by rfl) _ Gm1 Try.underlying26 (by kernel_rfl) ?_))
  go_ret
  exact ⟨retB_fw (by (try rw [← HR.out]) <;> first | rfl | (simp []; done) | (simp []; rfl)), bm1⟩
set_option maxRecDepth 100000 in
set_option maxHeartbeats 4000000 in
theorem clos_mas (q : Wt) (x : Wy) (g : Nat) (w : World) (G : Blk w g 26 x.v) :
    Calls Try.prog 57 #[.agg q.v, .pointer (some ⟨g, 0, none⟩)] w fun e w' => e = .returned (.bool (q.m.eqB x)) ∧ Below w.heap.size w w' := by
  obtain ⟨R, hR⟩ : ∃ R, q.m.eqB x = R := ⟨_, rfl⟩
  have HR : Hid (q.m.eqB x = R) := hR
  try rw [hR]
  clear hR
  have b := Below.refl w.heap.size w
  go_enter Try.func57, Try.ntmps57
  obtain ⟨Wm1, hWm1⟩ : ∃ W, w.alloc (.cells q.v 28) = W := ⟨_, rfl⟩
  have bm1 := bel_al b hWm1
  have Gm1 := G.al hWm1
  have Am1 := blk_nw hWm1
  have gA : w.heap.size ≤ w.heap.size := b.size
  have nGA : g ≠ w.heap.size := by have := G.lt; omega
  have nAG : w.heap.size ≠ g := fun e => nGA e.symm
  have hE2 := eql_way q.m x
  go_wp2_with (first | (refine wpList_load_sub_w (by rfl) _ _ rfl w.heap.size 10 _ (by rfl) _ q.m.v Am1 (by rfl) Try.underlying26 (by kernel_rfl) ?_) | (refine wpList_load_blk_w (by rfl) _ _ rfl g (by rfl) _ Gm1 Try.underlying26 (by kernel_rfl) ?_))
  go_ret
  exact ⟨retB_fw (by (try rw [← HR.out]) <;> first | rfl | (simp []; done) | (simp []; rfl)), bm1⟩
set_option maxRecDepth 100000 in
set_option maxHeartbeats 4000000 in
theorem clos_wts (q : Wt) (x : Wy) (g : Nat) (w : World) (G : Blk w g 26 x.v) :
    Calls Try.prog 42 #[.agg q.v, .pointer (some ⟨g, 0, none⟩)] w fun e w' => e = .returned (.bool (q.waits x)) ∧ Below w.heap.size w w' := by
  obtain ⟨R, hR⟩ : ∃ R, q.waits x = R := ⟨_, rfl⟩
  have HR : Hid (q.waits x = R) := hR
  try rw [hR]
  clear hR
  have b := Below.refl w.heap.size w
  go_enter Try.func42, Try.ntmps42
  obtain ⟨Wm1, hWm1⟩ : ∃ W, w.alloc (.cells q.v 28) = W := ⟨_, rfl⟩
  have bm1 := bel_al b hWm1
  have Gm1 := G.al hWm1
  have Am1 := blk_nw hWm1
  have gA : w.heap.size ≤ w.heap.size := b.size
  have nGA : g ≠ w.heap.size := by have := G.lt; omega
  have nAG : w.heap.size ≠ g := fun e => nGA e.symm
  go_wp2_with (first | (refine wpList_load_blk_w (by rfl) _ _ rfl w.heap.size (by rfl) _ Am1 Try.underlying28 (by kernel_rfl) ?_) | (refine wpList_load_blk_w (by rfl) _ _ rfl g (by rfl) _ Gm1 Try.underlying26 (by kernel_rfl) ?_))
  refine Calls.mono (waits_xp q x _) ?_
  rintro e Wm2 ⟨rfl, bb⟩
  have Gm2 := Gm1.kept bb
  have Am2 := Am1.kept bb
  have bm2 := bel_tr bm1 bb
  clear bb
  clear Gm1 Am1 bm1
  go_wp2_with fail
  go_ret
  exact ⟨retB_fw (by (try rw [← HR.out]) <;> first | rfl | (simp []; done) | (simp []; rfl)), bm2⟩
set_option maxRecDepth 100000 in
set_option maxHeartbeats 4000000 in
theorem clos_end (q : Wt) (x : Int) (g : Nat) (w : World) (G : Blk w g 3 #[.int .i64 x]) :
    Calls Try.prog 45 #[.agg q.v, .pointer (some ⟨g, 0, none⟩)] w fun e w' => e = .returned (.bool (decide (q.ends ≤ x))) ∧ Below w.heap.size w w' := by
  obtain ⟨R, hR⟩ : ∃ R, decide (q.ends ≤ x) = R := ⟨_, rfl⟩
  have HR : Hid (decide (q.ends ≤ x) = R) := hR
  try rw [hR]
  clear hR
  have b := Below.refl w.heap.size w
  go_enter Try.func45, Try.ntmps45
  obtain ⟨Wm1, hWm1⟩ : ∃ W, w.alloc (.cells q.v 28) = W := ⟨_, rfl⟩
  have bm1 := bel_al b hWm1
  have Gm1 := G.al hWm1
  have Am1 := blk_nw hWm1
  have gA : w.heap.size ≤ w.heap.size := b.size
  have nGA : g ≠ w.heap.size := by have := G.lt; omega
  have nAG : w.heap.size ≠ g := fun e => nGA e.symm
  have c2 := Am1.cell 20 (.int .i64 q.ends) rfl
  have c3 := Gm1.cell 0 (.int .i64 x) rfl
  go_wp2_with fail
  go_ret
  exact ⟨retB_fw (by (try rw [← HR.out]) <;> first | rfl | (simp []; done) | (simp []; rfl)), bm1⟩
set_option maxRecDepth 100000 in
set_option maxHeartbeats 2000000 in
theorem index0_way (a : Option Addr) (c : Nat) (l : List Wt) (cap : Value) (p : Wt → Bool) (w : World) (hrow : RowW w a l) (hl : l.length ≤ 1000000)
    (hk : ∀ W (q : Wt), Below w.heap.size w W → Calls Try.prog 55 #[.agg q.v, cap] W fun e w' => e = .returned (.bool (p q)) ∧ Below W.heap.size W w') :
    Calls Try.prog 41 #[.slice a l.length c, .func (.func 55) #[] #[cap]] w fun e w' => e = .returned (.int .i64 (ixOf (l.findIdx? p))) ∧ Below w.heap.size w w' := by
  obtain ⟨R, hR⟩ : ∃ R, ixOf (l.findIdx? p) = R := ⟨_, rfl⟩
  have HR : Hid (ixOf (l.findIdx? p) = R) := hR
  rw [hR]
  clear hR
  have KS : Hid (∀ W (q : Wt), Below w.heap.size w W → Calls Try.prog 55 #[.agg q.v, cap] W fun e w' => e = .returned (.bool (p q)) ∧ Below W.heap.size W w') := hk
  have HRow : Hid (RowW w a l) := hrow
  obtain ⟨N, hN⟩ : ∃ N, l.length = N := ⟨_, rfl⟩
  have HN : Hid (l.length = N) := hN
  rw [hN] at hl ⊢
  clear hN hrow hk
  go_enter Try.func41, Try.ntmps41
  go_wp2_with fail
  go_loopw [8] (fun i wr => ∃ (k : Nat), k ≤ N ∧ i = .int .i64 k ∧ Below w.heap.size w wr ∧ Hid (∀ j x, j < k → l[j]? = some x → p x = false)) (fun i _ => N - (intOf i).toNat)
  case atStart => exact ⟨0, Nat.zero_le _, rfl, Below.refl _ _, fun j x hj => by omega⟩
  case round =>
    obtain ⟨k, hk, rfl, qb, qe⟩ := hrel
    by_cases hlt : k < N
    · have ik : (k : Int) < (N : Int) := by omega
      have in0 : (0 : Int) ≤ (k : Int) := by omega
      obtain ⟨q, hq⟩ : ∃ q, l[k]? = some q := ⟨_, List.getElem?_eq_getElem (by rw [HN.out]; exact hlt)⟩
      obtain ⟨b, off, ha, hc⟩ := (HRow.out.low qb).cells k q hq
      have HQ : Hid (l[k]? = some q) := hq
      have KK : Hid (Calls Try.prog 55 #[.agg q.v, cap] wr fun e w' => e = .returned (.bool (p q)) ∧ Below wr.heap.size wr w') := KS.out wr q qb
      subst ha
      clear hq
      go_wp2_with (refine wpList_load_at_w rfl _ _ rfl b (off + k * 22) (by rfl) _ hc Try.underlying28 (wt_info q) ?_)
      refine Calls.mono KK.out ?_
      rintro e W2 ⟨rfl, bb⟩
      have b2 := bel_tr qb bb
      clear KK bb hc qb
      cases hp : p q with
      | true =>
        have e : R = (k : Int) := by rw [← HR.out, findIdx_at qe.out HQ.out hp]; rfl
        subst e
        clear qe
        go_wp2_with fail
        go_ret
        exact ⟨rfl, b2⟩
      | false =>
        have HG : Hid (∀ j x, j < k + 1 → l[j]? = some x → p x = false) := fun j x hj hx => by
          by_cases e : j = k
          · subst e
            rw [HQ.out] at hx
            cases hx
            exact hp
          · exact qe.out j x (by omega) hx
        clear qe hp
        go_wp2_with fail
        exact ⟨⟨k + 1, by omega, by go_num, b2, HG⟩, by simp [intOf]; omega⟩
    · have ik : ¬ (k : Int) < (N : Int) := by omega
      have e : R = -1 := by
        rw [← HR.out, findIdx_no fun j x hj hx => qe.out j x (by have := HN.out; omega) hx]; rfl
      subst e
      clear qe
      go_wp2_with fail
      go_ret
      exact ⟨rfl, qb⟩
theorem index_way (a : Option Addr) (c : Nat) (l : List Wt) (x : Wy) (g : Nat) (w : World) (hrow : RowW w a l) (hl : l.length ≤ 1000000) (hg : Blk w g 26 x.v) :
    Calls Try.prog 41 #[.slice a l.length c, .func (.func 55) #[] #[.pointer (some ⟨g, 0, none⟩)]] w fun e w' => e = .returned (.int .i64 (ixOf (l.findIdx? fun q => q.w.eqB x))) ∧ Below w.heap.size w w' :=
  index0_way a c l _ (fun q => q.w.eqB x) w hrow hl (fun W q hb => clos_way q x g W (hg.kept hb))
set_option maxRecDepth 100000 in
set_option maxHeartbeats 2000000 in
theorem index0_mas (a : Option Addr) (c : Nat) (l : List Wt) (cap : Value) (p : Wt → Bool) (w : World) (hrow : RowW w a l) (hl : l.length ≤ 1000000)
    (hk : ∀ W (q : Wt), Below w.heap.size w W → Calls Try.prog 57 #[.agg q.v, cap] W fun e w' => e = .returned (.bool (p q)) ∧ Below W.heap.size W w') :
    Calls Try.prog 41 #[.slice a l.length c, .func (.func 57) #[] #[cap]] w fun e w' => e = .returned (.int .i64 (ixOf (l.findIdx? p))) ∧ Below w.heap.size w w' := by
  obtain ⟨R, hR⟩ : ∃ R, ixOf (l.findIdx? p) = R := ⟨_, rfl⟩
  have HR : Hid (ixOf (l.findIdx? p) = R) := hR
  rw [hR]
  clear hR
  have KS : Hid (∀ W (q : Wt), Below w.heap.size w W → Calls Try.prog 57 #[.agg q.v, cap] W fun e w' => e = .returned (.bool (p q)) ∧ Below W.heap.size W w') := hk
  have HRow : Hid (RowW w a l) := hrow
  obtain ⟨N, hN⟩ : ∃ N, l.length = N := ⟨_, rfl⟩
  have HN : Hid (l.length = N) := hN
  rw [hN] at hl ⊢
  clear hN hrow hk
  go_enter Try.func41, Try.ntmps41
  go_wp2_with fail
  go_loopw [8] (fun i wr => ∃ (k : Nat), k ≤ N ∧ i = .int .i64 k ∧ Below w.heap.size w wr ∧ Hid (∀ j x, j < k → l[j]? = some x → p x = false)) (fun i _ => N - (intOf i).toNat)
  case atStart => exact ⟨0, Nat.zero_le _, rfl, Below.refl _ _, fun j x hj => by omega⟩
  case round =>
    obtain ⟨k, hk, rfl, qb, qe⟩ := hrel
    by_cases hlt : k < N
    · have ik : (k : Int) < (N : Int) := by omega
      have in0 : (0 : Int) ≤ (k : Int) := by omega
      obtain ⟨q, hq⟩ : ∃ q, l[k]? = some q := ⟨_, List.getElem?_eq_getElem (by rw [HN.out]; exact hlt)⟩
      obtain ⟨b, off, ha, hc⟩ := (HRow.out.low qb).cells k q hq
      have HQ : Hid (l[k]? = some q) := hq
      have KK : Hid (Calls Try.prog 57 #[.agg q.v, cap] wr fun e w' => e = .returned (.bool (p q)) ∧ Below wr.heap.size wr w') := KS.out wr q qb
      subst ha
      clear hq
      go_wp2_with (refine wpList_load_at_w rfl _ _ rfl b (off + k * 22) (by rfl) _ hc Try.underlying28 (wt_info q) ?_)
      refine Calls.mono KK.out ?_
      rintro e W2 ⟨rfl, bb⟩
      have b2 := bel_tr qb bb
      clear KK bb hc qb
      cases hp : p q with
      | true =>
        have e : R = (k : Int) := by rw [← HR.out, findIdx_at qe.out HQ.out hp]; rfl
        subst e
        clear qe
        go_wp2_with fail
        go_ret
        exact ⟨rfl, b2⟩
      | false =>
        have HG : Hid (∀ j x, j < k + 1 → l[j]? = some x → p x = false) := fun j x hj hx => by
          by_cases e : j = k
          · subst e
            rw [HQ.out] at hx
            cases hx
            exact hp
          · exact qe.out j x (by omega) hx
        clear qe hp
        go_wp2_with fail
        exact ⟨⟨k + 1, by omega, by go_num, b2, HG⟩, by simp [intOf]; omega⟩
    · have ik : ¬ (k : Int) < (N : Int) := by omega
      have e : R = -1 := by
        rw [← HR.out, findIdx_no fun j x hj hx => qe.out j x (by have := HN.out; omega) hx]; rfl
      subst e
      clear qe
      go_wp2_with fail
      go_ret
      exact ⟨rfl, qb⟩
set_option maxRecDepth 100000 in
set_option maxHeartbeats 2000000 in
theorem index0_wts (a : Option Addr) (c : Nat) (l : List Wt) (cap : Value) (p : Wt → Bool) (w : World) (hrow : RowW w a l) (hl : l.length ≤ 1000000)
    (hk : ∀ W (q : Wt), Below w.heap.size w W → Calls Try.prog 42 #[.agg q.v, cap] W fun e w' => e = .returned (.bool (p q)) ∧ Below W.heap.size W w') :
    Calls Try.prog 41 #[.slice a l.length c, .func (.func 42) #[] #[cap]] w fun e w' => e = .returned (.int .i64 (ixOf (l.findIdx? p))) ∧ Below w.heap.size w w' := by
  obtain ⟨R, hR⟩ : ∃ R, ixOf (l.findIdx? p) = R := ⟨_, rfl⟩
  have HR : Hid (ixOf (l.findIdx? p) = R) := hR
  rw [hR]
  clear hR
  have KS : Hid (∀ W (q : Wt), Below w.heap.size w W → Calls Try.prog 42 #[.agg q.v, cap] W fun e w' => e = .returned (.bool (p q)) ∧ Below W.heap.size W w') := hk
  have HRow : Hid (RowW w a l) := hrow
  obtain ⟨N, hN⟩ : ∃ N, l.length = N := ⟨_, rfl⟩
  have HN : Hid (l.length = N) := hN
  rw [hN] at hl ⊢
  clear hN hrow hk
  go_enter Try.func41, Try.ntmps41
  go_wp2_with fail
  go_loopw [8] (fun i wr => ∃ (k : Nat), k ≤ N ∧ i = .int .i64 k ∧ Below w.heap.size w wr ∧ Hid (∀ j x, j < k → l[j]? = some x → p x = false)) (fun i _ => N - (intOf i).toNat)
  case atStart => exact ⟨0, Nat.zero_le _, rfl, Below.refl _ _, fun j x hj => by omega⟩
  case round =>
    obtain ⟨k, hk, rfl, qb, qe⟩ := hrel
    by_cases hlt : k < N
    · have ik : (k : Int) < (N : Int) := by omega
      have in0 : (0 : Int) ≤ (k : Int) := by omega
      obtain ⟨q, hq⟩ : ∃ q, l[k]? = some q := ⟨_, List.getElem?_eq_getElem (by rw [HN.out]; exact hlt)⟩
      obtain ⟨b, off, ha, hc⟩ := (HRow.out.low qb).cells k q hq
      have HQ : Hid (l[k]? = some q) := hq
      have KK : Hid (Calls Try.prog 42 #[.agg q.v, cap] wr fun e w' => e = .returned (.bool (p q)) ∧ Below wr.heap.size wr w') := KS.out wr q qb
      subst ha
      clear hq
      go_wp2_with (refine wpList_load_at_w rfl _ _ rfl b (off + k * 22) (by rfl) _ hc Try.underlying28 (wt_info q) ?_)
      refine Calls.mono KK.out ?_
      rintro e W2 ⟨rfl, bb⟩
      have b2 := bel_tr qb bb
      clear KK bb hc qb
      cases hp : p q with
      | true =>
        have e : R = (k : Int) := by rw [← HR.out, findIdx_at qe.out HQ.out hp]; rfl
        subst e
        clear qe
        go_wp2_with fail
        go_ret
        exact ⟨rfl, b2⟩
      | false =>
        have HG : Hid (∀ j x, j < k + 1 → l[j]? = some x → p x = false) := fun j x hj hx => by
          by_cases e : j = k
          · subst e
            rw [HQ.out] at hx
            cases hx
            exact hp
          · exact qe.out j x (by omega) hx
        clear qe hp
        go_wp2_with fail
        exact ⟨⟨k + 1, by omega, by go_num, b2, HG⟩, by simp [intOf]; omega⟩
    · have ik : ¬ (k : Int) < (N : Int) := by omega
      have e : R = -1 := by
        rw [← HR.out, findIdx_no fun j x hj hx => qe.out j x (by have := HN.out; omega) hx]; rfl
      subst e
      clear qe
      go_wp2_with fail
      go_ret
      exact ⟨rfl, qb⟩
theorem index_wts (a : Option Addr) (c : Nat) (l : List Wt) (x : Wy) (g : Nat) (w : World) (hrow : RowW w a l) (hl : l.length ≤ 1000000) (hg : Blk w g 26 x.v) :
    Calls Try.prog 41 #[.slice a l.length c, .func (.func 42) #[] #[.pointer (some ⟨g, 0, none⟩)]] w fun e w' => e = .returned (.int .i64 (ixOf (l.findIdx? fun q => q.waits x))) ∧ Below w.heap.size w w' :=
  index0_wts a c l _ (fun q => q.waits x) w hrow hl (fun W q hb => clos_wts q x g W (hg.kept hb))
set_option maxRecDepth 100000 in
set_option maxHeartbeats 2000000 in
theorem index0_end (a : Option Addr) (c : Nat) (l : List Wt) (cap : Value) (p : Wt → Bool) (w : World) (hrow : RowW w a l) (hl : l.length ≤ 1000000)
    (hk : ∀ W (q : Wt), Below w.heap.size w W → Calls Try.prog 45 #[.agg q.v, cap] W fun e w' => e = .returned (.bool (p q)) ∧ Below W.heap.size W w') :
    Calls Try.prog 41 #[.slice a l.length c, .func (.func 45) #[] #[cap]] w fun e w' => e = .returned (.int .i64 (ixOf (l.findIdx? p))) ∧ Below w.heap.size w w' := by
  obtain ⟨R, hR⟩ : ∃ R, ixOf (l.findIdx? p) = R := ⟨_, rfl⟩
  have HR : Hid (ixOf (l.findIdx? p) = R) := hR
  rw [hR]
  clear hR
  have KS : Hid (∀ W (q : Wt), Below w.heap.size w W → Calls Try.prog 45 #[.agg q.v, cap] W fun e w' => e = .returned (.bool (p q)) ∧ Below W.heap.size W w') := hk
  have HRow : Hid (RowW w a l) := hrow
  obtain ⟨N, hN⟩ : ∃ N, l.length = N := ⟨_, rfl⟩
  have HN : Hid (l.length = N) := hN
  rw [hN] at hl ⊢
  clear hN hrow hk
  go_enter Try.func41, Try.ntmps41
  go_wp2_with fail
  go_loopw [8] (fun i wr => ∃ (k : Nat), k ≤ N ∧ i = .int .i64 k ∧ Below w.heap.size w wr ∧ Hid (∀ j x, j < k → l[j]? = some x → p x = false)) (fun i _ => N - (intOf i).toNat)
  case atStart => exact ⟨0, Nat.zero_le _, rfl, Below.refl _ _, fun j x hj => by omega⟩
  case round =>
    obtain ⟨k, hk, rfl, qb, qe⟩ := hrel
    by_cases hlt : k < N
    · have ik : (k : Int) < (N : Int) := by omega
      have in0 : (0 : Int) ≤ (k : Int) := by omega
      obtain ⟨q, hq⟩ : ∃ q, l[k]? = some q := ⟨_, List.getElem?_eq_getElem (by rw [HN.out]; exact hlt)⟩
      obtain ⟨b, off, ha, hc⟩ := (HRow.out.low qb).cells k q hq
      have HQ : Hid (l[k]? = some q) := hq
      have KK : Hid (Calls Try.prog 45 #[.agg q.v, cap] wr fun e w' => e = .returned (.bool (p q)) ∧ Below wr.heap.size wr w') := KS.out wr q qb
      subst ha
      clear hq
      go_wp2_with (refine wpList_load_at_w rfl _ _ rfl b (off + k * 22) (by rfl) _ hc Try.underlying28 (wt_info q) ?_)
      refine Calls.mono KK.out ?_
      rintro e W2 ⟨rfl, bb⟩
      have b2 := bel_tr qb bb
      clear KK bb hc qb
      cases hp : p q with
      | true =>
        have e : R = (k : Int) := by rw [← HR.out, findIdx_at qe.out HQ.out hp]; rfl
        subst e
        clear qe
        go_wp2_with fail
        go_ret
        exact ⟨rfl, b2⟩
      | false =>
        have HG : Hid (∀ j x, j < k + 1 → l[j]? = some x → p x = false) := fun j x hj hx => by
          by_cases e : j = k
          · subst e
            rw [HQ.out] at hx
            cases hx
            exact hp
          · exact qe.out j x (by omega) hx
        clear qe hp
        go_wp2_with fail
        exact ⟨⟨k + 1, by omega, by go_num, b2, HG⟩, by simp [intOf]; omega⟩
    · have ik : ¬ (k : Int) < (N : Int) := by omega
      have e : R = -1 := by
        rw [← HR.out, findIdx_no fun j x hj hx => qe.out j x (by have := HN.out; omega) hx]; rfl
      subst e
      clear qe
      go_wp2_with fail
      go_ret
      exact ⟨rfl, qb⟩
end Go.Proofs.Ytmflogmocgbmhaa
