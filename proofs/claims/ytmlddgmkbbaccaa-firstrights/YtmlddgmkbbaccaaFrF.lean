/- The questions asked one behind the other; the program: which rule takes a key. -/
import Derived.Test.YtmlddgmkbbaccaaFrH
namespace Go.Proofs.Ytmlddgmkbbaccaa
open Go.RowKit
set_option linter.unusedVariables false
set_option linter.unusedSimpArgs false

set_option maxRecDepth 100000 in
set_option maxHeartbeats 2000000 in
theorem yes_any (qb : Nat) (fv rp : Value) (L : List (Nat × Bool)) (c : Nat) (w : World) (hl : L.length ≤ 1000)
    (hc : Hid (∀ i p, L[i]? = some p → w.cell? ⟨qb, i, none⟩ = some (.func (.func p.1) #[] #[fv])))
    (hf : Hid (∀ p ∈ L, ∀ args w, (callFunc p.1 args).run Try.prog w = .ok (.enter p.1 args) w))
    (hK : Hid (∀ p ∈ L, ∀ W, Below w.heap.size w W → Calls Try.prog p.1 #[rp, fv] W fun e w' => e = .returned (.bool p.2) ∧ Below W.heap.size W w')) :
    Calls Try.prog 29 #[.slice (some ⟨qb, 0, none⟩) L.length c, rp] w fun e w' => e = .returned (.bool (L.all (·.2))) ∧ Below w.heap.size w w' := by
  obtain ⟨N, hN⟩ : ∃ N, L.length = N := ⟨_, rfl⟩
  have HN : Hid (L.length = N) := hN
  obtain ⟨R, hR⟩ : ∃ R, L.all (·.2) = R := ⟨_, rfl⟩
  have HR : Hid (L.all (·.2) = R) := hR
  rw [hN] at hl ⊢
  rw [hR]
  clear hN hR
  go_enter Try.func29, Try.ntmps29
  go_wp2_with fail
  go_loopw [9] (fun i wr => ∃ (k : Nat), k ≤ N ∧ i = .int .i64 k ∧ Below w.heap.size w wr ∧ Hid (∀ j p, j < k → L[j]? = some p → p.2 = true)) (fun i _ => N - (intOf i).toNat)
  case atStart => exact ⟨0, Nat.zero_le _, rfl, Below.refl _ _, fun j p hj => by omega⟩
  case round =>
    obtain ⟨k, hk, rfl, qb', qe⟩ := hrel
    by_cases hlt : k < N
    · have ik : (k : Int) < (N : Int) := by omega
      obtain ⟨p, hp⟩ : ∃ p, L[k]? = some p := ⟨_, List.getElem?_eq_getElem (by rw [HN.out]; exact hlt)⟩
      have HP : Hid (L[k]? = some p) := hp
      have hmem := List.mem_of_getElem? hp
      have d0 := kept qb' (hc.out k p hp)
      have KK : Hid _ := hK.out p hmem wr qb'
      have hcf := hf.out p hmem
      have HM : Hid (p ∈ L) := hmem
      clear hp hmem
      obtain ⟨fn, q⟩ := p
      simp only at d0 hcf KK
      go_wp2_with fail
      refine Calls.mono KK.out ?_
      rintro e W2 ⟨rfl, bb⟩
      have b2 := bel_tr qb' bb
      clear KK bb d0 hcf qb'
      cases q with
      | false =>
        have e : R = false := by
          rw [← HR.out]
          exact List.all_eq_false.2 ⟨_, HM.out, by simp⟩
        subst e
        clear qe
        go_wp2
        go_ret
        exact ⟨rfl, b2⟩
      | true =>
        have HN' : Hid (∀ j p, j < k + 1 → L[j]? = some p → p.2 = true) := fun j p hj hp => by
          by_cases e : j = k
          · subst e
            rw [HP.out] at hp
            cases hp
            rfl
          · exact qe.out j p (by omega) hp
        clear qe
        go_wp2
        exact ⟨⟨k + 1, by omega, by go_num, b2, HN'⟩, by simp [intOf]; omega⟩
    · have ik : ¬ (k : Int) < (N : Int) := by omega
      have e : R = true := by
        rw [← HR.out]
        refine List.all_eq_true.2 fun p hp => ?_
        obtain ⟨j, hj⟩ := List.getElem?_of_mem hp
        have hjl : j < L.length := (List.getElem?_eq_some_iff.1 hj).1
        exact qe.out j p (by have := HN.out; omega) hj
      subst e
      clear qe
      go_wp2
      go_ret
      exact ⟨rfl, qb'⟩
abbrev LA (r : Rl) (k : Ky) : List (Nat × Bool) := [(40, r.fr == (-1) || r.fr == k.fr), (41, r.tz == (-1) || r.tz == k.tz), (42, hasB r.s r.sn k.s), (44, hasB r.d r.dn k.d), (45, r.pr == 0 || r.pr == k.pr), (46, inB k.sp r.sl r.sh), (47, inB k.dp r.dl r.dh)]
abbrev LW (r k : Rl) : List (Nat × Bool) := [(49, r.fr == (-1) || r.fr == k.fr), (50, r.tz == (-1) || r.tz == k.tz), (51, r.pr == 0 || r.pr == k.pr), (52, decide (r.sl ≤ k.sl) && decide (k.sh ≤ r.sh)), (54, decide (r.dl ≤ k.dl) && decide (k.dh ≤ r.dh)), (55, reachB r.s r.sn k.s k.sn), (57, reachB r.d r.dn k.d k.dn)]
theorem la_asks (r : Rl) (k : Ky) (h : r.right = true) : (LA r k).all (·.2) = r.asks k := by
  have h1 : -1 ≤ r.fr ∧ -1 ≤ r.tz := by
    simp only [Rl.right, inB, Bool.and_eq_true, decide_eq_true_eq] at h
    exact ⟨h.1.1, h.2.1.1⟩
  have e1 : (r.fr == (-1)) = decide (r.fr < 0) := by rw [Bool.eq_iff_iff]; simp; omega
  have e2 : (r.tz == (-1)) = decide (r.tz < 0) := by rw [Bool.eq_iff_iff]; simp; omega
  simp only [LA, List.all_cons, List.all_nil, Bool.and_true, Rl.asks, e1, e2]
theorem lw_wider (r k : Rl) (h : r.right = true) : (LW r k).all (·.2) = r.wider k := by
  have h1 : -1 ≤ r.fr ∧ -1 ≤ r.tz := by
    simp only [Rl.right, inB, Bool.and_eq_true, decide_eq_true_eq] at h
    exact ⟨h.1.1, h.2.1.1⟩
  have e1 : (r.fr == (-1)) = decide (r.fr < 0) := by rw [Bool.eq_iff_iff]; simp; omega
  have e2 : (r.tz == (-1)) = decide (r.tz < 0) := by rw [Bool.eq_iff_iff]; simp; omega
  simp only [LW, List.all_cons, List.all_nil, Bool.and_true, Rl.wider, e1, e2]
  generalize (decide (r.fr < 0) || r.fr == k.fr) = x1
  generalize (decide (r.tz < 0) || r.tz == k.tz) = x2
  generalize (reachB r.s r.sn k.s k.sn) = x3
  generalize (reachB r.d r.dn k.d k.dn) = x4
  generalize (r.pr == 0 || r.pr == k.pr) = x5
  generalize (decide (r.sl ≤ k.sl)) = x6
  generalize (decide (k.sh ≤ r.sh)) = x7
  generalize (decide (r.dl ≤ k.dl)) = x8
  generalize (decide (k.dh ≤ r.dh)) = x9
  revert x1 x2 x3 x4 x5 x6 x7 x8 x9
  decide
/-- Where the questions of a key lie. -/
structure Qk (w : World) (g qb : Nat) (k : Ky) : Prop where
  key : CellsAt w g 0 k.v
  fun_ : ∀ i x, ([40, 41, 42, 44, 45, 46, 47] : List Nat)[i]? = some x → w.cell? ⟨qb, i, none⟩ = some (.func (.func x) #[] #[.pointer (some ⟨g, 0, none⟩)])
theorem Qk.below {w w' : World} {g qb : Nat} {k : Ky} (h : Qk w g qb k) (hb : Below w.heap.size w w') : Qk w' g qb k := ⟨h.key.below hb, fun i x hx => kept hb (h.fun_ i x hx)⟩
structure Qw (w : World) (g qb : Nat) (k : Rl) : Prop where
  rule : CellsAt w g 0 k.v
  fun_ : ∀ i x, ([49, 50, 51, 52, 54, 55, 57] : List Nat)[i]? = some x → w.cell? ⟨qb, i, none⟩ = some (.func (.func x) #[] #[.pointer (some ⟨g, 0, none⟩)])
theorem Qw.below {w w' : World} {g qb : Nat} {k : Rl} (h : Qw w g qb k) (hb : Below w.heap.size w w') : Qw w' g qb k := ⟨h.rule.below hb, fun i x hx => kept hb (h.fun_ i x hx)⟩
set_option maxRecDepth 100000 in
theorem yesA (r : Rl) (k : Ky) (b off g qb c : Nat) (w : World) (hr : CellsAt w b off r.v) (hq : Qk w g qb k) (ko : k.ok) :
    Calls Try.prog 29 #[.slice (some ⟨qb, 0, none⟩) 7 c, .pointer (some ⟨b, off, none⟩)] w fun e w' => e = .returned (.bool ((LA r k).all (·.2))) ∧ Below w.heap.size w w' := by
  refine yes_any qb (.pointer (some ⟨g, 0, none⟩)) (.pointer (some ⟨b, off, none⟩)) (LA r k) c w (by simp) (fun i p hp => ?_) (fun p hp => ?_) (fun p hp W hW => ?_)
  · refine hq.fun_ i p.1 ?_
    have : ((LA r k).map (·.1))[i]? = some p.1 := by rw [List.getElem?_map, hp]; rfl
    exact this
  · simp only [LA, List.mem_cons, List.not_mem_nil, or_false] at hp
    rcases hp with rfl | rfl | rfl | rfl | rfl | rfl | rfl
    · exact Try.call40
    · exact Try.call41
    · exact Try.call42
    · exact Try.call44
    · exact Try.call45
    · exact Try.call46
    · exact Try.call47
  · have h1 := hr.below hW
    have h2 := hq.key.below hW
    simp only [LA, List.mem_cons, List.not_mem_nil, or_false] at hp
    rcases hp with rfl | rfl | rfl | rfl | rfl | rfl | rfl
    · exact asks1_any r k b off g W h1 h2
    · exact asks2_any r k b off g W h1 h2
    · exact asks3_any r k b off g W h1 h2 ko.s
    · exact asks4_any r k b off g W h1 h2 ko.d
    · exact asks5_any r k b off g W h1 h2
    · exact asks6_any r k b off g W h1 h2
    · exact asks7_any r k b off g W h1 h2
set_option maxRecDepth 100000 in
theorem yesW (r : Rl) (k : Rl) (b off g qb c : Nat) (w : World) (hr : CellsAt w b off r.v) (hq : Qw w g qb k) (ko : k.ok) :
    Calls Try.prog 29 #[.slice (some ⟨qb, 0, none⟩) 7 c, .pointer (some ⟨b, off, none⟩)] w fun e w' => e = .returned (.bool ((LW r k).all (·.2))) ∧ Below w.heap.size w w' := by
  refine yes_any qb (.pointer (some ⟨g, 0, none⟩)) (.pointer (some ⟨b, off, none⟩)) (LW r k) c w (by simp) (fun i p hp => ?_) (fun p hp => ?_) (fun p hp W hW => ?_)
  · refine hq.fun_ i p.1 ?_
    have : ((LW r k).map (·.1))[i]? = some p.1 := by rw [List.getElem?_map, hp]; rfl
    exact this
  · simp only [LW, List.mem_cons, List.not_mem_nil, or_false] at hp
    rcases hp with rfl | rfl | rfl | rfl | rfl | rfl | rfl
    · exact Try.call49
    · exact Try.call50
    · exact Try.call51
    · exact Try.call52
    · exact Try.call54
    · exact Try.call55
    · exact Try.call57
  · have h1 := hr.below hW
    have h2 := hq.rule.below hW
    simp only [LW, List.mem_cons, List.not_mem_nil, or_false] at hp
    rcases hp with rfl | rfl | rfl | rfl | rfl | rfl | rfl
    · exact wider1_any r k b off g W h1 h2
    · exact wider2_any r k b off g W h1 h2
    · exact wider3_any r k b off g W h1 h2
    · exact wider4_any r k b off g W h1 h2
    · exact wider5_any r k b off g W h1 h2
    · exact wider6_any r k b off g W h1 h2 ko.s
    · exact wider7_any r k b off g W h1 h2 ko.d
set_option maxRecDepth 100000 in
theorem asks_any (k : Ky) (w : World) :
    Calls Try.prog 30 #[.agg k.v] w fun e w' => ∃ qb, e = .returned (.slice (some ⟨qb, 0, none⟩) 7 7) ∧ Qk w' w.heap.size qb k ∧ w.heap.size < qb ∧ Below w.heap.size w w' := by
  have hs : (Try.prog.info? 32).map (·.size) = some k.v.size := by kernel_rfl
  suffices H : ∀ KA : Array Value, (Try.prog.info? 32).map (·.size) = some KA.size → Calls Try.prog 30 #[.agg KA] w fun e w' => e = .returned (.slice (some ⟨w.heap.size + 1, 0, none⟩) 7 7) ∧ ∃ t, w' = (w.alloc (.cells KA 32)).alloc (.cells #[.func (.func 40) #[] #[.pointer (some ⟨w.heap.size, 0, none⟩)], .func (.func 41) #[] #[.pointer (some ⟨w.heap.size, 0, none⟩)], .func (.func 42) #[] #[.pointer (some ⟨w.heap.size, 0, none⟩)], .func (.func 44) #[] #[.pointer (some ⟨w.heap.size, 0, none⟩)], .func (.func 45) #[] #[.pointer (some ⟨w.heap.size, 0, none⟩)], .func (.func 46) #[] #[.pointer (some ⟨w.heap.size, 0, none⟩)], .func (.func 47) #[] #[.pointer (some ⟨w.heap.size, 0, none⟩)]] t) by
    refine (H k.v hs).mono ?_
    rintro e w' ⟨rfl, t, rfl⟩
    refine ⟨_, rfl, ⟨((blk_new w k.v 32).alloc _).at_, fun i x hx => ?_⟩, by omega, bel_al (bel_nw rfl) rfl⟩
    have B := blk_new (w.alloc (.cells k.v 32)) #[.func (.func 40) #[] #[.pointer (some ⟨w.heap.size, 0, none⟩)], .func (.func 41) #[] #[.pointer (some ⟨w.heap.size, 0, none⟩)], .func (.func 42) #[] #[.pointer (some ⟨w.heap.size, 0, none⟩)], .func (.func 44) #[] #[.pointer (some ⟨w.heap.size, 0, none⟩)], .func (.func 45) #[] #[.pointer (some ⟨w.heap.size, 0, none⟩)], .func (.func 46) #[] #[.pointer (some ⟨w.heap.size, 0, none⟩)], .func (.func 47) #[] #[.pointer (some ⟨w.heap.size, 0, none⟩)]] t
    rw [World.size_alloc] at B
    refine B.cell i _ ?_
    match i, hx with
    | 0, hx => cases hx; rfl
    | 1, hx => cases hx; rfl
    | 2, hx => cases hx; rfl
    | 3, hx => cases hx; rfl
    | 4, hx => cases hx; rfl
    | 5, hx => cases hx; rfl
    | 6, hx => cases hx; rfl
  intro KA hs
  go_enter Try.func30, Try.ntmps30
  go_wp2
  go_ret
  exact ⟨by simp [go_sem], _, rfl⟩
set_option maxRecDepth 100000 in
theorem wider_any (k : Rl) (w : World) :
    Calls Try.prog 33 #[.agg k.v] w fun e w' => ∃ qb, e = .returned (.slice (some ⟨qb, 0, none⟩) 7 7) ∧ Qw w' w.heap.size qb k ∧ w.heap.size < qb ∧ Below w.heap.size w w' := by
  have hs : (Try.prog.info? 30).map (·.size) = some k.v.size := by kernel_rfl
  suffices H : ∀ KA : Array Value, (Try.prog.info? 30).map (·.size) = some KA.size → Calls Try.prog 33 #[.agg KA] w fun e w' => e = .returned (.slice (some ⟨w.heap.size + 1, 0, none⟩) 7 7) ∧ ∃ t, w' = (w.alloc (.cells KA 30)).alloc (.cells #[.func (.func 49) #[] #[.pointer (some ⟨w.heap.size, 0, none⟩)], .func (.func 50) #[] #[.pointer (some ⟨w.heap.size, 0, none⟩)], .func (.func 51) #[] #[.pointer (some ⟨w.heap.size, 0, none⟩)], .func (.func 52) #[] #[.pointer (some ⟨w.heap.size, 0, none⟩)], .func (.func 54) #[] #[.pointer (some ⟨w.heap.size, 0, none⟩)], .func (.func 55) #[] #[.pointer (some ⟨w.heap.size, 0, none⟩)], .func (.func 57) #[] #[.pointer (some ⟨w.heap.size, 0, none⟩)]] t) by
    refine (H k.v hs).mono ?_
    rintro e w' ⟨rfl, t, rfl⟩
    refine ⟨_, rfl, ⟨((blk_new w k.v 30).alloc _).at_, fun i x hx => ?_⟩, by omega, bel_al (bel_nw rfl) rfl⟩
    have B := blk_new (w.alloc (.cells k.v 30)) #[.func (.func 49) #[] #[.pointer (some ⟨w.heap.size, 0, none⟩)], .func (.func 50) #[] #[.pointer (some ⟨w.heap.size, 0, none⟩)], .func (.func 51) #[] #[.pointer (some ⟨w.heap.size, 0, none⟩)], .func (.func 52) #[] #[.pointer (some ⟨w.heap.size, 0, none⟩)], .func (.func 54) #[] #[.pointer (some ⟨w.heap.size, 0, none⟩)], .func (.func 55) #[] #[.pointer (some ⟨w.heap.size, 0, none⟩)], .func (.func 57) #[] #[.pointer (some ⟨w.heap.size, 0, none⟩)]] t
    rw [World.size_alloc] at B
    refine B.cell i _ ?_
    match i, hx with
    | 0, hx => cases hx; rfl
    | 1, hx => cases hx; rfl
    | 2, hx => cases hx; rfl
    | 3, hx => cases hx; rfl
    | 4, hx => cases hx; rfl
    | 5, hx => cases hx; rfl
    | 6, hx => cases hx; rfl
  intro KA hs
  go_enter Try.func33, Try.ntmps33
  go_wp2
  go_ret
  exact ⟨by simp [go_sem], _, rfl⟩
end Go.Proofs.Ytmlddgmkbbaccaa
