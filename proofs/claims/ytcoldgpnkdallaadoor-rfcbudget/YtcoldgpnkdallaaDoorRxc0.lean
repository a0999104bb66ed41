/- Texts joined: MaskLaw FrA FrL FrQ FrT CmK -/
import Derived.Test.YtcoldgpnkdallaaDoorRxa0
import Derived.Test.YtcoldgpnkdallaaDoorRxa1
import Derived.Test.YtcoldgpnkdallaaDoorRxa2
import Derived.Test.YtcoldgpnkdallaaDoorRxa3
import Derived.Test.YtcoldgpnkdallaaDoorRxa4
import Derived.Test.YtcoldgpnkdallaaDoorRxa5
import Derived.Test.YtcoldgpnkdallaaDoorRxa6
import Derived.Test.YtcoldgpnkdallaaDoorRxa7
import Derived.Test.YtcoldgpnkdallaaDoorRxa8
import Derived.Test.YtcoldgpnkdallaaDoorRxa9
import Derived.Test.YtcoldgpnkdallaaDoorRxa10
import Derived.Test.YtcoldgpnkdallaaDoorRxa11
import Derived.Test.YtcoldgpnkdallaaDoorRxa12
import Derived.Test.YtcoldgpnkdallaaDoorRxa13
import Derived.Test.YtcoldgpnkdallaaDoorRxa14
import Derived.Test.YtcoldgpnkdallaaDoorRxa15
import Derived.Test.YtcoldgpnkdallaaDoorRxa16
import Derived.Test.YtcoldgpnkdallaaDoorRxa17
import Derived.Test.YtcoldgpnkdallaaDoorRxa18
import Derived.Test.YtcoldgpnkdallaaDoorRxa19
import Derived.Test.YtcoldgpnkdallaaDoorRxa20
import Derived.Test.YtcoldgpnkdallaaDoorRxa21
import Derived.Test.YtcoldgpnkdallaaDoorRxa22
import Derived.Test.YtcoldgpnkdallaaDoorRxa23
import Derived.Test.YtcoldgpnkdallaaDoorRxa24
import Derived.Test.YtcoldgpnkdallaaDoorRxa25
import Derived.Test.YtcoldgpnkdallaaDoorRxa26
import Derived.Test.YtcoldgpnkdallaaDoorRxa27
import Derived.Test.YtcoldgpnkdallaaDoorRxa28
import Derived.Test.YtcoldgpnkdallaaDoorRxa29
import Derived.Test.YtcoldgpnkdallaaDoorRxa30
import Derived.Test.YtcoldgpnkdallaaDoorRxa31
import Derived.Test.YtcoldgpnkdallaaDoorRxa32
import Derived.Test.YtcoldgpnkdallaaDoorRxa33
import Derived.Test.YtcoldgpnkdallaaDoorRxa34
import Derived.Test.YtcoldgpnkdallaaDoorRxa35
import Derived.Test.YtcoldgpnkdallaaDoorRxa36
import Derived.Test.YtcoldgpnkdallaaDoorRxa37
import Derived.Test.YtcoldgpnkdallaaDoorRxa39
import Derived.Test.YtcoldgpnkdallaaDoorRxa41
import Derived.Test.YtcoldgpnkdallaaDoorRows
import Derived.WalkKit
import Derived.Laws.BitsAllLaws
import Derived.Laws.BitsLemmas
import Derived.Laws.Bits128
import Derived.Laws.Shifts
import Derived.Laws.ShiftsVarLaws
import Derived.Laws.StructEq
import Derived.Deep.QuietTactic
import Derived.BigQuiet
import Derived.Deep.RegionWith
import Derived.Deep.DeepCutAuto
import Derived.Below
import Derived.Deep.Draws
import Derived.Laws.World
import Derived.Deep.WholeRow
import Derived.BigRegion
import Derived.Deep.RegionHeld3
import Derived.Laws.BytesArg
import Derived.Laws.MakeOwn
import Derived.Laws.AppendOwn
import Derived.Laws.AppendOwnNone
import Derived.Laws.OwnMore
import Derived.OwnWalk
import Derived.KernelRfl
import Derived.RegionTactic
import Derived.Deep.AppendLies
import Derived.Test.YtcoldgpnkdallaaDoorShelf
import Derived.Sort.OwnSortedInts
import Derived.Sort.Grow
namespace Go.Proofs.YtcoldgpnkdallaaDoor
set_option linter.unusedVariables false
theorem cutLow_less (x : Int) (i j : Nat) (h : i ≤ j) : cutLow (cutLow x i) j = cutLow x j := by
  unfold cutLow
  obtain ⟨d, rfl⟩ : ∃ d, j = i + d := ⟨j - i, by omega⟩
  have hp := pow_pos' i
  have hd := pow_pos' d
  rw [Int.pow_add, ← Int.ediv_ediv_of_nonneg (by omega), ← Int.ediv_ediv_of_nonneg (by omega), Int.mul_ediv_cancel _ (by omega)]
end Go.Proofs.YtcoldgpnkdallaaDoor
namespace Go.Proofs.YtcoldgpnkdallaaDoor
open Go.RowKit
set_option linter.unusedVariables false
set_option linter.unusedSimpArgs false
def Rl.hides (a b : Rl) : Bool := a.right && a.wider b
theorem masked_less (c : Ad) (n m : Int) (h : n ≤ m) (hm : m ≤ c.width) : (c.masked m).masked n = c.masked n := by
  show (⟨_, _, _⟩ : Ad) = ⟨_, _, _⟩
  simp only [masked_width]
  show (⟨c.fam, cutLow (cutLow _ _) _, cutLow (cutLow _ _) _⟩ : Ad) = ⟨c.fam, cutLow _ _, cutLow _ _⟩
  rw [cutLow_less _ _ _ (by omega), cutLow_less _ _ _ (by omega)]
theorem has_trans {a b c : Ad} {n m : Int} (hc : c.ok) (h1 : a.has n b = true) (h2 : b.has m c = true) (h : n ≤ m) : a.has n c = true := by
  rw [has_iff] at h1 h2 ⊢
  obtain ⟨f1, e1⟩ := h1
  obtain ⟨f2, e2⟩ := h2
  have hf : c.fits n = true := by
    simp only [Ad.fits, Bool.and_eq_true, decide_eq_true_eq] at f1 f2 ⊢
    exact ⟨f2.1, f1.2.1, by omega⟩
  refine ⟨hf, ?_⟩
  have hm : m ≤ c.width := by
    simp only [Ad.fits, Bool.and_eq_true, decide_eq_true_eq] at f2
    exact f2.2.2
  rw [← masked_less c n m h hm, e2, e1]
theorem zero_wrong {a : Ad} {n : Int} (h : zeroP a n = true) : a.rightPrefix n = false := by
  simp only [zeroP, Bool.and_eq_true, beq_iff_eq] at h
  cases hr : a.rightPrefix n with
  | false => rfl
  | true =>
    have h1 : a.has n a = true := hr
    rw [has_iff] at h1
    have h2 := h1.1
    simp [Ad.fits, Ad.right, h.1] at h2
/-- Is the rule at the place i hidden? -/
def hidB (l : List Rl) (i : Nat) : Bool := match l[i]? with
  | some r => (l.take i).any (·.hides r)
  | none => false
/-- The places below n of the rules that are not hidden. -/
def keepN (l : List Rl) (n : Nat) : List Nat := (List.range n).filter fun i => !hidB l i
def keepL (l : List Rl) : List Nat := keepN l l.length
theorem keep_succ (l : List Rl) (n : Nat) : keepN l (n + 1) = if hidB l n then keepN l n else keepN l n ++ [n] := by
  unfold keepN
  rw [List.range_succ, List.filter_append]
  cases h : hidB l n <;> simp [h]
theorem keep_len (l : List Rl) (n : Nat) : (keepN l n).length ≤ n := by
  unfold keepN
  exact Nat.le_trans (List.length_filter_le _ _) (by simp)
theorem hid_iff {l : List Rl} {n : Nat} {r : Rl} (hr : l[n]? = some r) : hidB l n = true ↔ ∃ j q, j < n ∧ l[j]? = some q ∧ q.hides r = true := by
  unfold hidB
  rw [hr]
  simp only [List.any_eq_true]
  constructor
  · rintro ⟨q, hq, hh⟩
    obtain ⟨j, hj⟩ := List.getElem?_of_mem hq
    have hjn : j < n := by
      have := (List.getElem?_eq_some_iff.1 hj).1
      simp at this
      omega
    rw [List.getElem?_take_of_lt hjn] at hj
    exact ⟨j, q, hjn, hj, hh⟩
  · rintro ⟨j, q, hj, hq, hh⟩
    refine ⟨q, List.mem_of_getElem? (i := j) ?_, hh⟩
    rw [List.getElem?_take_of_lt hj]
    exact hq
def wideR : Rl := ⟨-1, -1, ⟨0, 0, 0⟩, 0, ⟨0, 0, 0⟩, 0, 0, 0, 65535, 0, 65535, 1, 0⟩
theorem hasB_trans {a b c : Ad} {n m : Int} (hc : c.ok) (h1 : reachB a n b m = true) (h2 : hasB b m c = true) : hasB a n c = true := by
  simp only [reachB, hasB, Bool.or_eq_true, Bool.and_eq_true, decide_eq_true_eq] at h1 h2 ⊢
  rcases h1 with h1 | ⟨x1, x2, x3⟩
  · exact .inl h1
  · rcases h2 with h2 | h2
    · rw [zero_wrong h2] at x1
      cases x1
    · exact .inr (has_trans hc x3 h2 x2)
theorem takes_wider {q r : Rl} {k : Ky} (ko : k.ok) (h : q.hides r = true) (ht : r.takes k = true) : q.takes k = true := by
  simp only [Rl.hides, Rl.wider, Rl.takes, Rl.asks, inB, Bool.and_eq_true, Bool.or_eq_true, decide_eq_true_eq, beq_iff_eq] at h ht ⊢
  obtain ⟨h0, h1, h2, h3, h4, h5, h6, h7, h8, h9⟩ := h
  obtain ⟨_, t0, t1, t2, t3, t4, t5, t6, t7⟩ := ht
  exact ⟨h0, t0, by omega, by omega, hasB_trans ko.s h3 t3, hasB_trans ko.d h4 t4, by omega, by omega, by omega⟩
theorem keep_sorted (l : List Rl) (n : Nat) : (keepN l n).Pairwise (· < ·) := by
  unfold keepN
  exact List.Pairwise.filter _ List.pairwise_lt_range
theorem keep_mem {l : List Rl} {i : Nat} : i ∈ keepL l ↔ i < l.length ∧ hidB l i = false := by
  unfold keepL keepN
  simp
/-- The rules at the places. -/
def subL (l : List Rl) (K : List Nat) : List Rl := K.map fun i => (l[i]?).getD wideR
theorem find_none {l : List Rl} {k : Ky} (h : findL l k = none) : ∀ r ∈ l, r.takes k = false := fun r hr => by
  have := List.findIdx?_eq_none_iff.1 h r hr
  exact this
theorem find_some {l : List Rl} {k : Ky} {i : Nat} (h : findL l k = some i) : ∃ r, l[i]? = some r ∧ r.takes k = true ∧ ∀ (j : Nat) (q : Rl), j < i → l[j]? = some q → q.takes k = false := by
  obtain ⟨h1, h2, h3⟩ := List.findIdx?_eq_some_iff_getElem.1 h
  refine ⟨l[i], List.getElem?_eq_getElem h1, h2, fun j q hj hq => ?_⟩
  obtain ⟨hl, rfl⟩ := List.getElem?_eq_some_iff.1 hq
  simpa using h3 j hj
theorem sub_get {l : List Rl} {j i : Nat} {r : Rl} (h : (keepL l)[j]? = some i) (hr : l[i]? = some r) : (subL l (keepL l))[j]? = some r := by
  unfold subL
  rw [List.getElem?_map, h]
  simp [hr]
theorem sub_inv {l : List Rl} {j : Nat} {r : Rl} (h : (subL l (keepL l))[j]? = some r) : ∃ i, (keepL l)[j]? = some i ∧ l[i]? = some r := by
  unfold subL at h
  rw [List.getElem?_map] at h
  cases e : (keepL l)[j]? with
  | none => rw [e] at h; cases h
  | some i =>
    rw [e] at h
    have hi := (keep_mem.1 (List.mem_of_getElem? e)).1
    obtain ⟨q, hq⟩ : ∃ q, l[i]? = some q := ⟨_, List.getElem?_eq_getElem hi⟩
    simp only [Option.map_some, hq, Option.getD_some, Option.some.injEq] at h
    exact ⟨i, rfl, by rw [hq, h]⟩
theorem hidden_none {l : List Rl} {k : Ky} (h : findL l k = none) : findL (subL l (keepL l)) k = none :=
  findL_none fun j r hj => by
    obtain ⟨i, _, hi⟩ := sub_inv hj
    exact find_none h r (List.mem_of_getElem? hi)
theorem hidden_some {l : List Rl} {k : Ky} (ko : k.ok) {i : Nat} (h : findL l k = some i) : ∃ j, findL (subL l (keepL l)) k = some j ∧ (keepL l)[j]? = some i := by
  obtain ⟨r, hr, ht, hmin⟩ := find_some h
  have hi : i ∈ keepL l := by
    refine keep_mem.2 ⟨(List.getElem?_eq_some_iff.1 hr).1, ?_⟩
    cases hb : hidB l i with
    | false => rfl
    | true =>
      obtain ⟨j, q, hj, hq, hh⟩ := (hid_iff hr).1 hb
      have := hmin j q hj hq
      rw [takes_wider ko hh ht] at this
      cases this
  obtain ⟨j, hj⟩ := List.getElem?_of_mem hi
  refine ⟨j, findL_some (fun j' q hj' hq => ?_) (sub_get hj hr) ht, hj⟩
  obtain ⟨i', hi', hl'⟩ := sub_inv hq
  refine hmin i' q ?_ hl'
  obtain ⟨a1, e1⟩ := List.getElem?_eq_some_iff.1 hi'
  obtain ⟨a2, e2⟩ := List.getElem?_eq_some_iff.1 hj
  have := List.pairwise_iff_getElem.1 (keep_sorted l l.length) j' j a1 a2 hj'
  have e1' : (keepN l l.length)[j'] = i' := e1
  have e2' : (keepN l l.length)[j] = i := e2
  omega
theorem info_rule : (Tryd.prog.info? 53).map (fun i => (i.zero, i.size, i.bytes)) = some (some (.agg z17), 17, 136) := by kernel_rfl
set_option maxRecDepth 100000 in
set_option maxHeartbeats 4000000 in
theorem equalP_any (a a' : Option Addr) (c c' : Nat) (l l' : List Pt) (w : World) (hs : l.length ≤ 17592186044416) (h : RowP w a l) (h' : RowP w a' l') :
    Calls Tryd.prog 60 #[.slice a l.length c, .slice a' l'.length c'] w fun e w' => Tells e (l = l') ∧ Below w.heap.size w w' := by
  by_cases hl : l.length = l'.length
  · have HL : Hid (l.length = l'.length) := hl
    rw [← hl]
    obtain ⟨N, hN⟩ : ∃ N, l.length = N := ⟨_, rfl⟩
    have HN : Hid (l.length = N) := hN
    rw [hN] at hs ⊢
    have HR : Hid (∀ m, RowP (w.drewN m) a l ∧ RowP (w.drewN m) a' l') := fun m => ⟨h.low (below_drewN (Below.refl _ _) m), h'.low (below_drewN (Below.refl _ _) m)⟩
    clear hl hN h h'
    go_enter Tryd.func60, Tryd.ntmps60
    go_wp2
    go_loopw [13] (fun i w' => ∃ (k m : Nat), k ≤ N ∧ i = .int .i64 k ∧ w' = w.drewN m ∧ Hid (l.take k = l'.take k)) (fun i _ => N - (intOf i).toNat)
    case atStart => exact ⟨0, 0, Nat.zero_le _, rfl, rfl, by show l.take 0 = l'.take 0; simp⟩
    case round =>
      obtain ⟨k, m, hk, rfl, rfl, qe⟩ := hrel
      obtain ⟨r1, r2⟩ := HR.out m
      have HWm : Hid (∀ n, (w.drewN m).drewN n = w.drewN (m + n)) := fun n => drewN_add w m n
      have q5 : Hid (Below w.heap.size w (w.drewN m)) := below_drewN (Below.refl _ _) m
      generalize w.drewN m = W5 at *
      by_cases hlt : k < N
      · have ik : (k : Int) < (N : Int) := by omega
        obtain ⟨p, hp⟩ : ∃ p, l[k]? = some p := ⟨_, List.getElem?_eq_getElem (by rw [HN.out]; exact hlt)⟩
        obtain ⟨q, hq⟩ : ∃ q, l'[k]? = some q := ⟨_, List.getElem?_eq_getElem (by rw [← HL.out, HN.out]; exact hlt)⟩
        obtain ⟨b, off, ha, p0, p1, p2⟩ := r1.at_ hp
        obtain ⟨b', off', ha', q0, q1, q2⟩ := r2.at_ hq
        subst ha
        subst ha'
        have hw2 : IntKind.i64.wrap ((k : Int) + 1) = ((k + 1 : Nat) : Int) := by simp [IntKind.wrap, IntKind.bits, IntKind.signed]; omega
        have hst : Hid ((l.take (k + 1) = l'.take (k + 1)) ↔ p = q) := by
          show _ ↔ _
          rw [List.take_add_one, List.take_add_one, qe.out, hp, hq]
          simp
        have HPQ : Hid (l[k]? = some p ∧ l'[k]? = some q) := ⟨hp, hq⟩
        clear r1 r2 hp hq qe
        obtain ⟨pa, pb, pc⟩ := p
        obtain ⟨qa, qb, qc⟩ := q
        simp only at p0 p1 p2 q0 q1 q2
        by_cases hpq : (⟨pa, pb, pc⟩ : Pt) = ⟨qa, qb, qc⟩
        · have HE : Hid (l.take (k + 1) = l'.take (k + 1)) := hst.out.2 hpq
          simp only [Pt.mk.injEq] at hpq
          obtain ⟨rfl, rfl, rfl⟩ := hpq
          go_wp2
          go_quiet (fail)
          go_wp2
          exact ⟨⟨k + 1, m + nq, by omega, by first | rfl | (congr 1), HWm.out nq, HE⟩, by simp only [intOf]; omega⟩
        · have HF : Hid (¬ (l = l')) := fun h => hpq (by
            have h1 := HPQ.out
            rw [h] at h1
            rw [h1.1] at h1
            exact Option.some.inj h1.2)
          have hne := pt_ne hpq
          simp only at hne
          rcases hne with hne | ⟨rfl, hne⟩ | ⟨rfl, rfl, hne⟩
          all_goals (
            go_wp2
            go_quiet (fail)
            have q6 := below_drewN q5.out nq
            go_wp2
            go_ret
            exact ⟨Tells.no HF.out, q6⟩)
      · have ik : ¬ (k : Int) < (N : Int) := by omega
        have HT : Hid (l = l') := by
          show _ = _
          have h1 := qe.out
          rw [List.take_of_length_le (by rw [HN.out]; omega), List.take_of_length_le (by rw [← HL.out, HN.out]; omega)] at h1
          exact h1
        have q6 := q5.out
        go_wp2
        go_ret
        exact ⟨Tells.yes HT.out, q6⟩
  · have hl' : ((l.length : Int) != (l'.length : Int)) = true := by simp; omega
    have HF : Hid (¬ (l = l')) := fun h => hl (by rw [h])
    clear h h' hl
    go_enter Tryd.func60, Tryd.ntmps60
    go_wp2
    go_ret
    exact ⟨Tells.no HF.out, Below.refl _ _⟩
end Go.Proofs.YtcoldgpnkdallaaDoor
