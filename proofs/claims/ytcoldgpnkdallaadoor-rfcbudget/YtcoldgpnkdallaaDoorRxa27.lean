/- Texts joined: RfC -/
import Derived.Test.YtcoldgpnkdallaaDoorRxa19
import Derived.Test.YtcoldgpnkdallaaDoorRxa26
namespace Go.Proofs.YtcoldgpnkdallaaDoor
open Go.RowKit
set_option linter.unusedVariables false
set_option linter.unusedSimpArgs false
/-- A row of one's own, one cell an element, read and written at a place. -/
theorem own_at {w : World} {B : Nat} {t : TypeId} {n c : Nat} {a : Option Addr} {xs : List Value} (h : w.ownsRow B t 1 (.slice a n c) n xs) {i : Nat} (hi : i < n) :
    ∃ g cur v, a = some ⟨g, 0, none⟩ ∧ B ≤ g ∧ Blk w g t cur ∧ xs[i]? = some v ∧ w.cell? ⟨g, i, none⟩ = some v ∧ ∀ u : Value, (w.setCell ⟨g, i, none⟩ u).ownsRow B t 1 (.slice a n c) n (xs.set i u) := by
  obtain ⟨h1, h2⟩ := h
  rcases h2 with ⟨h3, h4⟩ | ⟨g, cap, cur, h3, h4, h5, h6, h7, h8, h9⟩
  · omega
  · simp only [Value.slice.injEq] at h3
    obtain ⟨rfl, _, rfl⟩ := h3
    have hb : Blk w g t cur := h5
    have hxl : i < xs.length := by omega
    have hc : cur[i]? = xs[i]? := by
      rw [← h9, List.getElem?_take_of_lt (by omega), Array.getElem?_toList]
    refine ⟨g, cur, xs[i], rfl, h4, hb, List.getElem?_eq_getElem hxl, hb.cell _ _ (by rw [hc, List.getElem?_eq_getElem hxl]), fun u => ?_⟩
    refine ⟨by simpa using h1, .inr ⟨g, c, cur.setIfInBounds i u, rfl, h4, hb.put i u, h6, h7, by simpa using h8, ?_⟩⟩
    rw [Array.toList_setIfInBounds, List.take_set, h9]
/-- A place, or -1. -/
def ixU : Option Nat → Int
  | some i => i
  | none => -1
set_option maxRecDepth 100000 in
set_option maxHeartbeats 1000000 in
theorem indexU_any (a : Option Addr) (c : Nat) (l : List Nat) (x : Nat) (w : World) (h : RowU w a l) :
    Calls Tryd.prog 53 #[.slice a l.length c, .int .u64 (x : Int)] w fun e w' => e = .returned (.int .i64 (ixU (l.findIdx? (· == x)))) ∧ Below w.heap.size w w' := by
  obtain ⟨R, hR⟩ : ∃ R, ixU (l.findIdx? (· == x)) = R := ⟨_, rfl⟩
  have HR' : Hid (ixU (l.findIdx? (· == x)) = R) := hR
  rw [hR]
  clear hR
  have hs := h.small
  have HR : Hid (RowU w a l) := h
  obtain ⟨N, hN⟩ : ∃ N, l.length = N := ⟨_, rfl⟩
  have HN : Hid (l.length = N) := hN
  rw [hN] at hs ⊢
  clear h hN
  go_enter Tryd.func53, Tryd.ntmps53
  go_wp2_with fail
  go_loopw [8] (fun i wr => ∃ (n : Nat), n ≤ N ∧ i = .int .i64 n ∧ w = wr ∧ Hid (∀ (j q : Nat), j < n → l[j]? = some q → q ≠ x)) (fun i _ => N - (intOf i).toNat)
  case atStart => exact ⟨0, Nat.zero_le _, rfl, rfl, fun j q hj => by omega⟩
  case round =>
    obtain ⟨n, hn, rfl, hw, HA⟩ := hrel
    subst hw
    by_cases hlt : n < N
    · have ik : (n : Int) < (N : Int) := by omega
      obtain ⟨y, hy⟩ : ∃ y, l[n]? = some y := ⟨_, List.getElem?_eq_getElem (by rw [HN.out]; exact hlt)⟩
      have HY : Hid (l[n]? = some y) := hy
      obtain ⟨b, off, ha, hc⟩ := HR.out.cells (by rw [HN.out]; omega)
      have hc := hc n (by rw [HN.out]; exact hlt)
      rw [List.getD_eq_getElem?_getD, hy] at hc
      simp only [Option.getD_some] at hc
      subst ha
      have hw1 : IntKind.i64.wrap ((n : Int) + 1) = ((n + 1 : Nat) : Int) := by simp [IntKind.wrap, IntKind.bits, IntKind.signed]; omega
      clear hy
      by_cases e : y = x
      · have he : ((x : Int) == (y : Int)) = true := by simp [e]
        have HF : Hid (l.findIdx? (· == x) = some n) := by
          show _ = _
          rw [List.findIdx?_eq_some_iff_getElem]
          obtain ⟨h1, h2⟩ := List.getElem?_eq_some_iff.1 HY.out
          refine ⟨h1, by simp [h2, e], fun j hj => ?_⟩
          have := HA.out j _ hj (List.getElem?_eq_getElem (by omega))
          simpa using this
        clear e
        go_wp2
        go_ret
        have hh := HR'.out
        rw [HF.out] at hh
        exact ⟨by rw [← hh]; rfl, Below.refl _ _⟩
      · have he : ((x : Int) == (y : Int)) = false := by simp; omega
        have HA' : Hid (∀ (j q : Nat), j < n + 1 → l[j]? = some q → q ≠ x) := fun j q hj hq => by
          by_cases ej : j = n
          · subst ej
            rw [HY.out] at hq
            cases hq
            exact e
          · exact HA.out j q (by omega) hq
        clear e
        go_wp2
        exact ⟨⟨n + 1, by omega, by first | rfl | (congr 1), by trivial, HA'⟩, by simp only [intOf]; omega⟩
    · have ik : ¬ (n : Int) < (N : Int) := by omega
      have HF : Hid (l.findIdx? (· == x) = none) := by
        show _ = _
        rw [List.findIdx?_eq_none_iff]
        intro q hq
        obtain ⟨j, hj⟩ := List.getElem?_of_mem hq
        have := HA.out j q (by have := (List.getElem?_eq_some_iff.1 hj).1; rw [HN.out] at this; omega) hj
        simpa using this
      go_wp2
      go_ret
      have hh := HR'.out
      rw [HF.out] at hh
      exact ⟨by rw [← hh]; rfl, Below.refl _ _⟩
/-- The numbers of the first n sets; the rest is 0. -/
def prt (A : List (List Nat)) (n : Nat) : List Nat := (A.take n).map bitsN ++ List.replicate (A.length - n) 0
theorem prt_len (A : List (List Nat)) {n : Nat} (h : n ≤ A.length) : (prt A n).length = A.length := by unfold prt; simp; omega
theorem prt_at {A : List (List Nat)} {n : Nat} (h : n < A.length) : (prt A n)[n]? = some 0 := by
  unfold prt
  rw [List.getElem?_append_right (by simp; omega), List.getElem?_replicate, if_pos (by simp; omega)]
theorem prt_set {A : List (List Nat)} {n : Nat} {s : List Nat} (h : A[n]? = some s) : (prt A n).set n (bitsN s) = prt A (n + 1) := by
  obtain ⟨h1, h2⟩ := List.getElem?_eq_some_iff.1 h
  unfold prt
  rw [List.set_append_right _ _ (by simp; omega), List.take_add_one, h]
  have e : A.length - n = (A.length - (n + 1)) + 1 := by omega
  rw [e, List.replicate_succ]
  simp [Nat.min_eq_left (Nat.le_of_lt h1)]
theorem prt_all (A : List (List Nat)) : prt A A.length = A.map bitsN := by unfold prt; simp
abbrev u64s (l : List Nat) : List Value := l.map fun i : Nat => Value.int .u64 (i : Int)
set_option maxRecDepth 100000 in
set_option maxHeartbeats 4000000 in
theorem setsOf_any (a : Option Addr) (c : Nat) (A : List (List Nat)) (w : World) (h : RowS w a (A.map ints)) (hA : Rs2 A) (hN : A.length ≤ 10000) :
    Calls Tryd.prog 23 #[.slice a A.length c] w fun e w' => ∃ a' c', e = .returned (.slice a' A.length c') ∧ OwnU w' w.heap.size a' c' (A.map bitsN) ∧ Below w.heap.size w w' := by
  obtain ⟨i0, hi, hz0, hz1, hz2⟩ := info_parts info_set
  have HR : Hid (RowS w a (A.map ints)) := h
  have HA : Hid (Rs2 A) := hA
  obtain ⟨N, hN'⟩ : ∃ N, A.length = N := ⟨_, rfl⟩
  have HN : Hid (A.length = N) := hN'
  rw [hN'] at hN ⊢
  clear h hA hN'
  go_enter Tryd.func23, Tryd.ntmps23
  go_wp2_with (first | (at_make; refine wpList_make_full _ rfl _ _ 66 rfl w.heap.size 73 i0 (.int .u64 0) 1 Tryd.underlying66 hi hz0 hz1 _ _ _ _ N rfl rfl (by first | rfl | omega) (by first | rfl | omega) (by rw [hz2]; omega) (by unfold maxLen; omega) (Nat.le_refl _) ?_; intro w1 ho1 hg1))
  have HO1 : Hid (w1.ownsRow w.heap.size 73 1 (.slice (some ⟨w.heap.size, 0, none⟩) N N) N (u64s (prt A 0))) := by
    have e : u64s (prt A 0) = (madeCells (Value.int .u64 0).cells (N * 1)).toList := by
      show _ = (madeCells #[Value.int .u64 0] (N * 1)).toList
      rw [toList_madeCells_one]
      simp [u64s, prt, HN.out]
    show w1.ownsRow _ _ _ _ _ _
    rw [e]
    exact ho1
  have b1 : Below w.heap.size w w1 := (Below.refl _ _).grown hg1 (Nat.le_refl _) (fun k hk => by cases hk)
  clear ho1 hg1 hi hz0 hz1 hz2
  go_wp2_with fail
  go_loopw [13] (fun i wr => ∃ (n : Nat), n ≤ N ∧ i = .int .i64 n ∧ Hid (wr.ownsRow w.heap.size 73 1 (.slice (some ⟨w.heap.size, 0, none⟩) N N) N (u64s (prt A n))) ∧ Below w.heap.size w wr) (fun i _ => N - (intOf i).toNat)
  case atStart => exact ⟨0, Nat.zero_le _, rfl, HO1, b1⟩
  case round =>
    clear HO1 b1
    obtain ⟨n, hn, rfl, HO, bw⟩ := hrel
    by_cases hlt : n < N
    · have ik : (n : Int) < (N : Int) := by omega
      have in0 : (0 : Int) ≤ (n : Int) := by omega
      have hw1 : IntKind.i64.wrap ((n : Int) + 1) = ((n + 1 : Nat) : Int) := by simp [IntKind.wrap, IntKind.bits, IntKind.signed]; omega
      obtain ⟨s, hs⟩ : ∃ s, A[n]? = some s := ⟨_, List.getElem?_eq_getElem (by rw [HN.out]; exact hlt)⟩
      have HSN : Hid (A[n]? = some s) := hs
      have HRS : Hid (Rs s) := HA.out s (List.mem_of_getElem? hs)
      obtain ⟨b, off, ai, ci, ha, hc, hri⟩ := HR.out.cells n (ints s) (by rw [List.getElem?_map, hs]; rfl)
      have hc' := kept bw hc
      have HRI : Hid (RowI w ai (ints s)) := hri
      rw [List.length_map] at hc'
      have hsl := rs_len HRS.out
      obtain ⟨M, hM⟩ : ∃ M, s.length = M := ⟨_, rfl⟩
      have HM : Hid (s.length = M) := hM
      rw [hM] at hc' hsl
      subst ha
      clear hs hc hri hM
      go_wp2_with fail
      clear hc'
      go_loopw [20] (fun i wr => ∃ (m : Nat), m ≤ M ∧ i = .int .i64 m ∧ Hid (wr.ownsRow w.heap.size 73 1 (.slice (some ⟨w.heap.size, 0, none⟩) N N) N (u64s ((prt A n).set n (bitsN (s.take m))))) ∧ Below w.heap.size w wr) (fun i _ => M - (intOf i).toNat)
      case atStart =>
        refine ⟨0, Nat.zero_le _, rfl, ?_, bw⟩
        have e : (prt A n).set n (bitsN (s.take 0)) = prt A n := by
          rw [List.take_zero, bits_nil]
          have h1 := prt_at (A := A) (n := n) (by rw [HN.out]; exact hlt)
          obtain ⟨h2, h3⟩ := List.getElem?_eq_some_iff.1 h1
          have := List.set_getElem_self h2
          rwa [h3] at this
        rw [e]
        exact HO
      case round =>
        clear HO bw
        obtain ⟨m, hm, rfl, HO, bw⟩ := hrel
        by_cases hmt : m < M
        · have im : (m : Int) < (M : Int) := by omega
          have hw2 : IntKind.i64.wrap ((m : Int) + 1) = ((m + 1 : Nat) : Int) := by simp [IntKind.wrap, IntKind.bits, IntKind.signed]; omega
          obtain ⟨p, hp⟩ : ∃ p, s[m]? = some p := ⟨_, List.getElem?_eq_getElem (by rw [HM.out]; exact hmt)⟩
          have hp64 : p < 64 := HRS.out.2 p (List.mem_of_getElem? hp)
          have htake : s.take (m + 1) = s.take m ++ [p] := by rw [List.take_add_one, hp]; rfl
          obtain ⟨b', off', ha', hcs⟩ := HRI.out.cells (by simp [HM.out]; omega)
          have hcm := kept bw (hcs m (by simp [HM.out]; omega))
          rw [List.getD_eq_getElem?_getD, List.getElem?_map, hp] at hcm
          simp only [Option.map_some, Option.getD_some] at hcm
          subst ha'
          have hX : bitsN (s.take m) < 18446744073709551616 := bits_lt fun i hi => HRS.out.2 i (List.mem_of_mem_take hi)
          have hsn : bitsN (s.take (m + 1)) = bitsN (s.take m) ||| 2 ^ p := by rw [htake, bits_snoc]
          obtain ⟨X, hXe⟩ : ∃ X, bitsN (s.take m) = X := ⟨_, rfl⟩
          obtain ⟨Y, hYe⟩ : ∃ Y, bitsN (s.take (m + 1)) = Y := ⟨_, rfl⟩
          have HY : Hid (bitsN (s.take (m + 1)) = Y) := hYe
          rw [hXe, hYe] at hsn
          have q0 := HO.out
          rw [hXe] at hX q0
          obtain ⟨g, cur, v, ea, k1, kb, kx, kc, kw⟩ := own_at q0 hlt
          cases ea
          have hv : v = .int .u64 (X : Int) := by
            rw [u64s, List.getElem?_map, List.getElem?_set_self (by rw [prt_len A (by rw [HN.out]; omega), HN.out]; exact hlt)] at kx
            simpa using kx.symm
          subst hv
          have KK : Hid ((wr.setCell ⟨w.heap.size, n, none⟩ (.int .u64 (Y : Int))).ownsRow w.heap.size 73 1 (.slice (some ⟨w.heap.size, 0, none⟩) N N) N (u64s ((prt A n).set n Y))) := by
            have := kw (.int .u64 (Y : Int))
            have e : (u64s ((prt A n).set n X)).set n (.int .u64 (Y : Int)) = u64s ((prt A n).set n Y) := by
              simp [u64s, List.map_set]
            rw [e] at this
            exact this
          have kf := kb.frozen n
          have hp2 : (2 : Nat) ^ p < 18446744073709551616 := by
            have := Nat.pow_lt_pow_right (a := 2) (by omega) hp64
            simpa using this
          have hor : bits BinOp.or IntKind.u64 (X : Int) (2 ^ p) = (Y : Int) := by
            have hcast : (2 : Int) ^ p = ((2 ^ p : Nat) : Int) := by simp
            rw [hcast, bits_or_u64_nat X _ hX hp2, hsn]
          have hshl : IntKind.u64.wrap ((2 : Int) ^ p) = (2 : Int) ^ p := by
            have hcast : (2 : Int) ^ p = ((2 ^ p : Nat) : Int) := by simp
            rw [hcast]
            obtain ⟨E, hE⟩ : ∃ E, (2 : Nat) ^ p = E := ⟨_, rfl⟩
            rw [hE] at hp2 ⊢
            rw [IntKind.wrap_u64]
            omega
          have bw' : Below w.heap.size w (wr.setCell ⟨w.heap.size, n, none⟩ (.int .u64 (Y : Int))).drew := (bw.setCell (Nat.le_refl _) _).drew
          have KD : Hid ((wr.setCell ⟨w.heap.size, n, none⟩ (.int .u64 (Y : Int))).drew.ownsRow w.heap.size 73 1 (.slice (some ⟨w.heap.size, 0, none⟩) N N) N (u64s ((prt A n).set n Y))) := ownsRow_low KK.out (below_drew _)
          clear q0 hsn kw kx hX htake hp hXe hYe HO hcs
          go_wp2_with fail
          go_region
          try simp only [hor]
          go_wp2
          exact ⟨⟨m + 1, by omega, by first | rfl | (congr 1), by rw [HY.out]; exact KD, bw'⟩, by simp only [intOf]; omega⟩
        · have im : ¬ (m : Int) < (M : Int) := by omega
          have HO' : Hid (wr.ownsRow w.heap.size 73 1 (.slice (some ⟨w.heap.size, 0, none⟩) N N) N (u64s (prt A (n + 1)))) := by
            have := HO.out
            rw [List.take_of_length_le (by rw [HM.out]; omega), prt_set HSN.out] at this
            exact this
          clear HO
          go_wp2
          exact ⟨⟨n + 1, by omega, by first | rfl | (congr 1), HO', bw⟩, by simp only [intOf]; omega⟩
    · have ik : ¬ (n : Int) < (N : Int) := by omega
      have hn' : n = A.length := by rw [HN.out]; omega
      have HO' : Hid (OwnU wr w.heap.size (some ⟨w.heap.size, 0, none⟩) N (A.map bitsN)) := by
        have := HO.out
        rw [hn', prt_all] at this
        show OwnU _ _ _ _ _
        unfold OwnU
        rw [List.length_map, HN.out]
        exact this
      clear hn' HO
      go_wp2
      go_ret
      exact ⟨_, _, rfl, HO'.out, bw⟩
/-- The first n of N sets are there. -/
def SetsT (w : World) (B : Nat) (a : Option Addr) (N c n : Nat) (A : List (List Nat)) : Prop := ∃ vs, w.ownsRow B 25 1 (.slice a N c) N vs ∧ ∀ (i : Nat) (s : List Nat), i < n → A[i]? = some s → ∃ ai ci, vs[i]? = some (Value.slice ai s.length ci) ∧ OwnI w B ai ci s
theorem SetsT.below {w w' : World} {B : Nat} {a : Option Addr} {N c n : Nat} {A : List (List Nat)} (h : SetsT w B a N c n A) (hb : Below w.heap.size w w') : SetsT w' B a N c n A := by
  obtain ⟨vs, h1, h2⟩ := h
  exact ⟨vs, ownsRow_low h1 hb, fun i s hi hs => by
    obtain ⟨ai, ci, e1, e2⟩ := h2 i s hi hs
    exact ⟨ai, ci, e1, e2.below hb⟩⟩
theorem SetsT.put {w : World} {B g N c n : Nat} {A : List (List Nat)} (h : SetsT w B (some ⟨g, 0, none⟩) N c n A) (hn : n < N) {s : List Nat} (hs : A[n]? = some s) {ai : Option Addr} {ci : Nat} (ho : OwnI w B ai ci s) : ∃ cur, Blk w g 25 cur ∧ n < cur.size ∧ SetsT (w.setCell ⟨g, n, none⟩ (.slice ai s.length ci)) B (some ⟨g, 0, none⟩) N c (n + 1) A := by
  obtain ⟨vs, h1, h2⟩ := h
  obtain ⟨g', cur, v, ea, k1, kb, kx, kc, kw⟩ := own_at h1 hn
  cases ea
  have hT : Tc (· == 25) w (w.setCell ⟨g, n, none⟩ (.slice ai s.length ci)) := by
    rw [setCell_eq_setRow w g n cur _ (0, 0) _ kb]
    exact Tc.set kb (by rfl) _
  have hcs : n < cur.size := by
    rcases h1.2 with ⟨h3, _⟩ | ⟨g2, cap, cur2, h3, h4, h5, h6, h7, h8, h9⟩
    · cases h3
    · cases h3
      have kb' : w.heap[g]? = some (.cells cur 25 (0, 0)) := kb
      rw [h5] at kb'
      simp only [Option.some.injEq, Obj.cells.injEq] at kb'
      rw [← kb'.1]
      omega
  refine ⟨cur, kb, hcs, vs.set n (.slice ai s.length ci), kw _, fun i t hi ht => ?_⟩
  by_cases e : i = n
  · subst e
    rw [hs] at ht
    cases ht
    refine ⟨ai, ci, ?_, ownsRow_tc ho hT (by rfl)⟩
    rw [List.getElem?_set_self (List.getElem?_eq_some_iff.1 kx).1]
  · obtain ⟨aj, cj, e1, e2⟩ := h2 i t (by omega) ht
    exact ⟨aj, cj, by rw [List.getElem?_set_ne (by omega)]; exact e1, ownsRow_tc e2 hT (by rfl)⟩
theorem SetsT.all {w : World} {B N c : Nat} {a : Option Addr} {A : List (List Nat)} (h : SetsT w B a N c N A) (hN : A.length = N) : ∃ vs, SetsO w B a c A vs := by
  obtain ⟨vs, h1, h2⟩ := h
  rw [← hN] at h1
  exact ⟨vs, h1, fun i s hs => h2 i s (by have := (List.getElem?_eq_some_iff.1 hs).1; omega) hs⟩
set_option maxRecDepth 100000 in
set_option maxHeartbeats 4000000 in
theorem lists_any (a : Option Addr) (c : Nat) (A : List (List Nat)) (w : World) (h : RowU w a (A.map bitsN)) (hA : Rs2 A) (hN : A.length ≤ 10000) (hd : Deb w) :
    Calls Tryd.prog 25 #[.slice a A.length c] w fun e w' => ∃ a' c' vs, e = .returned (.slice a' A.length c') ∧ SetsO w' w.heap.size a' c' A vs ∧ Below w.heap.size w w' := by
  obtain ⟨i0, hi, hz0, hz1, hz2⟩ := info_parts info_ints
  have HR : Hid (RowU w a (A.map bitsN)) := h
  have HA : Hid (Rs2 A) := hA
  have HD : Hid (Deb w) := hd
  have KP : Hid (∀ s, Rs s → ∀ W, Deb W → Calls Tryd.prog 54 #[.int .u64 (bitsN s : Int)] W fun e w' => ∃ a c, e = .returned (.slice a s.length c) ∧ OwnI w' W.heap.size a c s ∧ Below W.heap.size W w') := fun s hs W hW => places_any s hs W hW
  obtain ⟨N, hN'⟩ : ∃ N, A.length = N := ⟨_, rfl⟩
  have HN : Hid (A.length = N) := hN'
  rw [hN'] at hN ⊢
  clear h hA hN' hd
  go_enter Tryd.func25, Tryd.ntmps25
  go_wp2_with (first | (at_make; refine wpList_make_full _ rfl _ _ 45 rfl w.heap.size 25 i0 (.slice none 0 0) 1 Tryd.underlying45 hi hz0 hz1 _ _ _ _ N rfl rfl (by first | rfl | omega) (by first | rfl | omega) (by rw [hz2]; omega) (by unfold maxLen; omega) (Nat.le_refl _) ?_; intro w1 ho1 hg1))
  have HO1 : Hid (SetsT w1 w.heap.size (some ⟨w.heap.size, 0, none⟩) N N 0 A) := ⟨_, ho1, fun i s hi => by omega⟩
  have b1 : Below w.heap.size w w1 := (Below.refl _ _).grown hg1 (Nat.le_refl _) (fun k hk => by cases hk)
  clear ho1 hg1 hi hz0 hz1 hz2
  go_wp2_with fail
  go_loopw [11] (fun i wr => ∃ (n : Nat), n ≤ N ∧ i = .int .i64 n ∧ Hid (SetsT wr w.heap.size (some ⟨w.heap.size, 0, none⟩) N N n A) ∧ Below w.heap.size w wr) (fun i _ => N - (intOf i).toNat)
  case atStart => exact ⟨0, Nat.zero_le _, rfl, HO1, b1⟩
  case round =>
    clear HO1 b1
    obtain ⟨n, hn, rfl, HO, bw⟩ := hrel
    by_cases hlt : n < N
    · have ik : (n : Int) < (N : Int) := by omega
      have in0 : (0 : Int) ≤ (n : Int) := by omega
      have hw1 : IntKind.i64.wrap ((n : Int) + 1) = ((n + 1 : Nat) : Int) := by simp [IntKind.wrap, IntKind.bits, IntKind.signed]; omega
      obtain ⟨s, hs⟩ : ∃ s, A[n]? = some s := ⟨_, List.getElem?_eq_getElem (by rw [HN.out]; exact hlt)⟩
      have HSN : Hid (A[n]? = some s) := hs
      have HRS : Hid (Rs s) := HA.out s (List.mem_of_getElem? hs)
      obtain ⟨b, off, ha, hc⟩ := HR.out.cells (by rw [List.length_map, HN.out]; omega)
      have hc := kept bw (hc n (by rw [List.length_map, HN.out]; exact hlt))
      rw [List.getD_eq_getElem?_getD, List.getElem?_map, hs] at hc
      simp only [Option.map_some, Option.getD_some] at hc
      subst ha
      have K : Hid _ := KP.out s HRS.out wr (HD.out.below bw)
      obtain ⟨X, hX⟩ : ∃ X, bitsN s = X := ⟨_, rfl⟩
      rw [hX] at hc K
      obtain ⟨M, hM⟩ : ∃ M, s.length = M := ⟨_, rfl⟩
      have HM : Hid (s.length = M) := hM
      rw [hM] at K
      clear hs hX hM
      go_wp2_with fail
      refine Calls.mono K.out ?_
      rintro e W2 ⟨ai, ci, rfl, hoi, b2⟩
      have bw2 := bel_tr bw b2
      obtain ⟨cur, kb, hcur, hset⟩ := (HO.out.below b2).put hlt HSN.out (ownsRow_base hoi bw.size)
      rw [HM.out] at hset
      have HS' : Hid (SetsT (W2.setCell ⟨w.heap.size, n, none⟩ (.slice ai M ci)) w.heap.size (some ⟨w.heap.size, 0, none⟩) N N (n + 1) A) := hset
      have kc := kb.cell n _ (Array.getElem?_eq_getElem hcur)
      have kf := kb.frozen n
      have bw3 : Below w.heap.size w (W2.setCell ⟨w.heap.size, n, none⟩ (.slice ai M ci)) := bw2.setCell (Nat.le_refl _) _
      clear hoi hset K HO hc bw b2 bw2
      go_wp2
      exact ⟨⟨n + 1, by omega, by first | rfl | (congr 1), HS', bw3⟩, by simp only [intOf]; omega⟩
    · have ik : ¬ (n : Int) < (N : Int) := by omega
      have hn' : n = N := by omega
      subst hn'
      obtain ⟨vs, hvs⟩ := SetsT.all HO.out HN.out
      clear HO
      go_wp2
      go_ret
      exact ⟨_, _, rfl, ⟨vs, hvs⟩, bw⟩
end Go.Proofs.YtcoldgpnkdallaaDoor
