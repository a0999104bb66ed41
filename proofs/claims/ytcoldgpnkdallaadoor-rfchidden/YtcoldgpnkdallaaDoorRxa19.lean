/- Texts joined: RfR RfB -/
import Derived.Test.YtcoldgpnkdallaaDoorRxa18
import Derived.Laws.Bits64b
namespace Go.Proofs.YtcoldgpnkdallaaDoor
set_option linter.unusedVariables false
set_option linter.unusedSimpArgs false
/-- A list of sets that may be. -/
def Rs2 (A : List (List Nat)) : Prop := ∀ s ∈ A, Rs s
theorem sorted_len : ∀ (s : List Nat) (m n : Nat), s.Pairwise (· < ·) → (∀ i ∈ s, m ≤ i ∧ i < n) → s.length ≤ n - m
  | [], _, _, _, _ => Nat.zero_le _
  | x :: s, m, n, h, hb => by
    have h' := List.pairwise_cons.1 h
    have hx := hb x List.mem_cons_self
    have := sorted_len s (x + 1) n h'.2 (fun i hi => ⟨h'.1 i hi, (hb i (List.mem_cons_of_mem _ hi)).2⟩)
    rw [List.length_cons]
    omega
theorem rs_len {s : List Nat} (hs : Rs s) : s.length ≤ 64 := by
  have := sorted_len s 0 64 hs.1 (fun i hi => ⟨Nat.zero_le _, hs.2 i hi⟩)
  omega
theorem cross_rs {A B : List (List Nat)} (hA : Rs2 A) (hB : Rs2 B) : Rs2 (crossL A B) := by
  intro s hs
  unfold crossL at hs
  obtain ⟨a, ha, h⟩ := List.mem_flatMap.1 hs
  obtain ⟨b, hb, rfl⟩ := List.mem_map.1 h
  exact both_rs (hA a ha) (hB b hb)
theorem sets_rs {L : List (List Nat)} (h : Rs2 L) : Rs2 (setsL L) := fun s hs => h s (sets_mem hs)
/-- Sets put one behind the other. -/
theorem sets_snoc (L : List (List Nat)) (s : List Nat) : setsL (L ++ [s]) = putS (setsL L) s := by unfold setsL; rw [List.foldl_append]; rfl
theorem class_snoc (L : List (List Nat)) (s : List Nat) : classL (L ++ [s]) = classL L ++ [putN (setsL L) s] := classF_snoc L [] s
/-- A number among numbers is its set among sets. -/
theorem bits_find {S : List (List Nat)} {s : List Nat} (hS : Rs2 S) (hs : Rs s) : (S.map bitsN).findIdx? (· == bitsN s) = S.findIdx? (· == s) := by
  rw [List.findIdx?_map]
  induction S with
  | nil => rfl
  | cons t S ih =>
    have ih := ih (fun u hu => hS u (List.mem_cons_of_mem _ hu))
    rw [List.findIdx?_cons, List.findIdx?_cons, ih]
    have e : (((fun x => x == bitsN s) ∘ bitsN) t) = (t == s) := by
      simp only [Function.comp]
      rw [Bool.eq_iff_iff]
      simp only [beq_iff_eq]
      exact ⟨fun h => bits_inj (hS t List.mem_cons_self) hs h, fun h => by rw [h]⟩
    rw [e]
theorem put_some {S : List (List Nat)} {s : List Nat} {i : Nat} (h : S.findIdx? (· == s) = some i) : putN S s = i ∧ putS S s = S := by
  unfold putN putS
  rw [h]
  obtain ⟨h1, h2, _⟩ := List.findIdx?_eq_some_iff_getElem.1 h
  refine ⟨rfl, ?_⟩
  rw [if_pos (List.any_eq_true.2 ⟨S[i], List.getElem_mem h1, h2⟩)]
theorem put_none {S : List (List Nat)} {s : List Nat} (h : S.findIdx? (· == s) = none) : putN S s = S.length ∧ putS S s = S ++ [s] := by
  unfold putN putS
  rw [h]
  refine ⟨rfl, ?_⟩
  rw [if_neg]
  intro ha
  obtain ⟨t, ht, h2⟩ := List.any_eq_true.1 ha
  have := List.findIdx?_eq_none_iff.1 h t ht
  rw [h2] at this
  cases this
/-- The cross as far as the class k of the row i. -/
theorem cross_take {A B : List (List Nat)} {i k : Nat} {s t : List Nat} (h : A[i]? = some s) (ht : B[k]? = some t) : (crossL A B).take (i * B.length + k + 1) = (crossL A B).take (i * B.length + k) ++ [bothL s t] := by
  rw [List.take_add_one, cross_get A B i k s t h ht]
  rfl
theorem setOf_rs (l : List Rl) (d : Nat) (hl : l.length ≤ 64) (x : Int) : Rs (setOf (spns l d) x) := by
  refine ⟨setOf_sorted _ _, fun i hi => ?_⟩
  have h1 := List.mem_range.1 (List.mem_filter.1 hi).1
  rw [spns, List.length_map] at h1
  omega
/-- The sets of a dimension. -/
def setsD (l : List Rl) (d : Nat) : List (List Nat) := setsL (rowL (spns l d))
theorem setsD_rs (l : List Rl) (d : Nat) (hl : l.length ≤ 64) : Rs2 (setsD l d) := sets_rs fun s hs => by
  obtain ⟨x, _, rfl⟩ := List.mem_map.1 hs
  exact setOf_rs l d hl x
def lenD (l : List Rl) (d : Nat) : Nat := (startsL (spns l d)).length
theorem setsD_len (l : List Rl) (d : Nat) : (setsD l d).length ≤ lenD l d := by
  have : (setsL (rowL (spns l d))).length ≤ (rowL (spns l d)).length := sets_len _
  rw [show (rowL (spns l d)).length = lenD l d by unfold rowL lenD; rw [List.length_map]] at this
  exact this
/-- The two sides of a cross. -/
def sdL (n : Nat) : Nat := [0, 2, 5, 8, 10, 11].getD n 0
def sdR (n : Nat) : Nat := [1, 3, 6, 9, 4, 7].getD n 0
theorem sd_lt : ∀ n, n < 6 → sdL n < 7 + n ∧ sdR n < 7 + n := by decide
/-- The sets of the dimensions and of the first n crosses. -/
def clsN (l : List Rl) : Nat → List (List (List Nat))
  | 0 => (List.range 7).map (setsD l)
  | n + 1 => clsN l n ++ [setsL (crossL ((clsN l n).getD (sdL n) []) ((clsN l n).getD (sdR n) []))]
def sA (l : List Rl) (n : Nat) : List (List Nat) := (clsN l n).getD (sdL n) []
def sB (l : List Rl) (n : Nat) : List (List Nat) := (clsN l n).getD (sdR n) []
theorem cls_succ (l : List Rl) (n : Nat) : clsN l (n + 1) = clsN l n ++ [setsL (crossL (sA l n) (sB l n))] := rfl
theorem cls_len (l : List Rl) : ∀ n, (clsN l n).length = 7 + n
  | 0 => by simp [clsN]
  | n + 1 => by rw [cls_succ, List.length_append, cls_len l n]; simp; omega
theorem cls_L (l : List Rl) {n : Nat} (h : n < 6) : (clsN l n)[sdL n]? = some (sA l n) := by
  have h1 : sdL n < (clsN l n).length := by rw [cls_len]; exact (sd_lt n h).1
  unfold sA
  rw [List.getD_eq_getElem?_getD, List.getElem?_eq_getElem h1]; rfl
theorem cls_R (l : List Rl) {n : Nat} (h : n < 6) : (clsN l n)[sdR n]? = some (sB l n) := by
  have h1 : sdR n < (clsN l n).length := by rw [cls_len]; exact (sd_lt n h).2
  unfold sB
  rw [List.getD_eq_getElem?_getD, List.getElem?_eq_getElem h1]; rfl
theorem cls_rs (l : List Rl) (hl : l.length ≤ 64) : ∀ n, n ≤ 6 → ∀ A ∈ clsN l n, Rs2 A
  | 0, _ => fun A hA => by
    obtain ⟨d, _, rfl⟩ := List.mem_map.1 hA
    exact setsD_rs l d hl
  | n + 1, hn => fun A hA => by
    rw [cls_succ] at hA
    rcases List.mem_append.1 hA with h | h
    · exact cls_rs l hl n (by omega) A h
    · rw [List.mem_singleton.1 h]
      exact sets_rs (cross_rs (cls_rs l hl n (by omega) _ (List.mem_of_getElem? (cls_L l (by omega)))) (cls_rs l hl n (by omega) _ (List.mem_of_getElem? (cls_R l (by omega)))))
/-- The cost, as far as n crosses. -/
def costD (l : List Rl) : Nat → Nat
  | 0 => 0
  | d + 1 => costD l d + lenD l d
def costN (l : List Rl) : Nat → Nat
  | 0 => costD l 7
  | n + 1 => costN l n + (sA l n).length * (sB l n).length
theorem cost_le (l : List Rl) : ∀ n m, n ≤ m → costN l n ≤ costN l m
  | n, 0, h => by rw [show n = 0 by omega]; exact Nat.le_refl _
  | n, m + 1, h => by
    by_cases e : n = m + 1
    · rw [e]; exact Nat.le_refl _
    · have := cost_le l n m (by omega)
      show costN l n ≤ costN l m + _
      omega
theorem costD_le (l : List Rl) : ∀ d m, d < m → lenD l d ≤ costD l m
  | d, 0, h => by omega
  | d, m + 1, h => by
    by_cases e : d = m
    · subst e; show _ ≤ costD l d + lenD l d; omega
    · have := costD_le l d m (by omega)
      show _ ≤ costD l m + lenD l m
      omega
/-- No side has more sets than the cost. -/
theorem cls_le (l : List Rl) : ∀ n, ∀ A ∈ clsN l n, A.length ≤ costN l n
  | 0 => fun A hA => by
    obtain ⟨d, hd, rfl⟩ := List.mem_map.1 hA
    have h1 := setsD_len l d
    have h2 := costD_le l d 7 (List.mem_range.1 hd)
    show _ ≤ costD l 7
    omega
  | n + 1 => fun A hA => by
    rw [cls_succ] at hA
    rcases List.mem_append.1 hA with h | h
    · have := cls_le l n A h
      have := cost_le l n (n + 1) (by omega)
      omega
    · rw [List.mem_singleton.1 h]
      have h1 : (setsL (crossL (sA l n) (sB l n))).length ≤ (crossL (sA l n) (sB l n)).length := sets_len _
      rw [cross_len] at h1
      show _ ≤ costN l n + _
      omega
theorem costD_bound (l : List Rl) (hl : l.length ≤ 64) : ∀ d, costD l d ≤ d * 129
  | 0 => by simp [costD]
  | d + 1 => by
    have h1 := costD_bound l hl d
    have h2 := starts_len (spns l d)
    rw [spns, List.length_map] at h2
    show costD l d + lenD l d ≤ _
    unfold lenD
    rw [spns]
    omega
/-- The error of Compile. -/
def errT (l : List Rl) (e0 : Int) (budget : Int) : Int := if 0 ≤ budget ∧ budget ≤ 4096 then (if e0 ≠ 0 then e0 else if budget < (costN l 6 : Int) then 18 else 0) else 1
end Go.Proofs.YtcoldgpnkdallaaDoor
namespace Go.Proofs.YtcoldgpnkdallaaDoor
open Go.RowKit
set_option linter.unusedVariables false
set_option linter.unusedSimpArgs false
/-- The table of the lowest bits. -/
def debT : List Nat := [0, 1, 56, 2, 57, 49, 28, 3, 61, 58, 42, 50, 38, 29, 17, 4, 62, 47, 59, 36, 45, 43, 51, 22, 53, 39, 33, 30, 24, 18, 12, 5, 63, 55, 48, 27, 60, 41, 37, 16, 46, 35, 44, 21, 52, 32, 23, 11, 54, 26, 40, 15, 34, 20, 31, 10, 25, 14, 19, 9, 13, 8, 7, 6]
def debV : Array Value := (debT.map fun n : Nat => Value.int .u8 (n : Int)).toArray
def Deb (w : World) : Prop := CellsAt w 2 0 debV
theorem Deb.below {w w' : World} (h : Deb w) (hb : Below w.heap.size w w') : Deb w' := CellsAt.below h hb
def debI (i : Nat) : Nat := 2 ^ i * 285870213051353865 % 18446744073709551616 / 288230376151711744
theorem deb_at : ∀ i, i < 64 → debI i < 64 ∧ debT[debI i]? = some i := by decide +kernel
theorem Deb.cell {w : World} (h : Deb w) {i : Nat} (hi : i < 64) : w.cell? ⟨2, debI i, none⟩ = some (.int .u8 (i : Int)) := by
  have := h.2 (debI i) (.int .u8 (i : Int)) (by unfold debV; rw [List.getElem?_toArray, List.getElem?_map, (deb_at i hi).2]; rfl)
  rwa [Nat.zero_add] at this
theorem low_key (i : Nat) (r : List Nat) (hs : Rs (i :: r)) :
    IntKind.u64.wrap (bits BinOp.and IntKind.u64 (bitsN (i :: r) : Int) (IntKind.u64.wrap (-(bitsN (i :: r) : Int))) * 285870213051353865) / 288230376151711744 = ((debI i : Nat) : Int) := by
  have hb := bits_lt hs.2
  have h0 : bitsN (i :: r) ≠ 0 := fun e => by cases bits_zero e
  have hl := bits_low hs
  obtain ⟨x, hx⟩ : ∃ x, bitsN (i :: r) = x := ⟨_, rfl⟩
  rw [hx] at hb h0 hl ⊢
  have e1 : IntKind.u64.wrap (-(x : Int)) = ((18446744073709551616 - x : Nat) : Int) := by rw [IntKind.wrap_u64]; omega
  rw [e1, bits_and_u64_nat x _ hb (by omega), hl, IntKind.wrap_u64]
  unfold debI
  obtain ⟨y, hy⟩ : ∃ y, 2 ^ i = y := ⟨_, rfl⟩
  rw [hy]
  omega
set_option maxHeartbeats 1000000 in
theorem tz_any (i : Nat) (r : List Nat) (hs : Rs (i :: r)) (w : World) (hd : Deb w) :
    Calls Tryd.prog 55 #[.int .u64 (bitsN (i :: r) : Int)] w fun e w' => e = .returned (.int .i64 (i : Int)) ∧ Below w.heap.size w w' := by
  have hi : i < 64 := hs.2 i (by simp)
  have key := low_key i r hs
  have hc := hd.cell hi
  have hk := (deb_at i hi).1
  have h0 : ((bitsN (i :: r) : Int) == 0) = false := by
    have : bitsN (i :: r) ≠ 0 := fun e => by cases bits_zero e
    simp; omega
  obtain ⟨x, hx⟩ : ∃ x, bitsN (i :: r) = x := ⟨_, rfl⟩
  obtain ⟨y, hy⟩ : ∃ y, debI i = y := ⟨_, rfl⟩
  rw [hx] at key h0 ⊢
  rw [hy] at key hc hk
  clear hx hy hd hs
  go_enter Tryd.func55, Tryd.ntmps55
  go_wp2_with (simp only [key])
  go_ret
  exact ⟨rfl, Below.refl _ _⟩
set_option maxHeartbeats 1000000 in
theorem least_any (s : List Nat) (hs : Rs s) (w : World) (hd : Deb w) :
    Calls Tryd.prog 26 #[.int .u64 (bitsN s : Int)] w fun e w' => e = .returned (.int .i64 (firstN s)) ∧ Below w.heap.size w w' := by
  cases s with
  | nil =>
    rw [bits_nil]
    go_enter Tryd.func26, Tryd.ntmps26
    go_wp2
    go_ret
    exact ⟨rfl, Below.refl _ _⟩
  | cons i r =>
    have K : Hid _ := tz_any i r hs w hd
    have h0 : ((bitsN (i :: r) : Int) == 0) = false := by
      have : bitsN (i :: r) ≠ 0 := fun e => by cases bits_zero e
      simp; omega
    obtain ⟨x, hx⟩ : ∃ x, bitsN (i :: r) = x := ⟨_, rfl⟩
    rw [hx] at K h0 ⊢
    show Calls _ _ _ _ fun e w' => e = .returned (.int .i64 (i : Int)) ∧ Below w.heap.size w w'
    clear hx hd hs
    go_enter Tryd.func26, Tryd.ntmps26
    go_wp2_with fail
    refine Calls.mono K.out ?_
    rintro e w' ⟨rfl, b⟩
    go_wp2
    go_ret
    exact ⟨rfl, b⟩
set_option maxRecDepth 100000 in
set_option maxHeartbeats 4000000 in
theorem places_any (s : List Nat) (hs : Rs s) (w : World) (hd : Deb w) :
    Calls Tryd.prog 54 #[.int .u64 (bitsN s : Int)] w fun e w' => ∃ a c, e = .returned (.slice a s.length c) ∧ OwnI w' w.heap.size a c s ∧ Below w.heap.size w w' := by
  have hlen : s.length ≤ 64 := rs_len hs
  have HD : Hid (Deb w) := hd
  have HS : Hid (Rs s) := hs
  have KL : Hid (∀ t, Rs t → ∀ W, Deb W → Calls Tryd.prog 26 #[.int .u64 (bitsN t : Int)] W fun e w' => e = .returned (.int .i64 (firstN t)) ∧ Below W.heap.size W w') := fun t ht W hW => least_any t ht W hW
  obtain ⟨N, hN⟩ : ∃ N, s.length = N := ⟨_, rfl⟩
  have HN : Hid (s.length = N) := hN
  rw [hN] at hlen ⊢
  obtain ⟨X, hX⟩ : ∃ X, bitsN s = X := ⟨_, rfl⟩
  have HX : Hid (bitsN s = X) := hX
  rw [hX]
  clear hX hN hd hs
  go_enter Tryd.func54, Tryd.ntmps54
  go_wp2_with fail
  go_loopw [0, 3] (fun x li wr => ∃ (n : Nat) (a : Option Addr) (c : Nat), n ≤ N ∧ x = .int .u64 (bitsN (s.drop n) : Int) ∧ li = .slice a n c ∧ Hid (OwnI wr w.heap.size a c (s.take n)) ∧ Below w.heap.size w wr) (fun x _ _ => (intOf x).toNat)
  case atStart => exact ⟨0, none, 0, Nat.zero_le _, by rw [List.drop_zero, HX.out], rfl, OwnI.nil _ _, Below.refl _ _⟩
  case round =>
    obtain ⟨n, a, c, hn, rfl, rfl, HO, bw⟩ := hrel
    by_cases hlt : n < N
    · obtain ⟨i, hi⟩ : ∃ i, s[n]? = some i := ⟨_, List.getElem?_eq_getElem (by rw [HN.out]; exact hlt)⟩
      have hdrop : s.drop n = i :: s.drop (n + 1) := by
        obtain ⟨h1, h2⟩ := List.getElem?_eq_some_iff.1 hi
        rw [List.drop_eq_getElem_cons h1, h2]
      have htake : s.take (n + 1) = s.take n ++ [i] := by rw [List.take_add_one, hi]; rfl
      have hT : Rs (i :: s.drop (n + 1)) := by
        rw [← hdrop]
        exact ⟨HS.out.1.sublist (List.drop_sublist n s), fun j hj => HS.out.2 j (List.mem_of_mem_drop hj)⟩
      have htl := bits_tail hT.1
      have hlt64 := bits_lt hT.2
      have hne : bitsN (i :: s.drop (n + 1)) ≠ 0 := fun e => by cases bits_zero e
      have K : Hid (Calls Tryd.prog 26 #[.int .u64 (bitsN (i :: s.drop (n + 1)) : Int)] wr fun e w' => e = .returned (.int .i64 (i : Int)) ∧ Below wr.heap.size wr w') := KL.out _ hT wr (HD.out.below bw)
      have hdec : bitsN (s.drop (n + 1)) < bitsN (i :: s.drop (n + 1)) := by
        obtain ⟨z, h1, h2⟩ := bits_cons hT.1
        have := Nat.two_pow_pos i
        omega
      rw [hdrop]
      obtain ⟨X', hX'⟩ : ∃ X', bitsN (i :: s.drop (n + 1)) = X' := ⟨_, rfl⟩
      obtain ⟨Y, hY⟩ : ∃ Y, bitsN (s.drop (n + 1)) = Y := ⟨_, rfl⟩
      have HY : Hid (bitsN (s.drop (n + 1)) = Y) := hY
      rw [hX', hY] at htl hdec
      rw [hX'] at hlt64 hne K ⊢
      have h0 : ((X' : Int) == 0) = false := by simp; omega
      have h0' : ((X' : Int) != 0) = true := by simp; omega
      have hx1 : (1 : Int) ≤ (X' : Int) := by omega
      have hx2 : (X' : Int) ≤ 18446744073709551615 := by omega
      have hwr : IntKind.u64.wrap ((X' : Int) - 1) = (X' : Int) - 1 := by rw [IntKind.wrap_u64]; omega
      have hand : bits BinOp.and IntKind.u64 (X' : Int) ((X' : Int) - 1) = (Y : Int) := by
        rw [show (X' : Int) - 1 = ((X' - 1 : Nat) : Int) by omega, bits_and_u64_nat X' _ hlt64 (by omega), htl]
      have HTK : Hid (s.take (n + 1) = s.take n ++ [i]) := htake
      have HDC : Hid (Y < X') := hdec
      have hlen' : (s.take n).length = n := by rw [List.length_take, HN.out]; omega
      have HLN : Hid ((s.take n).length = n) := hlen'
      clear hX' hY htl hdec hdrop htake hi hT hlen' hne
      go_wp2_with fail
      refine Calls.mono K.out ?_
      rintro e W2 ⟨rfl, b2⟩
      have bw2 := bel_tr bw b2
      obtain ⟨W3, hW3⟩ : ∃ W3, W2.alloc (.cells #[.int .i64 (i : Int)] 3) = W3 := ⟨_, rfl⟩
      have b23 := bel_nw hW3
      have bw3 := bel_tr bw2 b23
      obtain ⟨g, c', W4, hrun, ho, hg, hat, hb⟩ := run_appI1 W3 25 w.heap.size a c (s.take n) (HO.out.below (bel_tr b2 b23)) W2.heap.size 1 i 3 (blk_nw hW3) (by rw [HLN.out]; omega) bw3.size
      rw [HLN.out] at hrun
      rw [← HTK.out] at ho
      have HO4 : Hid (OwnI W4 w.heap.size (some ⟨g, 0, none⟩) c' (s.take (n + 1))) := ho
      have bw4 : Below w.heap.size w W4 := bw3.trans hb
      have HR : Hid _ := hrun
      clear ho hg hat hb hrun bw2 bw3 b2 b23 K
      go_wp2_with (refine wpList_rn rfl 25 _ _ rfl _ _ rfl rfl _ _ HR.out ?_)
      exact ⟨⟨n + 1, some ⟨g, 0, none⟩, c', by omega, by rw [HY.out], rfl, HO4, bw4⟩, by simp only [intOf]; have := HDC.out; omega⟩
    · have hn' : n = N := by omega
      have hz : s.drop n = [] := List.drop_eq_nil_of_le (by rw [HN.out]; omega)
      have ht : s.take n = s := List.take_of_length_le (by rw [HN.out]; omega)
      rw [hz, bits_nil]
      have HO' : Hid (OwnI wr w.heap.size a c s) := by have := HO.out; rw [ht] at this; exact this
      subst hn'
      clear hz ht HO
      go_wp2
      go_ret
      exact ⟨a, c, rfl, HO'.out, bw⟩
end Go.Proofs.YtcoldgpnkdallaaDoor
