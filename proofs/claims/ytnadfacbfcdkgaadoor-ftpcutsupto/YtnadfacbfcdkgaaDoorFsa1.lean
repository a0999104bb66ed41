/- Texts joined: Num -/
import Derived.Test.YtnadfacbfcdkgaaDoorFsa0
import Derived.Test.YtnadfacbfcdkgaaDoorRows
import Derived.WalkKit
import Derived.Laws.BitsAllLaws
import Derived.Laws.BitsLemmas
import Derived.Laws.Runes
import Derived.Laws.RangeString
import Derived.Laws.RangeAny
import Derived.LoopTactic
namespace Go.Proofs.YtnadfacbfcdkgaaDoor
open Go.RowKit
set_option linter.unusedVariables false
set_option linter.unusedSimpArgs false
/-- The digits of a number of at most most; later: a digit stands ahead. -/
def numGo (most : Nat) : List UInt8 → Nat → Bool → Option Nat
  | [], n, _ => some n
  | c :: cs, n, later =>
    if c.toNat < 48 ∨ 57 < c.toNat ∨ (later = true ∧ n = 0) then none
    else if most < n * 10 + (c.toNat - 48) then none
    else numGo most cs (n * 10 + (c.toNat - 48)) true
/-- What the program answers: the number, and whether there is one. -/
def tell (o : Option Nat) : Int × Bool := match o with | some n => ((n : Int), true) | none => (0, false)
def num (most : Nat) (s : List UInt8) : Int × Bool := if s = [] then (0, false) else tell (numGo most s 0 false)
def hexv (c : Nat) : Option Nat := if 48 ≤ c ∧ c ≤ 57 then some (c - 48) else if 97 ≤ c ∧ c ≤ 102 then some (c - 87) else if 65 ≤ c ∧ c ≤ 70 then some (c - 55) else none
def hexGo : List UInt8 → Nat → Nat → Option Nat
  | [], _, n => some n
  | c :: cs, i, n => match hexv c.toNat with
    | none => none
    | some d => if 4 ≤ i then none else hexGo cs (i + 1) (n * 16 + d)
def grp (s : List UInt8) : Int × Bool := if s = [] then (0, false) else tell (hexGo s 0 0)
theorem two_int {a b : Int} {c d : Bool} (h : a = b) (h' : c = d) : Ending.returned (.tuple #[.int .i64 a, .bool c]) = .returned (.tuple #[.int .i64 b, .bool d]) := by rw [h, h']
theorem hexDigit_any (r : Nat) (w : World) (hr : r ≤ 2147483647) :
    Calls Tryd.prog 70 #[.int .i32 r] w fun e w' => e = .returned (.tuple #[.int .i64 (tell (hexv r)).1, .bool (tell (hexv r)).2]) ∧ w' = w := by
  obtain ⟨T, hT⟩ : ∃ T, tell (hexv r) = T := ⟨_, rfl⟩
  rw [hT]
  have HT : Hid (tell (hexv r) = T) := hT
  clear hT
  go_enter Tryd.func70, Tryd.ntmps70
  by_cases h1 : 48 ≤ r ∧ r ≤ 57
  · obtain ⟨h1, h2⟩ := h1
    go_wp2
    go_ret2
    refine ⟨?_, rfl⟩
    rw [← HT.out, hexv, if_pos ⟨h1, h2⟩]
    exact two_int (by simp [tell]; omega) rfl
  · by_cases h3 : 97 ≤ r ∧ r ≤ 102
    · obtain ⟨h3, h4⟩ := h3
      have h1' : 57 < r := by omega
      go_wp2
      go_ret2
      refine ⟨?_, rfl⟩
      rw [← HT.out, hexv, if_neg h1, if_pos ⟨h3, h4⟩]
      exact two_int (by simp [tell]; omega) rfl
    · by_cases h5 : 65 ≤ r ∧ r ≤ 70
      · obtain ⟨h5, h6⟩ := h5
        have h1' : 57 < r := by omega
        have h3' : r < 97 := by omega
        go_wp2
        go_ret2
        refine ⟨?_, rfl⟩
        rw [← HT.out, hexv, if_neg h1, if_neg h3, if_pos ⟨h5, h6⟩]
        exact two_int (by simp [tell]; omega) rfl
      · have e : hexv r = none := by unfold hexv; rw [if_neg h1, if_neg h3, if_neg h5]
        rw [e] at HT
        clear e
        rcases (by omega : r < 48 ∨ (57 < r ∧ r < 65) ∨ (70 < r ∧ r < 97) ∨ 102 < r) with h | ⟨h, h'⟩ | ⟨h, h'⟩ | h
        all_goals clear h1 h3 h5
        all_goals go_wp2
        all_goals go_ret2
        all_goals (refine ⟨?_, rfl⟩; rw [← HT.out]; rfl)
theorem drop_cons (s : ByteArray) (p : Nat) (h : p < s.size) : s.data.toList.drop p = s[p] :: s.data.toList.drop (p + 1) := by
  rw [List.drop_eq_getElem_cons (by simpa using h)]; rfl
theorem drop_end (s : ByteArray) (p : Nat) (h : ¬ p < s.size) : s.data.toList.drop p = [] := by
  rw [List.drop_eq_nil_iff]; simpa using h
set_option maxHeartbeats 1000000 in
theorem number_any (s : ByteArray) (most : Nat) (w : World) (hs : s.size ≤ 9223372036854775807) (hmost : most ≤ 1000) :
    Calls Tryd.prog 58 #[.string s, .int .i64 most] w fun e w' => e = .returned (.tuple #[.int .i64 (num most s.data.toList).1, .bool (num most s.data.toList).2]) ∧ Below w.heap.size w w' := by
  obtain ⟨R, hR⟩ : ∃ R, num most s.data.toList = R := ⟨_, rfl⟩
  rw [hR]
  have HR : Hid (num most s.data.toList = R) := hR
  clear hR
  obtain ⟨T, hT⟩ : ∃ T, tell (numGo most s.data.toList 0 false) = T := ⟨_, rfl⟩
  have HT : Hid (tell (numGo most s.data.toList 0 false) = T) := hT
  clear hT
  have bel : ∀ p, Below w.heap.size w (w.iter s p) := fun p => (Below.refl _ _).alloc (Nat.le_refl _) _
  have fall : 0 < s.size → T = (0, false) → R = (0, false) := fun h0 e => by
    rw [← HR.out, num, if_neg (by intro e; have h1 : s.data.toList.length = s.size := Array.length_toList; rw [e] at h1; simp at h1; omega), HT.out, e]
  go_enter Tryd.func58, Tryd.ntmps58
  go_wp2
  go_loopw [6] (fun n w' => ∃ p k : Nat, w' = w.iter s p ∧ p ≤ s.size ∧ n = .int .i64 k ∧ k ≤ most ∧ Hid (tell (numGo most (s.data.toList.drop p) k (decide (0 < p))) = T)) (fun _ w' => s.size - w'.iterPos w.heap.size)
  case atStart => exact ⟨0, 0, rfl, Nat.zero_le _, rfl, Nat.zero_le _, HT⟩
  case round =>
    obtain ⟨p, k, rfl, hp, rfl, hk, hr⟩ := hrel
    by_cases hlt : p < s.size
    · have f := fall (by omega)
      clear fall
      have hr1 := hr.out
      rw [drop_cons s p hlt] at hr1
      obtain ⟨c, hc⟩ : ∃ c, (s[p]'hlt).toNat = c := ⟨_, rfl⟩
      have hc8 : c < 256 := by rw [← hc]; exact (s[p]'hlt).toNat_lt
      unfold numGo at hr1
      rw [hc] at hr1
      have HQ : Hid (tell (if c < 48 ∨ 57 < c ∨ (decide (0 < p) = true ∧ k = 0) then none else if most < k * 10 + (c - 48) then none else numGo most (s.data.toList.drop (p + 1)) (k * 10 + (c - 48)) true) = T) := hr1
      clear hr hr1
      by_cases ha : c < 128
      · have hnx : ∀ ty, (Instr.next (.pointer (some ⟨w.heap.size, 0, none⟩)) true ty).run Tryd.prog (w.iter s p) = .ok (.tuple #[.bool true, .int .i64 p, .int .i32 c]) (w.iter s (p + 1)) := fun ty => by rw [← hc]; exact run_next_ascii w s p ty hlt (by omega)
        clear hc
        by_cases hd : 48 ≤ c ∧ c ≤ 57
        · obtain ⟨hd0, hd1⟩ := hd
          have n1 : decide ((c : Int) < 48) = false := by simp; omega
          have n2 : decide (57 < (c : Int)) = false := by simp; omega
          by_cases hz : 0 < p ∧ k = 0
          · obtain ⟨hz0, rfl⟩ := hz
            have e := f (by rw [← HQ.out, if_pos (.inr (.inr ⟨by simpa using hz0, rfl⟩))]; rfl)
            subst e
            clear f HQ
            go_wp2
            go_ret2
            exact ⟨rfl, bel _⟩
          · by_cases hm : most < k * 10 + (c - 48)
            · have e := f (by rw [← HQ.out, if_neg (by simp; omega), if_pos hm]; rfl)
              subst e
              clear f HQ
              have hm' : (most : Int) < (k : Int) * 10 + ((c : Int) - 48) := by omega
              by_cases hz1 : 0 < p
              · have hk0 : ¬ k = 0 := by omega
                go_wp2
                go_ret2
                exact ⟨rfl, bel _⟩
              · have hp0 : p = 0 := by omega
                subst hp0
                go_wp2
                go_ret2
                exact ⟨rfl, bel _⟩
            · have hq : Hid (tell (numGo most (s.data.toList.drop (p + 1)) (k * 10 + (c - 48)) true) = T) := by
                have := HQ.out
                rw [if_neg (by simp; omega), if_neg hm] at this
                exact this
              clear HQ f
              have hm' : ¬ (most : Int) < (k : Int) * 10 + ((c : Int) - 48) := by omega
              by_cases hz1 : 0 < p
              · have hk0 : ¬ k = 0 := by omega
                go_wp2
                exact ⟨⟨p + 1, k * 10 + (c - 48), rfl, by omega, int_eq (by omega), by omega, by simpa using hq⟩, by simp; omega⟩
              · have hp0 : p = 0 := by omega
                subst hp0
                go_wp2
                exact ⟨⟨0 + 1, k * 10 + (c - 48), rfl, by omega, int_eq (by omega), by omega, by simpa using hq⟩, by simp; omega⟩
        · have e := f (by rw [← HQ.out, if_pos (by omega)]; rfl)
          subst e
          clear f HQ
          by_cases hd0 : c < 48
          · go_wp2
            go_ret2
            exact ⟨rfl, bel _⟩
          · have hd1 : 57 < c := by omega
            go_wp2
            go_ret2
            exact ⟨rfl, bel _⟩
      · have e := f (by rw [← HQ.out, if_pos (by omega)]; rfl)
        subst e
        clear f HQ
        have hh := decode_high s p hlt (by omega)
        have hle := decode_le s p
        have hnx : ∀ ty, (Instr.next (.pointer (some ⟨w.heap.size, 0, none⟩)) true ty).run Tryd.prog (w.iter s p) = _ := fun ty => run_next_any w s p ty hlt
        generalize Utf8.decode s p = rr at *
        obtain ⟨r, q⟩ := rr
        simp only at hnx hh hle
        have h57 : 57 < r := by omega
        go_wp2
        go_ret2
        exact ⟨rfl, bel _⟩
    · have hnx : ∀ ty, (Instr.next (.pointer (some ⟨w.heap.size, 0, none⟩)) true ty).run Tryd.prog (w.iter s p) = _ := fun ty => run_next_end w s p ty hlt
      have e1 : T = ((k : Int), true) := by
        rw [← hr.out, drop_end s p hlt]; rfl
      go_wp2
      go_ret2
      refine ⟨?_, bel _⟩
      show Ending.returned (.tuple #[.int .i64 k, .bool (!s.toList.isEmpty)]) = _
      refine two_int ?_ ?_
      · rw [← HR.out, num]
        split
        · next h => rw [← HT.out, h] at e1; simp [numGo, tell] at e1; omega
        · rw [HT.out, e1]
      · rw [ByteArray.toList_eq, ← HR.out, num]
        split
        · next h => rw [h]; rfl
        · next h => rw [HT.out, e1]; cases hh : s.data.toList with
          | nil => exact absurd hh h
          | cons _ _ => rfl
theorem or_digit (n d : Nat) (hn : n ≤ 4095) (hd : d ≤ 15) : bits .or .i64 ((n : Int) * 16) d = ((n * 16 + d : Nat) : Int) := by
  rw [bits_join .i64 63 (by decide) wraps_i64 4 ((n : Int) * 16) d (by omega) (by omega) (by omega) (by omega) (by omega) (by omega)]; omega
theorem hexv_le {c d : Nat} (h : hexv c = some d) : d ≤ 15 := by
  unfold hexv at h
  split at h
  · simp at h; omega
  · split at h
    · simp at h; omega
    · split at h
      · simp at h; omega
      · cases h
set_option maxHeartbeats 1000000 in
theorem group_any (s : ByteArray) (w : World) (hs : s.size ≤ 9223372036854775807) :
    Calls Tryd.prog 64 #[.string s] w fun e w' => e = .returned (.tuple #[.int .i64 (grp s.data.toList).1, .bool (grp s.data.toList).2]) ∧ Below w.heap.size w w' := by
  obtain ⟨R, hR⟩ : ∃ R, grp s.data.toList = R := ⟨_, rfl⟩
  rw [hR]
  have HR : Hid (grp s.data.toList = R) := hR
  clear hR
  obtain ⟨T, hT⟩ : ∃ T, tell (hexGo s.data.toList 0 0) = T := ⟨_, rfl⟩
  have HT : Hid (tell (hexGo s.data.toList 0 0) = T) := hT
  clear hT
  have bel : ∀ p, Below w.heap.size w (w.iter s p) := fun p => (Below.refl _ _).alloc (Nat.le_refl _) _
  have fall : 0 < s.size → T = (0, false) → R = (0, false) := fun h0 e => by
    rw [← HR.out, grp, if_neg (by intro e; have h1 : s.data.toList.length = s.size := Array.length_toList; rw [e] at h1; simp at h1; omega), HT.out, e]
  go_enter Tryd.func64, Tryd.ntmps64
  go_wp2
  go_loopw [4] (fun n w' => ∃ p k : Nat, w' = w.iter s p ∧ p ≤ s.size ∧ n = .int .i64 k ∧ p ≤ 4 ∧ k < 16 ^ p ∧ Hid (tell (hexGo (s.data.toList.drop p) p k) = T)) (fun _ w' => s.size - w'.iterPos w.heap.size)
  case atStart => exact ⟨0, 0, rfl, Nat.zero_le _, rfl, Nat.zero_le _, by decide, HT⟩
  case round =>
    obtain ⟨p, k, rfl, hp, rfl, hp4, hk, hr⟩ := hrel
    have hk4 : k < 65536 := Nat.lt_of_lt_of_le hk (Nat.pow_le_pow_right (n := 16) (by decide) hp4)
    by_cases hlt : p < s.size
    · have f := fall (by omega)
      clear fall
      have hr1 := hr.out
      rw [drop_cons s p hlt] at hr1
      obtain ⟨c, hc⟩ : ∃ c, (s[p]'hlt).toNat = c := ⟨_, rfl⟩
      have hc8 : c < 256 := by rw [← hc]; exact (s[p]'hlt).toNat_lt
      unfold hexGo at hr1
      rw [hc] at hr1
      have HQ : Hid (tell (match hexv c with | none => none | some d => if 4 ≤ p then none else hexGo (s.data.toList.drop (p + 1)) (p + 1) (k * 16 + d)) = T) := hr1
      clear hr hr1
      by_cases ha : c < 128
      · have hnx : ∀ ty, (Instr.next (.pointer (some ⟨w.heap.size, 0, none⟩)) true ty).run Tryd.prog (w.iter s p) = .ok (.tuple #[.bool true, .int .i64 p, .int .i32 c]) (w.iter s (p + 1)) := fun ty => by rw [← hc]; exact run_next_ascii w s p ty hlt (by omega)
        clear hc
        have hx := fun w => hexDigit_any c w (by omega)
        cases hv : hexv c with
        | none =>
          have e := f (by rw [← HQ.out, hv]; rfl)
          subst e
          clear f HQ
          rw [hv] at hx
          simp only [tell] at hx
          go_wp2_with (go_at_call 70; refine (hx _).mono ?_; rintro e w' ⟨rfl, rfl⟩)
          go_ret2
          exact ⟨rfl, bel _⟩
        | some d =>
          have hd := hexv_le hv
          rw [hv] at hx
          simp only [tell] at hx
          by_cases h4 : 4 ≤ p
          · have e := f (by rw [← HQ.out, hv]; simp only [if_pos h4]; rfl)
            subst e
            clear f HQ
            go_wp2_with (go_at_call 70; refine (hx _).mono ?_; rintro e w' ⟨rfl, rfl⟩)
            go_ret2
            exact ⟨rfl, bel _⟩
          · have hq : Hid (tell (hexGo (s.data.toList.drop (p + 1)) (p + 1) (k * 16 + d)) = T) := by
              have := HQ.out
              rw [hv] at this
              simp only [if_neg h4] at this
              exact this
            clear HQ f
            have hk3 : k < 4096 := Nat.lt_of_lt_of_le hk (Nat.pow_le_pow_right (n := 16) (j := 3) (by decide) (by omega))
            have ho := or_digit k d (by omega) hd
            have hkn : k * 16 + d < 16 ^ (p + 1) := by rw [Nat.pow_succ]; omega
            go_wp2_with (go_at_call 70; refine (hx _).mono ?_; rintro e w' ⟨rfl, rfl⟩)
            exact ⟨⟨p + 1, k * 16 + d, rfl, by omega, int_eq (by omega), by omega, hkn, hq⟩, by simp; omega⟩
      · have hcn : hexv c = none := by unfold hexv; rw [if_neg (by omega), if_neg (by omega), if_neg (by omega)]
        have e := f (by rw [← HQ.out, hcn]; rfl)
        subst e
        clear f HQ hcn
        have hh := decode_high s p hlt (by omega)
        have hle := decode_le s p
        have hnx : ∀ ty, (Instr.next (.pointer (some ⟨w.heap.size, 0, none⟩)) true ty).run Tryd.prog (w.iter s p) = _ := fun ty => run_next_any w s p ty hlt
        generalize Utf8.decode s p = rr at *
        obtain ⟨r, q⟩ := rr
        simp only at hnx hh hle
        have hrn : hexv r = none := by unfold hexv; rw [if_neg (by omega), if_neg (by omega), if_neg (by omega)]
        have hx := fun w => hexDigit_any r w hle
        rw [hrn] at hx
        simp only [tell] at hx
        go_wp2_with (go_at_call 70; refine (hx _).mono ?_; rintro e w' ⟨rfl, rfl⟩)
        go_ret2
        exact ⟨rfl, bel _⟩
    · have hnx : ∀ ty, (Instr.next (.pointer (some ⟨w.heap.size, 0, none⟩)) true ty).run Tryd.prog (w.iter s p) = _ := fun ty => run_next_end w s p ty hlt
      have e1 : T = ((k : Int), true) := by
        rw [← hr.out, drop_end s p hlt]; rfl
      go_wp2
      go_ret2
      refine ⟨?_, bel _⟩
      show Ending.returned (.tuple #[.int .i64 k, .bool (!s.toList.isEmpty)]) = _
      refine two_int ?_ ?_
      · rw [← HR.out, grp]
        split
        · next h => rw [← HT.out, h] at e1; simp [hexGo, tell] at e1; omega
        · rw [HT.out, e1]
      · rw [ByteArray.toList_eq, ← HR.out, grp]
        split
        · next h => rw [h]; rfl
        · next h => rw [HT.out, e1]; cases hh : s.data.toList with
          | nil => exact absurd hh h
          | cons _ _ => rfl
end Go.Proofs.YtnadfacbfcdkgaaDoor
