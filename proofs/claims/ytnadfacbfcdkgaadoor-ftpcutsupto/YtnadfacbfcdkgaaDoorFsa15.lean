/- Texts joined: AtC -/
import Derived.Test.YtnadfacbfcdkgaaDoorFsa9
namespace Go.Proofs.YtnadfacbfcdkgaaDoor
open Go.RowKit
set_option linter.unusedVariables false
set_option linter.unusedSimpArgs false
theorem empty_of_size {s : ByteArray} (h : s.size = 0) : s = ByteArray.empty := by
  cases s with
  | mk d => cases d with
    | mk l =>
      have : l.length = 0 := h
      have := List.eq_nil_of_length_eq_zero this
      subst this
      rfl
theorem nonempty_list {s : ByteArray} (h : ¬ s.size = 0) : s.toList.isEmpty = false := by
  rw [ByteArray.toList_eq]
  cases hh : s.data.toList with
  | nil => have h1 : s.data.toList.length = s.size := Array.length_toList; rw [hh] at h1; simp at h1; omega
  | cons _ _ => rfl
theorem head_of {s : ByteArray} (h : 0 < s.size) : s.data.toList.head? = some (s[0]'h) := by
  have := drop_cons s 0 h
  rw [List.drop_zero] at this
  rw [this]
  rfl
set_option maxRecDepth 100000 in
set_option maxHeartbeats 2000000 in
theorem rnum10_any (s : ByteArray) (most : Nat) (w : World) (hs : s.size ≤ 9223372036854775807) (h15 : 15 ≤ most) (hM : most ≤ 1099511627776) :
    Calls Tryd.prog 35 #[.string s, .int .i64 10, .int .i64 most] w fun e w' => e = .returned (.tuple #[.int .i64 (rnum 10 most s.data.toList).1, .bool (rnum 10 most s.data.toList).2]) ∧ w' = w := by
  obtain ⟨R, hR⟩ : ∃ R, rnum 10 most s.data.toList = R := ⟨_, rfl⟩
  rw [hR]
  have e1 : s.data.toList.length = s.size := Array.length_toList
  by_cases h0 : s.size = 0
  · have := empty_of_size h0
    subst this
    obtain rfl : R = (0, false) := by rw [← hR]; rfl
    clear hR
    go_enter Tryd.func35, Tryd.ntmps35
    go_wp2
    go_ret2
    exact ⟨rfl, rfl⟩
  have he := nonempty_list h0
  have hpos : 0 < s.size := by omega
  have hne : ¬ s.data.toList = [] := fun e => by rw [e] at e1; simp at e1; omega
  rw [rnum] at hR
  by_cases hz : 1 < s.size ∧ (s[0]'hpos).toNat = 48
  · obtain ⟨hz1, hz2⟩ := hz
    obtain rfl : R = (0, false) := by
      rw [← hR, if_pos (.inr ⟨rfl, by omega, by rw [head_of hpos]; exact congrArg some (UInt8.toNat_inj.1 (by rw [hz2]; rfl))⟩)]
    clear hR
    have hix : (Instr.index 9 (.string s) (.int .i64 0)).run Tryd.prog w = .ok (.int .u8 48) w := by
      rw [run_index_string (P := Tryd.prog) w 9 s .i64 0 (by kernel_rfl), dif_pos (by omega)]
      have e3 : (s[(0 : Int).toNat]'(by simpa using hpos)).toNat = 48 := hz2
      rw [e3]
      rfl
    go_enter Tryd.func35, Tryd.ntmps35
    go_wp2
    go_ret2
    exact ⟨rfl, rfl⟩
  · have hno : ¬ (s.data.toList = [] ∨ (10 = 10 ∧ 1 < s.data.toList.length ∧ s.data.toList.head? = some 48)) := by
      rintro (h | ⟨_, h, h'⟩)
      · exact hne h
      · rw [head_of hpos] at h'
        exact hz ⟨by omega, by rw [Option.some.inj h']; rfl⟩
    rw [if_neg hno] at hR
    obtain ⟨c0, hc0⟩ : ∃ c0, (s[0]'hpos).toNat = c0 := ⟨_, rfl⟩
    rw [hc0] at hz
    have hix0 : (Instr.index 9 (.string s) (.int .i64 0)).run Tryd.prog w = .ok (.int .u8 (c0 : Int)) w := by
      rw [run_index_string (P := Tryd.prog) w 9 s .i64 0 (by kernel_rfl), dif_pos (by omega)]
      have e3 : (s[(0 : Int).toNat]'(by simpa using hpos)).toNat = c0 := hc0
      rw [e3]
    clear hc0 hno
    go_enter Tryd.func35, Tryd.ntmps35
    by_cases hz1 : 1 < s.size
    · have hz2 : ¬ c0 = 48 := fun e => hz ⟨hz1, e⟩
      have hz3 : ((c0 : Int) == 48) = false := by simp; omega
      have hz4 : (1 : Int) < (s.size : Int) := by omega
      clear hz hz2
      have HR : Hid (tell (rnumGo 10 most s.data.toList 0) = R) := hR
      clear hR hne e1 hpos h0
      go_wp2
      go_loopw [8, 9] (fun n i w' => ∃ p k : Nat, w' = w ∧ p ≤ s.size ∧ n = .int .i64 k ∧ i = .int .i64 p ∧ k ≤ most ∧ Hid (tell (rnumGo 10 most (s.data.toList.drop p) k) = R)) (fun _ i _ => s.size - (intOf i).toNat)
      case atStart => exact ⟨0, 0, rfl, Nat.zero_le _, rfl, rfl, Nat.zero_le _, HR⟩
      case round =>
        obtain ⟨p, k, rfl, hp, rfl, rfl, hk, hr⟩ := hrel
        by_cases hlt : p < s.size
        · have hr1 := hr.out
          rw [drop_cons s p hlt] at hr1
          obtain ⟨c, hc⟩ : ∃ c, (s[p]'hlt).toNat = c := ⟨_, rfl⟩
          have hc8 : c < 256 := by rw [← hc]; exact (s[p]'hlt).toNat_lt
          unfold rnumGo at hr1
          rw [hc] at hr1
          have HQ : Hid (tell (match hexv c with | none => none | some d => if 10 ≤ d ∨ (most - d) / 10 < k then none else rnumGo 10 most (s.data.toList.drop (p + 1)) (k * 10 + d)) = R) := hr1
          clear hr hr1 HR
          have ilt : (p : Int) < (s.size : Int) := by omega
          have hix : (Instr.index 9 (.string s) (.int .i64 (p : Int))).run Tryd.prog wr = .ok (.int .u8 (c : Int)) wr := by
            rw [run_index_string (P := Tryd.prog) wr 9 s .i64 p (by kernel_rfl), dif_pos (by omega)]
            simp only [Int.toNat_natCast, hc]
          clear hc
          by_cases h1 : 48 ≤ c ∧ c ≤ 57
          · obtain ⟨h1, h2⟩ := h1
            have hv : hexv c = some (c - 48) := by unfold hexv; rw [if_pos ⟨h1, h2⟩]
            rw [hv] at HQ
            simp only at HQ
            have hq : ((most : Int) - ((c : Int) - 48)).tdiv 10 = (((most - (c - 48)) / 10 : Nat) : Int) := by
              rw [show (most : Int) - ((c : Int) - 48) = ((most - (c - 48) : Nat) : Int) by omega]
              rfl
            obtain ⟨q, hqq⟩ : ∃ q, (most - (c - 48)) / 10 = q := ⟨_, rfl⟩
            rw [hqq] at hq HQ
            have hqb : q * 10 + (c - 48) ≤ most := by omega
            by_cases hn : q < k
            · obtain rfl : R = (0, false) := by rw [← HQ.out, if_pos (by omega)]; rfl
              clear HQ hv hqq
              go_wp2
              go_ret2
              exact ⟨rfl, rfl⟩
            · have hq2 : Hid (tell (rnumGo 10 most (s.data.toList.drop (p + 1)) (k * 10 + (c - 48))) = R) := by
                have := HQ.out
                rw [if_neg (by omega)] at this
                exact this
              have hk2 : k * 10 + (c - 48) ≤ most := by omega
              clear HQ hv hqq
              go_wp2
              exact ⟨⟨p + 1, k * 10 + (c - 48), by first | rfl | trivial, by omega, int_eq (by omega), int_eq (by omega), hk2, hq2⟩, by simp [intOf]; omega⟩
          · by_cases h3 : 97 ≤ c ∧ c ≤ 102
            · obtain ⟨h3, h4⟩ := h3
              have h1n : 57 < c := by omega
              have hv : hexv c = some (c - 87) := by unfold hexv; rw [if_neg (by omega), if_pos ⟨h3, h4⟩]
              rw [hv] at HQ
              simp only at HQ
              obtain rfl : R = (0, false) := by rw [← HQ.out, if_pos (by omega)]; rfl
              clear HQ hv
              go_wp2
              go_ret2
              exact ⟨rfl, rfl⟩
            · by_cases h5 : 65 ≤ c ∧ c ≤ 70
              · obtain ⟨h5, h6⟩ := h5
                have h1n : 57 < c := by omega
                have h3n : c < 97 := by omega
                have hv : hexv c = some (c - 55) := by unfold hexv; rw [if_neg (by omega), if_neg (by omega), if_pos ⟨h5, h6⟩]
                rw [hv] at HQ
                simp only at HQ
                obtain rfl : R = (0, false) := by rw [← HQ.out, if_pos (by omega)]; rfl
                clear HQ hv
                go_wp2
                go_ret2
                exact ⟨rfl, rfl⟩
              · have hv : hexv c = none := by unfold hexv; rw [if_neg h1, if_neg h3, if_neg h5]
                rw [hv] at HQ
                obtain rfl : R = (0, false) := by rw [← HQ.out]; rfl
                clear HQ hv
                rcases (by omega : c < 48 ∨ (57 < c ∧ c < 65) ∨ (70 < c ∧ c < 97) ∨ 102 < c) with h | ⟨h, h'⟩ | ⟨h, h'⟩ | h
                all_goals clear h1 h3 h5
                all_goals go_wp2
                all_goals go_ret2
                all_goals exact ⟨rfl, rfl⟩
        · have e2 : R = ((k : Int), true) := by rw [← hr.out, drop_end s p hlt]; rfl
          have ilt : ¬ (p : Int) < (s.size : Int) := by omega
          subst e2
          clear hr HR
          have hk' : (k : Int) ≤ (most : Int) := by omega
          go_wp2
          go_ret2
          exact ⟨by simp [hk'], rfl⟩
    · clear hz
      have HR : Hid (tell (rnumGo 10 most s.data.toList 0) = R) := hR
      clear hR hne e1 hpos h0
      go_wp2
      go_loopw [8, 9] (fun n i w' => ∃ p k : Nat, w' = w ∧ p ≤ s.size ∧ n = .int .i64 k ∧ i = .int .i64 p ∧ k ≤ most ∧ Hid (tell (rnumGo 10 most (s.data.toList.drop p) k) = R)) (fun _ i _ => s.size - (intOf i).toNat)
      case atStart => exact ⟨0, 0, rfl, Nat.zero_le _, rfl, rfl, Nat.zero_le _, HR⟩
      case round =>
        obtain ⟨p, k, rfl, hp, rfl, rfl, hk, hr⟩ := hrel
        by_cases hlt : p < s.size
        · have hr1 := hr.out
          rw [drop_cons s p hlt] at hr1
          obtain ⟨c, hc⟩ : ∃ c, (s[p]'hlt).toNat = c := ⟨_, rfl⟩
          have hc8 : c < 256 := by rw [← hc]; exact (s[p]'hlt).toNat_lt
          unfold rnumGo at hr1
          rw [hc] at hr1
          have HQ : Hid (tell (match hexv c with | none => none | some d => if 10 ≤ d ∨ (most - d) / 10 < k then none else rnumGo 10 most (s.data.toList.drop (p + 1)) (k * 10 + d)) = R) := hr1
          clear hr hr1 HR
          have ilt : (p : Int) < (s.size : Int) := by omega
          have hix : (Instr.index 9 (.string s) (.int .i64 (p : Int))).run Tryd.prog wr = .ok (.int .u8 (c : Int)) wr := by
            rw [run_index_string (P := Tryd.prog) wr 9 s .i64 p (by kernel_rfl), dif_pos (by omega)]
            simp only [Int.toNat_natCast, hc]
          clear hc
          by_cases h1 : 48 ≤ c ∧ c ≤ 57
          · obtain ⟨h1, h2⟩ := h1
            have hv : hexv c = some (c - 48) := by unfold hexv; rw [if_pos ⟨h1, h2⟩]
            rw [hv] at HQ
            simp only at HQ
            have hq : ((most : Int) - ((c : Int) - 48)).tdiv 10 = (((most - (c - 48)) / 10 : Nat) : Int) := by
              rw [show (most : Int) - ((c : Int) - 48) = ((most - (c - 48) : Nat) : Int) by omega]
              rfl
            obtain ⟨q, hqq⟩ : ∃ q, (most - (c - 48)) / 10 = q := ⟨_, rfl⟩
            rw [hqq] at hq HQ
            have hqb : q * 10 + (c - 48) ≤ most := by omega
            by_cases hn : q < k
            · obtain rfl : R = (0, false) := by rw [← HQ.out, if_pos (by omega)]; rfl
              clear HQ hv hqq
              go_wp2
              go_ret2
              exact ⟨rfl, rfl⟩
            · have hq2 : Hid (tell (rnumGo 10 most (s.data.toList.drop (p + 1)) (k * 10 + (c - 48))) = R) := by
                have := HQ.out
                rw [if_neg (by omega)] at this
                exact this
              have hk2 : k * 10 + (c - 48) ≤ most := by omega
              clear HQ hv hqq
              go_wp2
              exact ⟨⟨p + 1, k * 10 + (c - 48), by first | rfl | trivial, by omega, int_eq (by omega), int_eq (by omega), hk2, hq2⟩, by simp [intOf]; omega⟩
          · by_cases h3 : 97 ≤ c ∧ c ≤ 102
            · obtain ⟨h3, h4⟩ := h3
              have h1n : 57 < c := by omega
              have hv : hexv c = some (c - 87) := by unfold hexv; rw [if_neg (by omega), if_pos ⟨h3, h4⟩]
              rw [hv] at HQ
              simp only at HQ
              obtain rfl : R = (0, false) := by rw [← HQ.out, if_pos (by omega)]; rfl
              clear HQ hv
              go_wp2
              go_ret2
              exact ⟨rfl, rfl⟩
            · by_cases h5 : 65 ≤ c ∧ c ≤ 70
              · obtain ⟨h5, h6⟩ := h5
                have h1n : 57 < c := by omega
                have h3n : c < 97 := by omega
                have hv : hexv c = some (c - 55) := by unfold hexv; rw [if_neg (by omega), if_neg (by omega), if_pos ⟨h5, h6⟩]
                rw [hv] at HQ
                simp only at HQ
                obtain rfl : R = (0, false) := by rw [← HQ.out, if_pos (by omega)]; rfl
                clear HQ hv
                go_wp2
                go_ret2
                exact ⟨rfl, rfl⟩
              · have hv : hexv c = none := by unfold hexv; rw [if_neg h1, if_neg h3, if_neg h5]
                rw [hv] at HQ
                obtain rfl : R = (0, false) := by rw [← HQ.out]; rfl
                clear HQ hv
                rcases (by omega : c < 48 ∨ (57 < c ∧ c < 65) ∨ (70 < c ∧ c < 97) ∨ 102 < c) with h | ⟨h, h'⟩ | ⟨h, h'⟩ | h
                all_goals clear h1 h3 h5
                all_goals go_wp2
                all_goals go_ret2
                all_goals exact ⟨rfl, rfl⟩
        · have e2 : R = ((k : Int), true) := by rw [← hr.out, drop_end s p hlt]; rfl
          have ilt : ¬ (p : Int) < (s.size : Int) := by omega
          subst e2
          clear hr HR
          have hk' : (k : Int) ≤ (most : Int) := by omega
          go_wp2
          go_ret2
          exact ⟨by simp [hk'], rfl⟩
set_option maxRecDepth 100000 in
set_option maxHeartbeats 2000000 in
theorem rnum16_any (s : ByteArray) (most : Nat) (w : World) (hs : s.size ≤ 9223372036854775807) (h15 : 15 ≤ most) (hM : most ≤ 1099511627776) :
    Calls Tryd.prog 35 #[.string s, .int .i64 16, .int .i64 most] w fun e w' => e = .returned (.tuple #[.int .i64 (rnum 16 most s.data.toList).1, .bool (rnum 16 most s.data.toList).2]) ∧ w' = w := by
  obtain ⟨R, hR⟩ : ∃ R, rnum 16 most s.data.toList = R := ⟨_, rfl⟩
  rw [hR]
  have e1 : s.data.toList.length = s.size := Array.length_toList
  by_cases h0 : s.size = 0
  · have := empty_of_size h0
    subst this
    obtain rfl : R = (0, false) := by rw [← hR]; rfl
    clear hR
    go_enter Tryd.func35, Tryd.ntmps35
    go_wp2
    go_ret2
    exact ⟨rfl, rfl⟩
  have he := nonempty_list h0
  have hpos : 0 < s.size := by omega
  have hne : ¬ s.data.toList = [] := fun e => by rw [e] at e1; simp at e1; omega
  rw [rnum, if_neg (by simp [hne])] at hR
  go_enter Tryd.func35, Tryd.ntmps35
  have HR : Hid (tell (rnumGo 16 most s.data.toList 0) = R) := hR
  clear hR hne e1 hpos h0
  go_wp2
  go_loopw [8, 9] (fun n i w' => ∃ p k : Nat, w' = w ∧ p ≤ s.size ∧ n = .int .i64 k ∧ i = .int .i64 p ∧ k ≤ most ∧ Hid (tell (rnumGo 16 most (s.data.toList.drop p) k) = R)) (fun _ i _ => s.size - (intOf i).toNat)
  case atStart => exact ⟨0, 0, rfl, Nat.zero_le _, rfl, rfl, Nat.zero_le _, HR⟩
  case round =>
    obtain ⟨p, k, rfl, hp, rfl, rfl, hk, hr⟩ := hrel
    by_cases hlt : p < s.size
    · have hr1 := hr.out
      rw [drop_cons s p hlt] at hr1
      obtain ⟨c, hc⟩ : ∃ c, (s[p]'hlt).toNat = c := ⟨_, rfl⟩
      have hc8 : c < 256 := by rw [← hc]; exact (s[p]'hlt).toNat_lt
      unfold rnumGo at hr1
      rw [hc] at hr1
      have HQ : Hid (tell (match hexv c with | none => none | some d => if 16 ≤ d ∨ (most - d) / 16 < k then none else rnumGo 16 most (s.data.toList.drop (p + 1)) (k * 16 + d)) = R) := hr1
      clear hr hr1 HR
      have ilt : (p : Int) < (s.size : Int) := by omega
      have hix : (Instr.index 9 (.string s) (.int .i64 (p : Int))).run Tryd.prog wr = .ok (.int .u8 (c : Int)) wr := by
        rw [run_index_string (P := Tryd.prog) wr 9 s .i64 p (by kernel_rfl), dif_pos (by omega)]
        simp only [Int.toNat_natCast, hc]
      clear hc
      by_cases h1 : 48 ≤ c ∧ c ≤ 57
      · obtain ⟨h1, h2⟩ := h1
        have hv : hexv c = some (c - 48) := by unfold hexv; rw [if_pos ⟨h1, h2⟩]
        rw [hv] at HQ
        simp only at HQ
        have hq : ((most : Int) - ((c : Int) - 48)).tdiv 16 = (((most - (c - 48)) / 16 : Nat) : Int) := by
          rw [show (most : Int) - ((c : Int) - 48) = ((most - (c - 48) : Nat) : Int) by omega]
          rfl
        obtain ⟨q, hqq⟩ : ∃ q, (most - (c - 48)) / 16 = q := ⟨_, rfl⟩
        rw [hqq] at hq HQ
        have hqb : q * 16 + (c - 48) ≤ most := by omega
        by_cases hn : q < k
        · obtain rfl : R = (0, false) := by rw [← HQ.out, if_pos (by omega)]; rfl
          clear HQ hv hqq
          go_wp2
          go_ret2
          exact ⟨rfl, rfl⟩
        · have hq2 : Hid (tell (rnumGo 16 most (s.data.toList.drop (p + 1)) (k * 16 + (c - 48))) = R) := by
            have := HQ.out
            rw [if_neg (by omega)] at this
            exact this
          have hk2 : k * 16 + (c - 48) ≤ most := by omega
          clear HQ hv hqq
          go_wp2
          exact ⟨⟨p + 1, k * 16 + (c - 48), by first | rfl | trivial, by omega, int_eq (by omega), int_eq (by omega), hk2, hq2⟩, by simp [intOf]; omega⟩
      · by_cases h3 : 97 ≤ c ∧ c ≤ 102
        · obtain ⟨h3, h4⟩ := h3
          have h1n : 57 < c := by omega
          have hv : hexv c = some (c - 87) := by unfold hexv; rw [if_neg (by omega), if_pos ⟨h3, h4⟩]
          rw [hv] at HQ
          simp only at HQ
          have hq : ((most : Int) - ((c : Int) - 97 + 10)).tdiv 16 = (((most - (c - 87)) / 16 : Nat) : Int) := by
            rw [show (most : Int) - ((c : Int) - 97 + 10) = ((most - (c - 87) : Nat) : Int) by omega]
            rfl
          obtain ⟨q, hqq⟩ : ∃ q, (most - (c - 87)) / 16 = q := ⟨_, rfl⟩
          rw [hqq] at hq HQ
          have hqb : q * 16 + (c - 87) ≤ most := by omega
          by_cases hn : q < k
          · obtain rfl : R = (0, false) := by rw [← HQ.out, if_pos (by omega)]; rfl
            clear HQ hv hqq
            go_wp2
            go_ret2
            exact ⟨rfl, rfl⟩
          · have hq2 : Hid (tell (rnumGo 16 most (s.data.toList.drop (p + 1)) (k * 16 + (c - 87))) = R) := by
              have := HQ.out
              rw [if_neg (by omega)] at this
              exact this
            have hk2 : k * 16 + (c - 87) ≤ most := by omega
            clear HQ hv hqq
            go_wp2
            exact ⟨⟨p + 1, k * 16 + (c - 87), by first | rfl | trivial, by omega, int_eq (by omega), int_eq (by omega), hk2, hq2⟩, by simp [intOf]; omega⟩
        · by_cases h5 : 65 ≤ c ∧ c ≤ 70
          · obtain ⟨h5, h6⟩ := h5
            have h1n : 57 < c := by omega
            have h3n : c < 97 := by omega
            have hv : hexv c = some (c - 55) := by unfold hexv; rw [if_neg (by omega), if_neg (by omega), if_pos ⟨h5, h6⟩]
            rw [hv] at HQ
            simp only at HQ
            have hq : ((most : Int) - ((c : Int) - 65 + 10)).tdiv 16 = (((most - (c - 55)) / 16 : Nat) : Int) := by
              rw [show (most : Int) - ((c : Int) - 65 + 10) = ((most - (c - 55) : Nat) : Int) by omega]
              rfl
            obtain ⟨q, hqq⟩ : ∃ q, (most - (c - 55)) / 16 = q := ⟨_, rfl⟩
            rw [hqq] at hq HQ
            have hqb : q * 16 + (c - 55) ≤ most := by omega
            by_cases hn : q < k
            · obtain rfl : R = (0, false) := by rw [← HQ.out, if_pos (by omega)]; rfl
              clear HQ hv hqq
              go_wp2
              go_ret2
              exact ⟨rfl, rfl⟩
            · have hq2 : Hid (tell (rnumGo 16 most (s.data.toList.drop (p + 1)) (k * 16 + (c - 55))) = R) := by
                have := HQ.out
                rw [if_neg (by omega)] at this
                exact this
              have hk2 : k * 16 + (c - 55) ≤ most := by omega
              clear HQ hv hqq
              go_wp2
              exact ⟨⟨p + 1, k * 16 + (c - 55), by first | rfl | trivial, by omega, int_eq (by omega), int_eq (by omega), hk2, hq2⟩, by simp [intOf]; omega⟩
          · have hv : hexv c = none := by unfold hexv; rw [if_neg h1, if_neg h3, if_neg h5]
            rw [hv] at HQ
            obtain rfl : R = (0, false) := by rw [← HQ.out]; rfl
            clear HQ hv
            rcases (by omega : c < 48 ∨ (57 < c ∧ c < 65) ∨ (70 < c ∧ c < 97) ∨ 102 < c) with h | ⟨h, h'⟩ | ⟨h, h'⟩ | h
            all_goals clear h1 h3 h5
            all_goals go_wp2
            all_goals go_ret2
            all_goals exact ⟨rfl, rfl⟩
    · have e2 : R = ((k : Int), true) := by rw [← hr.out, drop_end s p hlt]; rfl
      have ilt : ¬ (p : Int) < (s.size : Int) := by omega
      subst e2
      clear hr HR
      have hk' : (k : Int) ≤ (most : Int) := by omega
      go_wp2
      go_ret2
      exact ⟨by simp [hk'], rfl⟩
end Go.Proofs.YtnadfacbfcdkgaaDoor
