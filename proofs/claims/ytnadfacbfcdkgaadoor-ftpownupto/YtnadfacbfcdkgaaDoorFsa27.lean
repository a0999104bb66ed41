/- Texts joined: FtH -/
import Derived.Test.YtnadfacbfcdkgaaDoorFsa23
import Derived.Test.YtnadfacbfcdkgaaDoorFsa26
namespace Go.Proofs.YtnadfacbfcdkgaaDoor
open Go.RowKit
set_option linter.unusedVariables false
set_option linter.unusedSimpArgs false
theorem idx_ft (s : ByteArray) (k : Nat) (h : k < s.size) (w : World) : (Instr.index 9 (.string s) (.int .i64 (k : Int))).run Tryd.prog w = .ok (.int .u8 (((s[k]'h).toNat : Nat) : Int)) w := by
  rw [run_index_string (P := Tryd.prog) w 9 s .i64 (k : Int) (by kernel_rfl), dif_pos (by omega)]
  rfl
theorem dat_at (s : ByteArray) (k : Nat) (h : k < s.size) : s.data.toList[k]? = some (s[k]'h) := by
  rw [List.getElem?_eq_getElem (by rw [Array.length_toList]; exact h)]
  rfl
theorem rmark_ft (c : UInt8) (n : Nat) (hn : c.toNat = n) (w : World) : Calls Tryd.prog 26 #[.int .u8 n] w fun e w' => e = .returned (.bool (mayD c)) ∧ w' = w := by
  have hm : mayD c = (decide (33 ≤ n) && decide (n ≤ 126) && !(decide (48 ≤ n) && decide (n ≤ 57))) := by unfold mayD; rw [hn]
  rw [hm]
  have hb : n < 256 := by rw [← hn]; exact c.toNat_lt
  clear hm hn c
  rcases (by omega : n < 33 ∨ (33 ≤ n ∧ 126 < n) ∨ (33 ≤ n ∧ n < 48) ∨ (48 ≤ n ∧ n ≤ 57) ∨ (57 < n ∧ n ≤ 126)) with h | ⟨h, h'⟩ | ⟨h, h'⟩ | ⟨h, h'⟩ | ⟨h, h'⟩
  · go_enter Tryd.func26, Tryd.ntmps26
    go_wp2
    go_ret
    exact ⟨retB_fw (Bool.eq_iff_iff.2 (by simp <;> omega)), rfl⟩
  · go_enter Tryd.func26, Tryd.ntmps26
    go_wp2
    go_ret
    exact ⟨retB_fw (Bool.eq_iff_iff.2 (by simp <;> omega)), rfl⟩
  · have h1 : n ≤ 126 := by omega
    go_enter Tryd.func26, Tryd.ntmps26
    go_wp2
    go_ret
    exact ⟨retB_fw (Bool.eq_iff_iff.2 (by simp <;> omega)), rfl⟩
  · have h1 : n ≤ 126 := by omega
    have h2 : 33 ≤ n := by omega
    go_enter Tryd.func26, Tryd.ntmps26
    go_wp2
    go_ret
    exact ⟨retB_fw (Bool.eq_iff_iff.2 (by simp <;> omega)), rfl⟩
  · have h1 : 48 ≤ n := by omega
    have h2 : 33 ≤ n := by omega
    have h3 : ¬ n ≤ 57 := by omega
    go_enter Tryd.func26, Tryd.ntmps26
    go_wp2
    go_ret
    exact ⟨retB_fw (Bool.eq_iff_iff.2 (by simp <;> omega)), rfl⟩
theorem dig_take {l : List UInt8} {k : Nat} {c : UInt8} (hk : l[k]? = some c) (h : (l.take k).all (fun c => decide (48 ≤ c.toNat) && decide (c.toNat ≤ 57)) = true) (hc : 48 ≤ c.toNat ∧ c.toNat ≤ 57) : (l.take (k + 1)).all (fun c => decide (48 ≤ c.toNat) && decide (c.toNat ≤ 57)) = true := by
  rw [List.take_add_one, hk, List.all_append, h]
  simp [hc]
theorem dig_stop {l : List UInt8} {k : Nat} {c : UInt8} (hk : l[k]? = some c) (hc : ¬ (48 ≤ c.toNat ∧ c.toNat ≤ 57)) : digF l = false := by
  unfold digF
  have hm : c ∈ l := List.mem_of_getElem? hk
  have : l.all (fun c => decide (48 ≤ c.toNat) && decide (c.toNat ≤ 57)) = false := by
    rw [Bool.eq_false_iff]
    intro h
    have := List.all_eq_true.1 h c hm
    simp at this
    omega
  rw [this]
  rfl
set_option maxHeartbeats 1000000 in
theorem rdigits_ft (s : ByteArray) (w : World) (hs : s.size ≤ 4294967280) :
    Calls Tryd.prog 27 #[.string s] w fun e w' => e = .returned (.bool (digF s.data.toList)) ∧ w' = w := by
  have es : s.data.toList.length = s.size := Array.length_toList
  obtain ⟨R, hR⟩ : ∃ R, digF s.data.toList = R := ⟨_, rfl⟩
  rw [hR]
  have HR : Hid (digF s.data.toList = R) := hR
  clear hR
  go_enter Tryd.func27, Tryd.ntmps27
  go_wp2
  go_loopw [3] (fun i wr => ∃ (k : Nat), k ≤ s.size ∧ i = .int .i64 k ∧ Hid ((s.data.toList.take k).all (fun c => decide (48 ≤ c.toNat) && decide (c.toNat ≤ 57)) = true) ∧ wr = w) (fun i _ => s.size - (intOf i).toNat)
  case atStart => exact ⟨0, Nat.zero_le _, rfl, rfl, rfl⟩
  case round =>
    obtain ⟨k, hk, rfl, hq, rfl⟩ := hrel
    by_cases hlt : k < s.size
    · have hix := idx_ft s k hlt wr
      have hat := dat_at s k hlt
      obtain ⟨c, hc⟩ : ∃ c, (s[k]'hlt) = c := ⟨_, rfl⟩
      rw [hc] at hix hat
      obtain ⟨n, hn⟩ : ∃ n, c.toNat = n := ⟨_, rfl⟩
      rw [hn] at hix
      have hn8 : n < 256 := by rw [← hn]; exact c.toNat_lt
      by_cases hd : 48 ≤ n ∧ n ≤ 57
      · have hq2 : Hid ((s.data.toList.take (k + 1)).all (fun c => decide (48 ≤ c.toNat) && decide (c.toNat ≤ 57)) = true) := dig_take hat hq.out (by omega)
        obtain ⟨h1, h2⟩ := hd
        clear hq hat hn hc
        go_wp2
        exact ⟨⟨k + 1, by omega, int_eq (by omega), hq2, by trivial⟩, by simp [intOf]; omega⟩
      · obtain rfl : R = false := by rw [← HR.out]; exact dig_stop hat (by omega)
        clear hq hat hn hc
        rcases (by omega : n < 48 ∨ (48 ≤ n ∧ 57 < n)) with h | ⟨h, h'⟩
        · go_wp2
          go_ret
          exact ⟨rfl, rfl⟩
        · go_wp2
          go_ret
          exact ⟨rfl, rfl⟩
    · have e1 : R = !s.data.toList.isEmpty := by
        rw [← HR.out, digF]
        have := hq.out
        rw [List.take_of_length_le (by omega)] at this
        rw [this]; rfl
      clear hq
      go_wp2
      go_ret
      exact ⟨retB_fw (by rw [e1, ByteArray.toList_eq]), rfl⟩
theorem rport_ft (s : ByteArray) (w : World) (hs : s.size ≤ 4294967280) :
    Calls Tryd.prog 28 #[.string s] w fun e w' => e = .returned (.tuple #[.int .i64 (num 65535 s.data.toList).1, .bool (prtF s.data.toList)]) ∧ w' = w := by
  have K : Hid (∀ W, Calls Tryd.prog 35 #[.string s, .int .i64 10, .int .i64 65535] W fun e w' => e = .returned (.tuple #[.int .i64 (num 65535 s.data.toList).1, .bool (num 65535 s.data.toList).2]) ∧ w' = W) := fun W => by
    have h := rnum10_any s 65535 W (by omega) (by omega) (by omega)
    rw [rnum10 65535 (by omega)] at h
    exact h
  unfold prtF
  generalize num 65535 s.data.toList = p at *
  obtain ⟨n, ok⟩ := p
  cases ok with
  | false =>
    go_enter Tryd.func28, Tryd.ntmps28
    go_wp2_with fail
    refine Calls.mono (K.out _) ?_
    rintro e W ⟨rfl, rfl⟩
    go_wp2
    go_ret2
    exact ⟨rfl, rfl⟩
  | true =>
    go_enter Tryd.func28, Tryd.ntmps28
    go_wp2_with fail
    refine Calls.mono (K.out _) ?_
    rintro e W ⟨rfl, rfl⟩
    go_wp2
    go_ret2
    exact ⟨rfl, rfl⟩
theorem not_take {c : UInt8} {l : List UInt8} {k : Nat} {x : UInt8} (hk : l[k]? = some x) (h : c ∉ l.take k) (hx : ¬ x = c) : c ∉ l.take (k + 1) := by
  rw [List.take_add_one, hk]
  simp only [Option.toList_some, List.mem_append, List.mem_singleton, not_or]
  exact ⟨h, fun e => hx e.symm⟩
theorem not_cut {c : UInt8} {l : List UInt8} {i k : Nat} {x : UInt8} (hik : i ≤ k) (hk : l[k]? = some x) (h : c ∉ (l.take k).drop i) (hx : ¬ x = c) : c ∉ (l.take (k + 1)).drop i := by
  have hl := (List.getElem?_eq_some_iff.1 hk).1
  rw [List.take_add_one, hk, List.drop_append_of_le_length (by simp; omega)]
  simp only [Option.toList_some, List.mem_append, List.mem_singleton, not_or]
  exact ⟨h, fun e => hx e.symm⟩
theorem cut_at {c : UInt8} {l : List UInt8} {k : Nat} (hk : l[k]? = some c) (h : c ∉ l.take k) : Lib.cut l [c] = (l.take k, l.drop (k + 1), true) := by
  have hl := (List.getElem?_eq_some_iff.1 hk)
  have e : l = l.take k ++ c :: l.drop (k + 1) := by
    conv => lhs; rw [← List.take_append_drop k l, List.drop_eq_getElem_cons hl.1, hl.2]
  conv => lhs; rw [e]
  exact cut_yes h
theorem inn_at {l : List UInt8} {i k : Nat} (hi : l[i]? = some 40) (h1 : (40 : UInt8) ∉ l.take i) (hik : i + 1 ≤ k) (hk : l[k]? = some 41) (h2 : (41 : UInt8) ∉ (l.take k).drop (i + 1)) : innF l = some ((l.take k).drop (i + 1)) := by
  have e2 : Lib.cut (l.drop (i + 1)) [41] = ((l.drop (i + 1)).take (k - (i + 1)), (l.drop (i + 1)).drop (k - (i + 1) + 1), true) := cut_at (by rw [List.getElem?_drop, show i + 1 + (k - (i + 1)) = k by omega]; exact hk) (by rw [← List.drop_take]; exact h2)
  unfold innF
  rw [cut_at hi h1]
  simp only [if_true, e2]
  rw [List.drop_take]
theorem inn_no1 {l : List UInt8} (h : (40 : UInt8) ∉ l) : innF l = none := by unfold innF; rw [cut_not h]; rfl
theorem inn_no2 {l : List UInt8} {i : Nat} (hi : l[i]? = some 40) (h1 : (40 : UInt8) ∉ l.take i) (h2 : (41 : UInt8) ∉ l.drop (i + 1)) : innF l = none := by
  unfold innF
  rw [cut_at hi h1]
  simp only [if_true, cut_not h2]
  rfl
set_option maxHeartbeats 2000000 in
theorem rinner_ft (s : ByteArray) (w : World) (hs : s.size ≤ 4294967280) :
    Calls Tryd.prog 25 #[.string s] w fun e w' => e = .returned (.tuple #[.string ⟨((innF s.data.toList).getD []).toArray⟩, .bool (innF s.data.toList).isSome]) ∧ w' = w := by
  have es : s.data.toList.length = s.size := Array.length_toList
  obtain ⟨R, hR⟩ : ∃ R, innF s.data.toList = R := ⟨_, rfl⟩
  rw [hR]
  have HR : Hid (innF s.data.toList = R) := hR
  clear hR
  go_enter Tryd.func25, Tryd.ntmps25
  go_wp2
  go_loopw [4] (fun i wr => ∃ (k : Nat), k ≤ s.size ∧ i = .int .i64 k ∧ Hid ((40 : UInt8) ∉ s.data.toList.take k) ∧ wr = w) (fun i _ => s.size - (intOf i).toNat)
  case atStart => exact ⟨0, Nat.zero_le _, rfl, by show _ ∉ _; simp, rfl⟩
  case round =>
    obtain ⟨i, hi, rfl, hq, rfl⟩ := hrel
    by_cases hlt : i < s.size
    · have hix := idx_ft s i hlt wr
      have hat := dat_at s i hlt
      obtain ⟨c, hc⟩ : ∃ c, (s[i]'hlt) = c := ⟨_, rfl⟩
      rw [hc] at hix hat
      obtain ⟨n, hn⟩ : ∃ n, c.toNat = n := ⟨_, rfl⟩
      rw [hn] at hix
      by_cases h40 : n = 40
      · subst h40
        obtain rfl : c = 40 := UInt8.toNat_inj.1 hn
        clear hn hc
        go_wp2
        go_loopw [5] (fun i' wr' => ∃ (k : Nat), i + 1 ≤ k ∧ k ≤ s.size ∧ i' = .int .i64 k ∧ Hid ((41 : UInt8) ∉ (s.data.toList.take k).drop (i + 1)) ∧ wr' = wr) (fun i' _ => s.size - (intOf i').toNat)
        case atStart => exact ⟨i + 1, Nat.le_refl _, by omega, int_eq (by omega), by show _ ∉ _; rw [List.drop_eq_nil_of_le (by rw [List.length_take]; omega)]; simp, rfl⟩
        case round =>
          obtain ⟨k, hik, hk, rfl, hq2, rfl⟩ := hrel
          by_cases hlk : k < s.size
          · have hix2 := idx_ft s k hlk wr
            have hat2 := dat_at s k hlk
            obtain ⟨d, hd⟩ : ∃ d, (s[k]'hlk) = d := ⟨_, rfl⟩
            rw [hd] at hix2 hat2
            obtain ⟨q, hqn⟩ : ∃ q, d.toNat = q := ⟨_, rfl⟩
            rw [hqn] at hix2
            by_cases h41 : q = 41
            · subst h41
              obtain rfl : d = 41 := UInt8.toNat_inj.1 hqn
              obtain ⟨y, hy⟩ : ∃ y, s.extract (i + 1) k = y := ⟨_, rfl⟩
              have hyd : y.data.toList = (s.data.toList.take k).drop (i + 1) := by rw [← hy, Lib.extract_data, List.drop_take]
              have hsl : (Instr.slice 9 (.string s) (some (.int .i64 ((i : Int) + 1))) (some (.int .i64 (k : Int))) none).run Tryd.prog wr = .ok (.string y) wr := by
                rw [run_slice_string (P := Tryd.prog) wr 9 s .i64 .i64 ((i : Int) + 1) k (by kernel_rfl) (by omega) (by omega) (by omega)]
                rw [show ((i : Int) + 1).toNat = i + 1 by omega, Int.toNat_natCast, hy]
              obtain rfl : R = some y.data.toList := by rw [← HR.out, inn_at hat hq.out hik hat2 hq2.out, hyd]
              clear hqn hd hq hq2 hat hat2 hix HR
              go_wp2
              go_ret2
              refine ⟨?_, rfl⟩
              show _ = Ending.returned (.tuple #[.string ⟨y.data.toList.toArray⟩, .bool true])
              rw [ba_eta]
              rfl
            · have hq3 : Hid ((41 : UInt8) ∉ (s.data.toList.take (k + 1)).drop (i + 1)) := not_cut hik hat2 hq2.out (fun e => h41 (by rw [← hqn, e]; rfl))
              clear hqn hd hq2 hat2 hix
              go_wp2
              exact ⟨⟨k + 1, by omega, by omega, int_eq (by omega), hq3, by trivial⟩, by simp [intOf]; omega⟩
          · obtain rfl : R = none := by
              rw [← HR.out]
              have := hq2.out
              rw [List.take_of_length_le (by omega)] at this
              exact inn_no2 hat hq.out this
            clear hq hq2 hat hix HR
            go_wp2
            go_ret2
            exact ⟨rfl, rfl⟩
      · have hq3 : Hid ((40 : UInt8) ∉ s.data.toList.take (i + 1)) := not_take hat hq.out (fun e => h40 (by rw [← hn, e]; rfl))
        clear hn hc hat hq
        go_wp2
        exact ⟨⟨i + 1, by omega, int_eq (by omega), hq3, by trivial⟩, by simp [intOf]; omega⟩
    · obtain rfl : R = none := by
        rw [← HR.out]
        have := hq.out
        rw [List.take_of_length_le (by omega)] at this
        exact inn_no1 this
      clear hq HR
      go_wp2
      go_ret2
      exact ⟨rfl, rfl⟩
end Go.Proofs.YtnadfacbfcdkgaaDoor
