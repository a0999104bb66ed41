/- The document's own reading of a header's options. -/
import Derived.Test.YtpcdmjjlgoeglaaIp4A
namespace Go.Proofs.Ytpcdmjjlgoeglaa
open Go.RowKit
set_option linter.unusedVariables false
set_option linter.unusedSimpArgs false

theorem getD_drop (l : List Int) (k i : Nat) : (l.drop k).getD i 0 = l.getD (k + i) 0 := by
  simp only [List.getD_eq_getElem?_getD, List.getElem?_drop]

set_option maxRecDepth 100000 in
set_option maxHeartbeats 2000000 in
theorem roptions_any (a : Option Addr) (c : Nat) (l : List Int) (w : World) (h : Row w a l) :
    Calls Try.prog 33 #[.slice a l.length c] w fun e w' => e = .returned (.int .i64 (opts l)) ∧ w' = w := by
  have hs := h.small
  go_enter Try.func33, Try.ntmps33
  go_wp2
  go_loop [3] (fun v => ∃ k : Nat, k ≤ l.length ∧ v = .int .i64 k ∧ Hid (opts (l.drop k) = opts l)) (fun v => l.length - (intOf v).toNat)
  case atStart => exact ⟨0, Nat.zero_le _, rfl, by show opts (l.drop 0) = opts l; rw [List.drop_zero]⟩
  case round =>
    obtain ⟨k, hk, rfl, ho⟩ := hrel
    by_cases hlt : k < l.length
    · obtain ⟨bk, off, rfl, hcl⟩ := h.cells (by omega)
      have c0 := hcl k hlt
      have hx := h.bytes.get k
      have hd : l.drop k = l.getD k 0 :: l.drop (k + 1) := by
        rw [List.drop_eq_getElem_cons hlt]
        simp [hlt]
      have hlk : (k : Int) < (l.length : Int) := by omega
      obtain ⟨x, hxx⟩ : ∃ x, l.getD k 0 = x := ⟨_, rfl⟩
      rw [hxx] at c0 hx hd
      have ho' : Hid (opts (x :: l.drop (k + 1)) = opts l) := by show _ = _; rw [← hd]; exact ho.out
      have hrl : (l.drop (k + 1)).length = l.length - (k + 1) := by rw [List.length_drop]
      clear ho hd hxx
      by_cases x0 : x = 0
      · subst x0
        have e : Hid (0 = opts l) := by show 0 = opts l; rw [← ho'.out, opts_end]
        clear ho' hcl h hrl
        go_wp2
        go_ret
        exact ⟨ret_int e.out, rfl⟩
      · have x0' : (x == 0) = false := by simpa using x0
        by_cases x1 : x = 1
        · subst x1
          have E : Hid (opts (l.drop (k + 1)) = opts l) := by show _ = _; rw [← ho'.out, opts_one]
          clear ho' hcl h hrl
          go_wp2
          exact ⟨⟨k + 1, by omega, int_eq (by omega), E⟩, by simp [intOf]; omega⟩
        · have x1' : (x == 1) = false := by simpa using x1
          by_cases x2 : x = 131 ∨ x = 137
          · have e : Hid (8 = opts l) := by show 8 = opts l; rw [← ho'.out, opts_route x _ x2]
            clear ho' hcl h hrl
            rcases x2 with rfl | rfl
            all_goals (go_wp2; go_ret; exact ⟨ret_int e.out, rfl⟩)
          · have x2' : (x == 131) = false := by simp; omega
            have x3' : (x == 137) = false := by simp; omega
            by_cases hl1 : k + 1 < l.length
            · have c1 := hcl (k + 1) hl1
              have hy := h.bytes.get (k + 1)
              have hr0 : (l.drop (k + 1)).getD 0 0 = l.getD (k + 1) 0 := by rw [getD_drop, Nat.add_zero]
              obtain ⟨y, hyy⟩ : ∃ y, l.getD (k + 1) 0 = y := ⟨_, rfl⟩
              rw [hyy] at c1 hy hr0
              have hl1' : ¬ ((l.length : Int) ≤ (k : Int) + 1) := by omega
              have hl2' : (k : Int) + 1 < (l.length : Int) := by omega
              have hwk : wrap64 ((k : Int) + 1) = (k : Int) + 1 := wrap64_in _ (by omega) (by omega)
              by_cases hb : (l.drop (k + 1)).length < 1 ∨ (l.drop (k + 1)).getD 0 0 < 2 ∨ (l.drop (k + 1)).getD 0 0 > (l.drop (k + 1)).length + 1
              · have e : Hid (7 = opts l) := by show 7 = opts l; rw [← ho'.out, opts_bad x _ x0 x1 x2 hb]
                rw [hr0, hrl] at hb
                clear ho' hcl h hrl hr0 hyy
                by_cases y2 : y < 2
                · go_wp2
                  go_ret
                  exact ⟨ret_int e.out, rfl⟩
                · have y3 : y > (l.length : Int) - (k : Int) := by omega
                  go_wp2
                  go_ret
                  exact ⟨ret_int e.out, rfl⟩
              · have hn := opts_next x _ x0 x1 x2 hb
                rw [hr0, hrl] at hb
                rw [hr0] at hn
                have y2 : ¬ y < 2 := by omega
                have y3 : ¬ y > (l.length : Int) - (k : Int) := by omega
                obtain ⟨m, rfl⟩ := Int.eq_ofNat_of_zero_le hy.1
                rw [Int.toNat_natCast] at hn
                have hdd : (x :: l.drop (k + 1)).drop m = l.drop (k + m) := by
                  obtain ⟨m', rfl⟩ : ∃ m', m = m' + 1 := ⟨m - 1, by omega⟩
                  rw [List.drop_succ_cons, List.drop_drop]
                  congr 1
                  omega
                have E : Hid (opts (l.drop (k + m)) = opts l) := by show _ = _; rw [← ho'.out, hn, hdd]
                have hkm : k + m ≤ l.length := by omega
                clear ho' hcl h hrl hr0 hyy hn hdd hb
                go_wp2
                exact ⟨⟨k + m, by omega, int_eq (by omega), E⟩, by simp [intOf]; omega⟩
            · have e : Hid (7 = opts l) := by show 7 = opts l; rw [← ho'.out, opts_bad x _ x0 x1 x2 (.inl (by rw [hrl]; omega))]
              have hl1' : (l.length : Int) ≤ (k : Int) + 1 := by omega
              clear ho' hcl h hrl
              go_wp2
              go_ret
              exact ⟨ret_int e.out, rfl⟩
    · have hlt' : ¬ (k : Int) < (l.length : Int) := by omega
      have e : Hid (0 = opts l) := by show 0 = opts l; rw [← ho.out, List.drop_of_length_le (by omega), opts_nil]
      clear ho
      go_wp2
      go_ret
      exact ⟨ret_int e.out, rfl⟩
end Go.Proofs.Ytpcdmjjlgoeglaa
