/- Texts joined: Lz -/
import Derived.Test.YtakajiedajfkjaaDoorApx3
import Derived.Test.YtakajiedajfkjaaDoorApx4
namespace Go.Proofs.YtakajiedajfkjaaDoor
open Go.RowKit
set_option linter.unusedVariables false
set_option linter.unusedSimpArgs false
/-- Where the longest row begins, and how many it has: i words gone, the row at hand has run. -/
def lzGo : List Bool → Nat → Nat → Nat → Nat → Nat × Nat
  | [], _, at_, n, _ => (at_, n)
  | z :: zs, i, at_, n, run => if z then (if n < run + 1 then lzGo zs (i + 1) (i + 1 - (run + 1)) (run + 1) (run + 1) else lzGo zs (i + 1) at_ n (run + 1)) else lzGo zs (i + 1) at_ n 0
def isZero (x : ByteArray) : Bool := decide (x = ByteArray.mk #[48])
def lz (xs : List ByteArray) : Nat × Nat := lzGo (xs.map isZero) 0 0 0 0
set_option maxRecDepth 100000 in
set_option maxHeartbeats 1000000 in
theorem lz_any (g c : Nat) (xs : List ByteArray) (w : World) (hx : xs.length ≤ 1000) (hc : ∀ (i : Nat) (h : i < xs.length), w.cell? ⟨g, i, none⟩ = some (.string (xs[i]'h))) :
    Calls Tryd.prog 56 #[.slice (some ⟨g, 0, none⟩) xs.length c] w fun e w' => e = .returned (.tuple #[.int .i64 ((lz xs).1 : Int), .int .i64 ((lz xs).2 : Int)]) ∧ w' = w := by
  obtain ⟨T, hT⟩ : ∃ T, lz xs = T := ⟨_, rfl⟩
  rw [hT]
  have HT : Hid (lzGo (xs.map isZero) 0 0 0 0 = T) := hT
  clear hT
  go_enter Tryd.func56, Tryd.ntmps56
  go_wp2
  go_loop [2, 3, 4, 9] (fun a n r i => ∃ k p m q : Nat, k ≤ xs.length ∧ i = .int .i64 k ∧ a = .int .i64 p ∧ n = .int .i64 m ∧ r = .int .i64 q ∧ p ≤ 1000 ∧ m ≤ 1000 ∧ q ≤ k ∧ Hid (lzGo ((xs.drop k).map isZero) k p m q = T)) (fun _ _ _ i => xs.length - (intOf i).toNat)
  case atStart => exact ⟨0, 0, 0, 0, Nat.zero_le _, rfl, rfl, rfl, rfl, by omega, by omega, Nat.le_refl _, HT⟩
  case round =>
    obtain ⟨k, p, m, q, hk, rfl, rfl, rfl, rfl, hp, hm, hq, hr⟩ := hrel
    by_cases hlt : k < xs.length
    · have hcell := hc k hlt
      have hr1 := hr.out
      rw [List.drop_eq_getElem_cons hlt, List.map_cons] at hr1
      generalize xs[k] = x at hcell hr1
      have HR : Hid (lzGo (isZero x :: (xs.drop (k + 1)).map isZero) k p m q = T) := hr1
      have ilt : (k : Int) < (xs.length : Int) := by omega
      clear hr hr1 hc
      by_cases hz : x = ByteArray.mk #[48]
      · have z1 : isZero x = true := by simp [isZero, hz]
        have hz' : (x.toList == [48]) = true := by rw [ByteArray.toList_eq, hz]; rfl
        clear hz
        by_cases hmq : m < q + 1
        · have hq2 : Hid (lzGo ((xs.drop (k + 1)).map isZero) (k + 1) (k + 1 - (q + 1)) (q + 1) (q + 1) = T) := by
            have := HR.out; unfold lzGo at this; rw [z1, if_pos rfl, if_pos hmq] at this; exact this
          have hmq' : (m : Int) < (q : Int) + 1 := by omega
          clear z1
          go_wp2
          exact ⟨⟨k + 1, k + 1 - (q + 1), q + 1, q + 1, by omega, int_eq (by omega), int_eq (by omega), int_eq (by omega), int_eq (by omega), by omega, by omega, by omega, hq2⟩, by simp [intOf]; omega⟩
        · have hq2 : Hid (lzGo ((xs.drop (k + 1)).map isZero) (k + 1) p m (q + 1) = T) := by
            have := HR.out; unfold lzGo at this; rw [z1, if_pos rfl, if_neg hmq] at this; exact this
          have hmq' : ¬ (m : Int) < (q : Int) + 1 := by omega
          clear z1
          go_wp2
          exact ⟨⟨k + 1, p, m, q + 1, by omega, int_eq (by omega), rfl, rfl, int_eq (by omega), by omega, by omega, by omega, hq2⟩, by simp [intOf]; omega⟩
      · have z1 : isZero x = false := by simp [isZero, hz]
        have hq2 : Hid (lzGo ((xs.drop (k + 1)).map isZero) (k + 1) p m 0 = T) := by
          have := HR.out; unfold lzGo at this; rw [z1, if_neg (by decide)] at this; exact this
        have hz' : (x.toList == [48]) = false := by
          rw [ByteArray.toList_eq]
          cases hb : (x.data.toList == [48]) with
          | false => rfl
          | true =>
            exfalso; apply hz
            have h1 : x.data.toList = [48] := by simpa using hb
            cases x with
            | mk d => cases d with
              | mk l => simp at h1; rw [h1]
        clear z1 hz
        go_wp2
        exact ⟨⟨k + 1, p, m, 0, by omega, int_eq (by omega), rfl, rfl, rfl, by omega, by omega, by omega, hq2⟩, by simp [intOf]; omega⟩
    · have e : T = (p, m) := by rw [← hr.out, List.drop_eq_nil_of_le (by omega)]; rfl
      have ilt : ¬ (k : Int) < (xs.length : Int) := by omega
      subst e
      go_wp2
      go_ret2
      exact ⟨rfl, rfl⟩
end Go.Proofs.YtakajiedajfkjaaDoor
