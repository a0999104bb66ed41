/- The reference's sum of any parts is the same number as the program's. -/
import Derived.Test.YtgdpcomcndidcaaSum
namespace Go.Proofs.Ytgdpcomcndidcaa
open Go.RowKit
set_option linter.unusedVariables false

def atOf (p : Bool) : Int := if p then 0 else 1
theorem at_true : atOf true = 0 := rfl
theorem at_false : atOf false = 1 := rfl

set_option maxHeartbeats 1000000 in
theorem refsum_any (a : Option Addr) (cap : Nat) (ls : List (List Int)) (w : World) (h : Rowss w a ls) :
    Calls Try.prog 46 #[.slice a ls.length cap] w fun e w' => e = .returned (.int .i64 (M.sumOf ls)) ∧ w' = w := by
  have hs := h.small
  go_enter Try.func46, Try.ntmps46
  go_wp2
  go_loop [3, 4, 5] (fun t s i => ∃ k : Nat, k ≤ ls.length ∧ i = .int .i64 k ∧ t = .int .i64 (M.nf (M.raw true (ls.take k).flatten)) ∧ s = .int .i64 (atOf (M.par true (ls.take k).flatten.length))) (fun _ _ i => ls.length - (intOf i).toNat)
  case atStart => exact ⟨0, Nat.zero_le _, rfl, rfl, rfl⟩
  case round =>
    obtain ⟨k, hk, rfl, rfl, rfl⟩ := hrel
    by_cases hlt : k < ls.length
    · obtain ⟨b, off, rfl, hc⟩ := h.cells (by omega)
      obtain ⟨a', c', hcell, hrow⟩ := hc k hlt
      have hz := M.raw_bd true (ls.take k).flatten (h.all.takes k)
      have hz0 : 0 ≤ M.raw true (ls.take k).flatten := hz.1
      clear hz hc
      generalize hl : ls.getD k [] = l at *
      generalize hT : M.raw true (ls.take k).flatten = T at *
      generalize hp : M.par true (ls.take k).flatten.length = p at *
      have H1 : Hid (ls.getD k [] = l ∧ M.raw true (ls.take k).flatten = T ∧ M.par true (ls.take k).flatten.length = p) := ⟨hl, hT, hp⟩
      clear hl hT hp
      have hr := hrow.small
      go_wp2
      go_loop [3, 4, 6] (fun t s i => ∃ j : Nat, j ≤ l.length ∧ i = .int .i64 j ∧ t = .int .i64 (M.nf (T + M.raw p (l.take j))) ∧ s = .int .i64 (atOf (M.par p j))) (fun _ _ i => l.length - (intOf i).toNat)
      case atStart => exact ⟨0, Nat.zero_le _, rfl, by simp [M.raw_nil], rfl⟩
      case round =>
        obtain ⟨j, hj, rfl, rfl, rfl⟩ := hrel
        have hrb := M.raw_bd p (l.take j) (hrow.bytes.take j)
        have hb := M.nf_bd (T + M.raw p (l.take j))
        by_cases hlt2 : j < l.length
        · obtain ⟨b2, off2, rfl, hc2⟩ := hrow.cells (by omega)
          have hcell2 := hc2 j hlt2
          have hx := hrow.bytes.get j
          have HS : Hid (M.raw p (l.take (j + 1)) = M.raw p (l.take j) + if M.par p j then 256 * l.getD j 0 else l.getD j 0) := M.raw_take p l j hlt2
          have HP : Hid (M.par p (j + 1) = !(M.par p j)) := M.par_succ p j
          have hrb0 := hrb.1
          clear hc2 hrb
          generalize l.getD j 0 = x at *
          generalize M.raw p (l.take j) = R at *
          have HN : Hid (∀ y, 0 ≤ y → M.nf (M.nf (T + R) + y) = M.nf (T + R + y)) := fun y hy => M.nf_add (by omega) hy
          generalize M.nf (T + R) = F at *
          generalize M.par p j = q at *
          cases q
          · have e0 : atOf false = 1 := rfl
            go_wp2
            go_loop [3] (fun z => ∃ y : Int, 0 ≤ y ∧ y ≤ 1000000 ∧ M.nf y = M.nf (T + R + x) ∧ z = .int .i64 y) (fun z => (intOf z).toNat)
            case atStart => exact ⟨F + x, by omega, by omega, HN.out x hx.1, rfl⟩
            case round =>
              obtain ⟨y, hy0, hy1, hn, rfl⟩ := hrel
              have HM : Hid (M.nf y = M.nf (T + R + x)) := hn
              clear hn
              by_cases hgt : 65535 < y
              · go_wp2
                rw [i64_and65535, wrap64_in _ (by omega) (by omega)]
                exact ⟨⟨_, by omega, by omega, by rw [Int.add_comm]; exact (M.nf_fold hgt).trans HM.out, rfl⟩, by simp [intOf]; omega⟩
              · go_wp2
                exact ⟨⟨j + 1, by omega, by go_num, int_eq (by rw [HS.out, ← M.nf_small hy0 (by omega), HM.out]; simp [Int.add_assoc]), int_eq (by rw [HP.out]; rfl)⟩, by simp [intOf]; omega⟩
          · have e0 : atOf true = 0 := rfl
            go_wp2
            go_loop [3] (fun z => ∃ y : Int, 0 ≤ y ∧ y ≤ 1000000 ∧ M.nf y = M.nf (T + R + x * 256) ∧ z = .int .i64 y) (fun z => (intOf z).toNat)
            case atStart => exact ⟨F + x * 256, by omega, by omega, HN.out (x * 256) (by omega), rfl⟩
            case round =>
              obtain ⟨y, hy0, hy1, hn, rfl⟩ := hrel
              have HM : Hid (M.nf y = M.nf (T + R + x * 256)) := hn
              clear hn
              by_cases hgt : 65535 < y
              · go_wp2
                rw [i64_and65535, wrap64_in _ (by omega) (by omega)]
                exact ⟨⟨_, by omega, by omega, by rw [Int.add_comm]; exact (M.nf_fold hgt).trans HM.out, rfl⟩, by simp [intOf]; omega⟩
              · go_wp2
                exact ⟨⟨j + 1, by omega, by go_num, int_eq (by rw [HS.out, ← M.nf_small hy0 (by omega), HM.out]; simp [Int.add_assoc, Int.mul_comm]), int_eq (by rw [HP.out]; rfl)⟩, by simp [intOf]; omega⟩
        · go_wp2
          have hjl : j = l.length := by omega
          subst hjl
          obtain ⟨hl, hT, hp⟩ := H1.out
          refine ⟨⟨k + 1, by omega, by go_num, int_eq ?_, int_eq ?_⟩, by simp [intOf]; omega⟩
          · rw [List.take_length, M.takes_snoc ls k hlt, hl, M.raw_append, hp, ← hT]
          · rw [M.takes_snoc ls k hlt, hl, List.length_append, ← M.par_add, hp]
    · go_wp2
      go_ret
      exact ⟨ret_int (by rw [List.take_of_length_le (by omega)]; rfl), rfl⟩
end Go.Proofs.Ytgdpcomcndidcaa
