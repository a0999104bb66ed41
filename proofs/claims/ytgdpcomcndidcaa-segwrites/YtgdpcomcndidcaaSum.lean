/- The sum of any parts is the folded sum of all their bytes, one part behind the other; no memory is touched. -/
import Derived.Test.YtgdpcomcndidcaaFold
namespace Go.Proofs.Ytgdpcomcndidcaa
open Go.RowKit
set_option linter.unusedVariables false

/-- A slice value of 'l.length' bytes from a on reads as the numbers l. -/
structure Row (w : World) (a : Option Addr) (l : List Int) : Prop where
  small : l.length ≤ 140737488355328
  bytes : M.Bytes l
  cells : 0 < l.length → ∃ b off, a = some ⟨b, off, none⟩ ∧ ∀ i, i < l.length → w.cell? ⟨b, off + i, none⟩ = some (.int .u8 (l.getD i 0))

/-- A slice value of 'ls.length' parts from a on reads as ls. -/
structure Rowss (w : World) (a : Option Addr) (ls : List (List Int)) : Prop where
  small : ls.length ≤ 140737488355328
  cells : 0 < ls.length → ∃ b off, a = some ⟨b, off, none⟩ ∧ ∀ i, i < ls.length → ∃ a' c', w.cell? ⟨b, off + i, none⟩ = some (.slice a' (ls.getD i []).length c') ∧ Row w a' (ls.getD i [])

theorem int_eq {k : IntKind} {a b : Int} (h : a = b) : Value.int k a = .int k b := by rw [h]
theorem Rowss.all {w : World} {a : Option Addr} {ls : List (List Int)} (h : Rowss w a ls) : M.AllBytes ls := by
  intro i hi
  obtain ⟨b, off, _, hc⟩ := h.cells (by omega)
  obtain ⟨_, _, _, hr⟩ := hc i hi
  exact hr.bytes
def shOf (p : Bool) : Int := if p then 8 else 0

set_option maxHeartbeats 400000 in
theorem sum_any (a : Option Addr) (cap : Nat) (ls : List (List Int)) (w : World) (h : Rowss w a ls) :
    Calls Try.prog 65 #[.slice a ls.length cap] w fun e w' => e = .returned (.int .i64 (M.sumOf ls)) ∧ w' = w := by
  have hs := h.small
  go_enter Try.func65, Try.ntmps65
  go_wp2
  go_loop [3, 4, 11] (fun t s i => ∃ k : Nat, k ≤ ls.length ∧ i = .int .i64 k ∧ t = .int .i64 (M.nf (M.raw true (ls.take k).flatten)) ∧ s = .int .i64 (shOf (M.par true (ls.take k).flatten.length))) (fun _ _ i => ls.length - (intOf i).toNat)
  case atStart => exact ⟨0, Nat.zero_le _, rfl, rfl, rfl⟩
  case round =>
    obtain ⟨k, hk, rfl, rfl, rfl⟩ := hrel
    by_cases hlt : k < ls.length
    · obtain ⟨b, off, rfl, hc⟩ := h.cells (by omega)
      obtain ⟨a', c', hcell, hrow⟩ := hc k hlt
      have hb := M.nf_bd (M.raw true (ls.take k).flatten)
      generalize hl : ls.getD k [] = l at *
      generalize hT : M.nf (M.raw true (ls.take k).flatten) = T at *
      generalize hp : M.par true (ls.take k).flatten.length = p at *
      have H1 : Hid (ls.getD k [] = l ∧ M.nf (M.raw true (ls.take k).flatten) = T ∧ M.par true (ls.take k).flatten.length = p) := ⟨hl, hT, hp⟩
      clear hl hT hp
      have hr := hrow.small
      go_wp2
      go_loop [3, 4, 17] (fun t s i => ∃ j : Nat, j ≤ l.length ∧ i = .int .i64 j ∧ t = .int .i64 (T + M.raw p (l.take j)) ∧ s = .int .i64 (shOf (M.par p j))) (fun _ _ i => l.length - (intOf i).toNat)
      case atStart => exact ⟨0, Nat.zero_le _, rfl, by simp [M.raw_nil], rfl⟩
      case round =>
        obtain ⟨j, hj, rfl, rfl, rfl⟩ := hrel
        have hrb := M.raw_bd p (l.take j) (hrow.bytes.take j)
        have hlen : (l.take j).length ≤ j := List.length_take_le _ _
        by_cases hlt2 : j < l.length
        · obtain ⟨b2, off2, rfl, hc2⟩ := hrow.cells (by omega)
          have hcell2 := hc2 j hlt2
          have hx := hrow.bytes.get j
          have HS : Hid (M.raw p (l.take (j + 1)) = M.raw p (l.take j) + if M.par p j then 256 * l.getD j 0 else l.getD j 0) := M.raw_take p l j hlt2
          have HP : Hid (M.par p (j + 1) = !(M.par p j)) := M.par_succ p j
          clear hc hc2 hcell
          generalize l.getD j 0 = x at *
          generalize M.raw p (l.take j) = R at *
          generalize M.par p j = q at *
          cases q
          · have e0 : shOf false = 0 := rfl
            go_wp2
            exact ⟨⟨j + 1, by omega, by go_num, int_eq (by rw [HS.out]; simp; omega), int_eq (by rw [HP.out]; rfl)⟩, by simp [intOf]; omega⟩
          · have e0 : shOf true = 8 := rfl
            go_wp2
            exact ⟨⟨j + 1, by omega, by go_num, int_eq (by rw [HS.out]; simp; omega), int_eq (by rw [HP.out]; rfl)⟩, by simp [intOf]; omega⟩
        · clear hc hcell
          go_wp2_with (go_at_call 79; refine (fold_any _ _ (by omega) (by omega)).mono ?_; rintro e w' ⟨rfl, rfl⟩)
          have hjl : j = l.length := by omega
          subst hjl
          obtain ⟨hl, hT, hp⟩ := H1.out
          refine ⟨⟨k + 1, by omega, by go_num, int_eq ?_, int_eq ?_⟩, by simp [intOf]; omega⟩
          · have hz := M.raw_bd true (ls.take k).flatten (h.all.takes k)
            rw [List.take_length, M.takes_snoc ls k hlt, hl, M.raw_append, hp, ← hT, M.nf_add hz.1]
            exact (M.raw_bd p l hrow.bytes).1
          · rw [M.takes_snoc ls k hlt, hl, List.length_append, ← M.par_add, hp]
    · go_wp2
      go_ret
      exact ⟨ret_int (by rw [List.take_of_length_le (by omega)]; rfl), rfl⟩
end Go.Proofs.Ytgdpcomcndidcaa
