/- Texts joined: FgG -/
import Derived.Test.YtebdpiedgjdjeaaFga13
namespace Go.Proofs.Ytebdpiedgjdjeaa
open Go.RowKit
set_option linter.unusedVariables false
set_option linter.unusedSimpArgs false
set_option maxRecDepth 100000 in
set_option maxHeartbeats 4000000 in
theorem indexFunc_any (g : Gm) (gp ge : Nat) (of en : Int) (w : World) (hg : GmR w g) (hn : GmN g) (h7 : w.cell? ⟨gp, 11, none⟩ = some (.int .i64 of)) (he : w.cell? ⟨ge, 0, none⟩ = some (.int .i64 en)) :
    Calls Try.prog 85 #[.slice g.pa g.ps.length g.pc, .func (.func 72) #[] #[.pointer (some ⟨gp, 0, none⟩), .pointer (some ⟨ge, 0, none⟩)]] w fun e w' => ∃ r : Int, e = .returned (.int .i64 r) ∧ (0 ≤ r ↔ g.ps.any (shareB of en) = true) ∧ r ≤ 65535 ∧ Below w.heap.size w w' := by
  have few := hg.few
  have KS : Hid (∀ W q, Below w.heap.size w W → q ∈ g.ps → Calls Try.prog 72 #[.agg q.v, .pointer (some ⟨gp, 0, none⟩), .pointer (some ⟨ge, 0, none⟩)] W fun e w' => e = .returned (.bool (shareB of en q)) ∧ Below W.heap.size W w') := fun W q hb hq =>
    share_any q gp ge of en W (kept hb h7) (kept hb he) (hn.off q hq).1 (hn.off q hq).2.1 (hn.off q hq).2.2
  have HC : Hid (0 < g.ps.length → ∃ b, g.pa = some ⟨b, 0, none⟩ ∧ b < w.heap.size ∧ ∀ i p, g.ps[i]? = some p → w.cell? ⟨b, 2 * i, none⟩ = some (.int .i64 p.off) ∧ w.cell? ⟨b, 2 * i + 1, none⟩ = some (.slice p.da p.data.length p.dc)) := hg.cells
  clear hg hn h7 he
  go_enter Try.func85, Try.ntmps85
  go_wp2_with fail
  go_loopw [8] (fun i wr => ∃ (k : Nat), k ≤ g.ps.length ∧ i = .int .i64 k ∧ Below w.heap.size w wr ∧ Hid (∀ j p, j < k → g.ps[j]? = some p → shareB of en p = false)) (fun i _ => g.ps.length - (intOf i).toNat)
  case atStart => exact ⟨0, Nat.zero_le _, rfl, Below.refl _ _, fun j p hj => by omega⟩
  case round =>
    obtain ⟨k, hk, rfl, qb, qe⟩ := hrel
    by_cases hlt : k < g.ps.length
    · have ik : (k : Int) < (g.ps.length : Int) := by omega
      obtain ⟨b, hpa, hbl, hcs⟩ := HC.out (by omega)
      obtain ⟨p, hp⟩ : ∃ p, g.ps[k]? = some p := ⟨_, List.getElem?_eq_getElem hlt⟩
      obtain ⟨c0, c1⟩ := hcs k p hp
      have d0 := kept qb c0
      have d1 := kept qb c1
      rw [Nat.mul_comm] at d0 d1
      have hmem : p ∈ g.ps := List.mem_of_getElem? hp
      have KK : Hid _ := KS.out wr p qb hmem
      have HP : Hid (g.ps[k]? = some p) := hp
      rw [hpa]
      clear hcs c0 c1 hp
      go_wp2_with fail
      refine Calls.mono KK.out ?_
      rintro e W2 ⟨rfl, bb⟩
      have b2 := bel_tr qb bb
      clear KK bb d0 d1 qb
      cases hsb : shareB of en p with
      | true =>
        have hany : Hid (g.ps.any (shareB of en) = true) := List.any_eq_true.2 ⟨p, hmem, hsb⟩
        clear qe
        go_wp2
        go_ret
        exact ⟨k, rfl, ⟨fun _ => hany.out, fun _ => by omega⟩, by omega, b2⟩
      | false =>
        have HN : Hid (∀ j q, j < k + 1 → g.ps[j]? = some q → shareB of en q = false) := fun j q hj hq => by
          by_cases e : j = k
          · subst e
            rw [HP.out] at hq
            cases hq
            exact hsb
          · exact qe.out j q (by omega) hq
        clear qe
        go_wp2
        exact ⟨⟨k + 1, by omega, by go_num, b2, HN⟩, by simp [intOf]; omega⟩
    · have ik : ¬ (k : Int) < (g.ps.length : Int) := by omega
      have hall : g.ps.any (shareB of en) = false := by
        rw [List.any_eq_false]
        intro p hp
        obtain ⟨j, hj⟩ := List.getElem?_of_mem hp
        have hjl : j < g.ps.length := (List.getElem?_eq_some_iff.1 hj).1
        rw [qe.out j p (by omega) hj]
        decide
      clear qe
      go_wp2
      go_ret
      exact ⟨-1, rfl, by first | decide | (rw [hall]; decide), by decide, qb⟩
set_option maxRecDepth 100000 in
set_option maxHeartbeats 4000000 in
theorem contains_any (g : Gm) (gp ge : Nat) (of en : Int) (w : World) (hg : GmR w g) (hn : GmN g) (h7 : w.cell? ⟨gp, 11, none⟩ = some (.int .i64 of)) (he : w.cell? ⟨ge, 0, none⟩ = some (.int .i64 en)) :
    Calls Try.prog 73 #[.slice g.pa g.ps.length g.pc, .func (.func 72) #[] #[.pointer (some ⟨gp, 0, none⟩), .pointer (some ⟨ge, 0, none⟩)]] w fun e w' => e = .returned (.bool (g.ps.any (shareB of en))) ∧ Below w.heap.size w w' := by
  have K : Hid _ := indexFunc_any g gp ge of en w hg hn h7 he
  obtain ⟨B, hB⟩ : ∃ B, g.ps.any (shareB of en) = B := ⟨_, rfl⟩
  rw [hB] at K ⊢
  clear hg hn h7 he hB
  go_enter Try.func73, Try.ntmps73
  go_wp2_with fail
  refine Calls.mono K.out ?_
  rintro e W2 ⟨r, rfl, hr, _, bb⟩
  clear K
  by_cases c : 0 ≤ r
  · have hBt : B = true := hr.1 c
    subst hBt
    clear hr
    go_wp2
    go_ret
    exact ⟨by simp_all, bb⟩
  · have hBf : B = false := by
      cases B with
      | false => rfl
      | true => exact absurd (hr.2 rfl) c
    subst hBf
    clear hr
    go_wp2
    go_ret
    exact ⟨by simp_all, bb⟩
end Go.Proofs.Ytebdpiedgjdjeaa
