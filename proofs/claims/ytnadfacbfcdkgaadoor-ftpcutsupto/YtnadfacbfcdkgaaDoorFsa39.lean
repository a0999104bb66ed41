/- Texts joined: FtQ -/
import Derived.Test.YtnadfacbfcdkgaaDoorFsa38
namespace Go.Proofs.YtnadfacbfcdkgaaDoor
open Go.RowKit
set_option linter.unusedVariables false
set_option linter.unusedSimpArgs false
theorem as_cells {w : World} {a : Option Addr} {L : List As} (h : RowN 5 As.v (fun _ _ => True) w a L) (k : Nat) (hk : k < L.length) : ∃ b off, a = some ⟨b, off, none⟩ ∧ w.cell? ⟨b, off + k * 5, none⟩ = some (.int .i64 (L[k]'hk).pr) ∧ w.cell? ⟨b, off + k * 5 + 1, none⟩ = some (.int .i64 (L[k]'hk).a.fam) ∧ w.cell? ⟨b, off + k * 5 + 2, none⟩ = some (.int .u64 (L[k]'hk).a.hi) ∧ w.cell? ⟨b, off + k * 5 + 3, none⟩ = some (.int .u64 (L[k]'hk).a.lo) ∧ w.cell? ⟨b, off + k * 5 + 4, none⟩ = some (.int .i64 (L[k]'hk).po) := by
  obtain ⟨b, off, h1, h2⟩ := h.cells k _ (List.getElem?_eq_getElem hk)
  exact ⟨b, off, h1, h2.2 0 _ rfl, h2.2 1 _ rfl, h2.2 2 _ rfl, h2.2 3 _ rfl, h2.2 4 _ rfl⟩
theorem OwnAs.rowN {w : World} {B : Nat} {a : Option Addr} {c : Nat} {l : List As} (h : OwnAs w B a c l) : RowN 5 As.v (fun _ _ => True) w a l := h.row (fun _ _ => trivial)
set_option maxRecDepth 100000 in
set_option maxHeartbeats 4000000 in
theorem rsameA_ft (L : List As) (a b : Option Addr) (c d : Nat) (w : World) (hl : L.length ≤ 4294967280) (ha : RowN 5 As.v (fun _ _ => True) w a L) (hb : RowN 5 As.v (fun _ _ => True) w b L) :
    Calls Tryd.prog 16 #[.slice a L.length c, .slice b L.length d] w fun e w' => e = .returned (.bool true) ∧ Below w.heap.size w w' := by
  go_enter Tryd.func16, Tryd.ntmps16
  go_wp2
  go_loopw [5] (fun i w' => ∃ (k n : Nat), i = .int .i64 k ∧ k ≤ L.length ∧ w' = w.drewN n) (fun i _ => L.length - (intOf i).toNat)
  case atStart => exact ⟨0, 0, rfl, Nat.zero_le _, rfl⟩
  case round =>
    obtain ⟨k, n, rfl, hk, rfl⟩ := hrel
    by_cases hlt : k < L.length
    · obtain ⟨ba, oa, rfl, a0, a1, a2, a3, a4⟩ := as_cells ha k hlt
      obtain ⟨bb, ob, rfl, b0, b1, b2, b3, b4⟩ := as_cells hb k hlt
      generalize L[k] = x at *
      obtain ⟨p, ⟨f, h, l⟩, q⟩ := x
      simp only at a0 a1 a2 a3 a4 b0 b1 b2 b3 b4
      clear ha hb
      go_wp2
      go_quiet (fail)
      all_goals go_wp2
      all_goals exact ⟨⟨k + 1, _, int_eq (by omega), by omega, rfl⟩, by simp [intOf]; omega⟩
    · clear ha hb
      go_wp2
      go_ret
      exact ⟨rfl, below_drewN (Below.refl _ _) _⟩
set_option maxRecDepth 100000 in
set_option maxHeartbeats 2000000 in
theorem ftpAsks_walk (fam side : Int) (a : Option Addr) (c : Nat) (l : List Int) (w : World) (m : Int) (hlc : l.length ≤ c) (hr : Row w a l) (hl : l.length ≤ 1048576) (hm : w.cell? ⟨0, 0, none⟩ = some (.int .i64 m)) :
    Calls Tryd.prog 5 #[.int .i64 fam, .int .i64 side, .slice a l.length c] w fun e w' => e = .returned (.bool true) ∧ Below w.heap.size w w' := by
  have M : Mx m w := ⟨hm⟩
  have K1 := asks_ft fam side a c l w m M hr (by omega)
  have K2 := fun W (hb : Below w.heap.size w W) => rasks_ft fam side a c l W (hr.below hb) hlc (by omega)
  have hT8 : (asF fam side (strOfNums l).data.toList).length ≤ 8 := fm_len _ _ 8
  generalize asF fam side (strOfNums l).data.toList = T at *
  clear hr
  have H1 : Hid _ := K1
  have H2 : Hid _ := K2
  clear K1 K2 hm
  go_enter Tryd.func5, Tryd.ntmps5
  go_wp2_with fail
  refine Calls.mono H1.out ?_
  rintro e W1 ⟨a1, k1, rfl, g1⟩
  go_wp2_with fail
  refine Calls.mono (H2.out W1 g1.below) ?_
  rintro e W2 ⟨a2, k2, rfl, g2⟩
  have r1 := (g1.owns.below g2.below).rowN
  have r2 := g2.owns.rowN
  have b2 := bel_tr g1.below g2.below
  have M2 : Mx m W2 := M.kept b2
  clear g1 g2 H1 H2
  go_wp2_with fail
  refine Calls.mono (rsameA_ft T a1 a2 k1 k2 W2 (by omega) r1 r2) ?_
  rintro e W3 ⟨rfl, b3⟩
  have M3 := M2.kept b3
  have b03 := bel_tr b2 b3
  clear r1 r2 b2 b3 M2
  go_wp2_with fail
  refine Calls.mono (alive_ft m W3 M3) ?_
  rintro e W4 ⟨rfl, b4⟩
  have b04 := bel_tr b03 b4
  go_wp2
  go_ret
  exact ⟨rfl, b04⟩
end Go.Proofs.YtnadfacbfcdkgaaDoor
