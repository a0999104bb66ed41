/- Texts joined: XpI -/
import Derived.Test.YtmflogmocgbmhaaXpa17
namespace Go.Proofs.Ytmflogmocgbmhaa
open Go.RowKit
set_option linter.unusedVariables false
set_option linter.unusedSimpArgs false
set_option maxRecDepth 100000 in
set_option maxHeartbeats 4000000 in
theorem cut_way (tb g : Nat) (s : Xt) (a : Option Addr) (c : Nat) (x : Wy) (w : World) (T : Blk w tb 61 (tabW s a c)) (O : OwnW w 0 a c s.L) (nOT : ∀ y : Addr, a = some y → y.block ≠ tb) (G : Blk w g 26 x.v) (nOG : ∀ y : Addr, a = some y → y.block ≠ g) (nTG : tb ≠ g) (hll : s.L.length ≤ 1000000) :
    Calls Try.prog 43 #[.pointer (some ⟨tb, 0, none⟩), .func (.func 55) #[] #[.pointer (some ⟨g, 0, none⟩)]] w fun e w' => e = .returned (.int .i64 ((s.L.length : Int) - ((s.L.filter fun q : Wt => !(q.w.eqB x)).length : Int))) ∧ Blk w' tb 61 (tabW ⟨s.most, s.quota, s.now, (s.L.filter fun q : Wt => !(q.w.eqB x))⟩ a c) ∧ OwnW w' 0 a c (s.L.filter fun q : Wt => !(q.w.eqB x)) ∧ But (fun k => k = tb ∨ a.map (·.block) = some k) w w' := by
  have nGT : g ≠ tb := fun e => nTG e.symm
  have hfl := List.length_filter_le (fun q : Wt => !(q.w.eqB x)) s.L
  have hwr : IntKind.i64.wrap ((s.L.length : Int) - ((s.L.filter fun q : Wt => !(q.w.eqB x)).length : Int)) = (s.L.length : Int) - ((s.L.filter fun q : Wt => !(q.w.eqB x)).length : Int) := by simp [IntKind.wrap, IntKind.bits, IntKind.signed]; omega
  obtain ⟨R, hR⟩ : ∃ R, (0 : Int) = R := ⟨_, rfl⟩
  have HR : Hid ((0 : Int) = R) := hR
  try rw [hR]
  clear hR
  have b := But.refl (fun k => k = tb ∨ a.map (·.block) = some k) w
  go_enter Try.func43, Try.ntmps43
  have c1 := T.cell 4 (.slice a s.L.length c) rfl
  go_wp2_with fail
  clear c1
  refine Calls.mono (del_way 0 a c s.L x g _ O hll G nOG) ?_
  rintro e Wm2 ⟨rfl, Om2, bb⟩
  have Tm2 := T.but bb (map_ne nOT)
  have Gm2 := G.but bb (map_ne nOG)
  have bm2 := b.trans bb (fun n _ e => .inr e)
  clear bb
  have y4 := Tm2.cell 4 (.slice a s.L.length c) rfl
  have z5 := Tm2.frozen 4
  obtain ⟨Wm3, hWm3⟩ : ∃ W, Wm2.setCell ⟨tb, 4, none⟩ (.slice a (s.L.filter fun q : Wt => !(q.w.eqB x)).length c) = W := ⟨_, rfl⟩
  have Tm3 : Blk Wm3 tb 61 (tabW ⟨s.most, s.quota, s.now, (s.L.filter fun q : Wt => !(q.w.eqB x))⟩ a c) := hWm3 ▸ Tm2.put 4 (.slice a (s.L.filter fun q : Wt => !(q.w.eqB x)).length c)
  have Om3 := hWm3 ▸ Om2.put_other Tm2 nOT 4 (.slice a (s.L.filter fun q : Wt => !(q.w.eqB x)).length c)
  have Gm3 := hWm3 ▸ Gm2.put_other Tm2 nGT 4 (.slice a (s.L.filter fun q : Wt => !(q.w.eqB x)).length c)
  have bm3 := hWm3 ▸ bm2.setCell tb 4 (.inl (.inl rfl)) (.slice a (s.L.filter fun q : Wt => !(q.w.eqB x)).length c)
  have c6 := Tm3.cell 4 (.slice a (s.L.filter fun q : Wt => !(q.w.eqB x)).length c) rfl
  go_wp2_with fail
  go_ret
  exact ⟨rfl, Tm3, Om3, bm3⟩
set_option maxRecDepth 100000 in
set_option maxHeartbeats 4000000 in
theorem cut_mas (tb g : Nat) (s : Xt) (a : Option Addr) (c : Nat) (x : Wy) (w : World) (T : Blk w tb 61 (tabW s a c)) (O : OwnW w 0 a c s.L) (nOT : ∀ y : Addr, a = some y → y.block ≠ tb) (G : Blk w g 26 x.v) (nOG : ∀ y : Addr, a = some y → y.block ≠ g) (nTG : tb ≠ g) (hll : s.L.length ≤ 1000000) :
    Calls Try.prog 43 #[.pointer (some ⟨tb, 0, none⟩), .func (.func 57) #[] #[.pointer (some ⟨g, 0, none⟩)]] w fun e w' => e = .returned (.int .i64 ((s.L.length : Int) - ((s.L.filter fun q : Wt => !(q.m.eqB x)).length : Int))) ∧ Blk w' tb 61 (tabW ⟨s.most, s.quota, s.now, (s.L.filter fun q : Wt => !(q.m.eqB x))⟩ a c) ∧ OwnW w' 0 a c (s.L.filter fun q : Wt => !(q.m.eqB x)) ∧ But (fun k => k = tb ∨ a.map (·.block) = some k) w w' := by
  have nGT : g ≠ tb := fun e => nTG e.symm
  have hfl := List.length_filter_le (fun q : Wt => !(q.m.eqB x)) s.L
  have hwr : IntKind.i64.wrap ((s.L.length : Int) - ((s.L.filter fun q : Wt => !(q.m.eqB x)).length : Int)) = (s.L.length : Int) - ((s.L.filter fun q : Wt => !(q.m.eqB x)).length : Int) := by simp [IntKind.wrap, IntKind.bits, IntKind.signed]; omega
  obtain ⟨R, hR⟩ : ∃ R, (0 : Int) = R := ⟨_, rfl⟩
  have HR : Hid ((0 : Int) = R) := hR
  try rw [hR]
  clear hR
  have b := But.refl (fun k => k = tb ∨ a.map (·.block) = some k) w
  go_enter Try.func43, Try.ntmps43
  have c1 := T.cell 4 (.slice a s.L.length c) rfl
  go_wp2_with fail
  clear c1
  refine Calls.mono (del_mas 0 a c s.L x g _ O hll G nOG) ?_
  rintro e Wm2 ⟨rfl, Om2, bb⟩
  have Tm2 := T.but bb (map_ne nOT)
  have Gm2 := G.but bb (map_ne nOG)
  have bm2 := b.trans bb (fun n _ e => .inr e)
  clear bb
  have y4 := Tm2.cell 4 (.slice a s.L.length c) rfl
  have z5 := Tm2.frozen 4
  obtain ⟨Wm3, hWm3⟩ : ∃ W, Wm2.setCell ⟨tb, 4, none⟩ (.slice a (s.L.filter fun q : Wt => !(q.m.eqB x)).length c) = W := ⟨_, rfl⟩
  have Tm3 : Blk Wm3 tb 61 (tabW ⟨s.most, s.quota, s.now, (s.L.filter fun q : Wt => !(q.m.eqB x))⟩ a c) := hWm3 ▸ Tm2.put 4 (.slice a (s.L.filter fun q : Wt => !(q.m.eqB x)).length c)
  have Om3 := hWm3 ▸ Om2.put_other Tm2 nOT 4 (.slice a (s.L.filter fun q : Wt => !(q.m.eqB x)).length c)
  have Gm3 := hWm3 ▸ Gm2.put_other Tm2 nGT 4 (.slice a (s.L.filter fun q : Wt => !(q.m.eqB x)).length c)
  have bm3 := hWm3 ▸ bm2.setCell tb 4 (.inl (.inl rfl)) (.slice a (s.L.filter fun q : Wt => !(q.m.eqB x)).length c)
  have c6 := Tm3.cell 4 (.slice a (s.L.filter fun q : Wt => !(q.m.eqB x)).length c) rfl
  go_wp2_with fail
  go_ret
  exact ⟨rfl, Tm3, Om3, bm3⟩
set_option maxRecDepth 100000 in
set_option maxHeartbeats 4000000 in
theorem cut_end (tb g : Nat) (s : Xt) (a : Option Addr) (c : Nat) (x : Int) (w : World) (T : Blk w tb 61 (tabW s a c)) (O : OwnW w 0 a c s.L) (nOT : ∀ y : Addr, a = some y → y.block ≠ tb) (G : Blk w g 3 #[.int .i64 x]) (nOG : ∀ y : Addr, a = some y → y.block ≠ g) (nTG : tb ≠ g) (hll : s.L.length ≤ 1000000) :
    Calls Try.prog 43 #[.pointer (some ⟨tb, 0, none⟩), .func (.func 45) #[] #[.pointer (some ⟨g, 0, none⟩)]] w fun e w' => e = .returned (.int .i64 ((s.L.length : Int) - ((s.L.filter fun q : Wt => !(decide (q.ends ≤ x))).length : Int))) ∧ Blk w' tb 61 (tabW ⟨s.most, s.quota, s.now, (s.L.filter fun q : Wt => !(decide (q.ends ≤ x)))⟩ a c) ∧ OwnW w' 0 a c (s.L.filter fun q : Wt => !(decide (q.ends ≤ x))) ∧ But (fun k => k = tb ∨ a.map (·.block) = some k) w w' := by
  have nGT : g ≠ tb := fun e => nTG e.symm
  have hfl := List.length_filter_le (fun q : Wt => !(decide (q.ends ≤ x))) s.L
  have hwr : IntKind.i64.wrap ((s.L.length : Int) - ((s.L.filter fun q : Wt => !(decide (q.ends ≤ x))).length : Int)) = (s.L.length : Int) - ((s.L.filter fun q : Wt => !(decide (q.ends ≤ x))).length : Int) := by simp [IntKind.wrap, IntKind.bits, IntKind.signed]; omega
  obtain ⟨R, hR⟩ : ∃ R, (0 : Int) = R := ⟨_, rfl⟩
  have HR : Hid ((0 : Int) = R) := hR
  try rw [hR]
  clear hR
  have b := But.refl (fun k => k = tb ∨ a.map (·.block) = some k) w
  go_enter Try.func43, Try.ntmps43
  have c1 := T.cell 4 (.slice a s.L.length c) rfl
  go_wp2_with fail
  clear c1
  refine Calls.mono (del_end 0 a c s.L x g _ O hll G nOG) ?_
  rintro e Wm2 ⟨rfl, Om2, bb⟩
  have Tm2 := T.but bb (map_ne nOT)
  have Gm2 := G.but bb (map_ne nOG)
  have bm2 := b.trans bb (fun n _ e => .inr e)
  clear bb
  have y4 := Tm2.cell 4 (.slice a s.L.length c) rfl
  have z5 := Tm2.frozen 4
  obtain ⟨Wm3, hWm3⟩ : ∃ W, Wm2.setCell ⟨tb, 4, none⟩ (.slice a (s.L.filter fun q : Wt => !(decide (q.ends ≤ x))).length c) = W := ⟨_, rfl⟩
  have Tm3 : Blk Wm3 tb 61 (tabW ⟨s.most, s.quota, s.now, (s.L.filter fun q : Wt => !(decide (q.ends ≤ x)))⟩ a c) := hWm3 ▸ Tm2.put 4 (.slice a (s.L.filter fun q : Wt => !(decide (q.ends ≤ x))).length c)
  have Om3 := hWm3 ▸ Om2.put_other Tm2 nOT 4 (.slice a (s.L.filter fun q : Wt => !(decide (q.ends ≤ x))).length c)
  have Gm3 := hWm3 ▸ Gm2.put_other Tm2 nGT 4 (.slice a (s.L.filter fun q : Wt => !(decide (q.ends ≤ x))).length c)
  have bm3 := hWm3 ▸ bm2.setCell tb 4 (.inl (.inl rfl)) (.slice a (s.L.filter fun q : Wt => !(decide (q.ends ≤ x))).length c)
  have c6 := Tm3.cell 4 (.slice a (s.L.filter fun q : Wt => !(decide (q.ends ≤ x))).length c) rfl
  go_wp2_with fail
  go_ret
  exact ⟨rfl, Tm3, Om3, bm3⟩
end Go.Proofs.Ytmflogmocgbmhaa
