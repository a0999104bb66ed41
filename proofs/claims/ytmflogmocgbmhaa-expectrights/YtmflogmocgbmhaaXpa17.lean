/- Texts joined: XpH -/
import Derived.Test.YtmflogmocgbmhaaXpa16
namespace Go.Proofs.Ytmflogmocgbmhaa
open Go.RowKit
set_option linter.unusedVariables false
set_option linter.unusedSimpArgs false
/-- A table's cells. -/
abbrev tabW (s : Xt) (a : Option Addr) (c : Nat) : Array Value := #[.bool true, .int .i64 s.most, .int .i64 s.quota, .int .i64 s.now, .slice a s.L.length c]
theorem OwnW.kept {w w' : World} {B : Nat} {a : Option Addr} {c : Nat} {l : List Wt} (h : OwnW w B a c l) (b : Below w.heap.size w w') : OwnW w' B a c l := h.below b
theorem OwnW.al {w w' : World} {B : Nat} {a : Option Addr} {c : Nat} {l : List Wt} {o : Obj} (h : OwnW w B a c l) (e : w.alloc o = w') : OwnW w' B a c l := h.below (bel_nw e)
theorem OwnW.drew {w : World} {B : Nat} {a : Option Addr} {c : Nat} {l : List Wt} (h : OwnW w B a c l) : OwnW w.drew B a c l := h.below (Below.refl _ _).drew
theorem OwnW.but {F : Nat → Prop} {w w' : World} {B : Nat} {a : Option Addr} {c : Nat} {l : List Wt} (h : OwnW w B a c l) (b : But F w w') (hn : ∀ y : Addr, a = some y → ¬ F y.block) : OwnW w' B a c l := h.at_ fun y hy => b.block y.block (h.lt_size y hy) (hn y hy)
theorem OwnW.other {w : World} {B g : Nat} {a : Option Addr} {c : Nat} {l : List Wt} (h : OwnW w B a c l) (hn : ∀ y : Addr, a = some y → y.block ≠ g) (cs : Array Value) : OwnW (w.setRow g cs) B a c l := h.but ((But.refl (fun k => k = g) w).setRow g (.inl rfl) cs) hn
theorem OwnW.put_other {w : World} {B g : Nat} {a : Option Addr} {c : Nat} {l : List Wt} {t : TypeId} {cs : Array Value} (h : OwnW w B a c l) (_ : Blk w g t cs) (hn : ∀ y : Addr, a = some y → y.block ≠ g) (i : Nat) (v : Value) : OwnW (w.setCell ⟨g, i, none⟩ v) B a c l := h.but ((But.refl (fun k => k = g) w).setCell g i (.inl rfl) v) hn
theorem map_ne {a : Option Addr} {g : Nat} (h : ∀ y : Addr, a = some y → y.block ≠ g) : ¬ a.map (·.block) = some g := fun e => by
  cases ha : a with
  | none => rw [ha] at e; cases e
  | some y => rw [ha] at e; injection e with e; exact h y ha e
set_option maxRecDepth 100000 in
theorem eq_nilW (a : Option Addr) (n c : Nat) (w : World) : (binOp .eql 39 (.slice a n c) (.slice none 0 0)).run Try.prog w = .ok (.bool a.isNone) w := by
  cases a <;> rfl
theorem OwnW.cellsOf {w : World} {B g c : Nat} {l : List Wt} (h : OwnW w B (some ⟨g, 0, none⟩) c l) {j : Nat} {u : Value} (hu : (pcW l)[j]? = some u) : w.cell? ⟨g, j, none⟩ = some u := by
  obtain ⟨cur, hb, hs, hBg, hlc, hcm, hel⟩ := h.blk
  have hlen : (pcW l).length = l.length * 22 := wt_len _ 22 wtv_len l
  have hj : j < l.length * 22 := by have := (List.getElem?_eq_some_iff.1 hu).1; omega
  obtain ⟨q, hq⟩ : ∃ q, l[j / 22]? = some q := ⟨_, List.getElem?_eq_getElem (by omega)⟩
  have h1 := hel (j / 22) q (j % 22) hq (by omega)
  have h2 := wt_get (fun q : Wt => q.v.toList) 22 wtv_len l (j / 22) (j % 22) q hq (by omega)
  rw [show j / 22 * 22 + j % 22 = j by omega] at h1 h2
  refine hb.cell j u ?_
  rw [h1, ← hu]
  show _ = (l.flatMap fun q => q.v.toList)[j]?
  rw [h2]
  simp
theorem pc_one (l : List Wt) : ∀ u ∈ pcW l, u.oneCell' = true := fun u hu => by
  obtain ⟨q, _, h⟩ := List.mem_flatMap.1 hu
  exact wtv_one q u h
set_option maxRecDepth 100000 in
set_option maxHeartbeats 2000000 in
theorem clone_xp (B : Nat) (a : Option Addr) (c : Nat) (l : List Wt) (w : World) (h : OwnW w B a c l) (hl : l.length ≤ 1000000) :
    Calls Try.prog 40 #[.slice a l.length c] w fun e w' => ∃ a' c', e = .returned (.slice a' l.length c') ∧ OwnW w' w.heap.size a' c' l ∧ Below w.heap.size w w' := by
  obtain ⟨i0, hi, hz0, hz1, hz2⟩ := info_parts info_want
  cases a with
  | none =>
    have h0 : l = [] ∧ c = 0 := by
      rcases h.2 with ⟨h6, h7⟩ | ⟨g, cap', cur, h6, _⟩
      · simp only [Value.slice.injEq] at h6
        exact ⟨List.length_eq_zero_iff.1 h7, h6.2.2⟩
      · cases h6
    obtain ⟨rfl, rfl⟩ := h0
    have hq := eq_nilW none 0 0 w
    clear h
    go_enter Try.func40, Try.ntmps40
    go_wp2
    go_ret
    exact ⟨none, 0, rfl, ⟨rfl, .inl ⟨rfl, rfl⟩⟩, Below.refl _ _⟩
  | some x =>
    obtain ⟨g, rfl⟩ : ∃ g, x = ⟨g, 0, none⟩ := by
      rcases h.2 with ⟨h6, _⟩ | ⟨g, cap', cur, h6, _⟩
      · cases h6
      · simp only [Value.slice.injEq, Option.some.injEq] at h6
        exact ⟨g, h6.1⟩
    obtain ⟨W1, hW1⟩ : ∃ W, w.alloc (.cells #[] 28) = W := ⟨_, rfl⟩
    have o1 : W1.ownsRow w.heap.size 28 22 (.slice (some ⟨w.heap.size, 0, none⟩) 0 0) 0 [] := by
      rw [← hW1]
      exact ⟨rfl, Or.inr ⟨w.heap.size, 0, #[], rfl, Nat.le_refl _, World.heap_new w _, Nat.le_refl _, by unfold maxLen; omega, rfl, rfl⟩⟩
    have b1 := bel_nw hW1
    have r1 : Hid (OwnW W1 B (some ⟨g, 0, none⟩) c l) := h.below b1
    have hq := eq_nilW (some ⟨g, 0, none⟩) l.length c w
    have hnews : Hid (∀ j u, (pcW l)[j]? = some u → W1.cell? ((⟨g, 0, none⟩ : Addr).add j) = some u) := fun j u hj => by
      rw [show (⟨g, 0, none⟩ : Addr).add j = ⟨g, 0 + j, none⟩ from Go.WideShapes.add_plain .., Nat.zero_add]
      exact r1.out.cellsOf hj
    have h1 := pc_one l
    have hlen : (pcW l).length = l.length * 22 := wt_len _ 22 wtv_len l
    have HL : Hid ((pcW l).length = l.length * 22) := hlen
    obtain ⟨xs, hxs⟩ : ∃ xs, pcW l = xs := ⟨_, rfl⟩
    have HX : Hid (pcW l = xs) := hxs
    rw [hxs] at h1 hnews
    have hlen2 : xs.length = l.length * 22 := by rw [← hxs]; exact hlen
    have HL2 : Hid (xs.length = l.length * 22) := hlen2
    clear h hlen hxs HL hlen2
    obtain ⟨N, hN⟩ : ∃ N, l.length = N := ⟨_, rfl⟩
    have HN : Hid (l.length = N) := hN
    rw [hN] at hq hl HL2 ⊢
    clear hN
    go_enter Try.func40, Try.ntmps40
    go_wp2_with (at_builtin; refine wpList_append_own W1 rfl _ _ 39 rfl w.heap.size 28 i0 _ 22 176 Try.underlying39 hi hz0 hz1 hz2 rfl (by decide) (.slice (some ⟨w.heap.size, 0, none⟩) 0 0) 0 [] (by rfl) o1 ⟨g, 0, none⟩ N c xs (by rfl) HL2.out hnews.out h1 (by unfold maxLen; omega) (by omega) b1.size ?_)
    intro v' w4 o4 g5 _
    have b4 : Below w.heap.size w w4 := b1.grown g5 b1.size (fun k hk => by cases hk; exact Nat.le_refl _)
    have o5 : w4.ownsRow w.heap.size 28 22 v' N xs := by simpa using o4
    have hv : ∃ a' c', v' = .slice a' N c' := by
      rcases o5.2 with ⟨h2, h3⟩ | ⟨g, cap, cur, h2, _⟩
      · exact ⟨none, 0, by rw [h2, h3]⟩
      · exact ⟨_, _, h2⟩
    obtain ⟨a', c', rfl⟩ := hv
    have o6 : Hid (OwnW w4 w.heap.size a' c' l) := by
      show w4.ownsRow w.heap.size 28 22 (.slice a' l.length c') l.length (pcW l)
      rw [HN.out, HX.out]
      exact o5
    clear o4 o5 g5 hnews h1
    go_wp2
    go_ret
    exact ⟨a', c', rfl, o6.out, b4⟩
set_option maxRecDepth 100000 in
set_option maxHeartbeats 4000000 in
theorem ofway_xp (x : Wy) (w : World) :
    Calls Try.prog 44 #[.agg x.v] w fun e w' => ∃ g, e = .returned (.func (.func 55) #[] #[.pointer (some ⟨g, 0, none⟩)]) ∧ w.heap.size ≤ g ∧ Blk w' g 26 x.v ∧ Below w.heap.size w w' := by
  have hmf : ∀ (fn : Fn) (first cap : Array Value) (W : World), (Instr.makeFunc fn first cap).run Try.prog W = .ok (.func fn first cap) W := fun _ _ _ _ => rfl
  obtain ⟨R, hR⟩ : ∃ R, (0 : Int) = R := ⟨_, rfl⟩
  have HR : Hid ((0 : Int) = R) := hR
  try rw [hR]
  clear hR
  have b := Below.refl w.heap.size w
  go_enter Try.func44, Try.ntmps44
  obtain ⟨Wm1, hWm1⟩ : ∃ W, w.alloc (.cells x.v 26) = W := ⟨_, rfl⟩
  have bm1 := bel_al b hWm1
  have Am1 := blk_nw hWm1
  have gA : w.heap.size ≤ w.heap.size := b.size
  go_wp2_with fail
  go_ret
  exact ⟨w.heap.size, rfl, Nat.le_refl _, Am1, bm1⟩
set_option maxRecDepth 100000 in
set_option maxHeartbeats 4000000 in
theorem ofmas_xp (x : Wy) (w : World) :
    Calls Try.prog 48 #[.agg x.v] w fun e w' => ∃ g, e = .returned (.func (.func 57) #[] #[.pointer (some ⟨g, 0, none⟩)]) ∧ w.heap.size ≤ g ∧ Blk w' g 26 x.v ∧ Below w.heap.size w w' := by
  have hmf : ∀ (fn : Fn) (first cap : Array Value) (W : World), (Instr.makeFunc fn first cap).run Try.prog W = .ok (.func fn first cap) W := fun _ _ _ _ => rfl
  obtain ⟨R, hR⟩ : ∃ R, (0 : Int) = R := ⟨_, rfl⟩
  have HR : Hid ((0 : Int) = R) := hR
  try rw [hR]
  clear hR
  have b := Below.refl w.heap.size w
  go_enter Try.func48, Try.ntmps48
  obtain ⟨Wm1, hWm1⟩ : ∃ W, w.alloc (.cells x.v 26) = W := ⟨_, rfl⟩
  have bm1 := bel_al b hWm1
  have Am1 := blk_nw hWm1
  have gA : w.heap.size ≤ w.heap.size := b.size
  go_wp2_with fail
  go_ret
  exact ⟨w.heap.size, rfl, Nat.le_refl _, Am1, bm1⟩
set_option maxRecDepth 100000 in
set_option maxHeartbeats 4000000 in
theorem made_nil_xp (w : World) :
    Calls Try.prog 39 #[.pointer none] w fun e w' => e = .returned (.bool false) ∧ Below w.heap.size w w' := by
  obtain ⟨R, hR⟩ : ∃ R, false = R := ⟨_, rfl⟩
  have HR : Hid (false = R) := hR
  try rw [hR]
  clear hR
  have b := Below.refl w.heap.size w
  go_enter Try.func39, Try.ntmps39
  go_wp2_with fail
  go_ret
  exact ⟨retB_fw (by (try rw [← HR.out]) <;> first | rfl | (simp []; done) | (simp []; rfl)), b⟩
set_option maxRecDepth 100000 in
set_option maxHeartbeats 4000000 in
theorem made_un_xp (tb : Nat) (w : World) (T : Blk w tb 61 #[.bool false, .int .i64 0, .int .i64 0, .int .i64 0, .slice none 0 0]) :
    Calls Try.prog 39 #[.pointer (some ⟨tb, 0, none⟩)] w fun e w' => e = .returned (.bool false) ∧ Below w.heap.size w w' := by
  obtain ⟨R, hR⟩ : ∃ R, false = R := ⟨_, rfl⟩
  have HR : Hid (false = R) := hR
  try rw [hR]
  clear hR
  have b := Below.refl w.heap.size w
  go_enter Try.func39, Try.ntmps39
  have c1 := T.cell 0 (.bool false) rfl
  go_wp2_with fail
  go_ret
  exact ⟨retB_fw (by (try rw [← HR.out]) <;> first | rfl | (simp []; done) | (simp []; rfl)), b⟩
set_option maxRecDepth 100000 in
set_option maxHeartbeats 4000000 in
theorem made_at_xp (tb : Nat) (s : Xt) (a : Option Addr) (c : Nat) (w : World) (T : Blk w tb 61 (tabW s a c)) :
    Calls Try.prog 39 #[.pointer (some ⟨tb, 0, none⟩)] w fun e w' => e = .returned (.bool true) ∧ Below w.heap.size w w' := by
  obtain ⟨R, hR⟩ : ∃ R, true = R := ⟨_, rfl⟩
  have HR : Hid (true = R) := hR
  try rw [hR]
  clear hR
  have b := Below.refl w.heap.size w
  go_enter Try.func39, Try.ntmps39
  have c1 := T.cell 0 (.bool true) rfl
  go_wp2_with fail
  go_ret
  exact ⟨retB_fw (by (try rw [← HR.out]) <;> first | rfl | (simp []; done) | (simp []; rfl)), b⟩
end Go.Proofs.Ytmflogmocgbmhaa
