/- Texts joined: ChunkCutsWalk -/
import Derived.Test.YtgppfkbapieneaaDoorCcx39
namespace Go.Proofs.YtgppfkbapieneaaDoor
open Go.RowKit
set_option linter.unusedVariables false
set_option linter.unusedSimpArgs false
/-- What a cut must be. -/
def Cuts (l : List Rl) (dim : Int) (L : List Pt) (K : List Nat) (S : List (List Nat)) : Prop := (errC l dim ≠ 0 ∧ L = [] ∧ K = [] ∧ S = []) ∨ (errC l dim = 0 ∧ CutP l dim.toNat L K S)
theorem Cuts.uniq {l : List Rl} {dim : Int} {L L' : List Pt} {K K' : List Nat} {S S' : List (List Nat)} (h : Cuts l dim L K S) (h' : Cuts l dim L' K' S') : L = L' ∧ K = K' ∧ S = S' := by
  rcases h with ⟨h0, h1, h2, h3⟩ | ⟨h0, h1⟩ <;> rcases h' with ⟨g0, g1, g2, g3⟩ | ⟨g0, g1⟩
  · exact ⟨by rw [h1, g1], by rw [h2, g2], by rw [h3, g3]⟩
  · exact absurd g0 h0
  · exact absurd h0 g0
  · exact h1.uniq g1
theorem Cuts.few {l : List Rl} {dim : Int} {L : List Pt} {K : List Nat} {S : List (List Nat)} (h : Cuts l dim L K S) : L.length ≤ 129 ∧ K.length = L.length ∧ S.length ≤ 129 := by
  rcases h with ⟨h0, h1, h2, h3⟩ | ⟨h0, h1⟩
  · simp [h1, h2, h3]
  · obtain ⟨d, _, _, h4, _⟩ := err_ok h0
    have := h1.few
    have := h1.num
    exact ⟨by omega, h1.len, by omega⟩
/-- A cut that was answered, as it is read. -/
def CutGot (l : List Rl) (dim : Int) (e : Ending) (w : World) : Prop := ∃ a1 c1 a2 c2 a3 c3 L K S, e = .returned (.tuple #[.agg #[.slice a1 (L : List Pt).length c1, .slice a2 L.length c2, .slice a3 (S : List (List Nat)).length c3], .int .i64 (errC l dim)]) ∧ RowP w a1 L ∧ RowI w a2 (ints K) ∧ RowS w a3 (S.map ints) ∧ Cuts l dim L K S
theorem rowp_nil (w : World) : RowP w none [] := ⟨fun r hr => by simp at hr, fun i r hr => by simp at hr⟩
theorem rowi_nil (w : World) : RowI w none [] := ⟨by simp, fun h => by simp at h⟩
theorem rows_nil (w : World) : RowS w none [] := ⟨by simp, fun i s h => by simp at h⟩
theorem got_err {l : List Rl} {dim : Int} (h : errC l dim ≠ 0) (w : World) : CutGot l dim (.returned (.tuple #[.agg zc, .int .i64 (errC l dim)])) w :=
  ⟨none, 0, none, 0, none, 0, [], [], [], rfl, rowp_nil w, rowi_nil w, rows_nil w, .inl ⟨h, rfl, rfl, rfl⟩⟩
theorem got_ok {l : List Rl} {dim : Int} (h : errC l dim = 0) {w : World} {B g1 c1 : Nat} {ka : Option Addr} {kc : Nat} {sa : Option Addr} {sc : Nat} {vs : List Value} {L : List Pt} {K : List Nat} {S : List (List Nat)} (hc : CutIn w B g1 c1 ka kc sa sc vs L K S) (hp : CutP l dim.toNat L K S) :
    CutGot l dim (.returned (.tuple #[.agg #[.slice (some ⟨g1, 0, none⟩) L.length c1, .slice ka L.length kc, .slice sa S.length sc], .int .i64 0])) w := by
  obtain ⟨d, _, _, hl, _⟩ := err_ok h
  exact ⟨_, c1, ka, kc, sa, sc, L, K, S, by rw [h], hc.rp hp, hc.ri hp hl, hc.rs hp hl, .inr ⟨h, hp⟩⟩
theorem cut_all (a : Option Addr) (c : Nat) (l : List Rl) (dim : Int) (w : World) (hT : Top w) (hrow : RowR w a l) :
    Calls Tryd.prog 10 #[.slice a l.length c, .int .i64 dim] w fun e w' => CutGot l dim e w' ∧ Below w.heap.size w w' := by
  by_cases h : errC l dim = 0
  · refine (cut_ok a c l dim w hT hrow h).mono ?_
    rintro e w' ⟨g1, c1, ka, kc, sa, sc, vs, L, K, S, rfl, hc, hp, hb⟩
    exact ⟨got_ok h hc hp, hb⟩
  · refine (cut_err a c l dim w hT hrow h).mono ?_
    rintro e w' ⟨rfl, hb⟩
    exact ⟨got_err h w', hb⟩
theorem rcut_all (a : Option Addr) (c : Nat) (l : List Rl) (dim : Int) (w : World) (hrow : RowR w a l) :
    Calls Tryd.prog 11 #[.slice a l.length c, .int .i64 dim] w fun e w' => CutGot l dim e w' ∧ Below w.heap.size w w' := by
  by_cases h : errC l dim = 0
  · refine (rcut_ok a c l dim w hrow h).mono ?_
    rintro e w' ⟨g1, c1, ka, kc, sa, sc, vs, L, K, S, rfl, hc, hp, hb⟩
    exact ⟨got_ok h hc hp, hb⟩
  · refine (rcut_err a c l dim w hrow h).mono ?_
    rintro e w' ⟨rfl, hb⟩
    exact ⟨got_err h w', hb⟩
/-- The document's Same of two cuts that must be the same. -/
theorem rsame_got (a1 a2 a3 b1 b2 b3 : Option Addr) (c1 c2 c3 d1 d2 d3 : Nat) {l : List Rl} {dim : Int} {L L' : List Pt} {K K' : List Nat} {S S' : List (List Nat)} (w : World) (hc : Cuts l dim L K S) (hc' : Cuts l dim L' K' S') (h1 : RowP w a1 L) (h2 : RowI w a2 (ints K)) (h3 : RowS w a3 (S.map ints)) (g1 : RowP w b1 L') (g2 : RowI w b2 (ints K')) (g3 : RowS w b3 (S'.map ints)) :
    Calls Tryd.prog 12 #[.agg #[.slice a1 L.length c1, .slice a2 L.length c2, .slice a3 S.length c3], .agg #[.slice b1 L'.length d1, .slice b2 L'.length d2, .slice b3 S'.length d3]] w fun e w' => e = .returned (.bool true) ∧ Below w.heap.size w w' := by
  have K1 := rsame_ck a1 a2 a3 b1 b2 b3 c1 c2 c3 d1 d2 d3 L L' (ints K) (ints K') (S.map ints) (S'.map ints) w (by have := hc.few; omega) h1 h2 h3 g1 g2 g3
  rw [List.length_map, List.length_map, List.length_map, List.length_map, hc.few.2.1, hc'.few.2.1] at K1
  refine K1.mono ?_
  rintro e w' ⟨⟨r, rfl, hr⟩, hb⟩
  obtain ⟨e1, e2, e3⟩ := hc.uniq hc'
  rw [hr.2 ⟨e1, by rw [e2], by rw [e3]⟩]
  exact ⟨rfl, hb⟩
set_option maxRecDepth 100000 in
set_option maxHeartbeats 16000000 in
theorem chunkCuts_walk (a : Option Addr) (c : Nat) (l : List Rl) (dim : Int) (w : World) (lc : l.length ≤ c) (cm : c * 136 ≤ 140737488351232 ∧ (a = none → c = 0)) (hrow : RowR w a l) (hT : Top w) : Calls Tryd.prog 3 #[.slice a l.length c, .int .i64 dim] w fun e w' => e = .returned (.bool true) ∧ Below w.heap.size w w' := by
  have KA : Hid (∀ W, Top W → Calls Tryd.prog 13 #[] W fun e w' => e = .returned (.bool true) ∧ Below W.heap.size W w') := alive_ck
  have HT : Hid (Top w) := hT
  have HRow : Hid (RowR w a l) := hrow
  have K1 := hidW (cut_all a c l dim w hT hrow)
  have K2 : Hid (∀ W, Below w.heap.size w W → Calls Tryd.prog 11 #[.slice a l.length c, .int .i64 dim] W fun e w' => CutGot l dim e w' ∧ Below W.heap.size W w') := fun W hb => rcut_all a c l dim W (hrow.low hb)
  obtain ⟨N, hN⟩ : ∃ N, l.length = N := ⟨_, rfl⟩
  rw [hN] at K1 K2 ⊢
  clear hrow hT hN
  go_enter Tryd.func3, Tryd.ntmps3
  go_wp2_with fail
  refine Calls.mono K1.out ?_
  rintro e W2 ⟨⟨a1, c1, a2, c2, a3, c3, L, K, S, rfl, h1, h2, h3, hc⟩, b2⟩
  have H1 : Hid (RowP W2 a1 L) := h1
  have H2 : Hid (RowI W2 a2 (ints K)) := h2
  have H3 : Hid (RowS W2 a3 (S.map ints)) := h3
  have HC : Hid (Cuts l dim L K S) := hc
  clear h1 h2 h3 hc K1
  obtain ⟨E, hE⟩ : ∃ E, errC l dim = E := ⟨_, rfl⟩
  have HE : Hid (errC l dim = E) := hE
  rw [hE]
  clear hE
  obtain ⟨M, hM⟩ : ∃ M, L.length = M := ⟨_, rfl⟩
  obtain ⟨Q, hQ⟩ : ∃ Q, S.length = Q := ⟨_, rfl⟩
  have HM : Hid (L.length = M ∧ S.length = Q) := ⟨hM, hQ⟩
  rw [hM, hQ]
  clear hM hQ
  obtain ⟨W3, hW3⟩ : ∃ W3, W2.alloc (.cells #[.slice a1 M c1, .slice a2 M c2, .slice a3 Q c3] 27) = W3 := ⟨_, rfl⟩
  have b23 := bel_nw hW3
  have b3 := bel_tr b2 b23
  have HB3 : Hid (Blk W3 W2.heap.size 27 #[.slice a1 M c1, .slice a2 M c2, .slice a3 Q c3]) := blk_nw hW3
  have K2' : Hid _ := K2.out W3 b3
  go_wp2_with fail
  refine Calls.mono K2'.out ?_
  rintro e W4 ⟨⟨a1', c1', a2', c2', a3', c3', L', K', S', rfl, h1', h2', h3', hc'⟩, b34⟩
  rw [HE.out]
  obtain ⟨M', hM'⟩ : ∃ M', L'.length = M' := ⟨_, rfl⟩
  obtain ⟨Q', hQ'⟩ : ∃ Q', S'.length = Q' := ⟨_, rfl⟩
  rw [hM', hQ']
  obtain ⟨W5, hW5⟩ : ∃ W5, W4.alloc (.cells #[.slice a1' M' c1', .slice a2' M' c2', .slice a3' Q' c3'] 27) = W5 := ⟨_, rfl⟩
  have b45 := bel_nw hW5
  have b4 := bel_tr b3 b34
  have b5 := bel_tr b4 b45
  have b35 := bel_tr b34 b45
  have b25 := bel_tr b23 b35
  have KS := rsame_got a1 a2 a3 a1' a2' a3' c1 c2 c3 c1' c2' c3' W5 HC.out hc' (H1.out.low b25) (H2.out.below b25) (H3.out.below b25) (h1'.low b45) (h2'.below b45) (h3'.below b45)
  rw [HM.out.1, HM.out.2, hM', hQ'] at KS
  have HKS : Hid _ := KS
  have B5 := HB3.out.kept b35
  have D5 := blk_nw hW5
  have x0 := B5.cell 0 (.slice a1 M c1) rfl
  have x1 := B5.cell 1 (.slice a2 M c2) rfl
  have x2 := B5.cell 2 (.slice a3 Q c3) rfl
  have y0 := D5.cell 0 (.slice a1' M' c1') rfl
  have y1 := D5.cell 1 (.slice a2' M' c2') rfl
  have y2 := D5.cell 2 (.slice a3' Q' c3') rfl
  clear KS h1' h2' h3' hc' hM' hQ' B5 D5 K2' K2 b23 b34 b35 b25 b45 b3 b4
  go_wp2_with fail
  refine Calls.mono HKS.out ?_
  rintro e W6 ⟨rfl, b56⟩
  have b6 := bel_tr b5 b56
  have KA' : Hid _ := KA.out W6 (HT.out.below b6)
  have hee : (E == E) = true := by simp
  clear x0 x1 x2 y0 y1 y2 b56
  go_wp2_with fail
  refine Calls.mono KA'.out ?_
  rintro e W7 ⟨rfl, b67⟩
  have b7 := bel_tr b6 b67
  go_wp2
  go_ret
  exact ⟨rfl, b7⟩
end Go.Proofs.YtgppfkbapieneaaDoor
