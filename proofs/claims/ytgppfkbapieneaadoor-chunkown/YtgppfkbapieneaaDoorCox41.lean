/- Texts joined: ChunkCutsWalk CmU -/
import Derived.Test.YtgppfkbapieneaaDoorCox40
import Derived.Laws.StructEq
namespace Go.Proofs.YtgppfkbapieneaaDoor
open Go.RowKit
set_option linter.unusedVariables false
set_option linter.unusedSimpArgs false
/-- What a cut must be. -/
def Cuts (l : List Rl) (dim : Int) (L : List Pt) (K : List Nat) (S : List (List Nat)) : Prop := (errC l dim ≠ 0 ∧ L = [] ∧ K = [] ∧ S = []) ∨ (errC l dim = 0 ∧ CutP l dim.toNat L K S)
theorem Cuts.uniq {l : List Rl} {dim : Int} {L L' : List Pt} {K K' : List Nat} {S S' : List (List Nat)} (h : Cuts l dim L K S) (h' : Cuts l dim L' K' S') : L = L' ∧ K = K' ∧ S = S' := by
  rcases h with ⟨h0, h1, h2, h3⟩ | ⟨h0, h1⟩ <;> rcases h' with ⟨g0, g1, g2, g3⟩ | ⟨g0, g1⟩
  · exact ⟨by rw [h1, g1], by rw [h2, g2], by rw [h3, g3]⟩
  · exact absurd g0 h0
  · exact absurd h0 g0
  · exact h1.uniq g1
theorem Cuts.few {l : List Rl} {dim : Int} {L : List Pt} {K : List Nat} {S : List (List Nat)} (h : Cuts l dim L K S) : L.length ≤ 129 ∧ K.length = L.length ∧ S.length ≤ 129 := by
  rcases h with ⟨h0, h1, h2, h3⟩ | ⟨h0, h1⟩
  · simp [h1, h2, h3]
  · obtain ⟨d, _, _, h4, _⟩ := err_ok h0
    have := h1.few
    have := h1.num
    exact ⟨by omega, h1.len, by omega⟩
/-- A cut that was answered, as it is read. -/
def CutGot (l : List Rl) (dim : Int) (e : Ending) (w : World) : Prop := ∃ a1 c1 a2 c2 a3 c3 L K S, e = .returned (.tuple #[.agg #[.slice a1 (L : List Pt).length c1, .slice a2 L.length c2, .slice a3 (S : List (List Nat)).length c3], .int .i64 (errC l dim)]) ∧ RowP w a1 L ∧ RowI w a2 (ints K) ∧ RowS w a3 (S.map ints) ∧ Cuts l dim L K S
theorem rowp_nil (w : World) : RowP w none [] := ⟨fun r hr => by simp at hr, fun i r hr => by simp at hr⟩
theorem rowi_nil (w : World) : RowI w none [] := ⟨by simp, fun h => by simp at h⟩
theorem rows_nil (w : World) : RowS w none [] := ⟨by simp, fun i s h => by simp at h⟩
theorem got_err {l : List Rl} {dim : Int} (h : errC l dim ≠ 0) (w : World) : CutGot l dim (.returned (.tuple #[.agg zc, .int .i64 (errC l dim)])) w :=
  ⟨none, 0, none, 0, none, 0, [], [], [], rfl, rowp_nil w, rowi_nil w, rows_nil w, .inl ⟨h, rfl, rfl, rfl⟩⟩
theorem got_ok {l : List Rl} {dim : Int} (h : errC l dim = 0) {w : World} {B g1 c1 : Nat} {ka : Option Addr} {kc : Nat} {sa : Option Addr} {sc : Nat} {vs : List Value} {L : List Pt} {K : List Nat} {S : List (List Nat)} (hc : CutIn w B g1 c1 ka kc sa sc vs L K S) (hp : CutP l dim.toNat L K S) :
    CutGot l dim (.returned (.tuple #[.agg #[.slice (some ⟨g1, 0, none⟩) L.length c1, .slice ka L.length kc, .slice sa S.length sc], .int .i64 0])) w := by
  obtain ⟨d, _, _, hl, _⟩ := err_ok h
  exact ⟨_, c1, ka, kc, sa, sc, L, K, S, by rw [h], hc.rp hp, hc.ri hp hl, hc.rs hp hl, .inr ⟨h, hp⟩⟩
theorem cut_all (a : Option Addr) (c : Nat) (l : List Rl) (dim : Int) (w : World) (hT : Top w) (hrow : RowR w a l) :
    Calls Tryd.prog 10 #[.slice a l.length c, .int .i64 dim] w fun e w' => CutGot l dim e w' ∧ Below w.heap.size w w' := by
  by_cases h : errC l dim = 0
  · refine (cut_ok a c l dim w hT hrow h).mono ?_
    rintro e w' ⟨g1, c1, ka, kc, sa, sc, vs, L, K, S, rfl, hc, hp, hb⟩
    exact ⟨got_ok h hc hp, hb⟩
  · refine (cut_err a c l dim w hT hrow h).mono ?_
    rintro e w' ⟨rfl, hb⟩
    exact ⟨got_err h w', hb⟩
theorem rcut_all (a : Option Addr) (c : Nat) (l : List Rl) (dim : Int) (w : World) (hrow : RowR w a l) :
    Calls Tryd.prog 11 #[.slice a l.length c, .int .i64 dim] w fun e w' => CutGot l dim e w' ∧ Below w.heap.size w w' := by
  by_cases h : errC l dim = 0
  · refine (rcut_ok a c l dim w hrow h).mono ?_
    rintro e w' ⟨g1, c1, ka, kc, sa, sc, vs, L, K, S, rfl, hc, hp, hb⟩
    exact ⟨got_ok h hc hp, hb⟩
  · refine (rcut_err a c l dim w hrow h).mono ?_
    rintro e w' ⟨rfl, hb⟩
    exact ⟨got_err h w', hb⟩
/-- The document's Same of two cuts that must be the same. -/
theorem rsame_got (a1 a2 a3 b1 b2 b3 : Option Addr) (c1 c2 c3 d1 d2 d3 : Nat) {l : List Rl} {dim : Int} {L L' : List Pt} {K K' : List Nat} {S S' : List (List Nat)} (w : World) (hc : Cuts l dim L K S) (hc' : Cuts l dim L' K' S') (h1 : RowP w a1 L) (h2 : RowI w a2 (ints K)) (h3 : RowS w a3 (S.map ints)) (g1 : RowP w b1 L') (g2 : RowI w b2 (ints K')) (g3 : RowS w b3 (S'.map ints)) :
    Calls Tryd.prog 12 #[.agg #[.slice a1 L.length c1, .slice a2 L.length c2, .slice a3 S.length c3], .agg #[.slice b1 L'.length d1, .slice b2 L'.length d2, .slice b3 S'.length d3]] w fun e w' => e = .returned (.bool true) ∧ Below w.heap.size w w' := by
  have K1 := rsame_ck a1 a2 a3 b1 b2 b3 c1 c2 c3 d1 d2 d3 L L' (ints K) (ints K') (S.map ints) (S'.map ints) w (by have := hc.few; omega) h1 h2 h3 g1 g2 g3
  rw [List.length_map, List.length_map, List.length_map, List.length_map, hc.few.2.1, hc'.few.2.1] at K1
  refine K1.mono ?_
  rintro e w' ⟨⟨r, rfl, hr⟩, hb⟩
  obtain ⟨e1, e2, e3⟩ := hc.uniq hc'
  rw [hr.2 ⟨e1, by rw [e2], by rw [e3]⟩]
  exact ⟨rfl, hb⟩
theorem ownsRow_at {w : World} {B : Nat} {t : TypeId} {k n c : Nat} {a : Option Addr} {xs : List Value} (h : w.ownsRow B t k (.slice a n c) n xs) (hn : 0 < n) : ∃ g cur, a = some ⟨g, 0, none⟩ ∧ B ≤ g ∧ Blk w g t cur ∧ n ≤ c ∧ cur.size = c * k ∧ ∀ i, i < n * k → cur[i]? = xs[i]? := by
  obtain ⟨h1, h2⟩ := h
  rcases h2 with ⟨h3, h4⟩ | ⟨g, cap, cur, h3, h4, h5, h6, h7, h8, h9⟩
  · omega
  · simp only [Value.slice.injEq] at h3
    obtain ⟨rfl, _, rfl⟩ := h3
    refine ⟨g, cur, rfl, h4, h5, h6, h8, fun i hi => ?_⟩
    have h11 : (cur.toList.take (n * k))[i]? = xs[i]? := by rw [h9]
    rw [List.getElem?_take_of_lt hi, Array.getElem?_toList] at h11
    exact h11
/-- A block is written: what is owned is owned still. -/
theorem ownsRow_set {w : World} {B : Nat} {t : TypeId} {k n : Nat} {v : Value} {xs : List Value} (h : w.ownsRow B t k v n xs) {g : Nat} {t0 : TypeId} {cs : Array Value} (hb : Blk w g t0 cs) (cs' : Array Value) (hs : cs'.size = cs.size) : ∃ xs', (w.setRow g cs').ownsRow B t k v n xs' := by
  obtain ⟨h1, h2⟩ := h
  rcases h2 with ⟨h3, h4⟩ | ⟨g', cap, cur, h3, h4, h5, h6, h7, h8, h9⟩
  · exact ⟨xs, h1, .inl ⟨h3, h4⟩⟩
  · by_cases e : g' = g
    · subst e
      have h5' : Blk w g' t cur := h5
      have et : t = t0 := h5'.ty hb
      have ec : cur = cs := by
        have e1 : w.heap[g']? = some (.cells cs t0 (0, 0)) := hb
        rw [h5] at e1
        simp only [Option.some.injEq, Obj.cells.injEq] at e1
        exact e1.1
      subst et
      subst ec
      have hle : n * k ≤ cap * k := Nat.mul_le_mul_right k h6
      exact ⟨cs'.toList.take (n * k), by rw [List.length_take, Array.length_toList, hs, h8]; exact Nat.min_eq_left hle, .inr ⟨g', cap, cs', h3, h4, hb.set cs', h6, h7, by rw [hs, h8], rfl⟩⟩
    · have h5' : Blk w g' t cur := h5
      exact ⟨xs, h1, .inr ⟨g', cap, cur, h3, h4, h5'.other e cs', h6, h7, h8, h9⟩⟩
/-- A cut that may be written over. -/
structure CutW (w : World) (B : Nat) (v1 : Value) (n1 : Nat) (v3 : Value) (n3 : Nat) (vs : List Value) : Prop where
  sts : ∃ xs, w.ownsRow B 42 3 v1 n1 xs
  row : w.ownsRow B 24 1 v3 n3 vs
  each : ∀ v ∈ vs, ∃ a n c xs, v = Value.slice a n c ∧ n ≤ 1000 ∧ w.ownsRow B 3 1 v n xs
theorem CutW.nil (w : World) (B : Nat) : CutW w B (.slice none 0 0) 0 (.slice none 0 0) 0 [] := ⟨⟨[], World.ownsRow_nil _ _ _ _⟩, World.ownsRow_nil _ _ _ _, fun v hv => by cases hv⟩
theorem CutW.below {w w' : World} {B : Nat} {v1 : Value} {n1 : Nat} {v3 : Value} {n3 : Nat} {vs : List Value} (h : CutW w B v1 n1 v3 n3 vs) (hb : Below w.heap.size w w') : CutW w' B v1 n1 v3 n3 vs :=
  ⟨h.sts.imp fun xs hx => ownsRow_low hx hb, ownsRow_low h.row hb, fun v hv => by
    obtain ⟨a, n, c, xs, h1, h2, h3⟩ := h.each v hv
    exact ⟨a, n, c, xs, h1, h2, ownsRow_low h3 hb⟩⟩
theorem CutW.set {w : World} {B : Nat} {v1 : Value} {n1 : Nat} {v3 : Value} {n3 : Nat} {vs : List Value} (h : CutW w B v1 n1 v3 n3 vs) {g : Nat} {t0 : TypeId} {cs : Array Value} (hb : Blk w g t0 cs) (ht : 24 ≠ t0) (cs' : Array Value) (hs : cs'.size = cs.size) : CutW (w.setRow g cs') B v1 n1 v3 n3 vs := by
  refine ⟨?_, ownsRow_far h.row (grown_setRow w g cs') (fun g' e e2 => ?_), fun v hv => ?_⟩
  · obtain ⟨xs, hx⟩ := h.sts
    exact ownsRow_set hx hb cs' hs
  · cases e2
    exact ownsRow_off h.row hb ht e
  · obtain ⟨a, n, c, xs, h1, h2, h3⟩ := h.each v hv
    obtain ⟨xs', h4⟩ := ownsRow_set h3 hb cs' hs
    exact ⟨a, n, c, xs', h1, h2, h4⟩
theorem CutIn.wr {w : World} {B g1 c1 : Nat} {ka : Option Addr} {kc : Nat} {sa : Option Addr} {sc : Nat} {vs : List Value} {L : List Pt} {K : List Nat} {S : List (List Nat)} (h : CutIn w B g1 c1 ka kc sa sc vs L K S) (hs : ∀ s ∈ S, s.length ≤ 1000) : CutW w B (.slice (some ⟨g1, 0, none⟩) L.length c1) L.length (.slice sa S.length sc) S.length vs :=
  ⟨⟨_, h.sts⟩, h.set.row, fun v hv => by
    obtain ⟨ai, ci, s, h1, h2, h3⟩ := h.set.inner hv
    subst h1
    exact ⟨ai, s.length, ci, _, rfl, hs s h3, h2⟩⟩
/-- A cut that was answered, as it is read and as it is written. -/
def CutHad (B : Nat) (l : List Rl) (dim : Int) (e : Ending) (w : World) : Prop := ∃ a1 c1 a2 c2 a3 c3 n1 n3 vs, e = .returned (.tuple #[.agg #[.slice a1 n1 c1, .slice a2 n1 c2, .slice a3 n3 c3], .int .i64 (errC l dim)]) ∧ CutW w B (.slice a1 n1 c1) n1 (.slice a3 n3 c3) n3 vs ∧ n1 ≤ 129 ∧ n3 ≤ 129
theorem cut_had (a : Option Addr) (c : Nat) (l : List Rl) (dim : Int) (w : World) (hT : Top w) (hrow : RowR w a l) :
    Calls Tryd.prog 10 #[.slice a l.length c, .int .i64 dim] w fun e w' => CutHad w.heap.size l dim e w' ∧ Below w.heap.size w w' := by
  by_cases h : errC l dim = 0
  · refine (cut_ok a c l dim w hT hrow h).mono ?_
    rintro e w' ⟨g1, c1, ka, kc, sa, sc, vs, L, K, S, rfl, hc, hp, hb⟩
    have hf := Cuts.few (.inr ⟨h, hp⟩ : Cuts l dim L K S)
    obtain ⟨d, _, _, hl, _⟩ := err_ok h
    exact ⟨⟨_, c1, ka, kc, sa, sc, _, _, vs, by rw [h], hc.wr (fun s hs => by have := hp.each s hs; omega), hf.1, hf.2.2⟩, hb⟩
  · refine (cut_err a c l dim w hT hrow h).mono ?_
    rintro e w' ⟨rfl, hb⟩
    exact ⟨⟨none, 0, none, 0, none, 0, 0, 0, [], rfl, CutW.nil _ _, by omega, by omega⟩, hb⟩
set_option maxRecDepth 100000 in
theorem rule_neq (r : Rl) (w : World) : (binOp .neq 55 (.agg r.v) (.agg r.v)).run Tryd.prog w = .ok (.bool false) w := by
  go_simp
end Go.Proofs.YtgppfkbapieneaaDoor
