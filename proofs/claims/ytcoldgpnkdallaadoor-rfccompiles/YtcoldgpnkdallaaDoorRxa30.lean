/- Texts joined: CmS -/
import Derived.Test.YtcoldgpnkdallaaDoorRxa26
import Derived.Test.YtcoldgpnkdallaaDoorRxa29
namespace Go.Proofs.YtcoldgpnkdallaaDoor
open Go.RowKit
set_option linter.unusedVariables false
set_option linter.unusedSimpArgs false
/-- The starts with a rule more. -/
def stQ (d : Nat) (L : List Pt) (r : Rl) : List Pt := if r.any_ d then L else insP (insP L (r.from_ d)) (r.upto d).next
theorem stQ_all {d : Nat} {L : List Pt} {r : Rl} (ho : r.ok) (hr : r.right = true) (hd : d < 7) (hL : ∀ q ∈ L, q.ok) : (stQ d L r).map Pt.n = startsF (L.map Pt.n) (r.piece d) ∧ (∀ q ∈ stQ d L r, q.ok) ∧ (stQ d L r).length ≤ L.length + 2 ∧ L.length ≤ (stQ d L r).length := by
  unfold stQ startsF
  cases hz : r.any_ d with
  | true => simp [Rl.piece, hz]; exact hL
  | false =>
    have hpo := piece_ok ho hr d hd
    simp only [Rl.fst_, Rl.lst_, hz, Bool.false_eq_true, if_false] at hpo
    have hu := upto_low ho hr d hd hz
    have hn := Pt.next_ok hpo.2.1 hu
    have h1 := insP_ok hL hpo.1
    have l1 := insP_len L (r.from_ d)
    have l2 := insP_len (insP L (r.from_ d)) (r.upto d).next
    simp only [Bool.false_eq_true, if_false, Rl.piece, hz]
    refine ⟨?_, insP_ok h1 hn, by omega, by omega⟩
    rw [insP_n h1 hn, insP_n hL hpo.1, Pt.next_n hpo.2.1]
theorem stQs_all (d : Nat) (hd : d < 7) : ∀ (l : List Rl) (L : List Pt), (∀ r ∈ l, r.ok ∧ r.right = true) → (∀ q ∈ L, q.ok) → (l.foldl (stQ d) L).map Pt.n = (spns l d).foldl startsF (L.map Pt.n) ∧ (∀ q ∈ l.foldl (stQ d) L, q.ok) ∧ (l.foldl (stQ d) L).length ≤ L.length + 2 * l.length ∧ L.length ≤ (l.foldl (stQ d) L).length
  | [], L, _, hL => ⟨rfl, hL, by simp, Nat.le_refl _⟩
  | r :: l, L, hl, hL => by
    obtain ⟨h1, h2, h3, h4⟩ := stQ_all (hl r List.mem_cons_self).1 (hl r List.mem_cons_self).2 hd hL
    obtain ⟨g1, g2, g3, g4⟩ := stQs_all d hd l (stQ d L r) (fun q hq => hl q (List.mem_cons_of_mem _ hq)) h2
    simp only [List.foldl_cons, List.map_cons, List.length_cons]
    refine ⟨by rw [g1, h1], g2, by omega, by omega⟩
/-- The starts of rules: the document's. -/
def stL (d : Nat) (l : List Rl) : List Pt := l.foldl (stQ d) [pt0]
theorem stL_snoc (d : Nat) (l : List Rl) (r : Rl) : stL d (l ++ [r]) = stQ d (stL d l) r := by
  unfold stL
  rw [List.foldl_append]
  rfl
theorem stL_ok {d : Nat} {l : List Rl} (hd : d < 7) (hl : ∀ r ∈ l, r.ok ∧ r.right = true) : (stL d l).map Pt.n = startsL (spns l d) ∧ (∀ q ∈ stL d l, q.ok) ∧ (stL d l).length ≤ 2 * l.length + 1 ∧ 1 ≤ (stL d l).length := by
  obtain ⟨h1, h2, h3, h4⟩ := stQs_all d hd l [pt0] hl (fun q hq => by
    simp only [List.mem_singleton] at hq
    subst hq
    exact pt0_ok)
  refine ⟨?_, h2, ?_, h4⟩
  · unfold stL startsL
    rw [h1]
    rfl
  · unfold stL
    simp only [List.length_cons, List.length_nil] at h3
    omega
/-- The set of a point among the first n rules. -/
def setN (P : List Spn) (x : Int) (n : Nat) : List Nat := (List.range n).filter fun i => (P[i]?.map (·.holds x)).getD false
theorem setN_succ (P : List Spn) (x : Int) {n : Nat} {q : Spn} (hq : P[n]? = some q) : setN P x (n + 1) = if q.holds x then setN P x n ++ [n] else setN P x n := by
  unfold setN
  rw [List.range_succ, List.filter_append]
  cases h : q.holds x <;> simp [hq, h]
theorem setN_len (P : List Spn) (x : Int) (n : Nat) : (setN P x n).length ≤ n := by
  have := List.length_filter_le (fun i => (P[i]?.map (·.holds x)).getD false) (List.range n)
  simpa [setN] using this
theorem setN_all (P : List Spn) (x : Int) : setN P x P.length = setOf P x := rfl
/-- The sets of points. -/
abbrev stS (l : List Rl) (d : Nat) (x : Pt) : List Nat := setOf (spns l d) x.n
theorem stS_len (l : List Rl) (d : Nat) (x : Pt) : (stS l d x).length ≤ l.length := by
  have := setN_len (spns l d) x.n (spns l d).length
  rw [setN_all, List.length_map] at this
  exact this
theorem cutP_doc {d : Nat} {l : List Rl} (hd : d < 7) (hl : ∀ r ∈ l, r.ok ∧ r.right = true) : CutP l d (stL d l) (classL ((stL d l).map (stS l d))) (setsL ((stL d l).map (stS l d))) := by
  obtain ⟨h1, h2, h3, h4⟩ := stL_ok hd hl
  have e : (stL d l).map (stS l d) = rowL (spns l d) := by
    unfold rowL
    rw [← h1, List.map_map]
    rfl
  rw [e]
  refine cutP_mk hl hd ?_ h1 h2 h3
  have := starts_sorted (spns l d)
  rw [← h1] at this
  exact List.pairwise_map.1 this
/-- What lies in memory while the document's Cut gathers its sets. -/
structure CutJ (B : Nat) (w : World) (g4 : Nat) (g1 c1 : Nat) (L : List Pt) (ka : Option Addr) (kc : Nat) (K : List Nat) (sa : Option Addr) (sc : Nat) (S : List (List Nat)) (vs : List Value) : Prop where
  res : Blk w g4 63 zc
  sts : OwnP w B (some ⟨g1, 0, none⟩) c1 L
  cls : OwnI w B ka kc K
  set : SetsO w B sa sc S vs
  apt : Apt (ka.map (·.block)) vs
theorem CutJ.below {B : Nat} {w w' : World} {g4 : Nat} {g1 c1 : Nat} {L : List Pt} {ka : Option Addr} {kc : Nat} {K : List Nat} {sa : Option Addr} {sc : Nat} {S : List (List Nat)} {vs : List Value}
    (h : CutJ B w g4 g1 c1 L ka kc K sa sc S vs) (hb : Below w.heap.size w w') : CutJ B w' g4 g1 c1 L ka kc K sa sc S vs :=
  ⟨h.res.kept hb, h.sts.below hb, h.cls.below hb, h.set.below hb, h.apt⟩
theorem SetsO.inner {w : World} {B : Nat} {sa : Option Addr} {sc : Nat} {S : List (List Nat)} {vs : List Value} (h : SetsO w B sa sc S vs) {v : Value} (hv : v ∈ vs) : ∃ ai ci s, v = Value.slice ai (s : List Nat).length ci ∧ OwnI w B ai ci s ∧ s ∈ S := by
  obtain ⟨i, hi⟩ := List.getElem?_of_mem hv
  obtain ⟨s, hs⟩ : ∃ s, S[i]? = some s := ⟨_, List.getElem?_eq_getElem (by have := (List.getElem?_eq_some_iff.1 hi).1; have := h.cells.1; omega)⟩
  obtain ⟨ai, ci, h1, h2⟩ := h.each i s hs
  rw [hi] at h1
  exact ⟨ai, ci, s, Option.some.inj h1, h2, List.mem_of_getElem? hs⟩
/-- A block of another kind is written. -/
theorem CutJ.wrote {B : Nat} {w : World} {g4 : Nat} {g1 c1 : Nat} {L : List Pt} {ka : Option Addr} {kc : Nat} {K : List Nat} {sa : Option Addr} {sc : Nat} {S : List (List Nat)} {vs : List Value}
    (h : CutJ B w g4 g1 c1 L ka kc K sa sc S vs) {g9 : Nat} {v9 : Array Value} (hb : Blk w g9 63 v9) (cs : Array Value) : OwnP (w.setRow g9 cs) B (some ⟨g1, 0, none⟩) c1 L ∧ OwnI (w.setRow g9 cs) B ka kc K ∧ SetsO (w.setRow g9 cs) B sa sc S vs := by
  have hg := grown_setRow w g9 cs
  refine ⟨h.sts.far hg (fun y hy e => ?_), h.cls.far hg (fun y hy e => ?_), h.set.far hg ?_ (fun i s ai ci hi hv y hy e => ?_)⟩
  · cases hy
    cases e
    obtain ⟨c', hc⟩ := h.sts.typed
    exact absurd (hb.ty hc) (by decide)
  · obtain ⟨c', hc⟩ := h.cls.typed hy
    cases e
    exact absurd (hb.ty hc) (by decide)
  · cases hsa : sa.map (·.block) with
    | none => exact .inl rfl
    | some g =>
      refine .inr fun e => ?_
      cases e
      exact h.set.off hb (by decide) hsa
  · obtain ⟨ai', ci', h1, h2⟩ := h.set.each i s hi
    rw [hv] at h1
    cases h1
    obtain ⟨c', hc⟩ := h2.typed hy
    cases e
    exact absurd (hb.ty hc) (by decide)
theorem CutJ.other {B : Nat} {w : World} {g4 : Nat} {g1 c1 : Nat} {L : List Pt} {ka : Option Addr} {kc : Nat} {K : List Nat} {sa : Option Addr} {sc : Nat} {S : List (List Nat)} {vs : List Value}
    (h : CutJ B w g4 g1 c1 L ka kc K sa sc S vs) {g9 : Nat} {v9 : Array Value} (hb : Blk w g9 63 v9) (h4 : g9 ≠ g4) (cs : Array Value) : CutJ B (w.setRow g9 cs) g4 g1 c1 L ka kc K sa sc S vs := by
  obtain ⟨h1, h2, h3⟩ := h.wrote hb cs
  exact ⟨h.res.far (grown_setRow w g9 cs) (by simpa using h4), h1, h2, h3, h.apt⟩
/-- Other sets. -/
theorem CutJ.sets {B : Nat} {w w' : World} {g4 : Nat} {g1 c1 : Nat} {L : List Pt} {ka : Option Addr} {kc : Nat} {K : List Nat} {sa : Option Addr} {sc : Nat} {S : List (List Nat)} {vs : List Value}
    (h : CutJ B w g4 g1 c1 L ka kc K sa sc S vs) (hb : Below w.heap.size w w') {sa' : Option Addr} {sc' : Nat} {S' : List (List Nat)} {vs' : List Value} {v : Value} (hs : SetsO w' B sa' sc' S' vs') (hv : ∀ u ∈ vs', u ∈ vs ∨ u = v) (ha : Apt (ka.map (·.block)) [v]) : CutJ B w' g4 g1 c1 L ka kc K sa' sc' S' vs' :=
  ⟨h.res.kept hb, h.sts.below hb, h.cls.below hb, hs, fun u hu => by
    rcases hv u hu with h1 | h1
    · exact h.apt u h1
    · exact ha u (by simp [h1])⟩
/-- A class more. -/
theorem CutJ.moreK {B : Nat} {w w' : World} {g4 : Nat} {g1 c1 : Nat} {L : List Pt} {ka : Option Addr} {kc : Nat} {K : List Nat} {sa : Option Addr} {sc : Nat} {S : List (List Nat)} {vs : List Value}
    (h : CutJ B w g4 g1 c1 L ka kc K sa sc S vs) (hg : w.grownBy w' (ka.map (·.block))) {g c' : Nat} {K' : List Nat} (hrow : OwnI w' B (some ⟨g, 0, none⟩) c' K') (hat : ka.map (·.block) = some g ∨ g = w.heap.size) :
    CutJ B w' g4 g1 c1 L (some ⟨g, 0, none⟩) c' K' sa sc S vs := by
  refine ⟨h.res.far hg (h.cls.off h.res (by decide)), h.sts.far hg (fun y hy => ?_), hrow, h.set.far hg ?_ (fun i s ai ci hs hv y hy => ?_), fun v hv ai n ci e e2 => ?_⟩
  · cases hy
    obtain ⟨c', hc⟩ := h.sts.typed
    exact h.cls.off hc (by decide)
  · cases hsa : sa.map (·.block) with
    | none => exact .inl rfl
    | some g' =>
      refine .inr fun e => ?_
      obtain ⟨c1, hc1⟩ := h.set.typed hsa
      exact h.cls.off hc1 (by decide) e
  · subst hy
    exact h.apt _ (List.mem_of_getElem? hv) y _ _ rfl
  · simp only [Option.map_some, Option.some.injEq] at e2
    rcases hat with hat | hat
    · exact h.apt v hv ai n ci e (by rw [hat, e2])
    · obtain ⟨ai', ci', s, h1, h2, _⟩ := h.set.inner hv
      rw [e] at h1
      simp only [Value.slice.injEq] at h1
      have := (h2.lt ai h1.1.symm).2.1
      omega
end Go.Proofs.YtcoldgpnkdallaaDoor
