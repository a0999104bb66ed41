/- Texts joined: CkN -/
import Derived.Test.YtgppfkbapieneaaDoorCox21
namespace Go.Proofs.YtgppfkbapieneaaDoor
open Go.RowKit
set_option linter.unusedVariables false
set_option linter.unusedSimpArgs false
abbrev zc : Array Value := #[.slice none 0 0, .slice none 0 0, .slice none 0 0]
/-- What lies in memory while Cut gathers its sets. -/
structure CutI (B : Nat) (w : World) (g4 g6 : Nat) (cur : Array Value) (g1 c1 : Nat) (L : List Pt) (ka : Option Addr) (kc : Nat) (K : List Nat) (sa : Option Addr) (sc : Nat) (S : List (List Nat)) (vs : List Value) : Prop where
  res : Blk w g4 27 zc
  pcs : Blk w g6 65 cur
  sts : OwnP w B (some ⟨g1, 0, none⟩) c1 L
  cls : OwnI w B ka kc K
  set : SetsO w B sa sc S vs
  apt : ∀ (i : Nat) (s : List Nat) (ai : Option Addr) (ci : Nat), S[i]? = some s → vs[i]? = some (Value.slice ai s.length ci) → ∀ y, ai = some y → ka.map (·.block) ≠ some y.block
theorem CutI.below {B : Nat} {w w' : World} {g4 g6 : Nat} {cur : Array Value} {g1 c1 : Nat} {L : List Pt} {ka : Option Addr} {kc : Nat} {K : List Nat} {sa : Option Addr} {sc : Nat} {S : List (List Nat)} {vs : List Value}
    (h : CutI B w g4 g6 cur g1 c1 L ka kc K sa sc S vs) (hb : Below w.heap.size w w') : CutI B w' g4 g6 cur g1 c1 L ka kc K sa sc S vs :=
  ⟨h.res.kept hb, h.pcs.kept hb, h.sts.below hb, h.cls.below hb, h.set.below hb, h.apt⟩
theorem OwnP.far {w w' : World} {B : Nat} {a : Option Addr} {c : Nat} {l : List Pt} {x : Option Nat} (h : OwnP w B a c l) (hg : w.grownBy w' x) (hx : ∀ y, a = some y → x ≠ some y.block) : OwnP w' B a c l :=
  ownsRow_far h hg (fun g e => by
    rw [slice_blk] at e
    cases a with
    | none => cases e
    | some y =>
      cases e
      exact hx y rfl)
theorem OwnP.typed {w : World} {B g c : Nat} {l : List Pt} (h : OwnP w B (some ⟨g, 0, none⟩) c l) : ∃ cur, Blk w g 42 cur := by
  obtain ⟨cur, hb, _⟩ := h.blk
  exact ⟨cur, hb⟩
theorem OwnI.typed {w : World} {B : Nat} {a : Option Addr} {c : Nat} {l : List Nat} (h : OwnI w B a c l) {y : Addr} (hy : a = some y) : ∃ cur, Blk w y.block 3 cur :=
  ownsRow_blk h (by rw [slice_blk, hy]; rfl)
theorem OwnI.off {w : World} {B : Nat} {a : Option Addr} {c : Nat} {l : List Nat} (h : OwnI w B a c l) {g : Nat} {t : TypeId} {cs : Array Value} (hb : Blk w g t cs) (ht : 3 ≠ t) : a.map (·.block) ≠ some g := by
  have := ownsRow_off h hb ht
  rwa [slice_blk] at this
theorem SetsO.off {w : World} {B : Nat} {a : Option Addr} {c : Nat} {S : List (List Nat)} {vs : List Value} (h : SetsO w B a c S vs) {g : Nat} {t : TypeId} {cs : Array Value} (hb : Blk w g t cs) (ht : 24 ≠ t) : a.map (·.block) ≠ some g := by
  have := ownsRow_off h.row hb ht
  rwa [slice_blk] at this
theorem SetsO.typed {w : World} {B : Nat} {a : Option Addr} {c : Nat} {S : List (List Nat)} {vs : List Value} (h : SetsO w B a c S vs) {g : Nat} (hy : a.map (·.block) = some g) : ∃ cur, Blk w g 24 cur :=
  ownsRow_blk h.row (by rw [slice_blk, hy])
/-- A block of another kind, or apart, is written. -/
theorem CutI.grown {B : Nat} {w w' : World} {g4 g6 : Nat} {cur : Array Value} {g1 c1 : Nat} {L : List Pt} {ka : Option Addr} {kc : Nat} {K : List Nat} {sa : Option Addr} {sc : Nat} {S : List (List Nat)} {vs : List Value} {x : Option Nat}
    (h : CutI B w g4 g6 cur g1 c1 L ka kc K sa sc S vs) (hg : w.grownBy w' x) (x4 : x ≠ some g4) (x6 : x ≠ some g6) (x1 : x ≠ some g1) (xk : ∀ g, ka.map (·.block) = some g → x ≠ some g) (xs : ∀ g, sa.map (·.block) = some g → x ≠ some g)
    (xi : ∀ (i : Nat) (s : List Nat) (ai : Option Addr) (ci : Nat), S[i]? = some s → vs[i]? = some (Value.slice ai s.length ci) → ∀ y, ai = some y → x ≠ some y.block) : CutI B w' g4 g6 cur g1 c1 L ka kc K sa sc S vs :=
  ⟨h.res.far hg x4, h.pcs.far hg x6, h.sts.far hg (fun y hy => by cases hy; exact x1), h.cls.far hg (fun y hy => xk _ (by rw [hy]; rfl)), h.set.far hg (by
    cases hsa : sa.map (·.block) with
    | none => exact .inl rfl
    | some g => exact .inr (xs g hsa)) xi, h.apt⟩
theorem CutI.inner {B : Nat} {w : World} {g4 g6 : Nat} {cur : Array Value} {g1 c1 : Nat} {L : List Pt} {ka : Option Addr} {kc : Nat} {K : List Nat} {sa : Option Addr} {sc : Nat} {S : List (List Nat)} {vs : List Value}
    (h : CutI B w g4 g6 cur g1 c1 L ka kc K sa sc S vs) {i : Nat} {s : List Nat} {ai : Option Addr} {ci : Nat} (hi : S[i]? = some s) (hv : vs[i]? = some (Value.slice ai s.length ci)) {y : Addr} (hy : ai = some y) : ∃ cur, Blk w y.block 3 cur := by
  obtain ⟨ai', ci', h1, h2⟩ := h.set.each i s hi
  rw [hv] at h1
  cases h1
  exact h2.typed hy
theorem grown_setRow (w : World) (g : Nat) (cs : Array Value) : w.grownBy (w.setRow g cs) (some g) :=
  ⟨rfl, rfl, rfl, by simp [World.setRow], fun k hk hne => setRow_heap_ne w g k cs (fun e => hne (by rw [e]))⟩
/-- The block of the answer is written. -/
theorem CutI.wrote {B : Nat} {w : World} {g4 g6 : Nat} {cur : Array Value} {g1 c1 : Nat} {L : List Pt} {ka : Option Addr} {kc : Nat} {K : List Nat} {sa : Option Addr} {sc : Nat} {S : List (List Nat)} {vs : List Value}
    (h : CutI B w g4 g6 cur g1 c1 L ka kc K sa sc S vs) {g9 : Nat} {v9 : Array Value} (hb : Blk w g9 27 v9) (h4 : g9 ≠ g4) (cs : Array Value) : CutI B (w.setRow g9 cs) g4 g6 cur g1 c1 L ka kc K sa sc S vs := by
  refine h.grown (grown_setRow w g9 cs) (by simpa using h4) ?_ ?_ ?_ ?_ ?_
  · intro e
    cases e
    exact absurd (hb.ty h.pcs) (by decide)
  · intro e
    cases e
    obtain ⟨c', hc⟩ := h.sts.typed
    exact absurd (hb.ty hc) (by decide)
  · intro g hg e
    cases e
    exact h.cls.off hb (by decide) hg
  · intro g hg e
    cases e
    exact h.set.off hb (by decide) hg
  · intro i s ai ci hi hv y hy e
    cases e
    obtain ⟨c', hc⟩ := h.inner hi hv hy
    exact absurd (hb.ty hc) (by decide)
/-- The answer is stored. -/
theorem CutI.ended {B : Nat} {w : World} {g4 g6 : Nat} {cur : Array Value} {g1 c1 : Nat} {L : List Pt} {ka : Option Addr} {kc : Nat} {K : List Nat} {sa : Option Addr} {sc : Nat} {S : List (List Nat)} {vs : List Value}
    (h : CutI B w g4 g6 cur g1 c1 L ka kc K sa sc S vs) (cs : Array Value) : OwnP (w.setRow g4 cs) B (some ⟨g1, 0, none⟩) c1 L ∧ OwnI (w.setRow g4 cs) B ka kc K ∧ SetsO (w.setRow g4 cs) B sa sc S vs := by
  have hg := grown_setRow w g4 cs
  refine ⟨h.sts.far hg (fun y hy e => ?_), h.cls.far hg (fun y hy e => ?_), h.set.far hg ?_ (fun i s ai ci hi hv y hy e => ?_)⟩
  · cases hy
    cases e
    obtain ⟨c', hc⟩ := h.sts.typed
    exact absurd (h.res.ty hc) (by decide)
  · obtain ⟨c', hc⟩ := h.cls.typed hy
    cases e
    exact absurd (h.res.ty hc) (by decide)
  · cases hsa : sa.map (·.block) with
    | none => exact .inl rfl
    | some g =>
      refine .inr fun e => ?_
      cases e
      exact h.set.off h.res (by decide) hsa
  · obtain ⟨c', hc⟩ := h.inner hi hv hy
    cases e
    exact absurd (h.res.ty hc) (by decide)
/-- A set more. -/
theorem CutI.moreS {B : Nat} {w w' : World} {g4 g6 : Nat} {cur : Array Value} {g1 c1 : Nat} {L : List Pt} {ka : Option Addr} {kc : Nat} {K : List Nat} {sa : Option Addr} {sc : Nat} {S : List (List Nat)} {vs : List Value}
    (h : CutI B w g4 g6 cur g1 c1 L ka kc K sa sc S vs) (hg : w.grownBy w' (sa.map (·.block))) {g c' : Nat} {s : List Nat} {ya : Option Addr} {yc : Nat} (hrow : w'.ownsRow B 24 1 (.slice (some ⟨g, 0, none⟩) (S.length + 1) c') (S.length + 1) (vs ++ [.slice ya s.length yc])) (hy : OwnI w B ya yc s) (hap : ∀ y, ya = some y → ka.map (·.block) ≠ some y.block) :
    CutI B w' g4 g6 cur g1 c1 L ka kc K (some ⟨g, 0, none⟩) c' (S ++ [s]) (vs ++ [.slice ya s.length yc]) := by
  have hi : ∀ (i : Nat) (t : List Nat) (ai : Option Addr) (ci : Nat), S[i]? = some t → vs[i]? = some (Value.slice ai t.length ci) → ∀ y, ai = some y → sa.map (·.block) ≠ some y.block := fun i t ai ci hi hv y hy e => by
    obtain ⟨c1, hc1⟩ := h.set.typed e
    obtain ⟨c2, hc2⟩ := h.inner hi hv hy
    exact absurd (hc1.ty hc2) (by decide)
  have hvl : vs.length = S.length := by have := h.set.row.1; omega
  refine ⟨h.res.far hg ?_, h.pcs.far hg ?_, h.sts.far hg (fun y hy => ?_), h.cls.far hg (fun y hy e => ?_), ⟨by simpa using hrow, fun i t ht => ?_⟩, fun i t ai ci ht hv y hy' => ?_⟩
  · exact h.set.off h.res (by decide)
  · exact h.set.off h.pcs (by decide)
  · cases hy
    obtain ⟨c', hc⟩ := h.sts.typed
    exact h.set.off hc (by decide)
  · obtain ⟨c2, hc2⟩ := h.cls.typed hy
    exact h.set.off hc2 (by decide) e
  · by_cases e : i < S.length
    · rw [List.getElem?_append_left e] at ht
      obtain ⟨ai, ci, h1, h2⟩ := h.set.each i t ht
      exact ⟨ai, ci, by rw [List.getElem?_append_left (by omega)]; exact h1, h2.far hg (fun y hy => hi i t ai ci ht h1 y hy)⟩
    · have e' : i = S.length := by
        have := (List.getElem?_eq_some_iff.1 ht).1
        simp at this
        omega
      subst e'
      rw [List.getElem?_append_right (Nat.le_refl _)] at ht
      simp at ht
      subst ht
      refine ⟨ya, yc, by rw [List.getElem?_append_right (by omega), hvl]; simp, hy.far hg (fun y hy' e2 => ?_)⟩
      obtain ⟨c1, hc1⟩ := h.set.typed e2
      obtain ⟨c2, hc2⟩ := hy.typed hy'
      exact absurd (hc1.ty hc2) (by decide)
  · by_cases e : i < S.length
    · rw [List.getElem?_append_left e] at ht
      rw [List.getElem?_append_left (by omega)] at hv
      exact h.apt i t ai ci ht hv y hy'
    · have e' : i = S.length := by
        have := (List.getElem?_eq_some_iff.1 ht).1
        simp at this
        omega
      subst e'
      rw [List.getElem?_append_right (Nat.le_refl _)] at ht
      simp at ht
      subst ht
      rw [List.getElem?_append_right (by omega), hvl] at hv
      simp at hv
      exact hap y (by rw [hv.1]; exact hy')
/-- A class more. -/
theorem CutI.moreK {B : Nat} {w w' : World} {g4 g6 : Nat} {cur : Array Value} {g1 c1 : Nat} {L : List Pt} {ka : Option Addr} {kc : Nat} {K : List Nat} {sa : Option Addr} {sc : Nat} {S : List (List Nat)} {vs : List Value}
    (h : CutI B w g4 g6 cur g1 c1 L ka kc K sa sc S vs) (hg : w.grownBy w' (ka.map (·.block))) {g c' : Nat} {K' : List Nat} (hrow : OwnI w' B (some ⟨g, 0, none⟩) c' K') (hat : ka.map (·.block) = some g ∨ g = w.heap.size) :
    CutI B w' g4 g6 cur g1 c1 L (some ⟨g, 0, none⟩) c' K' sa sc S vs := by
  refine ⟨h.res.far hg (h.cls.off h.res (by decide)), h.pcs.far hg (h.cls.off h.pcs (by decide)), h.sts.far hg (fun y hy => ?_), hrow, h.set.far hg ?_ (fun i s ai ci hs hv y hy => h.apt i s ai ci hs hv y hy), fun i s ai ci hs hv y hy e => ?_⟩
  · cases hy
    obtain ⟨c', hc⟩ := h.sts.typed
    exact h.cls.off hc (by decide)
  · cases hsa : sa.map (·.block) with
    | none => exact .inl rfl
    | some g' =>
      refine .inr fun e => ?_
      obtain ⟨c1, hc1⟩ := h.set.typed hsa
      exact h.cls.off hc1 (by decide) e
  · simp only [Option.map_some, Option.some.injEq] at e
    rcases hat with hat | hat
    · exact h.apt i s ai ci hs hv y hy (by rw [hat, e])
    · obtain ⟨c2, hc2⟩ := h.inner hs hv hy
      have := hc2.lt
      omega

/-! ### plainly -/
theorem putS_len (S : List (List Nat)) (s : List Nat) : (putS S s).length ≤ S.length + 1 := by
  unfold putS
  split <;> simp
theorem foldP_len : ∀ (L S : List (List Nat)), (L.foldl putS S).length ≤ S.length + L.length
  | [], S => by simp
  | s :: L, S => by
    have h1 := foldP_len L (putS S s)
    have h2 := putS_len S s
    simp only [List.foldl_cons, List.length_cons]
    omega
theorem sets_len (L : List (List Nat)) : (L.foldl putS []).length ≤ L.length := by
  have := foldP_len L []
  simpa using this
theorem classF_snoc : ∀ (L S : List (List Nat)) (s : List Nat), classF S (L ++ [s]) = classF S L ++ [putN (L.foldl putS S) s]
  | [], S, s => rfl
  | t :: L, S, s => by
    show putN S t :: classF (putS S t) (L ++ [s]) = putN S t :: classF (putS S t) L ++ [putN (L.foldl putS (putS S t)) s]
    rw [classF_snoc L]
    rfl
theorem ints_inj {a b : List Nat} (h : ints a = ints b) : a = b := by
  induction a generalizing b with
  | nil => cases b with
    | nil => rfl
    | cons y b => simp [ints] at h
  | cons x a ih => cases b with
    | nil => simp [ints] at h
    | cons y b =>
      simp only [ints, List.map_cons, List.cons.injEq] at h
      rw [ih h.2, show x = y by omega]
theorem find_ints (S : List (List Nat)) (s : List Nat) : (S.map ints).findIdx? (fun t => decide (t = ints s)) = S.findIdx? (· == s) := by
  rw [List.findIdx?_map]
  congr 1
  funext t
  simp only [Function.comp]
  rw [Bool.eq_iff_iff]
  simp only [decide_eq_true_eq, beq_iff_eq]
  exact ⟨ints_inj, fun h => by rw [h]⟩
theorem ix_some {S : List (List Nat)} {s : List Nat} {i : Nat} (h : S.findIdx? (· == s) = some i) : ixS (S.map ints) (ints s) = i ∧ putN S s = i ∧ putS S s = S ∧ i < S.length := by
  have hi := (List.findIdx?_eq_some_iff_getElem.1 h)
  obtain ⟨h1, h2, _⟩ := hi
  refine ⟨by unfold ixS; rw [find_ints, h], by unfold putN; rw [h]; rfl, ?_, h1⟩
  unfold putS
  rw [if_pos]
  rw [List.any_eq_true]
  exact ⟨S[i], List.getElem_mem h1, h2⟩
theorem ix_none {S : List (List Nat)} {s : List Nat} (h : S.findIdx? (· == s) = none) : ixS (S.map ints) (ints s) = -1 ∧ putN S s = S.length ∧ putS S s = S ++ [s] := by
  refine ⟨by unfold ixS; rw [find_ints, h], by unfold putN; rw [h]; rfl, ?_⟩
  unfold putS
  rw [if_neg]
  rw [List.findIdx?_eq_none_iff] at h
  rw [List.any_eq_true]
  rintro ⟨x, hx, he⟩
  have := h x hx
  rw [he] at this
  cases this
end Go.Proofs.YtgppfkbapieneaaDoor
