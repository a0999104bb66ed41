/- Texts joined: CmA FrU -/
import Derived.Test.YtgppfkbapieneaaDoorCmx35
import Derived.Laws.AppendOwnNone
namespace Go.Proofs.YtgppfkbapieneaaDoor
open Go.RowKit
set_option linter.unusedVariables false
set_option linter.unusedSimpArgs false
/-- The error of a cut. -/
def errC (l : List Rl) (dim : Int) : Int := if 0 ≤ dim ∧ dim < 7 then (if 64 < l.length then 17 else if l.all (·.right) then 0 else 1) else 1
theorem err_ok {l : List Rl} {dim : Int} (h : errC l dim = 0) : ∃ d : Nat, dim = (d : Int) ∧ d < 7 ∧ l.length ≤ 64 ∧ ∀ r ∈ l, r.right = true := by
  unfold errC at h
  split at h
  · split at h
    · cases h
    · split at h
      · rename_i h1 h2 h3
        exact ⟨dim.toNat, by omega, by omega, by omega, fun r hr => List.all_eq_true.1 h3 r hr⟩
      · cases h
  · cases h
theorem cut_err (a : Option Addr) (c : Nat) (l : List Rl) (dim : Int) (w : World) (hT : Top w) (hrow : RowR w a l) (h : errC l dim ≠ 0) :
    Calls Tryd.prog 10 #[.slice a l.length c, .int .i64 dim] w fun e w' => e = .returned (.tuple #[.agg zc, .int .i64 (errC l dim)]) ∧ Below w.heap.size w w' := by
  unfold errC at h ⊢
  by_cases hd : 0 ≤ dim ∧ dim < 7
  · rw [if_pos hd] at h ⊢
    by_cases hn : 64 < l.length
    · rw [if_pos hn]
      exact cut_many a l.length c dim w hd hn
    · rw [if_neg hn] at h ⊢
      by_cases ha : l.all (·.right) = true
      · rw [if_pos ha] at h
        exact absurd rfl h
      · rw [if_neg ha]
        obtain ⟨d, rfl⟩ : ∃ d : Nat, dim = (d : Int) := ⟨dim.toNat, by omega⟩
        refine cut_wrong a c l d w hT (by omega) hrow (by omega) ?_
        simp only [List.all_eq_true, Classical.not_forall] at ha
        obtain ⟨r, hr, hf⟩ := ha
        exact ⟨r, hr, by simpa using hf⟩
  · rw [if_neg hd]
    exact cut_dim a l.length c dim w hd
/-- A cut in memory of one's own. -/
structure CutIn (w : World) (B : Nat) (g1 c1 : Nat) (ka : Option Addr) (kc : Nat) (sa : Option Addr) (sc : Nat) (vs : List Value) (L : List Pt) (K : List Nat) (S : List (List Nat)) : Prop where
  sts : OwnP w B (some ⟨g1, 0, none⟩) c1 L
  cls : OwnI w B ka kc K
  set : SetsO w B sa sc S vs
theorem CutIn.below {w w' : World} {B g1 c1 : Nat} {ka : Option Addr} {kc : Nat} {sa : Option Addr} {sc : Nat} {vs : List Value} {L : List Pt} {K : List Nat} {S : List (List Nat)} (h : CutIn w B g1 c1 ka kc sa sc vs L K S) (hb : Below w.heap.size w w') : CutIn w' B g1 c1 ka kc sa sc vs L K S :=
  ⟨h.sts.below hb, h.cls.below hb, h.set.below hb⟩
/-- What is known of the plain cut. -/
structure CutP (l : List Rl) (d : Nat) (L : List Pt) (K : List Nat) (S : List (List Nat)) : Prop where
  stn : L.map Pt.n = startsL (spns l d)
  ok : ∀ p ∈ L, p.ok
  cls : K = classL (rowL (spns l d))
  set : S = setsL (rowL (spns l d))
  len : K.length = L.length
  few : L.length ≤ 2 * l.length + 1
  num : S.length ≤ L.length
  each : ∀ s ∈ S, s.length ≤ l.length
  right : RightC L (ints K) (S.map ints)
theorem cutP_mk {l : List Rl} {d : Nat} {L : List Pt} (hl : ∀ r ∈ l, r.ok ∧ r.right = true) (hd : d < 7) (hs : L.Pairwise fun p q => p.n < q.n) (hn : L.map Pt.n = startsL (spns l d)) (hok : ∀ p ∈ L, p.ok) (hf : L.length ≤ 2 * l.length + 1) : CutP l d L (classL (rowL (spns l d))) (setsL (rowL (spns l d))) := by
  have hlen : L.length = (startsL (spns l d)).length := by rw [← hn, List.length_map]
  have hrl : (rowL (spns l d)).length = L.length := by rw [rowL, List.length_map, hlen]
  refine ⟨hn, hok, rfl, rfl, by rw [class_len, hrl], hf, ?_, fun s hs' => ?_, cut_right hl hd hs hn hok⟩
  · have := sets_len (rowL (spns l d))
    rw [hrl] at this
    exact this
  · have h1 := sets_mem hs'
    unfold rowL at h1
    obtain ⟨z, _, rfl⟩ := List.mem_map.1 h1
    have := List.length_filter_le (fun i => ((spns l d)[i]?.map (·.holds z)).getD false) (List.range (spns l d).length)
    unfold setOf
    simpa using this
theorem cut_ok (a : Option Addr) (c : Nat) (l : List Rl) (dim : Int) (w : World) (hT : Top w) (hrow : RowR w a l) (h : errC l dim = 0) :
    Calls Tryd.prog 10 #[.slice a l.length c, .int .i64 dim] w fun e w' => ∃ g1 c1 ka kc sa sc vs L K S, e = .returned (.tuple #[.agg #[.slice (some ⟨g1, 0, none⟩) L.length c1, .slice ka L.length kc, .slice sa S.length sc], .int .i64 0]) ∧ CutIn w' w.heap.size g1 c1 ka kc sa sc vs L K S ∧ CutP l dim.toNat L K S ∧ Below w.heap.size w w' := by
  obtain ⟨d, rfl, hd, hl, hr⟩ := err_ok h
  refine (cut_yes a c l d w hT hl hrow hd hr).mono ?_
  rintro e w' ⟨g1, c1, L, ka, kc, sa, sc, vs, rfl, h1, h2, h3, hs, hm, hll, hb⟩
  have hlr : ∀ r ∈ l, r.ok ∧ r.right = true := fun r hr' => ⟨hrow.each r hr', hr r hr'⟩
  obtain ⟨hn, hok⟩ := cut_starts hlr hd hs hm
  have er := cut_rows hlr hd hn hok
  rw [er] at h2 h3
  rw [er]
  rw [Int.toNat_natCast]
  exact ⟨g1, c1, ka, kc, sa, sc, vs, L, _, _, rfl, ⟨h1, h2, h3⟩, cutP_mk hlr hd hs hn hok hll, hb⟩
theorem CutIn.ri {w : World} {B g1 c1 : Nat} {ka : Option Addr} {kc : Nat} {sa : Option Addr} {sc : Nat} {vs : List Value} {L : List Pt} {K : List Nat} {S : List (List Nat)} (h : CutIn w B g1 c1 ka kc sa sc vs L K S) {l : List Rl} {d : Nat} (hp : CutP l d L K S) (hl : l.length ≤ 64) : RowI w ka (ints K) := h.cls.row (by have := hp.len; have := hp.few; omega)
theorem CutIn.rs {w : World} {B g1 c1 : Nat} {ka : Option Addr} {kc : Nat} {sa : Option Addr} {sc : Nat} {vs : List Value} {L : List Pt} {K : List Nat} {S : List (List Nat)} (h : CutIn w B g1 c1 ka kc sa sc vs L K S) {l : List Rl} {d : Nat} (hp : CutP l d L K S) (hl : l.length ≤ 64) : RowS w sa (S.map ints) := h.set.rows (by have := hp.num; have := hp.few; omega) (fun s hs => by have := hp.each s hs; omega)
theorem rlv_one (y : Rl) : ∀ u ∈ y.v.toList, u.oneCell' = true := by
  intro u hu
  simp only [List.mem_cons, List.not_mem_nil, or_false] at hu
  rcases hu with rfl | rfl | rfl | rfl | rfl | rfl | rfl | rfl | rfl | rfl | rfl | rfl | rfl | rfl | rfl | rfl | rfl <;> rfl
/-- append(v, x...) of rules. -/
theorem run_appRs (w : World) (ty : TypeId) (B : Nat) (a : Option Addr) (c : Nat) (xs : List Rl) (hown : OwnR w B a c xs) (b : Option Addr) (cc : Nat) (l : List Rl) (hrow : RowR w b l) (hnil : b = none → cc = 0)
    (hsum : (xs.length + l.length) * 136 ≤ 140737488355328) (hbase : B ≤ w.heap.size) :
    ∃ a' c' w', (Builtin.append_ #[22, 22] ty #[.slice a xs.length c, .slice b l.length cc]).run Tryd.prog w = .ok (.slice a' (xs ++ l).length c') w' ∧ OwnR w' B a' c' (xs ++ l) ∧ Below B w w' := by
  obtain ⟨i0, hi, hz0, hz1, hz2⟩ := info_parts info_rule
  cases b with
  | none =>
    have hl : l = [] := by
      cases l with
      | nil => rfl
      | cons y l => obtain ⟨b, off, hh, _⟩ := hrow.cells 0 y rfl; cases hh
    subst hl
    have := run_append_owned_none (P := Tryd.prog) (w := w) B 22 ty 55 i0 17 Tryd.underlying22 hi (.slice a xs.length c) xs.length (pc17 xs) hown
    rw [hnil rfl]
    refine ⟨a, c, w, ?_, by simpa using hown, Below.refl _ _⟩
    simpa using this
  | some ad =>
    obtain ⟨v', w', h1, h2, h3, _⟩ := run_append_own (P := Tryd.prog) w B 22 ty 55 i0 (.agg z17) 17 136 Tryd.underlying22 hi hz0 hz1 hz2 rfl (by decide) (.slice a xs.length c) xs.length (pc17 xs) hown ad l.length cc (pc17 l) (fl_len _ 17 rlv_len l) (by
      intro j u hj
      have hjl : j < l.length * 17 := by
        have := (List.getElem?_eq_some_iff.1 hj).1
        rwa [fl_len _ 17 rlv_len l] at this
      have hq : j / 17 < l.length := (Nat.div_lt_iff_lt_mul (by decide)).2 hjl
      obtain ⟨q, hq'⟩ : ∃ q, l[j / 17]? = some q := ⟨_, List.getElem?_eq_getElem hq⟩
      obtain ⟨b, off, hh, hc⟩ := hrow.cells (j / 17) q hq'
      cases hh
      have e : j / 17 * 17 + j % 17 = j := by omega
      have h1 := fl_get (fun q : Rl => q.v.toList) 17 rlv_len l (j / 17) (j % 17) q hq' (Nat.mod_lt _ (by decide))
      rw [e] at h1
      have h2 : q.v.toList[j % 17]? = some u := by rw [← h1]; exact hj
      have h3 := hc.2 (j % 17) u (by simpa using h2)
      rw [show (⟨b, off, none⟩ : Addr).add j = ⟨b, off + j, none⟩ from Go.WideShapes.add_plain ..]
      rw [show off + j = off + j / 17 * 17 + j % 17 by omega]
      exact h3) (by
      intro u hu
      obtain ⟨q, _, hq⟩ := List.mem_flatMap.1 hu
      exact rlv_one q u hq) (by unfold maxLen; omega) hsum hbase
    have h4 : w'.ownsRow B 55 17 v' (xs ++ l).length (pc17 (xs ++ l)) := by
      have e : pc17 (xs ++ l) = pc17 xs ++ pc17 l := by simp [pc17]
      rw [List.length_append, e]
      exact h2
    obtain ⟨a', c', rfl⟩ : ∃ a' c', v' = .slice a' (xs ++ l).length c' := by
      rcases h4.2 with ⟨h5, h6⟩ | ⟨g, cap, cur, h5, _⟩
      · exact ⟨none, 0, by rw [h5, h6]⟩
      · exact ⟨_, cap, h5⟩
    refine ⟨a', c', w', h1, h4, (Below.refl _ _).grown h3 hbase fun k hk => ?_⟩
    cases a with
    | none => cases hk
    | some ad' =>
      have e : ad'.block = k := by
        cases ad'
        simpa [Value.ownBlock] using hk
      rw [← e]
      exact OwnR.lt hown ad' rfl
theorem row_one (w W : World) (p : Rl) (t : TypeId) (h : w.alloc (.cells p.v t) = W) (hp : p.ok) : RowR W (some ⟨w.heap.size, 0, none⟩) [p] := by
  have B := blk_nw h
  refine ⟨fun r hr => ?_, fun i r hr => ?_⟩
  · simp only [List.mem_cons, List.not_mem_nil, or_false] at hr
    rw [hr]
    exact hp
  · match i, hr with
    | 0, hr =>
      cases hr
      exact ⟨w.heap.size, 0, rfl, by simpa using B.at_⟩
end Go.Proofs.YtgppfkbapieneaaDoor
