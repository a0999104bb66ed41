/- Texts joined: CmO -/
import Derived.Test.YtgppfkbapieneaaDoorCox33
import Derived.Test.YtgppfkbapieneaaDoorCox35
namespace Go.Proofs.YtgppfkbapieneaaDoor
open Go.RowKit
set_option linter.unusedVariables false
set_option linter.unusedSimpArgs false
set_option maxRecDepth 100000 in
set_option maxHeartbeats 4000000 in
theorem rbehind_pt (p : Pt) (w : World) (hp : p.ok) (ha : p.a < 18446744073709551615) : Calls Tryd.prog 35 #[.agg p.v] w fun e w' => e = .returned (.agg p.next.v) ∧ Below w.heap.size w w' := by
  obtain ⟨a, b, c⟩ := p
  obtain ⟨⟨a0, a1⟩, ⟨b0, b1⟩, ⟨c0, c1⟩⟩ := hp
  simp only at *
  unfold Pt.next
  simp only
  by_cases hc : c < 18446744073709551615
  · rw [if_pos hc]
    have hw : IntKind.u64.wrap (c + 1) = c + 1 := wraps_u64 _ (by omega) (by omega)
    have hne2 : ¬ c + 1 = 0 := by omega
    go_enter Tryd.func35, Tryd.ntmps35
    go_wp2
    exact ret_cell (k := 2) (g := w.heap.size + 1) Tryd.f35 (by kernel_rfl) (blk1 w _ (Pt.v ⟨a, b, c + 1⟩) 42) Tryd.underlying42 (by kernel_rfl) (by rfl) rfl ⟨rfl, bel_al (bel_nw rfl) rfl⟩
  · rw [if_neg hc]
    have ec : c = 18446744073709551615 := by omega
    subst ec
    clear hc
    have hw0 : IntKind.u64.wrap (18446744073709551615 + 1) = 0 := by kernel_rfl
    by_cases hb : b < 18446744073709551615
    · rw [if_pos hb]
      have hw : IntKind.u64.wrap (b + 1) = b + 1 := wraps_u64 _ (by omega) (by omega)
      have hne2 : ¬ b + 1 = 0 := by omega
      go_enter Tryd.func35, Tryd.ntmps35
      go_wp2
      exact ret_cell (k := 2) (g := w.heap.size + 1) Tryd.f35 (by kernel_rfl) (blk1 w _ (Pt.v ⟨a, b + 1, 0⟩) 42) Tryd.underlying42 (by kernel_rfl) (by rfl) rfl ⟨rfl, bel_al (bel_nw rfl) rfl⟩
    · rw [if_neg hb]
      have eb : b = 18446744073709551615 := by omega
      subst eb
      clear hb
      have hw : IntKind.u64.wrap (a + 1) = a + 1 := wraps_u64 _ (by omega) (by omega)
      go_enter Tryd.func35, Tryd.ntmps35
      go_wp2
      exact ret_cell (k := 2) (g := w.heap.size + 1) Tryd.f35 (by kernel_rfl) (blk1 w _ (Pt.v ⟨a + 1, 0, 0⟩) 42) Tryd.underlying42 (by kernel_rfl) (by rfl) rfl ⟨rfl, bel_al (bel_nw rfl) rfl⟩
theorem insP_at : ∀ (i : Nat) (L : List Pt) (p : Pt), i ≤ L.length → (∀ (j : Nat) (q : Pt), j < i → L[j]? = some q → q.less p = true) → (∀ q, L[i]? = some q → q.less p = false) → insP L p = if L[i]? = some p then L else L.take i ++ p :: L.drop i
  | 0, [], p, _, _, _ => by simp [insP]
  | 0, q :: L, p, _, _, h => by
    have h1 := h q rfl
    unfold insP
    rw [if_neg (by rw [h1]; simp)]
    by_cases e : q = p
    · subst e
      rw [if_pos (Pt.same_iff.2 rfl), if_pos (by simp)]
    · rw [if_neg (fun h => e (Pt.same_iff.1 h)), if_neg (by simpa using e)]
      simp
  | i + 1, [], p, h, _, _ => by simp at h
  | i + 1, q :: L, p, h, hl, hn => by
    have h1 := hl 0 q (by omega) rfl
    have ih := insP_at i L p (by simp at h; omega) (fun j x hj hx => hl (j + 1) x (by omega) (by simpa using hx)) (fun x hx => hn x (by simpa using hx))
    unfold insP
    rw [if_pos h1, ih]
    by_cases e : L[i]? = some p
    · rw [if_pos e, if_pos (by simpa using e)]
    · rw [if_neg e, if_neg (by simpa using e)]
      simp
theorem insP_n : ∀ {L : List Pt} {p : Pt}, (∀ q ∈ L, q.ok) → p.ok → (insP L p).map Pt.n = insS (L.map Pt.n) p.n
  | [], p, _, _ => by simp [insP, insS]
  | q :: L, p, h, hp => by
    have hq := h q (by simp)
    have ih := insP_n (L := L) (p := p) (fun x hx => h x (by simp [hx])) hp
    unfold insP
    simp only [List.map_cons, insS]
    have h1 := Pt.less_iff hq hp
    have h2 := Pt.same_n hq hp
    by_cases e : q.n < p.n
    · rw [if_pos (h1.2 e), if_pos e, List.map_cons, ih]
    · rw [if_neg (fun h => e (h1.1 h)), if_neg e]
      by_cases e2 : q.n = p.n
      · rw [if_pos (h2.2 e2), if_pos e2, List.map_cons]
      · rw [if_neg (fun h => e2 (h2.1 h)), if_neg e2, List.map_cons, List.map_cons]
theorem insP_mem : ∀ {L : List Pt} {p z : Pt}, z ∈ insP L p → z = p ∨ z ∈ L
  | [], p, z, h => by simpa [insP] using h
  | q :: L, p, z, h => by
    unfold insP at h
    split at h
    · rcases List.mem_cons.1 h with h | h
      · exact .inr (by simp [h])
      · rcases insP_mem h with h | h
        · exact .inl h
        · exact .inr (by simp [h])
    · split at h
      · exact .inr h
      · simpa using h
theorem insP_ok {L : List Pt} {p : Pt} (h : ∀ q ∈ L, q.ok) (hp : p.ok) : ∀ q ∈ insP L p, q.ok := fun q hq => by
  rcases insP_mem hq with e | e
  · rw [e]; exact hp
  · exact h q e
theorem insP_len (L : List Pt) (p : Pt) : (insP L p).length ≤ L.length + 1 ∧ L.length ≤ (insP L p).length := by
  induction L with
  | nil => simp [insP]
  | cons q L ih =>
    unfold insP
    split
    · simp; omega
    · split <;> simp
/-- append(v, x...) of points. -/
theorem run_appPs (w : World) (ty : TypeId) (B : Nat) (a : Option Addr) (c : Nat) (xs : List Pt) (hown : OwnP w B a c xs) (b : Option Addr) (cc : Nat) (l : List Pt) (hrow : RowP w b l) (hnil : b = none → cc = 0)
    (hsum : (xs.length + l.length) * 24 ≤ 140737488355328) (hbase : B ≤ w.heap.size) :
    ∃ a' c' w', (Builtin.append_ #[23, 23] ty #[.slice a xs.length c, .slice b l.length cc]).run Tryd.prog w = .ok (.slice a' (xs ++ l).length c') w' ∧ OwnP w' B a' c' (xs ++ l) ∧ Below B w w' := by
  obtain ⟨i0, hi, hz0, hz1, hz2⟩ := info_parts info_point
  cases b with
  | none =>
    have hl : l = [] := by
      cases l with
      | nil => rfl
      | cons y l => obtain ⟨b, off, hh, _⟩ := hrow.cells 0 y rfl; cases hh
    subst hl
    have := run_append_owned_none (P := Tryd.prog) (w := w) B 23 ty 42 i0 3 Tryd.underlying23 hi (.slice a xs.length c) xs.length (pc3 xs) hown
    rw [hnil rfl]
    refine ⟨a, c, w, ?_, by simpa using hown, Below.refl _ _⟩
    simpa using this
  | some ad =>
    obtain ⟨v', w', h1, h2, h3, _⟩ := run_append_own (P := Tryd.prog) w B 23 ty 42 i0 (.agg z3) 3 24 Tryd.underlying23 hi hz0 hz1 hz2 rfl (by decide) (.slice a xs.length c) xs.length (pc3 xs) hown ad l.length cc (pc3 l) (fl_len _ 3 ptv_len l) (by
      intro j u hj
      have hjl : j < l.length * 3 := by
        have := (List.getElem?_eq_some_iff.1 hj).1
        rwa [fl_len _ 3 ptv_len l] at this
      have hq : j / 3 < l.length := (Nat.div_lt_iff_lt_mul (by decide)).2 hjl
      obtain ⟨q, hq'⟩ : ∃ q, l[j / 3]? = some q := ⟨_, List.getElem?_eq_getElem hq⟩
      obtain ⟨b, off, hh, hc⟩ := hrow.cells (j / 3) q hq'
      cases hh
      have e : j / 3 * 3 + j % 3 = j := by omega
      have h1 := fl_get (fun q : Pt => q.v.toList) 3 ptv_len l (j / 3) (j % 3) q hq' (Nat.mod_lt _ (by decide))
      rw [e] at h1
      have h2 : q.v.toList[j % 3]? = some u := by rw [← h1]; exact hj
      have h3 := hc.2 (j % 3) u (by simpa using h2)
      rw [show (⟨b, off, none⟩ : Addr).add j = ⟨b, off + j, none⟩ from Go.WideShapes.add_plain ..]
      rw [show off + j = off + j / 3 * 3 + j % 3 by omega]
      exact h3) (by
      intro u hu
      obtain ⟨q, _, hq⟩ := List.mem_flatMap.1 hu
      exact ptv_one q u hq) (by unfold maxLen; omega) hsum hbase
    have h4 : w'.ownsRow B 42 3 v' (xs ++ l).length (pc3 (xs ++ l)) := by
      have e : pc3 (xs ++ l) = pc3 xs ++ pc3 l := by simp [pc3]
      rw [List.length_append, e]
      exact h2
    obtain ⟨a', c', rfl⟩ : ∃ a' c', v' = .slice a' (xs ++ l).length c' := by
      rcases h4.2 with ⟨h5, h6⟩ | ⟨g, cap, cur, h5, _⟩
      · exact ⟨none, 0, by rw [h5, h6]⟩
      · exact ⟨_, cap, h5⟩
    refine ⟨a', c', w', h1, h4, (Below.refl _ _).grown h3 hbase fun k hk => ?_⟩
    cases a with
    | none => cases hk
    | some ad' =>
      have e : ad'.block = k := by
        cases ad'
        simpa [Value.ownBlock] using hk
      rw [← e]
      exact OwnP.lt hown ad' rfl
theorem OwnP.at0 {w : World} {B : Nat} {a : Option Addr} {c : Nat} {l : List Pt} (h : OwnP w B a c l) (hl : 0 < l.length) : ∃ g, a = some ⟨g, 0, none⟩ := by
  rcases h.2 with ⟨h5, h6⟩ | ⟨g, cap, cur, h5, _⟩
  · omega
  · cases h5
    exact ⟨g, rfl⟩
theorem RowP.take {w : World} {g : Nat} {L : List Pt} (h : RowP w (some ⟨g, 0, none⟩) L) (i : Nat) : RowP w (some ⟨g, 0, none⟩) (L.take i) :=
  ⟨fun q hq => h.each q (List.mem_of_mem_take hq), fun j q hq => h.cells j q (by
    rw [List.getElem?_take] at hq
    split at hq
    · exact hq
    · cases hq)⟩
theorem RowP.drop {w : World} {g : Nat} {L : List Pt} (h : RowP w (some ⟨g, 0, none⟩) L) (i c : Nat) (hc : L.length ≤ c) : RowP w (if c = i then some ⟨g, 0, none⟩ else some ⟨g, i * 3, none⟩) (L.drop i) :=
  ⟨fun q hq => h.each q (List.mem_of_mem_drop hq), fun j q hq => by
    rw [List.getElem?_drop] at hq
    have hlt := (List.getElem?_eq_some_iff.1 hq).1
    rw [if_neg (by omega)]
    obtain ⟨b, off, e, hcs⟩ := h.cells (i + j) q hq
    cases e
    refine ⟨g, i * 3, rfl, ?_⟩
    rw [show i * 3 + j * 3 = 0 + (i + j) * 3 by omega]
    exact hcs⟩
end Go.Proofs.YtgppfkbapieneaaDoor
