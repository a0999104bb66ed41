/- turn, walked. -/
import Derived.Test.YtfcpjenlckkloaaWhL
namespace Go.Proofs.Ytfcpjenlckkloaa
open Go.RowKit
set_option linter.unusedVariables false
set_option linter.unusedSimpArgs false

theorem cat_small {w : World} {g m : Nat} {now : Int} {E : List M.Ent} {sl : List Sl} (h : Wm w g m now E sl) (hin : In now (fun x t => (x, t) ∈ E) sl) (q : Nat) : (cat sl q).length ≤ 1024 := by
  have := nodup_len (k := E.map (·.1)) (nodup_cat hin (fun x t u h1 h2 => congrArg Prod.snd (M.pw_inj h.ok.ids h1 h2 rfl)) q) (fun x hx => by
    obtain ⟨k, s, h1, h2, h3⟩ := mem_cat.1 hx
    obtain ⟨t, h4, _⟩ := ((hin k s h2).2 x).1 h3
    exact List.mem_map.2 ⟨_, h4, rfl⟩)
  have hf := h.few
  simp at this
  omega
theorem empty_any (w : World) (g m : Nat) (now to : Int) (E : List M.Ent) (sl : List Sl) (h : Wm w g m now E sl) (hin : In now (fun x t => (x, t) ∈ E) sl) (hnt : now ≤ to) (ht : to ≤ 4611686018427387904) :
    Calls Try.prog 41 #[.pointer (some ⟨g, 0, none⟩), .int .i64 to] w fun e w' => ∃ O : Sl, e = .returned O.v ∧ Emp w w' g m now E sl (M.slot now to + 1) O := by
  have hn := h.now0
  obtain ⟨N, rfl⟩ := Int.eq_ofNat_of_zero_le hn
  obtain ⟨T, rfl⟩ := Int.eq_ofNat_of_zero_le (show 0 ≤ to by omega)
  have hs : M.slot (↑N) (↑T) = 64 * M.ap N T + M.dg T (M.ap N T) := by
    unfold M.slot M.slotN
    rw [show max (↑T : Int) ↑N = ↑T by omega]
    rfl
  rw [hs]
  exact empty_n w g m N T E sl h (fun q => by have := cat_small h hin q; omega) (by omega) (by omega)
theorem own_cell {w : World} {O : Sl} (h : O.own w) {j : Nat} {x : Int} (hx : O.ids[j]? = some x) : ∃ g, O.a = some ⟨g, 0, none⟩ ∧ w.cell? ⟨g, j, none⟩ = some (.int .i64 x) := by
  have hj : j < O.ids.length := (List.getElem?_eq_some_iff.1 hx).1
  rcases h.cases with ⟨_, _, h3⟩ | ⟨g, cur, h1, h2, h3, h4, h5, h6⟩
  · rw [h3] at hj; simp at hj
  · refine ⟨g, h1, ?_⟩
    have := (holds_of_blockI h2 h6 j (by simpa using hj)).1
    rw [Nat.zero_add] at this
    rw [this]
    simp [List.getElem?_eq_some_iff.1 hx]
    simp [(List.getElem?_eq_some_iff.1 hx).2, hj]
theorem passed {w : World} {g m : Nat} {now to : Int} {E : List M.Ent} {sl : List Sl} (h : Wm w g m now E sl) (hin : In now (fun x t => (x, t) ∈ E) sl) {l : List Int} (hl : l = cat sl (M.slot now to + 1)) {j : Nat} {x : Int} (hx : l[j]? = some x) :
    ∃ t, M.tm E x = some t ∧ In64 x ∧ (x, t) ∈ E ∧ M.slot now t ≤ M.slot now to ∧ x ∉ l.take j := by
  have hn := nodup_cat hin (fun x t u h1 h2 => congrArg Prod.snd (M.pw_inj h.ok.ids h1 h2 rfl)) (M.slot now to + 1)
  rw [← hl] at hn
  have hm := List.mem_of_getElem? hx
  rw [hl] at hm
  obtain ⟨k, s, h1, h2, h3⟩ := mem_cat.1 hm
  obtain ⟨t, h4, h5⟩ := ((hin k s h2).2 x).1 h3
  have hb := h.ok.bnd _ h4
  refine ⟨t, (h.ok.tm_iff x t).2 h4, ⟨hb.2.2.1, hb.2.2.2⟩, h4, by omega, fun hc => ?_⟩
  have hj : j < l.length := (List.getElem?_eq_some_iff.1 hx).1
  have e := List.take_append_drop j l
  rw [List.drop_eq_getElem_cons hj] at e
  rw [← e] at hn
  refine (List.nodup_append.1 hn).2.2 x hc x ?_ rfl
  have : l[j] = x := (List.getElem?_eq_some_iff.1 hx).2
  rw [this]; simp
set_option maxRecDepth 100000 in
set_option maxHeartbeats 4000000 in
theorem turn_any (w : World) (g m : Nat) (now to : Int) (E : List M.Ent) (sl : List Sl) (h : Wm w g m now E sl) (hin : In now (fun x t => (x, t) ∈ E) sl) (hnt : now ≤ to) (ht : to ≤ 4611686018427387904) :
    Calls Try.prog 31 #[.pointer (some ⟨g, 0, none⟩), .int .i64 to] w fun e w' => ∃ (D : Sl) (sl' : List Sl), e = .returned D.v ∧ Turned w w' g m to E sl sl' D := by
  have K : Hid (Calls Try.prog 41 #[.pointer (some ⟨g, 0, none⟩), .int .i64 to] w fun e w' => ∃ (Oa : Option Addr) (Oc : Nat) (Ol : List Int), e = .returned (.slice Oa Ol.length Oc) ∧ (∃ u, w'.cell? ⟨g, 1, none⟩ = some u) ∧ w'.frozen? ⟨g, 1, none⟩ = false ∧ Ol.length ≤ 1024 ∧ Hid (Sl.own w' ⟨Oa, Oc, Ol⟩) ∧ Hid (Ol = cat sl (M.slot now to + 1)) ∧ Hid (Trn w (w'.setCell ⟨g, 1, none⟩ (.int .i64 to)) g m now to E sl (nilTo sl (M.slot now to + 1)) ⟨Oa, Oc, Ol⟩ nilSl 0)) := by
    refine (empty_any w g m now to E sl h hin hnt ht).mono ?_
    rintro e w' ⟨O, rfl, em⟩
    exact ⟨O.a, O.c, O.ids, rfl, ⟨_, em.wm.blk.cell 1 _ (wc_1 ..)⟩, em.wm.blk.frozen 1, by rw [em.ids]; exact cat_small h hin _, em.own, em.ids, Trn.start h hin hnt ht em⟩
  have H0 := hidW h
  have HI := hidW hin
  have HT := hidW ht
  clear h hin
  go_enter Try.func31, Try.ntmps31
  go_wp2_with fail
  refine Calls.mono K.out ?_
  rintro e W1 ⟨Oa, Oc, Ol, rfl, ⟨u1, c1⟩, f1, hOl, hOwn, hO, TR⟩
  clear K
  rcases hOwn.out.cases with ⟨n1, n2, n3⟩ | ⟨go, cur, n1, n2, n3, n4, n5, n6⟩
  · simp only at n1 n2 n3
    subst n1 n2 n3
    clear hOwn
    go_wp2_with fail
    obtain ⟨W2, hW2⟩ : ∃ W2, W1.setCell ⟨g, 1, none⟩ (.int .i64 to) = W2 := ⟨_, rfl⟩
    rw [hW2] at TR ⊢
    clear hW2 c1 f1
    go_loopw [6, 18] (fun b i wr => ∃ (j : Nat) (D : Sl) (sj : List Sl), j ≤ 0 ∧ i = .int .i64 j ∧ b = D.v ∧ Hid (Trn w wr g m now to E sl sj ⟨none, 0, []⟩ D j)) (fun _ i _ => 0)
    case atStart => exact ⟨0, nilSl, _, Nat.zero_le _, rfl, rfl, TR⟩
    case round =>
      obtain ⟨j, D, sj, hj, rfl, rfl, tr⟩ := hrel
      have ek : j = 0 := by omega
      subst ek
      have fin := hidW (tr.out.done H0.out HI.out hO.out HT.out (by simp))
      go_wp2
      go_ret
      first | exact ⟨D, rfl, sj, fin.out⟩ | exact ⟨D, sj, rfl, fin.out⟩
  · simp only at n1 n2 n3 n4 n5 n6
    subst n1
    clear n2 n3 n4 n5 n6 hOwn
    go_wp2_with fail
    obtain ⟨W2, hW2⟩ : ∃ W2, W1.setCell ⟨g, 1, none⟩ (.int .i64 to) = W2 := ⟨_, rfl⟩
    rw [hW2] at TR ⊢
    clear hW2 c1 f1
    go_loopw [6, 18] (fun b i wr => ∃ (j : Nat) (D : Sl) (sj : List Sl), j ≤ Ol.length ∧ i = .int .i64 j ∧ b = D.v ∧ Hid (Trn w wr g m now to E sl sj ⟨some ⟨go, 0, none⟩, Oc, Ol⟩ D j)) (fun _ i _ => Ol.length - (intOf i).toNat)
    case atStart => exact ⟨0, nilSl, _, Nat.zero_le _, rfl, rfl, TR⟩
    case round =>
      obtain ⟨j, D, sj, hj, rfl, rfl, tr⟩ := hrel
      by_cases hlt : j < Ol.length
      · obtain ⟨x, hx⟩ : ∃ x, Ol[j]? = some x := ⟨_, List.getElem?_eq_getElem hlt⟩
        obtain ⟨t, ht1, hi, ht2, ht3, ht4⟩ := passed H0.out HI.out hO.out hx
        obtain ⟨go', ga, gc⟩ := own_cell tr.out.own hx
        cases ga
        have i1 : (↑j : Int) < ↑Ol.length := by omega
        have i0 : (0 : Int) ≤ ↑j := by omega
        have c2 := tr.out.wm.blk.cell 2 _ (wc_2 ..)
        have L := tr.out.wm.map.look1 hi
        rw [ht1] at L
        simp only [Option.getD_some] at L
        by_cases hle : t ≤ to
        · have ow : Sl.own (wr.alloc (.cells #[.int .i64 x] 3)) ⟨some ⟨wr.heap.size, 0, none⟩, 1, [x]⟩ := ⟨rfl, .inr ⟨wr.heap.size, 1, #[.int .i64 x], rfl, Nat.zero_le _, blk_new wr _ _, by simp, by unfold maxLen; omega, rfl, rfl⟩⟩
          have dw : D.own (wr.alloc (.cells #[.int .i64 x] 3)) := tr.out.due.but ((But.refl (fun _ => False) wr).alloc _) (fun _ _ y => y)
          have hdl : D.ids.length ≤ 1024 := by
            have hti : D.ids = (Ol.take j).filter (fun x => decide ((M.tm E x).getD 0 ≤ to)) := tr.out.ids
            rw [hti]
            have h1 := List.length_filter_le (fun x => decide ((M.tm E x).getD 0 ≤ to)) (Ol.take j)
            have h2 := List.length_take_le' j Ol
            omega
          obtain ⟨D', W', r1, r2, r3, r4, r5⟩ := run_app _ 39 D _ dw ow (by simp; omega)
          have nt : Hid (Trn w W' g m now to E sl sj ⟨some ⟨go, 0, none⟩, Oc, Ol⟩ D' (j + 1)) := tr.out.isDue hx ht1 hle r2 r3 (((But.refl _ wr).alloc _).trans r4 (fun _ _ y => y)) (fun k hk => by
            rcases r5 k hk with y | y
            · exact .inl y
            · refine .inr ?_
              simp at y
              omega)
          clear tr ow dw r2 r3 r4 r5 hx ht1 ht2 ht3 ht4 TR hdl
          go_wp2_with (at_builtin; refine wpList_run_app _ rfl _ _ rfl _ _ _ _ rfl rfl r1 ?_)
          exact ⟨⟨j + 1, D', sj, by omega, int_eq (by omega), rfl, nt⟩, by simp [intOf] <;> omega⟩
        · have hle' : to < t := by omega
          have kp := hidW (putIn_in wr g m to E sj tr.out.wm _ (fun y u hy => hy.1) tr.out.inn x t ht1 (fun u hu => by
            have := M.pw_inj H0.out.ok.ids hu.1 ht2 rfl
            cases this
            rcases hu.2 with y | y
            · omega
            · exact ht4 y.1))
          have kn : Hid (∀ W' sj', Wm W' g m to E sj' → In to (fun y u => ((y, u) ∈ E ∧ (M.slot now to < M.slot now u ∨ (y ∈ Ol.take j ∧ to < u))) ∨ (y = x ∧ u = t)) sj' → But (WF g m sj) wr W' → (∀ k, WF g m sj' k → WF g m sj k ∨ wr.heap.size ≤ k) → Hid (Trn w W' g m now to E sl sj' ⟨some ⟨go, 0, none⟩, Oc, Ol⟩ D (j + 1))) := fun W' sj' q1 q2 q3 q4 => tr.out.isLate hx ht1 hle' q1 q2 q3 q4
          clear tr hx ht1 ht2 ht3 ht4 TR hle
          go_wp2_with fail
          refine Calls.mono kp.out ?_
          rintro e W' ⟨rfl, sj', q1, q2, q3, q4⟩
          have nt := kn.out W' sj' q1 q2 q3 q4
          clear kn kp q1 q2 q3 q4
          go_wp2
          exact ⟨⟨j + 1, D, sj', by omega, int_eq (by omega), rfl, nt⟩, by simp [intOf] <;> omega⟩
      · have ek : j = Ol.length := by omega
        have i1 : ¬ (↑j : Int) < ↑Ol.length := by omega
        have fin := hidW (tr.out.done H0.out HI.out hO.out HT.out (show Ol.length ≤ j by omega))
        go_wp2
        go_ret
        first | exact ⟨D, rfl, sj, fin.out⟩ | exact ⟨D, sj, rfl, fin.out⟩
end Go.Proofs.Ytfcpjenlckkloaa
