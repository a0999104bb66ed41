/- Each number that is set once, and not dropped, is told just once, by the first Tick that reaches it. -/
import Derived.Test.YtfcpjenlckkloaaWhU
namespace Go.Proofs.Ytfcpjenlckkloaa
open Go.RowKit
set_option linter.unusedVariables false
set_option linter.unusedSimpArgs false

/-- The wheel, what is told, the ticks: beside one another. -/
structure On (w0 w : World) (g gt : Nat) (F : Nat → Prop) (now : Int) (E : List M.Ent) (B : List Bool) (O : Sl) : Prop where
  wh : Wn w0 w g F now E
  bb : Blk w gt 4 (bcs B)
  nF : ¬ F gt
  ng : w0.heap.size ≤ gt
  ow : O.own w
  oF : ∀ k, O.at_ k → ¬ F k
  oT : ¬ O.at_ gt
theorem On.tick {w0 w w' : World} {g gt : Nat} {F F' : Nat → Prop} {now now' : Int} {E E' : List M.Ent} {B : List Bool} {O D : Sl} (h : On w0 w g gt F now E B O) (hw : Wn w0 w' g F' now' E') (T : Tk w w' g F F' now' E' D) : On w0 w' g gt F' now' E' B O ∧ D.own w' ∧ ¬ D.at_ gt := by
  have hlt := h.bb.lt
  refine ⟨⟨hw, h.bb.but T.but h.nF, fun x => ?_, h.ng, h.ow.but T.but h.oF, fun k hk x => ?_, h.oT⟩, T.due, fun x => ?_⟩
  · rcases T.wf _ x with y | y
    · exact h.nF y
    · omega
  · rcases T.wf _ x with y | y
    · exact h.oF k hk y
    · have := h.ow.lt hk
      omega
  · have := T.new _ x
    omega
theorem On.told {w0 w : World} {g gt : Nat} {F : Nat → Prop} {now : Int} {E : List M.Ent} {B : List Bool} {O : Sl} (h : On w0 w g gt F now E B O) (i : Nat) : On w0 (w.setCell ⟨gt, i, none⟩ (.bool true)) g gt F now E (B.set i true) O ∧ But (fun k => k = gt) w (w.setCell ⟨gt, i, none⟩ (.bool true)) := by
  have b : But (fun k => k = gt) w (w.setCell ⟨gt, i, none⟩ (.bool true)) := (But.refl (fun k => k = gt) w).setCell gt i (.inl rfl) _
  have bl : Below w0.heap.size w0 (w.setCell ⟨gt, i, none⟩ (.bool true)) := h.wh.bel.trans (b.to_below h.wh.bel.size (fun k hk e => by have := h.ng; omega))
  refine ⟨⟨h.wh.other b (fun k hk e => h.nF (e ▸ hk)) bl, ?_, h.nF, h.ng, h.ow.but b (fun k hk e => h.oT (e ▸ hk)), h.oF, h.oT⟩, b⟩
  have := h.bb.put i (.bool true)
  rw [bcs_set] at this
  exact this
set_option maxRecDepth 100000 in
set_option maxHeartbeats 8000000 in
theorem wheelOnce_walk (ta : Option Addr) (tc : Nat) (L : List Int) (ka : Option Addr) (kc : Nat) (K : List Int) (w : World) (tlc : L.length ≤ tc) (tcm : tc ≤ 17592186043904) (hL : RowI w ta L ∧ (∀ x ∈ L, In64 x) ∧ (ta = none → tc = 0)) (klc : K.length ≤ kc) (kcm : kc ≤ 17592186043904) (hK : RowI w ka K ∧ (∀ x ∈ K, In64 x) ∧ (ka = none → kc = 0)) :
    Calls Try.prog 4 #[.slice ta L.length tc, .slice ka K.length kc] w fun e w' => e = .returned (.bool true) ∧ Below w.heap.size w w' := by
  have k0 := hidW (new_w 0 w rfl)
  obtain ⟨N, hN⟩ : ∃ N : Nat, min (↑L.length : Int) 500 = (N : Int) := ⟨min L.length 500, by omega⟩
  have hN1 : N ≤ 500 := by omega
  have hN2 : N ≤ L.length := by omega
  have hN3 : (↑N : Int) ≤ ↑tc := by omega
  have hN0 : (0 : Int) ≤ ↑N := by omega
  obtain ⟨TL, hTL⟩ : ∃ TL, L.take N = TL := ⟨_, rfl⟩
  have hTn : TL.length = N := by rw [← hTL]; simp; omega
  have cT : Hid (∀ wr, Below w.heap.size w wr → ∀ (i : Nat) (x : Int), TL[i]? = some x → ∃ b off, ta = some ⟨b, off, none⟩ ∧ wr.cell? ⟨b, off + i, none⟩ = some (.int .i64 x)) := fun wr hb i x hx => by
    have hx' : L[i]? = some x := by
      rw [← hTL, List.getElem?_take] at hx
      split at hx
      · exact hx
      · cases hx
    have hil : i < L.length := (List.getElem?_eq_some_iff.1 hx').1
    obtain ⟨b, off, h1, h2⟩ := (hL.1.below hb).cells (by omega)
    refine ⟨b, off, h1, ?_⟩
    rw [h2 i hil]
    have := (List.getElem?_eq_some_iff.1 hx').2
    simp [hil, this]
  have HK := hidW hK
  have HTn := hidW hTn
  clear hL hK hTL
  go_enter Try.func4, Try.ntmps4
  go_wp2_with fail
  refine Calls.mono k0.out ?_
  rintro e w1 ⟨F1, g, rfl, n1⟩
  have kal := hidW (alive_any w1)
  clear k0
  go_wp2_with fail
  refine Calls.mono kal.out ?_
  rintro e w2 ⟨rfl, q2⟩
  have n2 : Hid (Wn w w2 g F1 0 []) := n1.below q2
  clear kal n1 q2 hTn
  go_wp2_with fail
  go_loopw [39] (fun i wr => ∃ (k : Nat) (F : Nat → Prop) (E : List M.Ent), k ≤ N ∧ i = .int .i64 k ∧ Hid (Wn w wr g F 0 E) ∧ Hid (E.length ≤ k ∧ ∀ p, p ∈ E ↔ EntOf TL k p)) (fun i _ => N - (intOf i).toNat)
  case atStart => exact ⟨0, F1, [], by omega, rfl, n2, ⟨by simp, fun p => by simp [EntOf]; omega⟩⟩
  case round =>
    obtain ⟨k, F, E, hk, rfl, n3, hE⟩ := hrel
    clear n2
    by_cases hlt : k < N
    · obtain ⟨t, ht⟩ : ∃ t, TL[k]? = some t := ⟨_, List.getElem?_eq_getElem (by rw [HTn.out]; exact hlt)⟩
      obtain ⟨b, off, rfl, cx⟩ := cT.out wr n3.out.bel k t ht
      have i1 : (↑k : Int) < ↑N := by omega
      have i0 : (0 : Int) ≤ ↑k := by omega
      have ks := hidW (set_w w wr g F 0 E n3.out k t ⟨by omega, by omega⟩)
      have hno : M.tm E k = none := M.tm_none.2 (fun u hu => by
        have := (hE.out.2 _).1 hu
        have := this.2.1
        simp only at this
        omega)
      by_cases hr : rtB t = true
      · have h1 : setR E k t = 0 := by
          unfold setR
          rw [if_neg (by simp [hr]), if_neg (by have := hE.out.1; omega)]
        have h2 : setS E k t = M.setE E k t := by unfold setS; rw [if_pos h1]
        rw [h1, h2] at ks
        have hE2 : Hid ((M.setE E k t).length ≤ k + 1 ∧ ∀ p, p ∈ M.setE E k t ↔ EntOf TL (k + 1) p) := by
          obtain ⟨_, _, hb, _⟩ := n3.out.whl.ex
          refine ⟨?_, entOf_set hE.out.2 ht hr⟩
          rw [hb.ok.len_set, hno]
          have := hE.out.1
          simp
          omega
        have hb : 0 ≤ t ∧ t ≤ 4611686018427387904 := by simpa [rtB] using hr
        obtain ⟨hb1, hb2⟩ := hb
        generalize M.setE E k t = E2 at *
        clear h1 h2 hno hE n3 hr
        go_wp2_with fail
        refine Calls.mono ks.out ?_
        rintro e w4 ⟨F4, rfl, n4, -⟩
        have n4 := hidW n4
        clear ks
        go_wp2
        exact ⟨⟨k + 1, F4, E2, by omega, int_eq (by omega), n4, hE2⟩, by simp [intOf] <;> omega⟩
      · have hr' : rtB t = false := by simpa using hr
        have h1 : setR E k t = 25 := by
          unfold setR
          rw [if_pos hr']
        have h2 : setS E k t = E := by unfold setS; rw [if_neg (by rw [h1]; decide)]
        rw [h1, h2] at ks
        have hE2 : Hid (E.length ≤ k + 1 ∧ ∀ p, p ∈ E ↔ EntOf TL (k + 1) p) := ⟨by have := hE.out.1; omega, entOf_keep hE.out.2 ht hr'⟩
        have hb : t < 0 ∨ 4611686018427387904 < t := by simp [rtB] at hr; omega
        clear h1 h2 hno hE n3 hr hr'
        rcases Int.lt_or_le t 0 with y | y
        · clear hb
          go_wp2_with fail
          refine Calls.mono ks.out ?_
          rintro e w4 ⟨F4, rfl, n4, -⟩
          have n4 := hidW n4
          clear ks
          go_wp2
          exact ⟨⟨k + 1, F4, E, by omega, int_eq (by omega), n4, hE2⟩, by simp [intOf] <;> omega⟩
        · have y2 : 4611686018427387904 < t := by omega
          clear hb
          go_wp2_with fail
          refine Calls.mono ks.out ?_
          rintro e w4 ⟨F4, rfl, n4, -⟩
          have n4 := hidW n4
          clear ks
          go_wp2
          exact ⟨⟨k + 1, F4, E, by omega, int_eq (by omega), n4, hE2⟩, by simp [intOf] <;> omega⟩
    · have ek : k = N := by omega
      have i1 : ¬ (↑k : Int) < ↑N := by omega
      have hE0 : Hid (∀ p, p ∈ E ↔ EntOf TL N p) := by rw [← ek]; exact hE.out.2
      obtain ⟨W1, hW1⟩ : ∃ W1, wr.alloc (.cells (bcs (List.replicate N false)) 4) = W1 := ⟨_, rfl⟩
      have bB : Blk W1 wr.heap.size 4 (bcs (List.replicate N false)) := hW1 ▸ blk_new wr _ _
      have n4 : Wn w W1 g F 0 E := n3.out.below (hW1 ▸ (Below.refl _ _).alloc (Nat.le_refl _) _)
      have nF : ¬ F wr.heap.size := fun x => Nat.lt_irrefl _ (n3.out.whl.lt _ x)
      have ngt : w.heap.size ≤ wr.heap.size := n3.out.bel.size
      obtain ⟨O1, W2, a1, a2, a3, a4, a5⟩ := run_app_in W1 39 nilSl ka kc K (nilSl_own _) (HK.out.1.below n4.bel) HK.out.2.2 (by show 0 + K.length ≤ _; omega)
      have a4' : But (fun _ => False) W1 W2 := a4.mono (fun n _ x => nil_at n x)
      have a5' : ∀ k, O1.at_ k → W1.heap.size ≤ k := fun k hk => (a5 k hk).resolve_left (nil_at k)
      have n5 : Wn w W2 g F 0 E := n4.other a4' (fun _ _ x => x) (n4.bel.trans (a4'.to_below n4.bel.size (fun _ _ x => x)))
      obtain ⟨O2, W3, c1, c2, c3, c4, c5⟩ := run_app_one W2 39 O1 4611686018427387904 a3 (by rw [a2]; simp [nilSl]; omega)
      have o1F : ∀ k, O1.at_ k → ¬ F k := fun k hk x => by
        have := a5' k hk
        have := n4.whl.lt k x
        omega
      have n6 : Wn w W3 g F 0 E := n5.other c4 (fun k hk x => o1F k x hk) (n5.bel.trans (c4.to_below n5.bel.size (fun k hk x => by have := a5' k x; have := n4.bel.size; omega)))
      have hgt1 : wr.heap.size < W1.heap.size := bB.lt
      have on : On w W3 g wr.heap.size F 0 E (List.replicate N false) O2 := by
        refine ⟨n6, (bB.but a4' (fun x => x)).but c4 (fun x => by have := a5' _ x; omega), nF, ngt, c3, fun k hk x => ?_, fun x => ?_⟩
        · rcases c5 k hk with y | y
          · exact o1F k y x
          · have := n5.whl.lt k x
            omega
        · rcases c5 _ x with y | y
          · have := a5' _ y; omega
          · have := a4'.size; omega
      have hO2 : O2.ids = K ++ [4611686018427387904] := by rw [c2, a2]; rfl
      have hgo : ∃ go, O2.a = some ⟨go, 0, none⟩ := by
        rcases c3.cases with ⟨_, _, h3⟩ | ⟨go, cur, h1, _⟩
        · rw [h3] at hO2; simp at hO2
        · exact ⟨go, h1⟩
      obtain ⟨Oa, Oc, Ol⟩ := O2
      obtain ⟨go, hgo⟩ := hgo
      simp only at hgo hO2
      subst hgo
      change _ = Result.ok (Value.slice (some ⟨go, 0, none⟩) Ol.length Oc) W3 at c1
      have onH := hidW on
      have hOl := hidW hO2
      have hB0 : Hid ((List.replicate N false).length = N ∧ (∀ p, p ∈ E ↔ EntOf TL N p ∧ (List.replicate N false)[p.1.toNat]? = some false) ∧ (0 = Ol.length → E = [])) := by
        refine ⟨by simp, fun p => ?_, fun h => ?_⟩
        · rw [hE0.out p]
          constructor
          · intro hp
            refine ⟨hp, ?_⟩
            rw [List.getElem?_replicate, if_pos (by have := hp.1; have := hp.2.1; omega)]
          · exact fun hp => hp.1
        · rw [hO2] at h
          simp at h
      have hol : Ol.length = K.length + 1 := by rw [hO2]; simp
      have hol2 : Ol.length ≤ 17592186044416 := by omega
      clear on hO2 a2 c2 n6 o1F c3 c4 c5 n5 a5' a4' a5 a4 a3 n4 bB n3 hE hE0 nF hgt1
      obtain ⟨gt, hgt⟩ : ∃ gt, wr.heap.size = gt := ⟨_, rfl⟩
      rw [hgt] at onH ngt
      have hs2 : W2.heap.size = W2.heap.size := rfl
      clear hol
      go_wp2_with (first
        | (at_make; refine wpList_make_bools _ rfl _ _ rfl _ _ N rfl rfl (by omega) ?_)
        | (at_builtin; (with_reducible show wpList _ _ _ _ _ W1); refine wpList_run_app _ rfl _ _ rfl _ _ _ _ rfl rfl a1 ?_)
        | (at_builtin; refine wpList_run_app _ rfl _ _ rfl _ _ _ _ rfl rfl c1 ?_))
      clear a1 c1 hW1
      go_loopw [65] (fun i wr2 => ∃ (j : Nat) (F : Nat → Prop) (now : Int) (E : List M.Ent) (B : List Bool), j ≤ Ol.length ∧ i = .int .i64 j ∧ Hid (On w wr2 g gt F now E B ⟨some ⟨go, 0, none⟩, Oc, Ol⟩) ∧ Hid (B.length = N ∧ (∀ p, p ∈ E ↔ EntOf TL N p ∧ B[p.1.toNat]? = some false) ∧ (j = Ol.length → E = []))) (fun i _ => Ol.length - (intOf i).toNat)
      case atStart => exact ⟨0, F, 0, E, List.replicate N false, by omega, rfl, onH, hB0⟩
      case round =>
        clear onH hB0 hgt
        obtain ⟨j, F, now, E, B, hj, rfl, on, hB⟩ := hrel
        by_cases hlt2 : j < Ol.length
        · obtain ⟨to, hto⟩ : ∃ to, Ol[j]? = some to := ⟨_, List.getElem?_eq_getElem hlt2⟩
          obtain ⟨go', ga, cto⟩ := own_cell on.out.ow hto
          cases ga
          have j1 : (↑j : Int) < ↑Ol.length := by omega
          have j0 : (0 : Int) ≤ ↑j := by omega
          have kn := hidW (now_any wr g F now E on.out.wh.whl)
          have kt := hidW (tick_w w wr g F now to E on.out.wh)
          have hnow : now ≤ 4611686018427387904 := by obtain ⟨_, _, hb, _⟩ := on.out.wh.whl.ex; exact hb.now1
          by_cases hok : tickOk now to = true
          · have hok2 : now ≤ to ∧ to ≤ 4611686018427387904 := by simpa [tickOk] using hok
            have q1 : tickR now to = 0 := by unfold tickR; rw [if_pos hok]
            have q2 : tickL now E to = (M.dueE E to).map (·.1) := by unfold tickL; rw [if_pos hok]
            have q3 : tickE now E to = M.restE E to := by unfold tickE; rw [if_pos hok]
            have q4 : tickN now to = to := by unfold tickN; rw [if_pos hok]
            rw [q1, q2, q3, q4] at kt
            obtain ⟨z1, z2⟩ := hok2
            have hEok : M.Ok E := by obtain ⟨_, _, hb, _⟩ := on.out.wh.whl.ex; exact hb.ok
            have hD : Hid (∀ (m : Nat) (x : Int), ((M.dueE E to).map (·.1))[m]? = some x → ∃ (n : Nat) (t : Int), x = ↑n ∧ n < N ∧ TL[n]? = some t ∧ 0 ≤ t ∧ t ≤ to ∧ B[n]? = some false ∧ ∀ y ∈ ((M.dueE E to).map (·.1)).take m, y.toNat ≠ n) := fun m x hx => by
              rw [List.getElem?_map] at hx
              cases hp : (M.dueE E to)[m]? with
              | none => rw [hp] at hx; cases hx
              | some p =>
                rw [hp] at hx
                cases hx
                obtain ⟨h1, h2⟩ := (hEok.mem_due to p).1 (List.mem_of_getElem? hp)
                obtain ⟨⟨e1, e2, e3, e4⟩, e5⟩ := (hB.out.2.1 p).1 h1
                have hr : 0 ≤ p.2 ∧ p.2 ≤ 4611686018427387904 := by simpa [rtB] using e4
                refine ⟨p.1.toNat, p.2, by show p.1 = _; omega, by omega, e3, hr.1, h2, e5, fun y hy e => ?_⟩
                rw [← List.map_take, List.mem_map] at hy
                obtain ⟨p', hp', rfl⟩ := hy
                have hml : m < (M.dueE E to).length := (List.getElem?_eq_some_iff.1 hp).1
                have hnd := (hEok.due to).ids
                have hsp := List.take_append_drop m (M.dueE E to)
                rw [List.drop_eq_getElem_cons hml, (List.getElem?_eq_some_iff.1 hp).2] at hsp
                rw [← hsp, List.pairwise_append] at hnd
                have hne := hnd.2.2 p' hp' p (by simp)
                have h0 := ((hB.out.2.1 p').1 ((hEok.mem_due to p').1 (List.mem_of_mem_take hp')).1).1.1
                exact hne (by omega)
            have hfin : Hid (∀ B', Told B B' ((M.dueE E to).map (·.1)) → B'.length = N ∧ (∀ p, p ∈ M.restE E to ↔ EntOf TL N p ∧ B'[p.1.toNat]? = some false) ∧ (j + 1 = Ol.length → M.restE E to = [])) := fun B' hT => by
              refine ⟨hT.1.trans hB.out.1, fun p => ?_, fun hj' => ?_⟩
              · rw [hEok.mem_rest to p, hB.out.2.1 p, hT.2]
                constructor
                · rintro ⟨⟨h1, h2⟩, h3⟩
                  refine ⟨h1, h2, fun y hy e => ?_⟩
                  obtain ⟨p', hp', rfl⟩ := List.mem_map.1 hy
                  obtain ⟨h4, h5⟩ := (hEok.mem_due to p').1 hp'
                  have h6 := ((hB.out.2.1 p').1 h4).1.1
                  have h7 := h1.1
                  have h8 : p' = p := M.pw_inj hEok.ids h4 ((hB.out.2.1 p).2 ⟨h1, h2⟩) (by omega)
                  rw [h8] at h5
                  omega
                · rintro ⟨h1, h2, h3⟩
                  refine ⟨⟨h1, h2⟩, ?_⟩
                  rcases Int.lt_or_le to p.2 with y | y
                  · exact y
                  · exact absurd rfl (h3 p.1 (List.mem_map.2 ⟨p, (hEok.mem_due to p).2 ⟨(hB.out.2.1 p).2 ⟨h1, h2⟩, y⟩, rfl⟩))
              · have hto' : to = 4611686018427387904 := by
                  rw [hOl.out] at hto hj'
                  simp at hj'
                  subst hj'
                  simp at hto
                  exact hto.symm
                refine List.eq_nil_iff_forall_not_mem.2 (fun p hp => ?_)
                have h1 := (hEok.mem_rest to p).1 hp
                have h2 := (hEok.bnd p h1.1).2.1
                omega
            have hdl : Hid (((M.dueE E to).map (·.1)).length ≤ 1024) := by
              obtain ⟨_, _, hb, _⟩ := on.out.wh.whl.ex
              have := hb.few
              have := M.due_len E to
              simp only [List.length_map]
              show _ ≤ _
              omega
            have hlate : Hid (∀ p ∈ M.restE E to, to < p.2) := fun p hp => ((hEok.mem_rest to p).1 hp).2
            clear q1 q2 q3 q4 hok hEok hB hto
            generalize (M.dueE E to).map (·.1) = DL at *
            generalize M.restE E to = E' at *
            go_wp2_with fail
            refine Calls.mono kn.out ?_
            rintro e W' ⟨rfl, hW'⟩
            rw [hW']
            clear hW' W' kn
            go_wp2_with fail
            refine Calls.mono kt.out ?_
            rintro e W4 ⟨Da, Dc, F4, rfl, n4, T4⟩
            obtain ⟨on4, od4, ot4⟩ := on.out.tick n4 T4
            have on4 := hidW on4
            have od4 := hidW od4
            clear kt n4 T4 on cto
            go_wp2_with fail
            go_loopw [93] (fun i wr2 => ∃ (m : Nat) (B' : List Bool), m ≤ DL.length ∧ i = .int .i64 m ∧ Hid (On w wr2 g gt F4 to E' B' ⟨some ⟨go, 0, none⟩, Oc, Ol⟩) ∧ Hid (Sl.own wr2 ⟨Da, Dc, DL⟩) ∧ Hid (Told B B' (DL.take m))) (fun i _ => DL.length - (intOf i).toNat)
            case atStart => exact ⟨0, B, by omega, rfl, on4, od4, Told.start B⟩
            case round => as_aux_lemma =>
              clear on4 od4
              obtain ⟨m, B', hm, rfl, on5, od5, hT⟩ := hrel
              by_cases hlt3 : m < DL.length
              · obtain ⟨x, hx⟩ : ∃ x, DL[m]? = some x := ⟨_, List.getElem?_eq_getElem hlt3⟩
                obtain ⟨n, tt, rfl, hnN, hTn, ht0, ht1, hBn, hne⟩ := hD.out m x hx
                obtain ⟨gd, ga, cd⟩ := own_cell od5.out hx
                simp only at ga
                subst ga
                obtain ⟨b, off, rfl, ct⟩ := cT.out wr on5.out.wh.bel n tt hTn
                have hBn' : B'[n]? = some false := (hT.out.2 n).2 ⟨hBn, hne⟩
                have cb := on5.out.bb.cell n _ (bcs_get hBn')
                have fb := on5.out.bb.frozen n
                obtain ⟨on6, bu6⟩ := on5.out.told n
                have on6 := hidW on6
                have od6 : Hid (Sl.own (wr.setCell ⟨gt, n, none⟩ (.bool true)) ⟨some ⟨gd, 0, none⟩, Dc, DL⟩) := od5.out.but bu6 (fun k hk e => ot4 (e ▸ hk))
                have hT6 : Hid (Told B (B'.set n true) (DL.take (m + 1))) := by
                  have := hT.out.step (x := (n : Int)) (by rw [Int.toNat_natCast]; exact (List.getElem?_eq_some_iff.1 hBn).1)
                  rw [Int.toNat_natCast] at this
                  rw [List.take_add_one, hx]
                  exact this
                have hdl' := hdl.out
                have m1 : (↑m : Int) < ↑DL.length := by omega
                have m0 : (0 : Int) ≤ ↑m := by omega
                have x0 : ¬ (↑n : Int) < 0 := by omega
                have x1 : (↑n : Int) < ↑N := by omega
                have x2 : (0 : Int) ≤ ↑n := by omega
                clear on5 od5 hT hD hTn hBn hBn' hne hx bu6 hfin
                go_wp2
                exact ⟨⟨m + 1, B'.set n true, by omega, int_eq (by omega), on6, od6, hT6⟩, by simp [intOf] <;> omega⟩
              · have m1 : ¬ (↑m : Int) < ↑DL.length := by omega
                have hT7 : Told B B' DL := by have := hT.out; rwa [List.take_of_length_le (by omega)] at this
                have hf := hidW (hfin.out B' hT7)
                clear hT hT7 hD hfin od5
                go_wp2_with fail
                obtain ⟨W8, hW8⟩ : ∃ W8, wr = W8 := ⟨_, rfl⟩
                rw [hW8] at on5 ⊢
                clear hW8
                go_loopw [132] (fun i wr2 => wr2 = W8 ∧ ∃ (m : Nat), m ≤ N ∧ i = .int .i64 m) (fun i _ => N - (intOf i).toNat)
                case atStart => exact ⟨rfl, 0, by omega, rfl⟩
                case round => as_aux_lemma =>
                  obtain ⟨rfl, m2, hm2, rfl⟩ := hrel
                  by_cases hlt4 : m2 < N
                  · obtain ⟨t, ht⟩ : ∃ t, TL[m2]? = some t := ⟨_, List.getElem?_eq_getElem (by rw [HTn.out]; exact hlt4)⟩
                    obtain ⟨b, off, rfl, ct⟩ := cT.out _ on5.out.wh.bel m2 t ht
                    obtain ⟨bo, hbo⟩ : ∃ bo, B'[m2]? = some bo := ⟨_, List.getElem?_eq_getElem (by rw [hf.out.1]; exact hlt4)⟩
                    have cb := on5.out.bb.cell m2 _ (bcs_get hbo)
                    have m1' : (↑m2 : Int) < ↑N := by omega
                    have m0' : (0 : Int) ≤ ↑m2 := by omega
                    rcases Int.lt_or_le t 0 with y | y
                    · go_wp2
                      exact ⟨⟨by trivial, m2 + 1, by omega, int_eq (by omega)⟩, by simp [intOf] <;> omega⟩
                    · rcases Int.lt_or_le to t with y' | y'
                      · go_wp2
                        exact ⟨⟨by trivial, m2 + 1, by omega, int_eq (by omega)⟩, by simp [intOf] <;> omega⟩
                      · have hbt : bo = true := by
                          cases bo with
                          | true => rfl
                          | false =>
                            exfalso
                            have hEok : M.Ok E' := by obtain ⟨_, _, hb, _⟩ := on5.out.wh.whl.ex; exact hb.ok
                            have hin := (hf.out.2.1 (↑m2, t)).2 ⟨⟨by show (0 : Int) ≤ ↑m2; omega, by show (↑m2 : Int) < ↑N; omega, by show TL[(↑m2 : Int).toNat]? = some t; rw [Int.toNat_natCast]; exact ht, by simp [rtB]; omega⟩, by show B'[(↑m2 : Int).toNat]? = some false; rw [Int.toNat_natCast]; exact hbo⟩
                            have := hlate.out _ hin
                            simp only at this
                            omega
                        subst hbt
                        go_wp2
                        exact ⟨⟨by trivial, m2 + 1, by omega, int_eq (by omega)⟩, by simp [intOf] <;> omega⟩
                  · have m1' : ¬ (↑m2 : Int) < ↑N := by omega
                    go_wp2
                    exact ⟨⟨j + 1, F4, to, E', B', by omega, int_eq (by omega), on5, hf⟩, by simp [intOf] <;> omega⟩
          · have hnb : ¬ (j + 1 = Ol.length) := fun hj' => by
              have hto' : to = 4611686018427387904 := by
                rw [hOl.out] at hto hj'
                simp at hj'
                subst hj'
                simp at hto
                exact hto.symm
              apply hok
              simp only [tickOk, Bool.and_eq_true, decide_eq_true_eq]
              omega
            have q1 : tickR now to = 25 := by unfold tickR; rw [if_neg hok]
            have q2 : tickL now E to = [] := by unfold tickL; rw [if_neg hok]
            have q3 : tickE now E to = E := by unfold tickE; rw [if_neg hok]
            have q4 : tickN now to = now := by unfold tickN; rw [if_neg hok]
            rw [q1, q2, q3, q4] at kt
            have hB2 : Hid (B.length = N ∧ (∀ p, p ∈ E ↔ EntOf TL N p ∧ B[p.1.toNat]? = some false) ∧ (j + 1 = Ol.length → E = [])) := ⟨hB.out.1, hB.out.2.1, fun h => absurd h hnb⟩
            have hno : to < now ∨ (now ≤ to ∧ 4611686018427387904 < to) := by
              simp [tickOk] at hok
              omega
            clear q1 q2 q3 q4 hok hB hnb hto
            rcases hno with y | ⟨y, y2⟩
            · go_wp2_with fail
              refine Calls.mono kn.out ?_
              rintro e W' ⟨rfl, hW'⟩
              rw [hW']
              clear hW' W' kn
              go_wp2_with fail
              refine Calls.mono kt.out ?_
              rintro e W4 ⟨Da, Dc, F4, rfl, n4, T4⟩
              have on4 := hidW (on.out.tick n4 T4).1
              clear kt n4 T4 on cto
              go_wp2
              exact ⟨⟨j + 1, F4, now, E, B, by omega, int_eq (by omega), on4, hB2⟩, by simp [intOf] <;> omega⟩
            · go_wp2_with fail
              refine Calls.mono kn.out ?_
              rintro e W' ⟨rfl, hW'⟩
              rw [hW']
              clear hW' W' kn
              go_wp2_with fail
              refine Calls.mono kt.out ?_
              rintro e W4 ⟨Da, Dc, F4, rfl, n4, T4⟩
              have on4 := hidW (on.out.tick n4 T4).1
              clear kt n4 T4 on cto
              go_wp2
              exact ⟨⟨j + 1, F4, now, E, B, by omega, int_eq (by omega), on4, hB2⟩, by simp [intOf] <;> omega⟩
        · have j1 : ¬ (↑j : Int) < ↑Ol.length := by omega
          have hE0 : E = [] := hB.out.2.2 (by omega)
          subst hE0
          have kl := hidW (len_any wr g F now [] on.out.wh.whl)
          have b8 := on.out.wh.bel
          go_wp2_with fail
          refine Calls.mono kl.out ?_
          rintro e W' ⟨rfl, hW'⟩
          rw [hW']
          go_wp2
          go_ret
          exact ⟨rfl, b8⟩
end Go.Proofs.Ytfcpjenlckkloaa
