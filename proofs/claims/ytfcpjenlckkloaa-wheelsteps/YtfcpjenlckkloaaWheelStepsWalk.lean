/- Many small Ticks tell, one behind the other, what one great Tick tells. -/
import Derived.Test.YtfcpjenlckkloaaWhT
namespace Go.Proofs.Ytfcpjenlckkloaa
open Go.RowKit
set_option linter.unusedVariables false
set_option linter.unusedSimpArgs false

set_option maxRecDepth 100000 in
set_option maxHeartbeats 4000000 in
theorem wheelSteps_walk (sa : Option Addr) (sc : Nat) (S : List Ac) (ta : Option Addr) (tc : Nat) (L : List Int) (w : World) (slc : S.length ≤ sc) (scm : sc ≤ 17592186044416) (hS : RowA w sa S) (tlc : L.length ≤ tc) (tcm : tc ≤ 140737488355328) (hL : RowU w ta L) :
    Calls Try.prog 5 #[.slice sa S.length sc, .slice ta L.length tc] w fun e w' => e = .returned (.bool true) ∧ Below w.heap.size w w' := by
  have k0 := hidW (new_w 0 w rfl)
  go_enter Try.func5, Try.ntmps5
  go_wp2_with fail
  refine Calls.mono k0.out ?_
  rintro e w1 ⟨F1, ga, rfl, n1⟩
  have k1 := hidW (new_w 0 w1 rfl)
  clear k0
  go_wp2_with fail
  refine Calls.mono k1.out ?_
  rintro e w2 ⟨F2, gb, rfl, n2⟩
  have t2 := Two.make n1 n2
  have ka := hidW (alive_any w2)
  clear k1 n1 n2
  go_wp2_with fail
  refine Calls.mono ka.out ?_
  rintro e w3 ⟨rfl, q3⟩
  have t3 := hidW (t2.below q3)
  clear ka t2 q3
  go_wp2_with fail
  have HS := hidW hS
  have HL := hidW hL
  clear hS hL
  go_loopw [49] (fun i wr => ∃ (k : Nat) (Fa Fb : Nat → Prop) (E : List M.Ent), k ≤ S.length ∧ i = .int .i64 k ∧ Hid (Two w wr ga gb Fa Fb 0 0 E E)) (fun i _ => S.length - (intOf i).toNat)
  case atStart => exact ⟨0, F1, F2, [], by omega, rfl, t3⟩
  case round =>
    obtain ⟨k, Fa, Fb, E, hk, rfl, tw⟩ := hrel
    by_cases hlt : k < S.length
    · obtain ⟨q, hq⟩ : ∃ q, S[k]? = some q := ⟨_, List.getElem?_eq_getElem hlt⟩
      obtain ⟨b, off, rfl, hbl, c0, c1, c2⟩ := (HS.out.below (by have := tw.out.a.bel; exact this)).cells k q hq
      obtain ⟨o0, o1, o2⟩ := HS.out.ok q (List.mem_of_getElem? hq)
      have i1 : (↑k : Int) < ↑S.length := by omega
      have i0 : (0 : Int) ≤ ↑k := by omega
      have hx := i64_and3
      obtain ⟨W1, hW1⟩ : ∃ W1, wr.alloc (.cells #[.int .i64 q.kind, .int .i64 q.id, .int .i64 q.at_] 34) = W1 := ⟨_, rfl⟩
      have bB : Blk W1 wr.heap.size 34 #[.int .i64 q.kind, .int .i64 q.id, .int .i64 q.at_] := hW1 ▸ blk_new wr _ _
      have t1 : Two w W1 ga gb Fa Fb 0 0 E E := tw.out.below (hW1 ▸ (Below.refl _ _).alloc (Nat.le_refl _) _)
      have nA : ¬ Fa wr.heap.size := fun x => Nat.lt_irrefl _ (tw.out.a.whl.lt _ x)
      have e0 := bB.cell 0 _ rfl
      have e1 := bB.cell 1 _ rfl
      have e2 := bB.cell 2 _ rfl
      have hBB := hidW bB
      clear bB
      rcases (show q.kind % 4 = 0 ∨ q.kind % 4 = 1 ∨ 2 ≤ q.kind % 4 by omega) with h4 | h4 | h4
      · have ks := hidW (set_w w W1 ga Fa 0 E t1.a q.id q.at_ o1)
        have T1 := hidW t1
        clear t1 t3 tw
        go_wp2_with fail
        refine Calls.mono ks.out ?_
        rintro e W2 ⟨F2', rfl, n2, bu2, nx2⟩
        have t2 := T1.out.onA n2 bu2 nx2
        have b2 := hBB.out.but bu2 nA
        have e1' := b2.cell 1 _ rfl
        have e2' := b2.cell 2 _ rfl
        have ks2 := hidW (set_w w W2 gb Fb 0 E t2.b q.id q.at_ o1)
        have T2 := hidW t2
        clear ks T1 t2 n2 bu2 nx2 b2 hBB
        go_wp2_with fail
        refine Calls.mono ks2.out ?_
        rintro e W3 ⟨F3', rfl, n3, bu3, nx3⟩
        have t3 := hidW (T2.out.onB n3 bu3 nx3)
        clear ks2 T2 n3 bu3 nx3
        go_wp2
        exact ⟨⟨k + 1, F2', F3', setS E q.id q.at_, by omega, int_eq (by omega), t3⟩, by simp [intOf] <;> omega⟩
      · have ks := hidW (drop_w w W1 ga Fa 0 E t1.a q.id o1)
        have T1 := hidW t1
        clear t1 t3 tw
        go_wp2_with fail
        refine Calls.mono ks.out ?_
        rintro e W2 ⟨F2', rfl, n2, bu2, nx2⟩
        have t2 := T1.out.onA n2 bu2 nx2
        have b2 := hBB.out.but bu2 nA
        have e1' := b2.cell 1 _ rfl
        have ks2 := hidW (drop_w w W2 gb Fb 0 E t2.b q.id o1)
        have T2 := hidW t2
        clear ks T1 t2 n2 bu2 nx2 b2 hBB
        go_wp2_with fail
        refine Calls.mono ks2.out ?_
        rintro e W3 ⟨F3', rfl, n3, bu3, nx3⟩
        have t3 := hidW (T2.out.onB n3 bu3 nx3)
        clear ks2 T2 n3 bu3 nx3
        go_wp2
        exact ⟨⟨k + 1, F2', F3', M.dropE E q.id, by omega, int_eq (by omega), t3⟩, by simp [intOf] <;> omega⟩
      · have h4' : ¬ q.kind % 4 < 2 := by omega
        have T1 := hidW t1
        clear t1 t3 tw hBB
        go_wp2
        exact ⟨⟨k + 1, Fa, Fb, E, by omega, int_eq (by omega), T1⟩, by simp [intOf] <;> omega⟩
    · have i1 : ¬ (↑k : Int) < ↑S.length := by omega
      have o3 : Hid (Own2 w wr Fa Fb nilSl) := ⟨nilSl_own _, fun k hk => absurd hk (nil_at k), fun k hk => absurd hk (nil_at k), fun k hk => absurd hk (nil_at k)⟩
      clear t3 HS
      go_wp2_with fail
      go_loopw [11, 12, 84] (fun x v i wr2 => ∃ (j : Nat) (T : Int) (Fa' : Nat → Prop) (na : Int) (Ea : List M.Ent) (O : Sl), j ≤ L.length ∧ i = .int .i64 j ∧ x = .int .i64 T ∧ v = O.v ∧ 0 ≤ T ∧ T ≤ 255 * j ∧ Hid (na ≤ T) ∧ Hid (Two w wr2 ga gb Fa' Fb na 0 Ea E) ∧ Hid (Own2 w wr2 Fa' Fb O) ∧
        Hid (O.ids ++ (M.dueE Ea T).map (·.1) = (M.dueE E T).map (·.1) ∧ M.restE Ea T = M.restE E T)) (fun _ _ i _ => L.length - (intOf i).toNat)
      case atStart => exact ⟨0, 0, Fa, 0, E, nilSl, by omega, rfl, rfl, rfl, by omega, by omega, Int.le_refl _, tw, o3, ⟨rfl, rfl⟩⟩
      case round =>
        obtain ⟨j, T, Fa', na, Ea, O, hj, rfl, rfl, rfl, hT0, hT1, hna, tw2, ow2, eq2⟩ := hrel
        clear tw o3
        by_cases hlt2 : j < L.length
        · obtain ⟨b, off, rfl, cj⟩ := HL.out.cells j hlt2
          obtain ⟨y0, y1⟩ := HL.out.bytes (L.getD j 0) (by simp [hlt2])
          have cj' := ((tw2.out.a.bel).cell (World.block_lt_of_cell? w _ cj)).trans cj
          generalize L.getD j 0 = y at *
          have j1 : (↑j : Int) < ↑L.length := by omega
          have j0 : (0 : Int) ≤ ↑j := by omega
          have wy : IntKind.i64.wrap y = y := by rw [IntKind.wrap_i64]; omega
          obtain ⟨T', hT'⟩ : ∃ T', T + y = T' := ⟨_, rfl⟩
          have wT : IntKind.i64.wrap T' = T' := by rw [IntKind.wrap_i64]; omega
          have hok : tickOk na T' = true := by
            have := hna.out
            simp only [tickOk, Bool.and_eq_true, decide_eq_true_eq]
            omega
          have kt := hidW (tick_w w wr ga Fa' na T' Ea tw2.out.a)
          have q1 : tickR na T' = 0 := by unfold tickR; rw [if_pos hok]
          have q2 : tickL na Ea T' = (M.dueE Ea T').map (·.1) := by unfold tickL; rw [if_pos hok]
          have q3 : tickE na Ea T' = M.restE Ea T' := by unfold tickE; rw [if_pos hok]
          have q4 : tickN na T' = T' := by unfold tickN; rw [if_pos hok]
          rw [q1, q2, q3, q4] at kt
          have eqn : Hid ((O.ids ++ (M.dueE Ea T').map (·.1)) ++ (M.dueE (M.restE Ea T') T').map (·.1) = (M.dueE E T').map (·.1) ∧ M.restE (M.restE Ea T') T' = M.restE E T') := by
            obtain ⟨g1, g2⟩ := eq2.out
            have m1 := M.due_more Ea (show T ≤ T' by omega)
            have m2 := M.due_more E (show T ≤ T' by omega)
            have m3 := M.due_none Ea T'
            refine ⟨?_, ?_⟩
            · rw [m3.1, m1.1, m2.1, List.map_append, List.map_append, ← List.append_assoc, g1, g2]
              simp
            · rw [m3.2, m1.2, m2.2, g2]
          have hlen : Hid (O.ids.length + ((M.dueE Ea T').map (·.1)).length ≤ 1024) := by
            have := congrArg List.length eqn.out.1
            obtain ⟨_, _, hb, _⟩ := tw2.out.b.whl.ex
            have hf := hb.few
            have := M.due_len E T'
            simp only [List.length_append, List.length_map] at *
            show _ ≤ _
            omega
          clear q1 q2 q3 q4 hok cj eq2
          generalize (M.dueE Ea T').map (·.1) = DL at *
          go_wp2_with fail
          refine Calls.mono kt.out ?_
          rintro e W4 ⟨Da, Dc, F4, rfl, n4, T4⟩
          have t4 := tw2.out.onA n4 T4.but T4.wf
          have oo : O.own W4 := ow2.out.own.but T4.but (fun k hk => ow2.out.a k hk)
          obtain ⟨O5, W5, r1, r2, r3, r4, r5⟩ := run_app W4 39 O ⟨Da, Dc, DL⟩ oo T4.due (by have := hlen.out; show _ + DL.length ≤ _; omega)
          have b5 : But (fun k => O.at_ k) W4 W5 := r4
          have na4 : ∀ k, O.at_ k → ¬ F4 k := fun k hk hF => by
            rcases T4.wf k hF with x | x
            · exact ow2.out.a k hk x
            · have := ow2.out.own.lt hk
              omega
          have t5 : Hid (Two w W5 ga gb F4 Fb T' 0 (M.restE Ea T') E) := by
            have bl : Below w.heap.size w W5 := t4.a.bel.trans (b5.to_below t4.a.bel.size (fun k hk x => by have := ow2.out.new k x; omega))
            exact ⟨t4.a.other b5 (fun k hk x => na4 k x hk) bl, t4.b.other b5 (fun k hk x => ow2.out.b k x hk) bl, t4.dj⟩
          have o5 : Hid (Own2 w W5 F4 Fb O5) := by
            refine ⟨r3, fun k hk => ?_, fun k hk hF => ?_, fun k hk hF => ?_⟩
            · rcases r5 k hk with x | x
              · exact ow2.out.new k x
              · exact Nat.le_trans t4.a.bel.size x
            · rcases r5 k hk with x | x
              · exact na4 k x hF
              · have := t4.a.whl.lt k hF
                omega
            · rcases r5 k hk with x | x
              · exact ow2.out.b k x hF
              · have := t4.b.whl.lt k hF
                omega
          have i5 : Hid (O5.ids = O.ids ++ DL) := r2
          clear t4 oo r2 r3 r4 r5 b5 na4 n4 T4 kt tw2 ow2
          go_wp2_with (at_builtin; refine wpList_run_app _ rfl _ _ rfl _ _ _ _ rfl rfl r1 ?_)
          exact ⟨⟨j + 1, T', F4, T', M.restE Ea T', O5, by omega, int_eq (by omega), rfl, rfl, by omega, by omega, Int.le_refl _, t5, o5, by rw [i5.out]; exact eqn⟩, by simp [intOf] <;> omega⟩
        · have j1 : ¬ (↑j : Int) < ↑L.length := by omega
          have hok : tickOk na T = true := by
            have := hna.out
            simp only [tickOk, Bool.and_eq_true, decide_eq_true_eq]
            omega
          have hok2 : tickOk 0 T = true := by
            simp only [tickOk, Bool.and_eq_true, decide_eq_true_eq]
            omega
          have kt := hidW (tick_w w wr ga Fa' na T Ea tw2.out.a)
          have q1 : tickR na T = 0 := by unfold tickR; rw [if_pos hok]
          have q2 : tickL na Ea T = (M.dueE Ea T).map (·.1) := by unfold tickL; rw [if_pos hok]
          have q3 : tickE na Ea T = M.restE Ea T := by unfold tickE; rw [if_pos hok]
          have q4 : tickN na T = T := by unfold tickN; rw [if_pos hok]
          rw [q1, q2, q3, q4] at kt
          have p1 : tickR 0 T = 0 := by unfold tickR; rw [if_pos hok2]
          have p2 : tickL 0 E T = (M.dueE E T).map (·.1) := by unfold tickL; rw [if_pos hok2]
          have p3 : tickE 0 E T = M.restE E T := by unfold tickE; rw [if_pos hok2]
          have p4 : tickN 0 T = T := by unfold tickN; rw [if_pos hok2]
          have hlen : Hid (O.ids.length + ((M.dueE Ea T).map (·.1)).length ≤ 1024) := by
            have := congrArg List.length eq2.out.1
            obtain ⟨_, _, hb, _⟩ := tw2.out.b.whl.ex
            have hf := hb.few
            have := M.due_len E T
            simp only [List.length_append, List.length_map] at *
            show _ ≤ _
            omega
          have kb2 : Hid (∀ W F, Wn w W gb F 0 E → Calls Try.prog 16 #[.pointer (some ⟨gb, 0, none⟩), .int .i64 T] W fun e w' => ∃ (a : Option Addr) (c : Nat) (F' : Nat → Prop), e = .returned (.tuple #[.slice a ((M.dueE E T).map (·.1)).length c, .int .i64 0]) ∧ Wn w w' gb F' T (M.restE E T) ∧ Tk W w' gb F F' T (M.restE E T) ⟨a, c, (M.dueE E T).map (·.1)⟩) := fun W F hW => by
            have := tick_w w W gb F 0 T E hW
            rw [p1, p2, p3, p4] at this
            exact this
          have hml : Hid (((M.dueE E T).map (·.1)).length ≤ 1024) := by
            obtain ⟨_, _, hb, _⟩ := tw2.out.b.whl.ex
            have hf := hb.few
            have := M.due_len E T
            simp only [List.length_map]
            show _ ≤ _
            omega
          clear q1 q2 q3 q4 p1 p2 p3 p4 hok hok2
          have eqa : Hid (O.ids ++ (M.dueE Ea T).map (·.1) = (M.dueE E T).map (·.1)) := eq2.out.1
          have eqb : Hid ((M.restE Ea T).length = (M.restE E T).length) := by rw [eq2.out.2]; exact rfl
          generalize (M.dueE Ea T).map (·.1) = DL at *
          generalize (M.dueE E T).map (·.1) = ML at *
          clear eq2
          go_wp2_with fail
          refine Calls.mono kt.out ?_
          rintro e W4 ⟨Da, Dc, F4, rfl, n4, T4⟩
          have t4 := tw2.out.onA n4 T4.but T4.wf
          have oo : O.own W4 := ow2.out.own.but T4.but (fun k hk => ow2.out.a k hk)
          obtain ⟨O5, W5, r1, r2, r3, r4, r5⟩ := run_app W4 39 O ⟨Da, Dc, DL⟩ oo T4.due (by have := hlen.out; show _ + DL.length ≤ _; omega)
          have b5 : But (fun k => O.at_ k) W4 W5 := r4
          have na4 : ∀ k, O.at_ k → ¬ F4 k := fun k hk hF => by
            rcases T4.wf k hF with x | x
            · exact ow2.out.a k hk x
            · have := ow2.out.own.lt hk
              omega
          have t5 : Two w W5 ga gb F4 Fb T 0 (M.restE Ea T) E := by
            have bl : Below w.heap.size w W5 := t4.a.bel.trans (b5.to_below t4.a.bel.size (fun k hk x => by have := ow2.out.new k x; omega))
            exact ⟨t4.a.other b5 (fun k hk x => na4 k x hk) bl, t4.b.other b5 (fun k hk x => ow2.out.b k x hk) bl, t4.dj⟩
          have o5b : ∀ k, O5.at_ k → ¬ Fb k := fun k hk hF => by
            rcases r5 k hk with x | x
            · exact ow2.out.b k x hF
            · have := t4.b.whl.lt k hF
              omega
          have i5 : O5.ids = ML := r2.trans eqa.out
          have kb3 := hidW (kb2.out W5 Fb t5.b)
          have T5 := hidW t5
          have R3 := hidW r3
          have O5b := hidW o5b
          have I5 := hidW i5
          clear t4 oo r2 r4 r5 b5 na4 n4 T4 kt tw2 ow2 t5 r3 o5b i5 kb2
          go_wp2_with (at_builtin; refine wpList_run_app _ rfl _ _ rfl _ _ _ _ rfl rfl r1 ?_)
          refine Calls.mono kb3.out ?_
          rintro e W6 ⟨Ma, Mc, F6, rfl, n6, T6⟩
          have t6 := T5.out.onB n6 T6.but T6.wf
          have ro : RowI W6 O5.a ML := by
            have := (R3.out.but T6.but O5b.out).row (by rw [I5.out]; have := hml.out; omega)
            rw [I5.out] at this
            exact this
          have rm : RowI W6 Ma ML := T6.due.row (by show ML.length ≤ _; have := hml.out; omega)
          have hv5 : O5.v = .slice O5.a ML.length O5.c := by show Value.slice O5.a O5.ids.length O5.c = _; rw [I5.out]
          have kS : Hid (Calls Try.prog 19 #[.slice O5.a ML.length O5.c, .slice Ma ML.length Mc] W6 fun e w' => e = .returned (.bool true) ∧ Two w w' ga gb F4 F6 T T (M.restE Ea T) (M.restE E T)) := by
            refine (same_any O5.a Ma O5.c Mc ML ML W6 ro rm).mono ?_
            rintro e w' ⟨rfl, n, rfl⟩
            exact ⟨by simp, t6.below (below_drewN (Below.refl _ _) n)⟩
          clear t6 ro rm n6 T6 T5 R3 O5b I5 kb3
          go_wp2_with fail
          refine Calls.mono kS.out ?_
          rintro e W7 ⟨rfl, t7⟩
          have l1 := hidW (len_any W7 ga F4 T _ t7.a.whl)
          have l2 := hidW (len_any W7 gb F6 T _ t7.b.whl)
          have b7 := t7.a.bel
          rw [eqb.out] at l1
          generalize (M.restE E T).length = nn at *
          clear kS t7
          go_wp2_with fail
          refine Calls.mono l1.out ?_
          rintro e W' ⟨rfl, hW'⟩
          rw [hW']
          clear hW' W' l1
          go_wp2_with fail
          refine Calls.mono l2.out ?_
          rintro e W' ⟨rfl, hW'⟩
          rw [hW']
          clear hW' W' l2
          go_wp2
          go_ret
          exact ⟨by simp, b7⟩
end Go.Proofs.Ytfcpjenlckkloaa
