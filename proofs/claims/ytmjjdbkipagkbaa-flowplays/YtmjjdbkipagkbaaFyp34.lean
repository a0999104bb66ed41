/- Texts joined: FyC -/
import Derived.Test.YtmjjdbkipagkbaaFyp33
namespace Go.Proofs.Ytmjjdbkipagkbaa
open Go.RowKit
set_option linter.unusedVariables false
set_option linter.unusedSimpArgs false
def KeepIs (acc : List Fl) (now : Int) (L : List Fl) (k : Nat) : Prop := acc = keepF now (L.take k)
theorem keep_at {now : Int} {L : List Fl} {k : Nat} {x : Fl} (hx : L[k]? = some x) : keepF now (L.take (k + 1)) = keepF now (L.take k) ++ (if decide (now < x.ends) = true then [x] else []) := by
  unfold keepF
  rw [List.take_add_one, hx]
  simp only [Option.toList_some, List.filter_append, List.filter_cons, List.filter_nil]
set_option maxRecDepth 100000 in
set_option maxHeartbeats 4000000 in
theorem rtick_fy (rb : Nat) (s : Ft) (a : Option Addr) (c : Nat) (now : Int) (w : World) (hll : s.L.length ≤ 100000) (H : DocF w rb s a c) :
    Calls Try.prog 49 #[.pointer (some ⟨rb, 0, none⟩), .int .i64 now] w fun e w' => e = .returned (.int .i64 (s.tick now).2) ∧ DocNF w.heap.size a w' rb (s.tick now).1 ∧ But (fun k => k = rb) w w' := by
  have T := H.tab
  have E := H.row
  have hne := H.ne
  have hgl := T.lt
  have hal := E.lt
  have nET : ∀ y : Addr, a = some y → y.block ≠ rb := hne
  clear H
  obtain ⟨R, hR⟩ : ∃ R, s.tick now = R := ⟨_, rfl⟩
  have HR : Hid (s.tick now = R) := hR
  try rw [hR]
  clear hR
  have b := But.refl (fun k => k = rb) w
  go_enter Try.func49, Try.ntmps49
  cases hq2 : (decide (now < s.now)) with
  | false =>
    cases hq4 : (decide (4611686018427387904 < now)) with
    | false =>
      have c5 := T.cell 1 (.int .i64 s.now) rfl
      have y7 := T.cell 1 (.int .i64 s.now) rfl
      have z8 := T.frozen 1
      obtain ⟨Wm6, hWm6⟩ : ∃ W, w.setCell ⟨rb, 1, none⟩ (.int .i64 now) = W := ⟨_, rfl⟩
      have Tm6 : Blk Wm6 rb 55 #[.int .i64 s.most, .int .i64 now, .slice a s.L.length c] := hWm6 ▸ T.put 1 (.int .i64 now)
      have Em6 := hWm6 ▸ E.put_other T nET 1 (.int .i64 now)
      have bm6 := hWm6 ▸ b.setCell rb 1 (.inl rfl) (.int .i64 now)
      go_wp2_with fail
      go_loopw [5, 6] (fun v i wr => ∃ (k : Nat) (a2 : Option Addr) (c2 : Nat) (acc : List Fl), k ≤ s.L.length ∧ v = .slice a2 acc.length c2 ∧ i = .int .i64 k ∧ KeepIs acc now s.L k ∧ Hid (OwnL wr w.heap.size a2 c2 acc) ∧ Blk wr rb 55 #[.int .i64 s.most, .int .i64 now, .slice a s.L.length c] ∧ RowG wr a c s.L ∧ But (fun k => k = rb) w wr) (fun _ i _ => s.L.length - (intOf i).toNat)
      case atStart => exact ⟨0, none, 0, [], Nat.zero_le _, rfl, rfl, rfl, own_noneL _ _, Tm6, Em6, bm6⟩
      case round =>
        obtain ⟨k, a2, c2, acc, hk, rfl, rfl, HA, HO, Tv, Ev, bv⟩ := hrel
        obtain ⟨Wv, rfl⟩ : ∃ W, W = wr := ⟨_, rfl⟩
        have in0 : (0 : Int) ≤ (k : Int) := by omega
        have hac : acc.length ≤ 1000000 := by
          have e7 : acc = keepF now (s.L.take k) := HA
          have h7 := List.length_filter_le (fun f : Fl => decide (now < f.ends)) (s.L.take k)
          have h8 := List.length_take_le k s.L
          have h9 : acc.length = (keepF now (s.L.take k)).length := congrArg List.length e7
          unfold keepF at h9
          omega
        by_cases hlt : k < s.L.length
        · have ik : (k : Int) < (s.L.length : Int) := by omega
          have ik' : decide ((k : Int) < (s.L.length : Int)) = true := by simpa using ik
          obtain ⟨x, hx⟩ : ∃ q, s.L[k]? = some q := ⟨_, List.getElem?_eq_getElem hlt⟩
          have HX : Hid (s.L[k]? = some x) := hx
          obtain ⟨p2, off2, rfl, hcells⟩ := Ev.row.cells k x hx
          clear hx
          cases hq10 : (decide (now < x.ends)) with
          | false =>
            have c11 := Tv.cell 2 (.slice (some ⟨p2, off2, none⟩) s.L.length c) rfl
            have hce := (Ev.at_ HX.out).2 19 (.int .i64 x.ends) rfl
            go_wp2_with fail
            refine ⟨⟨k + 1, a2, c2, acc, by omega, rfl, by go_num, by
              unfold KeepIs
              have e7 : acc = keepF now (s.L.take k) := HA
              have e8 : ¬ decide (now < x.ends) = true := by rw [(by assumption : decide (now < x.ends) = false)]; decide
              rw [keep_at HX.out, if_neg e8, List.append_nil]; exact e7, HO, Tv, Ev, bv⟩, by simp [intOf]; omega⟩

          | true =>
            have c12 := Tv.cell 2 (.slice (some ⟨p2, off2, none⟩) s.L.length c) rfl
            have hce := (Ev.at_ HX.out).2 19 (.int .i64 x.ends) rfl
            have hcb := Ev.at_ HX.out
            obtain ⟨Wm13, hWm13⟩ : ∃ W, Wv.alloc (.cells x.v 33) = W := ⟨_, rfl⟩
            have bm13 := but_al bv hWm13
            have Tm13 := Tv.al hWm13
            have Em13 := Ev.al hWm13
            have Am13 := blk_nw hWm13
            have gA : (fun k => k = rb) Wv.heap.size ∨ w.heap.size ≤ Wv.heap.size := .inr bv.size
            have nTA : rb ≠ Wv.heap.size := by have := Tv.lt; omega
            have nAT : Wv.heap.size ≠ rb := fun e => nTA e.symm
            have nEA : ∀ y : Addr, (some ⟨p2, off2, none⟩) = some y → y.block ≠ Wv.heap.size := fun y hy => by have := Ev.lt y hy; omega
            have Om13 : OwnL Wm13 w.heap.size a2 c2 acc := HO.out.below (bel_nw hWm13)
            have hgo : ¬ a2.map (·.block) = some rb := map_geL HO.out.lt hgl
            have hao : ∀ y : Addr, (some ⟨p2, off2, none⟩ : Option Addr) = some y → ¬ a2.map (·.block) = some y.block := fun y hy => map_geL HO.out.lt (hal y hy)
            go_wp2_with (first | (refine wpList_load_at_w (by rfl) _ _ rfl p2 (off2 + k * 22) (by rfl) _ hcb Try.underlying33 (by kernel_rfl) ?_) | (refine wpList_appL _ rfl _ _ rfl w.heap.size a2 c2 acc (by rfl) Om13 Wv.heap.size 1 x (by rfl) Am13.at_ (Nat.le_trans (Nat.succ_le_succ hac) (by decide)) bm13.size ?_; intro ga ca Wa14 Oa14 bl Hg9; have bg : But (fun k => a2.map (·.block) = some k) Wm13 Wa14 := (But.refl _ _).grown Hg9 (fun n hn => .inl hn); have Ta14 := Tm13.but bg hgo; have Ea14 := Em13.but bg hao; have ba14 : But (fun k => k = rb) w Wa14 := bm13.own bl))
            refine ⟨⟨k + 1, some ⟨ga, 0, none⟩, ca, acc ++ [x], by omega, by simp, by go_num, by
              unfold KeepIs
              have e7 : acc = keepF now (s.L.take k) := HA
              have e8 : decide (now < x.ends) = true := by assumption
              rw [e7, keep_at HX.out, if_pos e8], Oa14, Ta14, Ea14, ba14⟩, by simp [intOf]; omega⟩


        · have ik : ¬ (k : Int) < (s.L.length : Int) := by omega
          have ik' : decide ((k : Int) < (s.L.length : Int)) = false := by simpa using ik
          have nFT : ∀ y : Addr, a2 = some y → y.block ≠ rb := fun y hy => by have := HO.out.lt y hy; omega
          have hlw : ∀ y : Addr, a2 = some y → w.heap.size ≤ y.block := HO.out.lt
          have Fv : RowG Wv a2 c2 acc := HO.out.toE
          have c15 := Tv.cell 2 (.slice a s.L.length c) rfl
          have y17 := Tv.cell 2 (.slice a s.L.length c) rfl
          have z18 := Tv.frozen 2
          obtain ⟨Wm16, hWm16⟩ : ∃ W, Wv.setCell ⟨rb, 2, none⟩ (.slice a2 acc.length c2) = W := ⟨_, rfl⟩
          have Tm16 : Blk Wm16 rb 55 #[.int .i64 s.most, .int .i64 now, .slice a2 acc.length c2] := hWm16 ▸ Tv.put 2 (.slice a2 acc.length c2)
          have Em16 := hWm16 ▸ Ev.put_other Tv nET 2 (.slice a2 acc.length c2)
          have Fm16 := hWm16 ▸ Fv.put_other Tv nFT 2 (.slice a2 acc.length c2)
          have bm16 := hWm16 ▸ bv.setCell rb 2 (.inl rfl) (.slice a2 acc.length c2)
          go_wp2_with fail
          go_ret
          have e7 : acc = keepF now s.L := by
            have h7 : acc = keepF now (s.L.take k) := HA
            rw [List.take_of_length_le (by omega)] at h7
            exact h7
          have hR2 : R = (⟨s.most, now, acc⟩, 0) := by rw [← HR.out, e7]; exact (if_neg (by
            have a1 := of_decide_eq_false hq2
            have a2 := of_decide_eq_false hq4
            rintro (h | h)
            · exact a1 h
            · exact a2 h))
          subst hR2
          exact ⟨rfl, ⟨a2, c2, ⟨Tm16, Fm16, nFT⟩, (fun y hy => .inr (hlw y hy))⟩, bm16⟩

    | true =>
      have c19 := T.cell 1 (.int .i64 s.now) rfl
      go_wp2_with fail
      go_ret
      have hR2 : R = (s, 25) := by rw [← HR.out]; exact if_pos (by first | exact .inl (of_decide_eq_true hq4) | exact .inr (of_decide_eq_true hq4))
      subst hR2
      exact ⟨rfl, ⟨a, c, ⟨T, E, nET⟩, (fun y hy => .inl hy)⟩, b⟩


  | true =>
    have c20 := T.cell 1 (.int .i64 s.now) rfl
    go_wp2_with fail
    go_ret
    have hR2 : R = (s, 25) := by rw [← HR.out]; exact if_pos (by first | exact .inl (of_decide_eq_true hq2) | exact .inr (of_decide_eq_true hq2))
    subst hR2
    exact ⟨rfl, ⟨a, c, ⟨T, E, nET⟩, (fun y hy => .inl hy)⟩, b⟩
end Go.Proofs.Ytmjjdbkipagkbaa
