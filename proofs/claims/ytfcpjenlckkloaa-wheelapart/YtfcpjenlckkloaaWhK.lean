/- empty. -/
import Derived.Test.YtfcpjenlckkloaaWhJ
namespace Go.Proofs.Ytfcpjenlckkloaa
open Go.RowKit
set_option linter.unusedVariables false
set_option linter.unusedSimpArgs false

theorem wpList_run_app {ops : Array Oper} {rest : List Oper} {o : Oper} {a : Act} {Q : Exit → Act → World → Prop} (w : World) (hgd : o.guard = none) (s x : Operand)
    (ho : o.op = .call { callee := .builtin .append, args := #[s, x], argTypes := #[39, 39] }) (v u v' : Value) (w' : World) (hs : a.eval s = v) (hx : a.eval x = u)
    (hr : (Builtin.append_ #[39, 39] o.type #[v, u]).run Try.prog w = .ok v' w') (h : wpList Try.prog ops Q rest (a.put o.dst v') w') : wpList Try.prog ops Q (o :: rest) a w := by
  refine wpList_plain hgd fun K hK => ?_
  unfold Oper.wp execOp
  simp only [ho, resolve, invoke, builtin, Sem.run_bind, Sem.run_pure, Result.andThen_ok, List.map_toArray, List.map_cons, List.map_nil, hs, hx, hr]
  exact hK _ _ h
theorem int_eq {k : IntKind} {a b : Int} (h : a = b) : Value.int k a = Value.int k b := by rw [h]
set_option maxRecDepth 100000 in
set_option maxHeartbeats 4000000 in
theorem empty_n (w : World) (g m N T : Nat) (E : List M.Ent) (sl : List Sl) (h : Wm w g m (↑N) E sl) (hc : ∀ q, (cat sl q).length ≤ 1048576) (hN : N ≤ T) (hT : T ≤ 4611686018427387904) :
    Calls Try.prog 41 #[.pointer (some ⟨g, 0, none⟩), .int .i64 T] w fun e w' => ∃ O : Sl, e = .returned O.v ∧ Emp w w' g m (↑N) E sl (64 * M.ap N T + M.dg T (M.ap N T) + 1) O := by
  have hr := (M.ap_row (a := N) (b := T) (by omega) (by omega)).2.2
  have hd := M.dg_lt T (M.ap N T)
  have KA := hidW (apart_any N T w (by omega) (by omega))
  have KD := fun W => digit_any T (M.ap N T) W (by omega) hr
  generalize M.ap N T = top at *
  generalize M.dg T top = d at *
  have KD := hidW KD
  have c1 := h.blk.cell 1 _ (wc_1 ..)
  have hlen := hidW h.len
  have hcat := hidW hc
  have h0 := hidW h
  have st := hidW (Emp.start h)
  have r1 : (↑top : Int) < 11 := by omega
  have d1 : (↑d : Int) < 64 := by omega
  have wt : IntKind.i64.wrap ((↑top : Int) + 1) = ↑top + 1 := by rw [IntKind.wrap_i64]; omega
  have wd : IntKind.i64.wrap ((↑d : Int) + 1) = ↑d + 1 := by rw [IntKind.wrap_i64]; omega
  clear h hc
  go_enter Try.func41, Try.ntmps41
  go_wp2_with fail
  refine Calls.mono KA.out ?_
  rintro e W' ⟨rfl, hW'⟩
  rw [hW']
  clear hW' W'
  go_wp2_with fail
  go_loopw [5, 18] (fun b i wr => ∃ (r p : Nat) (O : Sl), r ≤ top + 1 ∧ i = .int .i64 r ∧ b = O.v ∧ Hid (p = min (64 * r) (64 * top + d + 1)) ∧ Hid (Emp w wr g m (↑N) E sl p O)) (fun _ i _ => top + 1 - (intOf i).toNat)
  case atStart => exact ⟨0, 0, nilSl, by omega, rfl, rfl, hidW (by omega), st⟩
  case round =>
    obtain ⟨r, p, O, hrt, rfl, rfl, hp, em⟩ := hrel
    by_cases hl : r < top + 1
    · have hp' : p = 64 * r := by have := hp.out; omega
      subst hp'
      have r0 : (0 : Int) ≤ ↑r := by omega
      have r2 : (↑r : Int) < 11 := by omega
      have r3 : (↑r : Int) < ↑top + 1 := by omega
      by_cases ht : r = top
      · subst ht
        obtain ⟨EN, hE⟩ : ∃ EN, d + 1 = EN := ⟨_, rfl⟩
        have hE' : (↑d : Int) + 1 = ↑EN := by omega
        have hEN : Hid (64 * r + EN = min (64 * (r + 1)) (64 * r + d + 1)) := hidW (by omega)
        have hb : ((↑r : Int) == ↑r) = true := by simp
        rw [hE'] at wd
        go_wp2_with (go_at_call 46; refine Calls.mono (KD.out _) ?_; rintro e w' ⟨rfl, rfl⟩)
        have e1 : (↑EN : Int) ≤ 64 := by omega
        go_loopw [5, 29] (fun b i wr2 => ∃ (k : Nat) (O2 : Sl), k ≤ EN ∧ i = .int .i64 k ∧ b = O2.v ∧ Hid (Emp w wr2 g m (↑N) E sl (64 * r + k) O2)) (fun _ i _ => EN - (intOf i).toNat)
        case atStart => exact ⟨0, O, Nat.zero_le _, rfl, rfl, by simpa using em⟩
        case round =>
          obtain ⟨k, O2, hk, rfl, rfl, em2⟩ := hrel
          by_cases hlt : k < EN
          · have i0 : (0 : Int) ≤ ↑k := by omega
            have i1 : (↑k : Int) < 64 := by omega
            have i2 : (↑k : Int) < ↑EN := by omega
            obtain ⟨s, hs⟩ : ∃ s, sl[64 * r + k]? = some s := ⟨_, List.getElem?_eq_getElem (by rw [hlen.out]; omega)⟩
            obtain ⟨q1, q2⟩ := em2.out.step h0.out hcat.out hs
            obtain ⟨O3, W3, a1, ⟨u3, a2⟩, a3, a4⟩ := q2 39
            rw [show 3 + (64 * r + k) = 3 + r * 64 + k by omega] at q1 a2 a3 a4
            have A4 := hidW a4
            clear q2 a4 em2 hs
            go_wp2_with (at_builtin; refine wpList_run_app _ rfl _ _ rfl _ _ _ _ rfl rfl a1 ?_)
            exact ⟨⟨k + 1, O3, by omega, int_eq (by omega), rfl, by have := A4.out; rwa [Nat.add_assoc] at this⟩, by simp [intOf] <;> omega⟩
          · have ek : k = EN := by omega
            have i2 : ¬ (↑k : Int) < ↑EN := by omega
            subst ek
            go_wp2
            exact ⟨⟨r + 1, _, O2, by omega, int_eq (by omega), rfl, hidW (by have := hEN.out; omega), em2⟩, by simp [intOf] <;> omega⟩
      · have hb : ((↑r : Int) == ↑top) = false := by simp; omega
        have hEN : Hid (64 * r + 64 = min (64 * (r + 1)) (64 * top + d + 1)) := hidW (by omega)
        go_wp2_with fail
        go_loopw [5, 29] (fun b i wr2 => ∃ (k : Nat) (O2 : Sl), k ≤ 64 ∧ i = .int .i64 k ∧ b = O2.v ∧ Hid (Emp w wr2 g m (↑N) E sl (64 * r + k) O2)) (fun _ i _ => 64 - (intOf i).toNat)
        case atStart => exact ⟨0, O, Nat.zero_le _, rfl, rfl, by simpa using em⟩
        case round =>
          obtain ⟨k, O2, hk, rfl, rfl, em2⟩ := hrel
          by_cases hlt : k < 64
          · have i0 : (0 : Int) ≤ ↑k := by omega
            have i1 : (↑k : Int) < 64 := by omega
            have i2 : (↑k : Int) ≤ 63 := by omega
            obtain ⟨s, hs⟩ : ∃ s, sl[64 * r + k]? = some s := ⟨_, List.getElem?_eq_getElem (by rw [hlen.out]; omega)⟩
            obtain ⟨q1, q2⟩ := em2.out.step h0.out hcat.out hs
            obtain ⟨O3, W3, a1, ⟨u3, a2⟩, a3, a4⟩ := q2 39
            rw [show 3 + (64 * r + k) = 3 + r * 64 + k by omega] at q1 a2 a3 a4
            have A4 := hidW a4
            clear q2 a4 em2 hs
            go_wp2_with (at_builtin; refine wpList_run_app _ rfl _ _ rfl _ _ _ _ rfl rfl a1 ?_)
            exact ⟨⟨k + 1, O3, by omega, int_eq (by omega), rfl, by have := A4.out; rwa [Nat.add_assoc] at this⟩, by simp [intOf] <;> omega⟩
          · have ek : k = 64 := by omega
            have i2 : ¬ (↑k : Int) < 64 := by omega
            go_wp2
            exact ⟨⟨r + 1, _, O2, by omega, int_eq (by omega), rfl, hidW (by have := hEN.out; omega), em2⟩, by simp [intOf] <;> omega⟩
    · have ek : r = top + 1 := by omega
      have i2 : ¬ (↑r : Int) < ↑top + 1 := by omega
      have fin : Hid (Emp w wr g m (↑N) E sl (64 * top + d + 1) O) := by
        have h1 := hp.out
        have h2 : p = 64 * top + d + 1 := by omega
        rw [← h2]; exact em
      clear hp em ek
      go_wp2
      go_ret
      exact ⟨O, rfl, fin.out⟩
end Go.Proofs.Ytfcpjenlckkloaa
