/- Texts joined: Ip6T -/
import Derived.Test.YtmnkdogdligckaaIp6zb37
import Derived.Test.YtmnkdogdligckaaIp6zb38
import Derived.Test.YtmnkdogdligckaaIp6zb39
import Derived.Test.YtmnkdogdligckaaIp6zb40
import Derived.Test.YtmnkdogdligckaaIp6zb41
import Derived.Test.YtmnkdogdligckaaIp6zb42
import Derived.Test.YtmnkdogdligckaaIp6zb43
import Derived.Test.YtmnkdogdligckaaIp6zb44
namespace Go.Proofs.Ytmnkdogdligckaa
open Go.RowKit
set_option linter.unusedVariables false
set_option linter.unusedSimpArgs false
theorem one_any (g : Nat) (s : St) (at_ : Nat) (L : List Int) (a : Option Addr) (c : Nat) (xa : Option Addr) (xc : Nat) (E : Bool) (W0 w w1 : World) (R : RT W0 w g s at_ L a c xa xc E w1) (hg : W0.heap.size ≤ g) (hb : Below W0.heap.size W0 w) (hcut : s.cut = false) (hx : isExt s.next = true) :
    Calls Try.prog 44 #[.pointer (some ⟨g, 0, none⟩)] w1 fun e w' => e = .returned (.tuple #[.int .i64 (werr s), .bool (oneOver s)]) ∧ OneTo W0 w g s at_ L a c E w' := by
  by_cases h8 : s.ex.length = 8
  · exact one_many g s at_ L a c xa xc E W0 w w1 R hg hb hcut h8
  by_cases hl : s.l.length < hsz s.next s.l
  · exact one_short g s at_ L a c xa xc E W0 w w1 R hg hb hcut h8 hl
  have hov := opt6_vals ((s.l.take (hsz s.next s.l)).drop 2)
  simp only [isExt, decide_eq_true_eq] at hx
  rcases hx with h | h | h | h
  · by_cases hh : s.met = true ∨ 0 < s.ex.length
    · exact one_hop7 g s at_ L a c xa xc E W0 w w1 R hg hb hcut h8 hl h hh
    · have hm : s.met = false := by
        cases hm : s.met with
        | false => rfl
        | true => exact absurd (.inl hm) hh
      have he : s.ex.length = 0 := by
        rcases Nat.eq_zero_or_pos s.ex.length with h | h
        · exact h
        · exact absurd (.inr h) hh
      rcases hov with h0 | h0
      · exact one_opt0_0 g s at_ L a c xa xc E W0 w w1 R hg hb hcut h8 hl h hm he h0
      · exact one_opt7_0 g s at_ L a c xa xc E W0 w w1 R hg hb hcut h8 hl h hm he h0
  · by_cases h3 : s.l.getD 3 0 = 0
    · by_cases h2 : s.l.getD 2 0 = 0
      · exact one_route8b g s at_ L a c xa xc E W0 w w1 R hg hb hcut h8 hl h h3 h2
      · exact one_route0 g s at_ L a c xa xc E W0 w w1 R hg hb hcut h8 hl h h3 h2
    · exact one_route8a g s at_ L a c xa xc E W0 w w1 R hg hb hcut h8 hl h h3
  · cases hm : s.met with
    | true => exact one_met7 g s at_ L a c xa xc E W0 w w1 R hg hb hcut h8 hl h hm
    | false =>
      have hbs : 0 ≤ u16 s.l 2 := by
        have := u16_bd (R.row.drop c at_ R.room).bytes 2
        rw [← R.lis] at this
        exact this.1
      by_cases ho : 0 < u16 s.l 2 / 8 * 8
      · exact one_frag1 g s at_ L a c xa xc E W0 w w1 R hg hb hcut h8 hl h hm ho
      · have ho' : u16 s.l 2 / 8 * 8 = 0 := by omega
        by_cases h2 : u16 s.l 2 % 2 = 1
        · exact one_frag2 g s at_ L a c xa xc E W0 w w1 R hg hb hcut h8 hl h hm ⟨ho', h2⟩
        · exact one_frag0 g s at_ L a c xa xc E W0 w w1 R hg hb hcut h8 hl h hm ⟨ho', by omega⟩
  · rcases hov with h0 | h0
    · exact one_opt0_60 g s at_ L a c xa xc E W0 w w1 R hg hb hcut h8 hl h h0
    · exact one_opt7_60 g s at_ L a c xa xc E W0 w w1 R hg hb hcut h8 hl h h0
/-- What all leaves behind it. -/
def AllTo (W0 w : World) (g : Nat) (L : List Int) (a : Option Addr) (c : Nat) (E : Bool) (T : Int × St) (w' : World) : Prop :=
  Below g w w' ∧ (T.1 = 0 → ∃ at_ xa xc, RT W0 w g T.2 at_ L a c xa xc E w')
set_option maxHeartbeats 1000000 in
theorem rall_any (g : Nat) (s : St) (at_ : Nat) (L : List Int) (a : Option Addr) (c : Nat) (xa : Option Addr) (xc : Nat) (E : Bool) (W0 w w1 : World) (R : RT W0 w g s at_ L a c xa xc E w1) (hg : W0.heap.size ≤ g) (hb : Below W0.heap.size W0 w) (hcut : s.cut = false) :
    Calls Try.prog 26 #[.pointer (some ⟨g, 0, none⟩)] w1 fun e w' => e = .returned (.int .i64 (wend s).1) ∧ AllTo W0 w g L a c E (wend s) w' := by
  obtain ⟨T, hT⟩ : ∃ T, wend s = T := ⟨_, rfl⟩
  rw [hT]
  have HT : Hid (wend s = T) := hT
  clear hT
  go_enter Try.func26, Try.ntmps26
  go_wp2_with fail
  go_loopw [3] (fun _ wr => ∃ (s : St) (at_ : Nat) (xa : Option Addr) (xc : Nat), RT W0 w g s at_ L a c xa xc E wr ∧ s.cut = false ∧ Hid (wend s = T)) (fun _ wr => 9 - sliceLen ((wr.cell? ⟨g, 3, none⟩).getD undef))
  case atStart => exact ⟨s, at_, xa, xc, R, hcut, HT⟩
  case round =>
    clear R hcut HT s at_ xa xc
    obtain ⟨s, at_, xa, xc, R, hcut, HE⟩ := hrel
    have HR : Hid (RT W0 w g s at_ L a c xa xc E wr) := R
    have c0 := R.tw.c0
    have hfew := R.few
    clear R
    cases hx : isExt s.next with
    | false =>
      have ET : Hid (T = (0, s)) := by show T = _; rw [← HE.out]; exact wend_over s hfew (by simp [over, hx])
      have KX := isExt_any s.next wr
      rw [hx] at KX
      have HKX : Hid _ := KX
      clear KX
      go_wp2_with fail
      refine Calls.mono HKX.out ?_
      rintro e w' ⟨rfl, hw'⟩
      rw [hw']
      clear hw' HKX
      go_wp2
      go_ret
      exact ⟨ret_int (by rw [ET.out]), HR.out.below, fun _ => ⟨at_, xa, xc, by rw [ET.out]; exact HR.out⟩⟩
    | true =>
      have ho : over s = false := by simp [over, hcut, hx]
      have KX := isExt_any s.next wr
      rw [hx] at KX
      have HKX : Hid _ := KX
      have HK1 : Hid _ := one_any g s at_ L a c xa xc E W0 w wr HR.out hg hb hcut hx
      clear KX
      go_wp2_with fail
      refine Calls.mono HKX.out ?_
      rintro e w' ⟨rfl, hw'⟩
      rw [hw']
      clear hw' HKX
      go_wp2_with fail
      refine Calls.mono HK1.out ?_
      rintro e w2 ⟨rfl, bel, fin⟩
      clear HK1
      by_cases he : werr s = 0
      · obtain ⟨xa', xc', R2⟩ := fin he
        have eo : oneOver s = (after s).cut := by unfold oneOver; rw [if_pos he]
        rw [he, eo]
        have en := wend_next s hfew ho he
        have h8 := (werr_lt s he).1
        cases hc2 : (after s).cut with
        | true =>
          have ET : Hid (T = (0, after s)) := by
            show T = _
            rw [← HE.out, en]
            exact wend_over _ R2.few (by simp [over, hc2])
          have HR2 : Hid _ := R2
          clear R2 fin en eo
          go_wp2
          go_ret
          exact ⟨ret_int (by rw [ET.out]), bel, fun _ => ⟨_, xa', xc', by rw [ET.out]; exact HR2.out⟩⟩
        | false =>
          have HE2 : Hid (wend (after s) = T) := by show _ = T; rw [← en]; exact HE.out
          have k1 := R2.tw.c3
          have k2 := HR.out.tw.c3
          have eX : (after s).ex.length = s.ex.length + 1 := by rw [after_ex]; simp
          have MS : Hid (9 - sliceLen ((w2.cell? ⟨g, 3, none⟩).getD undef) < 9 - sliceLen ((wr.cell? ⟨g, 3, none⟩).getD undef)) := by
            show _ < _
            rw [k1, k2]
            simp only [Option.getD_some, sliceLen_slice]
            omega
          have HR2 : Hid _ := R2
          clear R2 fin en eo k1 k2
          go_wp2
          exact ⟨⟨after s, _, xa', xc', HR2.out, hc2, HE2⟩, MS.out⟩
      · have eo : oneOver s = true := by unfold oneOver; rw [if_neg he]
        rw [eo]
        have ET : Hid (T = (werr s, s)) := by show T = _; rw [← HE.out]; exact wend_err s hfew ho he
        clear fin
        go_wp2
        go_ret
        exact ⟨ret_int (by rw [ET.out]), bel, fun h => absurd h (by rw [ET.out]; exact he)⟩
/-- append(v, x...) as one step of a region that draws. -/
theorem step_app {ops : Array Oper} {o : Oper} {ac : Act} {K : Act → World → Prop} {Q : Exit → Act → World → Prop} {Z : Prop} (w : World) (hgd : o.guard = none) (s x : Operand)
    (ho : o.op = .call { callee := .builtin .append, args := #[s, x], argTypes := #[22, 22] })
    (B : Nat) (v : Value) (xs : List Int) (hs : ac.eval s = v) (hown : Owns w B v xs)
    (a : Option Addr) (n c : Nat) (l : List Int) (hx : ac.eval x = .slice a n c) (hn : n = l.length) (hrow : Row w a l) (hnil : a = none → c = 0)
    (hsum : xs.length + l.length ≤ 140737488355328) (hbase : B ≤ w.heap.size)
    (h : ∀ v' w', Owns w' B v' (xs ++ l) → w.grownBy w' v.ownBlock → K (ac.put o.dst v') w') :
    if Region.wanted o (yielded ops ac.tmps) = true then Oper.wp Try.prog o ac w K Q else Z := by
  subst hn
  have hw : Region.wanted o (yielded ops ac.tmps) = true := by simp [Region.wanted, hgd]
  rw [if_pos hw]
  have key : ∃ v' w', (Builtin.append_ #[22, 22] o.type #[v, .slice a l.length c]).run Try.prog w = .ok v' w' ∧ Owns w' B v' (xs ++ l) ∧ w.grownBy w' v.ownBlock := by
    obtain ⟨i0, hi, hz0, hz1, hz2⟩ := info_parts info_u8
    have hrun : ∀ ad : Addr, a = some ad → ∃ v' w', (Builtin.append_ #[22, 22] o.type #[v, .slice a l.length c]).run Try.prog w = .ok v' w' ∧ Owns w' B v' (xs ++ l) ∧ w.grownBy w' v.ownBlock := by
      intro ad ha
      subst ha
      obtain ⟨v', w', h1, h2, h3, _⟩ := run_append_own (P := Try.prog) w B 22 o.type 5 i0 (.int .u8 0) 1 1 Try.underlying22 hi hz0 hz1 hz2 rfl (by decide) v xs.length (xs.map (Value.int .u8)) hown ad l.length c (l.map (Value.int .u8)) (by simp) (by
        intro j u hj
        have hjl : j < l.length := by
          have := (List.getElem?_eq_some_iff.1 hj).1
          simpa using this
        obtain ⟨b, off, hh, hc⟩ := hrow.cells (by omega)
        cases hh
        have e1 : Addr.add ⟨b, off, none⟩ j = ⟨b, off + j, none⟩ := Go.WideShapes.add_plain ..
        rw [e1, hc j hjl]
        rw [← hj]
        simp [hjl]) oneCell_u8 (by unfold maxLen; omega) (by omega) hbase
      refine ⟨v', w', h1, ?_, h3⟩
      show w'.ownsRow B 5 1 v' (xs ++ l).length ((xs ++ l).map (Value.int .u8))
      rw [List.length_append, List.map_append]
      exact h2
    cases ha : a with
    | some ad => rw [← ha]; exact hrun ad ha
    | none =>
      have hl : l = [] := by
        cases l with
        | nil => rfl
        | cons y l => obtain ⟨b, off, hh, _⟩ := hrow.cells (by simp); rw [ha] at hh; cases hh
      subst hl
      rw [hnil ha]
      refine ⟨v, w, ?_, by simpa using hown, World.grownBy.refl _ _⟩
      exact run_append_owned_none (P := Try.prog) (w := w) B 22 o.type 5 i0 1 Try.underlying22 hi v xs.length (xs.map (Value.int .u8)) hown
  obtain ⟨v', w', hr, h2, h3⟩ := key
  unfold Oper.wp execOp
  simp only [ho, resolve, invoke, builtin, Sem.run_bind, Sem.run_pure, Result.andThen_ok, List.map_toArray, List.map_cons, List.map_nil, hs, hx, hr]
  exact h v' w' h2 h3
end Go.Proofs.Ytmnkdogdligckaa
