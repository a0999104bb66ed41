/- Texts joined: Ip6T Ip6U SgRng -/
import Derived.Test.YtpjjkdgmfjhfiaaSgrR38
import Derived.Test.YtpjjkdgmfjhfiaaSgrR39
import Derived.Test.YtpjjkdgmfjhfiaaSgrR40
import Derived.Test.YtpjjkdgmfjhfiaaSgrR41
import Derived.Test.YtpjjkdgmfjhfiaaSgrR42
import Derived.Test.YtpjjkdgmfjhfiaaSgrR43
import Derived.Deep.WholeRow
namespace Go.Proofs.Ytpjjkdgmfjhfiaa
open Go.RowKit
set_option linter.unusedVariables false
set_option linter.unusedSimpArgs false
theorem one_any (g : Nat) (s : St) (at_ : Nat) (L : List Int) (a : Option Addr) (c : Nat) (xa : Option Addr) (xc : Nat) (E : Bool) (W0 w w1 : World) (R : RT W0 w g s at_ L a c xa xc E w1) (hg : W0.heap.size ≤ g) (hb : Below W0.heap.size W0 w) (hcut : s.cut = false) (hx : isExt s.next = true) :
    Calls Try.prog 91 #[.pointer (some ⟨g, 0, none⟩)] w1 fun e w' => e = .returned (.tuple #[.int .i64 (werr s), .bool (oneOver s)]) ∧ OneTo W0 w g s at_ L a c E w' := by
  by_cases h8 : s.ex.length = 8
  · exact one_many g s at_ L a c xa xc E W0 w w1 R hg hb hcut h8
  by_cases hl : s.l.length < hsz s.next s.l
  · exact one_short g s at_ L a c xa xc E W0 w w1 R hg hb hcut h8 hl
  have hov := opt6_vals ((s.l.take (hsz s.next s.l)).drop 2)
  simp only [isExt, decide_eq_true_eq] at hx
  rcases hx with h | h | h | h
  · by_cases hh : s.met = true ∨ 0 < s.ex.length
    · exact one_hop7 g s at_ L a c xa xc E W0 w w1 R hg hb hcut h8 hl h hh
    · have hm : s.met = false := by
        cases hm : s.met with
        | false => rfl
        | true => exact absurd (.inl hm) hh
      have he : s.ex.length = 0 := by
        rcases Nat.eq_zero_or_pos s.ex.length with h | h
        · exact h
        · exact absurd (.inr h) hh
      rcases hov with h0 | h0
      · exact one_opt0_0 g s at_ L a c xa xc E W0 w w1 R hg hb hcut h8 hl h hm he h0
      · exact one_opt7_0 g s at_ L a c xa xc E W0 w w1 R hg hb hcut h8 hl h hm he h0
  · by_cases h3 : s.l.getD 3 0 = 0
    · by_cases h2 : s.l.getD 2 0 = 0
      · exact one_route8b g s at_ L a c xa xc E W0 w w1 R hg hb hcut h8 hl h h3 h2
      · exact one_route0 g s at_ L a c xa xc E W0 w w1 R hg hb hcut h8 hl h h3 h2
    · exact one_route8a g s at_ L a c xa xc E W0 w w1 R hg hb hcut h8 hl h h3
  · cases hm : s.met with
    | true => exact one_met7 g s at_ L a c xa xc E W0 w w1 R hg hb hcut h8 hl h hm
    | false =>
      have hbs : 0 ≤ u16 s.l 2 := by
        have := u16_bd (R.row.drop c at_ R.room).bytes 2
        rw [← R.lis] at this
        exact this.1
      by_cases ho : 0 < u16 s.l 2 / 8 * 8
      · exact one_frag1 g s at_ L a c xa xc E W0 w w1 R hg hb hcut h8 hl h hm ho
      · have ho' : u16 s.l 2 / 8 * 8 = 0 := by omega
        by_cases h2 : u16 s.l 2 % 2 = 1
        · exact one_frag2 g s at_ L a c xa xc E W0 w w1 R hg hb hcut h8 hl h hm ⟨ho', h2⟩
        · exact one_frag0 g s at_ L a c xa xc E W0 w w1 R hg hb hcut h8 hl h hm ⟨ho', by omega⟩
  · rcases hov with h0 | h0
    · exact one_opt0_60 g s at_ L a c xa xc E W0 w w1 R hg hb hcut h8 hl h h0
    · exact one_opt7_60 g s at_ L a c xa xc E W0 w w1 R hg hb hcut h8 hl h h0
/-- What all leaves behind it. -/
def AllTo (W0 w : World) (g : Nat) (L : List Int) (a : Option Addr) (c : Nat) (E : Bool) (T : Int × St) (w' : World) : Prop :=
  Below g w w' ∧ (T.1 = 0 → ∃ at_ xa xc, RT W0 w g T.2 at_ L a c xa xc E w')
set_option maxHeartbeats 1000000 in
theorem rall_any (g : Nat) (s : St) (at_ : Nat) (L : List Int) (a : Option Addr) (c : Nat) (xa : Option Addr) (xc : Nat) (E : Bool) (W0 w w1 : World) (R : RT W0 w g s at_ L a c xa xc E w1) (hg : W0.heap.size ≤ g) (hb : Below W0.heap.size W0 w) (hcut : s.cut = false) :
    Calls Try.prog 86 #[.pointer (some ⟨g, 0, none⟩)] w1 fun e w' => e = .returned (.int .i64 (wend s).1) ∧ AllTo W0 w g L a c E (wend s) w' := by
  obtain ⟨T, hT⟩ : ∃ T, wend s = T := ⟨_, rfl⟩
  rw [hT]
  have HT : Hid (wend s = T) := hT
  clear hT
  go_enter Try.func86, Try.ntmps86
  go_wp2_with fail
  go_loopw [3] (fun _ wr => ∃ (s : St) (at_ : Nat) (xa : Option Addr) (xc : Nat), RT W0 w g s at_ L a c xa xc E wr ∧ s.cut = false ∧ Hid (wend s = T)) (fun _ wr => 9 - sliceLen ((wr.cell? ⟨g, 3, none⟩).getD undef))
  case atStart => exact ⟨s, at_, xa, xc, R, hcut, HT⟩
  case round =>
    clear R hcut HT s at_ xa xc
    obtain ⟨s, at_, xa, xc, R, hcut, HE⟩ := hrel
    have HR : Hid (RT W0 w g s at_ L a c xa xc E wr) := R
    have c0 := R.tw.c0
    have hfew := R.few
    clear R
    cases hx : isExt s.next with
    | false =>
      have ET : Hid (T = (0, s)) := by show T = _; rw [← HE.out]; exact wend_over s hfew (by simp [over, hx])
      have KX := isExt_any s.next wr
      rw [hx] at KX
      have HKX : Hid _ := KX
      clear KX
      go_wp2_with fail
      refine Calls.mono HKX.out ?_
      rintro e w' ⟨rfl, hw'⟩
      rw [hw']
      clear hw' HKX
      go_wp2
      go_ret
      exact ⟨ret_int (by rw [ET.out]), HR.out.below, fun _ => ⟨at_, xa, xc, by rw [ET.out]; exact HR.out⟩⟩
    | true =>
      have ho : over s = false := by simp [over, hcut, hx]
      have KX := isExt_any s.next wr
      rw [hx] at KX
      have HKX : Hid _ := KX
      have HK1 : Hid _ := one_any g s at_ L a c xa xc E W0 w wr HR.out hg hb hcut hx
      clear KX
      go_wp2_with fail
      refine Calls.mono HKX.out ?_
      rintro e w' ⟨rfl, hw'⟩
      rw [hw']
      clear hw' HKX
      go_wp2_with fail
      refine Calls.mono HK1.out ?_
      rintro e w2 ⟨rfl, bel, fin⟩
      clear HK1
      by_cases he : werr s = 0
      · obtain ⟨xa', xc', R2⟩ := fin he
        have eo : oneOver s = (after s).cut := by unfold oneOver; rw [if_pos he]
        rw [he, eo]
        have en := wend_next s hfew ho he
        have h8 := (werr_lt s he).1
        cases hc2 : (after s).cut with
        | true =>
          have ET : Hid (T = (0, after s)) := by
            show T = _
            rw [← HE.out, en]
            exact wend_over _ R2.few (by simp [over, hc2])
          have HR2 : Hid _ := R2
          clear R2 fin en eo
          go_wp2
          go_ret
          exact ⟨ret_int (by rw [ET.out]), bel, fun _ => ⟨_, xa', xc', by rw [ET.out]; exact HR2.out⟩⟩
        | false =>
          have HE2 : Hid (wend (after s) = T) := by show _ = T; rw [← en]; exact HE.out
          have k1 := R2.tw.c3
          have k2 := HR.out.tw.c3
          have eX : (after s).ex.length = s.ex.length + 1 := by rw [after_ex]; simp
          have MS : Hid (9 - sliceLen ((w2.cell? ⟨g, 3, none⟩).getD undef) < 9 - sliceLen ((wr.cell? ⟨g, 3, none⟩).getD undef)) := by
            show _ < _
            rw [k1, k2]
            simp only [Option.getD_some, sliceLen_slice]
            omega
          have HR2 : Hid _ := R2
          clear R2 fin en eo k1 k2
          go_wp2
          exact ⟨⟨after s, _, xa', xc', HR2.out, hc2, HE2⟩, MS.out⟩
      · have eo : oneOver s = true := by unfold oneOver; rw [if_neg he]
        rw [eo]
        have ET : Hid (T = (werr s, s)) := by show T = _; rw [← HE.out]; exact wend_err s hfew ho he
        clear fin
        go_wp2
        go_ret
        exact ⟨ret_int (by rw [ET.out]), bel, fun h => absurd h (by rw [ET.out]; exact he)⟩
abbrev w22 (nx : Int) (at_ : Nat) (bv : Value) (hop fr en : Bool) : Array Value := #[.int .i64 nx, .int .i64 at_, bv, .slice none 0 0, .bool hop, .bool fr, .bool en, .int .i64 0, .int .i64 0, .int .u64 0, .int .u64 0, .int .i64 0, .int .u64 0, .int .u64 0, .int .i64 0, .int .i64 0, .bool false, .int .u32 0, .int .i64 0, .bool false, .slice none 0 0, .slice none 0 0]
theorem tw_new (w : World) (nx : Int) (at_ : Nat) (bv : Value) (l : List Int) (met en : Bool) :
    TW (w.alloc (.cells (w22 nx at_ bv (!met) met en) 103)) w.heap.size (st0 nx l met) at_ bv (.slice none 0 0) (!met) en := by
  refine ⟨?_, ?_, ?_, ?_, ?_, ?_, ?_, ?_, ?_, ?_, ?_, ?_, ?_⟩
  all_goals first | (intro o h1 h2 h3; have : o = 7 ∨ o = 8 ∨ o = 9 ∨ o = 10 ∨ o = 11 ∨ o = 12 ∨ o = 13 ∨ o = 14 ∨ o = 15 ∨ o = 20 ∨ o = 21 := by omega
                     rcases this with h | h | h | h | h | h | h | h | h | h | h <;> subst h <;> simp) | simp [st0]
/-- A struct that is stored into the block that was made last, by one equation. -/
theorem wpList_store_new {ops : Array Oper} {rest : List Oper} {o : Oper} {ac : Act} {Q : Exit → Act → World → Prop} (w w' : World) (hgd : o.guard = none) (t : TypeId) (p x : Operand) (ho : o.op = Op.store t p x)
    (v1 v2 : Value) (hp : ac.eval p = v1) (hx : ac.eval x = v2) (hrun : (Instr.storeAt t v1 v2).run Try.prog w = .ok () w') (h : wpList Try.prog ops Q rest (ac.put o.dst undef) w') : wpList Try.prog ops Q (o :: rest) ac w := by
  refine wpList_plain hgd fun K hK => ?_
  unfold Oper.wp
  subst hp
  subst hx
  simp [execOp, ho, hrun, Result.andThen]
  exact hK _ _ h
set_option maxRecDepth 100000 in
set_option maxHeartbeats 1000000 in
theorem rwalk_any (nx : Int) (a : Option Addr) (c : Nat) (l : List Int) (w : World) (h : Row w a l) (hc : l.length ≤ c) (hcm : c ≤ 9223372036854775807) (hnil : a = none → c = 0) :
    Calls Try.prog 76 #[.int .i64 nx, .slice a l.length c] w fun e w' => ∃ xa xc a' c', e = .returned (.tuple #[.int .i64 (wS nx l).next, .slice xa (wS nx l).ex.length xc, .slice a' (wS nx l).l.length c', .int .i64 (wE nx l)]) ∧
      Fresh w w' a' c' (wS nx l).l ∧ OwnsI w' w.heap.size (.slice xa (wS nx l).ex.length xc) (wS nx l).ex ∧ (wS nx l).ex.length ≤ 8 := by
  obtain ⟨W1, hW1⟩ : ∃ W1, w.alloc (.cells (w22 nx 0 (.slice a l.length c) false true false) 103) = W1 := ⟨_, rfl⟩
  have T1 : TW W1 w.heap.size (st0 nx l true) 0 (.slice a l.length c) (.slice none 0 0) false false := by
    rw [← hW1]
    exact tw_new w nx 0 _ l true false
  have b1 := bel_nw hW1
  have z1 : W1.heap.size = w.heap.size + 1 := by rw [← hW1]; simp
  have R1 : RT w W1 w.heap.size (st0 nx l true) 0 l a c none 0 false W1 := ⟨T1, h, hc, hcm, rfl, Nat.zero_le _, OwnsI.nil _ _, Below.refl _ _, Nat.zero_le _, fun _ => rfl, fun _ => ⟨rfl, rfl⟩⟩
  have RA : Hid _ := rall_any w.heap.size (st0 nx l true) 0 l a c none 0 false w W1 W1 R1 (Nat.le_refl _) b1 rfl
  have HW1 : Hid (w.alloc (.cells (sRd nx 0 a l.length c none 0 0 false true false 0 0 0 0 0 0 0 0 0 false 0 0 false none 0 0 none 0 0) 103) = W1) := hW1
  clear hW1 R1 T1
  have hbd : (Instr.build 103 #[(0, .int .i64 nx), (2, .slice a l.length c), (5, .bool true)]).run Try.prog w = .ok (.agg (sRd nx 0 a l.length c none 0 0 false true false 0 0 0 0 0 0 0 0 0 false 0 0 false none 0 0 none 0 0)) w := by kernel_rfl
  have hst := run_storeAt_new (P := Try.prog) w 103 (sRd 0 0 none 0 0 none 0 0 false false false 0 0 0 0 0 0 0 0 0 false 0 0 false none 0 0 none 0 0) (sRd nx 0 a l.length c none 0 0 false true false 0 0 0 0 0 0 0 0 0 false 0 0 false none 0 0 none 0 0) (by kernel_rfl) rfl (by kernel_rfl)
  go_enter Try.func76, Try.ntmps76
  go_wp2_with (first | (refine wpList_build _ rfl _ _ rfl _ (by rfl) _ hbd ?_) | (refine wpList_store_new _ _ rfl _ _ _ rfl _ _ (by rfl) (by rfl) hst ?_))
  rw [HW1.out]
  clear hbd hst
  refine Calls.mono RA.out ?_
  rintro e W2 ⟨rfl, bel, fin⟩
  clear RA HW1
  obtain ⟨g, hg⟩ : ∃ g, w.heap.size = g := ⟨_, rfl⟩
  rw [hg] at bel fin b1 z1 ⊢
  obtain ⟨T, hT⟩ : ∃ T, wend (st0 nx l true) = T := ⟨_, rfl⟩
  have eS : wS nx l = if T.1 = 0 then T.2 else st0 0 [] true := by unfold wS; rw [hT]
  have eE : wE nx l = T.1 := by unfold wE; rw [hT]
  rw [hT] at fin ⊢
  clear hT
  obtain ⟨EE0, t⟩ := T
  simp only at fin eS eE ⊢
  have b2 : Below g w W2 := b1.trans bel
  by_cases h0 : EE0 = 0
  · subst h0
    obtain ⟨at_, xa, xc, R⟩ := fin rfl
    rw [if_pos rfl] at eS
    have ES : Hid (wS nx l = t) := eS
    have EE : Hid (wE nx l = 0) := eE
    clear eS eE fin
    have q0 := R.tw.c0
    have q1 := R.tw.c1
    have q3 := R.tw.c3
    have gl := R.tw.lt
    have hat := R.atl
    have hli := R.lis
    have ro := R.own
    have rf := R.few
    have r2 : Row W2 a l := h.below (by rw [hg]; exact b2)
    have sm := h.small
    have hd := r2.drop c at_ hc
    rw [← hli] at hd
    have hll : t.l.length = l.length - at_ := by rw [hli, List.length_drop]
    clear R
    have i1 : (at_ : Int) ≤ (l.length : Int) := by omega
    have HLI : Hid (t.l = l.drop at_) := hli
    have HLL : Hid (l.length - at_ = t.l.length) := hll.symm
    have SS := h.small
    clear hli hll
    go_wp2
    have far : Hid (∀ w3, W2.drew.grownBy w3 (Value.slice none 0 0).ownBlock → w3.cell? ⟨g, 0, none⟩ = some (.int .i64 t.next) ∧ w3.cell? ⟨g, 3, none⟩ = some (.slice xa t.ex.length xc)) := by
      intro w3 hgr
      exact ⟨(hgr.cell_far ⟨g, 0, none⟩ gl (by simp [Value.ownBlock])).trans q0, (hgr.cell_far ⟨g, 3, none⟩ gl (by simp [Value.ownBlock])).trans q3⟩
    have hdd := hd.below (below_drew W2)
    go_region_law (refine step_app _ rfl (.const (.slice none 0 0)) (.tmp 24) rfl W2.heap.size (.slice none 0 0) [] rfl (Owns.nil _ _) _ _ _ t.l rfl HLL.out hdd (fun e => by
        cases a with
        | none => have := hnil rfl; omega
        | some x => split at e <;> cases e) (by simp; have := HLL.out; omega) (Nat.le_refl _) ?_; intro v' w3 ow gw; have x0 := (far.out w3 gw).1; have x3 := (far.out w3 gw).2; obtain ⟨a8, c8, rfl, hc8, hn8, _⟩ := ow.form)
    all_goals (
      have b8 : Below W2.heap.size W2 w3 := (Below.refl _ _).grown ((grownBy_drew W2 _).trans gw) (Nat.le_refl _) (fun k hk => by simp [Value.ownBlock] at hk)
      have o8 : Owns w3 W2.heap.size (.slice a8 t.l.length c8) t.l := by simpa using ow
      have r8 := o8.row hd.small hd.bytes
      rw [List.nil_append] at hc8
      go_wp2
      all_goals (
        refine bodyPost_ret (v := .tuple #[.int .i64 t.next, .slice xa t.ex.length xc, .slice a8 t.l.length c8, .int .i64 0]) (by simp [results, Try.results76, go_sem]) rfl ⟨xa, xc, a8, c8, ?_, ?_, ?_, ?_⟩
        · rw [ES.out, EE.out]
        · rw [ES.out]
          exact ⟨owns_le b2.size o8, hc8, hn8, r8, by rw [hg]; exact b2.trans (b8.mono (by omega))⟩
        · rw [ES.out]; exact (ro.below b8).le (by omega)
        · rw [ES.out]; exact rf))
  · have h0' : (EE0 != 0) = true := by simpa using h0
    rw [if_neg h0] at eS
    have ES : Hid (wS nx l = st0 0 [] true) := eS
    have EE : Hid (wE nx l = EE0) := eE
    clear eS eE fin
    go_wp2
    refine bodyPost_ret (v := .tuple #[.int .i64 0, .slice none 0 0, .slice none 0 0, .int .i64 EE0]) (by simp [results, Try.results76, go_sem]) rfl ⟨none, 0, none, 0, ?_, ?_, ?_, ?_⟩
    · rw [ES.out, EE.out]; rfl
    · rw [ES.out]
      exact ⟨Owns.nil _ _, Nat.le_refl _, fun _ => rfl, ⟨by simp [st0], M.Bytes.of (by decide), fun h => by simp [st0] at h⟩, by rw [hg]; exact b2⟩
    · rw [ES.out]; exact OwnsI.nil _ _
    · rw [ES.out]; simp [st0]
set_option maxRecDepth 100000 in
set_option maxHeartbeats 4000000 in
theorem rinner_6c (f : Int) (bk off dc : Nat) (b : List Int) (w : World) (h : Row w (some ⟨bk, off, none⟩) b) (hll : b.length ≤ 140737488351232) (hc : b.length ≤ dc) (hcm : dc ≤ 9223372036854775807) (hf : f = 6) (hge : ¬ b.length < 40) (hv : b.getD 0 0 / 16 = f) (h6 : wE (b.getD 6 0) (b.drop 40) ≠ 0) :
    Calls Try.prog 61 #[.int .i64 f, .slice (some ⟨bk, off, none⟩) b.length dc] w fun e w' => e = .returned (.tuple #[.agg (tpv ((inner f b).getD zTp)), .bool (inner f b).isSome]) ∧ Below w.heap.size w w' := by
  have eN : inner f b = none := by
    unfold inner
    rw [if_neg (by omega), if_neg (by simpa using hv), if_neg (by omega)]
    unfold inner6
    rw [if_neg hge, if_pos (Or.inl h6)]
  rw [eN]
  clear eN
  obtain ⟨W1, hW1⟩ : ∃ W1, w.alloc (.cells (sRb 0 0 0 0 0 0 0 0 0 0) 26) = W1 := ⟨_, rfl⟩
  have b1 := bel_nw hW1
  have A1 := blk_nw hW1
  have g1 : w.heap.size < W1.heap.size := A1.lt
  obtain ⟨W2, hW2⟩ : ∃ W2, W1.alloc (.cells (sRb 0 0 0 0 0 0 0 0 0 0) 26) = W2 := ⟨_, rfl⟩
  have b2 := bel_al b1 hW2
  have A2 := A1.al hW2
  have V2 := blk_nw hW2
  have b3 := below_setRow b2 (Nat.le_of_lt g1) (sRb f 0 0 0 0 0 0 0 0 0)
  have A3 := A2.other (show w.heap.size ≠ W1.heap.size by omega) (sRb f 0 0 0 0 0 0 0 0 0)
  have V3 := V2.set (sRb f 0 0 0 0 0 0 0 0 0)
  obtain ⟨W3, hW3⟩ : ∃ W, W2.setRow W1.heap.size (sRb f 0 0 0 0 0 0 0 0 0) = W := ⟨_, rfl⟩
  rw [hW3] at b3 A3 V3
  have HW3 : Hid _ := hW3
  have hb0 : (Instr.build 26 #[(0, .int .i64 f)]).run Try.prog W1 = .ok (.agg (sRb f 0 0 0 0 0 0 0 0 0)) W1 := by kernel_rfl
  have hbz : (Instr.build 26 #[]).run Try.prog W3 = .ok (.agg (sRb 0 0 0 0 0 0 0 0 0 0)) W3 := by kernel_rfl
  clear hW3
  have f4 : (f == 4) = false := by rw [hf]; rfl
  have f6 : (f == 6) = true := by simpa using hf
  have hge' : ¬ (b.length : Int) < 40 := by omega
  obtain ⟨x0, e0⟩ : ∃ x, b.getD 0 0 = x := ⟨_, rfl⟩
  have q0 := h.bytes.get 0
  obtain ⟨bk', off', ee, hcl⟩ := h.cells (by omega)
  cases ee
  have u0 := hcl 0 (by omega)
  rw [e0, Nat.add_zero] at u0
  rw [e0] at q0
  have y0 := kept (b := bk) (o := off) b3 u0
  have i0 : (0 : Int) < (b.length : Int) := by omega
  have hne' : ¬ b = [] := by intro e; rw [e] at hge; simp at hge
  have wx0 : IntKind.i64.wrap (x0 / 16) = x0 / 16 := wraps_i64 _ (by omega) (by omega)
  rw [e0] at hv
  have hv' : (x0 / 16 != f) = false := by simpa using hv
  obtain ⟨x6, e6⟩ : ∃ x, b.getD 6 0 = x := ⟨_, rfl⟩
  have q6 := h.bytes.get 6
  have y6 := kept (b := bk) (o := off + 6) b3 (hcl 6 (by omega))
  rw [e6] at y6 q6
  have i6 : (6 : Int) < (b.length : Int) := by omega
  have wx6 : IntKind.i64.wrap x6 = x6 := wraps_i64 _ (by omega) (by omega)
  have jh2 : (40 : Int) ≤ (b.length : Int) := by omega
  obtain ⟨a3, ha3⟩ : ∃ a3 : Option Addr, (if dc = 40 then (some ⟨bk, off, none⟩) else Option.map (fun x : Addr => x.add 40) (some ⟨bk, off, none⟩)) = a3 := ⟨_, rfl⟩
  have H3 : Hid ((if dc = 40 then some (⟨bk, off, none⟩ : Addr) else some ⟨bk, off + 40, none⟩) = a3) := by
    have : (if dc = 40 then some (⟨bk, off, none⟩ : Addr) else some ⟨bk, off + 40, none⟩) = a3 := by
      rw [← ha3]
      simp [Go.WideShapes.add_plain]
    exact this
  have h3' : (if dc = 40 then some (⟨bk, off, none⟩ : Addr) else some ⟨bk, off + 40, none⟩) = a3 := H3.out
  obtain ⟨c3, hc3⟩ : ∃ c3, dc - 40 = c3 := ⟨_, rfl⟩
  have hn3 : a3 = none → c3 = 0 := fun e => by
    rw [e] at ha3
    split at ha3
    · cases ha3
    · cases ha3
  obtain ⟨D, hD⟩ : ∃ D, b.drop 40 = D := ⟨_, rfl⟩
  have lD : D.length = b.length - 40 := by rw [← hD, List.length_drop]
  obtain ⟨N, hN⟩ : ∃ N, (wS x6 D).next = N := ⟨_, rfl⟩
  obtain ⟨R, hR⟩ : ∃ R, (wS x6 D).l = R := ⟨_, rfl⟩
  obtain ⟨E, hE⟩ : ∃ E, wE x6 D = E := ⟨_, rfl⟩
  obtain ⟨XN, hXN⟩ : ∃ E, (wS x6 D).ex.length = E := ⟨_, rfl⟩
  have KW : Hid (∀ W, Row W (some ⟨bk, off, none⟩) b → Calls Try.prog 76 #[.int .i64 x6, .slice a3 (b.length - 40) (dc - 40)] W fun e w' => ∃ xa xc a' c', e = .returned (.tuple #[.int .i64 N, .slice xa XN xc, .slice a' R.length c', .int .i64 E]) ∧ Fresh W w' a' c' R) := fun W hW => by
    have hr := hW.drop dc 40 hc
    rw [ha3, hD] at hr
    rw [← hc3] at hn3
    have := rwalk_any x6 a3 (dc - 40) D W hr (by omega) (by omega) hn3
    rw [lD, hN, hR, hE, hXN] at this
    refine Calls.mono this ?_
    rintro e w' ⟨xa, xc, a', c', h1, h2, _, _⟩
    exact ⟨xa, xc, a', c', h1, h2⟩
  rw [e6, hD, hE] at h6
  have hE' : (E != 0) = true := by simpa using h6
  clear hf hv hcl e0 u0 e6 hN hXN ha3 hD lD hc3
  clear hR hE h6
  go_enter Try.func61, Try.ntmps61
  go_wp2_with (first
    | (refine wpList_build _ rfl _ _ rfl _ (by rfl) _ hb0 ?_)
    | (refine wpList_store_row rfl _ _ _ rfl W1.heap.size (sRb f 0 0 0 0 0 0 0 0 0) (by rfl) (by rfl) _ _ V2 (by kernel_rfl) (by rfl) (by kernel_rfl) ?_; rw [HW3.out]))
  refine wp_region_noPanic ?_
  refine wp_region_held_drew (S := fun w' => w'.cell? ⟨bk, off + 6, none⟩ = some (.int .u8 x6)) (by kernel_rfl) (by exact y6) (fun hHeld => ?_)
  refine tk (i := 0) (oi := { dst := some 72, op := Op.move (.tmp 1), type := 28, pos := "ref.go:95", after := #[], guard := none }) (v := (.slice (some ⟨bk, off, none⟩) b.length dc)) hHeld ?_ ?_
  · intro w9 hSw
    try dsimp only at hSw
    go_simp
  try simp only [pu]
  refine tk (i := 1) (oi := { dst := some 73, op := Op.indexAddr 28 (.tmp 72) (.const (.int .i64 6)), type := 0, pos := "ref.go:95", after := #[{ on := 0, ground := Ground.data }], guard := none }) (v := (.pointer (some ⟨bk, off + 6, none⟩))) hHeld ?_ ?_
  · intro w9 hSw
    try dsimp only at hSw
    go_simp
  try simp only [pu]
  refine tk (i := 2) (oi := { dst := some 74, op := Op.load 5 (.tmp 73), type := 5, pos := "ref.go:95", after := #[{ on := 1, ground := Ground.data }], guard := none }) (v := (.int .u8 x6)) hHeld ?_ ?_
  · intro w9 hSw
    try dsimp only at hSw
    go_simp
  try simp only [pu]
  refine tk (i := 3) (oi := { dst := some 75, op := Op.convert 5 3 (.tmp 74), type := 3, pos := "ref.go:95", after := #[{ on := 2, ground := Ground.data }], guard := none }) (v := (.int .i64 x6)) hHeld ?_ ?_
  · intro w9 hSw
    try dsimp only at hSw
    go_simp
  try simp only [pu]
  refine tk (i := 4) (oi := { dst := some 76, op := Op.move (.tmp 1), type := 28, pos := "ref.go:95", after := #[], guard := none }) (v := (.slice (some ⟨bk, off, none⟩) b.length dc)) hHeld ?_ ?_
  · intro w9 hSw
    try dsimp only at hSw
    go_simp
  try simp only [pu]
  refine tk (i := 5) (oi := { dst := some 77, op := Op.slice 28 (.tmp 76) (some (.const (.int .i64 40))) none none, type := 28, pos := "ref.go:95", after := #[{ on := 4, ground := Ground.data }], guard := none }) (v := (.slice a3 (b.length - 40) (dc - 40))) hHeld ?_ ?_
  · intro w9 hSw
    try dsimp only at hSw
    go_simp
    try exact H3.out
  try simp only [pu]
  refine wpAnyH_ready (rs := [6]) (by kernel_rfl) (by simp) ?_
  refine AllReadyH.cons (o := { dst := some 78, op := Op.call { callee := Callee.value (.func 76), args := #[.tmp 75, .tmp 77], argTypes := #[3, 28] }, type := 96, pos := "ref.go:95", after := #[{ on := 3, ground := Ground.data }, { on := 5, ground := Ground.data }], guard := none }) rfl (fun K hK => ?_) AllReadyH.nil
  go_simp
  refine Calls.mono (KW.out _ (h.below b3.drew)) ?_
  rintro e W4 ⟨xa, xc, a', c', rfl, F4⟩
  have V4 := V3.drew.kept F4.below
  have A4 := A3.drew.kept F4.below
  have b4 : Below w.heap.size w W4 := b3.drew.trans (F4.below.mono b3.drew.size)
  have r4 := F4.row
  have rc4 := F4.room
  have rn4 := F4.nil
  refine hK.out _ _ ?_ (fun hHeld => ?_)
  · exact kept (b := bk) (o := off + 6) F4.below y6
  clear hK K
  try simp only [pu]
  refine tk (i := 7) (oi := { dst := some 71, op := Op.move (.tmp 78), type := 96, pos := "ref.go:95", after := #[{ on := 6, ground := Ground.data }], guard := none }) (v := (.tuple #[.int .i64 N, .slice xa XN xc, .slice a' R.length c', .int .i64 E])) hHeld ?_ ?_
  · intro w9 hSw
    try dsimp only at hSw
    go_simp
  try simp only [pu]
  refine tk (i := 8) (oi := { dst := some 79, op := Op.extract (.tmp 71) 0, type := 3, pos := "ref.go:95", after := #[{ on := 7, ground := Ground.data }], guard := none }) (v := (.int .i64 N)) hHeld ?_ ?_
  · intro w9 hSw
    try dsimp only at hSw
    go_simp
  try simp only [pu]
  refine tk (i := 9) (oi := { dst := some 80, op := Op.extract (.tmp 71) 1, type := 34, pos := "ref.go:95", after := #[{ on := 7, ground := Ground.data }, { on := 12, ground := Ground.gcOnly Departure.lateStores }], guard := none }) (v := (.slice xa XN xc)) hHeld ?_ ?_
  · intro w9 hSw
    try dsimp only at hSw
    go_simp
  try simp only [pu]
  refine tk (i := 10) (oi := { dst := some 81, op := Op.extract (.tmp 71) 2, type := 28, pos := "ref.go:95", after := #[{ on := 7, ground := Ground.data }, { on := 13, ground := Ground.gcOnly Departure.lateStores }], guard := none }) (v := (.slice a' R.length c')) hHeld ?_ ?_
  · intro w9 hSw
    try dsimp only at hSw
    go_simp
  try simp only [pu]
  refine tk (i := 11) (oi := { dst := some 82, op := Op.extract (.tmp 71) 3, type := 3, pos := "ref.go:95", after := #[{ on := 7, ground := Ground.data }, { on := 14, ground := Ground.gcOnly Departure.lateStores }], guard := none }) (v := (.int .i64 E)) hHeld ?_ ?_
  · intro w9 hSw
    try dsimp only at hSw
    go_simp
  try simp only [pu]
  refine tk (i := 12) (oi := { dst := some 10, op := Op.assign (.tmp 79), type := 3, pos := "ref.go:95", after := #[{ on := 8, ground := Ground.data }, { on := 6, ground := Ground.chain }, { on := 0, ground := Ground.phase }, { on := 1, ground := Ground.phase }, { on := 2, ground := Ground.phase }, { on := 3, ground := Ground.phase }, { on := 4, ground := Ground.phase }, { on := 5, ground := Ground.phase }, { on := 6, ground := Ground.phase }, { on := 7, ground := Ground.phase }, { on := 8, ground := Ground.phase }, { on := 9, ground := Ground.textOnly Departure.lateStores }, { on := 10, ground := Ground.textOnly Departure.lateStores }, { on := 11, ground := Ground.textOnly Departure.lateStores }], guard := none }) (v := (.int .i64 N)) hHeld ?_ ?_
  · intro w9 hSw
    try dsimp only at hSw
    go_simp
  try simp only [pu]
  refine tk (i := 13) (oi := { dst := some 11, op := Op.assign (.tmp 80), type := 34, pos := "ref.go:95", after := #[{ on := 9, ground := Ground.data }, { on := 12, ground := Ground.chain }, { on := 0, ground := Ground.phase }, { on := 1, ground := Ground.phase }, { on := 2, ground := Ground.phase }, { on := 3, ground := Ground.phase }, { on := 4, ground := Ground.phase }, { on := 5, ground := Ground.phase }, { on := 6, ground := Ground.phase }, { on := 7, ground := Ground.phase }, { on := 8, ground := Ground.phase }, { on := 9, ground := Ground.phase }, { on := 10, ground := Ground.textOnly Departure.lateStores }, { on := 11, ground := Ground.textOnly Departure.lateStores }, { on := 12, ground := Ground.phase }], guard := none }) (v := (.slice xa XN xc)) hHeld ?_ ?_
  · intro w9 hSw
    try dsimp only at hSw
    go_simp
  try simp only [pu]
  refine tk (i := 14) (oi := { dst := some 12, op := Op.assign (.tmp 81), type := 28, pos := "ref.go:95", after := #[{ on := 10, ground := Ground.data }, { on := 13, ground := Ground.chain }, { on := 0, ground := Ground.phase }, { on := 1, ground := Ground.phase }, { on := 2, ground := Ground.phase }, { on := 3, ground := Ground.phase }, { on := 4, ground := Ground.phase }, { on := 5, ground := Ground.phase }, { on := 6, ground := Ground.phase }, { on := 7, ground := Ground.phase }, { on := 8, ground := Ground.phase }, { on := 9, ground := Ground.phase }, { on := 10, ground := Ground.phase }, { on := 11, ground := Ground.textOnly Departure.lateStores }, { on := 12, ground := Ground.phase }, { on := 13, ground := Ground.phase }], guard := none }) (v := (.slice a' R.length c')) hHeld ?_ ?_
  · intro w9 hSw
    try dsimp only at hSw
    go_simp
  try simp only [pu]
  refine tk (i := 15) (oi := { dst := some 13, op := Op.assign (.tmp 82), type := 3, pos := "ref.go:95", after := #[{ on := 11, ground := Ground.data }, { on := 14, ground := Ground.chain }, { on := 0, ground := Ground.phase }, { on := 1, ground := Ground.phase }, { on := 2, ground := Ground.phase }, { on := 3, ground := Ground.phase }, { on := 4, ground := Ground.phase }, { on := 5, ground := Ground.phase }, { on := 6, ground := Ground.phase }, { on := 7, ground := Ground.phase }, { on := 8, ground := Ground.phase }, { on := 9, ground := Ground.phase }, { on := 10, ground := Ground.phase }, { on := 11, ground := Ground.phase }, { on := 12, ground := Ground.phase }, { on := 13, ground := Ground.phase }, { on := 14, ground := Ground.phase }], guard := none }) (v := (.int .i64 E)) hHeld ?_ ?_
  · intro w9 hSw
    try dsimp only at hSw
    go_simp
  try simp only [pu]
  refine wpAnyH_done (by kernel_rfl) ?_ _
  refine NoPanic.normal ?_
  clear hHeld KW F4 V3 A3 b3 y0 y6 V2 A2 b2 A1 b1 hW1 hW2
  have hbz8 : (Instr.build 26 #[]).run Try.prog W4 = .ok (.agg (sRb 0 0 0 0 0 0 0 0 0 0)) W4 := by kernel_rfl
  have Bf := A4.set (sRb 0 0 0 0 0 0 0 0 0 0)
  have bf := below_setRow b4 (Nat.le_refl _) (sRb 0 0 0 0 0 0 0 0 0 0)
  go_wp2_with (first
    | (refine wpList_build _ rfl _ _ rfl _ (by rfl) _ hbz8 ?_)
    | (refine wpList_store_row rfl _ _ _ rfl w.heap.size (sRb 0 0 0 0 0 0 0 0 0 0) (by rfl) (by rfl) _ _ A4 (by kernel_rfl) (by rfl) (by kernel_rfl) ?_))
  exact ret_cell_tmp (k := 4) (j := 5) Try.f61 (by kernel_rfl) Bf Try.underlying26 (by kernel_rfl) (by rfl) (by rfl) rfl ⟨rfl, bf⟩
end Go.Proofs.Ytpjjkdgmfjhfiaa
