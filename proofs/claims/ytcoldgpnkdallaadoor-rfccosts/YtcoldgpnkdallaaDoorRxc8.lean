/- Texts joined: RfN -/
import Derived.Test.YtcoldgpnkdallaaDoorRxa0
import Derived.Test.YtcoldgpnkdallaaDoorRxa1
import Derived.Test.YtcoldgpnkdallaaDoorRxa2
import Derived.Test.YtcoldgpnkdallaaDoorRxa3
import Derived.Test.YtcoldgpnkdallaaDoorRxa4
import Derived.Test.YtcoldgpnkdallaaDoorRxa5
import Derived.Test.YtcoldgpnkdallaaDoorRxa6
import Derived.Test.YtcoldgpnkdallaaDoorRxa7
import Derived.Test.YtcoldgpnkdallaaDoorRxa8
import Derived.Test.YtcoldgpnkdallaaDoorRxa9
import Derived.Test.YtcoldgpnkdallaaDoorRxa10
import Derived.Test.YtcoldgpnkdallaaDoorRxa11
import Derived.Test.YtcoldgpnkdallaaDoorRxa12
import Derived.Test.YtcoldgpnkdallaaDoorRxa13
import Derived.Test.YtcoldgpnkdallaaDoorRxa14
import Derived.Test.YtcoldgpnkdallaaDoorRxa15
import Derived.Test.YtcoldgpnkdallaaDoorRxa16
import Derived.Test.YtcoldgpnkdallaaDoorRxa17
import Derived.Test.YtcoldgpnkdallaaDoorRxa18
import Derived.Test.YtcoldgpnkdallaaDoorRxa19
import Derived.Test.YtcoldgpnkdallaaDoorRxa20
import Derived.Test.YtcoldgpnkdallaaDoorRxa21
import Derived.Test.YtcoldgpnkdallaaDoorRxa22
import Derived.Test.YtcoldgpnkdallaaDoorRxa23
import Derived.Test.YtcoldgpnkdallaaDoorRxa24
import Derived.Test.YtcoldgpnkdallaaDoorRxa25
import Derived.Test.YtcoldgpnkdallaaDoorRxa26
import Derived.Test.YtcoldgpnkdallaaDoorRxa27
import Derived.Test.YtcoldgpnkdallaaDoorRxa28
import Derived.Test.YtcoldgpnkdallaaDoorRxa29
import Derived.Test.YtcoldgpnkdallaaDoorRxa30
import Derived.Test.YtcoldgpnkdallaaDoorRxa31
import Derived.Test.YtcoldgpnkdallaaDoorRxa32
import Derived.Test.YtcoldgpnkdallaaDoorRxa33
import Derived.Test.YtcoldgpnkdallaaDoorRxa34
import Derived.Test.YtcoldgpnkdallaaDoorRxa35
import Derived.Test.YtcoldgpnkdallaaDoorRxa36
import Derived.Test.YtcoldgpnkdallaaDoorRxa37
import Derived.Test.YtcoldgpnkdallaaDoorRxa39
import Derived.Test.YtcoldgpnkdallaaDoorRxa41
import Derived.Test.YtcoldgpnkdallaaDoorRxc7
namespace Go.Proofs.YtcoldgpnkdallaaDoor
open Go.RowKit
set_option linter.unusedVariables false
set_option linter.unusedSimpArgs false
theorem same_chR (x y : ChR) (w : World) (hx : x.ok w) (hy : y.ok w) : Calls Tryd.prog 35 #[.agg x.v, .agg y.v] w fun e w' => Tells e (x.pl = y.pl) ∧ Below w.heap.size w w' := by
  refine (same_ck x.a1 x.a2 x.a3 y.a1 y.a2 y.a3 x.c1 x.c2 x.c3 y.c1 y.c2 y.c3 x.L y.L x.K y.K x.S y.S w hx.small hx.p hx.i hx.s hy.p hy.i hy.s).mono ?_
  rintro e w' ⟨⟨r, rfl, hr⟩, hbb⟩
  refine ⟨⟨r, rfl, ?_⟩, hbb⟩
  rw [hr]
  simp only [ChR.pl, Prod.mk.injEq]
set_option maxRecDepth 100000 in
set_option maxHeartbeats 8000000 in
theorem same_crR (x y : CrR) (w : World) (hx : x.ok w) (hy : y.ok w) : Calls Tryd.prog 37 #[.agg x.v, .agg y.v] w fun e w' => Tells e (x.pl = y.pl) ∧ Below w.heap.size w w' := by
  obtain ⟨wx, a2, c2, a3, c3, K, S⟩ := x
  obtain ⟨wy, b2, d2, b3, d3, K', S'⟩ := y
  have HPL : Hid (((⟨wx, a2, c2, a3, c3, K, S⟩ : CrR).pl = (⟨wy, b2, d2, b3, d3, K', S'⟩ : CrR).pl) = (wx = wy ∧ K = K' ∧ S = S')) := by show _ = _; simp only [CrR.pl, Prod.mk.injEq]
  rw [HPL.out]
  show Calls _ _ #[.agg #[.int .i64 wx, .slice a2 K.length c2, .slice a3 S.length c3], .agg #[.int .i64 wy, .slice b2 K'.length d2, .slice b3 S'.length d3]] _ _
  obtain ⟨W1, hW1⟩ : ∃ W1, w.alloc (.cells #[.int .i64 wx, .slice a2 K.length c2, .slice a3 S.length c3] 47) = W1 := ⟨_, rfl⟩
  obtain ⟨W2, hW2⟩ : ∃ W2, W1.alloc (.cells #[.int .i64 wy, .slice b2 K'.length d2, .slice b3 S'.length d3] 47) = W2 := ⟨_, rfl⟩
  have q2 := bel_al (bel_nw hW1) hW2
  have HB1 : Hid (Blk W2 w.heap.size 47 #[.int .i64 wx, .slice a2 K.length c2, .slice a3 S.length c3]) := (blk_nw hW1).al hW2
  have HB2 : Hid (Blk W2 W1.heap.size 47 #[.int .i64 wy, .slice b2 K'.length d2, .slice b3 S'.length d3]) := blk_nw hW2
  have KI : Hid (∀ W, Below w.heap.size w W → Calls Tryd.prog 38 #[.slice a2 K.length c2, .slice b2 K'.length d2] W fun e w' => e = .returned (.bool (decide (K = K'))) ∧ Below W.heap.size W w') := fun W hb => equalI_any a2 b2 c2 d2 K K' W (hx.i.below hb) (hy.i.below hb)
  have KS : Hid (∀ W, Below w.heap.size w W → Calls Tryd.prog 61 #[.slice a3 S.length c3, .slice b3 S'.length d3, .func (.func 38) #[] #[]] W fun e w' => Tells e (S = S') ∧ Below W.heap.size W w') := fun W hb => equalS_any a3 b3 c3 d3 S S' W (hx.s.below hb) (hy.s.below hb)
  clear hx hy HPL
  generalize K.length = M at *
  generalize K'.length = M' at *
  generalize S.length = Q at *
  generalize S'.length = Q' at *
  have x0 := HB1.out.cell 0 _ rfl
  have y0 := HB2.out.cell 0 _ rfl
  have x1 := HB1.out.cell 1 _ rfl
  have y1 := HB2.out.cell 1 _ rfl
  by_cases hwd : wx = wy
  · have HWD : Hid (wx = wy) := hwd
    have hwe : (wx == wy) = true := by simp [hwd]
    have KD : Hid _ := KI.out W2 q2
    clear hwd
    go_enter Tryd.func37, Tryd.ntmps37
    go_wp2_with fail
    refine Calls.mono KD.out ?_
    rintro e W4 ⟨rfl, bb⟩
    have q4 := bel_tr q2 bb
    have HB5 : Hid (Blk W4 w.heap.size 47 #[.int .i64 wx, .slice a2 M c2, .slice a3 Q c3]) := HB1.out.kept bb
    have HB6 : Hid (Blk W4 W1.heap.size 47 #[.int .i64 wy, .slice b2 M' d2, .slice b3 Q' d3]) := HB2.out.kept bb
    clear x0 y0 x1 y1 KI KD HB1 HB2 bb hW1 hW2
    obtain ⟨T, hT⟩ : ∃ T, decide (K = K') = T := ⟨_, rfl⟩
    have HT : Hid (decide (K = K') = T) := hT
    rw [hT]
    clear hT
    cases T
    · have HF : Hid (¬ (wx = wy ∧ K = K' ∧ S = S')) := fun h => by have := HT.out; rw [decide_eq_false_iff_not] at this; exact this h.2.1
      go_wp2
      go_ret
      exact ⟨Tells.no HF.out, q4⟩
    · have HK : Hid (K = K') := (decide_eq_true_iff.1 HT.out : K = K')
      have KD : Hid _ := KS.out W4 q4
      have x2 := HB5.out.cell 2 (.slice a3 Q c3) rfl
      have y2 := HB6.out.cell 2 (.slice b3 Q' d3) rfl
      go_wp2_with fail
      refine Calls.mono KD.out ?_
      rintro e W5 ⟨⟨r, rfl, hr⟩, bb⟩
      have HR2 : Hid (r = true ↔ S = S') := hr
      have q5 := bel_tr q4 bb
      clear x2 y2 KS KD q4 HB5 HB6 bb hr
      cases r
      · have HF : Hid (¬ (wx = wy ∧ K = K' ∧ S = S')) := fun h => by have := HR2.out.2 h.2.2; cases this
        go_wp2
        go_ret
        exact ⟨Tells.no HF.out, q5⟩
      · have HS : Hid (S = S') := HR2.out.1 rfl
        go_wp2
        go_ret
        exact ⟨Tells.yes ⟨HWD.out, HK.out, HS.out⟩, q5⟩
  · have HF : Hid (¬ (wx = wy ∧ K = K' ∧ S = S')) := fun h => hwd h.1
    have hwe : (wx == wy) = false := by simp [hwd]
    clear hwd
    go_enter Tryd.func37, Tryd.ntmps37
    go_wp2
    go_ret
    exact ⟨Tells.no HF.out, q2⟩
set_option maxRecDepth 100000 in
set_option maxHeartbeats 8000000 in
theorem equalD_any (a a' : Option Addr) (c c' : Nat) (D D' : List ChR) (w : World) (hd : D.length ≤ 17592186044416) (h : RowD w a D) (h' : RowD w a' D') :
    Calls Tryd.prog 34 #[.slice a D.length c, .slice a' D'.length c', .func (.func 35) #[] #[]] w fun e w' => Tells e (D.map ChR.pl = D'.map ChR.pl) ∧ Below w.heap.size w w' := by
  have KS : Hid (∀ (x y : ChR) W, x.ok W → y.ok W → Calls Tryd.prog 35 #[.agg x.v, .agg y.v] W fun e w' => Tells e (x.pl = y.pl) ∧ Below W.heap.size W w') := fun x y W hx hy => same_chR x y W hx hy
  have hcf : ∀ args w, (callFunc 35 args).run Tryd.prog w = .ok (.enter 35 args) w := Tryd.call35
  by_cases hl : D.length = D'.length
  · have HR : Hid (RowD w a D) := h
    have HR' : Hid (RowD w a' D') := h'
    have HL : Hid (D.length = D'.length) := hl
    rw [← hl]
    obtain ⟨N, hN⟩ : ∃ N, D.length = N := ⟨_, rfl⟩
    have HN : Hid (D.length = N) := hN
    rw [hN] at hd ⊢
    obtain ⟨Z, hZ⟩ : ∃ Z, (D.map ChR.pl = D'.map ChR.pl) = Z := ⟨_, rfl⟩
    have HZ : Hid ((D.map ChR.pl = D'.map ChR.pl) = Z) := hZ
    rw [hZ]
    clear hN hl h h' hZ
    go_enter Tryd.func34, Tryd.ntmps34
    go_wp2_with fail
    go_loopw [17] (fun i wr => ∃ (k : Nat), k ≤ N ∧ i = .int .i64 k ∧ Below w.heap.size w wr ∧ Hid ((D.take k).map ChR.pl = (D'.take k).map ChR.pl)) (fun i _ => N - (intOf i).toNat)
    case atStart => exact ⟨0, Nat.zero_le _, rfl, Below.refl _ _, by rw [List.take_zero, List.take_zero]; exact Eq.refl _⟩
    case round =>
      obtain ⟨k, hk, rfl, qb, qe⟩ := hrel
      by_cases hlt : k < N
      · have ik : (k : Int) < (N : Int) := by omega
        have k0 : (0 : Int) ≤ (k : Int) := by omega
        obtain ⟨x, hx⟩ : ∃ s, D[k]? = some s := ⟨_, List.getElem?_eq_getElem (by rw [HN.out]; exact hlt)⟩
        obtain ⟨y, hy⟩ : ∃ t, D'[k]? = some t := ⟨_, List.getElem?_eq_getElem (by rw [← HL.out, HN.out]; exact hlt)⟩
        have HXY : Hid (D[k]? = some x ∧ D'[k]? = some y) := ⟨hx, hy⟩
        obtain ⟨b, off, ha, cx⟩ := (HR.out.low qb).cells k x hx
        obtain ⟨b', off', ha', cy⟩ := (HR'.out.low qb).cells k y hy
        have okx := (HR.out.low qb).each x (List.mem_of_getElem? hx)
        have oky := (HR'.out.low qb).each y (List.mem_of_getElem? hy)
        have hst : Hid (((D.take (k + 1)).map ChR.pl = (D'.take (k + 1)).map ChR.pl) ↔ x.pl = y.pl) := map_take_iff ChR.pl hx hy qe.out
        have hw2 : IntKind.i64.wrap ((k : Int) + 1) = ((k + 1 : Nat) : Int) := by simp [IntKind.wrap, IntKind.bits, IntKind.signed]; omega
        have hvx : x.v = #[.slice x.a1 x.L.length x.c1, .slice x.a2 x.K.length x.c2, .slice x.a3 x.S.length x.c3] := rfl
        have hvy : y.v = #[.slice y.a1 y.L.length y.c1, .slice y.a2 y.K.length y.c2, .slice y.a3 y.S.length y.c3] := rfl
        have hs1 : (Tryd.prog.info? 63).map (·.size) = some 3 := by kernel_rfl
        obtain ⟨V2, hV2⟩ : ∃ V2, wr.alloc (.cells x.v 63) = V2 := ⟨_, rfl⟩
        obtain ⟨V3, hV3⟩ : ∃ V3, V2.alloc (.cells y.v 63) = V3 := ⟨_, rfl⟩
        have q2 := bel_nw hV2
        have q3 := bel_al q2 hV3
        have qb3 := bel_tr qb q3
        have at2 := ((blk_nw hV2).al hV3).at_
        have at3 := (blk_nw hV3).at_
        have KD : Hid _ := KS.out x y V3 (okx.low q3) (oky.low q3)
        have cy2 := cy.below q2
        rw [hvx] at cx at2 hV2 KD
        rw [hvy] at cy2 at3 hV3 KD
        subst ha
        subst ha'
        clear hx hy okx oky hvx hvy qe cy q2 q3
        go_wp2_with (first
          | (refine wpList_load_at rfl _ _ rfl b (off + k * 3) (by rfl) _ cx Tryd.underlying63 hs1 ?_)
          | (refine wpList_load_at rfl _ _ rfl b' (off' + k * 3) (by rfl) _ cy2 Tryd.underlying63 hs1 ?_)
          | (refine wpList_load_at rfl _ _ rfl wr.heap.size 0 (by rfl) _ at2 Tryd.underlying63 hs1 ?_)
          | (refine wpList_load_at rfl _ _ rfl V2.heap.size 0 (by rfl) _ at3 Tryd.underlying63 hs1 ?_))
        refine Calls.mono KD.out ?_
        rintro e W2 ⟨⟨r, rfl, hr⟩, bb⟩
        have HRR : Hid (r = true ↔ x.pl = y.pl) := hr
        have b2 := bel_tr qb3 bb
        clear cx cy2 at2 at3 bb KD hr
        cases r
        · have HF : Hid (¬ Z) := by rw [← HZ.out]; exact map_ne_at ChR.pl HXY.out.1 HXY.out.2 (fun e => by have := HRR.out.2 e; cases this)
          go_wp2
          go_ret
          exact ⟨Tells.no HF.out, b2⟩
        · have qe' : Hid ((D.take (k + 1)).map ChR.pl = (D'.take (k + 1)).map ChR.pl) := hst.out.2 (HRR.out.1 rfl)
          go_wp2
          exact ⟨⟨k + 1, by omega, by first | rfl | (congr 1), b2, qe'⟩, by simp only [intOf]; omega⟩
      · have ik : ¬ (k : Int) < (N : Int) := by omega
        have HT : Hid Z := by
          have h1 := qe.out
          rw [List.take_of_length_le (by rw [HN.out]; omega), List.take_of_length_le (by rw [← HL.out, HN.out]; omega)] at h1
          rw [← HZ.out]
          exact h1
        go_wp2
        go_ret
        exact ⟨Tells.yes HT.out, qb⟩
  · have hl' : ((D.length : Int) != (D'.length : Int)) = true := by simp; omega
    have HF : Hid (¬ D.map ChR.pl = D'.map ChR.pl) := map_len_ne ChR.pl hl
    generalize D.length = N at *
    generalize D'.length = N' at *
    clear h h' KS hl
    go_enter Tryd.func34, Tryd.ntmps34
    go_wp2
    go_ret
    exact ⟨Tells.no HF.out, Below.refl _ _⟩
set_option maxRecDepth 100000 in
set_option maxHeartbeats 8000000 in
theorem equalX_any (a a' : Option Addr) (c c' : Nat) (D D' : List CrR) (w : World) (hd : D.length ≤ 17592186044416) (h : RowX w a D) (h' : RowX w a' D') :
    Calls Tryd.prog 36 #[.slice a D.length c, .slice a' D'.length c', .func (.func 37) #[] #[]] w fun e w' => Tells e (D.map CrR.pl = D'.map CrR.pl) ∧ Below w.heap.size w w' := by
  have KS : Hid (∀ (x y : CrR) W, x.ok W → y.ok W → Calls Tryd.prog 37 #[.agg x.v, .agg y.v] W fun e w' => Tells e (x.pl = y.pl) ∧ Below W.heap.size W w') := fun x y W hx hy => same_crR x y W hx hy
  have hcf : ∀ args w, (callFunc 37 args).run Tryd.prog w = .ok (.enter 37 args) w := Tryd.call37
  by_cases hl : D.length = D'.length
  · have HR : Hid (RowX w a D) := h
    have HR' : Hid (RowX w a' D') := h'
    have HL : Hid (D.length = D'.length) := hl
    rw [← hl]
    obtain ⟨N, hN⟩ : ∃ N, D.length = N := ⟨_, rfl⟩
    have HN : Hid (D.length = N) := hN
    rw [hN] at hd ⊢
    obtain ⟨Z, hZ⟩ : ∃ Z, (D.map CrR.pl = D'.map CrR.pl) = Z := ⟨_, rfl⟩
    have HZ : Hid ((D.map CrR.pl = D'.map CrR.pl) = Z) := hZ
    rw [hZ]
    clear hN hl h h' hZ
    go_enter Tryd.func36, Tryd.ntmps36
    go_wp2_with fail
    go_loopw [17] (fun i wr => ∃ (k : Nat), k ≤ N ∧ i = .int .i64 k ∧ Below w.heap.size w wr ∧ Hid ((D.take k).map CrR.pl = (D'.take k).map CrR.pl)) (fun i _ => N - (intOf i).toNat)
    case atStart => exact ⟨0, Nat.zero_le _, rfl, Below.refl _ _, by rw [List.take_zero, List.take_zero]; exact Eq.refl _⟩
    case round =>
      obtain ⟨k, hk, rfl, qb, qe⟩ := hrel
      by_cases hlt : k < N
      · have ik : (k : Int) < (N : Int) := by omega
        have k0 : (0 : Int) ≤ (k : Int) := by omega
        obtain ⟨x, hx⟩ : ∃ s, D[k]? = some s := ⟨_, List.getElem?_eq_getElem (by rw [HN.out]; exact hlt)⟩
        obtain ⟨y, hy⟩ : ∃ t, D'[k]? = some t := ⟨_, List.getElem?_eq_getElem (by rw [← HL.out, HN.out]; exact hlt)⟩
        have HXY : Hid (D[k]? = some x ∧ D'[k]? = some y) := ⟨hx, hy⟩
        obtain ⟨b, off, ha, cx⟩ := (HR.out.low qb).cells k x hx
        obtain ⟨b', off', ha', cy⟩ := (HR'.out.low qb).cells k y hy
        have okx := (HR.out.low qb).each x (List.mem_of_getElem? hx)
        have oky := (HR'.out.low qb).each y (List.mem_of_getElem? hy)
        have hst : Hid (((D.take (k + 1)).map CrR.pl = (D'.take (k + 1)).map CrR.pl) ↔ x.pl = y.pl) := map_take_iff CrR.pl hx hy qe.out
        have hw2 : IntKind.i64.wrap ((k : Int) + 1) = ((k + 1 : Nat) : Int) := by simp [IntKind.wrap, IntKind.bits, IntKind.signed]; omega
        have hvx : x.v = #[.int .i64 x.wd, .slice x.a2 x.K.length x.c2, .slice x.a3 x.S.length x.c3] := rfl
        have hvy : y.v = #[.int .i64 y.wd, .slice y.a2 y.K.length y.c2, .slice y.a3 y.S.length y.c3] := rfl
        have hs1 : (Tryd.prog.info? 47).map (·.size) = some 3 := by kernel_rfl
        obtain ⟨V2, hV2⟩ : ∃ V2, wr.alloc (.cells x.v 47) = V2 := ⟨_, rfl⟩
        obtain ⟨V3, hV3⟩ : ∃ V3, V2.alloc (.cells y.v 47) = V3 := ⟨_, rfl⟩
        have q2 := bel_nw hV2
        have q3 := bel_al q2 hV3
        have qb3 := bel_tr qb q3
        have at2 := ((blk_nw hV2).al hV3).at_
        have at3 := (blk_nw hV3).at_
        have KD : Hid _ := KS.out x y V3 (okx.low q3) (oky.low q3)
        have cy2 := cy.below q2
        rw [hvx] at cx at2 hV2 KD
        rw [hvy] at cy2 at3 hV3 KD
        subst ha
        subst ha'
        clear hx hy okx oky hvx hvy qe cy q2 q3
        go_wp2_with (first
          | (refine wpList_load_at rfl _ _ rfl b (off + k * 3) (by rfl) _ cx Tryd.underlying47 hs1 ?_)
          | (refine wpList_load_at rfl _ _ rfl b' (off' + k * 3) (by rfl) _ cy2 Tryd.underlying47 hs1 ?_)
          | (refine wpList_load_at rfl _ _ rfl wr.heap.size 0 (by rfl) _ at2 Tryd.underlying47 hs1 ?_)
          | (refine wpList_load_at rfl _ _ rfl V2.heap.size 0 (by rfl) _ at3 Tryd.underlying47 hs1 ?_))
        refine Calls.mono KD.out ?_
        rintro e W2 ⟨⟨r, rfl, hr⟩, bb⟩
        have HRR : Hid (r = true ↔ x.pl = y.pl) := hr
        have b2 := bel_tr qb3 bb
        clear cx cy2 at2 at3 bb KD hr
        cases r
        · have HF : Hid (¬ Z) := by rw [← HZ.out]; exact map_ne_at CrR.pl HXY.out.1 HXY.out.2 (fun e => by have := HRR.out.2 e; cases this)
          go_wp2
          go_ret
          exact ⟨Tells.no HF.out, b2⟩
        · have qe' : Hid ((D.take (k + 1)).map CrR.pl = (D'.take (k + 1)).map CrR.pl) := hst.out.2 (HRR.out.1 rfl)
          go_wp2
          exact ⟨⟨k + 1, by omega, by first | rfl | (congr 1), b2, qe'⟩, by simp only [intOf]; omega⟩
      · have ik : ¬ (k : Int) < (N : Int) := by omega
        have HT : Hid Z := by
          have h1 := qe.out
          rw [List.take_of_length_le (by rw [HN.out]; omega), List.take_of_length_le (by rw [← HL.out, HN.out]; omega)] at h1
          rw [← HZ.out]
          exact h1
        go_wp2
        go_ret
        exact ⟨Tells.yes HT.out, qb⟩
  · have hl' : ((D.length : Int) != (D'.length : Int)) = true := by simp; omega
    have HF : Hid (¬ D.map CrR.pl = D'.map CrR.pl) := map_len_ne CrR.pl hl
    generalize D.length = N at *
    generalize D'.length = N' at *
    clear h h' KS hl
    go_enter Tryd.func36, Tryd.ntmps36
    go_wp2
    go_ret
    exact ⟨Tells.no HF.out, Below.refl _ _⟩
set_option maxRecDepth 100000 in
set_option maxHeartbeats 8000000 in
theorem same_tr (t u : TR) (w : World) (ht : t.ok w) (hu : u.ok w) : Calls Tryd.prog 15 #[.agg t.v, .agg u.v] w fun e w' => Tells e (SameT t.D u.D t.X u.X t.F u.F) ∧ Below w.heap.size w w' := by
  obtain ⟨da, dc, D, xa, xc, X, fa, fc, F⟩ := t
  obtain ⟨da', dc', D', xa', xc', X', fa', fc', F'⟩ := u
  have hdn := ht.dn
  have hxn := ht.xn
  simp only at hdn hxn ⊢
  show Calls _ _ #[.agg #[.slice da D.length dc, .slice xa X.length xc, .slice fa F.length fc], .agg #[.slice da' D'.length dc', .slice xa' X'.length xc', .slice fa' F'.length fc']] _ _
  have KD : Hid (∀ W, Below w.heap.size w W → Calls Tryd.prog 34 #[.slice da D.length dc, .slice da' D'.length dc', .func (.func 35) #[] #[]] W fun e w' => Tells e (D.map ChR.pl = D'.map ChR.pl) ∧ Below W.heap.size W w') := fun W hb => equalD_any da da' dc dc' D D' W hdn (ht.d.low hb) (hu.d.low hb)
  have KX : Hid (∀ W, Below w.heap.size w W → Calls Tryd.prog 36 #[.slice xa X.length xc, .slice xa' X'.length xc', .func (.func 37) #[] #[]] W fun e w' => Tells e (X.map CrR.pl = X'.map CrR.pl) ∧ Below W.heap.size W w') := fun W hb => equalX_any xa xa' xc xc' X X' W hxn (ht.x.low hb) (hu.x.low hb)
  have KF : Hid (∀ W, Below w.heap.size w W → Calls Tryd.prog 38 #[.slice fa F.length fc, .slice fa' F'.length fc'] W fun e w' => e = .returned (.bool (decide (F = F'))) ∧ Below W.heap.size W w') := fun W hb => equalI_any fa fa' fc fc' F F' W (ht.f.below hb) (hu.f.below hb)
  clear ht hu
  generalize D.length = N at *
  generalize D'.length = N' at *
  generalize X.length = M at *
  generalize X'.length = M' at *
  generalize F.length = P at *
  generalize F'.length = P' at *
  obtain ⟨Z, hZ⟩ : ∃ Z, SameT D D' X X' F F' = Z := ⟨_, rfl⟩
  have HZ : Hid (SameT D D' X X' F F' = Z) := hZ
  rw [hZ]
  obtain ⟨W1, hW1⟩ : ∃ W1, w.alloc (.cells #[.slice da N dc, .slice xa M xc, .slice fa P fc] 27) = W1 := ⟨_, rfl⟩
  obtain ⟨W2, hW2⟩ : ∃ W2, W1.alloc (.cells #[.slice da' N' dc', .slice xa' M' xc', .slice fa' P' fc'] 27) = W2 := ⟨_, rfl⟩
  have q2 := bel_al (bel_nw hW1) hW2
  have HB1 : Hid (Blk W2 w.heap.size 27 #[.slice da N dc, .slice xa M xc, .slice fa P fc]) := (blk_nw hW1).al hW2
  have HB2 : Hid (Blk W2 W1.heap.size 27 #[.slice da' N' dc', .slice xa' M' xc', .slice fa' P' fc']) := blk_nw hW2
  have x0 := HB1.out.cell 0 _ rfl
  have y0 := HB2.out.cell 0 _ rfl
  have K1 : Hid _ := KD.out W2 q2
  clear hZ hdn hxn KD
  go_enter Tryd.func15, Tryd.ntmps15
  go_wp2_with fail
  refine Calls.mono K1.out ?_
  rintro e W3 ⟨⟨r, rfl, hr⟩, bb⟩
  have HR : Hid (r = true ↔ D.map ChR.pl = D'.map ChR.pl) := hr
  have q3 := bel_tr q2 bb
  have HB3 : Hid (Blk W3 w.heap.size 27 #[.slice da N dc, .slice xa M xc, .slice fa P fc]) := HB1.out.kept bb
  have HB4 : Hid (Blk W3 W1.heap.size 27 #[.slice da' N' dc', .slice xa' M' xc', .slice fa' P' fc']) := HB2.out.kept bb
  clear x0 y0 K1 hW1 hW2 q2 HB1 HB2 bb hr
  cases r
  · have HF : Hid (¬ Z) := by rw [← HZ.out]; exact fun h => by have := HR.out.2 h.1; cases this
    go_wp2
    go_ret
    exact ⟨Tells.no HF.out, q3⟩
  · have HDE : Hid (D.map ChR.pl = D'.map ChR.pl) := HR.out.1 rfl
    have K2 : Hid _ := KX.out W3 q3
    have x1 := HB3.out.cell 1 _ rfl
    have y1 := HB4.out.cell 1 _ rfl
    go_wp2_with fail
    refine Calls.mono K2.out ?_
    rintro e W4 ⟨⟨r, rfl, hr⟩, bb⟩
    have HR2 : Hid (r = true ↔ X.map CrR.pl = X'.map CrR.pl) := hr
    have q4 := bel_tr q3 bb
    have HB5 : Hid (Blk W4 w.heap.size 27 #[.slice da N dc, .slice xa M xc, .slice fa P fc]) := HB3.out.kept bb
    have HB6 : Hid (Blk W4 W1.heap.size 27 #[.slice da' N' dc', .slice xa' M' xc', .slice fa' P' fc']) := HB4.out.kept bb
    clear x1 y1 K2 KX q3 HB3 HB4 bb hr
    cases r
    · have HF : Hid (¬ Z) := by rw [← HZ.out]; exact fun h => by have := HR2.out.2 h.2.1; cases this
      go_wp2
      go_ret
      exact ⟨Tells.no HF.out, q4⟩
    · have HXE : Hid (X.map CrR.pl = X'.map CrR.pl) := HR2.out.1 rfl
      have K3 : Hid _ := KF.out W4 q4
      have x2 := HB5.out.cell 2 _ rfl
      have y2 := HB6.out.cell 2 _ rfl
      go_wp2_with fail
      refine Calls.mono K3.out ?_
      rintro e W5 ⟨rfl, bb⟩
      have q5 := bel_tr q4 bb
      clear x2 y2 K3 KF bb HB5 HB6
      obtain ⟨T, hT⟩ : ∃ T, decide (F = F') = T := ⟨_, rfl⟩
      have HT : Hid (decide (F = F') = T) := hT
      rw [hT]
      clear hT
      cases T
      · have HF : Hid (¬ Z) := by rw [← HZ.out]; exact fun h => by have := HT.out; rw [decide_eq_false_iff_not] at this; exact this h.2.2
        go_wp2
        go_ret
        exact ⟨Tells.no HF.out, q5⟩
      · have HZ1 : Hid Z := by rw [← HZ.out]; exact ⟨HDE.out, HXE.out, (decide_eq_true_iff.1 HT.out : F = F')⟩
        go_wp2
        go_ret
        exact ⟨Tells.yes HZ1.out, q5⟩
theorem rsame_tr2 (t u : TR) (w : World) (ht : t.ok w) (hu : u.ok w) : Calls Tryd.prog 11 #[.agg t.v, .agg u.v] w fun e w' => Tells e (SameT t.D u.D t.X u.X t.F u.F) ∧ Below w.heap.size w w' :=
  rsame_any t.da t.xa t.fa u.da u.xa u.fa t.dc t.xc t.fc u.dc u.xc u.fc t.D u.D t.X u.X t.F u.F w ht.dn ht.xn ht.d ht.x ht.f hu.d hu.x hu.f
end Go.Proofs.YtcoldgpnkdallaaDoor
