/- For every input the law RfcOwn returns true and leaves its arguments as they were; the variables that its row lists hold what they are listed with (the card ties them to the program's text). -/
import Derived.Test.YtcoldgpnkdallaaDoorRxa0
import Derived.Test.YtcoldgpnkdallaaDoorRxa1
import Derived.Test.YtcoldgpnkdallaaDoorRxa2
import Derived.Test.YtcoldgpnkdallaaDoorRxa3
import Derived.Test.YtcoldgpnkdallaaDoorRxa4
import Derived.Test.YtcoldgpnkdallaaDoorRxa5
import Derived.Test.YtcoldgpnkdallaaDoorRxa6
import Derived.Test.YtcoldgpnkdallaaDoorRxa7
import Derived.Test.YtcoldgpnkdallaaDoorRxa8
import Derived.Test.YtcoldgpnkdallaaDoorRxa9
import Derived.Test.YtcoldgpnkdallaaDoorRxa10
import Derived.Test.YtcoldgpnkdallaaDoorRxa11
import Derived.Test.YtcoldgpnkdallaaDoorRxa12
import Derived.Test.YtcoldgpnkdallaaDoorRxa13
import Derived.Test.YtcoldgpnkdallaaDoorRxa14
import Derived.Test.YtcoldgpnkdallaaDoorRxa15
import Derived.Test.YtcoldgpnkdallaaDoorRxa16
import Derived.Test.YtcoldgpnkdallaaDoorRxa17
import Derived.Test.YtcoldgpnkdallaaDoorRxa18
import Derived.Test.YtcoldgpnkdallaaDoorRxa19
import Derived.Test.YtcoldgpnkdallaaDoorRxa20
import Derived.Test.YtcoldgpnkdallaaDoorRxa21
import Derived.Test.YtcoldgpnkdallaaDoorRxa22
import Derived.Test.YtcoldgpnkdallaaDoorRxa23
import Derived.Test.YtcoldgpnkdallaaDoorRxa24
import Derived.Test.YtcoldgpnkdallaaDoorRxa25
import Derived.Test.YtcoldgpnkdallaaDoorRxa26
import Derived.Test.YtcoldgpnkdallaaDoorRxa27
import Derived.Test.YtcoldgpnkdallaaDoorRxa28
import Derived.Test.YtcoldgpnkdallaaDoorRxa29
import Derived.Test.YtcoldgpnkdallaaDoorRxa30
import Derived.Test.YtcoldgpnkdallaaDoorRxa31
import Derived.Test.YtcoldgpnkdallaaDoorRxa32
import Derived.Test.YtcoldgpnkdallaaDoorRxa33
import Derived.Test.YtcoldgpnkdallaaDoorRxa34
import Derived.Test.YtcoldgpnkdallaaDoorRxa35
import Derived.Test.YtcoldgpnkdallaaDoorRxa36
import Derived.Test.YtcoldgpnkdallaaDoorRxa37
import Derived.Test.YtcoldgpnkdallaaDoorRxa39
import Derived.Test.YtcoldgpnkdallaaDoorRxa41
import Derived.Test.YtcoldgpnkdallaaDoorRxc3
import Derived.Test.YtcoldgpnkdallaaDoorRxc11
import Derived.Test.YtcoldgpnkdallaaDoorCards
import Derived.Test.YtcoldgpnkdallaaDoorTie
import Derived.WalkKit
import Derived.ProofKit
import Derived.OpenShut
import Derived.ChangeOld
import Derived.Below
import Derived.Carry
import Derived.SizedLaws
import Derived.Deep.DeepHandedRow
import Derived.SevenTiedAt
import Derived.Lib.SmallJoins
import Derived.Deep.Slices
import Derived.Deep.Strs
import Derived.ChangeSame
import Derived.Deep.QuietTactic
import Derived.BigQuiet
import Derived.BigRegion
import Derived.Deep.RegionWith
import Derived.Deep.RegionHeld3
import Derived.Stop.LaidErr
import Derived.Test.YtcoldgpnkdallaaDoorRows
import Derived.Lib.LaidTab
import Derived.Laws.BitsAllLaws
import Derived.Laws.BitsLemmas
import Derived.Laws.Bits128
import Derived.Laws.Shifts
import Derived.Laws.ShiftsVarLaws
import Derived.Laws.StructEq
import Derived.Deep.DeepCutAuto
import Derived.Deep.Draws
import Derived.Laws.World
import Derived.Sort.Grow
import Derived.Laws.OwnMore
import Derived.Laws.BytesArg
import Derived.Laws.MakeOwn
import Derived.Laws.AppendOwn
import Derived.Laws.AppendOwnNone
import Derived.OwnWalk
import Derived.KernelRfl
import Derived.RegionTactic
namespace Go.Proofs.YtcoldgpnkdallaaDoor
open Go.RowKit
set_option linter.unusedVariables false
set_option linter.unusedSimpArgs false
/-- A row of one's own, whatever it holds. -/
def Wk (w : World) (B : Nat) (t : TypeId) (a : Option Addr) (n c : Nat) : Prop := ∃ xs, w.ownsRow B t 1 (.slice a n c) n xs
theorem Wk.put {w : World} {B : Nat} {t : TypeId} {a : Option Addr} {n c : Nat} (h : Wk w B t a n c) {g : Nat} {t0 : TypeId} {cs : Array Value} (hb : Blk w g t0 cs) (i : Nat) (v : Value) : Wk (w.setCell ⟨g, i, none⟩ v) B t a n c := by
  obtain ⟨xs, h⟩ := h
  rw [setCell_eq_setRow w g i cs t0 (0, 0) v hb]
  exact ownsRow_set h hb _ (by simp)
theorem Wk.below {w w' : World} {B : Nat} {t : TypeId} {a : Option Addr} {n c : Nat} (h : Wk w B t a n c) (hb : Below w.heap.size w w') : Wk w' B t a n c := by
  obtain ⟨xs, h⟩ := h
  exact ⟨xs, ownsRow_low h hb⟩
theorem Wk.at_ {w : World} {B : Nat} {t : TypeId} {a : Option Addr} {n c : Nat} (h : Wk w B t a n c) {i : Nat} (hi : i < n) : ∃ g cur v, a = some ⟨g, 0, none⟩ ∧ B ≤ g ∧ Blk w g t cur ∧ w.cell? ⟨g, i, none⟩ = some v := by
  obtain ⟨xs, h⟩ := h
  obtain ⟨g, cur, v, e1, e2, e3, _, e5, _⟩ := own_at h hi
  exact ⟨g, cur, v, e1, e2, e3, e5⟩
structure CrW (w : World) (B : Nat) (x : CrM) : Prop where
  k : Wk w B 3 x.ka x.K.length x.kc
  row : w.ownsRow B 25 1 (.slice x.sa x.S.length x.sc) x.S.length x.vs
  each : ∀ (i : Nat) (s : List Nat), x.S[i]? = some s → ∃ ai ci, x.vs[i]? = some (Value.slice ai s.length ci) ∧ Wk w B 3 ai s.length ci
structure TabW (w : World) (B : Nat) (xa : Option Addr) (xc : Nat) (X : List CrM) (fa : Option Addr) (fn fc : Nat) : Prop where
  row : w.ownsRow B 47 3 (.slice xa X.length xc) X.length (fl CrM.v X)
  each : ∀ x ∈ X, CrW w B x
  f : Wk w B 3 fa fn fc
theorem TabW.put {w : World} {B : Nat} {xa : Option Addr} {xc : Nat} {X : List CrM} {fa : Option Addr} {fn fc : Nat} (h : TabW w B xa xc X fa fn fc) {g : Nat} {cs : Array Value} (hb : Blk w g 3 cs) (i : Nat) (v : Value) : TabW (w.setCell ⟨g, i, none⟩ v) B xa xc X fa fn fc := by
  have hT : Tc (· == 3) w (w.setCell ⟨g, i, none⟩ v) := Tc.put hb (by rfl) _ _
  exact ⟨ownsRow_tc h.row hT (by rfl), fun x hx => ⟨(h.each x hx).k.put hb i v, ownsRow_tc (h.each x hx).row hT (by rfl), fun j s hs => by
    obtain ⟨ai, ci, e1, e2⟩ := (h.each x hx).each j s hs
    exact ⟨ai, ci, e1, e2.put hb i v⟩⟩, h.f.put hb i v⟩
theorem TabW.below {w w' : World} {B : Nat} {xa : Option Addr} {xc : Nat} {X : List CrM} {fa : Option Addr} {fn fc : Nat} (h : TabW w B xa xc X fa fn fc) (hb : Below w.heap.size w w') : TabW w' B xa xc X fa fn fc :=
  ⟨ownsRow_low h.row hb, fun x hx => ⟨(h.each x hx).k.below hb, ownsRow_low (h.each x hx).row hb, fun j s hs => by
    obtain ⟨ai, ci, e1, e2⟩ := (h.each x hx).each j s hs
    exact ⟨ai, ci, e1, e2.below hb⟩⟩, h.f.below hb⟩
/-- What Compile answers, to be written over. -/
def CompHad (E : Int) (B : Nat) (e : Ending) (w : World) : Prop := ∃ da dn dc xa xn xc X fa fn fc, e = .returned (.tuple #[.agg #[.slice da dn dc, .slice xa xn xc, .slice fa fn fc], .int .i64 E]) ∧ TabW w B xa xc X fa fn fc ∧ X.length = xn ∧ xn ≤ 6 ∧ fn ≤ 10000 ∧ ∀ x ∈ X, x.K.length ≤ 10000 ∧ x.S.length ≤ 10000 ∧ ∀ s ∈ x.S, s.length ≤ 1000
theorem comp_had {l : List Rl} {budget : Int} {B : Nat} {e : Ending} {w : World} (h : CompGot l (errT l (errC l 0) budget) B e w) : CompHad (errT l (errC l 0) budget) B e w := by
  rcases h with ⟨h0, rfl⟩ | ⟨h0, da, dc, D, xa, xc, X, fa, fc, F, rfl, hD, hX, hF, hT⟩
  · exact ⟨none, 0, 0, none, 0, 0, [], none, 0, 0, rfl, ⟨World.ownsRow_nil _ _ _ _, fun x hx => (by cases hx), ⟨[], World.ownsRow_nil _ _ _ _⟩⟩, rfl, by omega, by omega, fun x hx => (by cases hx)⟩
  · obtain ⟨_, hl, _, _, hc⟩ := errT_ok h0
    obtain ⟨_, s2, s3⟩ := tab_small hl hc hT
    refine ⟨da, 7, dc, xa, 6, xc, X, fa, F.length, fc, by rw [h0], ⟨hX.row, fun x hx => ⟨⟨_, (hX.each x hx).i⟩, (hX.each x hx).s.row, fun i s hs => ?_⟩, ⟨_, hF⟩⟩, hT.x6, by omega, s3, s2⟩
    obtain ⟨ai, ci, e1, e2⟩ := (hX.each x hx).s.each i s hs
    exact ⟨ai, ci, e1, ⟨_, e2⟩⟩
set_option maxRecDepth 100000 in
set_option maxHeartbeats 16000000 in
theorem rfcOwn_walk (a : Option Addr) (c : Nat) (l : List Rl) (w : World) (lc : l.length ≤ c) (cm : c * 136 ≤ 140737488351232 ∧ (a = none → c = 0)) (hrow : RowR w a l) (hT : Top w) (hDb : Deb w) (hSd : Sds w) : Calls Tryd.prog 8 #[.slice a l.length c] w fun e w' => e = .returned (.bool true) ∧ Below w.heap.size w w' := by
  have KA : Hid (∀ W, Below w.heap.size w W → Calls Tryd.prog 12 #[] W fun e w' => e = .returned (.bool true) ∧ Below W.heap.size W w') := fun W hb => alive_rf W (hT.below hb) (hDb.below hb) (hSd.below hb)
  have HRow : Hid (RowR w a l) := hrow
  have hsr : Hid (∀ r : Rl, (Tryd.prog.info? 53).map (·.size) = some r.v.size) := info_rl
  have HNE : Hid (∀ (r : Rl) W, (binOp .neq 53 (.agg r.v) (.agg r.v)).run Tryd.prog W = .ok (.bool false) W) := rule_neq
  obtain ⟨a', c', X1, hr1, O1, b1⟩ := run_appRs w 22 w.heap.size none 0 [] (OwnR.nil _ _) a c l hrow cm.2 (by simp only [List.length_nil]; omega) (Nat.le_refl _)
  rw [List.nil_append, List.length_nil] at hr1
  rw [List.nil_append] at O1
  have HWas : Hid (RowR X1 a' l) := O1.row (fun r hr => hrow.each r hr)
  have K1 : Hid (Calls Tryd.prog 9 #[.slice a l.length c, .int .i64 2000] X1 fun e w' => CompHad (errT l (errC l 0) 2000) X1.heap.size e w' ∧ Below X1.heap.size X1 w') := (compile_any a c l 2000 X1 (hT.below b1) (hDb.below b1) (hSd.below b1) (hrow.low b1)).mono (by
    rintro e w' ⟨h, hb⟩
    exact ⟨comp_had h, hb⟩)
  have K2 : Hid (∀ W, Below X1.heap.size X1 W → Calls Tryd.prog 9 #[.slice a l.length c, .int .i64 2000] W fun e w' => ∃ t : TR, e = .returned (.tuple #[.agg t.v, .int .i64 (errT l (errC l 0) 2000)]) ∧ t.ok w' ∧ TabC l (errT l (errC l 0) 2000) t ∧ Below W.heap.size W w') := fun W hb => compile_tr a c l 2000 W (hT.below (bel_tr b1 hb)) (hDb.below (bel_tr b1 hb)) (hSd.below (bel_tr b1 hb)) (hrow.low (bel_tr b1 hb))
  have K3 : Hid (∀ W, Below X1.heap.size X1 W → Calls Tryd.prog 10 #[.slice a' l.length c', .int .i64 2000] W fun e w' => ∃ t : TR, e = .returned (.tuple #[.agg t.v, .int .i64 (errT l (errC l 0) 2000)]) ∧ t.ok w' ∧ TabC l (errT l (errC l 0) 2000) t ∧ Below W.heap.size W w') := fun W hb => rcompile_tr a' c' l 2000 W (HWas.out.low hb)
  have hn44 : l.length ≤ 17592186044416 := by omega
  obtain ⟨N, hN⟩ : ∃ N, l.length = N := ⟨_, rfl⟩
  have HN : Hid (l.length = N) := hN
  obtain ⟨E, hE⟩ : ∃ E, errT l (errC l 0) 2000 = E := ⟨_, rfl⟩
  rw [hN, hE] at K1 K2 K3
  rw [hN] at hr1 hn44 ⊢
  have HR1 : Hid _ := hr1
  have HB1 : Hid (Below w.heap.size w X1) := b1
  clear hN hE hrow hT hDb hSd lc cm O1 hr1 b1
  go_enter Tryd.func8, Tryd.ntmps8
  go_wp2_with (at_builtin; refine wpList_rn rfl 22 _ _ rfl _ _ (by rfl) (by rfl) _ _ HR1.out ?_)
  refine Calls.mono K1.out ?_
  rintro e W2 ⟨⟨da, dn, dc, xa, xn, xc, X, fa, fn, fc, rfl, htw, hxl, hx6, hf4, hsm⟩, b2⟩
  have HXL : Hid (X.length = xn) := hxl
  have HSM : Hid (∀ x ∈ X, x.K.length ≤ 10000 ∧ x.S.length ≤ 10000 ∧ ∀ s ∈ x.S, s.length ≤ 1000) := hsm
  obtain ⟨W3, hW3⟩ : ∃ W3, W2.alloc (.cells #[.slice da dn dc, .slice xa xn xc, .slice fa fn fc] 27) = W3 := ⟨_, rfl⟩
  have q3 := bel_nw hW3
  have b3 := bel_tr b2 q3
  have HB3 : Hid (Blk W3 W2.heap.size 27 #[.slice da dn dc, .slice xa xn xc, .slice fa fn fc]) := blk_nw hW3
  have HT3 : Hid (TabW W3 X1.heap.size xa xc X fa fn fc) := htw.below q3
  have HGB : Hid (X1.heap.size ≤ W2.heap.size) := b2.size
  have c1 := HB3.out.cell 1 _ rfl
  clear htw hxl hsm K1 q3 HR1
  go_wp2_with fail
  clear c1
  go_loopw [26] (fun i wr => ∃ (n : Nat), n ≤ xn ∧ i = .int .i64 n ∧ Hid (Blk wr W2.heap.size 27 #[.slice da dn dc, .slice xa xn xc, .slice fa fn fc]) ∧ Hid (TabW wr X1.heap.size xa xc X fa fn fc) ∧ Below X1.heap.size X1 wr) (fun i _ => xn - (intOf i).toNat)
  case atStart => exact ⟨0, Nat.zero_le _, rfl, HB3, HT3, b3⟩
  case round =>
    clear HB3 HT3 b3
    obtain ⟨n, hn, rfl, HB, HW, bw⟩ := hrel
    by_cases hlt : n < xn
    · have ik : (n : Int) < (xn : Int) := by omega
      have n0 : (0 : Int) ≤ (n : Int) := by omega
      have hw1 : IntKind.i64.wrap ((n : Int) + 1) = ((n + 1 : Nat) : Int) := by simp [IntKind.wrap, IntKind.bits, IntKind.signed]; omega
      obtain ⟨x, hx⟩ : ∃ x, X[n]? = some x := ⟨_, List.getElem?_eq_getElem (by rw [HXL.out]; exact hlt)⟩
      have HXN : Hid (X[n]? = some x) := hx
      have HXM : Hid (x ∈ X) := List.mem_of_getElem? hx
      obtain ⟨hk4, hs4, hs5⟩ := HSM.out x HXM.out
      have HS5 : Hid (∀ s ∈ x.S, s.length ≤ 1000) := hs5
      obtain ⟨kn, hkn⟩ : ∃ kn, x.K.length = kn := ⟨_, rfl⟩
      obtain ⟨sn, hsn⟩ : ∃ sn, x.S.length = sn := ⟨_, rfl⟩
      have HKN : Hid (x.K.length = kn ∧ x.S.length = sn) := ⟨hkn, hsn⟩
      rw [hkn] at hk4
      rw [hsn] at hs4
      have HCEL : Hid (∀ W, TabW W X1.heap.size xa xc X fa fn fc → ∃ gx, xa = some ⟨gx, 0, none⟩ ∧ W.cell? ⟨gx, n * 3 + 1, none⟩ = some (.slice x.ka kn x.kc) ∧ W.cell? ⟨gx, n * 3 + 2, none⟩ = some (.slice x.sa sn x.sc)) := fun W hW => by
        obtain ⟨g, e, hc⟩ := own3_cells (v := CrM.v) (fun _ => rfl) hW.row HXN.out
        have h1 := hc.2 1 (.slice x.ka x.K.length x.kc) rfl
        have h2 := hc.2 2 (.slice x.sa x.S.length x.sc) rfl
        rw [hkn, Nat.zero_add] at h1
        rw [hsn, Nat.zero_add] at h2
        exact ⟨g, e, h1, h2⟩
      clear hx hs5 hkn hsn
      obtain ⟨gx, exa, cc1, cc2⟩ := HCEL.out wr HW.out
      have c1 := HB.out.cell 1 _ rfl
      subst exa
      go_wp2_with fail
      clear c1 cc1 cc2
      go_loopw [36] (fun i wr => ∃ (m : Nat), m ≤ kn ∧ i = .int .i64 m ∧ Hid (Blk wr W2.heap.size 27 #[.slice da dn dc, .slice (some ⟨gx, 0, none⟩) xn xc, .slice fa fn fc]) ∧ Hid (TabW wr X1.heap.size (some ⟨gx, 0, none⟩) xc X fa fn fc) ∧ Below X1.heap.size X1 wr) (fun i _ => kn - (intOf i).toNat)
      case atStart => exact ⟨0, Nat.zero_le _, rfl, HB, HW, bw⟩
      case round =>
        clear HB HW bw
        obtain ⟨m, hm, rfl, HB, HW, bw⟩ := hrel
        obtain ⟨gx', exa, cc1, cc2⟩ := HCEL.out wr HW.out
        cases exa
        have c1 := HB.out.cell 1 _ rfl
        by_cases hml : m < kn
        · have im : (m : Int) < (kn : Int) := by omega
          have m0 : (0 : Int) ≤ (m : Int) := by omega
          have hw2 : IntKind.i64.wrap ((m : Int) + 1) = ((m + 1 : Nat) : Int) := by simp [IntKind.wrap, IntKind.bits, IntKind.signed]; omega
          obtain ⟨g, cur, v, eka, hg, hb, hcv⟩ := (HW.out.each x HXM.out).k.at_ (i := m) (by rw [HKN.out.1]; exact hml)
          have fz := hb.frozen m
          have HW' : Hid (TabW (wr.setCell ⟨g, m, none⟩ (.int .i64 (-9))) X1.heap.size (some ⟨gx, 0, none⟩) xc X fa fn fc) := HW.out.put hb _ _
          have HB' : Hid (Blk (wr.setCell ⟨g, m, none⟩ (.int .i64 (-9))) W2.heap.size 27 #[.slice da dn dc, .slice (some ⟨gx, 0, none⟩) xn xc, .slice fa fn fc]) := HB.out.put_other hb (fun e => by subst e; exact absurd (HB.out.ty hb) (by decide)) _ _
          have bw' : Below X1.heap.size X1 (wr.setCell ⟨g, m, none⟩ (.int .i64 (-9))) := bw.setCell hg _
          rw [eka] at cc1
          clear eka hg hb HW HB bw cc2
          go_wp2
          exact ⟨⟨m + 1, by omega, by first | rfl | (congr 1), HB', HW', bw'⟩, by simp only [intOf]; omega⟩
        · have im : ¬ (m : Int) < (kn : Int) := by omega
          clear cc1
          go_wp2_with fail
          clear cc2 c1
          go_loopw [55] (fun i wr => ∃ (m : Nat), m ≤ sn ∧ i = .int .i64 m ∧ Hid (Blk wr W2.heap.size 27 #[.slice da dn dc, .slice (some ⟨gx, 0, none⟩) xn xc, .slice fa fn fc]) ∧ Hid (TabW wr X1.heap.size (some ⟨gx, 0, none⟩) xc X fa fn fc) ∧ Below X1.heap.size X1 wr) (fun i _ => sn - (intOf i).toNat)
          case atStart => exact ⟨0, Nat.zero_le _, rfl, HB, HW, bw⟩
          case round =>
            clear HB HW bw
            clear im hml hm
            obtain ⟨m, hm, rfl, HB, HW, bw⟩ := hrel
            obtain ⟨gx', exa, cc1, cc2⟩ := HCEL.out wr HW.out
            cases exa
            have c1 := HB.out.cell 1 _ rfl
            by_cases hml : m < sn
            · have im : (m : Int) < (sn : Int) := by omega
              have m0 : (0 : Int) ≤ (m : Int) := by omega
              have hw2 : IntKind.i64.wrap ((m : Int) + 1) = ((m + 1 : Nat) : Int) := by simp [IntKind.wrap, IntKind.bits, IntKind.signed]; omega
              obtain ⟨s, hs⟩ : ∃ s, x.S[m]? = some s := ⟨_, List.getElem?_eq_getElem (by rw [HKN.out.2]; exact hml)⟩
              have HSS : Hid (x.S[m]? = some s) := hs
              have hsl := HS5.out s (List.mem_of_getElem? hs)
              obtain ⟨ln, hln⟩ : ∃ ln, s.length = ln := ⟨_, rfl⟩
              have HLN : Hid (s.length = ln) := hln
              rw [hln] at hsl
              obtain ⟨ai, ci, hvi, _⟩ := (HW.out.each x HXM.out).each m s hs
              rw [hln] at hvi
              have HVI : Hid (x.vs[m]? = some (.slice ai ln ci)) := hvi
              have HCE2 : Hid (∀ W, TabW W X1.heap.size (some ⟨gx, 0, none⟩) xc X fa fn fc → ∃ gs, x.sa = some ⟨gs, 0, none⟩ ∧ W.cell? ⟨gs, m, none⟩ = some (.slice ai ln ci)) := fun W hW => by
                obtain ⟨g, cur, v, e1, _, _, e4, e5, _⟩ := own_at (hW.each x HXM.out).row (i := m) (by rw [HKN.out.2]; exact hml)
                rw [HVI.out] at e4
                cases e4
                exact ⟨g, e1, e5⟩
              obtain ⟨gs, esa, cs1⟩ := HCE2.out wr HW.out
              rw [esa] at cc2
              clear hs hln hvi cc1
              go_wp2_with fail
              clear c1 cc2 cs1
              go_loopw [68] (fun i wr => ∃ (j : Nat), j ≤ ln ∧ i = .int .i64 j ∧ Hid (Blk wr W2.heap.size 27 #[.slice da dn dc, .slice (some ⟨gx, 0, none⟩) xn xc, .slice fa fn fc]) ∧ Hid (TabW wr X1.heap.size (some ⟨gx, 0, none⟩) xc X fa fn fc) ∧ Below X1.heap.size X1 wr) (fun i _ => ln - (intOf i).toNat)
              case atStart => exact ⟨0, Nat.zero_le _, rfl, HB, HW, bw⟩
              case round =>
                clear HB HW bw
                obtain ⟨j, hj, rfl, HB, HW, bw⟩ := hrel
                by_cases hjl : j < ln
                · have ij : (j : Int) < (ln : Int) := by omega
                  have j0 : (0 : Int) ≤ (j : Int) := by omega
                  have hw3 : IntKind.i64.wrap ((j : Int) + 1) = ((j + 1 : Nat) : Int) := by simp [IntKind.wrap, IntKind.bits, IntKind.signed]; omega
                  obtain ⟨gx', exa, cc1, cc2⟩ := HCEL.out wr HW.out
                  cases exa
                  have c1 := HB.out.cell 1 _ rfl
                  obtain ⟨gs', esa', cs1⟩ := HCE2.out wr HW.out
                  rw [esa'] at cc2
                  obtain ⟨ai', ci', hvi', hwk⟩ := (HW.out.each x HXM.out).each m s HSS.out
                  rw [HLN.out, HVI.out] at hvi'
                  cases hvi'
                  obtain ⟨g, cur, v, eai, hg, hb, hcv⟩ := hwk.at_ (i := j) (by rw [HLN.out]; exact hjl)
                  have fz := hb.frozen j
                  have HW' : Hid (TabW (wr.setCell ⟨g, j, none⟩ (.int .i64 (-8))) X1.heap.size (some ⟨gx, 0, none⟩) xc X fa fn fc) := HW.out.put hb _ _
                  have HB' : Hid (Blk (wr.setCell ⟨g, j, none⟩ (.int .i64 (-8))) W2.heap.size 27 #[.slice da dn dc, .slice (some ⟨gx, 0, none⟩) xn xc, .slice fa fn fc]) := HB.out.put_other hb (fun e => by subst e; exact absurd (HB.out.ty hb) (by decide)) _ _
                  have bw' : Below X1.heap.size X1 (wr.setCell ⟨g, j, none⟩ (.int .i64 (-8))) := bw.setCell hg _
                  rw [eai] at cs1
                  clear eai hg hb HW HB bw cc1 hwk esa'
                  go_wp2
                  exact ⟨⟨j + 1, by omega, by first | rfl | (congr 1), HB', HW', bw'⟩, by simp only [intOf]; omega⟩
                · have ij : ¬ (j : Int) < (ln : Int) := by omega
                  go_wp2
                  exact ⟨⟨m + 1, by omega, by first | rfl | (congr 1), HB, HW, bw⟩, by simp only [intOf]; omega⟩
            · have im : ¬ (m : Int) < (sn : Int) := by omega
              clear cc1 cc2 c1
              go_wp2
              exact ⟨⟨n + 1, by omega, by first | rfl | (congr 1), HB, HW, bw⟩, by simp only [intOf]; omega⟩
    · have ik : ¬ (n : Int) < (xn : Int) := by omega
      have c2 := HB.out.cell 2 _ rfl
      clear hlt
      go_wp2_with fail
      clear c2
      go_loopw [88] (fun i wr => ∃ (m : Nat), m ≤ fn ∧ i = .int .i64 m ∧ Hid (Blk wr W2.heap.size 27 #[.slice da dn dc, .slice xa xn xc, .slice fa fn fc]) ∧ Hid (TabW wr X1.heap.size xa xc X fa fn fc) ∧ Below X1.heap.size X1 wr) (fun i _ => fn - (intOf i).toNat)
      case atStart => exact ⟨0, Nat.zero_le _, rfl, HB, HW, bw⟩
      case round =>
        clear HB HW bw ik hn
        obtain ⟨m, hm, rfl, HB, HW, bw⟩ := hrel
        have c2 := HB.out.cell 2 _ rfl
        by_cases hml : m < fn
        · have im : (m : Int) < (fn : Int) := by omega
          have m0 : (0 : Int) ≤ (m : Int) := by omega
          have hw2 : IntKind.i64.wrap ((m : Int) + 1) = ((m + 1 : Nat) : Int) := by simp [IntKind.wrap, IntKind.bits, IntKind.signed]; omega
          obtain ⟨g, cur, v, efa, hg, hb, hcv⟩ := HW.out.f.at_ (i := m) hml
          have fz := hb.frozen m
          have HW' : Hid (TabW (wr.setCell ⟨g, m, none⟩ (.int .i64 (-7))) X1.heap.size xa xc X fa fn fc) := HW.out.put hb _ _
          have HB' : Hid (Blk (wr.setCell ⟨g, m, none⟩ (.int .i64 (-7))) W2.heap.size 27 #[.slice da dn dc, .slice xa xn xc, .slice fa fn fc]) := HB.out.put_other hb (fun e => by subst e; exact absurd (HB.out.ty hb) (by decide)) _ _
          have bw' : Below X1.heap.size X1 (wr.setCell ⟨g, m, none⟩ (.int .i64 (-7))) := bw.setCell hg _
          rw [efa] at c2
          clear efa hg hb HW HB bw
          go_wp2
          exact ⟨⟨m + 1, by omega, by first | rfl | (congr 1), HB', HW', bw'⟩, by simp only [intOf]; omega⟩
        · have im : ¬ (m : Int) < (fn : Int) := by omega
          clear HB HW c2 hml hm
          go_wp2_with fail
          go_loopw [98] (fun i wr => ∃ (m : Nat), m ≤ N ∧ i = .int .i64 m ∧ Below X1.heap.size X1 wr) (fun i _ => N - (intOf i).toNat)
          case atStart => exact ⟨0, Nat.zero_le _, rfl, bw⟩
          case round =>
            clear bw im
            obtain ⟨m, hm, rfl, bw⟩ := hrel
            by_cases hlt : m < N
            · have imk : (m : Int) < (N : Int) := by omega
              have im0 : (0 : Int) ≤ (m : Int) := by omega
              have hw1 : IntKind.i64.wrap ((m : Int) + 1) = ((m + 1 : Nat) : Int) := by simp [IntKind.wrap, IntKind.bits, IntKind.signed]; omega
              obtain ⟨r, hr⟩ : ∃ r, l[m]? = some r := ⟨_, List.getElem?_eq_getElem (by rw [HN.out]; exact hlt)⟩
              obtain ⟨b, off, ha, hc⟩ := (HRow.out.low (bel_tr HB1.out bw)).cells m r hr
              obtain ⟨b', off', ha', hc2⟩ := (HWas.out.low bw).cells m r hr
              have hs1 := hsr.out r
              have HNQ : Hid _ := HNE.out r
              subst ha
              subst ha'
              obtain ⟨RA, hRA⟩ : ∃ RA, r.v = RA := ⟨_, rfl⟩
              rw [hRA] at hs1 hc hc2 HNQ
              have bd := bw.drew
              clear hRA hr
              go_wp2_with fail
              refine wp_region_noPanic ?_
              refine wp_region_held_drew (S := fun w'' => CellsAt w'' b (off + m * 17) RA ∧ CellsAt w'' b' (off' + m * 17) RA) (by kernel_rfl) (by exact ⟨hc.below (below_drew _), hc2.below (below_drew _)⟩) (fun hHeld => ?_)
              refine wpAnyH_take (i := 0) (oi := { dst := some 101, op := Op.move (.tmp 0), type := 22, pos := "law.go:134", after := #[], guard := none }) (v := (.slice (some ⟨b, off, none⟩) N c)) rfl (by kernel_rfl) (by kernel_rfl) (by kernel_rfl) (fun _ _ _ h => h) (Or.inl ⟨by rfl, ?_⟩) hHeld ?_
              · intro w9 hSw
                try dsimp only at hSw
                go_simp
              try simp only [Act.put, List.setIfInBounds_toArray, List.set_cons_zero, List.set_cons_succ]
              refine wpAnyH_take (i := 1) (oi := { dst := some 102, op := Op.move (.tmp 11), type := 3, pos := "law.go:134", after := #[], guard := none }) (v := (.int .i64 (m : Int))) rfl (by kernel_rfl) (by kernel_rfl) (by kernel_rfl) (fun _ _ _ h => h) (Or.inl ⟨by rfl, ?_⟩) hHeld ?_
              · intro w9 hSw
                try dsimp only at hSw
                go_simp
              try simp only [Act.put, List.setIfInBounds_toArray, List.set_cons_zero, List.set_cons_succ]
              refine wpAnyH_take (i := 2) (oi := { dst := some 103, op := Op.indexAddr 22 (.tmp 101) (.tmp 102), type := 0, pos := "law.go:134", after := #[{ on := 0, ground := Ground.data }, { on := 1, ground := Ground.data }], guard := none }) (v := (.pointer (some ⟨b, off + m * 17, none⟩))) rfl (by kernel_rfl) (by kernel_rfl) (by kernel_rfl) (fun _ _ _ h => h) (Or.inl ⟨by rfl, ?_⟩) hHeld ?_
              · intro w9 hSw
                try dsimp only at hSw
                go_simp
              try simp only [Act.put, List.setIfInBounds_toArray, List.set_cons_zero, List.set_cons_succ]
              refine wpAnyH_take (i := 3) (oi := { dst := some 104, op := Op.load 53 (.tmp 103), type := 53, pos := "law.go:134", after := #[{ on := 2, ground := Ground.data }], guard := none }) (v := (.agg RA)) rfl (by kernel_rfl) (by kernel_rfl) (by kernel_rfl) (fun _ _ _ h => h) (yieldsIf_at (by rfl) _ _ rfl b (off + m * 17) (by rfl) _ (fun _ h => h.1) Tryd.underlying53 hs1) hHeld ?_
              try simp only [Act.put, List.setIfInBounds_toArray, List.set_cons_zero, List.set_cons_succ]
              refine wpAnyH_take (i := 4) (oi := { dst := some 105, op := Op.move (.tmp 3), type := 22, pos := "law.go:134", after := #[], guard := none }) (v := (.slice (some ⟨b', off', none⟩) N c')) rfl (by kernel_rfl) (by kernel_rfl) (by kernel_rfl) (fun _ _ _ h => h) (Or.inl ⟨by rfl, ?_⟩) hHeld ?_
              · intro w9 hSw
                try dsimp only at hSw
                go_simp
              try simp only [Act.put, List.setIfInBounds_toArray, List.set_cons_zero, List.set_cons_succ]
              refine wpAnyH_take (i := 5) (oi := { dst := some 106, op := Op.move (.tmp 11), type := 3, pos := "law.go:134", after := #[], guard := none }) (v := (.int .i64 (m : Int))) rfl (by kernel_rfl) (by kernel_rfl) (by kernel_rfl) (fun _ _ _ h => h) (Or.inl ⟨by rfl, ?_⟩) hHeld ?_
              · intro w9 hSw
                try dsimp only at hSw
                go_simp
              try simp only [Act.put, List.setIfInBounds_toArray, List.set_cons_zero, List.set_cons_succ]
              refine wpAnyH_take (i := 6) (oi := { dst := some 107, op := Op.indexAddr 22 (.tmp 105) (.tmp 106), type := 0, pos := "law.go:134", after := #[{ on := 4, ground := Ground.data }, { on := 5, ground := Ground.data }], guard := none }) (v := (.pointer (some ⟨b', off' + m * 17, none⟩))) rfl (by kernel_rfl) (by kernel_rfl) (by kernel_rfl) (fun _ _ _ h => h) (Or.inl ⟨by rfl, ?_⟩) hHeld ?_
              · intro w9 hSw
                try dsimp only at hSw
                go_simp
              try simp only [Act.put, List.setIfInBounds_toArray, List.set_cons_zero, List.set_cons_succ]
              refine wpAnyH_take (i := 7) (oi := { dst := some 108, op := Op.load 53 (.tmp 107), type := 53, pos := "law.go:134", after := #[{ on := 6, ground := Ground.data }], guard := none }) (v := (.agg RA)) rfl (by kernel_rfl) (by kernel_rfl) (by kernel_rfl) (fun _ _ _ h => h) (yieldsIf_at (by rfl) _ _ rfl b' (off' + m * 17) (by rfl) _ (fun _ h => h.2) Tryd.underlying53 hs1) hHeld ?_
              try simp only [Act.put, List.setIfInBounds_toArray, List.set_cons_zero, List.set_cons_succ]
              refine wpAnyH_take (i := 8) (oi := { dst := some 109, op := Op.binOp BinOp.neq 53 (.tmp 104) (.tmp 108) 53, type := 4, pos := "law.go:134", after := #[{ on := 3, ground := Ground.data }, { on := 7, ground := Ground.data }], guard := none }) (v := (.bool false)) rfl (by kernel_rfl) (by kernel_rfl) (by kernel_rfl) (fun _ _ _ h => h) (yieldsIf_neq (by rfl) _ _ _ _ rfl _ _ (by rfl) (by rfl) _ (by kernel_rfl) HNQ.out) hHeld ?_
              try simp only [Act.put, List.setIfInBounds_toArray, List.set_cons_zero, List.set_cons_succ]
              refine wpAnyH_done (by kernel_rfl) ?_ _
              refine NoPanic.normal ?_
              clear hc hc2 hHeld
              go_wp2
              exact ⟨⟨m + 1, by omega, by first | rfl | (congr 1), bd⟩, by simp only [intOf]; omega⟩

            · have imk : ¬ (m : Int) < (N : Int) := by omega
              have K2' : Hid _ := K2.out wr bw
              clear hlt
              go_wp2_with fail
              refine Calls.mono K2'.out ?_
              rintro e Y2 ⟨t, rfl, hok, htc, y2⟩
              have HOK : Hid (t.ok Y2) := hok
              have HTC : Hid (TabC l E t) := htc
              obtain ⟨Y3, hY3⟩ : ∃ Y3, Y2.alloc (.cells t.v 27) = Y3 := ⟨_, rfl⟩
              have y23 := bel_nw hY3
              have bY3 := bel_tr bw (bel_tr y2 y23)
              have HBY3 : Hid (Blk Y3 Y2.heap.size 27 t.v) := blk_nw hY3
              have K3' : Hid _ := K3.out Y3 bY3
              clear hok htc K2' bw y2
              go_wp2_with fail
              refine Calls.mono K3'.out ?_
              rintro e Y4 ⟨u, rfl, hok4, htc4, y34⟩
              obtain ⟨Y5, hY5⟩ : ∃ Y5, Y4.alloc (.cells u.v 27) = Y5 := ⟨_, rfl⟩
              have y45 := bel_nw hY5
              have y35 := bel_tr y34 y45
              have bY5 := bel_tr HB1.out (bel_tr bY3 y35)
              have at3 := (HBY3.out.kept y35).at_
              have at5 := (blk_nw hY5).at_
              have KS : Hid _ := rsame_tr t u Y5 (HOK.out.low (bel_tr y23 y35)) (hok4.low y45) HTC.out htc4
              have hst : (Tryd.prog.info? 27).map (·.size) = some 3 := by kernel_rfl
              clear hok4 htc4 K3'
              go_wp2_with (first
                | (refine wpList_load_at rfl _ _ rfl Y2.heap.size 0 (by rfl) _ at3 Tryd.underlying27 hst ?_)
                | (refine wpList_load_at rfl _ _ rfl Y4.heap.size 0 (by rfl) _ at5 Tryd.underlying27 hst ?_))
              refine Calls.mono KS.out ?_
              rintro e Y6 ⟨rfl, y56⟩
              have bY6 := bel_tr bY5 y56
              have KA' : Hid _ := KA.out Y6 bY6
              have hee : (E == E) = true := by simp
              clear KS at3 at5
              go_wp2_with fail
              refine Calls.mono KA'.out ?_
              rintro e Y7 ⟨rfl, y67⟩
              have bY7 := bel_tr bY6 y67
              go_wp2
              go_ret
              exact ⟨rfl, bY7⟩
end Go.Proofs.YtcoldgpnkdallaaDoor
namespace Go.Proofs.YtcoldgpnkdallaaDoor.rfcOwn
open Go.ChangeShapes Go.WideShapes Go.ChangeAt Go.RowKit
set_option linter.unusedVariables false
set_option linter.unusedSimpArgs false
theorem own : ownKnob Tryd.prog.godebug = none := by kernel_rfl
theorem laidOut : laidOutB Tryd.prog = true := by kernel_rfl
set_option maxRecDepth 100000 in
theorem contract (H : Type) (enc : TypeId × Value → H) (W : World) (base : Nat) (args : Array Value) (ds gs : List (DataW H)) (before : List MemPlace)
    (hval : ∀ (j : Nat) t v, Tryd.f8.params[j]? = some t → args[j]? = some v → Value.okWide Tryd.prog W .any base t v)
    (hW : DataW.Whole enc Tryd.prog Tryd.f8.params.toList Rows.rfcOwnSpec.vars false W args.toList ds gs before)
    (hsz : (DataW.weightsEach Tryd.prog (Tryd.f8.params.toList ++ Rows.rfcOwnSpec.plain.varTypes Tryd.prog) (ds ++ gs)).all (· ≤ reachBytes) = true)
    (hL : laidMetH Tryd.prog Rows.rfcOwnRow.laid W) (hsh : W.ShapedOpen Tryd.prog) :
    Calls Tryd.prog 8 args W fun e W' => ∃ v, e = .returned v ∧ Rows.rfcOwnSpec.post enc Tryd.prog Tryd.f8 false true false false W args v W' := by
  have hW' := hW
  obtain ⟨p, q, hA0, hV, rfl, hfz, hnd⟩ := hW
  have hA : DataW.TrodAll enc Tryd.prog W 0 (fun _ => true) true Tryd.f8.params.toList args.toList ds p := hA0
  rw [Tryd.params8] at hA hval hsz
  obtain ⟨v0, vs0, d0, ds0, p0, q0, hargs, rfl, rfl, h0, r0⟩ := trodAll_cons hA
  obtain ⟨rfl, rfl, rfl⟩ := trodAll_nil r0
  obtain rfl : args = #[v0] := by cases args; simp_all
  obtain ⟨rfl, rfl⟩ := trodVars_none hV
  have lt0 : ∀ x ∈ p0, x.block < W.heap.size := by obtain ⟨m, hm⟩ := h0; exact DataW.trod_lt m _ _ _ hm
  have s0 : ∀ n ∈ d0.weights Tryd.prog 22, n ≤ reachBytes := fun n hn => by simpa using List.all_eq_true.1 hsz n (DataW.weights_mem_each (j := 0) (t := 22) rfl rfl n hn)
  obtain ⟨a0, c0, l0, rfl, lc0, cm0, w0⟩ := open_rules (hval 0 22 v0 rfl rfl) h0 s0
  obtain ⟨hT, hDb, hSd⟩ := three_of (show laidMet Tryd.prog Rows.rfcOwnRow.laid W from hL)
  clear hA0 hval
  refine (rfcOwn_walk a0 c0 l0 W lc0 cm0 w0 hT hDb hSd).mono fun e W' ⟨he, bel⟩ => ?_
  subst he
  exact ⟨_, rfl, _, _, _, [], _, [], hW', trodAll_mk1 (shut_bool Tryd.underlying4 _), (trodAll_cons_mk (Below.trod laidOut (by kernel_rfl) (of_decide_eq_true (by kernel_rfl)) h0 bel lt0) trodAll_mk0), rfl, bel.frame _, fun h => by cases h⟩
theorem laid_met (os : Os) : laidMet Tryd.prog Rows.rfcOwnRow.laid (({ World.holding Tryd.prog os ⟨#[], #[], []⟩ with heap := (((World.holding Tryd.prog os ⟨#[], #[], []⟩).heap.modify 1 (layOne (layA Rows.laid_stockade_chunk_greatest))).modify 2 (layOne (layA Rows.laid_math_bits_deBruijn64tab))).modify 0 (layOne (layB Rows.laid_stockade_rfc_sides)) } : World).forCall (fun _ _ => 0) ⟨#[], #[.slice none 0 0], []⟩).memory :=
  laidMet_of_run' 8 (by kernel_rfl) (by kernel_rfl)
theorem reads (os : Os) {H : Type} (enc : TypeId × Value → H) : ∃ places, DataW.whole enc Tryd.prog (({ World.holding Tryd.prog os ⟨#[], #[], []⟩ with heap := (((World.holding Tryd.prog os ⟨#[], #[], []⟩).heap.modify 1 (layOne (layA Rows.laid_stockade_chunk_greatest))).modify 2 (layOne (layA Rows.laid_math_bits_deBruijn64tab))).modify 0 (layOne (layB Rows.laid_stockade_rfc_sides)) } : World).forCall (fun _ _ => 0) ⟨#[], #[.slice none 0 0], []⟩).memory Tryd.f8.params.toList Rows.rfcOwnSpec.vars false (#[.slice none 0 0] : Array Value).toList 8 = some ([.nil], [], places) :=
  ⟨[], by kernel_rfl⟩
set_option maxRecDepth 100000 in
theorem lifted (os : Os) (started : os.Started) (H : Type) (enc : TypeId × Value → H) (F : Stop.Interp) :
    ReturnsInHanded {} Tryd.checked os 8 .any ((OpenSpec.ofChange Rows.rfcOwnSpec).preRow enc Tryd.prog Tryd.f8 Rows.rfcOwnRow.domain false Rows.rfcOwnRow.laid) (((OpenSpec.ofChange Rows.rfcOwnSpec).at F).post enc Tryd.prog Tryd.f8 false true false false) := by
  obtain ⟨places, hx⟩ := reads os enc
  refine returnsInHanded_of_row (C := Tryd.checked) (s := (OpenSpec.ofChange Rows.rfcOwnSpec)) own started (by kernel_rfl) Tryd.func8
    (witness_row_at (enc := enc) (C := Tryd.checked) false ({ World.holding Tryd.prog os ⟨#[], #[], []⟩ with heap := (((World.holding Tryd.prog os ⟨#[], #[], []⟩).heap.modify 1 (layOne (layA Rows.laid_stockade_chunk_greatest))).modify 2 (layOne (layA Rows.laid_math_bits_deBruijn64tab))).modify 0 (layOne (layB Rows.laid_stockade_rfc_sides)) } : World) #[.slice none 0 0] rfl (by kernel_rfl) (by kernel_rfl) (by kernel_rfl)
      (OpenSpec.preRow_of_cond 8 hx (by kernel_rfl) (fun k hk => by cases hk) (by kernel_rfl) (laid_met os))) ?_
  intro W base args ds gs before hval hW _ _ hsz hL hsh _
  exact contract H enc W base args ds gs before hval hW hsz hL hsh
theorem said : Rows.RfcOwnSaid :=
  OpenClaim.holds_of_cond 8 Tryd.f8 rfl rfl rfl rfl rfl rfl rfl ⟨rfl, rfl, rfl, rfl, rfl⟩ rfl rfl rfl rfl rfl (by kernel_rfl) Tryd.func8 (by kernel_rfl)
    (of_decide_eq_true (by kernel_rfl)) (by unfold Func.isWrapper; first | (rw [if_pos (by decide +kernel)]; kernel_rfl) | (rw [if_neg (by decide +kernel)]; exact ⟨rfl, rfl⟩))
    (fun os started H enc _ F => by rw [OpenClaim.pre_eq_preRow]; exact lifted os started H enc F)
theorem plain (f : FuncId) (fn : Func) (hf : Tryd.pinned.checked.prog.funcNamed "stockade/stockadelaw12.RfcOwn" = some f) (hfn : Tryd.pinned.checked.prog.funcs[f]? = some fn) :
    false = Tryd.pinned.checked.prog.looks [] ∧ ∀ (j : Nat) t, fn.params[j]? = some t → Tryd.pinned.checked.prog.wantsStandIn t = false := by
  obtain rfl : f = 8 := Option.some.inj ((show Tryd.prog.funcNamed "stockade/stockadelaw12.RfcOwn" = some 8 by kernel_rfl).symm.trans hf) |>.symm
  obtain rfl : fn = Tryd.f8 := (Option.some.inj (Tryd.func8.symm.trans hfn)).symm
  refine ⟨by kernel_rfl, fun j t ht => ?_⟩
  rw [Tryd.params8] at ht
  have hm : t ∈ [22] := by simpa using Array.mem_of_getElem? ht
  have hall : ([22].all fun u => !Tryd.prog.wantsStandIn u) = true := by kernel_rfl
  exact (show Tryd.prog.wantsStandIn t = false by simpa using List.all_eq_true.1 hall t hm)
end Go.Proofs.YtcoldgpnkdallaaDoor.rfcOwn
namespace Go.Proofs.YtcoldgpnkdallaaDoor
theorem rfcOwn_holds : Rows.RfcOwnCardSaid :=
  Claim7.holds_tied_plain_at .later [] _ _ _ _ rfcOwn.said (fun _ h => by cases h) (by kernel_rfl) (fun _ h => by cases h) rfcOwn_row_tie rfl ⟨rfl, rfl⟩ (by kernel_rfl) rfl rfcOwn.plain (by kernel_rfl)
end Go.Proofs.YtcoldgpnkdallaaDoor
