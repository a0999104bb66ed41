/- At all bytes the law Ip6Own returns true and leaves its argument as it was. -/
import Derived.Test.YtaohabpnenoegaaIp6ZB
import Derived.Test.YtaohabpnenoegaaRoom
import Derived.Deep.RegionHeld3
import Derived.Test.YtaohabpnenoegaaRows
import Derived.Test.YtaohabpnenoegaaArgs
import Derived.WalkKit
import Derived.ProofKit
import Derived.OpenShut
import Derived.ShutString
import Derived.ChangeOld
import Derived.Below
import Derived.SizedLaws
namespace Go.Proofs.Ytaohabpnenoegaa
open Go.RowKit
set_option linter.unusedVariables false
set_option linter.unusedSimpArgs false

theorem Owns.cap_le {w : World} {B c n : Nat} {a : Option Addr} {l : List Int} (h : Owns w B (.slice a n c) l) : c ≤ 9223372036854775807 := by
  obtain ⟨_, h⟩ := h
  rcases h with ⟨h3, _⟩ | ⟨g, cap, cur, h3, h4, h5, h6, h7, _⟩
  · simp only [Value.slice.injEq] at h3
    omega
  · simp only [Value.slice.injEq] at h3
    obtain ⟨_, _, rfl⟩ := h3
    unfold maxLen at h7
    omega
theorem SIp.far {W : World} {g b i : Nat} {u v0 v1 v2 v3 v4 v5 v6 v7 v8 v9 v10 v11 v12 v13 v14 : Value} (h : SIp W g v0 v1 v2 v3 v4 v5 v6 v7 v8 v9 v10 v11 v12 v13 v14) (hb : b ≠ g) : SIp (W.setCell ⟨b, i, none⟩ u) g v0 v1 v2 v3 v4 v5 v6 v7 v8 v9 v10 v11 v12 v13 v14 :=
  have k : ∀ o, (W.setCell ⟨b, i, none⟩ u).cell? ⟨g, o, none⟩ = W.cell? ⟨g, o, none⟩ := fun o => put_other (by simp [hb])
  ⟨(k _).trans h.c0, (k _).trans h.c1, (k _).trans h.c2, (k _).trans h.c3, (k _).trans h.c4, (k _).trans h.c5, (k _).trans h.c6, (k _).trans h.c7, (k _).trans h.c8, (k _).trans h.c9, (k _).trans h.c10, (k _).trans h.c11, (k _).trans h.c12, (k _).trans h.c13, (k _).trans h.c14⟩

theorem OwnsI.apart {w : World} {B B' g n c : Nat} {v : Value} {l lr : List Int} (h : OwnsI w B v l) (o : Owns w B' (.slice (some ⟨g, 0, none⟩) n c) lr) (k : Nat) (y : Value) : OwnsI (w.setCell ⟨g, k, none⟩ y) B v l := by
  obtain ⟨h1, h2⟩ := h
  refine ⟨h1, ?_⟩
  rcases h2 with h2 | ⟨g', cap, cur, hv, hg, hh, r⟩
  · exact Or.inl h2
  · refine Or.inr ⟨g', cap, cur, hv, hg, ?_, r⟩
    have hne : g ≠ g' := by
      intro e
      subst e
      rcases o.2 with ⟨h3, _⟩ | ⟨g2, cap2, cur2, hv2, _, hh2, _⟩
      · cases h3
      · cases hv2
        rw [hh] at hh2
        cases hh2
    rw [Below.heap_setCell _ _ _ _ (fun e => hne e.symm)]
    exact hh
theorem OwnsI.write {w : World} {B n c : Nat} {a : Option Addr} {l : List Int} (h : OwnsI w B (.slice a n c) l) (hl : l.length = n) (k : Nat) (hk : k < n) :
    ∃ g, a = some ⟨g, 0, none⟩ ∧ B ≤ g ∧ g < w.heap.size ∧ w.cell? ⟨g, k, none⟩ = some (.int .i64 (l.getD k 0)) ∧ w.frozen? ⟨g, k, none⟩ = false ∧ ∀ y, OwnsI (w.setCell ⟨g, k, none⟩ (.int .i64 y)) B (.slice a n c) (l.set k y) := by
  subst hl
  have hh := h
  obtain ⟨_, h2⟩ := h
  rcases h2 with ⟨_, h6⟩ | ⟨g, cap, cur, h6, h7, h8, h9⟩
  · omega
  · cases h6
    have hc := World.ownsRow.cellAt (e := 3) (size := 1) hh k (by omega)
    refine ⟨g, rfl, h7, (World.ownsRow.lt hh g rfl).2, ?_, World.ownsRow.frozenAt (e := 3) (size := 1) hh k, fun y => ?_⟩
    · rw [hc]; simp [hk]
    · have := (World.ownsRow.stored (e := 3) (size := 1) hh k (.int .i64 y)).1
      show World.ownsRow _ B 3 1 _ (l.set k y).length ((l.set k y).map (Value.int .i64))
      rw [List.length_set, List.map_set]
      exact this

set_option maxRecDepth 100000 in
set_option maxHeartbeats 4000000 in
theorem ip6Own_walk (a : Option Addr) (c : Nat) (l : List Int) (W : World) (hc : l.length ≤ c) (hcm : c ≤ 140737488351232) (hnil : a = none → c = 0) (hr : Row W a l) :
    Calls Try.prog 9 #[.slice a l.length c] W fun e w' => e = .returned (.bool true) ∧ Below W.heap.size W w' := by
  obtain ⟨E, hE⟩ : ∃ E, perr6 l = E := ⟨_, rfl⟩
  obtain ⟨P, hP⟩ : ∃ P, parsed6 l = P := ⟨_, rfl⟩
  obtain ⟨E0, hE0⟩ : ∃ X, exts6 l = X := ⟨_, rfl⟩
  obtain ⟨f, ⟨sf, sh, sl⟩, ⟨df, dh, dl⟩, pr, ho, fg, id, of, mo, D⟩ := P
  have K1 : Hid (∀ X ac cc, Row X ac l → (ac = none → cc = 0) → l.length ≤ cc → cc ≤ 9223372036854775807 → Calls Try.prog 15 #[.slice ac l.length cc] X fun e w' => ∃ a1 c1 xa xc, e = .returned (.tuple #[.agg #[.int .i64 f, .int .i64 sf, .int .u64 sh, .int .u64 sl, .int .i64 df, .int .u64 dh, .int .u64 dl, .int .i64 pr, .int .i64 ho, .bool fg, .int .u32 id, .int .i64 of, .bool mo, .slice xa E0.length xc, .slice a1 D.length c1], .int .i64 E]) ∧ Fresh X w' a1 c1 D ∧ OwnsI w' X.heap.size (.slice xa E0.length xc) E0 ∧ E0.length ≤ 8) := by
    intro X ac cc hX hn h1 h2
    have := parse6_any ac cc l X hX hn (by omega) h1 h2
    unfold Got6 at this
    rw [hE, hP, hE0] at this
    exact this
  have K2 : Hid (∀ X, Row X a l → Calls Try.prog 16 #[.slice a l.length c] X fun e w' => ∃ a3 c3 ya yc, e = .returned (.tuple #[.agg #[.int .i64 f, .int .i64 sf, .int .u64 sh, .int .u64 sl, .int .i64 df, .int .u64 dh, .int .u64 dl, .int .i64 pr, .int .i64 ho, .bool fg, .int .u32 id, .int .i64 of, .bool mo, .slice ya E0.length yc, .slice a3 D.length c3], .int .i64 E]) ∧ Fresh X w' a3 c3 D ∧ OwnsI w' X.heap.size (.slice ya E0.length yc) E0 ∧ E0.length ≤ 8) := by
    intro X hX
    have := rparse6_any a c l X hX hnil (by omega) hc (by omega)
    unfold Got6 at this
    rw [hE, hP, hE0] at this
    exact this
  clear hE hP hE0
  have hsm := hr.small
  have hr0 : Hid (Row W a l) := hr
  go_enter Try.func9, Try.ntmps9
  go_wp2_with (at_builtin; refine wpList_app2 _ rfl _ _ rfl W.heap.size _ [] rfl (Owns.nil _ _) (M.Bytes.of (by decide)) _ c l rfl hr hnil l (List.nil_append l) (by omega) (Nat.le_refl _) ?_)
  intro ac cc Wc oc hcc hnc rc bc _
  have capc := oc.cap_le
  go_wp2_with fail
  refine Calls.mono (K1.out Wc ac cc rc hnc hcc capc) ?_
  rintro e W1 ⟨a1, c1, xa, xc, rfl, f1, x1, l8⟩
  obtain ⟨W2, hW2⟩ : ∃ W2, W1.alloc (.cells #[.int .i64 f, .int .i64 sf, .int .u64 sh, .int .u64 sl, .int .i64 df, .int .u64 dh, .int .u64 dl, .int .i64 pr, .int .i64 ho, .bool fg, .int .u32 id, .int .i64 of, .bool mo, .slice xa E0.length xc, .slice a1 D.length c1] 38) = W2 := ⟨_, rfl⟩
  have b12 : Below W1.heap.size W1 W2 := by rw [← hW2]; exact (Below.refl _ _).alloc (Nat.le_refl _) _
  have bc2 : Below Wc.heap.size Wc W2 := f1.below.trans (b12.mono f1.below.size)
  have z2 : W2.heap.size = W1.heap.size + 1 := by rw [← hW2]; simp
  have L1 : Hid (∀ k o s, a1 = some ⟨k, o, s⟩ → k < W1.heap.size) := fun k o s e => (World.ownsRow.lt f1.owns k (by rw [e]; rfl)).2
  have LX : Hid (∀ k o s, xa = some ⟨k, o, s⟩ → k < W1.heap.size) := fun k o s e => (World.ownsRow.lt x1 k (by rw [e]; rfl)).2
  have sD := f1.row.small
  have HOC : Hid (Owns Wc W.heap.size (.slice ac l.length cc) l) := oc
  have HB : Hid (Below W.heap.size W Wc ∧ Row Wc ac l ∧ Row Wc a l) := ⟨bc, rc, hr.below bc⟩
  have zc1 := f1.below.size
  have KW := walk6_any 60 ac cc l W2 (rc.below bc2) hcc capc hnc
  obtain ⟨⟨wn, WD, wx, wm, wc, wi, wo, wmr⟩, hwS⟩ : ∃ s, wS 60 l = s := ⟨_, rfl⟩
  obtain ⟨we, hwE⟩ : ∃ s, wE 60 l = s := ⟨_, rfl⟩
  rw [hwS, hwE] at KW
  simp only at KW
  have HKW : Hid _ := KW
  have HD2 : Hid (Owns W2 Wc.heap.size (.slice a1 D.length c1) D ∧ OwnsI W2 Wc.heap.size (.slice xa E0.length xc) E0) := ⟨f1.owns.below b12, x1.below b12⟩
  have HC2 : Hid (W2.cell? ⟨W1.heap.size, 14, none⟩ = some (.slice a1 D.length c1) ∧ W2.cell? ⟨W1.heap.size, 13, none⟩ = some (.slice xa E0.length xc)) := ⟨by rw [← hW2]; simp, by rw [← hW2]; simp⟩
  clear f1 x1 b12 hr oc rc bc KW hwS hwE
  go_wp2_with fail
  refine Calls.mono HKW.out ?_
  rintro e Ww ⟨za, zc, a9, c9, rfl, f9, _, _⟩
  have sW := f9.row.small
  have bw2 := f9.below
  have d14 := kept bw2 HC2.out.1
  have d13 := kept bw2 HC2.out.2
  have o2 := HD2.out.1.below bw2
  have x2 := HD2.out.2.below bw2
  have o9 := f9.owns
  have bc9 : Below Wc.heap.size Wc Ww := bc2.trans (bw2.mono bc2.size)
  have z9 : W2.heap.size ≤ Ww.heap.size := bw2.size
  clear f9 HKW HC2 HD2 bw2 bc2
  go_wp2_with fail
  go_loopw [35] (fun i wr => ∃ (k : Nat) (lr : List Int), k ≤ D.length ∧ i = .int .i64 k ∧ lr.length = D.length ∧ Owns wr Wc.heap.size (.slice a1 D.length c1) lr ∧ OwnsI wr Wc.heap.size (.slice xa E0.length xc) E0 ∧ Owns wr W2.heap.size (.slice a9 WD.length c9) WD ∧ Below Wc.heap.size Wc wr ∧ wr.cell? ⟨W1.heap.size, 14, none⟩ = some (.slice a1 D.length c1) ∧ wr.cell? ⟨W1.heap.size, 13, none⟩ = some (.slice xa E0.length xc) ∧ W2.heap.size ≤ wr.heap.size) (fun i _ => D.length - (intOf i).toNat)
  case atStart => exact ⟨0, D, Nat.zero_le _, rfl, rfl, o2, x2, o9, bc9, d14, d13, z9⟩
  case round =>
    clear d14 d13 o2 x2 o9 bc9 z9
    obtain ⟨k, lr, hk, rfl, hlr, q1, qx, q9, qb, qd, qe, qz⟩ := hrel
    by_cases hlt : k < D.length
    · obtain ⟨g1, rfl, k1, k2, k3, k4, k5⟩ := q1.write hlr k hlt
      have k6 := L1.out _ _ _ rfl
      have ik : (k : Int) < (D.length : Int) := by omega
      have HR : Hid (lr.length = D.length) := hlr
      have KK : Hid _ := k5
      have HA : Hid (∀ y, OwnsI (wr.setCell ⟨g1, k, none⟩ (.int .u8 y)) Wc.heap.size (.slice xa E0.length xc) E0 ∧ Owns (wr.setCell ⟨g1, k, none⟩ (.int .u8 y)) W2.heap.size (.slice a9 WD.length c9) WD ∧ (wr.setCell ⟨g1, k, none⟩ (.int .u8 y)).cell? ⟨W1.heap.size, 14, none⟩ = some (.slice (some ⟨g1, 0, none⟩) D.length c1) ∧ (wr.setCell ⟨g1, k, none⟩ (.int .u8 y)).cell? ⟨W1.heap.size, 13, none⟩ = some (.slice xa E0.length xc)) := fun y =>
        ⟨qx.apart q1 k _, q9.other (show g1 < W2.heap.size by omega) _, (put_other (by intro e; simp only [Addr.mk.injEq] at e; omega)).trans qd, (put_other (by intro e; simp only [Addr.mk.injEq] at e; omega)).trans qe⟩
      generalize lr.getD k 0 = zz at *
      clear hlr k5 q1 qx q9 qe
      go_wp2
      generalize bits .xor .u8 zz 255 = uu at *
      obtain ⟨h1, h2, h3, h4⟩ := HA.out uu
      refine ⟨⟨k + 1, lr.set k uu, by omega, by go_num, by rw [List.length_set]; exact HR.out, KK.out uu, h1, h2, qb.setCell k1 _, h3, h4, by rw [size_setCell]; exact qz⟩, by simp [intOf]; omega⟩
    · have hk1 : ¬ (k : Int) < (D.length : Int) := by omega
      clear q1 qd hlr lr
      go_wp2_with fail
      go_loopw [48] (fun i wr => ∃ (k : Nat) (lr : List Int), k ≤ WD.length ∧ i = .int .i64 k ∧ lr.length = WD.length ∧ Owns wr W2.heap.size (.slice a9 WD.length c9) lr ∧ OwnsI wr Wc.heap.size (.slice xa E0.length xc) E0 ∧ Below Wc.heap.size Wc wr ∧ wr.cell? ⟨W1.heap.size, 13, none⟩ = some (.slice xa E0.length xc) ∧ W2.heap.size ≤ wr.heap.size) (fun i _ => WD.length - (intOf i).toNat)
      case atStart => exact ⟨0, WD, Nat.zero_le _, rfl, rfl, q9, qx, qb, qe, qz⟩
      case round =>
        clear q9 qx qb qe qz hk hlt hk1
        obtain ⟨k, lr, hk, rfl, hlr, q1, qx, qb, qe, qz⟩ := hrel
        by_cases hlt : k < WD.length
        · obtain ⟨g1, rfl, k1, k2, k3, k4, k5⟩ := q1.write hlr k hlt
          have ik : (k : Int) < (WD.length : Int) := by omega
          have HR : Hid (lr.length = WD.length) := hlr
          have KK : Hid _ := k5
          have HA : Hid (∀ y, OwnsI (wr.setCell ⟨g1, k, none⟩ (.int .u8 y)) Wc.heap.size (.slice xa E0.length xc) E0 ∧ (wr.setCell ⟨g1, k, none⟩ (.int .u8 y)).cell? ⟨W1.heap.size, 13, none⟩ = some (.slice xa E0.length xc)) := fun y =>
            ⟨qx.apart q1 k _, (put_other (by intro e; simp only [Addr.mk.injEq] at e; omega)).trans qe⟩
          generalize lr.getD k 0 = zz at *
          clear hlr k5 q1 qx qe
          go_wp2
          generalize bits .xor .u8 zz 255 = uu at *
          obtain ⟨h1, h2⟩ := HA.out uu
          refine ⟨⟨k + 1, lr.set k uu, by omega, by go_num, by rw [List.length_set]; exact HR.out, KK.out uu, h1, qb.setCell (show Wc.heap.size ≤ g1 by omega) _, h2, by rw [size_setCell]; exact qz⟩, by simp [intOf]; omega⟩
        · have hk1 : ¬ (k : Int) < (WD.length : Int) := by omega
          clear q1 hlr lr
          go_wp2_with fail
          go_loopw [61] (fun i wr => ∃ (k : Nat) (lr : List Int), k ≤ E0.length ∧ i = .int .i64 k ∧ lr.length = E0.length ∧ OwnsI wr Wc.heap.size (.slice xa E0.length xc) lr ∧ Below Wc.heap.size Wc wr ∧ wr.cell? ⟨W1.heap.size, 13, none⟩ = some (.slice xa E0.length xc)) (fun i _ => E0.length - (intOf i).toNat)
          case atStart => exact ⟨0, E0, Nat.zero_le _, rfl, rfl, qx, qb, qe⟩
          case round =>
            clear qx qb qe qz hk hlt hk1
            obtain ⟨k, ex, hk, rfl, hlx, qx, qb, qe⟩ := hrel
            by_cases hlt : k < E0.length
            · obtain ⟨g1, rfl, k1, k2, k3, k4, k5⟩ := qx.write hlx k hlt
              have k6 := LX.out _ _ _ rfl
              have ik : (k : Int) < (E0.length : Int) := by omega
              have HR : Hid (ex.length = E0.length) := hlx
              have KK : Hid _ := k5
              have HA : Hid (∀ y, (wr.setCell ⟨g1, k, none⟩ (.int .i64 y)).cell? ⟨W1.heap.size, 13, none⟩ = some (.slice (some ⟨g1, 0, none⟩) E0.length xc)) := fun y => (put_other (by intro e; simp only [Addr.mk.injEq] at e; omega)).trans qe
              generalize ex.getD k 0 = zz at *
              clear hlx k5 qx
              go_wp2
              refine ⟨⟨k + 1, ex.set k (-1), by omega, by go_num, by rw [List.length_set]; exact HR.out, KK.out (-1), qb.setCell k1 _, HA.out (-1)⟩, by simp [intOf]; omega⟩
            · have hk1 : ¬ (k : Int) < (E0.length : Int) := by omega
              have rcr : Row wr ac l := HB.out.2.1.below qb
              have rar : Row wr a l := HB.out.2.2.below qb
              have ocr : Owns wr W.heap.size (.slice ac l.length cc) l := HOC.out.below qb
              have bwr : Below W.heap.size W wr := HB.out.1.trans (qb.mono HB.out.1.size)
              have KS : Hid _ := same_any ac a cc c l wr rcr rar
              have HQ : Hid (Row wr ac l ∧ Row wr a l ∧ Owns wr W.heap.size (.slice ac l.length cc) l ∧ Below W.heap.size W wr) := ⟨rcr, rar, ocr, bwr⟩
              clear qx qb qe hlx ex rcr rar ocr bwr
              go_wp2_with fail
              refine Calls.mono KS.out ?_
              rintro e w' ⟨rfl, hw'⟩
              rw [hw']
              clear hw' KS
              go_wp2_with fail
              refine Calls.mono (K1.out wr ac cc HQ.out.1 hnc hcc capc) ?_
              rintro e Wp ⟨a2, c2, x2a, x2c, rfl, f2, y2, _⟩
              obtain ⟨W3, hW3⟩ : ∃ W3, Wp.alloc (.cells #[.int .i64 f, .int .i64 sf, .int .u64 sh, .int .u64 sl, .int .i64 df, .int .u64 dh, .int .u64 dl, .int .i64 pr, .int .i64 ho, .bool fg, .int .u32 id, .int .i64 of, .bool mo, .slice x2a E0.length x2c, .slice a2 D.length c2] 38) = W3 := ⟨_, rfl⟩
              have bp3 : Below Wp.heap.size Wp W3 := by rw [← hW3]; exact (Below.refl _ _).alloc (Nat.le_refl _) _
              have br3 : Below wr.heap.size wr W3 := f2.below.trans (bp3.mono f2.below.size)
              have z3 : W3.heap.size = Wp.heap.size + 1 := by rw [← hW3]; simp
              have S3 : SIp W3 Wp.heap.size (.int .i64 f) (.int .i64 sf) (.int .u64 sh) (.int .u64 sl) (.int .i64 df) (.int .u64 dh) (.int .u64 dl) (.int .i64 pr) (.int .i64 ho) (.bool fg) (.int .u32 id) (.int .i64 of) (.bool mo) (.slice x2a E0.length x2c) (.slice a2 D.length c2) := by rw [← hW3]; exact sIp_new Wp _ _ _ _ _ _ _ _ _ _ _ _ _ _ _
              have o3 : Owns W3 wr.heap.size (.slice a2 D.length c2) D := f2.owns.below bp3
              have oc3 : Owns W3 W.heap.size (.slice ac l.length cc) l := HQ.out.2.2.1.below br3
              have bw3 : Below W.heap.size W W3 := HQ.out.2.2.2.trans (br3.mono HQ.out.2.2.2.size)
              have LC : Hid (∀ k o s, ac = some ⟨k, o, s⟩ → k < wr.heap.size) := fun k o s e => (World.ownsRow.lt HQ.out.2.2.1 k (by rw [e]; rfl)).2
              have ox3 : OwnsI W3 wr.heap.size (.slice x2a E0.length x2c) E0 := y2.below bp3
              have hzz := f2.below.size
              have HDB : Hid (M.Bytes D) := f2.row.bytes
              clear f2 y2 bp3 br3 hlt hk
              go_wp2_with fail
              go_loopw [80] (fun i ws => ∃ (k : Nat) (lr : List Int), k ≤ l.length ∧ i = .int .i64 k ∧ lr.length = l.length ∧ Owns ws W.heap.size (.slice ac l.length cc) lr ∧ Owns ws wr.heap.size (.slice a2 D.length c2) D ∧ OwnsI ws wr.heap.size (.slice x2a E0.length x2c) E0 ∧ Hid (SIp ws Wp.heap.size (.int .i64 f) (.int .i64 sf) (.int .u64 sh) (.int .u64 sl) (.int .i64 df) (.int .u64 dh) (.int .u64 dl) (.int .i64 pr) (.int .i64 ho) (.bool fg) (.int .u32 id) (.int .i64 of) (.bool mo) (.slice x2a E0.length x2c) (.slice a2 D.length c2)) ∧ Below W.heap.size W ws ∧ W3.heap.size ≤ ws.heap.size) (fun i _ => l.length - (intOf i).toNat)
              case atStart => exact ⟨0, l, Nat.zero_le _, rfl, rfl, oc3, o3, ox3, S3, bw3, Nat.le_refl _⟩
              case round =>
                clear S3 o3 ox3 oc3 bw3
                obtain ⟨k, lr, hk, rfl, hlr, q1, q2, qy, q3, qb, qz'⟩ := hrel
                by_cases hlt : k < l.length
                · obtain ⟨g1, rfl, k1, k2, k3, k4, k5⟩ := q1.write hlr k hlt
                  have k6 := LC.out _ _ _ rfl
                  have ik : (k : Int) < (l.length : Int) := by omega
                  have HR : Hid (lr.length = l.length) := hlr
                  have KK : Hid _ := k5
                  generalize lr.getD k 0 = zz at *
                  clear hlr k5 q1
                  go_wp2
                  generalize bits .xor .u8 zz 255 = uu at *
                  refine ⟨⟨k + 1, lr.set k uu, by omega, by go_num, by rw [List.length_set]; exact HR.out, KK.out uu, q2.other (by simpa using k6) _, qy.other (by simpa using k6) _, q3.out.far (by omega), qb.setCell k1 _, by rw [size_setCell]; exact qz'⟩, by simp [intOf]; omega⟩
                · have HS : Hid (Row _ a2 D ∧ Below W.heap.size W _) := ⟨q2.row sD HDB.out, qb⟩
                  have HYR : Hid (RowI _ x2a E0) := qy.row (by omega)
                  have hra := hr0.out.below qb
                  clear q1 q2 qy qb hlr lr
                  go_wp2_with fail
                  refine Calls.mono (K2.out _ hra) ?_
                  rintro e Wq ⟨a3, c3, ya, yc, rfl, f3, y3, _⟩
                  obtain ⟨W4, hW4⟩ : ∃ W4, Wq.alloc (.cells #[.int .i64 f, .int .i64 sf, .int .u64 sh, .int .u64 sl, .int .i64 df, .int .u64 dh, .int .u64 dl, .int .i64 pr, .int .i64 ho, .bool fg, .int .u32 id, .int .i64 of, .bool mo, .slice ya E0.length yc, .slice a3 D.length c3] 38) = W4 := ⟨_, rfl⟩
                  have b34 : Below Wq.heap.size Wq W4 := by rw [← hW4]; exact (Below.refl _ _).alloc (Nat.le_refl _) _
                  have b24 := f3.below.trans (b34.mono f3.below.size)
                  obtain ⟨d0, d1, d2, d3, d4, d5, d6, d7, d8, d9, d10, d11, d12, d13, d14⟩ := q3.out.below (by omega) b24
                  obtain ⟨e0, e1, e2, e3, e4, e5, e6, e7, e8, e9, e10, e11, e12, e13, e14⟩ : SIp W4 Wq.heap.size (.int .i64 f) (.int .i64 sf) (.int .u64 sh) (.int .u64 sl) (.int .i64 df) (.int .u64 dh) (.int .u64 dl) (.int .i64 pr) (.int .i64 ho) (.bool fg) (.int .u32 id) (.int .i64 of) (.bool mo) (.slice ya E0.length yc) (.slice a3 D.length c3) := by rw [← hW4]; exact sIp_new Wq _ _ _ _ _ _ _ _ _ _ _ _ _ _ _
                  have K4 : Hid (Calls Try.prog 17 #[.agg #[.int .i64 f, .int .i64 sf, .int .u64 sh, .int .u64 sl, .int .i64 df, .int .u64 dh, .int .u64 dl, .int .i64 pr, .int .i64 ho, .bool fg, .int .u32 id, .int .i64 of, .bool mo, .slice x2a E0.length x2c, .slice a2 D.length c2], .agg #[.int .i64 f, .int .i64 sf, .int .u64 sh, .int .u64 sl, .int .i64 df, .int .u64 dh, .int .u64 dl, .int .i64 pr, .int .i64 ho, .bool fg, .int .u32 id, .int .i64 of, .bool mo, .slice ya E0.length yc, .slice a3 D.length c3]] W4 fun e w' => e = .returned (.bool true) ∧ Below W4.heap.size W4 w') := same_ip6 f sf sh sl df dh dl pr ho fg id of mo x2a x2c ya yc E0 a2 c2 a3 c3 D W4 (HS.out.1.below b24) (f3.row.below b34) (HYR.out.below b24) ((y3.row (by omega)).below b34)
                  have B4 : Hid (Below W.heap.size W W4) := HS.out.2.trans (b24.mono HS.out.2.size)
                  clear f3 y3 b34 b24 K2 hra HS q3 HYR
                  go_wp2_with fail
                  refine Calls.mono K4.out ?_
                  rintro e W5 ⟨rfl, b5⟩
                  have B5 : Hid (Below W.heap.size W W5) := B4.out.trans (b5.mono B4.out.size)
                  clear b5 d0 d1 d2 d3 d4 d5 d6 d7 d8 d9 d10 d11 d12 d13 d14 e0 e1 e2 e3 e4 e5 e6 e7 e8 e9 e10 e11 e12 e13 e14
                  go_wp2_with fail
                  refine (alive6_any W5).mono ?_
                  rintro e W6 ⟨rfl, b6⟩
                  have bc : Hid (Below W.heap.size W W6) := B5.out.trans (b6.mono B5.out.size)
                  clear b6
                  go_wp2_with fail
                  go_ret
                  exact ⟨rfl, bc.out⟩
end Go.Proofs.Ytaohabpnenoegaa

namespace Go.Proofs.Ytaohabpnenoegaa.ip6Own
open Go.ChangeShapes Go.WideShapes Go.ChangeAt Go.RowKit
open Go.ChangeMaps (open_string shut_string)
set_option linter.unusedVariables false

theorem own : ownKnob Try.prog.godebug = none := by kernel_rfl
theorem laidOut : laidOutB Try.prog = true := by kernel_rfl

set_option maxRecDepth 100000 in
theorem lifted (os : Os) (started : os.Started) (H : Type) (enc : TypeId × Value → H) :
    ReturnsInHanded {} Try.checked os 9 .any (Rows.ip6OwnSpec.pre6 enc Try.prog Try.f9 Rows.ip6OwnRow.domain false) (Rows.ip6OwnSpec.post enc Try.prog Try.f9 false true false false) := by
  refine returnsInHanded_of_change_sized (C := Try.checked) own started (by kernel_rfl) Try.func9
    (ChangeSpec.witness6 (enc := enc) (C := Try.checked) false ⟨#[], #[.slice none 0 0], []⟩ 8 (by kernel_rfl) (by kernel_rfl) (by kernel_rfl) (by kernel_rfl)) ?_
  intro W base args ds gs before hval0 hW hcnd hsz0 _
  have hval : ∀ (j : Nat) t v, Try.f9.params[j]? = some t → args[j]? = some v → Value.okWide Try.prog W .any base t v := hval0
  have hW' := hW
  obtain ⟨p, q, hA0, hV, rfl, hfz, hnd⟩ := hW
  have hA : DataW.TrodAll enc Try.prog W 0 (fun _ => true) true Try.f9.params.toList args.toList ds p := hA0
  have hsz : (DataW.weightsEach Try.prog (Try.f9.params.toList ++ Rows.ip6OwnSpec.plain.varTypes Try.prog) (ds ++ gs)).all (· ≤ reachBytes) = true := hsz0
  rw [Try.params9] at hA hval hsz
  obtain ⟨v0, vs0, d0, ds0, p0, q0, hargs, rfl, rfl, h0, r0⟩ := trodAll_cons hA
  obtain ⟨rfl, rfl, rfl⟩ := trodAll_nil r0
  obtain rfl : args = #[v0] := by cases args; simp_all
  obtain ⟨rfl, rfl⟩ := trodVars_none hV
  have lt0 : ∀ x ∈ p0, x.block < W.heap.size := by obtain ⟨m, hm⟩ := h0; exact DataW.trod_lt m _ _ _ hm
  have s0 : ∀ n ∈ d0.weights Try.prog 22, n ≤ reachBytes := fun n hn => by simpa using List.all_eq_true.1 hsz n (DataW.weights_mem_each (j := 0) (t := 22) rfl rfl n hn)
  obtain ⟨a0, c0, l0, rfl, lc0, cm0, nl0, w0⟩ := open_bytes Try.underlying22 Try.underlying5 (by kernel_rfl) (by kernel_rfl) (hval 0 22 v0 rfl rfl) h0 s0
  clear hA0 hval0 hsz0
  refine (ip6Own_walk a0 c0 l0 W lc0 cm0 nl0 w0).mono fun e W' ⟨he, bel⟩ => ?_
  subst he
  exact ⟨_, rfl, _, _, _, [], _, [], hW', trodAll_mk1 (shut_bool Try.underlying4 _), (trodAll_cons_mk (Below.trod laidOut (by kernel_rfl) (of_decide_eq_true (by kernel_rfl)) h0 bel lt0) trodAll_mk0), rfl, bel.frame _, fun h => by cases h⟩

theorem over : Rows.ip6OwnRow.holds Try.pinned (OpenSpec.ofChange Rows.ip6OwnSpec) :=
  OpenClaim.holds_of_wide 9 Try.f9 rfl rfl rfl rfl rfl rfl rfl ⟨rfl, rfl, rfl, rfl, rfl⟩ rfl rfl rfl rfl rfl (by kernel_rfl) Try.func9 (by kernel_rfl)
    (of_decide_eq_true (by kernel_rfl)) (by unfold Func.isWrapper; first | (rw [if_pos (by decide +kernel)]; kernel_rfl) | (rw [if_neg (by decide +kernel)]; exact ⟨rfl, rfl⟩))
    (fun os started H enc _ => lifted os started H enc)
end Go.Proofs.Ytaohabpnenoegaa.ip6Own
namespace Go.Proofs.Ytaohabpnenoegaa
theorem ip6Own_holds : Rows.Ip6OwnSaid := ip6Own.over
end Go.Proofs.Ytaohabpnenoegaa
