/- The same packets; the document's Parse of ip6, as far as a whole packet and a fragment of the wrong length. -/
import Derived.Test.YtaohabpnenoegaaIp6P
import Derived.Test.YtaohabpnenoegaaIp6U
import Derived.BigRegion
import Derived.Test.YtaohabpnenoegaaRFrm
namespace Go.Proofs.Ytaohabpnenoegaa
open Go.RowKit
set_option linter.unusedVariables false
set_option linter.unusedSimpArgs false

set_option maxRecDepth 100000 in
set_option maxHeartbeats 4000000 in
theorem same_ip6 (f sf sh sl df dh dl pr ho : Int) (fg : Bool) (id of : Int) (mo : Bool) (xa : Option Addr) (xc : Nat) (ya : Option Addr) (yc : Nat) (E : List Int) (a : Option Addr) (c : Nat) (b : Option Addr) (d : Nat) (l : List Int) (w : World) (ha : Row w a l) (hb : Row w b l) (hx : RowI w xa E) (hy : RowI w ya E) :
    Calls Try.prog 17 #[.agg #[.int .i64 f, .int .i64 sf, .int .u64 sh, .int .u64 sl, .int .i64 df, .int .u64 dh, .int .u64 dl, .int .i64 pr, .int .i64 ho, .bool fg, .int .u32 id, .int .i64 of, .bool mo, .slice xa E.length xc, .slice a l.length c], .agg #[.int .i64 f, .int .i64 sf, .int .u64 sh, .int .u64 sl, .int .i64 df, .int .u64 dh, .int .u64 dl, .int .i64 pr, .int .i64 ho, .bool fg, .int .u32 id, .int .i64 of, .bool mo, .slice ya E.length yc, .slice b l.length d]] w fun e w' => e = .returned (.bool true) ∧ Below w.heap.size w w' := by
  obtain ⟨W1, hW1⟩ : ∃ W1, (w.alloc (.cells #[.int .i64 f, .int .i64 sf, .int .u64 sh, .int .u64 sl, .int .i64 df, .int .u64 dh, .int .u64 dl, .int .i64 pr, .int .i64 ho, .bool fg, .int .u32 id, .int .i64 of, .bool mo, .slice xa E.length xc, .slice a l.length c] 38)).alloc (.cells #[.int .i64 f, .int .i64 sf, .int .u64 sh, .int .u64 sl, .int .i64 df, .int .u64 dh, .int .u64 dl, .int .i64 pr, .int .i64 ho, .bool fg, .int .u32 id, .int .i64 of, .bool mo, .slice ya E.length yc, .slice b l.length d] 38) = W1 := ⟨_, rfl⟩
  have bq : Below (w.alloc (.cells #[.int .i64 f, .int .i64 sf, .int .u64 sh, .int .u64 sl, .int .i64 df, .int .u64 dh, .int .u64 dl, .int .i64 pr, .int .i64 ho, .bool fg, .int .u32 id, .int .i64 of, .bool mo, .slice xa E.length xc, .slice a l.length c] 38)).heap.size (w.alloc (.cells #[.int .i64 f, .int .i64 sf, .int .u64 sh, .int .u64 sl, .int .i64 df, .int .u64 dh, .int .u64 dl, .int .i64 pr, .int .i64 ho, .bool fg, .int .u32 id, .int .i64 of, .bool mo, .slice xa E.length xc, .slice a l.length c] 38)) W1 := by rw [← hW1]; exact (Below.refl _ _).alloc (Nat.le_refl _) _
  have BB : Hid (Below w.heap.size w W1) := ((Below.refl _ _).alloc (Nat.le_refl _) _).trans (bq.mono (by simp))
  have sP : SIp W1 w.heap.size (.int .i64 f) (.int .i64 sf) (.int .u64 sh) (.int .u64 sl) (.int .i64 df) (.int .u64 dh) (.int .u64 dl) (.int .i64 pr) (.int .i64 ho) (.bool fg) (.int .u32 id) (.int .i64 of) (.bool mo) (.slice xa E.length xc) (.slice a l.length c) := (sIp_new w _ _ _ _ _ _ _ _ _ _ _ _ _ _ _).below (by simp) bq
  have sQ : SIp W1 (w.heap.size + 1) (.int .i64 f) (.int .i64 sf) (.int .u64 sh) (.int .u64 sl) (.int .i64 df) (.int .u64 dh) (.int .u64 dl) (.int .i64 pr) (.int .i64 ho) (.bool fg) (.int .u32 id) (.int .i64 of) (.bool mo) (.slice ya E.length yc) (.slice b l.length d) := by
    have := sIp_new (w.alloc (.cells #[.int .i64 f, .int .i64 sf, .int .u64 sh, .int .u64 sl, .int .i64 df, .int .u64 dh, .int .u64 dl, .int .i64 pr, .int .i64 ho, .bool fg, .int .u32 id, .int .i64 of, .bool mo, .slice xa E.length xc, .slice a l.length c] 38)) (.int .i64 f) (.int .i64 sf) (.int .u64 sh) (.int .u64 sl) (.int .i64 df) (.int .u64 dh) (.int .u64 dl) (.int .i64 pr) (.int .i64 ho) (.bool fg) (.int .u32 id) (.int .i64 of) (.bool mo) (.slice ya E.length yc) (.slice b l.length d)
    rw [hW1] at this
    simpa using this
  have lt1 : w.heap.size + 1 < W1.heap.size := World.block_lt_of_cell? W1 _ sQ.c0
  have HA : Hid _ := ha.below BB.out
  have HB : Hid _ := hb.below BB.out
  have HX : Hid _ := hx.below BB.out
  have HY : Hid _ := hy.below BB.out
  obtain ⟨N, hN⟩ : ∃ N, E.length = N := ⟨_, rfl⟩
  have HN : Hid (E.length = N) := hN
  have hs : N ≤ 17592186044416 := by rw [← hN]; exact hx.small
  rw [hN] at sP sQ hW1 ⊢
  have HP : Hid _ := sP
  have HQ : Hid _ := sQ
  have HW1 : Hid (_ = W1) := hW1
  clear ha hb hx hy bq hN
  obtain ⟨p0, p1, p2, p3, p4, p5, p6, p7, p8, p9, p10, p11, p12, p13, p14⟩ := sP
  obtain ⟨q0, q1, q2, q3, q4, q5, q6, q7, q8, q9, q10, q11, q12, q13, q14⟩ := sQ
  go_enter Try.func17, Try.ntmps17
  go_wp2
  go_loopw [5] (fun i w' => ∃ (k m : Nat), k ≤ N ∧ i = .int .i64 k ∧ w' = W1.drewN m) (fun i _ => N - (intOf i).toNat)
  case atStart => exact ⟨0, 0, Nat.zero_le _, rfl, rfl⟩
  case round =>
    obtain ⟨k, m, hk, rfl, rfl⟩ := hrel
    clear p0 p1 p2 p3 p4 p5 p6 p7 p8 p9 p10 p11 p12 p13 p14 q0 q1 q2 q3 q4 q5 q6 q7 q8 q9 q10 q11 q12 q13 q14 hW1
    have bm : Below W1.heap.size W1 (W1.drewN m) := below_drewN (Below.refl _ _) m
    obtain ⟨p0, p1, p2, p3, p4, p5, p6, p7, p8, p9, p10, p11, p12, p13, p14⟩ := HP.out.below (Nat.lt_of_succ_lt lt1) bm
    obtain ⟨q0, q1, q2, q3, q4, q5, q6, q7, q8, q9, q10, q11, q12, q13, q14⟩ := HQ.out.below lt1 bm
    by_cases hlt : k < N
    · obtain ⟨b1, off, rfl, hcl⟩ := (HX.out.drewN m).cells (by have := HN.out; omega)
      obtain ⟨b2, off', rfl, hcl'⟩ := (HY.out.drewN m).cells (by have := HN.out; omega)
      have c0 := hcl k (by have := HN.out; omega)
      have c1 := hcl' k (by have := HN.out; omega)
      have hlk : (k : Int) < (N : Int) := by omega
      obtain ⟨W, hW⟩ : ∃ W, W1.drewN m = W := ⟨_, rfl⟩
      rw [hW] at p0 p1 p2 p3 p4 p5 p6 p7 p8 p9 p10 p11 p12 p13 p14 q0 q1 q2 q3 q4 q5 q6 q7 q8 q9 q10 q11 q12 q13 q14 c0 c1 ⊢
      have HW : Hid (W1.drewN m = W) := hW
      clear hcl hcl' hW bm
      generalize E.getD k 0 = x at *
      have hxx : (x != x) = false := by simp
      go_wp2
      go_quiet (fail)
      go_wp2
      exact ⟨⟨k + 1, m + nq, by omega, int_eq (by omega), by rw [← HW.out]; exact drewN_add W1 m nq⟩, by simp [intOf]; omega⟩
    · have hlk : ¬ (k : Int) < (N : Int) := by omega
      have KK : Hid _ := same_any a b c d l (W1.drewN m) (HA.out.below bm) (HB.out.below bm)
      have BM : Hid (Below w.heap.size w (W1.drewN m)) := BB.out.trans (bm.mono BB.out.size)
      generalize W1.drewN m = W at *
      clear bm
      go_wp2_with fail
      refine Calls.mono KK.out ?_
      rintro e w' ⟨rfl, rfl⟩
      go_wp2
      go_ret
      exact ⟨rfl, BM.out⟩
end Go.Proofs.Ytaohabpnenoegaa

namespace Go.Proofs.Ytaohabpnenoegaa
open Go.RowKit
set_option linter.unusedVariables false
set_option linter.unusedSimpArgs false

theorem wgo_ex : ∀ (n : Nat) (s : St), ∃ t, (wgo n s).2.ex = s.ex ++ t
  | 0, s => ⟨[], by simp [wgo]⟩
  | n + 1, s => by
    simp only [wgo]
    split
    · exact ⟨[], by simp⟩
    split
    · exact ⟨[], by simp⟩
    · obtain ⟨t, ht⟩ := wgo_ex n (after s)
      exact ⟨[s.next] ++ t, by rw [ht, after_ex]; simp⟩
theorem wgo_met : ∀ (n : Nat) (s : St) (m : Bool), (wgo n s).1 = 0 → (∀ x ∈ (wgo n s).2.ex, x ≠ 0 ∧ x ≠ 44) → wgo n { s with met := m } = (0, { (wgo n s).2 with met := m })
  | 0, s, m, _, _ => rfl
  | n + 1, s, m, h0, hx => by
    simp only [wgo] at h0 hx ⊢
    have e1 : over { s with met := m } = over s := rfl
    rw [e1]
    by_cases ho : over s = true
    · simp only [if_pos ho]
    · rw [if_neg ho] at h0 hx
      simp only [if_neg ho]
      by_cases hw : werr s = 0
      · have hw' : ¬ (werr s ≠ 0) := by simp [hw]
        rw [if_neg hw'] at h0 hx
        obtain ⟨t, ht⟩ := wgo_ex n (after s)
        have hn := hx s.next (by rw [ht, after_ex]; simp)
        have e2 : werr { s with met := m } = werr s := by
          unfold werr lerr
          simp only
          split
          · rfl
          split
          · rfl
          rw [if_neg hn.1, if_neg hn.1]
          split
          · rfl
          rw [if_neg hn.2, if_neg hn.2]
        have e3 : after { s with met := m } = { after s with met := m } := by
          unfold after took stepd
          simp only
          rw [if_neg hn.2, if_neg hn.2]
        simp only [e2, if_neg hw', e3]
        exact wgo_met n (after s) m h0 hx
      · rw [if_pos hw] at h0
        exact absurd h0 hw
theorem perr6_ok {l : List Int} (h : perr6 l = 0) : ¬ l.length < 40 ∧ ¬ u16 l 4 > (l.length : Int) - 40 ∧ (T6 l).1 = 0 ∧ l.getD 0 0 / 16 = 6 ∧ l.getD 7 0 ≠ 0 ∧ ((T6 l).2.cut = true → wrongp (T6 l).2 = 0) := by
  unfold perr6 at h
  split at h
  · omega
  split at h
  · omega
  split at h
  · omega
  split at h
  · omega
  split at h
  · next hh => exact absurd h hh
  next a1 a2 a3 a4 a5 =>
    refine ⟨a1, a3, by simpa using a5, by simpa using a2, a4, fun hc => ?_⟩
    rw [if_pos hc] at h
    exact h
theorem same6 {l : List Int} (h : perr6 l = 0) (hf : (parsed6 l).frag = false) (hx : ∀ x ∈ exts6 l, x ≠ 0 ∧ x ≠ 44) :
    wE (l.getD 6 0) ((l.drop 40).take (u16 l 4).toNat) = 0 ∧ (wS (l.getD 6 0) ((l.drop 40).take (u16 l 4).toNat)).next = (parsed6 l).proto ∧ (wS (l.getD 6 0) ((l.drop 40).take (u16 l 4).toNat)).ex = exts6 l ∧ (wS (l.getD 6 0) ((l.drop 40).take (u16 l 4).toNat)).l = (parsed6 l).data := by
  have hp : parsed6 l = pk6 l := by unfold parsed6; rw [if_pos h]
  have he : exts6 l = (T6 l).2.ex := by unfold exts6; rw [if_pos h]
  rw [hp] at hf ⊢
  rw [he] at hx ⊢
  have h0 := (perr6_ok h).2.2.1
  have k := wgo_met 9 (st0 (l.getD 6 0) ((l.drop 40).take (u16 l 4).toNat) false) true h0 hx
  have k2 : wend (st0 (l.getD 6 0) ((l.drop 40).take (u16 l 4).toNat) true) = (0, { (T6 l).2 with met := true }) := k
  have k3 : wE (l.getD 6 0) ((l.drop 40).take (u16 l 4).toNat) = 0 := by unfold wE; rw [k2]
  have k4 : wS (l.getD 6 0) ((l.drop 40).take (u16 l 4).toNat) = { (T6 l).2 with met := true } := by unfold wS; rw [k2]; rfl
  rw [k4]
  exact ⟨k3, rfl, rfl, rfl⟩
end Go.Proofs.Ytaohabpnenoegaa

namespace Go.Proofs.Ytaohabpnenoegaa
open Go.RowKit
set_option linter.unusedVariables false
set_option linter.unusedSimpArgs false

theorem rparse_ret6 {R : Ending → World → Prop} {a : Act} {w : World} {g : Nat} {x : Int} {v0 v1 v2 v3 v4 v5 v6 v7 v8 v9 v10 v11 v12 v13 v14 : Value} (s : SIp w g v0 v1 v2 v3 v4 v5 v6 v7 v8 v9 v10 v11 v12 v13 v14) (h2 : a.tmps[2]?.getD undef = .pointer (some ⟨g, 0, none⟩)) (h3 : a.tmps[3]?.getD undef = .int .i64 x) (hd : a.defers = [])
    (hR : R (.returned (.tuple #[.agg #[v0, v1, v2, v3, v4, v5, v6, v7, v8, v9, v10, v11, v12, v13, v14], .int .i64 x])) w) : bodyPost Try.prog Try.f16 R .ret a w := by
  obtain ⟨c0, c1, c2, c3, c4, c5, c6, c7, c8, c9, c10, c11, c12, c13, c14⟩ := s
  refine bodyPost_ret (v := .tuple #[.agg #[v0, v1, v2, v3, v4, v5, v6, v7, v8, v9, v10, v11, v12, v13, v14], .int .i64 x]) ?_ hd hR
  simp [results, Try.results16, go_sem, h2, h3, c0, c1, c2, c3, c4, c5, c6, c7, c8, c9, c10, c11, c12, c13, c14]

set_option maxRecDepth 100000 in
set_option maxHeartbeats 16000000 in
theorem rparse6_e2 (a : Option Addr) (c : Nat) (l : List Int) (w : World) (h : Row w a l) (hnil : a = none → c = 0) (hll : l.length ≤ 140737488351232) (hc : l.length ≤ c) (hcm : c ≤ 9223372036854775807) (h40 : l.length < 40) :
    Calls Try.prog 16 #[.slice a l.length c] w (Got6 w l) := by
  obtain ⟨W0, hW0⟩ : ∃ W0, w.alloc (.cells zIp 38) = W0 := ⟨_, rfl⟩
  have b0 : Below w.heap.size w W0 := by rw [← hW0]; exact (Below.refl _ _).alloc (Nat.le_refl _) _
  have z0 : ZIp W0 w.heap.size := by rw [← hW0]; exact zIp_new w
  have s0 : W0.heap.size = w.heap.size + 1 := by rw [← hW0]; simp
  have r0 := h.below b0
  have hp : perr6 l = 2 := by unfold perr6; rw [if_pos h40]
  have HP : Hid _ := hp
  have h40' : (l.length : Int) < 40 := by omega
  have zz := z0
  obtain ⟨d0, d1, d2, d3, d4, d5, d6, d7, d8, d9, d10, d11, d12, d13, d14, dz⟩ := z0
  have hW0' := hW0
  go_enter Try.func16, Try.ntmps16
  go_wp2
  exact rparse_ret6 (sIp_set zz _ _ _ _ _ _ _ _ _ _ _ _ _ _ _) rfl rfl rfl (bad6 HP.out (by decide) (set15_below b0 (Nat.le_refl _) _ _ _ _ _ _ _ _ _ _ _ _ _ _ _))

set_option maxRecDepth 100000 in
set_option maxHeartbeats 16000000 in
theorem rparse6_e3 (a : Option Addr) (c : Nat) (l : List Int) (w : World) (h : Row w a l) (hnil : a = none → c = 0) (hll : l.length ≤ 140737488351232) (hc : l.length ≤ c) (hcm : c ≤ 9223372036854775807) (h40 : ¬ l.length < 40) (hv : l.getD 0 0 / 16 ≠ 6) :
    Calls Try.prog 16 #[.slice a l.length c] w (Got6 w l) := by
  obtain ⟨W0, hW0⟩ : ∃ W0, w.alloc (.cells zIp 38) = W0 := ⟨_, rfl⟩
  have b0 : Below w.heap.size w W0 := by rw [← hW0]; exact (Below.refl _ _).alloc (Nat.le_refl _) _
  have z0 : ZIp W0 w.heap.size := by rw [← hW0]; exact zIp_new w
  have s0 : W0.heap.size = w.heap.size + 1 := by rw [← hW0]; simp
  have r0 := h.below b0
  have hpp : perr6 l = 3 := by
    unfold perr6
    rw [if_neg h40, if_pos hv]
  have h40' : ¬ (l.length : Int) < 40 := by omega
  have hnil' := hnil
  obtain ⟨bk, off, rfl, hcl⟩ := h.cells (by omega)
  have KU : Hid _ := ru16_yes (some ⟨bk, off, none⟩) c l 4 W0 r0 hnil hll hc hcm (by decide) (by omega)
  have y0 := kept (b := bk) (o := off + 0) b0 (hcl 0 (by omega))
  have y7 := kept (b := bk) (o := off + 7) b0 (hcl 7 (by omega))
  have i0 : (0 : Int) < (l.length : Int) := by omega
  have i7 : (7 : Int) < (l.length : Int) := by omega
  rw [Nat.add_zero] at y0
  obtain ⟨x0, e0⟩ : ∃ x, l.getD 0 0 = x := ⟨_, rfl⟩
  obtain ⟨x7, e7⟩ : ∃ x, l.getD 7 0 = x := ⟨_, rfl⟩
  obtain ⟨sz, es⟩ : ∃ x, u16 l 4 = x := ⟨_, rfl⟩
  have q0 := h.bytes.get 0
  have q7 := h.bytes.get 7
  have qs := u16_bd h.bytes 4
  rw [e0] at y0 q0
  rw [e7] at y7 q7
  rw [es] at KU qs
  have HE : Hid (l.getD 0 0 = x0 ∧ l.getD 7 0 = x7 ∧ u16 l 4 = sz) := ⟨e0, e7, es⟩
  have HPP : Hid (perr6 l = _) := hpp
  rw [e0] at hv
  have hv' : (x0 / 16 != 6) = true := by simpa using hv
  have zz := z0
  clear hcl e0 e7 es hpp
  go_enter Try.func16, Try.ntmps16
  obtain ⟨d0, d1, d2, d3, d4, d5, d6, d7, d8, d9, d10, d11, d12, d13, d14, dz⟩ := z0
  go_wp2
  exact rparse_ret6 (sIp_set zz _ _ _ _ _ _ _ _ _ _ _ _ _ _ _) rfl rfl rfl (bad6 HPP.out (by decide) (set15_below b0 (Nat.le_refl _) _ _ _ _ _ _ _ _ _ _ _ _ _ _ _))

set_option maxRecDepth 100000 in
set_option maxHeartbeats 16000000 in
theorem rparse6_e5 (a : Option Addr) (c : Nat) (l : List Int) (w : World) (h : Row w a l) (hnil : a = none → c = 0) (hll : l.length ≤ 140737488351232) (hc : l.length ≤ c) (hcm : c ≤ 9223372036854775807) (h40 : ¬ l.length < 40) (hv : l.getD 0 0 / 16 = 6) (h5 : u16 l 4 > (l.length : Int) - 40) :
    Calls Try.prog 16 #[.slice a l.length c] w (Got6 w l) := by
  obtain ⟨W0, hW0⟩ : ∃ W0, w.alloc (.cells zIp 38) = W0 := ⟨_, rfl⟩
  have b0 : Below w.heap.size w W0 := by rw [← hW0]; exact (Below.refl _ _).alloc (Nat.le_refl _) _
  have z0 : ZIp W0 w.heap.size := by rw [← hW0]; exact zIp_new w
  have s0 : W0.heap.size = w.heap.size + 1 := by rw [← hW0]; simp
  have r0 := h.below b0
  have hpp : perr6 l = 5 := by
    unfold perr6
    rw [if_neg h40, if_neg (by rw [hv]; simp), if_pos h5]
  have h40' : ¬ (l.length : Int) < 40 := by omega
  have hnil' := hnil
  obtain ⟨bk, off, rfl, hcl⟩ := h.cells (by omega)
  have KU : Hid _ := ru16_yes (some ⟨bk, off, none⟩) c l 4 W0 r0 hnil hll hc hcm (by decide) (by omega)
  have y0 := kept (b := bk) (o := off + 0) b0 (hcl 0 (by omega))
  have y7 := kept (b := bk) (o := off + 7) b0 (hcl 7 (by omega))
  have i0 : (0 : Int) < (l.length : Int) := by omega
  have i7 : (7 : Int) < (l.length : Int) := by omega
  rw [Nat.add_zero] at y0
  obtain ⟨x0, e0⟩ : ∃ x, l.getD 0 0 = x := ⟨_, rfl⟩
  obtain ⟨x7, e7⟩ : ∃ x, l.getD 7 0 = x := ⟨_, rfl⟩
  obtain ⟨sz, es⟩ : ∃ x, u16 l 4 = x := ⟨_, rfl⟩
  have q0 := h.bytes.get 0
  have q7 := h.bytes.get 7
  have qs := u16_bd h.bytes 4
  rw [e0] at y0 q0
  rw [e7] at y7 q7
  rw [es] at KU qs
  have HE : Hid (l.getD 0 0 = x0 ∧ l.getD 7 0 = x7 ∧ u16 l 4 = sz) := ⟨e0, e7, es⟩
  have HPP : Hid (perr6 l = _) := hpp
  rw [e0] at hv
  rw [es] at h5
  have hv' : (x0 / 16 != 6) = false := by simpa using hv
  clear hv
  clear hcl e0 e7 es hpp
  go_enter Try.func16, Try.ntmps16
  go_wp2_with fail
  refine Calls.mono KU.out ?_
  rintro e W1 ⟨rfl, bb⟩
  have b1 : Below w.heap.size w W1 := b0.trans (bb.mono b0.size)
  have z1 : ZIp W1 w.heap.size := z0.below (by omega) bb
  have k0 := kept (b := bk) (o := off) bb y0
  have k7 := kept (b := bk) (o := off + 7) bb y7
  have zz := z1
  clear KU z0 r0 hW0 y0 y7
  obtain ⟨d0, d1, d2, d3, d4, d5, d6, d7, d8, d9, d10, d11, d12, d13, d14, dz⟩ := z1
  go_wp2
  exact rparse_ret6 (sIp_set zz _ _ _ _ _ _ _ _ _ _ _ _ _ _ _) rfl rfl rfl (bad6 HPP.out (by decide) (set15_below b1 (Nat.le_refl _) _ _ _ _ _ _ _ _ _ _ _ _ _ _ _))

set_option maxRecDepth 100000 in
set_option maxHeartbeats 16000000 in
theorem rparse6_e26 (a : Option Addr) (c : Nat) (l : List Int) (w : World) (h : Row w a l) (hnil : a = none → c = 0) (hll : l.length ≤ 140737488351232) (hc : l.length ≤ c) (hcm : c ≤ 9223372036854775807) (h40 : ¬ l.length < 40) (hv : l.getD 0 0 / 16 = 6) (h5 : ¬ u16 l 4 > (l.length : Int) - 40) (h7 : l.getD 7 0 = 0) :
    Calls Try.prog 16 #[.slice a l.length c] w (Got6 w l) := by
  obtain ⟨W0, hW0⟩ : ∃ W0, w.alloc (.cells zIp 38) = W0 := ⟨_, rfl⟩
  have b0 : Below w.heap.size w W0 := by rw [← hW0]; exact (Below.refl _ _).alloc (Nat.le_refl _) _
  have z0 : ZIp W0 w.heap.size := by rw [← hW0]; exact zIp_new w
  have s0 : W0.heap.size = w.heap.size + 1 := by rw [← hW0]; simp
  have r0 := h.below b0
  have hpp : perr6 l = 26 := by
    unfold perr6
    rw [if_neg h40, if_neg (by rw [hv]; simp), if_neg h5, if_pos h7]
  have h40' : ¬ (l.length : Int) < 40 := by omega
  have hnil' := hnil
  obtain ⟨bk, off, rfl, hcl⟩ := h.cells (by omega)
  have KU : Hid _ := ru16_yes (some ⟨bk, off, none⟩) c l 4 W0 r0 hnil hll hc hcm (by decide) (by omega)
  have y0 := kept (b := bk) (o := off + 0) b0 (hcl 0 (by omega))
  have y7 := kept (b := bk) (o := off + 7) b0 (hcl 7 (by omega))
  have i0 : (0 : Int) < (l.length : Int) := by omega
  have i7 : (7 : Int) < (l.length : Int) := by omega
  rw [Nat.add_zero] at y0
  obtain ⟨x0, e0⟩ : ∃ x, l.getD 0 0 = x := ⟨_, rfl⟩
  obtain ⟨x7, e7⟩ : ∃ x, l.getD 7 0 = x := ⟨_, rfl⟩
  obtain ⟨sz, es⟩ : ∃ x, u16 l 4 = x := ⟨_, rfl⟩
  have q0 := h.bytes.get 0
  have q7 := h.bytes.get 7
  have qs := u16_bd h.bytes 4
  rw [e0] at y0 q0
  rw [e7] at y7 q7
  rw [es] at KU qs
  have HE : Hid (l.getD 0 0 = x0 ∧ l.getD 7 0 = x7 ∧ u16 l 4 = sz) := ⟨e0, e7, es⟩
  have HPP : Hid (perr6 l = _) := hpp
  rw [e0] at hv
  rw [es] at h5
  rw [e7] at h7
  have hv' : (x0 / 16 != 6) = false := by simpa using hv
  clear hv
  have h7' : (x7 == 0) = true := by simpa using h7
  clear h7
  clear hcl e0 e7 es hpp
  go_enter Try.func16, Try.ntmps16
  go_wp2_with fail
  refine Calls.mono KU.out ?_
  rintro e W1 ⟨rfl, bb⟩
  have b1 : Below w.heap.size w W1 := b0.trans (bb.mono b0.size)
  have z1 : ZIp W1 w.heap.size := z0.below (by omega) bb
  have k0 := kept (b := bk) (o := off) bb y0
  have k7 := kept (b := bk) (o := off + 7) bb y7
  have zz := z1
  clear KU z0 r0 hW0 y0 y7
  obtain ⟨d0, d1, d2, d3, d4, d5, d6, d7, d8, d9, d10, d11, d12, d13, d14, dz⟩ := z1
  go_wp2
  exact rparse_ret6 (sIp_set zz _ _ _ _ _ _ _ _ _ _ _ _ _ _ _) rfl rfl rfl (bad6 HPP.out (by decide) (set15_below b1 (Nat.le_refl _) _ _ _ _ _ _ _ _ _ _ _ _ _ _ _))

end Go.Proofs.Ytaohabpnenoegaa

namespace Go.Proofs.Ytaohabpnenoegaa
open Go.RowKit
set_option linter.unusedVariables false
set_option linter.unusedSimpArgs false

theorem yieldsIf_build {ops : Array Oper} {S : World → Prop} {o : Oper} {ac : Act} (hgd : o.guard = none) (t : TypeId) (parts : Array (Nat × Operand)) (ho : o.op = Op.build t parts)
    (vs : Array (Nat × Value)) (hv : parts.map (fun p => (p.1, ac.eval p.2)) = vs) (r : Value) (hrun : ∀ w, (Instr.build t vs).run Try.prog w = .ok r w) : YieldsIf Try.prog ops S o r ac := by
  refine .inl ⟨by simp [Region.wanted, hgd], fun w _ => ?_⟩
  subst hv
  simp [execOp, ho, hrun, Result.andThen]
theorem step_store {ops : Array Oper} {o : Oper} {ac : Act} {K : Act → World → Prop} {Q : Exit → Act → World → Prop} {Z : Prop} (w w' : World) (hgd : o.guard = none) (t : TypeId) (p x : Operand) (ho : o.op = Op.store t p x)
    (v1 v2 : Value) (hp : ac.eval p = v1) (hx : ac.eval x = v2) (hrun : (Instr.storeAt t v1 v2).run Try.prog w = .ok () w') (h : K (ac.put o.dst undef) w') :
    if Region.wanted o (yielded ops ac.tmps) = true then Oper.wp Try.prog o ac w K Q else Z := by
  have hw : Region.wanted o (yielded ops ac.tmps) = true := by simp [Region.wanted, hgd]
  rw [if_pos hw]
  subst hp
  subst hx
  simp [Oper.wp, Oper.upon, execOp, ho, hrun, Result.andThen]
  exact h

abbrev putA (W : World) (g : Nat) (x0 x7 x8 x13 : Value) : World := (((W.setCell ⟨g, 0, none⟩ x0).setCell ⟨g, 7, none⟩ x7).setCell ⟨g, 8, none⟩ x8).setCell ⟨g, 13, none⟩ x13
theorem sIp_put1 {W : World} {g i : Nat} {v0 v1 v2 v3 v4 v5 v6 v7 v8 v9 v10 v11 v12 v13 v14 : Value} (s : SIp W g v0 v1 v2 v3 v4 v5 v6 v7 v8 v9 v10 v11 v12 v13 v14) (x : Value) (hi : i < 15) : SIp (W.setCell ⟨g, i, none⟩ x) g (if i = 0 then x else v0) (if i = 1 then x else v1) (if i = 2 then x else v2) (if i = 3 then x else v3) (if i = 4 then x else v4) (if i = 5 then x else v5) (if i = 6 then x else v6) (if i = 7 then x else v7) (if i = 8 then x else v8) (if i = 9 then x else v9) (if i = 10 then x else v10) (if i = 11 then x else v11) (if i = 12 then x else v12) (if i = 13 then x else v13) (if i = 14 then x else v14) := by
  obtain ⟨c0, c1, c2, c3, c4, c5, c6, c7, c8, c9, c10, c11, c12, c13, c14⟩ := s
  have st : ∀ (j : Nat) (v : Value), W.cell? ⟨g, j, none⟩ = some v → (W.setCell ⟨g, i, none⟩ x).cell? ⟨g, j, none⟩ = some (if i = j then x else v) := fun j v hv => by
    by_cases e : i = j
    · subst e; rw [if_pos rfl]; exact put_same hv
    · rw [if_neg e, put_oth e]; exact hv
  exact ⟨st _ _ c0, st _ _ c1, st _ _ c2, st _ _ c3, st _ _ c4, st _ _ c5, st _ _ c6, st _ _ c7, st _ _ c8, st _ _ c9, st _ _ c10, st _ _ c11, st _ _ c12, st _ _ c13, st _ _ c14⟩
theorem sIp_putA {W : World} {g : Nat} {v0 v1 v2 v3 v4 v5 v6 v7 v8 v9 v10 v11 v12 v13 v14 : Value} (s : SIp W g v0 v1 v2 v3 v4 v5 v6 v7 v8 v9 v10 v11 v12 v13 v14) (x0 x7 x8 x13 : Value) : SIp (putA W g x0 x7 x8 x13) g x0 v1 v2 v3 v4 v5 v6 x7 x8 v9 v10 v11 v12 x13 v14 :=
  sIp_put1 (i := 13) (sIp_put1 (i := 8) (sIp_put1 (i := 7) (sIp_put1 (i := 0) s x0 (by decide)) x7 (by decide)) x8 (by decide)) x13 (by decide)
theorem sIp_put3 {W : World} {g : Nat} {v0 v1 v2 v3 v4 v5 v6 v7 v8 v9 v10 v11 v12 v13 v14 : Value} (s : SIp W g v0 v1 v2 v3 v4 v5 v6 v7 v8 v9 v10 v11 v12 v13 v14) (x1 x2 x3 : Value) : SIp (((W.setCell ⟨g, 1, none⟩ x1).setCell ⟨g, 2, none⟩ x2).setCell ⟨g, 3, none⟩ x3) g v0 x1 x2 x3 v4 v5 v6 v7 v8 v9 v10 v11 v12 v13 v14 :=
  sIp_put1 (i := 3) (sIp_put1 (i := 2) (sIp_put1 (i := 1) s x1 (by decide)) x2 (by decide)) x3 (by decide)
theorem sIp_put6 {W : World} {g : Nat} {v0 v1 v2 v3 v4 v5 v6 v7 v8 v9 v10 v11 v12 v13 v14 : Value} (s : SIp W g v0 v1 v2 v3 v4 v5 v6 v7 v8 v9 v10 v11 v12 v13 v14) (x1 x2 x3 : Value) : SIp (((W.setCell ⟨g, 4, none⟩ x1).setCell ⟨g, 5, none⟩ x2).setCell ⟨g, 6, none⟩ x3) g v0 v1 v2 v3 x1 x2 x3 v7 v8 v9 v10 v11 v12 v13 v14 :=
  sIp_put1 (i := 6) (sIp_put1 (i := 5) (sIp_put1 (i := 4) s x1 (by decide)) x2 (by decide)) x3 (by decide)
theorem sIp_put14 {W : World} {g : Nat} {v0 v1 v2 v3 v4 v5 v6 v7 v8 v9 v10 v11 v12 v13 v14 : Value} (s : SIp W g v0 v1 v2 v3 v4 v5 v6 v7 v8 v9 v10 v11 v12 v13 v14) (x : Value) : SIp (W.setCell ⟨g, 14, none⟩ x) g v0 v1 v2 v3 v4 v5 v6 v7 v8 v9 v10 v11 v12 v13 x :=
  sIp_put1 (i := 14) s x (by decide)

set_option maxRecDepth 100000 in
set_option maxHeartbeats 16000000 in
theorem rparse6_eW (a : Option Addr) (c : Nat) (l : List Int) (w : World) (h : Row w a l) (hnil : a = none → c = 0) (hll : l.length ≤ 140737488351232) (hc : l.length ≤ c) (hcm : c ≤ 9223372036854775807) (h40 : ¬ l.length < 40) (hv : l.getD 0 0 / 16 = 6) (h5 : ¬ u16 l 4 > (l.length : Int) - 40) (h7 : l.getD 7 0 ≠ 0) (hT : (T6 l).1 ≠ 0) :
    Calls Try.prog 16 #[.slice a l.length c] w (Got6 w l) := by
  obtain ⟨W0, hW0⟩ : ∃ W0, w.alloc (.cells zIp 38) = W0 := ⟨_, rfl⟩
  have b0 : Below w.heap.size w W0 := by rw [← hW0]; exact (Below.refl _ _).alloc (Nat.le_refl _) _
  have z0 : ZIp W0 w.heap.size := by rw [← hW0]; exact zIp_new w
  have s0 : W0.heap.size = w.heap.size + 1 := by rw [← hW0]; simp
  have r0 := h.below b0
  have hpp : perr6 l = (T6 l).1 := by
    unfold perr6
    rw [if_neg h40, if_neg (by rw [hv]; simp), if_neg h5, if_neg h7, if_pos hT]
  have h40' : ¬ (l.length : Int) < 40 := by omega
  have hnil' := hnil
  obtain ⟨bk, off, rfl, hcl⟩ := h.cells (by omega)
  have KU : Hid _ := ru16_yes (some ⟨bk, off, none⟩) c l 4 W0 r0 hnil hll hc hcm (by decide) (by omega)
  have y0 := kept (b := bk) (o := off + 0) b0 (hcl 0 (by omega))
  have y7 := kept (b := bk) (o := off + 7) b0 (hcl 7 (by omega))
  have i0 : (0 : Int) < (l.length : Int) := by omega
  have i7 : (7 : Int) < (l.length : Int) := by omega
  rw [Nat.add_zero] at y0
  obtain ⟨x0, e0⟩ : ∃ x, l.getD 0 0 = x := ⟨_, rfl⟩
  obtain ⟨x7, e7⟩ : ∃ x, l.getD 7 0 = x := ⟨_, rfl⟩
  obtain ⟨sz, es⟩ : ∃ x, u16 l 4 = x := ⟨_, rfl⟩
  have q0 := h.bytes.get 0
  have q7 := h.bytes.get 7
  have qs := u16_bd h.bytes 4
  rw [e0] at y0 q0
  rw [e7] at y7 q7
  rw [es] at KU qs
  have HE : Hid (l.getD 0 0 = x0 ∧ l.getD 7 0 = x7 ∧ u16 l 4 = sz) := ⟨e0, e7, es⟩
  have HPP : Hid (perr6 l = _) := hpp
  rw [e0] at hv
  rw [es] at h5
  rw [e7] at h7
  have hv' : (x0 / 16 != 6) = false := by simpa using hv
  clear hv
  have h7' : (x7 == 0) = false := by simpa using h7
  clear h7
  have y6 := kept (b := bk) (o := off + 6) b0 (hcl 6 (by omega))
  have i6 : (6 : Int) < (l.length : Int) := by omega
  obtain ⟨x6, e6⟩ : ∃ x, l.getD 6 0 = x := ⟨_, rfl⟩
  have q6 := h.bytes.get 6
  rw [e6] at y6 q6
  have HE6 : Hid (l.getD 6 0 = x6) := e6
  clear e6
  clear hcl e0 e7 es hpp
  go_enter Try.func16, Try.ntmps16
  go_wp2_with fail
  refine Calls.mono KU.out ?_
  rintro e W1 ⟨rfl, bb⟩
  have b1 : Below w.heap.size w W1 := b0.trans (bb.mono b0.size)
  have z1 : ZIp W1 w.heap.size := z0.below (by omega) bb
  have k0 := kept (b := bk) (o := off) bb y0
  have k7 := kept (b := bk) (o := off + 7) bb y7
  have zz := z1
  clear KU z0 r0 hW0 y0 y7
  have k6 := kept (b := bk) (o := off + 6) bb y6
  clear y6
  obtain ⟨m, rfl⟩ := Int.eq_ofNat_of_zero_le qs.1
  have hm40 : 40 + m ≤ l.length := by omega
  have qm1 : (m : Int) ≤ 65535 := qs.2
  have qm2 : m ≤ 65535 := by omega
  have q60 : 0 ≤ x6 := q6.1
  have q61 : x6 ≤ 255 := q6.2
  have wx6 : IntKind.i64.wrap x6 = x6 := wraps_i64 _ (by omega) (by omega)
  have w40 : IntKind.i64.wrap (40 + (m : Int)) = 40 + (m : Int) := wraps_i64 _ (by omega) (by omega)
  have j1 : (40 : Int) + (m : Int) ≤ (c : Int) := by omega
  have j2 : 40 + m ≤ c := by omega
  have j3 : (0 : Int) ≤ 40 + (m : Int) := by omega
  have j5 : (40 + (m : Int)).toNat = 40 + m := by omega
  have s1 : w.heap.size < W1.heap.size := zz.lt
  obtain ⟨W2, hW2⟩ : ∃ W2, W1.drew.alloc (.cells #[.int .i64 x6, .int .i64 40, .slice (some ⟨bk, off, none⟩) (40 + m) c, .slice none 0 0, .bool true, .bool false, .bool true, .int .i64 0, .int .i64 0, .int .u64 0, .int .u64 0, .int .i64 0, .int .u64 0, .int .u64 0, .int .i64 0, .int .i64 0, .bool false, .int .u32 0, .int .i64 0, .bool false, .slice none 0 0, .slice none 0 0] 59) = W2 := ⟨_, rfl⟩
  have HW2 : Hid (_ = W2) := hW2
  clear hW2
  have nb : bk < W1.heap.size := by have := World.block_lt_of_cell? W1 _ k6; simpa using this
  have nb' : ¬ bk = W1.heap.size := by omega
  have k62 : W2.cell? ⟨bk, off + 6, none⟩ = some (.int .u8 x6) := by
    rw [← HW2.out]
    exact kept_alloc (W := W1.drew) (Below.refl _ _) _ (by simpa using k6)
  have hbd : ∀ w9, (Instr.build 59 #[(0, .int .i64 x6), (1, .int .i64 40), (2, .slice (some ⟨bk, off, none⟩) (40 + m) c), (4, .bool true), (6, .bool true)]).run Try.prog w9 = .ok (.agg #[.int .i64 x6, .int .i64 40, .slice (some ⟨bk, off, none⟩) (40 + m) c, .slice none 0 0, .bool true, .bool false, .bool true, .int .i64 0, .int .i64 0, .int .u64 0, .int .u64 0, .int .i64 0, .int .u64 0, .int .u64 0, .int .i64 0, .int .i64 0, .bool false, .int .u32 0, .int .i64 0, .bool false, .slice none 0 0, .slice none 0 0]) w9 := fun w9 => by kernel_rfl
  have hst := run_storeAt_new (P := Try.prog) W1.drew 59 #[.int .i64 0, .int .i64 0, .slice none 0 0, .slice none 0 0, .bool false, .bool false, .bool false, .int .i64 0, .int .i64 0, .int .u64 0, .int .u64 0, .int .i64 0, .int .u64 0, .int .u64 0, .int .i64 0, .int .i64 0, .bool false, .int .u32 0, .int .i64 0, .bool false, .slice none 0 0, .slice none 0 0] #[.int .i64 x6, .int .i64 40, .slice (some ⟨bk, off, none⟩) (40 + m) c, .slice none 0 0, .bool true, .bool false, .bool true, .int .i64 0, .int .i64 0, .int .u64 0, .int .u64 0, .int .i64 0, .int .u64 0, .int .u64 0, .int .i64 0, .int .i64 0, .bool false, .int .u32 0, .int .i64 0, .bool false, .slice none 0 0, .slice none 0 0] (by kernel_rfl) rfl (by kernel_rfl)
  go_wp2_with fail
  refine wp_region_noPanic ?_
  refine wp_region_held_drew (S := fun w' => w'.cell? ⟨bk, off + 6, none⟩ = some (.int .u8 x6)) (by kernel_rfl) (by simpa using k6) (fun hHeld => ?_)
  refine wpAnyH_take (i := 0) (oi := { dst := some 35, op := Op.move (.tmp 0), type := 22, pos := "ref.go:160", after := #[], guard := none }) (v := (.slice (some ⟨bk, off, none⟩) l.length c)) rfl (by kernel_rfl) (by kernel_rfl) (by kernel_rfl) (fun _ _ _ h => h) (Or.inl ⟨by rfl, ?_⟩) hHeld ?_
  · intro w9 hSw
    try dsimp only at hSw
    go_simp
  try simp only [Act.put, List.setIfInBounds_toArray, List.set_cons_zero, List.set_cons_succ]
  refine wpAnyH_take (i := 1) (oi := { dst := some 36, op := Op.indexAddr 22 (.tmp 35) (.const (.int .i64 6)), type := 0, pos := "ref.go:160", after := #[{ on := 0, ground := Ground.data }], guard := none }) (v := (.pointer (some ⟨bk, off + 6, none⟩))) rfl (by kernel_rfl) (by kernel_rfl) (by kernel_rfl) (fun _ _ _ h => h) (Or.inl ⟨by rfl, ?_⟩) hHeld ?_
  · intro w9 hSw
    try dsimp only at hSw
    go_simp
  try simp only [Act.put, List.setIfInBounds_toArray, List.set_cons_zero, List.set_cons_succ]
  refine wpAnyH_take (i := 2) (oi := { dst := some 37, op := Op.load 5 (.tmp 36), type := 5, pos := "ref.go:160", after := #[{ on := 1, ground := Ground.data }], guard := none }) (v := (.int .u8 x6)) rfl (by kernel_rfl) (by kernel_rfl) (by kernel_rfl) (fun _ _ _ h => h) (Or.inl ⟨by rfl, ?_⟩) hHeld ?_
  · intro w9 hSw
    try dsimp only at hSw
    go_simp
  try simp only [Act.put, List.setIfInBounds_toArray, List.set_cons_zero, List.set_cons_succ]
  refine wpAnyH_take (i := 3) (oi := { dst := some 38, op := Op.convert 5 3 (.tmp 37), type := 3, pos := "ref.go:160", after := #[{ on := 2, ground := Ground.data }], guard := none }) (v := (.int .i64 x6)) rfl (by kernel_rfl) (by kernel_rfl) (by kernel_rfl) (fun _ _ _ h => h) (Or.inl ⟨by rfl, ?_⟩) hHeld ?_
  · intro w9 hSw
    try dsimp only at hSw
    go_simp
  try simp only [Act.put, List.setIfInBounds_toArray, List.set_cons_zero, List.set_cons_succ]
  refine wpAnyH_take (i := 4) (oi := { dst := some 39, op := Op.move (.tmp 0), type := 22, pos := "ref.go:160", after := #[], guard := none }) (v := (.slice (some ⟨bk, off, none⟩) l.length c)) rfl (by kernel_rfl) (by kernel_rfl) (by kernel_rfl) (fun _ _ _ h => h) (Or.inl ⟨by rfl, ?_⟩) hHeld ?_
  · intro w9 hSw
    try dsimp only at hSw
    go_simp
  try simp only [Act.put, List.setIfInBounds_toArray, List.set_cons_zero, List.set_cons_succ]
  refine wpAnyH_take (i := 5) (oi := { dst := some 40, op := Op.move (.tmp 4), type := 3, pos := "ref.go:160", after := #[], guard := none }) (v := (.int .i64 (m : Int))) rfl (by kernel_rfl) (by kernel_rfl) (by kernel_rfl) (fun _ _ _ h => h) (Or.inl ⟨by rfl, ?_⟩) hHeld ?_
  · intro w9 hSw
    try dsimp only at hSw
    go_simp
  try simp only [Act.put, List.setIfInBounds_toArray, List.set_cons_zero, List.set_cons_succ]
  refine wpAnyH_take (i := 6) (oi := { dst := some 41, op := Op.binOp BinOp.add 3 (.const (.int .i64 40)) (.tmp 40) 3, type := 3, pos := "ref.go:160", after := #[{ on := 5, ground := Ground.data }], guard := none }) (v := (.int .i64 (40 + (m : Int)))) rfl (by kernel_rfl) (by kernel_rfl) (by kernel_rfl) (fun _ _ _ h => h) (Or.inl ⟨by rfl, ?_⟩) hHeld ?_
  · intro w9 hSw
    try dsimp only at hSw
    go_simp
  try simp only [Act.put, List.setIfInBounds_toArray, List.set_cons_zero, List.set_cons_succ]
  refine wpAnyH_take (i := 7) (oi := { dst := some 42, op := Op.slice 22 (.tmp 39) none (some (.tmp 41)) none, type := 22, pos := "ref.go:160", after := #[{ on := 4, ground := Ground.data }, { on := 6, ground := Ground.data }], guard := none }) (v := (.slice (some ⟨bk, off, none⟩) (40 + m) c)) rfl (by kernel_rfl) (by kernel_rfl) (by kernel_rfl) (fun _ _ _ h => h) (Or.inl ⟨by rfl, ?_⟩) hHeld ?_
  · intro w9 hSw
    try dsimp only at hSw
    go_simp
  try simp only [Act.put, List.setIfInBounds_toArray, List.set_cons_zero, List.set_cons_succ]
  refine wpAnyH_take (i := 8) (oi := { dst := some 43, op := Op.build 59 #[(0, .tmp 38), (1, .const (.int .i64 40)), (2, .tmp 42), (4, .const (.bool true)), (6, .const (.bool true))], type := 59, pos := "ref.go:160", after := #[{ on := 3, ground := Ground.data }, { on := 7, ground := Ground.data }], guard := none }) (v := (.agg #[.int .i64 x6, .int .i64 40, .slice (some ⟨bk, off, none⟩) (40 + m) c, .slice none 0 0, .bool true, .bool false, .bool true, .int .i64 0, .int .i64 0, .int .u64 0, .int .u64 0, .int .i64 0, .int .u64 0, .int .u64 0, .int .i64 0, .int .i64 0, .bool false, .int .u32 0, .int .i64 0, .bool false, .slice none 0 0, .slice none 0 0])) rfl (by kernel_rfl) (by kernel_rfl) (by kernel_rfl) (fun _ _ _ h => h) (yieldsIf_build rfl _ _ rfl #[(0, .int .i64 x6), (1, .int .i64 40), (2, .slice (some ⟨bk, off, none⟩) (40 + m) c), (4, .bool true), (6, .bool true)] (by kernel_rfl) _ (fun w9 => hbd w9)) hHeld ?_
  try simp only [Act.put, List.setIfInBounds_toArray, List.set_cons_zero, List.set_cons_succ]
  refine wpAnyH_ready (rs := [9]) (by kernel_rfl) (by simp) ?_
  refine AllReadyH.cons (o := { dst := some 6, op := Op.alloc 59, type := 0, pos := "ref.go:160", after := #[], guard := none }) rfl (fun K hK => ?_) AllReadyH.nil
  go_simp
  refine hK.out _ _ ?_ (fun hHeld => ?_)
  · go_keep
  clear hK K
  try simp only [Act.put, List.setIfInBounds_toArray, List.set_cons_zero, List.set_cons_succ]
  refine wpAnyH_ready (rs := [10]) (by kernel_rfl) (by simp) ?_
  refine AllReadyH.cons (o := { dst := none, op := Op.store 59 (.tmp 6) (.tmp 43), type := 0, pos := "ref.go:160", after := #[{ on := 9, ground := Ground.data }, { on := 8, ground := Ground.data }, { on := 0, ground := Ground.phase }, { on := 1, ground := Ground.phase }, { on := 2, ground := Ground.phase }, { on := 3, ground := Ground.phase }, { on := 4, ground := Ground.phase }, { on := 5, ground := Ground.phase }, { on := 6, ground := Ground.phase }, { on := 7, ground := Ground.phase }, { on := 8, ground := Ground.phase }, { on := 9, ground := Ground.phase }], guard := none }) rfl (fun K hK => ?_) AllReadyH.nil
  refine step_store _ W2 rfl _ _ _ rfl _ _ (by kernel_rfl) (by kernel_rfl) (by rw [← HW2.out]; exact hst) ?_
  refine hK.out _ _ ?_ (fun hHeld => ?_)
  · show W2.cell? _ = _
    exact k62
  clear hK K
  try simp only [Act.put, List.setIfInBounds_toArray, List.set_cons_zero, List.set_cons_succ]
  refine wpAnyH_done (by kernel_rfl) ?_ _
  refine NoPanic.normal ?_
  clear hbd hst
  have hLl : (l.take (40 + m)).length = 40 + m := by rw [List.length_take]; omega
  have hLd : (l.take (40 + m)).drop 40 = (l.drop 40).take m := by rw [List.drop_take]; congr 1; omega
  have T2 : TW W2 W1.drew.heap.size (st0 x6 ((l.drop 40).take m) false) 40 (.slice (some ⟨bk, off, none⟩) (l.take (40 + m)).length c) (.slice none 0 0) true true := by
    rw [← HW2.out, hLl]
    exact tw_new W1.drew x6 40 _ _ false true
  have b12 : Below W1.heap.size W1 W2 := by rw [← HW2.out]; exact ((Below.refl _ _).drew).alloc (by simp) _
  have R2 : RT W1 W2 W1.drew.heap.size (st0 x6 ((l.drop 40).take m) false) 40 (l.take (40 + m)) (some ⟨bk, off, none⟩) c none 0 true W2 :=
    ⟨T2, (h.below b1).take (40 + m), by rw [hLl]; omega, hcm, hLd.symm, by rw [hLl]; omega, OwnsI.nil _ _, Below.refl _ _, Nat.zero_le _, fun e => by simp at e, fun _ => ⟨rfl, rfl⟩⟩
  have RA : Hid _ := rall_any W1.drew.heap.size (st0 x6 ((l.drop 40).take m) false) 40 (l.take (40 + m)) (some ⟨bk, off, none⟩) c none 0 true W1 W2 W2 R2 (by simp) b12 rfl
  have HTT : Hid (T6 l = wend (st0 x6 ((l.drop 40).take m) false)) := by
    show T6 l = _
    unfold T6
    rw [HE6.out, HE.out.2.2, Int.toNat_natCast]
  obtain ⟨TT, hTT⟩ : ∃ TT, wend (st0 x6 ((l.drop 40).take m) false) = TT := ⟨_, rfl⟩
  rw [hTT] at RA HTT
  have hgz : W1.drew.heap.size = W1.heap.size := by simp
  rw [hgz] at RA
  clear T2 R2 hTT HW2 w40 wx6 hgz
  go_wp2_with fail
  refine Calls.mono RA.out ?_
  rintro e W3 ⟨rfl, bel, fin⟩
  clear RA
  have b13 : Below W1.heap.size W1 W3 := b12.trans bel
  have b3 : Below w.heap.size w W3 := b1.trans (b13.mono (Nat.le_of_lt s1))
  have z3 : ZIp W3 w.heap.size := zz.below s1 b13
  have HP2 : Hid (perr6 l = TT.1) := by show perr6 l = _; rw [HPP.out, HTT.out]
  have HN : TT.1 ≠ 0 := by rw [← HTT.out]; exact hT
  obtain ⟨EE, tt⟩ := TT
  simp only at HP2 HN ⊢
  have HN' : (EE != 0) = true := by simpa using HN
  clear fin hT HTT HPP
  have z3' := z3
  obtain ⟨d0, d1, d2, d3, d4, d5, d6, d7, d8, d9, d10, d11, d12, d13, d14, dz⟩ := z3
  go_wp2
  exact rparse_ret6 (sIp_set z3' _ _ _ _ _ _ _ _ _ _ _ _ _ _ _) rfl rfl rfl (bad6 HP2.out HN (set15_below b3 (Nat.le_refl _) _ _ _ _ _ _ _ _ _ _ _ _ _ _ _))

end Go.Proofs.Ytaohabpnenoegaa

namespace Go.Proofs.Ytaohabpnenoegaa
open Go.RowKit
set_option linter.unusedVariables false
set_option linter.unusedSimpArgs false

set_option maxRecDepth 100000 in
set_option maxHeartbeats 16000000 in
theorem rparse6_x0 (a : Option Addr) (c : Nat) (l : List Int) (w : World) (h : Row w a l) (hnil : a = none → c = 0) (hll : l.length ≤ 140737488351232) (hc : l.length ≤ c) (hcm : c ≤ 9223372036854775807) (h40 : ¬ l.length < 40) (hv : l.getD 0 0 / 16 = 6) (h5 : ¬ u16 l 4 > (l.length : Int) - 40) (h7 : l.getD 7 0 ≠ 0) (hT : (T6 l).1 = 0) (hcu : (T6 l).2.cut = false) :
    Calls Try.prog 16 #[.slice a l.length c] w (Got6 w l) := by
  obtain ⟨W0, hW0⟩ : ∃ W0, w.alloc (.cells zIp 38) = W0 := ⟨_, rfl⟩
  have b0 : Below w.heap.size w W0 := by rw [← hW0]; exact (Below.refl _ _).alloc (Nat.le_refl _) _
  have z0 : ZIp W0 w.heap.size := by rw [← hW0]; exact zIp_new w
  have s0 : W0.heap.size = w.heap.size + 1 := by rw [← hW0]; simp
  have r0 := h.below b0
  have hpp : perr6 l = 0 := by
    unfold perr6
    rw [if_neg h40, if_neg (by rw [hv]; simp), if_neg h5, if_neg h7, if_neg (by rw [hT]; simp), if_neg (by rw [hcu]; simp)]
  have h40' : ¬ (l.length : Int) < 40 := by omega
  have hnil' := hnil
  obtain ⟨bk, off, rfl, hcl⟩ := h.cells (by omega)
  have KU : Hid _ := ru16_yes (some ⟨bk, off, none⟩) c l 4 W0 r0 hnil hll hc hcm (by decide) (by omega)
  have y0 := kept (b := bk) (o := off + 0) b0 (hcl 0 (by omega))
  have y7 := kept (b := bk) (o := off + 7) b0 (hcl 7 (by omega))
  have i0 : (0 : Int) < (l.length : Int) := by omega
  have i7 : (7 : Int) < (l.length : Int) := by omega
  rw [Nat.add_zero] at y0
  obtain ⟨x0, e0⟩ : ∃ x, l.getD 0 0 = x := ⟨_, rfl⟩
  obtain ⟨x7, e7⟩ : ∃ x, l.getD 7 0 = x := ⟨_, rfl⟩
  obtain ⟨sz, es⟩ : ∃ x, u16 l 4 = x := ⟨_, rfl⟩
  have q0 := h.bytes.get 0
  have q7 := h.bytes.get 7
  have qs := u16_bd h.bytes 4
  rw [e0] at y0 q0
  rw [e7] at y7 q7
  rw [es] at KU qs
  have HE : Hid (l.getD 0 0 = x0 ∧ l.getD 7 0 = x7 ∧ u16 l 4 = sz) := ⟨e0, e7, es⟩
  have HPP : Hid (perr6 l = _) := hpp
  rw [e0] at hv
  rw [es] at h5
  rw [e7] at h7
  have hv' : (x0 / 16 != 6) = false := by simpa using hv
  clear hv
  have h7' : (x7 == 0) = false := by simpa using h7
  clear h7
  have y6 := kept (b := bk) (o := off + 6) b0 (hcl 6 (by omega))
  have i6 : (6 : Int) < (l.length : Int) := by omega
  obtain ⟨x6, e6⟩ : ∃ x, l.getD 6 0 = x := ⟨_, rfl⟩
  have q6 := h.bytes.get 6
  rw [e6] at y6 q6
  have HE6 : Hid (l.getD 6 0 = x6) := e6
  clear e6
  clear hcl e0 e7 es hpp
  go_enter Try.func16, Try.ntmps16
  go_wp2_with fail
  refine Calls.mono KU.out ?_
  rintro e W1 ⟨rfl, bb⟩
  have b1 : Below w.heap.size w W1 := b0.trans (bb.mono b0.size)
  have z1 : ZIp W1 w.heap.size := z0.below (by omega) bb
  have k0 := kept (b := bk) (o := off) bb y0
  have k7 := kept (b := bk) (o := off + 7) bb y7
  have zz := z1
  clear KU z0 r0 hW0 y0 y7
  have k6 := kept (b := bk) (o := off + 6) bb y6
  clear y6
  obtain ⟨m, rfl⟩ := Int.eq_ofNat_of_zero_le qs.1
  have hm40 : 40 + m ≤ l.length := by omega
  have qm1 : (m : Int) ≤ 65535 := qs.2
  have qm2 : m ≤ 65535 := by omega
  have q60 : 0 ≤ x6 := q6.1
  have q61 : x6 ≤ 255 := q6.2
  have wx6 : IntKind.i64.wrap x6 = x6 := wraps_i64 _ (by omega) (by omega)
  have w40 : IntKind.i64.wrap (40 + (m : Int)) = 40 + (m : Int) := wraps_i64 _ (by omega) (by omega)
  have j1 : (40 : Int) + (m : Int) ≤ (c : Int) := by omega
  have j2 : 40 + m ≤ c := by omega
  have j3 : (0 : Int) ≤ 40 + (m : Int) := by omega
  have j5 : (40 + (m : Int)).toNat = 40 + m := by omega
  have s1 : w.heap.size < W1.heap.size := zz.lt
  obtain ⟨W2, hW2⟩ : ∃ W2, W1.drew.alloc (.cells #[.int .i64 x6, .int .i64 40, .slice (some ⟨bk, off, none⟩) (40 + m) c, .slice none 0 0, .bool true, .bool false, .bool true, .int .i64 0, .int .i64 0, .int .u64 0, .int .u64 0, .int .i64 0, .int .u64 0, .int .u64 0, .int .i64 0, .int .i64 0, .bool false, .int .u32 0, .int .i64 0, .bool false, .slice none 0 0, .slice none 0 0] 59) = W2 := ⟨_, rfl⟩
  have HW2 : Hid (_ = W2) := hW2
  clear hW2
  have nb : bk < W1.heap.size := by have := World.block_lt_of_cell? W1 _ k6; simpa using this
  have nb' : ¬ bk = W1.heap.size := by omega
  have k62 : W2.cell? ⟨bk, off + 6, none⟩ = some (.int .u8 x6) := by
    rw [← HW2.out]
    exact kept_alloc (W := W1.drew) (Below.refl _ _) _ (by simpa using k6)
  have hbd : ∀ w9, (Instr.build 59 #[(0, .int .i64 x6), (1, .int .i64 40), (2, .slice (some ⟨bk, off, none⟩) (40 + m) c), (4, .bool true), (6, .bool true)]).run Try.prog w9 = .ok (.agg #[.int .i64 x6, .int .i64 40, .slice (some ⟨bk, off, none⟩) (40 + m) c, .slice none 0 0, .bool true, .bool false, .bool true, .int .i64 0, .int .i64 0, .int .u64 0, .int .u64 0, .int .i64 0, .int .u64 0, .int .u64 0, .int .i64 0, .int .i64 0, .bool false, .int .u32 0, .int .i64 0, .bool false, .slice none 0 0, .slice none 0 0]) w9 := fun w9 => by kernel_rfl
  have hst := run_storeAt_new (P := Try.prog) W1.drew 59 #[.int .i64 0, .int .i64 0, .slice none 0 0, .slice none 0 0, .bool false, .bool false, .bool false, .int .i64 0, .int .i64 0, .int .u64 0, .int .u64 0, .int .i64 0, .int .u64 0, .int .u64 0, .int .i64 0, .int .i64 0, .bool false, .int .u32 0, .int .i64 0, .bool false, .slice none 0 0, .slice none 0 0] #[.int .i64 x6, .int .i64 40, .slice (some ⟨bk, off, none⟩) (40 + m) c, .slice none 0 0, .bool true, .bool false, .bool true, .int .i64 0, .int .i64 0, .int .u64 0, .int .u64 0, .int .i64 0, .int .u64 0, .int .u64 0, .int .i64 0, .int .i64 0, .bool false, .int .u32 0, .int .i64 0, .bool false, .slice none 0 0, .slice none 0 0] (by kernel_rfl) rfl (by kernel_rfl)
  go_wp2_with fail
  refine wp_region_noPanic ?_
  refine wp_region_held_drew (S := fun w' => w'.cell? ⟨bk, off + 6, none⟩ = some (.int .u8 x6)) (by kernel_rfl) (by simpa using k6) (fun hHeld => ?_)
  refine wpAnyH_take (i := 0) (oi := { dst := some 35, op := Op.move (.tmp 0), type := 22, pos := "ref.go:160", after := #[], guard := none }) (v := (.slice (some ⟨bk, off, none⟩) l.length c)) rfl (by kernel_rfl) (by kernel_rfl) (by kernel_rfl) (fun _ _ _ h => h) (Or.inl ⟨by rfl, ?_⟩) hHeld ?_
  · intro w9 hSw
    try dsimp only at hSw
    go_simp
  try simp only [Act.put, List.setIfInBounds_toArray, List.set_cons_zero, List.set_cons_succ]
  refine wpAnyH_take (i := 1) (oi := { dst := some 36, op := Op.indexAddr 22 (.tmp 35) (.const (.int .i64 6)), type := 0, pos := "ref.go:160", after := #[{ on := 0, ground := Ground.data }], guard := none }) (v := (.pointer (some ⟨bk, off + 6, none⟩))) rfl (by kernel_rfl) (by kernel_rfl) (by kernel_rfl) (fun _ _ _ h => h) (Or.inl ⟨by rfl, ?_⟩) hHeld ?_
  · intro w9 hSw
    try dsimp only at hSw
    go_simp
  try simp only [Act.put, List.setIfInBounds_toArray, List.set_cons_zero, List.set_cons_succ]
  refine wpAnyH_take (i := 2) (oi := { dst := some 37, op := Op.load 5 (.tmp 36), type := 5, pos := "ref.go:160", after := #[{ on := 1, ground := Ground.data }], guard := none }) (v := (.int .u8 x6)) rfl (by kernel_rfl) (by kernel_rfl) (by kernel_rfl) (fun _ _ _ h => h) (Or.inl ⟨by rfl, ?_⟩) hHeld ?_
  · intro w9 hSw
    try dsimp only at hSw
    go_simp
  try simp only [Act.put, List.setIfInBounds_toArray, List.set_cons_zero, List.set_cons_succ]
  refine wpAnyH_take (i := 3) (oi := { dst := some 38, op := Op.convert 5 3 (.tmp 37), type := 3, pos := "ref.go:160", after := #[{ on := 2, ground := Ground.data }], guard := none }) (v := (.int .i64 x6)) rfl (by kernel_rfl) (by kernel_rfl) (by kernel_rfl) (fun _ _ _ h => h) (Or.inl ⟨by rfl, ?_⟩) hHeld ?_
  · intro w9 hSw
    try dsimp only at hSw
    go_simp
  try simp only [Act.put, List.setIfInBounds_toArray, List.set_cons_zero, List.set_cons_succ]
  refine wpAnyH_take (i := 4) (oi := { dst := some 39, op := Op.move (.tmp 0), type := 22, pos := "ref.go:160", after := #[], guard := none }) (v := (.slice (some ⟨bk, off, none⟩) l.length c)) rfl (by kernel_rfl) (by kernel_rfl) (by kernel_rfl) (fun _ _ _ h => h) (Or.inl ⟨by rfl, ?_⟩) hHeld ?_
  · intro w9 hSw
    try dsimp only at hSw
    go_simp
  try simp only [Act.put, List.setIfInBounds_toArray, List.set_cons_zero, List.set_cons_succ]
  refine wpAnyH_take (i := 5) (oi := { dst := some 40, op := Op.move (.tmp 4), type := 3, pos := "ref.go:160", after := #[], guard := none }) (v := (.int .i64 (m : Int))) rfl (by kernel_rfl) (by kernel_rfl) (by kernel_rfl) (fun _ _ _ h => h) (Or.inl ⟨by rfl, ?_⟩) hHeld ?_
  · intro w9 hSw
    try dsimp only at hSw
    go_simp
  try simp only [Act.put, List.setIfInBounds_toArray, List.set_cons_zero, List.set_cons_succ]
  refine wpAnyH_take (i := 6) (oi := { dst := some 41, op := Op.binOp BinOp.add 3 (.const (.int .i64 40)) (.tmp 40) 3, type := 3, pos := "ref.go:160", after := #[{ on := 5, ground := Ground.data }], guard := none }) (v := (.int .i64 (40 + (m : Int)))) rfl (by kernel_rfl) (by kernel_rfl) (by kernel_rfl) (fun _ _ _ h => h) (Or.inl ⟨by rfl, ?_⟩) hHeld ?_
  · intro w9 hSw
    try dsimp only at hSw
    go_simp
  try simp only [Act.put, List.setIfInBounds_toArray, List.set_cons_zero, List.set_cons_succ]
  refine wpAnyH_take (i := 7) (oi := { dst := some 42, op := Op.slice 22 (.tmp 39) none (some (.tmp 41)) none, type := 22, pos := "ref.go:160", after := #[{ on := 4, ground := Ground.data }, { on := 6, ground := Ground.data }], guard := none }) (v := (.slice (some ⟨bk, off, none⟩) (40 + m) c)) rfl (by kernel_rfl) (by kernel_rfl) (by kernel_rfl) (fun _ _ _ h => h) (Or.inl ⟨by rfl, ?_⟩) hHeld ?_
  · intro w9 hSw
    try dsimp only at hSw
    go_simp
  try simp only [Act.put, List.setIfInBounds_toArray, List.set_cons_zero, List.set_cons_succ]
  refine wpAnyH_take (i := 8) (oi := { dst := some 43, op := Op.build 59 #[(0, .tmp 38), (1, .const (.int .i64 40)), (2, .tmp 42), (4, .const (.bool true)), (6, .const (.bool true))], type := 59, pos := "ref.go:160", after := #[{ on := 3, ground := Ground.data }, { on := 7, ground := Ground.data }], guard := none }) (v := (.agg #[.int .i64 x6, .int .i64 40, .slice (some ⟨bk, off, none⟩) (40 + m) c, .slice none 0 0, .bool true, .bool false, .bool true, .int .i64 0, .int .i64 0, .int .u64 0, .int .u64 0, .int .i64 0, .int .u64 0, .int .u64 0, .int .i64 0, .int .i64 0, .bool false, .int .u32 0, .int .i64 0, .bool false, .slice none 0 0, .slice none 0 0])) rfl (by kernel_rfl) (by kernel_rfl) (by kernel_rfl) (fun _ _ _ h => h) (yieldsIf_build rfl _ _ rfl #[(0, .int .i64 x6), (1, .int .i64 40), (2, .slice (some ⟨bk, off, none⟩) (40 + m) c), (4, .bool true), (6, .bool true)] (by kernel_rfl) _ (fun w9 => hbd w9)) hHeld ?_
  try simp only [Act.put, List.setIfInBounds_toArray, List.set_cons_zero, List.set_cons_succ]
  refine wpAnyH_ready (rs := [9]) (by kernel_rfl) (by simp) ?_
  refine AllReadyH.cons (o := { dst := some 6, op := Op.alloc 59, type := 0, pos := "ref.go:160", after := #[], guard := none }) rfl (fun K hK => ?_) AllReadyH.nil
  go_simp
  refine hK.out _ _ ?_ (fun hHeld => ?_)
  · go_keep
  clear hK K
  try simp only [Act.put, List.setIfInBounds_toArray, List.set_cons_zero, List.set_cons_succ]
  refine wpAnyH_ready (rs := [10]) (by kernel_rfl) (by simp) ?_
  refine AllReadyH.cons (o := { dst := none, op := Op.store 59 (.tmp 6) (.tmp 43), type := 0, pos := "ref.go:160", after := #[{ on := 9, ground := Ground.data }, { on := 8, ground := Ground.data }, { on := 0, ground := Ground.phase }, { on := 1, ground := Ground.phase }, { on := 2, ground := Ground.phase }, { on := 3, ground := Ground.phase }, { on := 4, ground := Ground.phase }, { on := 5, ground := Ground.phase }, { on := 6, ground := Ground.phase }, { on := 7, ground := Ground.phase }, { on := 8, ground := Ground.phase }, { on := 9, ground := Ground.phase }], guard := none }) rfl (fun K hK => ?_) AllReadyH.nil
  refine step_store _ W2 rfl _ _ _ rfl _ _ (by kernel_rfl) (by kernel_rfl) (by rw [← HW2.out]; exact hst) ?_
  refine hK.out _ _ ?_ (fun hHeld => ?_)
  · show W2.cell? _ = _
    exact k62
  clear hK K
  try simp only [Act.put, List.setIfInBounds_toArray, List.set_cons_zero, List.set_cons_succ]
  refine wpAnyH_done (by kernel_rfl) ?_ _
  refine NoPanic.normal ?_
  clear hbd hst
  have hLl : (l.take (40 + m)).length = 40 + m := by rw [List.length_take]; omega
  have hLd : (l.take (40 + m)).drop 40 = (l.drop 40).take m := by rw [List.drop_take]; congr 1; omega
  have T2 : TW W2 W1.drew.heap.size (st0 x6 ((l.drop 40).take m) false) 40 (.slice (some ⟨bk, off, none⟩) (l.take (40 + m)).length c) (.slice none 0 0) true true := by
    rw [← HW2.out, hLl]
    exact tw_new W1.drew x6 40 _ _ false true
  have b12 : Below W1.heap.size W1 W2 := by rw [← HW2.out]; exact ((Below.refl _ _).drew).alloc (by simp) _
  have R2 : RT W1 W2 W1.drew.heap.size (st0 x6 ((l.drop 40).take m) false) 40 (l.take (40 + m)) (some ⟨bk, off, none⟩) c none 0 true W2 :=
    ⟨T2, (h.below b1).take (40 + m), by rw [hLl]; omega, hcm, hLd.symm, by rw [hLl]; omega, OwnsI.nil _ _, Below.refl _ _, Nat.zero_le _, fun e => by simp at e, fun _ => ⟨rfl, rfl⟩⟩
  have RA : Hid _ := rall_any W1.drew.heap.size (st0 x6 ((l.drop 40).take m) false) 40 (l.take (40 + m)) (some ⟨bk, off, none⟩) c none 0 true W1 W2 W2 R2 (by simp) b12 rfl
  have HTT : Hid (T6 l = wend (st0 x6 ((l.drop 40).take m) false)) := by
    show T6 l = _
    unfold T6
    rw [HE6.out, HE.out.2.2, Int.toNat_natCast]
  obtain ⟨TT, hTT⟩ : ∃ TT, wend (st0 x6 ((l.drop 40).take m) false) = TT := ⟨_, rfl⟩
  rw [hTT] at RA HTT
  have hgz : W1.drew.heap.size = W1.heap.size := by simp
  rw [hgz] at RA
  clear T2 R2 hTT HW2 w40 wx6 hgz
  go_wp2_with fail
  refine Calls.mono RA.out ?_
  rintro e W3 ⟨rfl, bel, fin⟩
  clear RA
  have b13 : Below W1.heap.size W1 W3 := b12.trans bel
  have b3 : Below w.heap.size w W3 := b1.trans (b13.mono (Nat.le_of_lt s1))
  have z3 : ZIp W3 w.heap.size := zz.below s1 b13
  obtain ⟨EE, tt⟩ := TT
  have hE0 : EE = 0 := by have := HTT.out; rw [this] at hT; exact hT
  subst hE0
  rw [HTT.out] at hcu
  simp only at hcu
  have HCU : Hid (tt.cut = false) := hcu
  clear hcu
  have HOF : Hid (0 ≤ tt.off ∧ tt.off ≤ 65535) := by
    show 0 ≤ tt.off ∧ tt.off ≤ 65535
    have := wend_off (l.getD 6 0) ((l.drop 40).take (u16 l 4).toNat) false ((h.bytes.drop 40).take _)
    have e := HTT.out
    unfold T6 at e
    rw [e] at this
    exact this
  obtain ⟨at_, xa, xc, R⟩ := fin rfl
  obtain ⟨ID, hID⟩ : ∃ ID, (if tt.cut = true then tt.id else 0) = ID := ⟨_, rfl⟩
  have g0 := R.tw.c0
  have g1 := R.tw.c1
  have g2 := R.tw.c2
  have g3 := R.tw.c3
  have g7 := R.tw.z 7 (by decide) (by decide) (by decide)
  have g8 := R.tw.z 8 (by decide) (by decide) (by decide)
  have g9 := R.tw.z 9 (by decide) (by decide) (by decide)
  have g10 := R.tw.z 10 (by decide) (by decide) (by decide)
  have g11 := R.tw.z 11 (by decide) (by decide) (by decide)
  have g12 := R.tw.z 12 (by decide) (by decide) (by decide)
  have g13 := R.tw.z 13 (by decide) (by decide) (by decide)
  have g14 := R.tw.z 14 (by decide) (by decide) (by decide)
  have g15 := R.tw.z 15 (by decide) (by decide) (by decide)
  have g16 := R.tw.c16
  have g17 := R.tw.c17
  have g18 := R.tw.c18
  have g19 := R.tw.c19
  have g20 := R.tw.z 20 (by decide) (by decide) (by decide)
  have g21 := R.tw.z 21 (by decide) (by decide) (by decide)
  simp [zIp] at g7 g8 g9 g10 g11 g12 g13 g14 g15 g20 g21
  rw [hID] at g17
  rw [hLl] at g2
  have y7 := kept (b := bk) (o := off + 7) b13 k7
  have s13 : W1.heap.size < W3.heap.size := R.tw.lt
  have sbk : bk < W1.heap.size := nb
  have q70 : 0 ≤ x7 := q7.1
  have q71 : x7 ≤ 255 := q7.2
  have wx7 : IntKind.i64.wrap x7 = x7 := wraps_i64 _ (by omega) (by omega)
  have HR : Hid _ := R
  have HID : Hid ((if tt.cut = true then tt.id else 0) = ID) := hID
  obtain ⟨W4, hW4⟩ : ∃ W4, W3.alloc (.cells #[.int .i64 0, .int .i64 0, .int .u64 0, .int .u64 0, .int .i64 0, .int .u64 0, .int .u64 0, .int .i64 0, .int .i64 0, .bool tt.cut, .int .u32 ID, .int .i64 tt.off, .bool tt.more, .slice none 0 0, .slice none 0 0] 38) = W4 := ⟨_, rfl⟩
  have b34 : Below W3.heap.size W3 W4 := by rw [← hW4]; exact (Below.refl _ _).alloc (Nat.le_refl _) _
  have HW4 : Hid (_ = W4) := hW4
  clear fin R hT hID k0 k7 k6 k62 hLd hW4
  go_wp2_with fail
  rw [HW4.out]
  have s4 : SIp W4 W3.heap.size (.int .i64 0) (.int .i64 0) (.int .u64 0) (.int .u64 0) (.int .i64 0) (.int .u64 0) (.int .u64 0) (.int .i64 0) (.int .i64 0) (.bool tt.cut) (.int .u32 ID) (.int .i64 tt.off) (.bool tt.more) (.slice none 0 0) (.slice none 0 0) := by rw [← HW4.out]; exact sIp_new W3 _ _ _ _ _ _ _ _ _ _ _ _ _ _ _
  have f4 : ∀ o, W4.frozen? ⟨W3.heap.size, o, none⟩ = false := fun o => by rw [← HW4.out]; simp
  have g0' := kept b34 g0
  have g3' := kept b34 g3
  have y7' := kept (b := bk) (o := off + 7) b34 y7
  have HG : Hid (W3.cell? ⟨W1.heap.size, 1, none⟩ = some (.int .i64 at_) ∧ W3.cell? ⟨W1.heap.size, 2, none⟩ = some (.slice (some ⟨bk, off, none⟩) (40 + m) c)) := ⟨g1, g2⟩
  have HS4 : Hid _ := s4
  have lt4 : W3.heap.size < W4.heap.size := World.block_lt_of_cell? W4 _ s4.c0
  obtain ⟨p0, p1, p2, p3, p4, p5, p6, p7, p8, p9, p10, p11, p12, p13, p14⟩ := s4
  clear g0 g1 g2 g3 g7 g8 g9 g10 g11 g12 g13 g14 g15 g16 g17 g18 g19 g20 g21 y7 HW4 p1 p2 p3 p4 p5 p6 p9 p10 p11 p12 p14
  have n31 : ¬ W3.heap.size = W1.heap.size := by omega
  have n13 : ¬ W1.heap.size = W3.heap.size := by omega
  have n3b : ¬ W3.heap.size = bk := by omega
  have nb3 : ¬ bk = W3.heap.size := by omega
  have fa := f4 0
  have fb := f4 7
  have fc := f4 8
  have fd := f4 13
  refine wp_region_noPanic ?_
  refine wp_region_held_drew (S := fun w' => w'.cell? ⟨W1.heap.size, 0, none⟩ = some (.int .i64 tt.next) ∧ w'.cell? ⟨bk, off + 7, none⟩ = some (.int .u8 x7) ∧ w'.cell? ⟨W1.heap.size, 3, none⟩ = some (.slice xa tt.ex.length xc)) (by kernel_rfl) ⟨by simpa using g0', by simpa using y7', by simpa using g3'⟩ (fun hHeld => ?_)
  refine wpAnyH_take (i := 0) (oi := { dst := some 51, op := Op.fieldAddr 59 (.tmp 6) 0, type := 0, pos := "ref.go:166", after := #[{ on := 9, ground := Ground.gcOnly Departure.lateStores }], guard := none }) (v := (.pointer (some ⟨W1.heap.size, 0, none⟩))) rfl (by kernel_rfl) (by kernel_rfl) (by kernel_rfl) (fun _ _ _ h => h) (Or.inl ⟨by rfl, ?_⟩) hHeld ?_
  · intro w9 hSw
    try dsimp only at hSw
    go_simp
  try simp only [Act.put, List.setIfInBounds_toArray, List.set_cons_zero, List.set_cons_succ]
  refine wpAnyH_take (i := 1) (oi := { dst := some 52, op := Op.load 3 (.tmp 51), type := 3, pos := "ref.go:166", after := #[{ on := 0, ground := Ground.data }, { on := 9, ground := Ground.gcOnly Departure.lateStores }], guard := none }) (v := (.int .i64 tt.next)) rfl (by kernel_rfl) (by kernel_rfl) (by kernel_rfl) (fun _ _ _ h => h) (Or.inl ⟨by rfl, ?_⟩) hHeld ?_
  · intro w9 hSw
    try dsimp only at hSw
    go_simp
  try simp only [Act.put, List.setIfInBounds_toArray, List.set_cons_zero, List.set_cons_succ]
  refine wpAnyH_take (i := 2) (oi := { dst := some 53, op := Op.move (.tmp 0), type := 22, pos := "ref.go:166", after := #[{ on := 11, ground := Ground.gcOnly Departure.lateStores }], guard := none }) (v := (.slice (some ⟨bk, off, none⟩) l.length c)) rfl (by kernel_rfl) (by kernel_rfl) (by kernel_rfl) (fun _ _ _ h => h) (Or.inl ⟨by rfl, ?_⟩) hHeld ?_
  · intro w9 hSw
    try dsimp only at hSw
    go_simp
  try simp only [Act.put, List.setIfInBounds_toArray, List.set_cons_zero, List.set_cons_succ]
  refine wpAnyH_take (i := 3) (oi := { dst := some 54, op := Op.indexAddr 22 (.tmp 53) (.const (.int .i64 7)), type := 0, pos := "ref.go:166", after := #[{ on := 2, ground := Ground.data }, { on := 11, ground := Ground.gcOnly Departure.lateStores }], guard := none }) (v := (.pointer (some ⟨bk, off + 7, none⟩))) rfl (by kernel_rfl) (by kernel_rfl) (by kernel_rfl) (fun _ _ _ h => h) (Or.inl ⟨by rfl, ?_⟩) hHeld ?_
  · intro w9 hSw
    try dsimp only at hSw
    go_simp
  try simp only [Act.put, List.setIfInBounds_toArray, List.set_cons_zero, List.set_cons_succ]
  refine wpAnyH_take (i := 4) (oi := { dst := some 55, op := Op.load 5 (.tmp 54), type := 5, pos := "ref.go:166", after := #[{ on := 3, ground := Ground.data }, { on := 11, ground := Ground.gcOnly Departure.lateStores }], guard := none }) (v := (.int .u8 x7)) rfl (by kernel_rfl) (by kernel_rfl) (by kernel_rfl) (fun _ _ _ h => h) (Or.inl ⟨by rfl, ?_⟩) hHeld ?_
  · intro w9 hSw
    try dsimp only at hSw
    go_simp
  try simp only [Act.put, List.setIfInBounds_toArray, List.set_cons_zero, List.set_cons_succ]
  refine wpAnyH_take (i := 5) (oi := { dst := some 56, op := Op.convert 5 3 (.tmp 55), type := 3, pos := "ref.go:166", after := #[{ on := 4, ground := Ground.data }, { on := 11, ground := Ground.gcOnly Departure.lateStores }], guard := none }) (v := (.int .i64 x7)) rfl (by kernel_rfl) (by kernel_rfl) (by kernel_rfl) (fun _ _ _ h => h) (Or.inl ⟨by rfl, ?_⟩) hHeld ?_
  · intro w9 hSw
    try dsimp only at hSw
    go_simp
  try simp only [Act.put, List.setIfInBounds_toArray, List.set_cons_zero, List.set_cons_succ]
  refine wpAnyH_take (i := 6) (oi := { dst := some 57, op := Op.fieldAddr 59 (.tmp 6) 3, type := 0, pos := "ref.go:166", after := #[{ on := 13, ground := Ground.gcOnly Departure.lateStores }], guard := none }) (v := (.pointer (some ⟨W1.heap.size, 3, none⟩))) rfl (by kernel_rfl) (by kernel_rfl) (by kernel_rfl) (fun _ _ _ h => h) (Or.inl ⟨by rfl, ?_⟩) hHeld ?_
  · intro w9 hSw
    try dsimp only at hSw
    go_simp
  try simp only [Act.put, List.setIfInBounds_toArray, List.set_cons_zero, List.set_cons_succ]
  refine wpAnyH_take (i := 7) (oi := { dst := some 58, op := Op.load 23 (.tmp 57), type := 23, pos := "ref.go:166", after := #[{ on := 6, ground := Ground.data }, { on := 13, ground := Ground.gcOnly Departure.lateStores }], guard := none }) (v := (.slice xa tt.ex.length xc)) rfl (by kernel_rfl) (by kernel_rfl) (by kernel_rfl) (fun _ _ _ h => h) (Or.inl ⟨by rfl, ?_⟩) hHeld ?_
  · intro w9 hSw
    try dsimp only at hSw
    go_simp
  try simp only [Act.put, List.setIfInBounds_toArray, List.set_cons_zero, List.set_cons_succ]
  refine wpAnyH_take (i := 8) (oi := { dst := some 59, op := Op.fieldAddr 38 (.tmp 8) 0, type := 0, pos := "ref.go:166", after := #[{ on := 0, ground := Ground.textOnly Departure.lateStores }, { on := 1, ground := Ground.textOnly Departure.lateStores }, { on := 2, ground := Ground.textOnly Departure.lateStores }, { on := 3, ground := Ground.textOnly Departure.lateStores }, { on := 4, ground := Ground.textOnly Departure.lateStores }, { on := 5, ground := Ground.textOnly Departure.lateStores }, { on := 6, ground := Ground.textOnly Departure.lateStores }, { on := 7, ground := Ground.textOnly Departure.lateStores }], guard := none }) (v := (.pointer (some ⟨W3.heap.size, 0, none⟩))) rfl (by kernel_rfl) (by kernel_rfl) (by kernel_rfl) (fun _ _ _ h => h) (Or.inl ⟨by rfl, ?_⟩) hHeld ?_
  · intro w9 hSw
    try dsimp only at hSw
    go_simp
  try simp only [Act.put, List.setIfInBounds_toArray, List.set_cons_zero, List.set_cons_succ]
  refine wpAnyH_ready (rs := [9]) (by kernel_rfl) (by simp) ?_
  refine AllReadyH.cons (o := { dst := none, op := Op.store 3 (.tmp 59) (.const (.int .i64 6)), type := 0, pos := "ref.go:166", after := #[{ on := 8, ground := Ground.data }, { on := 0, ground := Ground.textOnly Departure.lateStores }, { on := 1, ground := Ground.textOnly Departure.lateStores }, { on := 2, ground := Ground.textOnly Departure.lateStores }, { on := 3, ground := Ground.textOnly Departure.lateStores }, { on := 4, ground := Ground.textOnly Departure.lateStores }, { on := 5, ground := Ground.textOnly Departure.lateStores }, { on := 6, ground := Ground.textOnly Departure.lateStores }, { on := 7, ground := Ground.textOnly Departure.lateStores }], guard := none }) rfl (fun K hK => ?_) AllReadyH.nil
  go_simp
  refine hK.out _ _ ?_ (fun hHeld => ?_)
  · refine ⟨?_, ?_, ?_⟩ <;> simp [*, World.cell?_setCell_far]
  clear hK K
  try simp only [Act.put, List.setIfInBounds_toArray, List.set_cons_zero, List.set_cons_succ]
  refine wpAnyH_take (i := 10) (oi := { dst := some 60, op := Op.fieldAddr 38 (.tmp 8) 3, type := 0, pos := "ref.go:166", after := #[{ on := 0, ground := Ground.phase }, { on := 1, ground := Ground.phase }, { on := 2, ground := Ground.textOnly Departure.lateStores }, { on := 3, ground := Ground.textOnly Departure.lateStores }, { on := 4, ground := Ground.textOnly Departure.lateStores }, { on := 5, ground := Ground.textOnly Departure.lateStores }, { on := 6, ground := Ground.textOnly Departure.lateStores }, { on := 7, ground := Ground.textOnly Departure.lateStores }, { on := 8, ground := Ground.phase }, { on := 9, ground := Ground.phase }], guard := none }) (v := (.pointer (some ⟨W3.heap.size, 7, none⟩))) rfl (by kernel_rfl) (by kernel_rfl) (by kernel_rfl) (fun _ _ _ h => h) (Or.inl ⟨by rfl, ?_⟩) hHeld ?_
  · intro w9 hSw
    try dsimp only at hSw
    go_simp
  try simp only [Act.put, List.setIfInBounds_toArray, List.set_cons_zero, List.set_cons_succ]
  refine wpAnyH_ready (rs := [11]) (by kernel_rfl) (by simp) ?_
  refine AllReadyH.cons (o := { dst := none, op := Op.store 3 (.tmp 60) (.tmp 52), type := 0, pos := "ref.go:166", after := #[{ on := 10, ground := Ground.data }, { on := 1, ground := Ground.data }, { on := 9, ground := Ground.chain }, { on := 0, ground := Ground.phase }, { on := 1, ground := Ground.phase }, { on := 2, ground := Ground.textOnly Departure.lateStores }, { on := 3, ground := Ground.textOnly Departure.lateStores }, { on := 4, ground := Ground.textOnly Departure.lateStores }, { on := 5, ground := Ground.textOnly Departure.lateStores }, { on := 6, ground := Ground.textOnly Departure.lateStores }, { on := 7, ground := Ground.textOnly Departure.lateStores }, { on := 8, ground := Ground.phase }, { on := 9, ground := Ground.phase }], guard := none }) rfl (fun K hK => ?_) AllReadyH.nil
  go_simp
  refine hK.out _ _ ?_ (fun hHeld => ?_)
  · refine ⟨?_, ?_, ?_⟩ <;> simp [*, World.cell?_setCell_far]
  clear hK K
  try simp only [Act.put, List.setIfInBounds_toArray, List.set_cons_zero, List.set_cons_succ]
  refine wpAnyH_take (i := 12) (oi := { dst := some 61, op := Op.fieldAddr 38 (.tmp 8) 4, type := 0, pos := "ref.go:166", after := #[{ on := 0, ground := Ground.phase }, { on := 1, ground := Ground.phase }, { on := 2, ground := Ground.phase }, { on := 3, ground := Ground.phase }, { on := 4, ground := Ground.phase }, { on := 5, ground := Ground.phase }, { on := 6, ground := Ground.textOnly Departure.lateStores }, { on := 7, ground := Ground.textOnly Departure.lateStores }, { on := 8, ground := Ground.phase }, { on := 9, ground := Ground.phase }, { on := 10, ground := Ground.phase }, { on := 11, ground := Ground.phase }], guard := none }) (v := (.pointer (some ⟨W3.heap.size, 8, none⟩))) rfl (by kernel_rfl) (by kernel_rfl) (by kernel_rfl) (fun _ _ _ h => h) (Or.inl ⟨by rfl, ?_⟩) hHeld ?_
  · intro w9 hSw
    try dsimp only at hSw
    go_simp
  try simp only [Act.put, List.setIfInBounds_toArray, List.set_cons_zero, List.set_cons_succ]
  refine wpAnyH_ready (rs := [13]) (by kernel_rfl) (by simp) ?_
  refine AllReadyH.cons (o := { dst := none, op := Op.store 3 (.tmp 61) (.tmp 56), type := 0, pos := "ref.go:166", after := #[{ on := 12, ground := Ground.data }, { on := 5, ground := Ground.data }, { on := 11, ground := Ground.chain }, { on := 0, ground := Ground.phase }, { on := 1, ground := Ground.phase }, { on := 2, ground := Ground.phase }, { on := 3, ground := Ground.phase }, { on := 4, ground := Ground.phase }, { on := 5, ground := Ground.phase }, { on := 6, ground := Ground.textOnly Departure.lateStores }, { on := 7, ground := Ground.textOnly Departure.lateStores }, { on := 8, ground := Ground.phase }, { on := 9, ground := Ground.phase }, { on := 10, ground := Ground.phase }, { on := 11, ground := Ground.phase }], guard := none }) rfl (fun K hK => ?_) AllReadyH.nil
  go_simp
  refine hK.out _ _ ?_ (fun hHeld => ?_)
  · refine ⟨?_, ?_, ?_⟩ <;> simp [*, World.cell?_setCell_far]
  clear hK K
  try simp only [Act.put, List.setIfInBounds_toArray, List.set_cons_zero, List.set_cons_succ]
  refine wpAnyH_take (i := 14) (oi := { dst := some 62, op := Op.fieldAddr 38 (.tmp 8) 9, type := 0, pos := "ref.go:166", after := #[{ on := 0, ground := Ground.phase }, { on := 1, ground := Ground.phase }, { on := 2, ground := Ground.phase }, { on := 3, ground := Ground.phase }, { on := 4, ground := Ground.phase }, { on := 5, ground := Ground.phase }, { on := 6, ground := Ground.phase }, { on := 7, ground := Ground.phase }, { on := 8, ground := Ground.phase }, { on := 9, ground := Ground.phase }, { on := 10, ground := Ground.phase }, { on := 11, ground := Ground.phase }, { on := 12, ground := Ground.phase }, { on := 13, ground := Ground.phase }], guard := none }) (v := (.pointer (some ⟨W3.heap.size, 13, none⟩))) rfl (by kernel_rfl) (by kernel_rfl) (by kernel_rfl) (fun _ _ _ h => h) (Or.inl ⟨by rfl, ?_⟩) hHeld ?_
  · intro w9 hSw
    try dsimp only at hSw
    go_simp
  try simp only [Act.put, List.setIfInBounds_toArray, List.set_cons_zero, List.set_cons_succ]
  refine wpAnyH_ready (rs := [15]) (by kernel_rfl) (by simp) ?_
  refine AllReadyH.cons (o := { dst := none, op := Op.store 23 (.tmp 62) (.tmp 58), type := 0, pos := "ref.go:166", after := #[{ on := 14, ground := Ground.data }, { on := 7, ground := Ground.data }, { on := 13, ground := Ground.chain }, { on := 0, ground := Ground.phase }, { on := 1, ground := Ground.phase }, { on := 2, ground := Ground.phase }, { on := 3, ground := Ground.phase }, { on := 4, ground := Ground.phase }, { on := 5, ground := Ground.phase }, { on := 6, ground := Ground.phase }, { on := 7, ground := Ground.phase }, { on := 8, ground := Ground.phase }, { on := 9, ground := Ground.phase }, { on := 10, ground := Ground.phase }, { on := 11, ground := Ground.phase }, { on := 12, ground := Ground.phase }, { on := 13, ground := Ground.phase }], guard := none }) rfl (fun K hK => ?_) AllReadyH.nil
  go_simp
  refine hK.out _ _ ?_ (fun hHeld => ?_)
  · refine ⟨?_, ?_, ?_⟩ <;> simp [*, World.cell?_setCell_far]
  clear hK K
  try simp only [Act.put, List.setIfInBounds_toArray, List.set_cons_zero, List.set_cons_succ]
  refine wpAnyH_done (by kernel_rfl) ?_ _
  refine NoPanic.normal ?_
  obtain ⟨W5, hW5⟩ : ∃ W5, (putA W4 W3.heap.size (.int .i64 6) (.int .i64 tt.next) (.int .i64 x7) (.slice xa tt.ex.length xc)).drew = W5 := ⟨_, rfl⟩
  rw [hW5]
  have s5 : SIp W5 W3.heap.size (.int .i64 6) (.int .i64 0) (.int .u64 0) (.int .u64 0) (.int .i64 0) (.int .u64 0) (.int .u64 0) (.int .i64 tt.next) (.int .i64 x7) (.bool tt.cut) (.int .u32 ID) (.int .i64 tt.off) (.bool tt.more) (.slice xa tt.ex.length xc) (.slice none 0 0) := by
    rw [← hW5]
    exact (sIp_putA HS4.out _ _ _ _).below (B := (putA W4 W3.heap.size (.int .i64 6) (.int .i64 tt.next) (.int .i64 x7) (.slice xa tt.ex.length xc)).heap.size) (by simp only [World.size_setCell]; exact lt4) (below_drew _)
  have f5 : ∀ o, W5.frozen? ⟨W3.heap.size, o, none⟩ = false := fun o => by rw [← hW5]; simpa using f4 o
  have b35 : Below W3.heap.size W3 W5 := by
    rw [← hW5]
    exact ((((b34.setCell (Nat.le_refl _) _).setCell (Nat.le_refl _) _).setCell (Nat.le_refl _) _).setCell (Nat.le_refl _) _).drew
  have HR5 : Hid (Row W5 (some ⟨bk, off, none⟩) l) := h.below (b3.trans (b35.mono b3.size))
  clear hW5 p0 p7 p8 p13 fa fb fc fd f4 HS4 b34 g0' g3' y7'
  have HF : Hid (∀ (k : Nat) (z : Int) W, z = (k : Int) → k + 16 ≤ l.length → 0 < k → Row W (some ⟨bk, off, none⟩) l → Calls Try.prog 30 #[.slice (some ⟨bk, off + k, none⟩) 16 (c - k)] W fun e w' => e = .returned (.tuple #[(fromB (part l z 16)).1.v, .int .i64 (fromB (part l z 16)).2]) ∧ Below W.heap.size W w') := by
    intro k z W hz hk h0 hr
    subst hz
    have hd := (hr.drop c k hc).take 16
    have he : (l.drop k).take 16 = part l k 16 := by unfold part; simp
    have hn : (part l k 16).length = 16 := by rw [← he, List.length_take, List.length_drop]; omega
    rw [he] at hd
    have hd' : Row W (some ⟨bk, off + k, none⟩) (part l k 16) := by
      have hck : ¬ c = k := by omega
      rw [if_neg hck] at hd; simpa [Go.WideShapes.add_plain] using hd
    have := rfrom_any _ (c - k) _ W hd'
    rw [hn] at this
    exact this
  obtain ⟨⟨sf, sh, sl⟩, hSA⟩ : ∃ x : Ad, (fromB (part l 8 16)).1 = x := ⟨_, rfl⟩
  obtain ⟨⟨df, dh, dl⟩, hDA⟩ : ∃ x : Ad, (fromB (part l 24 16)).1 = x := ⟨_, rfl⟩
  obtain ⟨e8, hE8⟩ : ∃ x, (fromB (part l 8 16)).2 = x := ⟨_, rfl⟩
  obtain ⟨e24, hE24⟩ : ∃ x, (fromB (part l 24 16)).2 = x := ⟨_, rfl⟩
  have K8 : ∀ W, Row W (some ⟨bk, off, none⟩) l → Calls Try.prog 30 #[.slice (some ⟨bk, off + 8, none⟩) 16 (c - 8)] W fun e w' => e = .returned (.tuple #[(fromB (part l 8 16)).1.v, .int .i64 (fromB (part l 8 16)).2]) ∧ Below W.heap.size W w' := fun W hr => HF.out 8 8 W rfl (by omega) (by decide) hr
  have K24 : ∀ W, Row W (some ⟨bk, off, none⟩) l → Calls Try.prog 30 #[.slice (some ⟨bk, off + 24, none⟩) 16 (c - 24)] W fun e w' => e = .returned (.tuple #[(fromB (part l 24 16)).1.v, .int .i64 (fromB (part l 24 16)).2]) ∧ Below W.heap.size W w' := fun W hr => HF.out 24 24 W rfl (by omega) (by decide) hr
  simp only [hSA, hE8] at K8
  simp only [hDA, hE24] at K24
  have HK8 : Hid _ := K8
  have HK24 : Hid _ := K24
  have HAD : Hid ((fromB (part l 8 16)).1 = ⟨sf, sh, sl⟩ ∧ (fromB (part l 24 16)).1 = ⟨df, dh, dl⟩) := ⟨hSA, hDA⟩
  clear K8 K24 HF hSA hDA hE8 hE24
  have c8 : (24 : Int) ≤ (c : Int) := by omega
  have c24 : (40 : Int) ≤ (c : Int) := by omega
  have c8' : 24 ≤ c := by omega
  have c24' : 40 ≤ c := by omega
  go_wp2_with fail
  refine Calls.mono (HK8.out W5 HR5.out) ?_
  rintro e W6 ⟨rfl, b6⟩
  have lt5 : W3.heap.size < W5.heap.size := World.block_lt_of_cell? W5 _ s5.c0
  have s6 := s5.below lt5 b6
  have f6 : ∀ o, W6.frozen? ⟨W3.heap.size, o, none⟩ = false := fun o => (b6.frozen (p := ⟨W3.heap.size, o, none⟩) lt5).trans (f5 o)
  have b36 : Below W3.heap.size W3 W6 := b35.trans (b6.mono b35.size)
  have HS6 : Hid _ := s6
  have p1 := s6.c1
  have p2 := s6.c2
  have p3 := s6.c3
  have fa := f6 1
  have fb := f6 2
  have fc := f6 3
  have lt6 : W3.heap.size < W6.heap.size := World.block_lt_of_cell? W6 _ s6.c0
  obtain ⟨W7, hW7⟩ : ∃ W7, ((W6.setCell ⟨W3.heap.size, 1, none⟩ (.int .i64 sf)).setCell ⟨W3.heap.size, 2, none⟩ (.int .u64 sh)).setCell ⟨W3.heap.size, 3, none⟩ (.int .u64 sl) = W7 := ⟨_, rfl⟩
  have HW7 : Hid (_ = W7) := hW7
  clear hW7 HK8 s5 f5 b35 b6 lt5 s6
  go_wp2_with fail
  rw [HW7.out]
  have s7 : SIp W7 W3.heap.size (.int .i64 6) (.int .i64 sf) (.int .u64 sh) (.int .u64 sl) (.int .i64 0) (.int .u64 0) (.int .u64 0) (.int .i64 tt.next) (.int .i64 x7) (.bool tt.cut) (.int .u32 ID) (.int .i64 tt.off) (.bool tt.more) (.slice xa tt.ex.length xc) (.slice none 0 0) := by rw [← HW7.out]; exact sIp_put3 HS6.out _ _ _
  have f7 : ∀ o, W7.frozen? ⟨W3.heap.size, o, none⟩ = false := fun o => by rw [← HW7.out]; simpa using f6 o
  have b37 : Below W3.heap.size W3 W7 := by rw [← HW7.out]; exact ((b36.setCell (Nat.le_refl _) _).setCell (Nat.le_refl _) _).setCell (Nat.le_refl _) _
  have lt7 : W3.heap.size < W7.heap.size := World.block_lt_of_cell? W7 _ s7.c0
  clear HW7 HS6 f6 b36 p1 p2 p3 fa fb fc lt6
  refine Calls.mono (HK24.out W7 (h.below (b3.trans (b37.mono b3.size)))) ?_
  rintro e W8 ⟨rfl, b8⟩
  have s8 := s7.below lt7 b8
  have f8 : ∀ o, W8.frozen? ⟨W3.heap.size, o, none⟩ = false := fun o => (b8.frozen (p := ⟨W3.heap.size, o, none⟩) lt7).trans (f7 o)
  have b38 : Below W3.heap.size W3 W8 := b37.trans (b8.mono b37.size)
  have HS8 : Hid _ := s8
  have p4 := s8.c4
  have p5 := s8.c5
  have p6 := s8.c6
  have fa := f8 4
  have fb := f8 5
  have fc := f8 6
  obtain ⟨W9, hW9⟩ : ∃ W9, ((W8.setCell ⟨W3.heap.size, 4, none⟩ (.int .i64 df)).setCell ⟨W3.heap.size, 5, none⟩ (.int .u64 dh)).setCell ⟨W3.heap.size, 6, none⟩ (.int .u64 dl) = W9 := ⟨_, rfl⟩
  have b39 : Below W3.heap.size W3 W9 := by rw [← hW9]; exact ((b38.setCell (Nat.le_refl _) _).setCell (Nat.le_refl _) _).setCell (Nat.le_refl _) _
  have s9 : SIp W9 W3.heap.size (.int .i64 6) (.int .i64 sf) (.int .u64 sh) (.int .u64 sl) (.int .i64 df) (.int .u64 dh) (.int .u64 dl) (.int .i64 tt.next) (.int .i64 x7) (.bool tt.cut) (.int .u32 ID) (.int .i64 tt.off) (.bool tt.more) (.slice xa tt.ex.length xc) (.slice none 0 0) := by rw [← hW9]; exact sIp_put6 HS8.out _ _ _
  have f9 : ∀ o, W9.frozen? ⟨W3.heap.size, o, none⟩ = false := fun o => by rw [← hW9]; simpa using f8 o
  have lt9 : W3.heap.size < W9.heap.size := World.block_lt_of_cell? W9 _ s9.c0
  have HS9 : Hid _ := s9
  have q1 := kept b39 HG.out.1
  have q2 := kept b39 HG.out.2
  have hat : at_ ≤ 40 + m := by have := HR.out.atl; rw [hLl] at this; exact this
  have hdr := ((HR.out.row.below b13).below b39).drop c at_ (by rw [hLl]; omega)
  rw [← HR.out.lis] at hdr
  have hll2 : 40 + m - at_ = tt.l.length := by rw [HR.out.lis, List.length_drop, hLl]
  have hdr' : Row W9 (if c = at_ then some ⟨bk, off, none⟩ else some ⟨bk, off + at_, none⟩) tt.l := by
    by_cases hca : c = at_
    · rw [if_pos hca] at hdr ⊢; exact hdr
    · rw [if_neg hca] at hdr ⊢; simpa [Go.WideShapes.add_plain] using hdr
  obtain ⟨AA, hAA⟩ : ∃ A : Option Addr, (if c = at_ then some ⟨bk, off, none⟩ else some ⟨bk, off + at_, none⟩) = A := ⟨_, rfl⟩
  have hAn : AA = none → c - at_ = 0 := by
    intro e
    rw [e] at hAA
    split at hAA <;> cases hAA
  rw [hAA] at hdr'
  have hsm : tt.l.length ≤ 65575 := by omega
  have HBy : Hid (M.Bytes tt.l) := hdr'.bytes
  have i1 : (at_ : Int) ≤ 40 + (m : Int) := by omega
  have i2 : (at_ : Int) ≤ ((40 + m : Nat) : Int) := by omega
  have HLs : Hid _ := hdr'
  clear HK24 s7 f7 b37 lt7 b8 s8 f8 b38 hdr hdr' HS8 s9 HR5
  go_wp2_with (at_builtin; refine wpList_app2 _ rfl _ _ rfl W9.heap.size _ [] rfl (Owns.nil _ _) M.Bytes.nil AA (c - at_) tt.l rfl HLs.out hAn tt.l rfl ?c1 (Nat.le_refl _) ?_)
  case c1 => omega
  intro a8 c8 W10 o8 hc8 hn8 r8 b10 _
  have s10 := HS9.out.below lt9 b10
  have f10 := (b10.frozen (p := ⟨W3.heap.size, 14, none⟩) lt9).trans (f9 14)
  have p14 := s10.c14
  obtain ⟨W11, hW11⟩ : ∃ W11, W10.setCell ⟨W3.heap.size, 14, none⟩ (.slice a8 tt.l.length c8) = W11 := ⟨_, rfl⟩
  have HS11 : Hid (SIp W11 W3.heap.size (.int .i64 6) (.int .i64 sf) (.int .u64 sh) (.int .u64 sl) (.int .i64 df) (.int .u64 dh) (.int .u64 dl) (.int .i64 tt.next) (.int .i64 x7) (.bool tt.cut) (.int .u32 ID) (.int .i64 tt.off) (.bool tt.more) (.slice xa tt.ex.length xc) (.slice a8 tt.l.length c8)) := by
    have : SIp W11 W3.heap.size (.int .i64 6) (.int .i64 sf) (.int .u64 sh) (.int .u64 sl) (.int .i64 df) (.int .u64 dh) (.int .u64 dl) (.int .i64 tt.next) (.int .i64 x7) (.bool tt.cut) (.int .u32 ID) (.int .i64 tt.off) (.bool tt.more) (.slice xa tt.ex.length xc) (.slice a8 tt.l.length c8) := by rw [← hW11]; exact sIp_put14 s10 _
    exact this
  have fB : FB W3 W10 W9.heap.size a8 c8 tt.l := ⟨o8, hc8, hn8, by omega, HBy.out, b39.trans (b10.mono b39.size), b39.size⟩
  have HF11 : Hid (Fresh W3 W11 a8 c8 tt.l) := by
    have : Fresh W3 W11 a8 c8 tt.l := by rw [← hW11]; exact (fB.put lt9 (Nat.le_refl _) 14 _).fresh
    exact this
  have b311 := HF11.out.below
  have w3s : w.heap.size < W3.heap.size := by omega
  have HZ11 : Hid (ZIp W11 w.heap.size) := z3.below w3s b311
  have HB11 : Hid (Below w.heap.size w W11) := b3.trans (b311.mono b3.size)
  have HX11 : Hid (OwnsI W11 (W1.heap.size + 1) (.slice xa tt.ex.length xc) tt.ex) := HR.out.own.below b311
  have HFW : Hid (tt.ex.length ≤ 8) := HR.out.few
  have HPK : Hid (pk6 l = ⟨6, ⟨sf, sh, sl⟩, ⟨df, dh, dl⟩, tt.next, x7, tt.cut, ID, tt.off, tt.more, tt.l⟩) := by
    show pk6 l = _
    have hz := HR.out.zero
    unfold pk6
    rw [HTT.out, HE.out.2.1, HAD.out.1, HAD.out.2]
    simp only
    rw [HID.out]
    cases hct : tt.cut with
    | true => simp
    | false =>
      obtain ⟨z1, z2⟩ := hz hct
      rw [z1, z2]
      simp
  have HEE : Hid ((T6 l).2.ex = tt.ex) := by show (T6 l).2.ex = _; rw [HTT.out]
  clear o8 r8 b10 s10 fB b311 HR HID HAD q1 q2 hat hll2 HS9 f9 b39 i1 i2 HLs hAn hAA p4 p5 p6 fa fb fc hW9 HG HBy
  have s11 := HS11.out
  rw [HCU.out] at s11 HPK
  obtain ⟨p0, p1, p2, p3, p4, p5, p6, p7, p8, p9, p10, p11, p12, p13, p14'⟩ := s11
  obtain ⟨d0, d1, d2, d3, d4, d5, d6, d7, d8, d9, d10, d11, d12, d13, d14, dz⟩ := HZ11.out
  go_wp2
  exact rparse_ret6 (sIp_set HZ11.out _ _ _ _ _ _ _ _ _ _ _ _ _ _ _) rfl rfl rfl (good6 HPP.out HPK.out HEE.out HF11.out HX11.out (by omega) HFW.out HB11.out w3s)
end Go.Proofs.Ytaohabpnenoegaa

namespace Go.Proofs.Ytaohabpnenoegaa
open Go.RowKit
set_option linter.unusedVariables false
set_option linter.unusedSimpArgs false

set_option maxRecDepth 100000 in
set_option maxHeartbeats 16000000 in
theorem rparse6_F5 (a : Option Addr) (c : Nat) (l : List Int) (w : World) (h : Row w a l) (hnil : a = none → c = 0) (hll : l.length ≤ 140737488351232) (hc : l.length ≤ c) (hcm : c ≤ 9223372036854775807) (h40 : ¬ l.length < 40) (hv : l.getD 0 0 / 16 = 6) (h5 : ¬ u16 l 4 > (l.length : Int) - 40) (h7 : l.getD 7 0 ≠ 0) (hT : (T6 l).1 = 0) (hcu : (T6 l).2.cut = true) (hq : ((T6 l).2.more = true ∧ (T6 l).2.l.length % 8 ≠ 0)) :
    Calls Try.prog 16 #[.slice a l.length c] w (Got6 w l) := by
  obtain ⟨W0, hW0⟩ : ∃ W0, w.alloc (.cells zIp 38) = W0 := ⟨_, rfl⟩
  have b0 : Below w.heap.size w W0 := by rw [← hW0]; exact (Below.refl _ _).alloc (Nat.le_refl _) _
  have z0 : ZIp W0 w.heap.size := by rw [← hW0]; exact zIp_new w
  have s0 : W0.heap.size = w.heap.size + 1 := by rw [← hW0]; simp
  have r0 := h.below b0
  have hpp : perr6 l = 5 := by
    unfold perr6
    rw [if_neg h40, if_neg (by rw [hv]; simp), if_neg h5, if_neg h7, if_neg (by rw [hT]; simp), if_pos hcu]
    unfold wrongp
    rw [if_pos hq]
  have HQ : Hid _ := hq
  clear hq
  have h40' : ¬ (l.length : Int) < 40 := by omega
  have hnil' := hnil
  obtain ⟨bk, off, rfl, hcl⟩ := h.cells (by omega)
  have KU : Hid _ := ru16_yes (some ⟨bk, off, none⟩) c l 4 W0 r0 hnil hll hc hcm (by decide) (by omega)
  have y0 := kept (b := bk) (o := off + 0) b0 (hcl 0 (by omega))
  have y7 := kept (b := bk) (o := off + 7) b0 (hcl 7 (by omega))
  have i0 : (0 : Int) < (l.length : Int) := by omega
  have i7 : (7 : Int) < (l.length : Int) := by omega
  rw [Nat.add_zero] at y0
  obtain ⟨x0, e0⟩ : ∃ x, l.getD 0 0 = x := ⟨_, rfl⟩
  obtain ⟨x7, e7⟩ : ∃ x, l.getD 7 0 = x := ⟨_, rfl⟩
  obtain ⟨sz, es⟩ : ∃ x, u16 l 4 = x := ⟨_, rfl⟩
  have q0 := h.bytes.get 0
  have q7 := h.bytes.get 7
  have qs := u16_bd h.bytes 4
  rw [e0] at y0 q0
  rw [e7] at y7 q7
  rw [es] at KU qs
  have HE : Hid (l.getD 0 0 = x0 ∧ l.getD 7 0 = x7 ∧ u16 l 4 = sz) := ⟨e0, e7, es⟩
  have HPP : Hid (perr6 l = _) := hpp
  rw [e0] at hv
  rw [es] at h5
  rw [e7] at h7
  have hv' : (x0 / 16 != 6) = false := by simpa using hv
  clear hv
  have h7' : (x7 == 0) = false := by simpa using h7
  clear h7
  have y6 := kept (b := bk) (o := off + 6) b0 (hcl 6 (by omega))
  have i6 : (6 : Int) < (l.length : Int) := by omega
  obtain ⟨x6, e6⟩ : ∃ x, l.getD 6 0 = x := ⟨_, rfl⟩
  have q6 := h.bytes.get 6
  rw [e6] at y6 q6
  have HE6 : Hid (l.getD 6 0 = x6) := e6
  clear e6
  clear hcl e0 e7 es hpp
  go_enter Try.func16, Try.ntmps16
  go_wp2_with fail
  refine Calls.mono KU.out ?_
  rintro e W1 ⟨rfl, bb⟩
  have b1 : Below w.heap.size w W1 := b0.trans (bb.mono b0.size)
  have z1 : ZIp W1 w.heap.size := z0.below (by omega) bb
  have k0 := kept (b := bk) (o := off) bb y0
  have k7 := kept (b := bk) (o := off + 7) bb y7
  have zz := z1
  clear KU z0 r0 hW0 y0 y7
  have k6 := kept (b := bk) (o := off + 6) bb y6
  clear y6
  obtain ⟨m, rfl⟩ := Int.eq_ofNat_of_zero_le qs.1
  have hm40 : 40 + m ≤ l.length := by omega
  have qm1 : (m : Int) ≤ 65535 := qs.2
  have qm2 : m ≤ 65535 := by omega
  have q60 : 0 ≤ x6 := q6.1
  have q61 : x6 ≤ 255 := q6.2
  have wx6 : IntKind.i64.wrap x6 = x6 := wraps_i64 _ (by omega) (by omega)
  have w40 : IntKind.i64.wrap (40 + (m : Int)) = 40 + (m : Int) := wraps_i64 _ (by omega) (by omega)
  have j1 : (40 : Int) + (m : Int) ≤ (c : Int) := by omega
  have j2 : 40 + m ≤ c := by omega
  have j3 : (0 : Int) ≤ 40 + (m : Int) := by omega
  have j5 : (40 + (m : Int)).toNat = 40 + m := by omega
  have s1 : w.heap.size < W1.heap.size := zz.lt
  obtain ⟨W2, hW2⟩ : ∃ W2, W1.drew.alloc (.cells #[.int .i64 x6, .int .i64 40, .slice (some ⟨bk, off, none⟩) (40 + m) c, .slice none 0 0, .bool true, .bool false, .bool true, .int .i64 0, .int .i64 0, .int .u64 0, .int .u64 0, .int .i64 0, .int .u64 0, .int .u64 0, .int .i64 0, .int .i64 0, .bool false, .int .u32 0, .int .i64 0, .bool false, .slice none 0 0, .slice none 0 0] 59) = W2 := ⟨_, rfl⟩
  have HW2 : Hid (_ = W2) := hW2
  clear hW2
  have nb : bk < W1.heap.size := by have := World.block_lt_of_cell? W1 _ k6; simpa using this
  have nb' : ¬ bk = W1.heap.size := by omega
  have k62 : W2.cell? ⟨bk, off + 6, none⟩ = some (.int .u8 x6) := by
    rw [← HW2.out]
    exact kept_alloc (W := W1.drew) (Below.refl _ _) _ (by simpa using k6)
  have hbd : ∀ w9, (Instr.build 59 #[(0, .int .i64 x6), (1, .int .i64 40), (2, .slice (some ⟨bk, off, none⟩) (40 + m) c), (4, .bool true), (6, .bool true)]).run Try.prog w9 = .ok (.agg #[.int .i64 x6, .int .i64 40, .slice (some ⟨bk, off, none⟩) (40 + m) c, .slice none 0 0, .bool true, .bool false, .bool true, .int .i64 0, .int .i64 0, .int .u64 0, .int .u64 0, .int .i64 0, .int .u64 0, .int .u64 0, .int .i64 0, .int .i64 0, .bool false, .int .u32 0, .int .i64 0, .bool false, .slice none 0 0, .slice none 0 0]) w9 := fun w9 => by kernel_rfl
  have hst := run_storeAt_new (P := Try.prog) W1.drew 59 #[.int .i64 0, .int .i64 0, .slice none 0 0, .slice none 0 0, .bool false, .bool false, .bool false, .int .i64 0, .int .i64 0, .int .u64 0, .int .u64 0, .int .i64 0, .int .u64 0, .int .u64 0, .int .i64 0, .int .i64 0, .bool false, .int .u32 0, .int .i64 0, .bool false, .slice none 0 0, .slice none 0 0] #[.int .i64 x6, .int .i64 40, .slice (some ⟨bk, off, none⟩) (40 + m) c, .slice none 0 0, .bool true, .bool false, .bool true, .int .i64 0, .int .i64 0, .int .u64 0, .int .u64 0, .int .i64 0, .int .u64 0, .int .u64 0, .int .i64 0, .int .i64 0, .bool false, .int .u32 0, .int .i64 0, .bool false, .slice none 0 0, .slice none 0 0] (by kernel_rfl) rfl (by kernel_rfl)
  go_wp2_with fail
  refine wp_region_noPanic ?_
  refine wp_region_held_drew (S := fun w' => w'.cell? ⟨bk, off + 6, none⟩ = some (.int .u8 x6)) (by kernel_rfl) (by simpa using k6) (fun hHeld => ?_)
  refine wpAnyH_take (i := 0) (oi := { dst := some 35, op := Op.move (.tmp 0), type := 22, pos := "ref.go:160", after := #[], guard := none }) (v := (.slice (some ⟨bk, off, none⟩) l.length c)) rfl (by kernel_rfl) (by kernel_rfl) (by kernel_rfl) (fun _ _ _ h => h) (Or.inl ⟨by rfl, ?_⟩) hHeld ?_
  · intro w9 hSw
    try dsimp only at hSw
    go_simp
  try simp only [Act.put, List.setIfInBounds_toArray, List.set_cons_zero, List.set_cons_succ]
  refine wpAnyH_take (i := 1) (oi := { dst := some 36, op := Op.indexAddr 22 (.tmp 35) (.const (.int .i64 6)), type := 0, pos := "ref.go:160", after := #[{ on := 0, ground := Ground.data }], guard := none }) (v := (.pointer (some ⟨bk, off + 6, none⟩))) rfl (by kernel_rfl) (by kernel_rfl) (by kernel_rfl) (fun _ _ _ h => h) (Or.inl ⟨by rfl, ?_⟩) hHeld ?_
  · intro w9 hSw
    try dsimp only at hSw
    go_simp
  try simp only [Act.put, List.setIfInBounds_toArray, List.set_cons_zero, List.set_cons_succ]
  refine wpAnyH_take (i := 2) (oi := { dst := some 37, op := Op.load 5 (.tmp 36), type := 5, pos := "ref.go:160", after := #[{ on := 1, ground := Ground.data }], guard := none }) (v := (.int .u8 x6)) rfl (by kernel_rfl) (by kernel_rfl) (by kernel_rfl) (fun _ _ _ h => h) (Or.inl ⟨by rfl, ?_⟩) hHeld ?_
  · intro w9 hSw
    try dsimp only at hSw
    go_simp
  try simp only [Act.put, List.setIfInBounds_toArray, List.set_cons_zero, List.set_cons_succ]
  refine wpAnyH_take (i := 3) (oi := { dst := some 38, op := Op.convert 5 3 (.tmp 37), type := 3, pos := "ref.go:160", after := #[{ on := 2, ground := Ground.data }], guard := none }) (v := (.int .i64 x6)) rfl (by kernel_rfl) (by kernel_rfl) (by kernel_rfl) (fun _ _ _ h => h) (Or.inl ⟨by rfl, ?_⟩) hHeld ?_
  · intro w9 hSw
    try dsimp only at hSw
    go_simp
  try simp only [Act.put, List.setIfInBounds_toArray, List.set_cons_zero, List.set_cons_succ]
  refine wpAnyH_take (i := 4) (oi := { dst := some 39, op := Op.move (.tmp 0), type := 22, pos := "ref.go:160", after := #[], guard := none }) (v := (.slice (some ⟨bk, off, none⟩) l.length c)) rfl (by kernel_rfl) (by kernel_rfl) (by kernel_rfl) (fun _ _ _ h => h) (Or.inl ⟨by rfl, ?_⟩) hHeld ?_
  · intro w9 hSw
    try dsimp only at hSw
    go_simp
  try simp only [Act.put, List.setIfInBounds_toArray, List.set_cons_zero, List.set_cons_succ]
  refine wpAnyH_take (i := 5) (oi := { dst := some 40, op := Op.move (.tmp 4), type := 3, pos := "ref.go:160", after := #[], guard := none }) (v := (.int .i64 (m : Int))) rfl (by kernel_rfl) (by kernel_rfl) (by kernel_rfl) (fun _ _ _ h => h) (Or.inl ⟨by rfl, ?_⟩) hHeld ?_
  · intro w9 hSw
    try dsimp only at hSw
    go_simp
  try simp only [Act.put, List.setIfInBounds_toArray, List.set_cons_zero, List.set_cons_succ]
  refine wpAnyH_take (i := 6) (oi := { dst := some 41, op := Op.binOp BinOp.add 3 (.const (.int .i64 40)) (.tmp 40) 3, type := 3, pos := "ref.go:160", after := #[{ on := 5, ground := Ground.data }], guard := none }) (v := (.int .i64 (40 + (m : Int)))) rfl (by kernel_rfl) (by kernel_rfl) (by kernel_rfl) (fun _ _ _ h => h) (Or.inl ⟨by rfl, ?_⟩) hHeld ?_
  · intro w9 hSw
    try dsimp only at hSw
    go_simp
  try simp only [Act.put, List.setIfInBounds_toArray, List.set_cons_zero, List.set_cons_succ]
  refine wpAnyH_take (i := 7) (oi := { dst := some 42, op := Op.slice 22 (.tmp 39) none (some (.tmp 41)) none, type := 22, pos := "ref.go:160", after := #[{ on := 4, ground := Ground.data }, { on := 6, ground := Ground.data }], guard := none }) (v := (.slice (some ⟨bk, off, none⟩) (40 + m) c)) rfl (by kernel_rfl) (by kernel_rfl) (by kernel_rfl) (fun _ _ _ h => h) (Or.inl ⟨by rfl, ?_⟩) hHeld ?_
  · intro w9 hSw
    try dsimp only at hSw
    go_simp
  try simp only [Act.put, List.setIfInBounds_toArray, List.set_cons_zero, List.set_cons_succ]
  refine wpAnyH_take (i := 8) (oi := { dst := some 43, op := Op.build 59 #[(0, .tmp 38), (1, .const (.int .i64 40)), (2, .tmp 42), (4, .const (.bool true)), (6, .const (.bool true))], type := 59, pos := "ref.go:160", after := #[{ on := 3, ground := Ground.data }, { on := 7, ground := Ground.data }], guard := none }) (v := (.agg #[.int .i64 x6, .int .i64 40, .slice (some ⟨bk, off, none⟩) (40 + m) c, .slice none 0 0, .bool true, .bool false, .bool true, .int .i64 0, .int .i64 0, .int .u64 0, .int .u64 0, .int .i64 0, .int .u64 0, .int .u64 0, .int .i64 0, .int .i64 0, .bool false, .int .u32 0, .int .i64 0, .bool false, .slice none 0 0, .slice none 0 0])) rfl (by kernel_rfl) (by kernel_rfl) (by kernel_rfl) (fun _ _ _ h => h) (yieldsIf_build rfl _ _ rfl #[(0, .int .i64 x6), (1, .int .i64 40), (2, .slice (some ⟨bk, off, none⟩) (40 + m) c), (4, .bool true), (6, .bool true)] (by kernel_rfl) _ (fun w9 => hbd w9)) hHeld ?_
  try simp only [Act.put, List.setIfInBounds_toArray, List.set_cons_zero, List.set_cons_succ]
  refine wpAnyH_ready (rs := [9]) (by kernel_rfl) (by simp) ?_
  refine AllReadyH.cons (o := { dst := some 6, op := Op.alloc 59, type := 0, pos := "ref.go:160", after := #[], guard := none }) rfl (fun K hK => ?_) AllReadyH.nil
  go_simp
  refine hK.out _ _ ?_ (fun hHeld => ?_)
  · go_keep
  clear hK K
  try simp only [Act.put, List.setIfInBounds_toArray, List.set_cons_zero, List.set_cons_succ]
  refine wpAnyH_ready (rs := [10]) (by kernel_rfl) (by simp) ?_
  refine AllReadyH.cons (o := { dst := none, op := Op.store 59 (.tmp 6) (.tmp 43), type := 0, pos := "ref.go:160", after := #[{ on := 9, ground := Ground.data }, { on := 8, ground := Ground.data }, { on := 0, ground := Ground.phase }, { on := 1, ground := Ground.phase }, { on := 2, ground := Ground.phase }, { on := 3, ground := Ground.phase }, { on := 4, ground := Ground.phase }, { on := 5, ground := Ground.phase }, { on := 6, ground := Ground.phase }, { on := 7, ground := Ground.phase }, { on := 8, ground := Ground.phase }, { on := 9, ground := Ground.phase }], guard := none }) rfl (fun K hK => ?_) AllReadyH.nil
  refine step_store _ W2 rfl _ _ _ rfl _ _ (by kernel_rfl) (by kernel_rfl) (by rw [← HW2.out]; exact hst) ?_
  refine hK.out _ _ ?_ (fun hHeld => ?_)
  · show W2.cell? _ = _
    exact k62
  clear hK K
  try simp only [Act.put, List.setIfInBounds_toArray, List.set_cons_zero, List.set_cons_succ]
  refine wpAnyH_done (by kernel_rfl) ?_ _
  refine NoPanic.normal ?_
  clear hbd hst
  have hLl : (l.take (40 + m)).length = 40 + m := by rw [List.length_take]; omega
  have hLd : (l.take (40 + m)).drop 40 = (l.drop 40).take m := by rw [List.drop_take]; congr 1; omega
  have T2 : TW W2 W1.drew.heap.size (st0 x6 ((l.drop 40).take m) false) 40 (.slice (some ⟨bk, off, none⟩) (l.take (40 + m)).length c) (.slice none 0 0) true true := by
    rw [← HW2.out, hLl]
    exact tw_new W1.drew x6 40 _ _ false true
  have b12 : Below W1.heap.size W1 W2 := by rw [← HW2.out]; exact ((Below.refl _ _).drew).alloc (by simp) _
  have R2 : RT W1 W2 W1.drew.heap.size (st0 x6 ((l.drop 40).take m) false) 40 (l.take (40 + m)) (some ⟨bk, off, none⟩) c none 0 true W2 :=
    ⟨T2, (h.below b1).take (40 + m), by rw [hLl]; omega, hcm, hLd.symm, by rw [hLl]; omega, OwnsI.nil _ _, Below.refl _ _, Nat.zero_le _, fun e => by simp at e, fun _ => ⟨rfl, rfl⟩⟩
  have RA : Hid _ := rall_any W1.drew.heap.size (st0 x6 ((l.drop 40).take m) false) 40 (l.take (40 + m)) (some ⟨bk, off, none⟩) c none 0 true W1 W2 W2 R2 (by simp) b12 rfl
  have HTT : Hid (T6 l = wend (st0 x6 ((l.drop 40).take m) false)) := by
    show T6 l = _
    unfold T6
    rw [HE6.out, HE.out.2.2, Int.toNat_natCast]
  obtain ⟨TT, hTT⟩ : ∃ TT, wend (st0 x6 ((l.drop 40).take m) false) = TT := ⟨_, rfl⟩
  rw [hTT] at RA HTT
  have hgz : W1.drew.heap.size = W1.heap.size := by simp
  rw [hgz] at RA
  clear T2 R2 hTT HW2 w40 wx6 hgz
  go_wp2_with fail
  refine Calls.mono RA.out ?_
  rintro e W3 ⟨rfl, bel, fin⟩
  clear RA
  have b13 : Below W1.heap.size W1 W3 := b12.trans bel
  have b3 : Below w.heap.size w W3 := b1.trans (b13.mono (Nat.le_of_lt s1))
  have z3 : ZIp W3 w.heap.size := zz.below s1 b13
  obtain ⟨EE, tt⟩ := TT
  have hE0 : EE = 0 := by have := HTT.out; rw [this] at hT; exact hT
  subst hE0
  rw [HTT.out] at hcu
  simp only at hcu
  have HCU : Hid (tt.cut = true) := hcu
  have hq := HQ.out
  rw [HTT.out] at hq
  have HC : Hid ((tt.more = true ∧ tt.l.length % 8 ≠ 0)) := hq
  clear hcu hq HQ
  have HOF : Hid (0 ≤ tt.off ∧ tt.off ≤ 65535) := by
    show 0 ≤ tt.off ∧ tt.off ≤ 65535
    have := wend_off (l.getD 6 0) ((l.drop 40).take (u16 l 4).toNat) false ((h.bytes.drop 40).take _)
    have e := HTT.out
    unfold T6 at e
    rw [e] at this
    exact this
  obtain ⟨at_, xa, xc, R⟩ := fin rfl
  obtain ⟨ID, hID⟩ : ∃ ID, (if tt.cut = true then tt.id else 0) = ID := ⟨_, rfl⟩
  have g0 := R.tw.c0
  have g1 := R.tw.c1
  have g2 := R.tw.c2
  have g3 := R.tw.c3
  have g7 := R.tw.z 7 (by decide) (by decide) (by decide)
  have g8 := R.tw.z 8 (by decide) (by decide) (by decide)
  have g9 := R.tw.z 9 (by decide) (by decide) (by decide)
  have g10 := R.tw.z 10 (by decide) (by decide) (by decide)
  have g11 := R.tw.z 11 (by decide) (by decide) (by decide)
  have g12 := R.tw.z 12 (by decide) (by decide) (by decide)
  have g13 := R.tw.z 13 (by decide) (by decide) (by decide)
  have g14 := R.tw.z 14 (by decide) (by decide) (by decide)
  have g15 := R.tw.z 15 (by decide) (by decide) (by decide)
  have g16 := R.tw.c16
  have g17 := R.tw.c17
  have g18 := R.tw.c18
  have g19 := R.tw.c19
  have g20 := R.tw.z 20 (by decide) (by decide) (by decide)
  have g21 := R.tw.z 21 (by decide) (by decide) (by decide)
  simp [zIp] at g7 g8 g9 g10 g11 g12 g13 g14 g15 g20 g21
  rw [hID] at g17
  rw [hLl] at g2
  have y7 := kept (b := bk) (o := off + 7) b13 k7
  have s13 : W1.heap.size < W3.heap.size := R.tw.lt
  have sbk : bk < W1.heap.size := nb
  have q70 : 0 ≤ x7 := q7.1
  have q71 : x7 ≤ 255 := q7.2
  have wx7 : IntKind.i64.wrap x7 = x7 := wraps_i64 _ (by omega) (by omega)
  have HR : Hid _ := R
  have HID : Hid ((if tt.cut = true then tt.id else 0) = ID) := hID
  obtain ⟨W4, hW4⟩ : ∃ W4, W3.alloc (.cells #[.int .i64 0, .int .i64 0, .int .u64 0, .int .u64 0, .int .i64 0, .int .u64 0, .int .u64 0, .int .i64 0, .int .i64 0, .bool tt.cut, .int .u32 ID, .int .i64 tt.off, .bool tt.more, .slice none 0 0, .slice none 0 0] 38) = W4 := ⟨_, rfl⟩
  have b34 : Below W3.heap.size W3 W4 := by rw [← hW4]; exact (Below.refl _ _).alloc (Nat.le_refl _) _
  have HW4 : Hid (_ = W4) := hW4
  clear fin R hT hID k0 k7 k6 k62 hLd hW4
  go_wp2_with fail
  rw [HW4.out]
  have s4 : SIp W4 W3.heap.size (.int .i64 0) (.int .i64 0) (.int .u64 0) (.int .u64 0) (.int .i64 0) (.int .u64 0) (.int .u64 0) (.int .i64 0) (.int .i64 0) (.bool tt.cut) (.int .u32 ID) (.int .i64 tt.off) (.bool tt.more) (.slice none 0 0) (.slice none 0 0) := by rw [← HW4.out]; exact sIp_new W3 _ _ _ _ _ _ _ _ _ _ _ _ _ _ _
  have f4 : ∀ o, W4.frozen? ⟨W3.heap.size, o, none⟩ = false := fun o => by rw [← HW4.out]; simp
  have g0' := kept b34 g0
  have g3' := kept b34 g3
  have y7' := kept (b := bk) (o := off + 7) b34 y7
  have HG : Hid (W3.cell? ⟨W1.heap.size, 1, none⟩ = some (.int .i64 at_) ∧ W3.cell? ⟨W1.heap.size, 2, none⟩ = some (.slice (some ⟨bk, off, none⟩) (40 + m) c)) := ⟨g1, g2⟩
  have HS4 : Hid _ := s4
  have lt4 : W3.heap.size < W4.heap.size := World.block_lt_of_cell? W4 _ s4.c0
  obtain ⟨p0, p1, p2, p3, p4, p5, p6, p7, p8, p9, p10, p11, p12, p13, p14⟩ := s4
  clear g0 g1 g2 g3 g7 g8 g9 g10 g11 g12 g13 g14 g15 g16 g17 g18 g19 g20 g21 y7 HW4 p1 p2 p3 p4 p5 p6 p9 p10 p11 p12 p14
  have n31 : ¬ W3.heap.size = W1.heap.size := by omega
  have n13 : ¬ W1.heap.size = W3.heap.size := by omega
  have n3b : ¬ W3.heap.size = bk := by omega
  have nb3 : ¬ bk = W3.heap.size := by omega
  have fa := f4 0
  have fb := f4 7
  have fc := f4 8
  have fd := f4 13
  refine wp_region_noPanic ?_
  refine wp_region_held_drew (S := fun w' => w'.cell? ⟨W1.heap.size, 0, none⟩ = some (.int .i64 tt.next) ∧ w'.cell? ⟨bk, off + 7, none⟩ = some (.int .u8 x7) ∧ w'.cell? ⟨W1.heap.size, 3, none⟩ = some (.slice xa tt.ex.length xc)) (by kernel_rfl) ⟨by simpa using g0', by simpa using y7', by simpa using g3'⟩ (fun hHeld => ?_)
  refine wpAnyH_take (i := 0) (oi := { dst := some 51, op := Op.fieldAddr 59 (.tmp 6) 0, type := 0, pos := "ref.go:166", after := #[{ on := 9, ground := Ground.gcOnly Departure.lateStores }], guard := none }) (v := (.pointer (some ⟨W1.heap.size, 0, none⟩))) rfl (by kernel_rfl) (by kernel_rfl) (by kernel_rfl) (fun _ _ _ h => h) (Or.inl ⟨by rfl, ?_⟩) hHeld ?_
  · intro w9 hSw
    try dsimp only at hSw
    go_simp
  try simp only [Act.put, List.setIfInBounds_toArray, List.set_cons_zero, List.set_cons_succ]
  refine wpAnyH_take (i := 1) (oi := { dst := some 52, op := Op.load 3 (.tmp 51), type := 3, pos := "ref.go:166", after := #[{ on := 0, ground := Ground.data }, { on := 9, ground := Ground.gcOnly Departure.lateStores }], guard := none }) (v := (.int .i64 tt.next)) rfl (by kernel_rfl) (by kernel_rfl) (by kernel_rfl) (fun _ _ _ h => h) (Or.inl ⟨by rfl, ?_⟩) hHeld ?_
  · intro w9 hSw
    try dsimp only at hSw
    go_simp
  try simp only [Act.put, List.setIfInBounds_toArray, List.set_cons_zero, List.set_cons_succ]
  refine wpAnyH_take (i := 2) (oi := { dst := some 53, op := Op.move (.tmp 0), type := 22, pos := "ref.go:166", after := #[{ on := 11, ground := Ground.gcOnly Departure.lateStores }], guard := none }) (v := (.slice (some ⟨bk, off, none⟩) l.length c)) rfl (by kernel_rfl) (by kernel_rfl) (by kernel_rfl) (fun _ _ _ h => h) (Or.inl ⟨by rfl, ?_⟩) hHeld ?_
  · intro w9 hSw
    try dsimp only at hSw
    go_simp
  try simp only [Act.put, List.setIfInBounds_toArray, List.set_cons_zero, List.set_cons_succ]
  refine wpAnyH_take (i := 3) (oi := { dst := some 54, op := Op.indexAddr 22 (.tmp 53) (.const (.int .i64 7)), type := 0, pos := "ref.go:166", after := #[{ on := 2, ground := Ground.data }, { on := 11, ground := Ground.gcOnly Departure.lateStores }], guard := none }) (v := (.pointer (some ⟨bk, off + 7, none⟩))) rfl (by kernel_rfl) (by kernel_rfl) (by kernel_rfl) (fun _ _ _ h => h) (Or.inl ⟨by rfl, ?_⟩) hHeld ?_
  · intro w9 hSw
    try dsimp only at hSw
    go_simp
  try simp only [Act.put, List.setIfInBounds_toArray, List.set_cons_zero, List.set_cons_succ]
  refine wpAnyH_take (i := 4) (oi := { dst := some 55, op := Op.load 5 (.tmp 54), type := 5, pos := "ref.go:166", after := #[{ on := 3, ground := Ground.data }, { on := 11, ground := Ground.gcOnly Departure.lateStores }], guard := none }) (v := (.int .u8 x7)) rfl (by kernel_rfl) (by kernel_rfl) (by kernel_rfl) (fun _ _ _ h => h) (Or.inl ⟨by rfl, ?_⟩) hHeld ?_
  · intro w9 hSw
    try dsimp only at hSw
    go_simp
  try simp only [Act.put, List.setIfInBounds_toArray, List.set_cons_zero, List.set_cons_succ]
  refine wpAnyH_take (i := 5) (oi := { dst := some 56, op := Op.convert 5 3 (.tmp 55), type := 3, pos := "ref.go:166", after := #[{ on := 4, ground := Ground.data }, { on := 11, ground := Ground.gcOnly Departure.lateStores }], guard := none }) (v := (.int .i64 x7)) rfl (by kernel_rfl) (by kernel_rfl) (by kernel_rfl) (fun _ _ _ h => h) (Or.inl ⟨by rfl, ?_⟩) hHeld ?_
  · intro w9 hSw
    try dsimp only at hSw
    go_simp
  try simp only [Act.put, List.setIfInBounds_toArray, List.set_cons_zero, List.set_cons_succ]
  refine wpAnyH_take (i := 6) (oi := { dst := some 57, op := Op.fieldAddr 59 (.tmp 6) 3, type := 0, pos := "ref.go:166", after := #[{ on := 13, ground := Ground.gcOnly Departure.lateStores }], guard := none }) (v := (.pointer (some ⟨W1.heap.size, 3, none⟩))) rfl (by kernel_rfl) (by kernel_rfl) (by kernel_rfl) (fun _ _ _ h => h) (Or.inl ⟨by rfl, ?_⟩) hHeld ?_
  · intro w9 hSw
    try dsimp only at hSw
    go_simp
  try simp only [Act.put, List.setIfInBounds_toArray, List.set_cons_zero, List.set_cons_succ]
  refine wpAnyH_take (i := 7) (oi := { dst := some 58, op := Op.load 23 (.tmp 57), type := 23, pos := "ref.go:166", after := #[{ on := 6, ground := Ground.data }, { on := 13, ground := Ground.gcOnly Departure.lateStores }], guard := none }) (v := (.slice xa tt.ex.length xc)) rfl (by kernel_rfl) (by kernel_rfl) (by kernel_rfl) (fun _ _ _ h => h) (Or.inl ⟨by rfl, ?_⟩) hHeld ?_
  · intro w9 hSw
    try dsimp only at hSw
    go_simp
  try simp only [Act.put, List.setIfInBounds_toArray, List.set_cons_zero, List.set_cons_succ]
  refine wpAnyH_take (i := 8) (oi := { dst := some 59, op := Op.fieldAddr 38 (.tmp 8) 0, type := 0, pos := "ref.go:166", after := #[{ on := 0, ground := Ground.textOnly Departure.lateStores }, { on := 1, ground := Ground.textOnly Departure.lateStores }, { on := 2, ground := Ground.textOnly Departure.lateStores }, { on := 3, ground := Ground.textOnly Departure.lateStores }, { on := 4, ground := Ground.textOnly Departure.lateStores }, { on := 5, ground := Ground.textOnly Departure.lateStores }, { on := 6, ground := Ground.textOnly Departure.lateStores }, { on := 7, ground := Ground.textOnly Departure.lateStores }], guard := none }) (v := (.pointer (some ⟨W3.heap.size, 0, none⟩))) rfl (by kernel_rfl) (by kernel_rfl) (by kernel_rfl) (fun _ _ _ h => h) (Or.inl ⟨by rfl, ?_⟩) hHeld ?_
  · intro w9 hSw
    try dsimp only at hSw
    go_simp
  try simp only [Act.put, List.setIfInBounds_toArray, List.set_cons_zero, List.set_cons_succ]
  refine wpAnyH_ready (rs := [9]) (by kernel_rfl) (by simp) ?_
  refine AllReadyH.cons (o := { dst := none, op := Op.store 3 (.tmp 59) (.const (.int .i64 6)), type := 0, pos := "ref.go:166", after := #[{ on := 8, ground := Ground.data }, { on := 0, ground := Ground.textOnly Departure.lateStores }, { on := 1, ground := Ground.textOnly Departure.lateStores }, { on := 2, ground := Ground.textOnly Departure.lateStores }, { on := 3, ground := Ground.textOnly Departure.lateStores }, { on := 4, ground := Ground.textOnly Departure.lateStores }, { on := 5, ground := Ground.textOnly Departure.lateStores }, { on := 6, ground := Ground.textOnly Departure.lateStores }, { on := 7, ground := Ground.textOnly Departure.lateStores }], guard := none }) rfl (fun K hK => ?_) AllReadyH.nil
  go_simp
  refine hK.out _ _ ?_ (fun hHeld => ?_)
  · refine ⟨?_, ?_, ?_⟩ <;> simp [*, World.cell?_setCell_far]
  clear hK K
  try simp only [Act.put, List.setIfInBounds_toArray, List.set_cons_zero, List.set_cons_succ]
  refine wpAnyH_take (i := 10) (oi := { dst := some 60, op := Op.fieldAddr 38 (.tmp 8) 3, type := 0, pos := "ref.go:166", after := #[{ on := 0, ground := Ground.phase }, { on := 1, ground := Ground.phase }, { on := 2, ground := Ground.textOnly Departure.lateStores }, { on := 3, ground := Ground.textOnly Departure.lateStores }, { on := 4, ground := Ground.textOnly Departure.lateStores }, { on := 5, ground := Ground.textOnly Departure.lateStores }, { on := 6, ground := Ground.textOnly Departure.lateStores }, { on := 7, ground := Ground.textOnly Departure.lateStores }, { on := 8, ground := Ground.phase }, { on := 9, ground := Ground.phase }], guard := none }) (v := (.pointer (some ⟨W3.heap.size, 7, none⟩))) rfl (by kernel_rfl) (by kernel_rfl) (by kernel_rfl) (fun _ _ _ h => h) (Or.inl ⟨by rfl, ?_⟩) hHeld ?_
  · intro w9 hSw
    try dsimp only at hSw
    go_simp
  try simp only [Act.put, List.setIfInBounds_toArray, List.set_cons_zero, List.set_cons_succ]
  refine wpAnyH_ready (rs := [11]) (by kernel_rfl) (by simp) ?_
  refine AllReadyH.cons (o := { dst := none, op := Op.store 3 (.tmp 60) (.tmp 52), type := 0, pos := "ref.go:166", after := #[{ on := 10, ground := Ground.data }, { on := 1, ground := Ground.data }, { on := 9, ground := Ground.chain }, { on := 0, ground := Ground.phase }, { on := 1, ground := Ground.phase }, { on := 2, ground := Ground.textOnly Departure.lateStores }, { on := 3, ground := Ground.textOnly Departure.lateStores }, { on := 4, ground := Ground.textOnly Departure.lateStores }, { on := 5, ground := Ground.textOnly Departure.lateStores }, { on := 6, ground := Ground.textOnly Departure.lateStores }, { on := 7, ground := Ground.textOnly Departure.lateStores }, { on := 8, ground := Ground.phase }, { on := 9, ground := Ground.phase }], guard := none }) rfl (fun K hK => ?_) AllReadyH.nil
  go_simp
  refine hK.out _ _ ?_ (fun hHeld => ?_)
  · refine ⟨?_, ?_, ?_⟩ <;> simp [*, World.cell?_setCell_far]
  clear hK K
  try simp only [Act.put, List.setIfInBounds_toArray, List.set_cons_zero, List.set_cons_succ]
  refine wpAnyH_take (i := 12) (oi := { dst := some 61, op := Op.fieldAddr 38 (.tmp 8) 4, type := 0, pos := "ref.go:166", after := #[{ on := 0, ground := Ground.phase }, { on := 1, ground := Ground.phase }, { on := 2, ground := Ground.phase }, { on := 3, ground := Ground.phase }, { on := 4, ground := Ground.phase }, { on := 5, ground := Ground.phase }, { on := 6, ground := Ground.textOnly Departure.lateStores }, { on := 7, ground := Ground.textOnly Departure.lateStores }, { on := 8, ground := Ground.phase }, { on := 9, ground := Ground.phase }, { on := 10, ground := Ground.phase }, { on := 11, ground := Ground.phase }], guard := none }) (v := (.pointer (some ⟨W3.heap.size, 8, none⟩))) rfl (by kernel_rfl) (by kernel_rfl) (by kernel_rfl) (fun _ _ _ h => h) (Or.inl ⟨by rfl, ?_⟩) hHeld ?_
  · intro w9 hSw
    try dsimp only at hSw
    go_simp
  try simp only [Act.put, List.setIfInBounds_toArray, List.set_cons_zero, List.set_cons_succ]
  refine wpAnyH_ready (rs := [13]) (by kernel_rfl) (by simp) ?_
  refine AllReadyH.cons (o := { dst := none, op := Op.store 3 (.tmp 61) (.tmp 56), type := 0, pos := "ref.go:166", after := #[{ on := 12, ground := Ground.data }, { on := 5, ground := Ground.data }, { on := 11, ground := Ground.chain }, { on := 0, ground := Ground.phase }, { on := 1, ground := Ground.phase }, { on := 2, ground := Ground.phase }, { on := 3, ground := Ground.phase }, { on := 4, ground := Ground.phase }, { on := 5, ground := Ground.phase }, { on := 6, ground := Ground.textOnly Departure.lateStores }, { on := 7, ground := Ground.textOnly Departure.lateStores }, { on := 8, ground := Ground.phase }, { on := 9, ground := Ground.phase }, { on := 10, ground := Ground.phase }, { on := 11, ground := Ground.phase }], guard := none }) rfl (fun K hK => ?_) AllReadyH.nil
  go_simp
  refine hK.out _ _ ?_ (fun hHeld => ?_)
  · refine ⟨?_, ?_, ?_⟩ <;> simp [*, World.cell?_setCell_far]
  clear hK K
  try simp only [Act.put, List.setIfInBounds_toArray, List.set_cons_zero, List.set_cons_succ]
  refine wpAnyH_take (i := 14) (oi := { dst := some 62, op := Op.fieldAddr 38 (.tmp 8) 9, type := 0, pos := "ref.go:166", after := #[{ on := 0, ground := Ground.phase }, { on := 1, ground := Ground.phase }, { on := 2, ground := Ground.phase }, { on := 3, ground := Ground.phase }, { on := 4, ground := Ground.phase }, { on := 5, ground := Ground.phase }, { on := 6, ground := Ground.phase }, { on := 7, ground := Ground.phase }, { on := 8, ground := Ground.phase }, { on := 9, ground := Ground.phase }, { on := 10, ground := Ground.phase }, { on := 11, ground := Ground.phase }, { on := 12, ground := Ground.phase }, { on := 13, ground := Ground.phase }], guard := none }) (v := (.pointer (some ⟨W3.heap.size, 13, none⟩))) rfl (by kernel_rfl) (by kernel_rfl) (by kernel_rfl) (fun _ _ _ h => h) (Or.inl ⟨by rfl, ?_⟩) hHeld ?_
  · intro w9 hSw
    try dsimp only at hSw
    go_simp
  try simp only [Act.put, List.setIfInBounds_toArray, List.set_cons_zero, List.set_cons_succ]
  refine wpAnyH_ready (rs := [15]) (by kernel_rfl) (by simp) ?_
  refine AllReadyH.cons (o := { dst := none, op := Op.store 23 (.tmp 62) (.tmp 58), type := 0, pos := "ref.go:166", after := #[{ on := 14, ground := Ground.data }, { on := 7, ground := Ground.data }, { on := 13, ground := Ground.chain }, { on := 0, ground := Ground.phase }, { on := 1, ground := Ground.phase }, { on := 2, ground := Ground.phase }, { on := 3, ground := Ground.phase }, { on := 4, ground := Ground.phase }, { on := 5, ground := Ground.phase }, { on := 6, ground := Ground.phase }, { on := 7, ground := Ground.phase }, { on := 8, ground := Ground.phase }, { on := 9, ground := Ground.phase }, { on := 10, ground := Ground.phase }, { on := 11, ground := Ground.phase }, { on := 12, ground := Ground.phase }, { on := 13, ground := Ground.phase }], guard := none }) rfl (fun K hK => ?_) AllReadyH.nil
  go_simp
  refine hK.out _ _ ?_ (fun hHeld => ?_)
  · refine ⟨?_, ?_, ?_⟩ <;> simp [*, World.cell?_setCell_far]
  clear hK K
  try simp only [Act.put, List.setIfInBounds_toArray, List.set_cons_zero, List.set_cons_succ]
  refine wpAnyH_done (by kernel_rfl) ?_ _
  refine NoPanic.normal ?_
  obtain ⟨W5, hW5⟩ : ∃ W5, (putA W4 W3.heap.size (.int .i64 6) (.int .i64 tt.next) (.int .i64 x7) (.slice xa tt.ex.length xc)).drew = W5 := ⟨_, rfl⟩
  rw [hW5]
  have s5 : SIp W5 W3.heap.size (.int .i64 6) (.int .i64 0) (.int .u64 0) (.int .u64 0) (.int .i64 0) (.int .u64 0) (.int .u64 0) (.int .i64 tt.next) (.int .i64 x7) (.bool tt.cut) (.int .u32 ID) (.int .i64 tt.off) (.bool tt.more) (.slice xa tt.ex.length xc) (.slice none 0 0) := by
    rw [← hW5]
    exact (sIp_putA HS4.out _ _ _ _).below (B := (putA W4 W3.heap.size (.int .i64 6) (.int .i64 tt.next) (.int .i64 x7) (.slice xa tt.ex.length xc)).heap.size) (by simp only [World.size_setCell]; exact lt4) (below_drew _)
  have f5 : ∀ o, W5.frozen? ⟨W3.heap.size, o, none⟩ = false := fun o => by rw [← hW5]; simpa using f4 o
  have b35 : Below W3.heap.size W3 W5 := by
    rw [← hW5]
    exact ((((b34.setCell (Nat.le_refl _) _).setCell (Nat.le_refl _) _).setCell (Nat.le_refl _) _).setCell (Nat.le_refl _) _).drew
  have HR5 : Hid (Row W5 (some ⟨bk, off, none⟩) l) := h.below (b3.trans (b35.mono b3.size))
  clear hW5 p0 p7 p8 p13 fa fb fc fd f4 HS4 b34 g0' g3' y7'
  have HF : Hid (∀ (k : Nat) (z : Int) W, z = (k : Int) → k + 16 ≤ l.length → 0 < k → Row W (some ⟨bk, off, none⟩) l → Calls Try.prog 30 #[.slice (some ⟨bk, off + k, none⟩) 16 (c - k)] W fun e w' => e = .returned (.tuple #[(fromB (part l z 16)).1.v, .int .i64 (fromB (part l z 16)).2]) ∧ Below W.heap.size W w') := by
    intro k z W hz hk h0 hr
    subst hz
    have hd := (hr.drop c k hc).take 16
    have he : (l.drop k).take 16 = part l k 16 := by unfold part; simp
    have hn : (part l k 16).length = 16 := by rw [← he, List.length_take, List.length_drop]; omega
    rw [he] at hd
    have hd' : Row W (some ⟨bk, off + k, none⟩) (part l k 16) := by
      have hck : ¬ c = k := by omega
      rw [if_neg hck] at hd; simpa [Go.WideShapes.add_plain] using hd
    have := rfrom_any _ (c - k) _ W hd'
    rw [hn] at this
    exact this
  obtain ⟨⟨sf, sh, sl⟩, hSA⟩ : ∃ x : Ad, (fromB (part l 8 16)).1 = x := ⟨_, rfl⟩
  obtain ⟨⟨df, dh, dl⟩, hDA⟩ : ∃ x : Ad, (fromB (part l 24 16)).1 = x := ⟨_, rfl⟩
  obtain ⟨e8, hE8⟩ : ∃ x, (fromB (part l 8 16)).2 = x := ⟨_, rfl⟩
  obtain ⟨e24, hE24⟩ : ∃ x, (fromB (part l 24 16)).2 = x := ⟨_, rfl⟩
  have K8 : ∀ W, Row W (some ⟨bk, off, none⟩) l → Calls Try.prog 30 #[.slice (some ⟨bk, off + 8, none⟩) 16 (c - 8)] W fun e w' => e = .returned (.tuple #[(fromB (part l 8 16)).1.v, .int .i64 (fromB (part l 8 16)).2]) ∧ Below W.heap.size W w' := fun W hr => HF.out 8 8 W rfl (by omega) (by decide) hr
  have K24 : ∀ W, Row W (some ⟨bk, off, none⟩) l → Calls Try.prog 30 #[.slice (some ⟨bk, off + 24, none⟩) 16 (c - 24)] W fun e w' => e = .returned (.tuple #[(fromB (part l 24 16)).1.v, .int .i64 (fromB (part l 24 16)).2]) ∧ Below W.heap.size W w' := fun W hr => HF.out 24 24 W rfl (by omega) (by decide) hr
  simp only [hSA, hE8] at K8
  simp only [hDA, hE24] at K24
  have HK8 : Hid _ := K8
  have HK24 : Hid _ := K24
  have HAD : Hid ((fromB (part l 8 16)).1 = ⟨sf, sh, sl⟩ ∧ (fromB (part l 24 16)).1 = ⟨df, dh, dl⟩) := ⟨hSA, hDA⟩
  clear K8 K24 HF hSA hDA hE8 hE24
  have c8 : (24 : Int) ≤ (c : Int) := by omega
  have c24 : (40 : Int) ≤ (c : Int) := by omega
  have c8' : 24 ≤ c := by omega
  have c24' : 40 ≤ c := by omega
  go_wp2_with fail
  refine Calls.mono (HK8.out W5 HR5.out) ?_
  rintro e W6 ⟨rfl, b6⟩
  have lt5 : W3.heap.size < W5.heap.size := World.block_lt_of_cell? W5 _ s5.c0
  have s6 := s5.below lt5 b6
  have f6 : ∀ o, W6.frozen? ⟨W3.heap.size, o, none⟩ = false := fun o => (b6.frozen (p := ⟨W3.heap.size, o, none⟩) lt5).trans (f5 o)
  have b36 : Below W3.heap.size W3 W6 := b35.trans (b6.mono b35.size)
  have HS6 : Hid _ := s6
  have p1 := s6.c1
  have p2 := s6.c2
  have p3 := s6.c3
  have fa := f6 1
  have fb := f6 2
  have fc := f6 3
  have lt6 : W3.heap.size < W6.heap.size := World.block_lt_of_cell? W6 _ s6.c0
  obtain ⟨W7, hW7⟩ : ∃ W7, ((W6.setCell ⟨W3.heap.size, 1, none⟩ (.int .i64 sf)).setCell ⟨W3.heap.size, 2, none⟩ (.int .u64 sh)).setCell ⟨W3.heap.size, 3, none⟩ (.int .u64 sl) = W7 := ⟨_, rfl⟩
  have HW7 : Hid (_ = W7) := hW7
  clear hW7 HK8 s5 f5 b35 b6 lt5 s6
  go_wp2_with fail
  rw [HW7.out]
  have s7 : SIp W7 W3.heap.size (.int .i64 6) (.int .i64 sf) (.int .u64 sh) (.int .u64 sl) (.int .i64 0) (.int .u64 0) (.int .u64 0) (.int .i64 tt.next) (.int .i64 x7) (.bool tt.cut) (.int .u32 ID) (.int .i64 tt.off) (.bool tt.more) (.slice xa tt.ex.length xc) (.slice none 0 0) := by rw [← HW7.out]; exact sIp_put3 HS6.out _ _ _
  have f7 : ∀ o, W7.frozen? ⟨W3.heap.size, o, none⟩ = false := fun o => by rw [← HW7.out]; simpa using f6 o
  have b37 : Below W3.heap.size W3 W7 := by rw [← HW7.out]; exact ((b36.setCell (Nat.le_refl _) _).setCell (Nat.le_refl _) _).setCell (Nat.le_refl _) _
  have lt7 : W3.heap.size < W7.heap.size := World.block_lt_of_cell? W7 _ s7.c0
  clear HW7 HS6 f6 b36 p1 p2 p3 fa fb fc lt6
  refine Calls.mono (HK24.out W7 (h.below (b3.trans (b37.mono b3.size)))) ?_
  rintro e W8 ⟨rfl, b8⟩
  have s8 := s7.below lt7 b8
  have f8 : ∀ o, W8.frozen? ⟨W3.heap.size, o, none⟩ = false := fun o => (b8.frozen (p := ⟨W3.heap.size, o, none⟩) lt7).trans (f7 o)
  have b38 : Below W3.heap.size W3 W8 := b37.trans (b8.mono b37.size)
  have HS8 : Hid _ := s8
  have p4 := s8.c4
  have p5 := s8.c5
  have p6 := s8.c6
  have fa := f8 4
  have fb := f8 5
  have fc := f8 6
  obtain ⟨W9, hW9⟩ : ∃ W9, ((W8.setCell ⟨W3.heap.size, 4, none⟩ (.int .i64 df)).setCell ⟨W3.heap.size, 5, none⟩ (.int .u64 dh)).setCell ⟨W3.heap.size, 6, none⟩ (.int .u64 dl) = W9 := ⟨_, rfl⟩
  have b39 : Below W3.heap.size W3 W9 := by rw [← hW9]; exact ((b38.setCell (Nat.le_refl _) _).setCell (Nat.le_refl _) _).setCell (Nat.le_refl _) _
  have s9 : SIp W9 W3.heap.size (.int .i64 6) (.int .i64 sf) (.int .u64 sh) (.int .u64 sl) (.int .i64 df) (.int .u64 dh) (.int .u64 dl) (.int .i64 tt.next) (.int .i64 x7) (.bool tt.cut) (.int .u32 ID) (.int .i64 tt.off) (.bool tt.more) (.slice xa tt.ex.length xc) (.slice none 0 0) := by rw [← hW9]; exact sIp_put6 HS8.out _ _ _
  have f9 : ∀ o, W9.frozen? ⟨W3.heap.size, o, none⟩ = false := fun o => by rw [← hW9]; simpa using f8 o
  have lt9 : W3.heap.size < W9.heap.size := World.block_lt_of_cell? W9 _ s9.c0
  have HS9 : Hid _ := s9
  have q1 := kept b39 HG.out.1
  have q2 := kept b39 HG.out.2
  have hat : at_ ≤ 40 + m := by have := HR.out.atl; rw [hLl] at this; exact this
  have hdr := ((HR.out.row.below b13).below b39).drop c at_ (by rw [hLl]; omega)
  rw [← HR.out.lis] at hdr
  have hll2 : 40 + m - at_ = tt.l.length := by rw [HR.out.lis, List.length_drop, hLl]
  have hdr' : Row W9 (if c = at_ then some ⟨bk, off, none⟩ else some ⟨bk, off + at_, none⟩) tt.l := by
    by_cases hca : c = at_
    · rw [if_pos hca] at hdr ⊢; exact hdr
    · rw [if_neg hca] at hdr ⊢; simpa [Go.WideShapes.add_plain] using hdr
  obtain ⟨AA, hAA⟩ : ∃ A : Option Addr, (if c = at_ then some ⟨bk, off, none⟩ else some ⟨bk, off + at_, none⟩) = A := ⟨_, rfl⟩
  have hAn : AA = none → c - at_ = 0 := by
    intro e
    rw [e] at hAA
    split at hAA <;> cases hAA
  rw [hAA] at hdr'
  have hsm : tt.l.length ≤ 65575 := by omega
  have HBy : Hid (M.Bytes tt.l) := hdr'.bytes
  have i1 : (at_ : Int) ≤ 40 + (m : Int) := by omega
  have i2 : (at_ : Int) ≤ ((40 + m : Nat) : Int) := by omega
  have HLs : Hid _ := hdr'
  clear HK24 s7 f7 b37 lt7 b8 s8 f8 b38 hdr hdr' HS8 s9 HR5
  go_wp2_with (at_builtin; refine wpList_app2 _ rfl _ _ rfl W9.heap.size _ [] rfl (Owns.nil _ _) M.Bytes.nil AA (c - at_) tt.l rfl HLs.out hAn tt.l rfl ?c1 (Nat.le_refl _) ?_)
  case c1 => omega
  intro a8 c8 W10 o8 hc8 hn8 r8 b10 _
  have s10 := HS9.out.below lt9 b10
  have f10 := (b10.frozen (p := ⟨W3.heap.size, 14, none⟩) lt9).trans (f9 14)
  have p14 := s10.c14
  obtain ⟨W11, hW11⟩ : ∃ W11, W10.setCell ⟨W3.heap.size, 14, none⟩ (.slice a8 tt.l.length c8) = W11 := ⟨_, rfl⟩
  have HS11 : Hid (SIp W11 W3.heap.size (.int .i64 6) (.int .i64 sf) (.int .u64 sh) (.int .u64 sl) (.int .i64 df) (.int .u64 dh) (.int .u64 dl) (.int .i64 tt.next) (.int .i64 x7) (.bool tt.cut) (.int .u32 ID) (.int .i64 tt.off) (.bool tt.more) (.slice xa tt.ex.length xc) (.slice a8 tt.l.length c8)) := by
    have : SIp W11 W3.heap.size (.int .i64 6) (.int .i64 sf) (.int .u64 sh) (.int .u64 sl) (.int .i64 df) (.int .u64 dh) (.int .u64 dl) (.int .i64 tt.next) (.int .i64 x7) (.bool tt.cut) (.int .u32 ID) (.int .i64 tt.off) (.bool tt.more) (.slice xa tt.ex.length xc) (.slice a8 tt.l.length c8) := by rw [← hW11]; exact sIp_put14 s10 _
    exact this
  have fB : FB W3 W10 W9.heap.size a8 c8 tt.l := ⟨o8, hc8, hn8, by omega, HBy.out, b39.trans (b10.mono b39.size), b39.size⟩
  have HF11 : Hid (Fresh W3 W11 a8 c8 tt.l) := by
    have : Fresh W3 W11 a8 c8 tt.l := by rw [← hW11]; exact (fB.put lt9 (Nat.le_refl _) 14 _).fresh
    exact this
  have b311 := HF11.out.below
  have w3s : w.heap.size < W3.heap.size := by omega
  have HZ11 : Hid (ZIp W11 w.heap.size) := z3.below w3s b311
  have HB11 : Hid (Below w.heap.size w W11) := b3.trans (b311.mono b3.size)
  have HX11 : Hid (OwnsI W11 (W1.heap.size + 1) (.slice xa tt.ex.length xc) tt.ex) := HR.out.own.below b311
  have HFW : Hid (tt.ex.length ≤ 8) := HR.out.few
  have HPK : Hid (pk6 l = ⟨6, ⟨sf, sh, sl⟩, ⟨df, dh, dl⟩, tt.next, x7, tt.cut, ID, tt.off, tt.more, tt.l⟩) := by
    show pk6 l = _
    have hz := HR.out.zero
    unfold pk6
    rw [HTT.out, HE.out.2.1, HAD.out.1, HAD.out.2]
    simp only
    rw [HID.out]
    cases hct : tt.cut with
    | true => simp
    | false =>
      obtain ⟨z1, z2⟩ := hz hct
      rw [z1, z2]
      simp
  have HEE : Hid ((T6 l).2.ex = tt.ex) := by show (T6 l).2.ex = _; rw [HTT.out]
  clear o8 r8 b10 s10 fB b311 HR HID HAD q1 q2 hat hll2 HS9 f9 b39 i1 i2 HLs hAn hAA p4 p5 p6 fa fb fc hW9 HG HBy
  have s11 := HS11.out
  rw [HCU.out] at s11 HPK
  have hof := HOF.out
  have of0 : 0 ≤ tt.off := hof.1
  have of1 : tt.off ≤ 65535 := hof.2
  have htm : ((tt.l.length : Int)).tmod 8 = ((tt.l.length % 8 : Nat) : Int) := by
    rw [Int.tmod_eq_emod_of_nonneg (by omega)]
    omega
  clear hof
  obtain ⟨hmo, hmd⟩ := HC.out
  rw [hmo] at s11
  have hm' : (((tt.l.length % 8 : Nat) : Int) != 0) = true := by simp; omega
  clear hmo hmd HC
  obtain ⟨p0, p1, p2, p3, p4, p5, p6, p7, p8, p9, p10, p11, p12, p13, p14'⟩ := s11
  obtain ⟨d0, d1, d2, d3, d4, d5, d6, d7, d8, d9, d10, d11, d12, d13, d14, dz⟩ := HZ11.out
  go_wp2
  exact rparse_ret6 (sIp_set HZ11.out _ _ _ _ _ _ _ _ _ _ _ _ _ _ _) rfl rfl rfl (bad6 HPP.out (by decide) (set15_below HB11.out (Nat.le_refl _) _ _ _ _ _ _ _ _ _ _ _ _ _ _ _))
end Go.Proofs.Ytaohabpnenoegaa
