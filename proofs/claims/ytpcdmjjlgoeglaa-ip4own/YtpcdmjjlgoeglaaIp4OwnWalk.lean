/- The law Ip4Own returns true. -/
import Derived.Test.YtpcdmjjlgoeglaaIp4S
import Derived.Test.YtpcdmjjlgoeglaaIp4RP
import Derived.Test.YtpcdmjjlgoeglaaRoom
import Derived.Deep.RegionHeld3
namespace Go.Proofs.Ytpcdmjjlgoeglaa
open Go.RowKit
set_option linter.unusedVariables false
set_option linter.unusedSimpArgs false

theorem Owns.cap_le {w : World} {B c n : Nat} {a : Option Addr} {l : List Int} (h : Owns w B (.slice a n c) l) : c ≤ 9223372036854775807 := by
  obtain ⟨_, h⟩ := h
  rcases h with ⟨h3, _⟩ | ⟨g, cap, cur, h3, h4, h5, h6, h7, _⟩
  · simp only [Value.slice.injEq] at h3
    omega
  · simp only [Value.slice.injEq] at h3
    obtain ⟨_, _, rfl⟩ := h3
    unfold maxLen at h7
    omega
theorem SIp.far {W : World} {g b i : Nat} {u v0 v1 v2 v3 v4 v5 v6 v7 v8 v9 v10 v11 v12 v13 v14 : Value} (h : SIp W g v0 v1 v2 v3 v4 v5 v6 v7 v8 v9 v10 v11 v12 v13 v14) (hb : b ≠ g) : SIp (W.setCell ⟨b, i, none⟩ u) g v0 v1 v2 v3 v4 v5 v6 v7 v8 v9 v10 v11 v12 v13 v14 :=
  have k : ∀ o, (W.setCell ⟨b, i, none⟩ u).cell? ⟨g, o, none⟩ = W.cell? ⟨g, o, none⟩ := fun o => put_other (by simp [hb])
  ⟨(k _).trans h.c0, (k _).trans h.c1, (k _).trans h.c2, (k _).trans h.c3, (k _).trans h.c4, (k _).trans h.c5, (k _).trans h.c6, (k _).trans h.c7, (k _).trans h.c8, (k _).trans h.c9, (k _).trans h.c10, (k _).trans h.c11, (k _).trans h.c12, (k _).trans h.c13, (k _).trans h.c14⟩

set_option maxRecDepth 100000 in
set_option maxHeartbeats 4000000 in
theorem ip4Own_walk (a : Option Addr) (c : Nat) (l : List Int) (W : World) (hc : l.length ≤ c) (hcm : c ≤ 140737488351232) (hnil : a = none → c = 0) (hr : Row W a l) :
    Calls Try.prog 4 #[.slice a l.length c] W fun e w' => e = .returned (.bool true) ∧ Below W.heap.size W w' := by
  obtain ⟨E, hE⟩ : ∃ E, perr l = E := ⟨_, rfl⟩
  obtain ⟨P, hP⟩ : ∃ P, parsed l = P := ⟨_, rfl⟩
  obtain ⟨f, ⟨sf, sh, sl⟩, ⟨df, dh, dl⟩, pr, ho, fg, id, of, mo, D⟩ := P
  have K1 : Hid (∀ X ac cc, Row X ac l → (ac = none → cc = 0) → l.length ≤ cc → cc ≤ 9223372036854775807 → Calls Try.prog 9 #[.slice ac l.length cc] X fun e w' => ∃ a1 c1, e = .returned (.tuple #[.agg #[.int .i64 f, .int .i64 sf, .int .u64 sh, .int .u64 sl, .int .i64 df, .int .u64 dh, .int .u64 dl, .int .i64 pr, .int .i64 ho, .bool fg, .int .u32 id, .int .i64 of, .bool mo, .slice none 0 0, .slice a1 D.length c1], .int .i64 E]) ∧ Fresh X w' a1 c1 D) := by
    intro X ac cc hX hn h1 h2
    have := parse_any ac cc l X hX hn (by omega) h1 h2
    rw [hE, hP] at this
    exact this
  have K2 : Hid (∀ X, Row X a l → Calls Try.prog 10 #[.slice a l.length c] X fun e w' => ∃ a3 c3, e = .returned (.tuple #[.agg #[.int .i64 f, .int .i64 sf, .int .u64 sh, .int .u64 sl, .int .i64 df, .int .u64 dh, .int .u64 dl, .int .i64 pr, .int .i64 ho, .bool fg, .int .u32 id, .int .i64 of, .bool mo, .slice none 0 0, .slice a3 D.length c3], .int .i64 E]) ∧ Fresh X w' a3 c3 D) := by
    intro X hX
    have := rparse_any a c l X hX hnil (by omega) hc (by omega)
    rw [hE, hP] at this
    exact this
  clear hE hP
  have hsm := hr.small
  have hr0 : Hid (Row W a l) := hr
  go_enter Try.func4, Try.ntmps4
  go_wp2_with (at_builtin; refine wpList_app2 _ rfl _ _ rfl W.heap.size _ [] rfl (Owns.nil _ _) (M.Bytes.of (by decide)) _ c l rfl hr hnil l (List.nil_append l) (by omega) (Nat.le_refl _) ?_)
  intro ac cc Wc oc hcc hnc rc bc _
  have capc := oc.cap_le
  go_wp2_with fail
  refine (K1.out Wc ac cc rc hnc hcc capc).mono ?_
  rintro e W1 ⟨a1, c1, rfl, f1⟩
  obtain ⟨W2, hW2⟩ : ∃ W2, W1.alloc (.cells #[.int .i64 f, .int .i64 sf, .int .u64 sh, .int .u64 sl, .int .i64 df, .int .u64 dh, .int .u64 dl, .int .i64 pr, .int .i64 ho, .bool fg, .int .u32 id, .int .i64 of, .bool mo, .slice none 0 0, .slice a1 D.length c1] 29) = W2 := ⟨_, rfl⟩
  have b12 : Below W1.heap.size W1 W2 := by rw [← hW2]; exact (Below.refl _ _).alloc (Nat.le_refl _) _
  have bc2 : Below Wc.heap.size Wc W2 := f1.below.trans (b12.mono f1.below.size)
  have z2 : W2.heap.size = W1.heap.size + 1 := by rw [← hW2]; simp
  have d14 : W2.cell? ⟨W1.heap.size, 14, none⟩ = some (.slice a1 D.length c1) := by rw [← hW2]; simp
  have o2 : Owns W2 Wc.heap.size (.slice a1 D.length c1) D := f1.owns.below b12
  have L1 : Hid (∀ k o s, a1 = some ⟨k, o, s⟩ → k < W1.heap.size) := fun k o s e => (World.ownsRow.lt f1.owns k (by rw [e]; rfl)).2
  have sD := f1.row.small
  have HOC : Hid (Owns Wc W.heap.size (.slice ac l.length cc) l) := oc
  have HB : Hid (Below W.heap.size W Wc ∧ Row Wc ac l ∧ Row Wc a l) := ⟨bc, rc, hr.below bc⟩
  have zc1 := f1.below.size
  clear f1 b12 hr oc rc bc
  go_wp2_with fail
  go_loopw [22] (fun i wr => ∃ (k : Nat) (lr : List Int), k ≤ D.length ∧ i = .int .i64 k ∧ lr.length = D.length ∧ Owns wr Wc.heap.size (.slice a1 D.length c1) lr ∧ Below Wc.heap.size Wc wr ∧ wr.cell? ⟨W1.heap.size, 14, none⟩ = some (.slice a1 D.length c1) ∧ W2.heap.size ≤ wr.heap.size) (fun i _ => D.length - (intOf i).toNat)
  case atStart => exact ⟨0, D, Nat.zero_le _, rfl, rfl, o2, bc2, d14, Nat.le_refl _⟩
  case round =>
    clear d14 o2 bc2
    obtain ⟨k, lr, hk, rfl, hlr, q1, qb, qd, qz⟩ := hrel
    by_cases hlt : k < D.length
    · obtain ⟨g1, rfl, k1, k2, k3, k4, k5⟩ := q1.write hlr k hlt
      have k6 := L1.out _ _ _ rfl
      have ik : (k : Int) < (D.length : Int) := by omega
      have HR : Hid (lr.length = D.length) := hlr
      have KK : Hid _ := k5
      have qd' : Hid (∀ u, (wr.setCell ⟨g1, k, none⟩ u).cell? ⟨W1.heap.size, 14, none⟩ = some (.slice (some ⟨g1, 0, none⟩) D.length c1)) := fun u => (put_other (by intro e; simp only [Addr.mk.injEq] at e; omega)).trans qd
      generalize lr.getD k 0 = zz at *
      clear hlr k5 q1
      go_wp2
      generalize bits .xor .u8 zz 255 = uu at *
      refine ⟨⟨k + 1, lr.set k uu, by omega, by go_num, by rw [List.length_set]; exact HR.out, KK.out uu, qb.setCell k1 _, qd'.out _, by rw [size_setCell]; exact qz⟩, by simp [intOf]; omega⟩
    · have rcr : Row wr ac l := HB.out.2.1.below qb
      have rar : Row wr a l := HB.out.2.2.below qb
      have ocr : Owns wr W.heap.size (.slice ac l.length cc) l := HOC.out.below qb
      have bwr : Below W.heap.size W wr := HB.out.1.trans (qb.mono HB.out.1.size)
      have KS : Hid _ := same_any ac a cc c l wr rcr rar
      have HQ : Hid (Row wr ac l ∧ Row wr a l ∧ Owns wr W.heap.size (.slice ac l.length cc) l ∧ Below W.heap.size W wr) := ⟨rcr, rar, ocr, bwr⟩
      clear q1 qb qd hlr lr rcr rar ocr bwr
      go_wp2_with fail
      refine Calls.mono KS.out ?_
      rintro e w' ⟨rfl, hw'⟩
      rw [hw']
      clear hw' KS
      go_wp2_with fail
      refine (K1.out wr ac cc HQ.out.1 hnc hcc capc).mono ?_
      rintro e Wp ⟨a2, c2, rfl, f2⟩
      obtain ⟨W3, hW3⟩ : ∃ W3, Wp.alloc (.cells #[.int .i64 f, .int .i64 sf, .int .u64 sh, .int .u64 sl, .int .i64 df, .int .u64 dh, .int .u64 dl, .int .i64 pr, .int .i64 ho, .bool fg, .int .u32 id, .int .i64 of, .bool mo, .slice none 0 0, .slice a2 D.length c2] 29) = W3 := ⟨_, rfl⟩
      have bp3 : Below Wp.heap.size Wp W3 := by rw [← hW3]; exact (Below.refl _ _).alloc (Nat.le_refl _) _
      have br3 : Below wr.heap.size wr W3 := f2.below.trans (bp3.mono f2.below.size)
      have z3 : W3.heap.size = Wp.heap.size + 1 := by rw [← hW3]; simp
      have S3 : SIp W3 Wp.heap.size (.int .i64 f) (.int .i64 sf) (.int .u64 sh) (.int .u64 sl) (.int .i64 df) (.int .u64 dh) (.int .u64 dl) (.int .i64 pr) (.int .i64 ho) (.bool fg) (.int .u32 id) (.int .i64 of) (.bool mo) (.slice none 0 0) (.slice a2 D.length c2) := by rw [← hW3]; exact sIp_new Wp _ _ _ _ _ _ _ _ _ _ _ _ _ _ _
      have o3 : Owns W3 wr.heap.size (.slice a2 D.length c2) D := f2.owns.below bp3
      have oc3 : Owns W3 W.heap.size (.slice ac l.length cc) l := HQ.out.2.2.1.below br3
      have bw3 : Below W.heap.size W W3 := HQ.out.2.2.2.trans (br3.mono HQ.out.2.2.2.size)
      have LC : Hid (∀ k o s, ac = some ⟨k, o, s⟩ → k < wr.heap.size) := fun k o s e => (World.ownsRow.lt HQ.out.2.2.1 k (by rw [e]; rfl)).2
      have hzz := f2.below.size
      have HDB : Hid (M.Bytes D) := f2.row.bytes
      clear f2 bp3 br3 hlt hk
      go_wp2_with fail
      go_loopw [44] (fun i ws => ∃ (k : Nat) (lr : List Int), k ≤ l.length ∧ i = .int .i64 k ∧ lr.length = l.length ∧ Owns ws W.heap.size (.slice ac l.length cc) lr ∧ Owns ws wr.heap.size (.slice a2 D.length c2) D ∧ Hid (SIp ws Wp.heap.size (.int .i64 f) (.int .i64 sf) (.int .u64 sh) (.int .u64 sl) (.int .i64 df) (.int .u64 dh) (.int .u64 dl) (.int .i64 pr) (.int .i64 ho) (.bool fg) (.int .u32 id) (.int .i64 of) (.bool mo) (.slice none 0 0) (.slice a2 D.length c2)) ∧ Below W.heap.size W ws ∧ W3.heap.size ≤ ws.heap.size) (fun i _ => l.length - (intOf i).toNat)
      case atStart => exact ⟨0, l, Nat.zero_le _, rfl, rfl, oc3, o3, S3, bw3, Nat.le_refl _⟩
      case round =>
        clear S3 o3 oc3 bw3
        obtain ⟨k, lr, hk, rfl, hlr, q1, q2, q3, qb, qz'⟩ := hrel
        by_cases hlt : k < l.length
        · obtain ⟨g1, rfl, k1, k2, k3, k4, k5⟩ := q1.write hlr k hlt
          have k6 := LC.out _ _ _ rfl
          have ik : (k : Int) < (l.length : Int) := by omega
          have HR : Hid (lr.length = l.length) := hlr
          have KK : Hid _ := k5
          generalize lr.getD k 0 = zz at *
          clear hlr k5 q1
          go_wp2
          generalize bits .xor .u8 zz 255 = uu at *
          refine ⟨⟨k + 1, lr.set k uu, by omega, by go_num, by rw [List.length_set]; exact HR.out, KK.out uu, q2.other (by simpa using k6) _, q3.out.far (by omega), qb.setCell k1 _, by rw [size_setCell]; exact qz'⟩, by simp [intOf]; omega⟩
        · have HS : Hid (Row _ a2 D ∧ Below W.heap.size W _) := ⟨q2.row sD HDB.out, qb⟩
          have hra := hr0.out.below qb
          clear q1 q2 qb hlr lr
          go_wp2_with fail
          refine (K2.out _ hra).mono ?_
          rintro e Wq ⟨a3, c3, rfl, f3⟩
          obtain ⟨W4, hW4⟩ : ∃ W4, Wq.alloc (.cells #[.int .i64 f, .int .i64 sf, .int .u64 sh, .int .u64 sl, .int .i64 df, .int .u64 dh, .int .u64 dl, .int .i64 pr, .int .i64 ho, .bool fg, .int .u32 id, .int .i64 of, .bool mo, .slice none 0 0, .slice a3 D.length c3] 29) = W4 := ⟨_, rfl⟩
          have b34 : Below Wq.heap.size Wq W4 := by rw [← hW4]; exact (Below.refl _ _).alloc (Nat.le_refl _) _
          have b24 := f3.below.trans (b34.mono f3.below.size)
          obtain ⟨d0, d1, d2, d3, d4, d5, d6, d7, d8, d9, d10, d11, d12, d13, d14⟩ := q3.out.below (by omega) b24
          obtain ⟨e0, e1, e2, e3, e4, e5, e6, e7, e8, e9, e10, e11, e12, e13, e14⟩ : SIp W4 Wq.heap.size (.int .i64 f) (.int .i64 sf) (.int .u64 sh) (.int .u64 sl) (.int .i64 df) (.int .u64 dh) (.int .u64 dl) (.int .i64 pr) (.int .i64 ho) (.bool fg) (.int .u32 id) (.int .i64 of) (.bool mo) (.slice none 0 0) (.slice a3 D.length c3) := by rw [← hW4]; exact sIp_new Wq _ _ _ _ _ _ _ _ _ _ _ _ _ _ _
          have K4 : Hid (Calls Try.prog 11 #[.agg #[.int .i64 f, .int .i64 sf, .int .u64 sh, .int .u64 sl, .int .i64 df, .int .u64 dh, .int .u64 dl, .int .i64 pr, .int .i64 ho, .bool fg, .int .u32 id, .int .i64 of, .bool mo, .slice none 0 0, .slice a2 D.length c2], .agg #[.int .i64 f, .int .i64 sf, .int .u64 sh, .int .u64 sl, .int .i64 df, .int .u64 dh, .int .u64 dl, .int .i64 pr, .int .i64 ho, .bool fg, .int .u32 id, .int .i64 of, .bool mo, .slice none 0 0, .slice a3 D.length c3]] W4 fun e w' => e = .returned (.bool true) ∧ Below W4.heap.size W4 w') := same_ip f sf sh sl df dh dl pr ho fg id of mo none 0 none 0 a2 c2 a3 c3 D W4 (HS.out.1.below b24) (f3.row.below b34)
          have B4 : Hid (Below W.heap.size W W4) := HS.out.2.trans (b24.mono HS.out.2.size)
          clear f3 b34 b24 K2 hra HS q3
          go_wp2_with fail
          refine K4.out.mono ?_
          rintro e W5 ⟨rfl, b5⟩
          have B5 : Hid (Below W.heap.size W W5) := B4.out.trans (b5.mono B4.out.size)
          clear b5 d0 d1 d2 d3 d4 d5 d6 d7 d8 d9 d10 d11 d12 d13 d14 e0 e1 e2 e3 e4 e5 e6 e7 e8 e9 e10 e11 e12 e13 e14
          go_wp2_with fail
          refine (alive_any W5).mono ?_
          rintro e W6 ⟨rfl, b6⟩
          have bc : Hid (Below W.heap.size W W6) := B5.out.trans (b6.mono B5.out.size)
          clear b6
          go_wp2_with fail
          go_ret
          exact ⟨rfl, bc.out⟩
end Go.Proofs.Ytpcdmjjlgoeglaa
