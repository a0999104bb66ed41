/- For every input the law SegOwn returns true and leaves its arguments as they were. -/
import Derived.Test.YtpjjkdgmfjhfiaaSgrR49
import Derived.Test.YtpjjkdgmfjhfiaaRows
import Derived.WalkKit
import Derived.ProofKit
import Derived.OpenShut
import Derived.ShutString
import Derived.ChangeOld
import Derived.Below
import Derived.SizedLaws
namespace Go.Proofs.Ytpjjkdgmfjhfiaa
open Go.RowKit
set_option linter.unusedVariables false
set_option linter.unusedSimpArgs false
theorem Blk.far {W : World} {g b i : Nat} {t : TypeId} {cs : Array Value} (h : Blk W g t cs) (hn : g ≠ b) (u : Value) : Blk (W.setCell ⟨b, i, none⟩ u) g t cs := (Below.heap_setCell _ _ _ _ hn).trans h
set_option maxRecDepth 100000 in
set_option maxHeartbeats 4000000 in
theorem segOwn_walk (q : Pk) (xa : Option Addr) (xn xc : Nat) (da : Option Addr) (dc : Nat) (w : World) (ok : q.ok) (hdc : q.data.length ≤ dc) (hdm : dc ≤ 140737488351232) (hdn : da = none → dc = 0) (hr : Row w da q.data) :
    Calls Try.prog 9 #[q.v (.slice xa xn xc) (.slice da q.data.length dc)] w fun e w' => e = .returned (.bool true) ∧ Below w.heap.size w w' := by
  obtain ⟨f, ⟨sf, sh, sl⟩, ⟨df, dh, dl⟩, pr, ho, fg, id, of, mo, l⟩ := q
  simp only at hdc hr
  show Calls Try.prog 9 #[.agg (sRa f sf sh sl df dh dl pr ho fg id of mo xa xn xc da l.length dc)] w _
  obtain ⟨E, hE⟩ : ∃ E, segE f pr ⟨sf, sh, sl⟩ ⟨df, dh, dl⟩ l = E := ⟨_, rfl⟩
  obtain ⟨x, hx⟩ : ∃ x, segX f pr ⟨sf, sh, sl⟩ ⟨df, dh, dl⟩ l = x := ⟨_, rfl⟩
  have KA : Hid (∀ W, Row W da l → Calls Try.prog 16 #[.agg (sRa f sf sh sl df dh dl pr ho fg id of mo xa xn xc da l.length dc)] W fun e w' => ∃ a c, e = .returned (.tuple #[.agg (sRc x.t.fam x.t.pr x.t.s.fam x.t.s.hi x.t.s.lo x.t.d.fam x.t.d.hi x.t.d.lo x.t.sp x.t.dp x.fl x.sq x.ak x.wn x.ty x.cd x.er x.inn.fam x.inn.pr x.inn.s.fam x.inn.s.hi x.inn.s.lo x.inn.d.fam x.inn.d.hi x.inn.d.lo x.inn.sp x.inn.dp a x.data.length c), .int .i64 E]) ∧ Fresh W w' a c x.data) := fun W hW => by
    have := segParse_any f sf sh sl df dh dl pr ho fg id of mo xa xn xc da dc l W hW hdn hdc (by omega) (by omega) ok.src ok.dst
    rw [hE, hx] at this
    exact this
  have KB : Hid (∀ W, Row W da l → Calls Try.prog 17 #[.agg (sRa f sf sh sl df dh dl pr ho fg id of mo xa xn xc da l.length dc)] W fun e w' => ∃ a c, e = .returned (.tuple #[.agg (sRc x.t.fam x.t.pr x.t.s.fam x.t.s.hi x.t.s.lo x.t.d.fam x.t.d.hi x.t.d.lo x.t.sp x.t.dp x.fl x.sq x.ak x.wn x.ty x.cd x.er x.inn.fam x.inn.pr x.inn.s.fam x.inn.s.hi x.inn.s.lo x.inn.d.fam x.inn.d.hi x.inn.d.lo x.inn.sp x.inn.dp a x.data.length c), .int .i64 E]) ∧ Fresh W w' a c x.data) := fun W hW => by
    have := rparse_any f sf sh sl df dh dl pr ho fg id of mo xa xn xc da dc l W hW hdn hdc (by omega) (by omega) ok.src ok.dst
    rw [hE, hx] at this
    exact this
  have KL : Hid _ := segAlive_any
  obtain ⟨W1, hW1⟩ : ∃ W1, w.alloc (.cells (sRa f sf sh sl df dh dl pr ho fg id of mo xa xn xc da l.length dc) 36) = W1 := ⟨_, rfl⟩
  have b1 := bel_nw hW1
  have P1 := blk_nw hW1
  have d14 := P1.cell 14 (.slice da l.length dc) rfl
  have r1 := hr.below b1
  have hsm := hr.small
  clear hE hx ok
  go_enter Try.func9, Try.ntmps9
  go_wp2_with (at_builtin; refine wpList_app2 _ rfl _ _ rfl W1.heap.size _ [] rfl (Owns.nil _ _) (M.Bytes.of (by decide)) _ dc l rfl r1 hdn l (List.nil_append l) (by omega) (Nat.le_refl _) ?_)
  intro aw cw Ww ow rmw nlw rw_ bb _
  have Pw := P1.kept bb
  have bw := bel_tr b1 bb
  clear bb b1 P1 hW1 d14 r1 ow rmw nlw
  go_wp2_with (refine wpList_load_row rfl _ _ rfl w.heap.size (by rfl) _ _ _ _ Pw Try.underlying36 rfl (by kernel_rfl) ?_)
  refine Calls.mono (KA.out _ (hr.below bw)) ?_
  rintro e W3 ⟨a3, c3, rfl, f3⟩
  have O3 := f3.owns
  have b3 := bel_tr bw f3.below
  have e3 : Below Ww.heap.size Ww W3 := f3.below
  have L3 : Hid (∀ k o s, a3 = some ⟨k, o, s⟩ → k < W3.heap.size) := fun k o s e => (World.ownsRow.lt f3.owns k (by rw [e]; rfl)).2
  have sm := f3.row.small
  clear f3
  obtain ⟨W4, hW4⟩ : ∃ W, W3.alloc (.cells (sRc 0 0 0 0 0 0 0 0 0 0 0 0 0 0 0 0 false 0 0 0 0 0 0 0 0 0 0 none 0 0) 38) = W := ⟨_, rfl⟩
  have S4 := blk_nw hW4
  have b4 := bel_al b3 hW4
  have gw4 : w.heap.size ≤ W3.heap.size := b3.size
  have O4 := O3.alloc (.cells (sRc 0 0 0 0 0 0 0 0 0 0 0 0 0 0 0 0 false 0 0 0 0 0 0 0 0 0 0 none 0 0) 38)
  rw [hW4] at O4
  have S5 := S4.set (sRc x.t.fam x.t.pr x.t.s.fam x.t.s.hi x.t.s.lo x.t.d.fam x.t.d.hi x.t.d.lo x.t.sp x.t.dp x.fl x.sq x.ak x.wn x.ty x.cd x.er x.inn.fam x.inn.pr x.inn.s.fam x.inn.s.hi x.inn.s.lo x.inn.d.fam x.inn.d.hi x.inn.d.lo x.inn.sp x.inn.dp a3 x.data.length c3)
  have b5 := below_setRow b4 gw4 (sRc x.t.fam x.t.pr x.t.s.fam x.t.s.hi x.t.s.lo x.t.d.fam x.t.d.hi x.t.d.lo x.t.sp x.t.dp x.fl x.sq x.ak x.wn x.ty x.cd x.er x.inn.fam x.inn.pr x.inn.s.fam x.inn.s.hi x.inn.s.lo x.inn.d.fam x.inn.d.hi x.inn.d.lo x.inn.sp x.inn.dp a3 x.data.length c3)
  have O5 := O4.blk_other S4 (by decide) (sRc x.t.fam x.t.pr x.t.s.fam x.t.s.hi x.t.s.lo x.t.d.fam x.t.d.hi x.t.d.lo x.t.sp x.t.dp x.fl x.sq x.ak x.wn x.ty x.cd x.er x.inn.fam x.inn.pr x.inn.s.fam x.inn.s.hi x.inn.s.lo x.inn.d.fam x.inn.d.hi x.inn.d.lo x.inn.sp x.inn.dp a3 x.data.length c3)
  obtain ⟨W5, hW5⟩ : ∃ W, W4.setRow W3.heap.size (sRc x.t.fam x.t.pr x.t.s.fam x.t.s.hi x.t.s.lo x.t.d.fam x.t.d.hi x.t.d.lo x.t.sp x.t.dp x.fl x.sq x.ak x.wn x.ty x.cd x.er x.inn.fam x.inn.pr x.inn.s.fam x.inn.s.hi x.inn.s.lo x.inn.d.fam x.inn.d.hi x.inn.d.lo x.inn.sp x.inn.dp a3 x.data.length c3) = W := ⟨_, rfl⟩
  rw [hW5] at S5 b5 O5
  have HW5 : Hid _ := hW5
  clear hW5
  have e5 := below_setRow (show Below Ww.heap.size Ww W4 by rw [← hW4]; exact e3.alloc e3.size _) e3.size (sRc x.t.fam x.t.pr x.t.s.fam x.t.s.hi x.t.s.lo x.t.d.fam x.t.d.hi x.t.d.lo x.t.sp x.t.dp x.fl x.sq x.ak x.wn x.ty x.cd x.er x.inn.fam x.inn.pr x.inn.s.fam x.inn.s.hi x.inn.s.lo x.inn.d.fam x.inn.d.hi x.inn.d.lo x.inn.sp x.inn.dp a3 x.data.length c3)
  rw [HW5.out] at e5
  have d27 := S5.cell 27 (.slice a3 x.data.length c3) rfl
  clear e3 O3 O4 b3 b4
  go_wp2_with (refine wpList_store_row rfl _ _ _ rfl W3.heap.size (sRc x.t.fam x.t.pr x.t.s.fam x.t.s.hi x.t.s.lo x.t.d.fam x.t.d.hi x.t.d.lo x.t.sp x.t.dp x.fl x.sq x.ak x.wn x.ty x.cd x.er x.inn.fam x.inn.pr x.inn.s.fam x.inn.s.hi x.inn.s.lo x.inn.d.fam x.inn.d.hi x.inn.d.lo x.inn.sp x.inn.dp a3 x.data.length c3) (by rfl) (by rfl) _ _ S4 (by kernel_rfl) (by rfl) (by kernel_rfl) ?_; rw [HW5.out])
  clear d27 b5 HW5 hW4
  go_loopw [22] (fun i wr => ∃ (k : Nat) (lr : List Int), k ≤ x.data.length ∧ i = .int .i64 k ∧ lr.length = x.data.length ∧ Owns wr Ww.heap.size (.slice a3 x.data.length c3) lr ∧ Below Ww.heap.size Ww wr ∧ Blk wr W3.heap.size 38 (sRc x.t.fam x.t.pr x.t.s.fam x.t.s.hi x.t.s.lo x.t.d.fam x.t.d.hi x.t.d.lo x.t.sp x.t.dp x.fl x.sq x.ak x.wn x.ty x.cd x.er x.inn.fam x.inn.pr x.inn.s.fam x.inn.s.hi x.inn.s.lo x.inn.d.fam x.inn.d.hi x.inn.d.lo x.inn.sp x.inn.dp a3 x.data.length c3)) (fun i _ => x.data.length - (intOf i).toNat)
  case atStart => exact ⟨0, x.data, Nat.zero_le _, rfl, rfl, O5, e5, S5⟩
  case round =>
    clear O5 e5 S5 S4
    obtain ⟨k, lr, hk, rfl, hlr, q1, qb, qs⟩ := hrel
    by_cases hlt : k < x.data.length
    · obtain ⟨g1, rfl, k1, k2, k3, k4, k5⟩ := q1.write hlr k hlt
      have k6 := L3.out _ _ _ rfl
      have ik : (k : Int) < (x.data.length : Int) := by omega
      have HR : Hid (lr.length = x.data.length) := hlr
      have KK : Hid _ := k5
      have d27 := qs.cell 27 (.slice (some ⟨g1, 0, none⟩) x.data.length c3) rfl
      have HA : Hid (∀ y, Blk (wr.setCell ⟨g1, k, none⟩ (.int .u8 y)) W3.heap.size 38 (sRc x.t.fam x.t.pr x.t.s.fam x.t.s.hi x.t.s.lo x.t.d.fam x.t.d.hi x.t.d.lo x.t.sp x.t.dp x.fl x.sq x.ak x.wn x.ty x.cd x.er x.inn.fam x.inn.pr x.inn.s.fam x.inn.s.hi x.inn.s.lo x.inn.d.fam x.inn.d.hi x.inn.d.lo x.inn.sp x.inn.dp (some ⟨g1, 0, none⟩) x.data.length c3)) := fun y => qs.far (by omega) _
      generalize lr.getD k 0 = zz at *
      clear hlr k5 q1 qs
      go_wp2
      generalize bits .xor .u8 zz 255 = uu at *
      refine ⟨⟨k + 1, lr.set k uu, by omega, by go_num, by rw [List.length_set]; exact HR.out, KK.out uu, qb.setCell k1 _, HA.out uu⟩, by simp [intOf]; omega⟩
    · have hk1 : ¬ (k : Int) < (x.data.length : Int) := by omega
      have b6 := bel_tr bw qb
      have P6 := Pw.kept qb
      have KS : Hid _ := same_any da aw dc cw l wr (hr.below b6) (rw_.below qb)
      have d14 := P6.cell 14 (.slice da l.length dc) rfl
      clear q1 qs hlr lr hlt hk qb
      go_wp2_with fail
      refine Calls.mono KS.out ?_
      rintro e w' ⟨rfl, hw'⟩
      rw [hw']
      clear hw' KS d14 w'
      go_wp2_with (refine wpList_load_row rfl _ _ rfl w.heap.size (by rfl) _ _ _ _ P6 Try.underlying36 rfl (by kernel_rfl) ?_)
      refine Calls.mono (KB.out _ (hr.below b6)) ?_
      rintro e W7 ⟨a7, c7, rfl, f7⟩
      have P7 := P6.kept f7.below
      have O7 := f7.owns
      have by_ := f7.row.bytes
      have b7 := bel_tr b6 f7.below
      clear KB f7 P6 b6
      obtain ⟨W8, hW8⟩ : ∃ W, W7.alloc (.cells (sRc 0 0 0 0 0 0 0 0 0 0 0 0 0 0 0 0 false 0 0 0 0 0 0 0 0 0 0 none 0 0) 38) = W := ⟨_, rfl⟩
      have S8 := blk_nw hW8
      have b8 := bel_al b7 hW8
      have gw8 : w.heap.size ≤ W7.heap.size := b7.size
      have gP8 : w.heap.size < W7.heap.size := P7.lt
      have P8 := P7.alloc (.cells (sRc 0 0 0 0 0 0 0 0 0 0 0 0 0 0 0 0 false 0 0 0 0 0 0 0 0 0 0 none 0 0) 38)
      rw [hW8] at P8
      have O8 := O7.alloc (.cells (sRc 0 0 0 0 0 0 0 0 0 0 0 0 0 0 0 0 false 0 0 0 0 0 0 0 0 0 0 none 0 0) 38)
      rw [hW8] at O8
      have S9 := S8.set (sRc x.t.fam x.t.pr x.t.s.fam x.t.s.hi x.t.s.lo x.t.d.fam x.t.d.hi x.t.d.lo x.t.sp x.t.dp x.fl x.sq x.ak x.wn x.ty x.cd x.er x.inn.fam x.inn.pr x.inn.s.fam x.inn.s.hi x.inn.s.lo x.inn.d.fam x.inn.d.hi x.inn.d.lo x.inn.sp x.inn.dp a7 x.data.length c7)
      have b9 := below_setRow b8 gw8 (sRc x.t.fam x.t.pr x.t.s.fam x.t.s.hi x.t.s.lo x.t.d.fam x.t.d.hi x.t.d.lo x.t.sp x.t.dp x.fl x.sq x.ak x.wn x.ty x.cd x.er x.inn.fam x.inn.pr x.inn.s.fam x.inn.s.hi x.inn.s.lo x.inn.d.fam x.inn.d.hi x.inn.d.lo x.inn.sp x.inn.dp a7 x.data.length c7)
      have P9 := P8.other (show w.heap.size ≠ W7.heap.size by omega) (sRc x.t.fam x.t.pr x.t.s.fam x.t.s.hi x.t.s.lo x.t.d.fam x.t.d.hi x.t.d.lo x.t.sp x.t.dp x.fl x.sq x.ak x.wn x.ty x.cd x.er x.inn.fam x.inn.pr x.inn.s.fam x.inn.s.hi x.inn.s.lo x.inn.d.fam x.inn.d.hi x.inn.d.lo x.inn.sp x.inn.dp a7 x.data.length c7)
      have O9 := O8.blk_other S8 (by decide) (sRc x.t.fam x.t.pr x.t.s.fam x.t.s.hi x.t.s.lo x.t.d.fam x.t.d.hi x.t.d.lo x.t.sp x.t.dp x.fl x.sq x.ak x.wn x.ty x.cd x.er x.inn.fam x.inn.pr x.inn.s.fam x.inn.s.hi x.inn.s.lo x.inn.d.fam x.inn.d.hi x.inn.d.lo x.inn.sp x.inn.dp a7 x.data.length c7)
      obtain ⟨W9, hW9⟩ : ∃ W, W8.setRow W7.heap.size (sRc x.t.fam x.t.pr x.t.s.fam x.t.s.hi x.t.s.lo x.t.d.fam x.t.d.hi x.t.d.lo x.t.sp x.t.dp x.fl x.sq x.ak x.wn x.ty x.cd x.er x.inn.fam x.inn.pr x.inn.s.fam x.inn.s.hi x.inn.s.lo x.inn.d.fam x.inn.d.hi x.inn.d.lo x.inn.sp x.inn.dp a7 x.data.length c7) = W := ⟨_, rfl⟩
      rw [hW9] at S9 b9 P9 O9
      have HW9 : Hid _ := hW9
      clear hW9
      go_wp2_with (first
        | (refine wpList_store_row rfl _ _ _ rfl W7.heap.size (sRc x.t.fam x.t.pr x.t.s.fam x.t.s.hi x.t.s.lo x.t.d.fam x.t.d.hi x.t.d.lo x.t.sp x.t.dp x.fl x.sq x.ak x.wn x.ty x.cd x.er x.inn.fam x.inn.pr x.inn.s.fam x.inn.s.hi x.inn.s.lo x.inn.d.fam x.inn.d.hi x.inn.d.lo x.inn.sp x.inn.dp a7 x.data.length c7) (by rfl) (by rfl) _ _ S8 (by kernel_rfl) (by rfl) (by kernel_rfl) ?_; rw [HW9.out])
        | (refine wpList_load_row rfl _ _ rfl w.heap.size (by rfl) _ _ _ _ P9 Try.underlying36 rfl (by kernel_rfl) ?_))
      refine Calls.mono (KA.out _ (hr.below b9)) ?_
      rintro e W10 ⟨a10, c10, rfl, f10⟩
      have T10 := S9.kept f10.below
      have O10 := O9.below f10.below
      have Q10 := f10.owns
      have b10 := bel_tr b9 f10.below
      clear KA f10 P7 P8 P9 O7 O8 O9 S8 S9 b7 b8 b9 HW9 hW8
      obtain ⟨W11, hW11⟩ : ∃ W, W10.alloc (.cells (sRc 0 0 0 0 0 0 0 0 0 0 0 0 0 0 0 0 false 0 0 0 0 0 0 0 0 0 0 none 0 0) 38) = W := ⟨_, rfl⟩
      have S11 := blk_nw hW11
      have b11 := bel_al b10 hW11
      have gw11 : w.heap.size ≤ W10.heap.size := b10.size
      have gT11 : W7.heap.size < W10.heap.size := T10.lt
      have T11 := T10.alloc (.cells (sRc 0 0 0 0 0 0 0 0 0 0 0 0 0 0 0 0 false 0 0 0 0 0 0 0 0 0 0 none 0 0) 38)
      rw [hW11] at T11
      have O11 := O10.alloc (.cells (sRc 0 0 0 0 0 0 0 0 0 0 0 0 0 0 0 0 false 0 0 0 0 0 0 0 0 0 0 none 0 0) 38)
      rw [hW11] at O11
      have Q11 := Q10.alloc (.cells (sRc 0 0 0 0 0 0 0 0 0 0 0 0 0 0 0 0 false 0 0 0 0 0 0 0 0 0 0 none 0 0) 38)
      rw [hW11] at Q11
      have S12 := S11.set (sRc x.t.fam x.t.pr x.t.s.fam x.t.s.hi x.t.s.lo x.t.d.fam x.t.d.hi x.t.d.lo x.t.sp x.t.dp x.fl x.sq x.ak x.wn x.ty x.cd x.er x.inn.fam x.inn.pr x.inn.s.fam x.inn.s.hi x.inn.s.lo x.inn.d.fam x.inn.d.hi x.inn.d.lo x.inn.sp x.inn.dp a10 x.data.length c10)
      have b12 := below_setRow b11 gw11 (sRc x.t.fam x.t.pr x.t.s.fam x.t.s.hi x.t.s.lo x.t.d.fam x.t.d.hi x.t.d.lo x.t.sp x.t.dp x.fl x.sq x.ak x.wn x.ty x.cd x.er x.inn.fam x.inn.pr x.inn.s.fam x.inn.s.hi x.inn.s.lo x.inn.d.fam x.inn.d.hi x.inn.d.lo x.inn.sp x.inn.dp a10 x.data.length c10)
      have T12 := T11.other (show W7.heap.size ≠ W10.heap.size by omega) (sRc x.t.fam x.t.pr x.t.s.fam x.t.s.hi x.t.s.lo x.t.d.fam x.t.d.hi x.t.d.lo x.t.sp x.t.dp x.fl x.sq x.ak x.wn x.ty x.cd x.er x.inn.fam x.inn.pr x.inn.s.fam x.inn.s.hi x.inn.s.lo x.inn.d.fam x.inn.d.hi x.inn.d.lo x.inn.sp x.inn.dp a10 x.data.length c10)
      have O12 := O11.blk_other S11 (by decide) (sRc x.t.fam x.t.pr x.t.s.fam x.t.s.hi x.t.s.lo x.t.d.fam x.t.d.hi x.t.d.lo x.t.sp x.t.dp x.fl x.sq x.ak x.wn x.ty x.cd x.er x.inn.fam x.inn.pr x.inn.s.fam x.inn.s.hi x.inn.s.lo x.inn.d.fam x.inn.d.hi x.inn.d.lo x.inn.sp x.inn.dp a10 x.data.length c10)
      have Q12 := Q11.blk_other S11 (by decide) (sRc x.t.fam x.t.pr x.t.s.fam x.t.s.hi x.t.s.lo x.t.d.fam x.t.d.hi x.t.d.lo x.t.sp x.t.dp x.fl x.sq x.ak x.wn x.ty x.cd x.er x.inn.fam x.inn.pr x.inn.s.fam x.inn.s.hi x.inn.s.lo x.inn.d.fam x.inn.d.hi x.inn.d.lo x.inn.sp x.inn.dp a10 x.data.length c10)
      obtain ⟨W12, hW12⟩ : ∃ W, W11.setRow W10.heap.size (sRc x.t.fam x.t.pr x.t.s.fam x.t.s.hi x.t.s.lo x.t.d.fam x.t.d.hi x.t.d.lo x.t.sp x.t.dp x.fl x.sq x.ak x.wn x.ty x.cd x.er x.inn.fam x.inn.pr x.inn.s.fam x.inn.s.hi x.inn.s.lo x.inn.d.fam x.inn.d.hi x.inn.d.lo x.inn.sp x.inn.dp a10 x.data.length c10) = W := ⟨_, rfl⟩
      rw [hW12] at S12 b12 T12 O12 Q12
      have HW12 : Hid _ := hW12
      clear hW12
      have KS : Hid _ := same_seg x a10 a7 c10 c7 W12 (Q12.row sm by_) (O12.row sm by_)
      go_wp2_with (first
        | (refine wpList_store_row rfl _ _ _ rfl W10.heap.size (sRc x.t.fam x.t.pr x.t.s.fam x.t.s.hi x.t.s.lo x.t.d.fam x.t.d.hi x.t.d.lo x.t.sp x.t.dp x.fl x.sq x.ak x.wn x.ty x.cd x.er x.inn.fam x.inn.pr x.inn.s.fam x.inn.s.hi x.inn.s.lo x.inn.d.fam x.inn.d.hi x.inn.d.lo x.inn.sp x.inn.dp a10 x.data.length c10) (by rfl) (by rfl) _ _ S11 (by kernel_rfl) (by rfl) (by kernel_rfl) ?_; rw [HW12.out])
        | (refine wpList_load_blk_w (by kernel_rfl) _ _ rfl W10.heap.size (by rfl) _ S12 Try.underlying38 (by kernel_rfl) ?_)
        | (refine wpList_load_blk_w (by kernel_rfl) _ _ rfl W7.heap.size (by rfl) _ T12 Try.underlying38 (by kernel_rfl) ?_))
      refine Calls.mono KS.out ?_
      rintro e W13 ⟨rfl, bb⟩
      have b13 := bel_tr b12 bb
      clear KS bb T10 T11 T12 S11 S12 O10 O11 O12 Q10 Q11 Q12 b10 b11 b12 HW12 hW11
      go_wp2_with fail
      refine Calls.mono (KL.out _) ?_
      rintro e W14 ⟨rfl, bb⟩
      have b14 := bel_tr b13 bb
      clear bb KL
      go_wp2
      go_ret
      exact ⟨rfl, b14⟩
end Go.Proofs.Ytpjjkdgmfjhfiaa
namespace Go.Proofs.Ytpjjkdgmfjhfiaa.segOwn
open Go.ChangeShapes Go.WideShapes Go.ChangeAt Go.RowKit
open Go.ChangeMaps (open_string shut_string)
set_option linter.unusedVariables false
theorem own : ownKnob Try.prog.godebug = none := by kernel_rfl
theorem laidOut : laidOutB Try.prog = true := by kernel_rfl
set_option maxRecDepth 100000 in
theorem lifted (os : Os) (started : os.Started) (H : Type) (enc : TypeId × Value → H) :
    ReturnsInHanded {} Try.checked os 9 .any (Rows.segOwnSpec.pre6 enc Try.prog Try.f9 Rows.segOwnRow.domain false) (Rows.segOwnSpec.post enc Try.prog Try.f9 false true false false) := by
  refine returnsInHanded_of_change_sized (C := Try.checked) own started (by kernel_rfl) Try.func9
    (ChangeSpec.witness6 (enc := enc) (C := Try.checked) false ⟨#[], #[.agg (sRa 0 0 0 0 0 0 0 0 0 false 0 0 false none 0 0 none 0 0)], []⟩ 8 (by kernel_rfl) (by kernel_rfl) (by kernel_rfl) (by kernel_rfl)) ?_
  intro W base args ds gs before hval0 hW hcnd hsz0 _
  have hval : ∀ (j : Nat) t v, Try.f9.params[j]? = some t → args[j]? = some v → Value.okWide Try.prog W .any base t v := hval0
  have hW' := hW
  obtain ⟨p, q, hA0, hV, rfl, hfz, hnd⟩ := hW
  have hA : DataW.TrodAll enc Try.prog W 0 (fun _ => true) true Try.f9.params.toList args.toList ds p := hA0
  have hsz : (DataW.weightsEach Try.prog (Try.f9.params.toList ++ Rows.segOwnSpec.plain.varTypes Try.prog) (ds ++ gs)).all (· ≤ reachBytes) = true := hsz0
  rw [Try.params9] at hA hval hsz
  obtain ⟨v0, vs0, d0, ds0, p0, q0, hargs, rfl, rfl, h0, r0⟩ := trodAll_cons hA
  obtain ⟨rfl, rfl, rfl⟩ := trodAll_nil r0
  obtain rfl : args = #[v0] := by cases args; simp_all
  obtain ⟨rfl, rfl⟩ := trodVars_none hV
  have lt0 : ∀ x ∈ p0, x.block < W.heap.size := by obtain ⟨m, hm⟩ := h0; exact DataW.trod_lt m _ _ _ hm
  have s0 : ∀ n ∈ d0.weights Try.prog 36, n ≤ reachBytes := fun n hn => by simpa using List.all_eq_true.1 hsz n (DataW.weights_mem_each (j := 0) (t := 36) rfl rfl n hn)
  obtain ⟨q0, xa0, xn0, xc0, da0, dc0, rfl, ok0, lc0, cm0, nl0, w0⟩ := open_ip (hval 0 36 v0 rfl rfl) h0 s0
  clear hA0 hval0 hsz0
  refine (segOwn_walk q0 xa0 xn0 xc0 da0 dc0 W ok0 lc0 cm0 nl0 w0).mono fun e W' ⟨he, bel⟩ => ?_
  subst he
  exact ⟨_, rfl, _, _, _, [], _, [], hW', trodAll_mk1 (shut_bool Try.underlying4 _), (trodAll_cons_mk (Below.trod laidOut (by kernel_rfl) (of_decide_eq_true (by kernel_rfl)) h0 bel lt0) trodAll_mk0), rfl, bel.frame _, fun h => by cases h⟩
theorem over : Rows.segOwnRow.holds Try.pinned (OpenSpec.ofChange Rows.segOwnSpec) :=
  OpenClaim.holds_of_wide 9 Try.f9 rfl rfl rfl rfl rfl rfl rfl ⟨rfl, rfl, rfl, rfl, rfl⟩ rfl rfl rfl rfl rfl (by kernel_rfl) Try.func9 (by kernel_rfl)
    (of_decide_eq_true (by kernel_rfl)) (by unfold Func.isWrapper; first | (rw [if_pos (by decide +kernel)]; kernel_rfl) | (rw [if_neg (by decide +kernel)]; exact ⟨rfl, rfl⟩))
    (fun os started H enc _ => lifted os started H enc)
end Go.Proofs.Ytpjjkdgmfjhfiaa.segOwn
namespace Go.Proofs.Ytpjjkdgmfjhfiaa
theorem segOwn_holds : Rows.SegOwnSaid := segOwn.over
end Go.Proofs.Ytpjjkdgmfjhfiaa
