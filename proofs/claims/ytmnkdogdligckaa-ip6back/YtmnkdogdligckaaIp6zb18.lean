/- Texts joined: Ip6H -/
import Derived.Test.YtmnkdogdligckaaIp6zb17
import Derived.BigRegion
namespace Go.Proofs.Ytmnkdogdligckaa
open Go.RowKit
set_option linter.unusedVariables false
set_option linter.unusedSimpArgs false
theorem ZIp.lt {W : World} {g : Nat} (z : ZIp W g) : g < W.heap.size := World.block_lt_of_cell? W _ z.c0
set_option maxRecDepth 100000 in
set_option maxHeartbeats 16000000 in
theorem parse6_eW (a : Option Addr) (c : Nat) (l : List Int) (w : World) (h : Row w a l) (hnil : a = none → c = 0) (hll : l.length ≤ 140737488351232) (hc : l.length ≤ c) (hcm : c ≤ 9223372036854775807) (h40 : ¬ l.length < 40) (hv : l.getD 0 0 / 16 = 6) (h5 : ¬ u16 l 4 > (l.length : Int) - 40) (h7 : l.getD 7 0 ≠ 0) (hT : (T6 l).1 ≠ 0) :
    Calls Try.prog 15 #[.slice a l.length c] w (Got6 w l) := by
  obtain ⟨W0, hW0⟩ : ∃ W0, w.alloc (.cells zIp 38) = W0 := ⟨_, rfl⟩
  have b0 : Below w.heap.size w W0 := by rw [← hW0]; exact (Below.refl _ _).alloc (Nat.le_refl _) _
  have z0 : ZIp W0 w.heap.size := by rw [← hW0]; exact zIp_new w
  have s0 : W0.heap.size = w.heap.size + 1 := by rw [← hW0]; simp
  have r0 := h.below b0
  have hpp : perr6 l = (T6 l).1 := by
    unfold perr6
    rw [if_neg h40, if_neg (by rw [hv]; simp), if_neg h5, if_neg h7, if_pos hT]
  have h40' : ¬ (l.length : Int) < 40 := by omega
  obtain ⟨bk, off, rfl, hcl⟩ := h.cells (by omega)
  have KU : Hid _ := u16_yes (some ⟨bk, off, none⟩) c l 4 W0 r0 (by decide) (by omega)
  have y0 := hcl 0 (by omega)
  have y7 := hcl 7 (by omega)
  have i0 : (0 : Int) < (l.length : Int) := by omega
  have i7 : (7 : Int) < (l.length : Int) := by omega
  rw [Nat.add_zero] at y0
  obtain ⟨x0, e0⟩ : ∃ x, l.getD 0 0 = x := ⟨_, rfl⟩
  obtain ⟨x7, e7⟩ : ∃ x, l.getD 7 0 = x := ⟨_, rfl⟩
  obtain ⟨sz, es⟩ : ∃ x, u16 l 4 = x := ⟨_, rfl⟩
  have q0 := h.bytes.get 0
  have q7 := h.bytes.get 7
  have qs := u16_bd h.bytes 4
  rw [e0] at y0 q0
  rw [e7] at y7 q7
  rw [es] at KU qs
  have HE : Hid (l.getD 0 0 = x0 ∧ l.getD 7 0 = x7 ∧ u16 l 4 = sz) := ⟨e0, e7, es⟩
  have HPP : Hid (perr6 l = _) := hpp
  rw [e0] at hv
  rw [es] at h5
  rw [e7] at h7
  have hv' : (x0 / 16 != 6) = false := by simpa using hv
  clear hv
  have h7' : (x7 == 0) = false := by simpa using h7
  clear h7
  have y6 := hcl 6 (by omega)
  have i6 : (6 : Int) < (l.length : Int) := by omega
  obtain ⟨x6, e6⟩ : ∃ x, l.getD 6 0 = x := ⟨_, rfl⟩
  have q6 := h.bytes.get 6
  rw [e6] at y6 q6
  have HE6 : Hid (l.getD 6 0 = x6) := e6
  clear e6
  clear hcl e0 e7 es hpp
  go_enter Try.func15, Try.ntmps15
  go_wp2_with fail
  refine Calls.mono KU.out ?_
  rintro e w' ⟨rfl, n, rfl⟩
  have b1 : Below w.heap.size w (W0.drewN n) := below_drewN b0 n
  have bb : Below W0.heap.size W0 (W0.drewN n) := below_drewN (Below.refl _ _) n
  have z1 : ZIp (W0.drewN n) w.heap.size := z0.below (by omega) bb
  have k0 := kept (b := bk) (o := off) b1 y0
  have k7 := kept (b := bk) (o := off + 7) b1 y7
  obtain ⟨W1, hW1⟩ : ∃ W1, W0.drewN n = W1 := ⟨_, rfl⟩
  rw [hW1] at b1 z1 k0 k7 ⊢
  have zz := z1
  clear KU bb z0 r0 hW1 hW0 y0 y7
  have k6 := kept (b := bk) (o := off + 6) b1 y6
  clear y6
  obtain ⟨m, rfl⟩ := Int.eq_ofNat_of_zero_le qs.1
  have hm40 : 40 + m ≤ l.length := by omega
  have qm1 : (m : Int) ≤ 65535 := qs.2
  have qm2 : m ≤ 65535 := by omega
  have nb : bk ≠ W1.heap.size := by
    have := World.block_lt_of_cell? W1 _ k6
    simp only at this
    omega
  have nb' : ¬ bk = W1.heap.size := nb
  have k6z : (W1.alloc (.cells #[.int .i64 0, .slice none 0 0, .slice none 0 0, .bool false, .bool false, .int .u32 0, .int .i64 0, .bool false] 55)).cell? ⟨bk, off + 6, none⟩ = some (.int .u8 x6) := kept_alloc (Below.refl _ _) _ k6
  have w40 : IntKind.i64.wrap (40 + (m : Int)) = 40 + (m : Int) := wraps_i64 _ (by omega) (by omega)
  have j1 : (40 : Int) + (m : Int) ≤ (c : Int) := by omega
  have j2 : 40 + m ≤ c := by omega
  have r1 := h.below b1
  have hrest := (r1.drop c 40 hc).take m
  have hlr : ((l.drop 40).take m).length = m := by rw [List.length_take, List.length_drop]; omega
  have hrest' : Row W1 (if c = 40 then some ⟨bk, off, none⟩ else some ⟨bk, off + 40, none⟩) ((l.drop 40).take m) := by
    by_cases hc40 : c = 40
    · rw [if_pos hc40] at hrest ⊢; exact hrest
    · rw [if_neg hc40] at hrest ⊢; simpa [Go.WideShapes.add_plain] using hrest
  obtain ⟨A, hA⟩ : ∃ A : Option Addr, (if c = 40 then some ⟨bk, off, none⟩ else some ⟨bk, off + 40, none⟩) = A := ⟨_, rfl⟩
  have HAn : Hid (A ≠ none) := by
    show A ≠ none
    intro e
    rw [e] at hA
    split at hA <;> cases hA
  rw [hA] at hrest'
  have HRR : Hid _ := hrest'
  have HTT : Hid (T6 l = wend (st0 x6 ((l.drop 40).take m) false)) := by
    show T6 l = _
    unfold T6
    rw [HE6.out, HE.out.2.2, Int.toNat_natCast]
  clear hrest hrest'
  have s1 : w.heap.size < W1.heap.size := z1.lt
  obtain ⟨W2, hW2⟩ : ∃ W2, W1.alloc (.cells #[.int .i64 x6, .slice A m (c - 40), .slice none 0 0, .bool false, .bool false, .int .u32 0, .int .i64 0, .bool false] 55) = W2 := ⟨_, rfl⟩
  have HW2 : Hid (_ = W2) := hW2
  clear hW2
  go_wp2_with fail
  go_region
  rw [HW2.out]
  have S2 : SW W2 W1.heap.size (st0 x6 ((l.drop 40).take m) false) (.slice A ((l.drop 40).take m).length (c - 40)) (.slice none 0 0) := by
    rw [hlr, ← HW2.out]
    constructor <;> simp [st0]
  have b12 : Below W1.heap.size W1 W2 := by rw [← HW2.out]; exact (Below.refl _ _).alloc (Nat.le_refl _) _
  have s2 : W2.heap.size = W1.heap.size + 1 := by rw [← HW2.out]; simp
  have S2d := S2.grown (grownBy_drew W2 none) (by simp)
  have RA : Hid _ := run_any W1.heap.size x6 ((l.drop 40).take m) false A (c - 40) W1 W2.drew S2d HRR.out (Nat.le_refl _) (b12.drew) (by rw [hlr]; omega) (by omega) (fun e => absurd e HAn.out)
  obtain ⟨TT, hTT⟩ : ∃ TT, wend (st0 x6 ((l.drop 40).take m) false) = TT := ⟨_, rfl⟩
  rw [hTT] at RA HTT
  clear S2 S2d hTT HW2 k6z w40
  go_wp2_with fail
  refine Calls.mono RA.out ?_
  rintro e W3 ⟨rfl, bel, fin⟩
  clear RA
  have b13 : Below W1.heap.size W1 W3 := (b12.drew).trans bel
  have b3 : Below w.heap.size w W3 := b1.trans (b13.mono (Nat.le_of_lt s1))
  have z3 : ZIp W3 w.heap.size := zz.below s1 b13
  have HP2 : Hid (perr6 l = TT.1) := by show perr6 l = _; rw [HPP.out, HTT.out]
  have HN : TT.1 ≠ 0 := by rw [← HTT.out]; exact hT
  obtain ⟨EE, tt⟩ := TT
  simp only at HP2 HN ⊢
  have HN' : (EE != 0) = true := by simpa using HN
  clear fin hT HTT HPP
  have z3' := z3
  obtain ⟨d0, d1, d2, d3, d4, d5, d6, d7, d8, d9, d10, d11, d12, d13, d14, dz⟩ := z3
  go_wp2
  exact parse_ret6 (sIp_set z3' _ _ _ _ _ _ _ _ _ _ _ _ _ _ _) rfl rfl rfl (bad6 HP2.out HN (set15_below b3 (Nat.le_refl _) _ _ _ _ _ _ _ _ _ _ _ _ _ _ _))
end Go.Proofs.Ytmnkdogdligckaa
