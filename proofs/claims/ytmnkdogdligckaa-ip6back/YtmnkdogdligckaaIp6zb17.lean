/- Texts joined: Ip6G -/
import Derived.Test.YtmnkdogdligckaaIp6zb16
namespace Go.Proofs.Ytmnkdogdligckaa
open Go.RowKit
set_option linter.unusedVariables false
set_option linter.unusedSimpArgs false
theorem parse_ret6 {R : Ending → World → Prop} {a : Act} {w : World} {g : Nat} {x : Int} {v0 v1 v2 v3 v4 v5 v6 v7 v8 v9 v10 v11 v12 v13 v14 : Value} (s : SIp w g v0 v1 v2 v3 v4 v5 v6 v7 v8 v9 v10 v11 v12 v13 v14) (h2 : a.tmps[2]?.getD undef = .pointer (some ⟨g, 0, none⟩)) (h3 : a.tmps[3]?.getD undef = .int .i64 x) (hd : a.defers = [])
    (hR : R (.returned (.tuple #[.agg #[v0, v1, v2, v3, v4, v5, v6, v7, v8, v9, v10, v11, v12, v13, v14], .int .i64 x])) w) : bodyPost Try.prog Try.f15 R .ret a w := by
  obtain ⟨c0, c1, c2, c3, c4, c5, c6, c7, c8, c9, c10, c11, c12, c13, c14⟩ := s
  refine bodyPost_ret (v := .tuple #[.agg #[v0, v1, v2, v3, v4, v5, v6, v7, v8, v9, v10, v11, v12, v13, v14], .int .i64 x]) ?_ hd hR
  simp [results, Try.results15, go_sem, h2, h3, c0, c1, c2, c3, c4, c5, c6, c7, c8, c9, c10, c11, c12, c13, c14]
/-- What Parse answers. -/
def Got6 (w : World) (l : List Int) (e : Ending) (w' : World) : Prop :=
  ∃ a' c' xa xc, e = .returned (.tuple #[(parsed6 l).v (.slice xa (exts6 l).length xc) (.slice a' (parsed6 l).data.length c'), .int .i64 (perr6 l)]) ∧ Fresh w w' a' c' (parsed6 l).data ∧ OwnsI w' w.heap.size (.slice xa (exts6 l).length xc) (exts6 l) ∧ (exts6 l).length ≤ 8
theorem bad6 {w : World} {l : List Int} {x : Int} {W : World} (hx : perr6 l = x) (hn : x ≠ 0) (hb : Below w.heap.size w W) : Got6 w l (.returned (.tuple #[.agg zIp, .int .i64 x])) W := by
  subst hx
  have e1 : parsed6 l = Pk.none := by unfold parsed6; rw [if_neg hn]
  have e2 : exts6 l = [] := by unfold exts6; rw [if_neg hn]
  refine ⟨none, 0, none, 0, ?_, ?_, ?_, ?_⟩
  · rw [e1, e2]; rfl
  · rw [e1]; exact ⟨Owns.nil _ _, Nat.le_refl _, fun _ => rfl, ⟨by simp [Pk.none], M.Bytes.nil, fun h => by simp [Pk.none] at h⟩, hb⟩
  · rw [e2]; exact OwnsI.nil _ _
  · rw [e2]; simp
set_option maxRecDepth 100000 in
set_option maxHeartbeats 16000000 in
theorem parse6_e2 (a : Option Addr) (c : Nat) (l : List Int) (w : World) (h : Row w a l) (hnil : a = none → c = 0) (hll : l.length ≤ 140737488351232) (hc : l.length ≤ c) (hcm : c ≤ 9223372036854775807) (h40 : l.length < 40) :
    Calls Try.prog 15 #[.slice a l.length c] w (Got6 w l) := by
  obtain ⟨W0, hW0⟩ : ∃ W0, w.alloc (.cells zIp 38) = W0 := ⟨_, rfl⟩
  have b0 : Below w.heap.size w W0 := by rw [← hW0]; exact (Below.refl _ _).alloc (Nat.le_refl _) _
  have z0 : ZIp W0 w.heap.size := by rw [← hW0]; exact zIp_new w
  have s0 : W0.heap.size = w.heap.size + 1 := by rw [← hW0]; simp
  have r0 := h.below b0
  have hp : perr6 l = 2 := by unfold perr6; rw [if_pos h40]
  have HP : Hid _ := hp
  have h40' : (l.length : Int) < 40 := by omega
  have zz := z0
  obtain ⟨d0, d1, d2, d3, d4, d5, d6, d7, d8, d9, d10, d11, d12, d13, d14, dz⟩ := z0
  have hW0' := hW0
  go_enter Try.func15, Try.ntmps15
  go_wp2
  exact parse_ret6 (sIp_set zz _ _ _ _ _ _ _ _ _ _ _ _ _ _ _) rfl rfl rfl (bad6 HP.out (by decide) (set15_below b0 (Nat.le_refl _) _ _ _ _ _ _ _ _ _ _ _ _ _ _ _))
set_option maxRecDepth 100000 in
set_option maxHeartbeats 16000000 in
theorem parse6_e3 (a : Option Addr) (c : Nat) (l : List Int) (w : World) (h : Row w a l) (hnil : a = none → c = 0) (hll : l.length ≤ 140737488351232) (hc : l.length ≤ c) (hcm : c ≤ 9223372036854775807) (h40 : ¬ l.length < 40) (hv : l.getD 0 0 / 16 ≠ 6) :
    Calls Try.prog 15 #[.slice a l.length c] w (Got6 w l) := by
  obtain ⟨W0, hW0⟩ : ∃ W0, w.alloc (.cells zIp 38) = W0 := ⟨_, rfl⟩
  have b0 : Below w.heap.size w W0 := by rw [← hW0]; exact (Below.refl _ _).alloc (Nat.le_refl _) _
  have z0 : ZIp W0 w.heap.size := by rw [← hW0]; exact zIp_new w
  have s0 : W0.heap.size = w.heap.size + 1 := by rw [← hW0]; simp
  have r0 := h.below b0
  have hpp : perr6 l = 3 := by
    unfold perr6
    rw [if_neg h40, if_pos hv]
  have h40' : ¬ (l.length : Int) < 40 := by omega
  obtain ⟨bk, off, rfl, hcl⟩ := h.cells (by omega)
  have KU : Hid _ := u16_yes (some ⟨bk, off, none⟩) c l 4 W0 r0 (by decide) (by omega)
  have y0 := hcl 0 (by omega)
  have y7 := hcl 7 (by omega)
  have i0 : (0 : Int) < (l.length : Int) := by omega
  have i7 : (7 : Int) < (l.length : Int) := by omega
  rw [Nat.add_zero] at y0
  obtain ⟨x0, e0⟩ : ∃ x, l.getD 0 0 = x := ⟨_, rfl⟩
  obtain ⟨x7, e7⟩ : ∃ x, l.getD 7 0 = x := ⟨_, rfl⟩
  obtain ⟨sz, es⟩ : ∃ x, u16 l 4 = x := ⟨_, rfl⟩
  have q0 := h.bytes.get 0
  have q7 := h.bytes.get 7
  have qs := u16_bd h.bytes 4
  rw [e0] at y0 q0
  rw [e7] at y7 q7
  rw [es] at KU qs
  have HE : Hid (l.getD 0 0 = x0 ∧ l.getD 7 0 = x7 ∧ u16 l 4 = sz) := ⟨e0, e7, es⟩
  have HPP : Hid (perr6 l = _) := hpp
  rw [e0] at hv
  have hv' : (x0 / 16 != 6) = true := by simpa using hv
  clear hcl e0 e7 es hpp
  go_enter Try.func15, Try.ntmps15
  go_wp2_with fail
  refine Calls.mono KU.out ?_
  rintro e w' ⟨rfl, n, rfl⟩
  have b1 : Below w.heap.size w (W0.drewN n) := below_drewN b0 n
  have bb : Below W0.heap.size W0 (W0.drewN n) := below_drewN (Below.refl _ _) n
  have z1 : ZIp (W0.drewN n) w.heap.size := z0.below (by omega) bb
  have k0 := kept (b := bk) (o := off) b1 y0
  have k7 := kept (b := bk) (o := off + 7) b1 y7
  obtain ⟨W1, hW1⟩ : ∃ W1, W0.drewN n = W1 := ⟨_, rfl⟩
  rw [hW1] at b1 z1 k0 k7 ⊢
  have zz := z1
  clear KU bb z0 r0 hW1 hW0 y0 y7
  obtain ⟨d0, d1, d2, d3, d4, d5, d6, d7, d8, d9, d10, d11, d12, d13, d14, dz⟩ := z1
  go_wp2
  exact parse_ret6 (sIp_set zz _ _ _ _ _ _ _ _ _ _ _ _ _ _ _) rfl rfl rfl (bad6 HPP.out (by decide) (set15_below b1 (Nat.le_refl _) _ _ _ _ _ _ _ _ _ _ _ _ _ _ _))
set_option maxRecDepth 100000 in
set_option maxHeartbeats 16000000 in
theorem parse6_e5 (a : Option Addr) (c : Nat) (l : List Int) (w : World) (h : Row w a l) (hnil : a = none → c = 0) (hll : l.length ≤ 140737488351232) (hc : l.length ≤ c) (hcm : c ≤ 9223372036854775807) (h40 : ¬ l.length < 40) (hv : l.getD 0 0 / 16 = 6) (h5 : u16 l 4 > (l.length : Int) - 40) :
    Calls Try.prog 15 #[.slice a l.length c] w (Got6 w l) := by
  obtain ⟨W0, hW0⟩ : ∃ W0, w.alloc (.cells zIp 38) = W0 := ⟨_, rfl⟩
  have b0 : Below w.heap.size w W0 := by rw [← hW0]; exact (Below.refl _ _).alloc (Nat.le_refl _) _
  have z0 : ZIp W0 w.heap.size := by rw [← hW0]; exact zIp_new w
  have s0 : W0.heap.size = w.heap.size + 1 := by rw [← hW0]; simp
  have r0 := h.below b0
  have hpp : perr6 l = 5 := by
    unfold perr6
    rw [if_neg h40, if_neg (by rw [hv]; simp), if_pos h5]
  have h40' : ¬ (l.length : Int) < 40 := by omega
  obtain ⟨bk, off, rfl, hcl⟩ := h.cells (by omega)
  have KU : Hid _ := u16_yes (some ⟨bk, off, none⟩) c l 4 W0 r0 (by decide) (by omega)
  have y0 := hcl 0 (by omega)
  have y7 := hcl 7 (by omega)
  have i0 : (0 : Int) < (l.length : Int) := by omega
  have i7 : (7 : Int) < (l.length : Int) := by omega
  rw [Nat.add_zero] at y0
  obtain ⟨x0, e0⟩ : ∃ x, l.getD 0 0 = x := ⟨_, rfl⟩
  obtain ⟨x7, e7⟩ : ∃ x, l.getD 7 0 = x := ⟨_, rfl⟩
  obtain ⟨sz, es⟩ : ∃ x, u16 l 4 = x := ⟨_, rfl⟩
  have q0 := h.bytes.get 0
  have q7 := h.bytes.get 7
  have qs := u16_bd h.bytes 4
  rw [e0] at y0 q0
  rw [e7] at y7 q7
  rw [es] at KU qs
  have HE : Hid (l.getD 0 0 = x0 ∧ l.getD 7 0 = x7 ∧ u16 l 4 = sz) := ⟨e0, e7, es⟩
  have HPP : Hid (perr6 l = _) := hpp
  rw [e0] at hv
  rw [es] at h5
  have hv' : (x0 / 16 != 6) = false := by simpa using hv
  clear hv
  clear hcl e0 e7 es hpp
  go_enter Try.func15, Try.ntmps15
  go_wp2_with fail
  refine Calls.mono KU.out ?_
  rintro e w' ⟨rfl, n, rfl⟩
  have b1 : Below w.heap.size w (W0.drewN n) := below_drewN b0 n
  have bb : Below W0.heap.size W0 (W0.drewN n) := below_drewN (Below.refl _ _) n
  have z1 : ZIp (W0.drewN n) w.heap.size := z0.below (by omega) bb
  have k0 := kept (b := bk) (o := off) b1 y0
  have k7 := kept (b := bk) (o := off + 7) b1 y7
  obtain ⟨W1, hW1⟩ : ∃ W1, W0.drewN n = W1 := ⟨_, rfl⟩
  rw [hW1] at b1 z1 k0 k7 ⊢
  have zz := z1
  clear KU bb z0 r0 hW1 hW0 y0 y7
  obtain ⟨d0, d1, d2, d3, d4, d5, d6, d7, d8, d9, d10, d11, d12, d13, d14, dz⟩ := z1
  go_wp2
  exact parse_ret6 (sIp_set zz _ _ _ _ _ _ _ _ _ _ _ _ _ _ _) rfl rfl rfl (bad6 HPP.out (by decide) (set15_below b1 (Nat.le_refl _) _ _ _ _ _ _ _ _ _ _ _ _ _ _ _))
set_option maxRecDepth 100000 in
set_option maxHeartbeats 16000000 in
theorem parse6_e26 (a : Option Addr) (c : Nat) (l : List Int) (w : World) (h : Row w a l) (hnil : a = none → c = 0) (hll : l.length ≤ 140737488351232) (hc : l.length ≤ c) (hcm : c ≤ 9223372036854775807) (h40 : ¬ l.length < 40) (hv : l.getD 0 0 / 16 = 6) (h5 : ¬ u16 l 4 > (l.length : Int) - 40) (h7 : l.getD 7 0 = 0) :
    Calls Try.prog 15 #[.slice a l.length c] w (Got6 w l) := by
  obtain ⟨W0, hW0⟩ : ∃ W0, w.alloc (.cells zIp 38) = W0 := ⟨_, rfl⟩
  have b0 : Below w.heap.size w W0 := by rw [← hW0]; exact (Below.refl _ _).alloc (Nat.le_refl _) _
  have z0 : ZIp W0 w.heap.size := by rw [← hW0]; exact zIp_new w
  have s0 : W0.heap.size = w.heap.size + 1 := by rw [← hW0]; simp
  have r0 := h.below b0
  have hpp : perr6 l = 26 := by
    unfold perr6
    rw [if_neg h40, if_neg (by rw [hv]; simp), if_neg h5, if_pos h7]
  have h40' : ¬ (l.length : Int) < 40 := by omega
  obtain ⟨bk, off, rfl, hcl⟩ := h.cells (by omega)
  have KU : Hid _ := u16_yes (some ⟨bk, off, none⟩) c l 4 W0 r0 (by decide) (by omega)
  have y0 := hcl 0 (by omega)
  have y7 := hcl 7 (by omega)
  have i0 : (0 : Int) < (l.length : Int) := by omega
  have i7 : (7 : Int) < (l.length : Int) := by omega
  rw [Nat.add_zero] at y0
  obtain ⟨x0, e0⟩ : ∃ x, l.getD 0 0 = x := ⟨_, rfl⟩
  obtain ⟨x7, e7⟩ : ∃ x, l.getD 7 0 = x := ⟨_, rfl⟩
  obtain ⟨sz, es⟩ : ∃ x, u16 l 4 = x := ⟨_, rfl⟩
  have q0 := h.bytes.get 0
  have q7 := h.bytes.get 7
  have qs := u16_bd h.bytes 4
  rw [e0] at y0 q0
  rw [e7] at y7 q7
  rw [es] at KU qs
  have HE : Hid (l.getD 0 0 = x0 ∧ l.getD 7 0 = x7 ∧ u16 l 4 = sz) := ⟨e0, e7, es⟩
  have HPP : Hid (perr6 l = _) := hpp
  rw [e0] at hv
  rw [es] at h5
  rw [e7] at h7
  have hv' : (x0 / 16 != 6) = false := by simpa using hv
  clear hv
  have h7' : (x7 == 0) = true := by simpa using h7
  clear h7
  clear hcl e0 e7 es hpp
  go_enter Try.func15, Try.ntmps15
  go_wp2_with fail
  refine Calls.mono KU.out ?_
  rintro e w' ⟨rfl, n, rfl⟩
  have b1 : Below w.heap.size w (W0.drewN n) := below_drewN b0 n
  have bb : Below W0.heap.size W0 (W0.drewN n) := below_drewN (Below.refl _ _) n
  have z1 : ZIp (W0.drewN n) w.heap.size := z0.below (by omega) bb
  have k0 := kept (b := bk) (o := off) b1 y0
  have k7 := kept (b := bk) (o := off + 7) b1 y7
  obtain ⟨W1, hW1⟩ : ∃ W1, W0.drewN n = W1 := ⟨_, rfl⟩
  rw [hW1] at b1 z1 k0 k7 ⊢
  have zz := z1
  clear KU bb z0 r0 hW1 hW0 y0 y7
  obtain ⟨d0, d1, d2, d3, d4, d5, d6, d7, d8, d9, d10, d11, d12, d13, d14, dz⟩ := z1
  go_wp2
  exact parse_ret6 (sIp_set zz _ _ _ _ _ _ _ _ _ _ _ _ _ _ _) rfl rfl rfl (bad6 HPP.out (by decide) (set15_below b1 (Nat.le_refl _) _ _ _ _ _ _ _ _ _ _ _ _ _ _ _))
end Go.Proofs.Ytmnkdogdligckaa
