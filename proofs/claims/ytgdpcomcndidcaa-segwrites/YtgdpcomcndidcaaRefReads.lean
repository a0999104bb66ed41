/- The reference's numbers of two and four bytes are the program's. -/
import Derived.Test.YtgdpcomcndidcaaParts
namespace Go.Proofs.Ytgdpcomcndidcaa
open Go.RowKit
set_option linter.unusedVariables false

set_option maxHeartbeats 400000 in
theorem ru16_no (a : Option Addr) (c : Nat) (l : List Int) (x : Int) (w : World) (hl : l.length ≤ 140737488351232) (hx : -9223372036854775808 ≤ x ∧ x ≤ 9223372036854775807) (hn : liesB l.length x 2 = false) :
    Calls Try.prog 60 #[.slice a l.length c, .int .i64 x] w fun e w' => e = .returned (.tuple #[.int .i64 0, .bool false]) ∧ w' = w := by
  go_enter Try.func60, Try.ntmps60
  go_wp2_with (go_at_call 74; refine (rpart_no _ _ _ _ _ _ hl hx hn).mono ?_; rintro e w' ⟨rfl, rfl⟩)
  go_ret2
  exact ⟨rfl, rfl⟩

set_option maxHeartbeats 400000 in
theorem ru16_yes (a : Option Addr) (c : Nat) (l : List Int) (x : Int) (w : World) (h : Row w a l) (hnil : a = none → c = 0) (hl : l.length ≤ 140737488351232) (hc : l.length ≤ c) (hcm : c ≤ 9223372036854775807) (hx : 0 ≤ x) (hn : x + 2 ≤ (l.length : Int)) :
    Calls Try.prog 60 #[.slice a l.length c, .int .i64 x] w fun e w' => e = .returned (.tuple #[.int .i64 (u16 l x), .bool true]) ∧ Below w.heap.size w w' := by
  have hlen : (part l x 2).length = 2 := by unfold part; simp; omega
  have e0 : (part l x 2).getD 0 0 = l.getD x.toNat 0 := by unfold part; simp
  have e1 : (part l x 2).getD 1 0 = l.getD (x.toNat + 1) 0 := by unfold part; simp
  have b0 := h.bytes.get x.toNat
  have b1 := h.bytes.get (x.toNat + 1)
  unfold u16
  rw [← e0] at b0 ⊢
  rw [← e1] at b1 ⊢
  clear e0 e1
  generalize hy0 : (part l x 2).getD 0 0 = y0 at *
  generalize hy1 : (part l x 2).getD 1 0 = y1 at *
  have Y0 : Hid ((part l x 2).getD 0 0 = y0) := hy0
  have Y1 : Hid ((part l x 2).getD 1 0 = y1) := hy1
  clear hy0 hy1
  go_enter Try.func60, Try.ntmps60
  go_wp2_with fail
  refine (rpart_yes _ _ _ _ 2 _ h hnil hl hc hcm hx (by omega) (by omega)).mono ?_
  rintro e w' ⟨a', c', rfl, hf⟩
  have hr := hf.row
  generalize part l x 2 = r at *
  obtain ⟨b, off, rfl, hcc⟩ := hr.cells (by omega)
  have c0 := hcc 0 (by omega)
  rw [Nat.add_zero] at c0
  have c1 := hcc 1 (by omega)
  rw [Y0.out] at c0
  rw [Y1.out] at c1
  clear hcc
  have k0 : (0 : Int) < (r.length : Int) := by omega
  have k1 : (1 : Int) < (r.length : Int) := by omega
  have hb := hf.below
  clear hf hr h hn
  go_wp2_with fail
  go_quiet (fail)
  go_wp2
  go_ret2
  exact ⟨tup_int (i64_or8 _ _ b0.1 b0.2 b1.1 b1.2), below_drewN hb nq⟩
set_option maxHeartbeats 400000 in
theorem ru32_no (a : Option Addr) (c : Nat) (l : List Int) (x : Int) (w : World) (hl : l.length ≤ 140737488351232) (hx : -9223372036854775808 ≤ x ∧ x ≤ 9223372036854775807) (hn : liesB l.length x 4 = false) :
    Calls Try.prog 59 #[.slice a l.length c, .int .i64 x] w fun e w' => e = .returned (.tuple #[.int .u32 0, .bool false]) ∧ w' = w := by
  go_enter Try.func59, Try.ntmps59
  go_wp2_with (go_at_call 74; refine (rpart_no _ _ _ _ _ _ hl hx hn).mono ?_; rintro e w' ⟨rfl, rfl⟩)
  go_ret2
  exact ⟨rfl, rfl⟩

set_option maxHeartbeats 400000 in
theorem ru32_yes (a : Option Addr) (c : Nat) (l : List Int) (x : Int) (w : World) (h : Row w a l) (hnil : a = none → c = 0) (hl : l.length ≤ 140737488351232) (hc : l.length ≤ c) (hcm : c ≤ 9223372036854775807) (hx : 0 ≤ x) (hn : x + 4 ≤ (l.length : Int)) :
    Calls Try.prog 59 #[.slice a l.length c, .int .i64 x] w fun e w' => e = .returned (.tuple #[.int .u32 (u32 l x), .bool true]) ∧ Below w.heap.size w w' := by
  have hlen : (part l x 4).length = 4 := by unfold part; simp; omega
  have e0 : (part l x 4).getD 0 0 = l.getD x.toNat 0 := by unfold part; simp
  have e1 : (part l x 4).getD 1 0 = l.getD (x.toNat + 1) 0 := by unfold part; simp
  have e2 : (part l x 4).getD 2 0 = l.getD (x.toNat + 2) 0 := by unfold part; simp
  have e3 : (part l x 4).getD 3 0 = l.getD (x.toNat + 3) 0 := by unfold part; simp
  have b0 := h.bytes.get x.toNat
  have b1 := h.bytes.get (x.toNat + 1)
  have b2 := h.bytes.get (x.toNat + 2)
  have b3 := h.bytes.get (x.toNat + 3)
  unfold u32
  rw [← e0] at b0 ⊢
  rw [← e1] at b1 ⊢
  rw [← e2] at b2 ⊢
  rw [← e3] at b3 ⊢
  clear e0 e1 e2 e3
  generalize hy0 : (part l x 4).getD 0 0 = y0 at *
  generalize hy1 : (part l x 4).getD 1 0 = y1 at *
  generalize hy2 : (part l x 4).getD 2 0 = y2 at *
  generalize hy3 : (part l x 4).getD 3 0 = y3 at *
  have Y0 : Hid ((part l x 4).getD 0 0 = y0) := hy0
  have Y1 : Hid ((part l x 4).getD 1 0 = y1) := hy1
  have Y2 : Hid ((part l x 4).getD 2 0 = y2) := hy2
  have Y3 : Hid ((part l x 4).getD 3 0 = y3) := hy3
  clear hy0 hy1 hy2 hy3
  go_enter Try.func59, Try.ntmps59
  go_wp2_with fail
  refine (rpart_yes _ _ _ _ 4 _ h hnil hl hc hcm hx (by omega) (by omega)).mono ?_
  rintro e w' ⟨a', c', rfl, hf⟩
  have hr := hf.row
  generalize part l x 4 = r at *
  obtain ⟨b, off, rfl, hcc⟩ := hr.cells (by omega)
  have c0 := hcc 0 (by omega)
  rw [Nat.add_zero] at c0
  have c1 := hcc 1 (by omega)
  have c2 := hcc 2 (by omega)
  have c3 := hcc 3 (by omega)
  rw [Y0.out] at c0
  rw [Y1.out] at c1
  rw [Y2.out] at c2
  rw [Y3.out] at c3
  clear hcc
  have k0 : (0 : Int) < (r.length : Int) := by omega
  have k1 : (1 : Int) < (r.length : Int) := by omega
  have k2 : (2 : Int) < (r.length : Int) := by omega
  have k3 : (3 : Int) < (r.length : Int) := by omega
  have hb := hf.below
  clear hf hr h hn
  go_wp2_with fail
  go_quiet (fail)
  go_wp2
  go_ret2
  exact ⟨tup_int (u32_or4 _ _ _ _ b0.1 b0.2 b1.1 b1.2 b2.1 b2.2 b3.1 b3.2), below_drewN hb nq⟩
end Go.Proofs.Ytgdpcomcndidcaa
