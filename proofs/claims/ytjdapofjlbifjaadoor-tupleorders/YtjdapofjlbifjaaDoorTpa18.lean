/- Texts joined: Hex -/
import Derived.Test.YtjdapofjlbifjaaDoorTpa3
import Derived.Test.YtjdapofjlbifjaaDoorTpa7
namespace Go.Proofs.YtjdapofjlbifjaaDoor
open Go.RowKit
set_option linter.unusedVariables false
set_option linter.unusedSimpArgs false
theorem trail16 (w : World) (ht : w.cell? ⟨3, 15, none⟩ = some (.int .u8 4)) :
    Calls Tryd.prog 79 #[.int .u64 16] w fun e w' => e = .returned (.int .i64 4) ∧ w' = w := by
  have e0 : IntKind.u64.wrap (-16) = 18446744073709551600 := by decide
  have e1 : bits .and .u64 16 18446744073709551600 = 16 := by decide
  have e2 : IntKind.u64.wrap 4573923408821661840 = 4573923408821661840 := by decide
  go_enter Tryd.func79, Tryd.ntmps79
  go_wp2
  go_ret
  exact ⟨rfl, rfl⟩
theorem trail16' (w : World) (ht : w.cell? ⟨3, 15, none⟩ = some (.int .u8 4)) :
    Calls Tryd.prog 75 #[.int .u64 16] w fun e w' => e = .returned (.int .i64 4) ∧ w' = w := by
  go_enter Tryd.func75, Tryd.ntmps75
  go_wp2_with (go_at_call 79; refine (trail16 _ ht).mono ?_; rintro e w' ⟨rfl, rfl⟩)
  go_ret
  exact ⟨rfl, rfl⟩
theorem power16 (w : World) :
    Calls Tryd.prog 74 #[.int .i64 16] w fun e w' => e = .returned (.bool true) ∧ w' = w := by
  have e1 : bits .and .i64 16 15 = 0 := by decide
  go_enter Tryd.func74, Tryd.ntmps74
  go_wp2
  go_ret
  exact ⟨rfl, rfl⟩
/-- A hexadecimal digit. -/
def hd (k : Nat) : Int := if k < 10 then 48 + k else 87 + k
theorem and15 (q : Nat) (h : q < 65536) : bits .and .u64 (q : Int) 15 = ((q % 16 : Nat) : Int) := by
  have h15 : (BitVec.ofInt 64 15).toNat = 2 ^ 4 - 1 := by decide
  show IntKind.u64.wrap ((BitVec.ofInt 64 (q : Int) &&& BitVec.ofInt 64 15).toNat : Int) = _
  rw [BitVec.toNat_and, ofInt_u64 q (by omega), h15, Nat.and_two_pow_sub_one_eq_mod, IntKind.wrap_u64]
  omega
theorem dig_at (k : Nat) (h : k < 16) (h' : k < (ByteArray.mk #[48, 49, 50, 51, 52, 53, 54, 55, 56, 57, 97, 98, 99, 100, 101, 102, 103, 104, 105, 106, 107, 108, 109, 110, 111, 112, 113, 114, 115, 116, 117, 118, 119, 120, 121, 122]).size) : (((ByteArray.mk #[48, 49, 50, 51, 52, 53, 54, 55, 56, 57, 97, 98, 99, 100, 101, 102, 103, 104, 105, 106, 107, 108, 109, 110, 111, 112, 113, 114, 115, 116, 117, 118, 119, 120, 121, 122])[k]'h').toNat : Int) = hd k := by
  have hk : k = 0 ∨ k = 1 ∨ k = 2 ∨ k = 3 ∨ k = 4 ∨ k = 5 ∨ k = 6 ∨ k = 7 ∨ k = 8 ∨ k = 9 ∨ k = 10 ∨ k = 11 ∨ k = 12 ∨ k = 13 ∨ k = 14 ∨ k = 15 := by omega
  rcases hk with rfl | rfl | rfl | rfl | rfl | rfl | rfl | rfl | rfl | rfl | rfl | rfl | rfl | rfl | rfl | rfl
  all_goals rfl
/-- How many digits. -/
def nd (U : Nat) : Nat := if U < 16 then 1 else if U < 256 then 2 else if U < 4096 then 3 else 4
def hexL (U : Nat) : List Int := (List.range (nd U)).map fun t => hd (U / 16 ^ (nd U - 1 - t) % 16)
theorem hexL_length (U : Nat) : (hexL U).length = nd U := by simp [hexL]
theorem hd_bd (k : Nat) (h : k < 16) : 0 ≤ hd k ∧ hd k ≤ 255 := by unfold hd; split <;> omega
theorem hexL_bytes (U : Nat) : M.Bytes (hexL U) := fun x hx => by
  obtain ⟨t, _, rfl⟩ := List.mem_map.1 hx
  exact hd_bd _ (Nat.mod_lt _ (by decide))
theorem nd_of {U j : Nat} (hU : U < 65536) (hj : j ≤ 3) (h1 : j = 0 ∨ 16 ^ j ≤ U) (h2 : U / 16 ^ j < 16) : nd U = j + 1 := by
  have hk : j = 0 ∨ j = 1 ∨ j = 2 ∨ j = 3 := by omega
  unfold nd
  rcases hk with rfl | rfl | rfl | rfl <;> simp at h1 h2 <;> (repeat' split) <;> omega
set_option maxRecDepth 100000 in
set_option maxHeartbeats 1000000 in
theorem formatBits16 (U : Nat) (w : World) (hU : U < 65536) (ht : w.cell? ⟨3, 15, none⟩ = some (.int .u8 4)) :
    Calls Tryd.prog 68 #[.slice none 0 0, .int .u64 U, .int .i64 16, .bool false, .bool false] w fun e w' =>
      e = .returned (.tuple #[.slice none 0 0, .string (strOfNums (hexL U))]) ∧ Below w.heap.size w w' := by
  have hp := power16
  have htz := trail16'
  go_enter Tryd.func68, Tryd.ntmps68
  go_wp2_with (first
    | (go_at_call 74; refine (hp _).mono ?_; rintro e w' ⟨rfl, rfl⟩)
    | (go_at_call 75; refine (htz _ (kept ((Below.refl _ _).alloc (Nat.le_refl _) _) ht)).mono ?_; rintro e w' ⟨rfl, rfl⟩))
  have zs : Tryd.zeroCells92.size = 65 := by kernel_rfl
  generalize Tryd.zeroCells92 = Z at *
  go_loopw [1, 13] (fun u i w' => ∃ (j : Nat) (C : Array Value), j ≤ 3 ∧ u = .int .u64 ((U / 16 ^ j : Nat) : Int) ∧ i = .int .i64 ((65 - j : Nat) : Int) ∧ (j = 0 ∨ 16 ^ j ≤ U) ∧ w' = w.alloc (.cells C 92) ∧ C.size = 65 ∧ Hid (∀ t, t < j → C[64 - t]? = some (.int .u8 (hd (U / 16 ^ t % 16))))) (fun u _ _ => (intOf u).toNat)
  case atStart => exact ⟨0, Z, by omega, by simp, rfl, .inl rfl, rfl, zs, fun t h => by omega⟩
  case round =>
    obtain ⟨j, C, hj, rfl, rfl, hb, rfl, hC, hD⟩ := hrel
    have hql : U / 16 ^ j < 65536 := Nat.lt_of_le_of_lt (Nat.div_le_self _ _) hU
    generalize hq : U / 16 ^ j = q at *
    have HQ : Hid (U / 16 ^ j = q) := hq
    clear hq
    obtain ⟨n, hn⟩ : ∃ n : Nat, ((65 - j : Nat) : Int) - 1 = (n : Int) := ⟨64 - j, by omega⟩
    have HN : Hid (n = 64 - j) := by show _ = _; omega
    have hn1 : n < 65 := by omega
    have hn2 : n < C.size := by omega
    have ihn : (n : Int) < 65 := by omega
    by_cases h16 : 16 ≤ q
    · have e1 : bits .and .u64 (q : Int) 15 = ((q % 16 : Nat) : Int) := and15 q (by omega)
      have hj2 : j ≤ 2 := by
        rcases (by omega : j ≤ 2 ∨ j = 3) with h | rfl
        · exact h
        · have := HQ.out; simp at this; omega
      have hl : q % 16 < 36 := by omega
      have h16' : (16 : Int) ≤ (q : Int) := by omega
      have hb' : 16 ^ (j + 1) ≤ U := by
        have := HQ.out
        have h3 : 16 ^ j * q ≤ U := by rw [← this]; exact Nat.mul_div_le _ _
        rw [Nat.pow_succ]
        exact Nat.le_trans (Nat.mul_le_mul_left _ h16) h3
      have hq2 : U / 16 ^ (j + 1) = q / 16 := by rw [Nat.pow_succ, ← Nat.div_div_eq_div_mul, HQ.out]
      have HQ2 : Hid (U / 16 ^ (j + 1) = q / 16) := hq2
      clear hq2
      go_wp2
      refine ⟨⟨j + 1, _, by omega, int_eq (by rw [HQ2.out]; omega), int_eq (by rw [HN.out]; omega), .inr hb', rfl, by simp; omega, fun t h => ?_⟩, by simp [intOf]; omega⟩
      rw [Array.getElem?_setIfInBounds]
      by_cases htj : t = j
      · subst htj
        rw [if_pos HN.out, if_pos (by omega), HQ.out]
        congr 2
        exact dig_at _ (Nat.mod_lt _ (by decide)) _
      · rw [if_neg (by have := HN.out; omega)]
        exact hD.out t (by omega)
    · have hl : q < 36 := by omega
      have h16' : ¬ (16 : Int) ≤ (q : Int) := by omega
      have hnd := nd_of hU hj hb (by rw [HQ.out]; omega)
      have hlen : (hexL U).length = 65 - n := by rw [hexL_length, hnd]; have := HN.out; omega
      have row : ∀ v, v = Value.int .u8 (hd q) → Row (w.alloc (.cells (C.setIfInBounds n v) 92)) (some ⟨w.heap.size, n, none⟩) (hexL U) := by
        rintro v rfl
        refine ⟨by rw [hlen]; omega, hexL_bytes U, fun _ => ⟨_, _, rfl, fun i hi => ?_⟩⟩
        have hi' : i < nd U := by rw [← hexL_length]; exact hi
        have eg : (hexL U).getD i 0 = hd (U / 16 ^ (nd U - 1 - i) % 16) := by
          rw [List.getD_eq_getElem?_getD]
          simp [hexL, hi']
        rw [eg, World.cell?_alloc_new, hnd]
        show (C.setIfInBounds n (Value.int .u8 (hd q)))[n + i]? = _
        rw [Array.getElem?_setIfInBounds]
        have hN := HN.out
        by_cases h0 : i = 0
        · subst h0
          rw [if_pos (by omega), if_pos (by omega), show j + 1 - 1 - 0 = j by omega, HQ.out, Nat.mod_eq_of_lt (by omega)]
        · rw [if_neg (by omega)]
          have := hD.out (j - i) (by omega)
          rw [show 64 - (j - i) = n + i by omega] at this
          rw [this, show j + 1 - 1 - i = j - i by omega]
      have dg : (((ByteArray.mk #[48, 49, 50, 51, 52, 53, 54, 55, 56, 57, 97, 98, 99, 100, 101, 102, 103, 104, 105, 106, 107, 108, 109, 110, 111, 112, 113, 114, 115, 116, 117, 118, 119, 120, 121, 122])[q]'hl).toNat : Int) = hd q := dig_at q (by omega) _
      have conv := fun v (hv : v = Value.int .u8 (hd q)) => conv_row (row v hv) (65 - n)
      rw [hlen] at conv
      have conv' := conv _ rfl
      have hal : Tryd.prog.arrayLen 92 = 65 := by kernel_rfl
      have hel : Tryd.prog.elem 92 = 5 := by kernel_rfl
      have hsl : ∀ W, (Instr.sliceAt 92 (.pointer (some ⟨w.heap.size, 0, none⟩)) (some (.int .i64 (n : Int))) none none).run Tryd.prog W = .ok (.slice (some ⟨w.heap.size, n, none⟩) (65 - n) (65 - n)) W := fun W => by
        rw [run_sliceAt_array_l W 92 ⟨w.heap.size, 0, none⟩ (by rw [hal, hel]; exact Tryd.underlying92) .i64 (n : Int) (by omega) (by rw [hal]; omega), hal, hel]
        have hso : (sizeOf 5).run Tryd.prog W = .ok 1 W := by kernel_rfl
        rw [hso]
        simp only [Result.andThen_ok, slicedAt, Int.toNat_natCast]
        rw [if_neg (by omega), Go.WideShapes.add_plain]
        simp
      clear conv row hlen hnd hal hel
      go_wp2
      go_ret2
      exact ⟨rfl, (Below.refl _ _).alloc (Nat.le_refl _) _⟩
set_option maxHeartbeats 400000 in
theorem format16 (U : Nat) (w : World) (hU : U < 65536) (ht : w.cell? ⟨3, 15, none⟩ = some (.int .u8 4)) :
    Calls Tryd.prog 58 #[.int .i64 U, .int .i64 16] w fun e w' => e = .returned (.string (strOfNums (hexL U))) ∧ Below w.heap.size w w' := by
  have inner : ∀ w, w.cell? ⟨3, 15, none⟩ = some (.int .u8 4) → Calls Tryd.prog 60 #[.int .i64 U, .int .i64 16] w fun e w' => e = .returned (.string (strOfNums (hexL U))) ∧ Below w.heap.size w w' := by
    intro w ht
    have h0 : ¬ (U : Int) < 0 := by omega
    go_enter Tryd.func60, Tryd.ntmps60
    go_wp2_with (go_at_call 68; refine (formatBits16 U _ hU ht).mono ?_; rintro e w' ⟨rfl, b⟩)
    go_ret
    exact ⟨rfl, b⟩
  go_enter Tryd.func58, Tryd.ntmps58
  go_wp2_with (go_at_call 60; refine (inner _ ht).mono ?_; rintro e w' ⟨rfl, b⟩)
  go_ret
  exact ⟨rfl, b⟩
end Go.Proofs.YtjdapofjlbifjaaDoor
