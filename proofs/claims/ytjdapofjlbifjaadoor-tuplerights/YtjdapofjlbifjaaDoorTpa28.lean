/- Texts joined: TuE -/
import Derived.Test.YtjdapofjlbifjaaDoorTpa27
import Derived.Lib.ItoaLen
namespace Go.Proofs.YtjdapofjlbifjaaDoor
open Go.RowKit
set_option linter.unusedVariables false
set_option linter.unusedSimpArgs false
theorem itoa_len {p : Int} (h0 : 0 ≤ p) (h1 : p ≤ 65535) : (Lib.itoa p).length ≤ 21 := Lib.itoa_length_le p (by omega) (by omega)
theorem side_len {a : Ad} {p : Int} (ho : a.ok) (h0 : 0 ≤ p) (h1 : p ≤ 65535) : (sideT a p).length ≤ 1100 := by
  have := text_len2 ho
  have := itoa_len h0 h1
  unfold sideT
  split <;> simp <;> omega
set_option maxRecDepth 100000 in
set_option maxHeartbeats 2000000 in
theorem sideText_t (f h l p : Int) (w : World) (ho : Ad.ok ⟨f, h, l⟩) (hp0 : 0 ≤ p) (hp1 : p ≤ 65535) (ht : w.cell? ⟨3, 15, none⟩ = some (.int .u8 4)) (htab : Lib.TabIs Tryd.prog w "internal/strconv.uint64pow10" .u64 Lib.pow10Tab) :
    Calls Tryd.prog 33 #[.agg #[.int .i64 f, .int .u64 h, .int .u64 l], .int .i64 p] w fun e w' => e = .returned (.string (ByteArray.mk (sideT ⟨f, h, l⟩ p).toArray)) ∧ Below w.heap.size w w' := by
  have gp : Tryd.prog.globalNamed "internal/strconv.uint64pow10" = some 0 := by kernel_rfl
  obtain ⟨T, hT⟩ : ∃ T, sideT ⟨f, h, l⟩ p = T := ⟨_, rfl⟩
  rw [hT]
  have HT : Hid ((if f = 6 then [91] ++ Ad.text ⟨f, h, l⟩ ++ [93] else Ad.text ⟨f, h, l⟩) ++ [58] ++ Lib.itoa p = T) := hT
  have hlen := text_len2 ho
  have hil := itoa_len hp0 hp1
  have ktx := fun w ht htab => text_any f h l w ho ht htab
  generalize Ad.text ⟨f, h, l⟩ = X at *
  clear hT ho
  obtain ⟨W0, hW0⟩ : ∃ W0, w.alloc (.cells #[.int .i64 f, .int .u64 h, .int .u64 l] 24) = W0 := ⟨_, rfl⟩
  have A0 : W0.cell? ⟨w.heap.size, 0, none⟩ = some (.int .i64 f) := by rw [← hW0]; simp
  have A1 : W0.cell? ⟨w.heap.size, 1, none⟩ = some (.int .u64 h) := by rw [← hW0]; simp
  have A2 : W0.cell? ⟨w.heap.size, 2, none⟩ = some (.int .u64 l) := by rw [← hW0]; simp
  have B0 : Below w.heap.size w W0 := by rw [← hW0]; exact (Below.refl _ _).alloc (Nat.le_refl _) _
  have z0 := B0.size
  have kD : Hid (∀ W', Below w.heap.size w W' → Calls Tryd.prog 43 #[.int .i64 p] W' fun e w' => e = .returned (.string (ByteArray.mk (Lib.itoa p).toArray)) ∧ Below W'.heap.size W' w') := fun W' hW => by
    refine (Tryd.strconv_Itoa p (by omega) (by omega) W' (Go.Joins.tab_stays gp htab hW (Nat.le_refl _))).mono ?_
    rintro e w' ⟨rfl, n, os, rfl⟩
    exact ⟨rfl, Lib.below_grow _ W' (Nat.le_refl _) n os⟩
  go_enter Tryd.func33, Tryd.ntmps33
  go_wp2_with fail
  clear hW0
  refine (ktx W0 (kept B0 ht) (Go.Joins.tab_stays gp htab B0 (Nat.le_refl _))).mono ?_
  rintro e w1 ⟨rfl, b1⟩
  have B1 : Below w.heap.size w w1 := B0.trans (b1.mono z0)
  replace A0 := kept b1 A0
  clear ktx b1 B0 A1 A2 z0 ht htab
  by_cases h6 : f = 6
  · rw [if_pos h6] at HT
    have a1 : ∀ W, (Op.stringOp .add (ByteArray.mk #[91]) (ByteArray.mk X.toArray)).run Tryd.prog W = .ok (.string (ByteArray.mk ([91] ++ X).toArray)) W := add_lists2 [91] X (by simp) (by omega)
    have l1 : ([91] ++ X).length ≤ 1001 := by simp; omega
    generalize [91] ++ X = X1 at *
    have a2 : ∀ W, (Op.stringOp .add (ByteArray.mk X1.toArray) (ByteArray.mk #[93])).run Tryd.prog W = .ok (.string (ByteArray.mk (X1 ++ [93]).toArray)) W := add_lists2 X1 [93] (by omega) (by simp)
    have l2 : (X1 ++ [93]).length ≤ 1002 := by simp; omega
    generalize X1 ++ [93] = X2 at *
    have a3 : ∀ W, (Op.stringOp .add (ByteArray.mk X2.toArray) (ByteArray.mk #[58])).run Tryd.prog W = .ok (.string (ByteArray.mk (X2 ++ [58]).toArray)) W := add_lists2 X2 [58] (by omega) (by simp)
    have l3 : (X2 ++ [58]).length ≤ 1003 := by simp; omega
    generalize X2 ++ [58] = X3 at *
    have a4 := add_lists2 X3 (Lib.itoa p) (by omega) (by omega)
    rw [HT.out] at a4
    clear HT
    generalize Lib.itoa p = D at *
    have n6 : (f == 6) = true := by simpa using h6
    clear h6
    go_wp2_with (go_at_call 43; refine (kD.out _ B1).mono ?_; rintro e w2 ⟨rfl, b2⟩)
    go_ret
    exact ⟨rfl, bel_tr B1 b2⟩
  · rw [if_neg h6] at HT
    have a3 : ∀ W, (Op.stringOp .add (ByteArray.mk X.toArray) (ByteArray.mk #[58])).run Tryd.prog W = .ok (.string (ByteArray.mk (X ++ [58]).toArray)) W := add_lists2 X [58] (by omega) (by simp)
    have l3 : (X ++ [58]).length ≤ 1003 := by simp; omega
    generalize X ++ [58] = X3 at *
    have a4 := add_lists2 X3 (Lib.itoa p) (by omega) (by omega)
    rw [HT.out] at a4
    clear HT
    generalize Lib.itoa p = D at *
    have n6 : (f == 6) = false := by simpa using h6
    clear h6
    go_wp2_with (go_at_call 43; refine (kD.out _ B1).mono ?_; rintro e w2 ⟨rfl, b2⟩)
    go_ret
    exact ⟨rfl, bel_tr B1 b2⟩
theorem rright_iff_no {t : Wy} (h : t.right = false) : t.text = [] := by unfold Wy.text; rw [if_neg (by rw [h]; simp)]
end Go.Proofs.YtjdapofjlbifjaaDoor
