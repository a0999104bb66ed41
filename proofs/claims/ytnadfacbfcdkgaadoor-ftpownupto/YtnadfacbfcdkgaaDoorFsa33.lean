/- Texts joined: FtKc -/
import Derived.Test.YtnadfacbfcdkgaaDoorFsa30
namespace Go.Proofs.YtnadfacbfcdkgaaDoor
abbrev fsa33o0 : Oper := { dst := some 144, op := Op.call { callee := Callee.value (.func 27), args := #[.tmp 143], argTypes := #[9] }, type := 4, pos := "ref.go:127", after := #[{ on := 42, ground := Ground.data }, { on := 37, ground := Ground.chain }, { on := 37, ground := Ground.guard }], guard := some (37, false) }
abbrev fsa33o1 : Oper := { dst := some 143, op := Op.slice 9 (.tmp 139) (some (.const (.int .i64 3))) (some (.tmp 142)) none, type := 9, pos := "ref.go:127", after := #[{ on := 38, ground := Ground.data }, { on := 41, ground := Ground.data }, { on := 37, ground := Ground.guard }], guard := some (37, false) }
abbrev fsa33o2 : Oper := { dst := some 141, op := Op.call { callee := Callee.builtin Builtin.len, args := #[.tmp 140], argTypes := #[9] }, type := 3, pos := "ref.go:127", after := #[{ on := 39, ground := Ground.data }, { on := 37, ground := Ground.guard }], guard := some (37, false) }
abbrev fsa33o3 : Oper := { dst := some 142, op := Op.binOp BinOp.sub 3 (.tmp 141) (.const (.int .i64 1)) 3, type := 3, pos := "ref.go:127", after := #[{ on := 40, ground := Ground.data }, { on := 37, ground := Ground.guard }], guard := some (37, false) }
abbrev fsa33o4 : Oper := { dst := some 136, op := Op.binOp BinOp.neq 5 (.tmp 133) (.tmp 135) 5, type := 4, pos := "ref.go:127", after := #[{ on := 32, ground := Ground.data }, { on := 34, ground := Ground.data }, { on := 27, ground := Ground.guard }], guard := some (27, false) }
abbrev fsa33o5 : Oper := { dst := some 131, op := Op.call { callee := Callee.builtin Builtin.len, args := #[.tmp 130], argTypes := #[9] }, type := 3, pos := "ref.go:127", after := #[{ on := 29, ground := Ground.data }, { on := 27, ground := Ground.guard }], guard := some (27, false) }
abbrev fsa33o6 : Oper := { dst := some 133, op := Op.index 9 (.tmp 129) (.tmp 132), type := 5, pos := "ref.go:127", after := #[{ on := 28, ground := Ground.data }, { on := 31, ground := Ground.data }, { on := 27, ground := Ground.guard }], guard := some (27, false) }
abbrev fsa33o7 : Oper := { dst := some 146, op := Op.pick (.tmp 138) (.const (.bool true)) (.tmp 145), type := 4, pos := "ref.go:127", after := #[{ on := 37, ground := Ground.data }, { on := 44, ground := Ground.data }], guard := none }
abbrev fsa33o8 : Oper := { dst := some 145, op := Op.unOp UnOp.not 4 (.tmp 144), type := 4, pos := "ref.go:127", after := #[{ on := 43, ground := Ground.data }, { on := 37, ground := Ground.guard }], guard := some (37, false) }
abbrev fsa33o9 : Oper := { dst := some 132, op := Op.binOp BinOp.sub 3 (.tmp 131) (.const (.int .i64 1)) 3, type := 3, pos := "ref.go:127", after := #[{ on := 30, ground := Ground.data }, { on := 27, ground := Ground.guard }], guard := some (27, false) }
abbrev fsa33o10 : Oper := { dst := some 135, op := Op.index 9 (.tmp 134) (.const (.int .i64 0)), type := 5, pos := "ref.go:127", after := #[{ on := 33, ground := Ground.data }, { on := 27, ground := Ground.guard }], guard := some (27, false) }
abbrev fsa33o11 : Oper := { dst := some 126, op := Op.binOp BinOp.neq 5 (.tmp 123) (.tmp 125) 5, type := 4, pos := "ref.go:127", after := #[{ on := 22, ground := Ground.data }, { on := 24, ground := Ground.data }, { on := 20, ground := Ground.guard }], guard := some (20, false) }
abbrev fsa33o12 : Oper := { dst := some 137, op := Op.pick (.tmp 128) (.const (.bool true)) (.tmp 136), type := 4, pos := "ref.go:127", after := #[{ on := 27, ground := Ground.data }, { on := 35, ground := Ground.data }], guard := none }
abbrev fsa33o13 : Oper := { dst := some 123, op := Op.index 9 (.tmp 122) (.const (.int .i64 2)), type := 5, pos := "ref.go:127", after := #[{ on := 21, ground := Ground.data }, { on := 20, ground := Ground.guard }], guard := some (20, false) }
abbrev fsa33o14 : Oper := { dst := some 125, op := Op.index 9 (.tmp 124) (.const (.int .i64 0)), type := 5, pos := "ref.go:127", after := #[{ on := 23, ground := Ground.data }, { on := 20, ground := Ground.guard }], guard := some (20, false) }
abbrev fsa33o15 : Oper := { dst := some 139, op := Op.move (.tmp 11), type := 9, pos := "ref.go:127", after := #[{ on := 37, ground := Ground.guard }], guard := some (37, false) }
abbrev fsa33o16 : Oper := { dst := some 140, op := Op.move (.tmp 11), type := 9, pos := "ref.go:127", after := #[{ on := 37, ground := Ground.guard }], guard := some (37, false) }
abbrev fsa33o17 : Oper := { dst := some 138, op := Op.move (.tmp 137), type := 4, pos := "ref.go:127", after := #[{ on := 36, ground := Ground.data }, { on := 27, ground := Ground.chain }], guard := none }
abbrev fsa33o18 : Oper := { dst := some 119, op := Op.binOp BinOp.neq 5 (.tmp 116) (.tmp 118) 5, type := 4, pos := "ref.go:127", after := #[{ on := 15, ground := Ground.data }, { on := 17, ground := Ground.data }, { on := 13, ground := Ground.guard }], guard := some (13, false) }
abbrev fsa33o19 : Oper := { dst := some 127, op := Op.pick (.tmp 121) (.const (.bool true)) (.tmp 126), type := 4, pos := "ref.go:127", after := #[{ on := 20, ground := Ground.data }, { on := 25, ground := Ground.data }], guard := none }
abbrev fsa33o20 : Oper := { dst := some 111, op := Op.call { callee := Callee.value (.func 26), args := #[.tmp 110], argTypes := #[5] }, type := 4, pos := "ref.go:127", after := #[{ on := 9, ground := Ground.data }, { on := 7, ground := Ground.chain }, { on := 7, ground := Ground.guard }], guard := some (7, false) }
abbrev fsa33o21 : Oper := { dst := some 129, op := Op.move (.tmp 11), type := 9, pos := "ref.go:127", after := #[{ on := 27, ground := Ground.guard }], guard := some (27, false) }
abbrev fsa33o22 : Oper := { dst := some 130, op := Op.move (.tmp 11), type := 9, pos := "ref.go:127", after := #[{ on := 27, ground := Ground.guard }], guard := some (27, false) }
abbrev fsa33o23 : Oper := { dst := some 134, op := Op.move (.tmp 11), type := 9, pos := "ref.go:127", after := #[{ on := 27, ground := Ground.guard }], guard := some (27, false) }
abbrev fsa33o24 : Oper := { dst := some 116, op := Op.index 9 (.tmp 115) (.const (.int .i64 1)), type := 5, pos := "ref.go:127", after := #[{ on := 14, ground := Ground.data }, { on := 13, ground := Ground.guard }], guard := some (13, false) }
abbrev fsa33o25 : Oper := { dst := some 118, op := Op.index 9 (.tmp 117) (.const (.int .i64 0)), type := 5, pos := "ref.go:127", after := #[{ on := 16, ground := Ground.data }, { on := 13, ground := Ground.guard }], guard := some (13, false) }
abbrev fsa33o27 : Oper := { dst := some 128, op := Op.move (.tmp 127), type := 4, pos := "ref.go:127", after := #[{ on := 26, ground := Ground.data }, { on := 20, ground := Ground.chain }], guard := none }
abbrev fsa33o28 : Oper := { dst := some 120, op := Op.pick (.tmp 114) (.const (.bool true)) (.tmp 119), type := 4, pos := "ref.go:127", after := #[{ on := 13, ground := Ground.data }, { on := 18, ground := Ground.data }], guard := none }
abbrev fsa33o29 : Oper := { dst := some 122, op := Op.move (.tmp 11), type := 9, pos := "ref.go:127", after := #[{ on := 20, ground := Ground.guard }], guard := some (20, false) }
abbrev fsa33o30 : Oper := { dst := some 124, op := Op.move (.tmp 11), type := 9, pos := "ref.go:127", after := #[{ on := 20, ground := Ground.guard }], guard := some (20, false) }
abbrev fsa33o31 : Oper := { dst := some 121, op := Op.move (.tmp 120), type := 4, pos := "ref.go:127", after := #[{ on := 19, ground := Ground.data }, { on := 13, ground := Ground.chain }], guard := none }
abbrev fsa33o32 : Oper := { dst := some 110, op := Op.index 9 (.tmp 109) (.const (.int .i64 0)), type := 5, pos := "ref.go:127", after := #[{ on := 8, ground := Ground.data }, { on := 7, ground := Ground.guard }], guard := some (7, false) }
abbrev fsa33o33 : Oper := { dst := some 113, op := Op.pick (.tmp 108) (.const (.bool true)) (.tmp 112), type := 4, pos := "ref.go:127", after := #[{ on := 7, ground := Ground.data }, { on := 11, ground := Ground.data }], guard := none }
abbrev fsa33o34 : Oper := { dst := some 115, op := Op.move (.tmp 11), type := 9, pos := "ref.go:127", after := #[{ on := 13, ground := Ground.guard }], guard := some (13, false) }
abbrev fsa33o35 : Oper := { dst := some 117, op := Op.move (.tmp 11), type := 9, pos := "ref.go:127", after := #[{ on := 13, ground := Ground.guard }], guard := some (13, false) }
abbrev fsa33o36 : Oper := { dst := some 112, op := Op.unOp UnOp.not 4 (.tmp 111), type := 4, pos := "ref.go:127", after := #[{ on := 10, ground := Ground.data }, { on := 7, ground := Ground.guard }], guard := some (7, false) }
abbrev fsa33o37 : Oper := { dst := some 114, op := Op.move (.tmp 113), type := 4, pos := "ref.go:127", after := #[{ on := 12, ground := Ground.data }, { on := 10, ground := Ground.chain }], guard := none }
abbrev fsa33o38 : Oper := { dst := some 105, op := Op.call { callee := Callee.builtin Builtin.len, args := #[.tmp 104], argTypes := #[9] }, type := 3, pos := "ref.go:127", after := #[{ on := 3, ground := Ground.data }, { on := 2, ground := Ground.guard }], guard := some (2, false) }
abbrev fsa33o39 : Oper := { dst := some 106, op := Op.binOp BinOp.lss 3 (.tmp 105) (.const (.int .i64 5)) 3, type := 4, pos := "ref.go:127", after := #[{ on := 4, ground := Ground.data }, { on := 2, ground := Ground.guard }], guard := some (2, false) }
abbrev fsa33o40 : Oper := { dst := some 109, op := Op.move (.tmp 11), type := 9, pos := "ref.go:127", after := #[{ on := 7, ground := Ground.guard }], guard := some (7, false) }
abbrev fsa33o41 : Oper := { dst := some 107, op := Op.pick (.tmp 103) (.const (.bool true)) (.tmp 106), type := 4, pos := "ref.go:127", after := #[{ on := 2, ground := Ground.data }, { on := 5, ground := Ground.data }], guard := none }
abbrev fsa33o42 : Oper := { dst := some 108, op := Op.move (.tmp 107), type := 4, pos := "ref.go:127", after := #[{ on := 6, ground := Ground.data }, { on := 2, ground := Ground.chain }], guard := none }
abbrev fsa33o43 : Oper := { dst := some 104, op := Op.move (.tmp 11), type := 9, pos := "ref.go:127", after := #[{ on := 2, ground := Ground.guard }], guard := some (2, false) }
end Go.Proofs.YtnadfacbfcdkgaaDoor
namespace Go.Proofs.YtnadfacbfcdkgaaDoor
open Go.RowKit
set_option linter.unusedVariables false
set_option linter.unusedSimpArgs false
set_option maxRecDepth 100000 in
set_option maxHeartbeats 4000000 in
theorem rplace_16 (s : ByteArray) (w : World) (h5 : 5 ≤ s.size) (h512 : s.size ≤ 512) :
    Calls Tryd.prog 15 #[.int .i64 6, .int .i64 1, .string s] w fun e w' => e = .returned (.tuple #[.agg (askT (dplF 6 1 s.data.toList)).1.v, .bool (askT (dplF 6 1 s.data.toList)).2]) ∧ Below w.heap.size w w' := by
  have es : s.data.toList.length = s.size := Array.length_toList
  obtain ⟨s5, h5e⟩ : ∃ x, s.extract 0 5 = x := ⟨_, rfl⟩
  have d5 : s5.data.toList = s.data.toList.take 5 := by rw [← h5e, Lib.extract_data]; simp
  have z5 : s5.size ≤ 4294967280 := by have : s5.data.toList.length = s5.size := Array.length_toList; rw [d5] at this; simp at this; omega
  have hs5 : ∀ W, (Instr.slice 9 (.string s) none (some (.int .i64 5)) none).run Tryd.prog W = .ok (.string s5) W := fun W => by
    rw [run_slice_string_to_if (P := Tryd.prog) W 9 s .i64 5 (by kernel_rfl), if_pos ⟨by omega, by omega⟩, ← h5e]; rfl
  obtain ⟨U, hU⟩ : ∃ U : ByteArray, (⟨(s5.data.toList.map upB).toArray⟩ : ByteArray) = U := ⟨_, rfl⟩
  have dU : U.data.toList = (s.data.toList.take 5).map upB := by rw [← hU, ← d5]
  have KU : Hid (∀ W, Calls Tryd.prog 22 #[.string s5] W fun e w' => e = .returned (.string U) ∧ Below W.heap.size W w') := fun W => by have h := rupper_ft s5 W z5; rw [hU] at h; exact h
  have hk1 : decide (512 < (s.size : Int)) = false := decide_eq_false (by omega)
  have hk2 : decide ((s.size : Int) < 5) = false := decide_eq_false (by omega)
  obtain ⟨s4, h4e⟩ : ∃ x, s.extract 0 4 = x := ⟨_, rfl⟩
  have d4 : s4.data.toList = s.data.toList.take 4 := by rw [← h4e, Lib.extract_data]; simp
  have hs4 : ∀ W, (Instr.slice 9 (.string s) none (some (.int .i64 4)) none).run Tryd.prog W = .ok (.string s4) W := fun W => by
    rw [run_slice_string_to_if (P := Tryd.prog) W 9 s .i64 4 (by kernel_rfl), if_pos ⟨by omega, by omega⟩, ← h4e]; rfl
  obtain ⟨y, hy⟩ : ∃ y : ByteArray, (⟨((innF s.data.toList).getD []).toArray⟩ : ByteArray) = y := ⟨_, rfl⟩
  have dy : y.data.toList = (innF s.data.toList).getD [] := by rw [← hy]
  obtain ⟨ik, hik⟩ : ∃ ik, (innF s.data.toList).isSome = ik := ⟨_, rfl⟩
  have KI : Hid (∀ W, Calls Tryd.prog 25 #[.string s] W fun e w' => e = .returned (.tuple #[.string y, .bool ik]) ∧ Below W.heap.size W w') := fun W => by
    have h := rinner_ft s W (by omega)
    rw [hy, hik] at h
    exact h.mono fun e w' q => ⟨q.1, by rw [q.2]; exact Below.refl _ _⟩
  have ey : y.data.toList.length = y.size := Array.length_toList
  have zy : y.size ≤ 512 := by
    rw [← ey, dy]
    have h1 := cut_sizes s.data.toList [40]
    have h2 := cut_sizes (Lib.cut s.data.toList [40]).2.1 [41]
    unfold innF
    split
    · split
      · simp only [Option.getD_some]; omega
      · simp
    · simp
  obtain ⟨⟨Q3, k3⟩, hQ3⟩ : ∃ p, askT (sixD y.data.toList) = p := ⟨_, rfl⟩
  have K3 : Hid (∀ W, Calls Tryd.prog 23 #[.string y] W fun e w' => e = .returned (.tuple #[.agg Q3.v, .bool k3]) ∧ Below W.heap.size W w') := fun W => by have h := rsix_ft y W (by omega); unfold askV at h; rw [hQ3] at h; exact h
  obtain ⟨yj, hyj⟩ : ∃ x, y.extract 3 (y.size - 1) = x := ⟨_, rfl⟩
  have dj : yj.data.toList = (y.data.toList.take (y.data.toList.length - 1)).drop 3 := by rw [← hyj, Lib.extract_data, ey, List.drop_take]
  have zj : yj.size ≤ 4294967280 := by have : yj.data.toList.length = yj.size := Array.length_toList; rw [dj] at this; simp at this; omega
  have hwr : IntKind.i64.wrap ((y.size : Int) - 1) = (y.size : Int) - 1 := by rw [IntKind.wrap_i64]; omega
  have hsJ : 5 ≤ y.size → ∀ W, (Instr.slice 9 (.string y) (some (.int .i64 3)) (some (.int .i64 ((y.size : Int) - 1))) none).run Tryd.prog W = .ok (.string yj) W := fun h5 W => by
    rw [run_slice_string (P := Tryd.prog) W 9 y .i64 .i64 3 ((y.size : Int) - 1) (by kernel_rfl) (by omega) (by omega) (by omega), ← hyj]
    rw [show ((y.size : Int) - 1).toNat = y.size - 1 by omega]; rfl
  have KD : Hid (∀ W, Calls Tryd.prog 27 #[.string yj] W fun e w' => e = .returned (.bool (digF yj.data.toList)) ∧ Below W.heap.size W w') := fun W => (rdigits_ft yj W zj).mono fun e w' h => ⟨h.1, by rw [h.2]; exact Below.refl _ _⟩
  have KO : Hid (∀ W, Calls Tryd.prog 28 #[.string yj] W fun e w' => e = .returned (.tuple #[.int .i64 (num 65535 yj.data.toList).1, .bool (prtF yj.data.toList)]) ∧ Below W.heap.size W w') := fun W => (rport_ft yj W zj).mono fun e w' h => ⟨h.1, by rw [h.2]; exact Below.refl _ _⟩
  have hix : ∀ k, k < y.size → ∀ W, (Instr.index 9 (.string y) (.int .i64 (k : Int))).run Tryd.prog W = .ok (.int .u8 (((y.data.toList.getD k 0).toNat : Nat) : Int)) W := fun k hk W => by
    have h1 := idx_ft y k hk W
    have h2 := dat_at y k hk
    rw [h1, List.getD_eq_getElem?_getD, h2]
    rfl
  obtain ⟨y0, hy0⟩ : ∃ v : Int, (((y.data.toList.getD 0 0).toNat : Nat) : Int) = v := ⟨_, rfl⟩
  obtain ⟨y1, hy1⟩ : ∃ v : Int, (((y.data.toList.getD 1 0).toNat : Nat) : Int) = v := ⟨_, rfl⟩
  obtain ⟨y2, hy2⟩ : ∃ v : Int, (((y.data.toList.getD 2 0).toNat : Nat) : Int) = v := ⟨_, rfl⟩
  obtain ⟨yl, hyl⟩ : ∃ v : Int, (((y.data.toList.getD (y.data.toList.length - 1) 0).toNat : Nat) : Int) = v := ⟨_, rfl⟩
  have hi0 : 5 ≤ y.size → ∀ W, (Instr.index 9 (.string y) (.int .i64 0)).run Tryd.prog W = .ok (.int .u8 y0) W := fun h W => by rw [← hy0]; exact hix 0 (by omega) W
  have hi1 : 5 ≤ y.size → ∀ W, (Instr.index 9 (.string y) (.int .i64 1)).run Tryd.prog W = .ok (.int .u8 y1) W := fun h W => by rw [← hy1]; exact hix 1 (by omega) W
  have hi2 : 5 ≤ y.size → ∀ W, (Instr.index 9 (.string y) (.int .i64 2)).run Tryd.prog W = .ok (.int .u8 y2) W := fun h W => by rw [← hy2]; exact hix 2 (by omega) W
  have hil : 5 ≤ y.size → ∀ W, (Instr.index 9 (.string y) (.int .i64 ((y.size : Int) - 1))).run Tryd.prog W = .ok (.int .u8 yl) W := fun h W => by
    rw [← hyl, ey]
    have q := hix (y.size - 1) (by omega) W
    rw [show ((y.size - 1 : Nat) : Int) = (y.size : Int) - 1 by omega] at q
    exact q
  have KM : Hid (∀ W, Calls Tryd.prog 26 #[.int .u8 y0] W fun e w' => e = .returned (.bool (mayD (y.data.toList.getD 0 0))) ∧ Below W.heap.size W w') := fun W => by rw [← hy0]; exact (rmark_ft _ _ rfl W).mono fun e w' h => ⟨h.1, by rw [h.2]; exact Below.refl _ _⟩
  have gd : ∀ a b : UInt8, (a = b) = ((((a.toNat : Nat) : Int)) = (((b.toNat : Nat) : Int))) := fun a b => propext ⟨fun e => by rw [e], fun e => UInt8.toNat_inj.1 (by omega)⟩
  obtain ⟨R, hR⟩ : ∃ R, askT (dplF 6 1 s.data.toList) = R := ⟨_, rfl⟩
  rw [hR]
  have hf : (if s4.data.toList = [50, 50, 55, 32] ∧ (6 : Int) = 4 then (if ik = true then (Q3, k3) else (as0, false))
      else if s4.data.toList = [50, 50, 57, 32] then (if ik = true then (if 5 ≤ y.size ∧ mayD (y.data.toList.getD 0 0) = true ∧ y1 = y0 ∧ y2 = y0 ∧ yl = y0 ∧ digF yj.data.toList = true ∧ prtF yj.data.toList = true then ((⟨6, ⟨0, 0, 0⟩, (num 65535 yj.data.toList).1⟩ : As), true) else (as0, false)) else (as0, false))
      else (as0, false)) = R := by
    rw [← hR]
    unfold dplF
    rw [es, if_neg (show ¬ ((¬ (6 : Int) = 4 ∧ ¬ (6 : Int) = 6) ∨ 512 < s.size ∨ s.size < 5) by omega), if_neg (show ¬ ((1 : Int) = 0 ∧ (s.data.toList.take 5).map upB = hPORT ∧ (6 : Int) = 4) from fun h => absurd h.1 (by decide)), if_neg (show ¬ ((1 : Int) = 0 ∧ (s.data.toList.take 5).map upB = hEPRT) from fun h => absurd h.1 (by decide)), askT_ite, askT_ite, ← d4]
    have e29 : askT (prtD y.data.toList) = if 5 ≤ y.size ∧ mayD (y.data.toList.getD 0 0) = true ∧ y1 = y0 ∧ y2 = y0 ∧ yl = y0 ∧ digF yj.data.toList = true ∧ prtF yj.data.toList = true then ((⟨6, ⟨0, 0, 0⟩, (num 65535 yj.data.toList).1⟩ : As), true) else (as0, false) := by
      unfold prtD
      have ec : (5 ≤ y.data.toList.length ∧ mayD (y.data.toList.getD 0 0) = true ∧ y.data.toList.getD 1 0 = y.data.toList.getD 0 0 ∧ y.data.toList.getD 2 0 = y.data.toList.getD 0 0 ∧ y.data.toList.getD (y.data.toList.length - 1) 0 = y.data.toList.getD 0 0 ∧ digF yj.data.toList = true ∧ prtF yj.data.toList = true) = (5 ≤ y.size ∧ mayD (y.data.toList.getD 0 0) = true ∧ y1 = y0 ∧ y2 = y0 ∧ yl = y0 ∧ digF yj.data.toList = true ∧ prtF yj.data.toList = true) := by
        rw [gd (y.data.toList.getD 1 0), gd (y.data.toList.getD 2 0), gd (y.data.toList.getD (y.data.toList.length - 1) 0), hy0, hy1, hy2, hyl, ey]
      rw [askT_ite, ← dj]
      simp only [ec]
      rfl
    cases hin : innF s.data.toList with
    | none =>
      rw [hin] at hik
      have hik' : ik = false := hik.symm
      rw [hik']
      simp [h227, h229, askT]
    | some x =>
      rw [hin] at hik dy
      have hik' : ik = true := hik.symm
      have dy' : y.data.toList = x := dy
      subst dy'
      rw [hik']
      show _ = if _ then askT (sixD y.data.toList) else if _ then askT (prtD y.data.toList) else askT none
      rw [hQ3, e29]
      simp [h227, h229, askT]
  generalize mayD (y.data.toList.getD 0 0) = mk at *
  generalize digF yj.data.toList = dk at *
  generalize prtF yj.data.toList = pk at *
  generalize (num 65535 yj.data.toList).1 = pn at *
  have HR : Hid _ := hf
  clear hf hR gd hQ3 dj hyj hix hy0 hy1 hy2 hyl ey dy hy hik hU dU d4 d5 h4e h5e es zj zy z5
  have b := Below.refl w.heap.size w
  go_enter Tryd.func15, Tryd.ntmps15
  obtain ⟨Wm1, hWm1⟩ : ∃ W, w.alloc (.cells #[.int .i64 0, .int .i64 0, .int .u64 0, .int .u64 0, .int .i64 0] 32) = W := ⟨_, rfl⟩
  have bm1 := bel_al b hWm1
  have Am1 := blk_nw hWm1
  have gA : w.heap.size ≤ w.heap.size := b.size
  go_wp2_with fail
  refine Calls.mono (KU.out _) ?_
  rintro e Wm2 ⟨rfl, bb⟩
  have Am2 := Am1.kept bb
  have bm2 := bel_tr bm1 bb
  clear bb
  clear Am1 bm1
  cases hq3 : (s4.toList == [50, 50, 55, 32]) with
  | false =>
    cases hq4 : (s4.toList == [50, 50, 57, 32]) with
    | false =>
      obtain ⟨Wm5, hWm5⟩ : ∃ W, Wm2.setRow w.heap.size (As.v ⟨0, ⟨0, 0, 0⟩, 0⟩) = W := ⟨_, rfl⟩
      have Am5 : Blk Wm5 w.heap.size 32 (As.v ⟨0, ⟨0, 0, 0⟩, 0⟩) := hWm5 ▸ Am2.set (As.v ⟨0, ⟨0, 0, 0⟩, 0⟩)
      have bm5 := hWm5 ▸ below_setRow bm2 gA (As.v ⟨0, ⟨0, 0, 0⟩, 0⟩)
      go_wp2_with (guard_target =~ wpList _ _ _ ({ dst := none, op := Op.store _ _ _, type := _, pos := _, after := _, guard := none } :: _) _ _; refine wpList_store_row rfl _ _ _ rfl w.heap.size (As.v ⟨0, ⟨0, 0, 0⟩, 0⟩) (by rfl) (by rfl) _ _ Am2 (by kernel_rfl) (by rfl) (by kernel_rfl) ?_; rw [hWm5])
      have hR2 : R = ((⟨0, ⟨0, 0, 0⟩, 0⟩ : As), (false : Bool)) := by rw [← HR.out] <;> simp [as0, ad0, (show ¬ s4.data.toList = [50, 50, 55, 32] from by have := hq3; rw [ebeq_ft] at this; exact of_decide_eq_false this), (show ¬ s4.data.toList = [50, 50, 57, 32] from by have := hq4; rw [ebeq_ft] at this; exact of_decide_eq_false this)]
      subst hR2
      exact ret_cell_tmp (k := 6) (j := 7) (v := .bool false) Tryd.f15 (by kernel_rfl) Am5 Tryd.underlying32 (by kernel_rfl) (by rfl) (by rfl) rfl ⟨rfl, bm5⟩

    | true =>
      go_wp2_with fail
      refine Calls.mono (KI.out _) ?_
      rintro e Wm6 ⟨rfl, bb⟩
      have Am6 := Am2.kept bb
      have bm6 := bel_tr bm2 bb
      clear bb
      clear Am2 bm2
      go_wp2_with fail
      obtain ⟨Wdq7, hWdq7⟩ : ∃ W, Wm6.drew = W := ⟨_, rfl⟩
      have Adq7 := hWdq7 ▸ Am6.drew
      have bdq7 := hWdq7 ▸ bm6.drew
      refine wp_region_noPanic ?_
      refine wp_region_held_drew (S := fun w' => Blk w' w.heap.size 32 #[.int .i64 0, .int .i64 0, .int .u64 0, .int .u64 0, .int .i64 0]) (by kernel_rfl) (by rw [hWdq7]; exact Adq7) (fun hHeld => ?_)
      rw [hWdq7] at hHeld ⊢
      refine qtk (i := 0) (oi := { dst := some 101, op := Op.move (.tmp 12), type := 4, pos := "ref.go:127", after := #[], guard := none }) (v := (.bool ik)) hHeld ?_ ?_
      · intro w9 hSw
        try dsimp only at hSw
        go_simp
      try simp only [qpu]
      refine qtk (i := 1) (oi := { dst := some 102, op := Op.unOp UnOp.not 4 (.tmp 101), type := 4, pos := "ref.go:127", after := #[{ on := 0, ground := Ground.data }], guard := none }) (v := (.bool (!ik))) hHeld ?_ ?_
      · intro w9 hSw
        try dsimp only at hSw
        go_simp
      try simp only [qpu]
      refine qtk (i := 2) (oi := { dst := some 103, op := Op.move (.tmp 102), type := 4, pos := "ref.go:127", after := #[{ on := 1, ground := Ground.data }], guard := none }) (v := (.bool (!ik))) hHeld ?_ ?_
      · intro w9 hSw
        try dsimp only at hSw
        go_simp
      try simp only [qpu]
      cases hq8 : ik with
      | false =>
        refine qtn (i := 3) (oi := fsa33o43) hHeld ?_
        try simp only [qpu]
        refine qtn (i := 4) (oi := fsa33o38) hHeld ?_
        try simp only [qpu]
        refine qtn (i := 5) (oi := fsa33o39) hHeld ?_
        try simp only [qpu]
        refine qtk (i := 6) (oi := fsa33o41) (v := (.bool true)) hHeld ?_ ?_
        · intro w9 hSw
          try dsimp only at hSw
          go_simp
        try simp only [qpu]
        refine qtk (i := 7) (oi := fsa33o42) (v := (.bool true)) hHeld ?_ ?_
        · intro w9 hSw
          try dsimp only at hSw
          go_simp
        try simp only [qpu]
        refine qtn (i := 8) (oi := fsa33o40) hHeld ?_
        try simp only [qpu]
        refine qtn (i := 9) (oi := fsa33o32) hHeld ?_
        try simp only [qpu]
        refine qtn (i := 10) (oi := fsa33o20) hHeld ?_
        try simp only [qpu]
        refine qtn (i := 11) (oi := fsa33o36) hHeld ?_
        try simp only [qpu]
        refine qtk (i := 12) (oi := fsa33o33) (v := (.bool true)) hHeld ?_ ?_
        · intro w9 hSw
          try dsimp only at hSw
          go_simp
        try simp only [qpu]
        refine qtk (i := 13) (oi := fsa33o37) (v := (.bool true)) hHeld ?_ ?_
        · intro w9 hSw
          try dsimp only at hSw
          go_simp
        try simp only [qpu]
        refine qtn (i := 14) (oi := fsa33o34) hHeld ?_
        try simp only [qpu]
        refine qtn (i := 15) (oi := fsa33o24) hHeld ?_
        try simp only [qpu]
        refine qtn (i := 16) (oi := fsa33o35) hHeld ?_
        try simp only [qpu]
        refine qtn (i := 17) (oi := fsa33o25) hHeld ?_
        try simp only [qpu]
        refine qtn (i := 18) (oi := fsa33o18) hHeld ?_
        try simp only [qpu]
        refine qtk (i := 19) (oi := fsa33o28) (v := (.bool true)) hHeld ?_ ?_
        · intro w9 hSw
          try dsimp only at hSw
          go_simp
        try simp only [qpu]
        refine qtk (i := 20) (oi := fsa33o31) (v := (.bool true)) hHeld ?_ ?_
        · intro w9 hSw
          try dsimp only at hSw
          go_simp
        try simp only [qpu]
        refine qtn (i := 21) (oi := fsa33o29) hHeld ?_
        try simp only [qpu]
        refine qtn (i := 22) (oi := fsa33o13) hHeld ?_
        try simp only [qpu]
        refine qtn (i := 23) (oi := fsa33o30) hHeld ?_
        try simp only [qpu]
        refine qtn (i := 24) (oi := fsa33o14) hHeld ?_
        try simp only [qpu]
        refine qtn (i := 25) (oi := fsa33o11) hHeld ?_
        try simp only [qpu]
        refine qtk (i := 26) (oi := fsa33o19) (v := (.bool true)) hHeld ?_ ?_
        · intro w9 hSw
          try dsimp only at hSw
          go_simp
        try simp only [qpu]
        refine qtk (i := 27) (oi := fsa33o27) (v := (.bool true)) hHeld ?_ ?_
        · intro w9 hSw
          try dsimp only at hSw
          go_simp
        try simp only [qpu]
        refine qtn (i := 28) (oi := fsa33o21) hHeld ?_
        try simp only [qpu]
        refine qtn (i := 29) (oi := fsa33o22) hHeld ?_
        try simp only [qpu]
        refine qtn (i := 30) (oi := fsa33o5) hHeld ?_
        try simp only [qpu]
        refine qtn (i := 31) (oi := fsa33o9) hHeld ?_
        try simp only [qpu]
        refine qtn (i := 32) (oi := fsa33o6) hHeld ?_
        try simp only [qpu]
        refine qtn (i := 33) (oi := fsa33o23) hHeld ?_
        try simp only [qpu]
        refine qtn (i := 34) (oi := fsa33o10) hHeld ?_
        try simp only [qpu]
        refine qtn (i := 35) (oi := fsa33o4) hHeld ?_
        try simp only [qpu]
        refine qtk (i := 36) (oi := fsa33o12) (v := (.bool true)) hHeld ?_ ?_
        · intro w9 hSw
          try dsimp only at hSw
          go_simp
        try simp only [qpu]
        refine qtk (i := 37) (oi := fsa33o17) (v := (.bool true)) hHeld ?_ ?_
        · intro w9 hSw
          try dsimp only at hSw
          go_simp
        try simp only [qpu]
        refine qtn (i := 38) (oi := fsa33o15) hHeld ?_
        try simp only [qpu]
        refine qtn (i := 39) (oi := fsa33o16) hHeld ?_
        try simp only [qpu]
        refine qtn (i := 40) (oi := fsa33o2) hHeld ?_
        try simp only [qpu]
        refine qtn (i := 41) (oi := fsa33o3) hHeld ?_
        try simp only [qpu]
        refine qtn (i := 42) (oi := fsa33o1) hHeld ?_
        try simp only [qpu]
        refine qtn (i := 43) (oi := fsa33o0) hHeld ?_
        try simp only [qpu]
        refine qtn (i := 44) (oi := fsa33o8) hHeld ?_
        try simp only [qpu]
        refine qtk (i := 45) (oi := fsa33o7) (v := (.bool true)) hHeld ?_ ?_
        · intro w9 hSw
          try dsimp only at hSw
          go_simp
        try simp only [qpu]
        refine wpAnyH_done (by kernel_rfl) ?_ _
        refine NoPanic.normal ?_
        obtain ⟨Wm9, hWm9⟩ : ∃ W, Wdq7.setRow w.heap.size (As.v ⟨0, ⟨0, 0, 0⟩, 0⟩) = W := ⟨_, rfl⟩
        have Am9 : Blk Wm9 w.heap.size 32 (As.v ⟨0, ⟨0, 0, 0⟩, 0⟩) := hWm9 ▸ Adq7.set (As.v ⟨0, ⟨0, 0, 0⟩, 0⟩)
        have bm9 := hWm9 ▸ below_setRow bdq7 gA (As.v ⟨0, ⟨0, 0, 0⟩, 0⟩)
        go_wp2_with (guard_target =~ wpList _ _ _ ({ dst := none, op := Op.store _ _ _, type := _, pos := _, after := _, guard := none } :: _) _ _; refine wpList_store_row rfl _ _ _ rfl w.heap.size (As.v ⟨0, ⟨0, 0, 0⟩, 0⟩) (by rfl) (by rfl) _ _ Adq7 (by kernel_rfl) (by rfl) (by kernel_rfl) ?_; rw [hWm9])
        have hR2 : R = ((⟨0, ⟨0, 0, 0⟩, 0⟩ : As), (false : Bool)) := by rw [← HR.out] <;> simp [as0, ad0, (show ¬ s4.data.toList = [50, 50, 55, 32] from by have := hq3; rw [ebeq_ft] at this; exact of_decide_eq_false this), (show s4.data.toList = [50, 50, 57, 32] from by have := hq4; rw [ebeq_ft] at this; exact of_decide_eq_true this), hq8]
        subst hR2
        exact ret_cell_tmp (k := 6) (j := 7) (v := .bool false) Tryd.f15 (by kernel_rfl) Am9 Tryd.underlying32 (by kernel_rfl) (by rfl) (by rfl) rfl ⟨rfl, bm9⟩

      | true =>
        refine qtk (i := 3) (oi := fsa33o43) (v := (.string y)) hHeld ?_ ?_
        · intro w9 hSw
          try dsimp only at hSw
          go_simp
        try simp only [qpu]
        refine qtk (i := 4) (oi := fsa33o38) (v := (.int .i64 (y.size : Int))) hHeld ?_ ?_
        · intro w9 hSw
          try dsimp only at hSw
          go_simp
        try simp only [qpu]
        refine qtk (i := 5) (oi := fsa33o39) (v := (.bool (decide ((y.size : Int) < 5)))) hHeld ?_ ?_
        · intro w9 hSw
          try dsimp only at hSw
          go_simp
        try simp only [qpu]
        refine qtk (i := 6) (oi := fsa33o41) (v := (.bool (decide ((y.size : Int) < 5)))) hHeld ?_ ?_
        · intro w9 hSw
          try dsimp only at hSw
          go_simp
        try simp only [qpu]
        refine qtk (i := 7) (oi := fsa33o42) (v := (.bool (decide ((y.size : Int) < 5)))) hHeld ?_ ?_
        · intro w9 hSw
          try dsimp only at hSw
          go_simp
        try simp only [qpu]
        cases hq10 : (decide ((y.size : Int) < 5)) with
        | false =>
          refine qtk (i := 8) (oi := fsa33o40) (v := (.string y)) hHeld ?_ ?_
          · intro w9 hSw
            try dsimp only at hSw
            go_simp
          try simp only [qpu]
          refine qtk (i := 9) (oi := fsa33o32) (v := (.int .u8 y0)) hHeld ?_ ?_
          · intro w9 hSw
            try dsimp only at hSw
            have hcc := hi0 (by have := of_decide_eq_false hq10; omega)
            go_simp
          try simp only [qpu]
          refine wpAnyH_ready (rs := [10]) (by kernel_rfl) (by simp) ?_
          refine AllReadyH.cons (o := fsa33o20) rfl (fun K hK => ?_) AllReadyH.nil
          go_simp
          refine Calls.mono (KM.out _) ?_
          rintro e Wx11 ⟨rfl, bb⟩
          have Ax11 := Adq7.kept bb
          have bx11 := bel_tr bdq7 bb
          clear bb
          refine hK.out _ _ (by exact Ax11) (fun hHeld => ?_)
          clear hK K
          try simp only [qpu]
          refine qtk (i := 11) (oi := fsa33o36) (v := (.bool (!mk))) hHeld ?_ ?_
          · intro w9 hSw
            try dsimp only at hSw
            go_simp
          try simp only [qpu]
          refine qtk (i := 12) (oi := fsa33o33) (v := (.bool (!mk))) hHeld ?_ ?_
          · intro w9 hSw
            try dsimp only at hSw
            go_simp
          try simp only [qpu]
          refine qtk (i := 13) (oi := fsa33o37) (v := (.bool (!mk))) hHeld ?_ ?_
          · intro w9 hSw
            try dsimp only at hSw
            go_simp
          try simp only [qpu]
          cases hq12 : mk with
          | false =>
            refine qtn (i := 14) (oi := fsa33o34) hHeld ?_
            try simp only [qpu]
            refine qtn (i := 15) (oi := fsa33o24) hHeld ?_
            try simp only [qpu]
            refine qtn (i := 16) (oi := fsa33o35) hHeld ?_
            try simp only [qpu]
            refine qtn (i := 17) (oi := fsa33o25) hHeld ?_
            try simp only [qpu]
            refine qtn (i := 18) (oi := fsa33o18) hHeld ?_
            try simp only [qpu]
            refine qtk (i := 19) (oi := fsa33o28) (v := (.bool true)) hHeld ?_ ?_
            · intro w9 hSw
              try dsimp only at hSw
              go_simp
            try simp only [qpu]
            refine qtk (i := 20) (oi := fsa33o31) (v := (.bool true)) hHeld ?_ ?_
            · intro w9 hSw
              try dsimp only at hSw
              go_simp
            try simp only [qpu]
            refine qtn (i := 21) (oi := fsa33o29) hHeld ?_
            try simp only [qpu]
            refine qtn (i := 22) (oi := fsa33o13) hHeld ?_
            try simp only [qpu]
            refine qtn (i := 23) (oi := fsa33o30) hHeld ?_
            try simp only [qpu]
            refine qtn (i := 24) (oi := fsa33o14) hHeld ?_
            try simp only [qpu]
            refine qtn (i := 25) (oi := fsa33o11) hHeld ?_
            try simp only [qpu]
            refine qtk (i := 26) (oi := fsa33o19) (v := (.bool true)) hHeld ?_ ?_
            · intro w9 hSw
              try dsimp only at hSw
              go_simp
            try simp only [qpu]
            refine qtk (i := 27) (oi := fsa33o27) (v := (.bool true)) hHeld ?_ ?_
            · intro w9 hSw
              try dsimp only at hSw
              go_simp
            try simp only [qpu]
            refine qtn (i := 28) (oi := fsa33o21) hHeld ?_
            try simp only [qpu]
            refine qtn (i := 29) (oi := fsa33o22) hHeld ?_
            try simp only [qpu]
            refine qtn (i := 30) (oi := fsa33o5) hHeld ?_
            try simp only [qpu]
            refine qtn (i := 31) (oi := fsa33o9) hHeld ?_
            try simp only [qpu]
            refine qtn (i := 32) (oi := fsa33o6) hHeld ?_
            try simp only [qpu]
            refine qtn (i := 33) (oi := fsa33o23) hHeld ?_
            try simp only [qpu]
            refine qtn (i := 34) (oi := fsa33o10) hHeld ?_
            try simp only [qpu]
            refine qtn (i := 35) (oi := fsa33o4) hHeld ?_
            try simp only [qpu]
            refine qtk (i := 36) (oi := fsa33o12) (v := (.bool true)) hHeld ?_ ?_
            · intro w9 hSw
              try dsimp only at hSw
              go_simp
            try simp only [qpu]
            refine qtk (i := 37) (oi := fsa33o17) (v := (.bool true)) hHeld ?_ ?_
            · intro w9 hSw
              try dsimp only at hSw
              go_simp
            try simp only [qpu]
            refine qtn (i := 38) (oi := fsa33o15) hHeld ?_
            try simp only [qpu]
            refine qtn (i := 39) (oi := fsa33o16) hHeld ?_
            try simp only [qpu]
            refine qtn (i := 40) (oi := fsa33o2) hHeld ?_
            try simp only [qpu]
            refine qtn (i := 41) (oi := fsa33o3) hHeld ?_
            try simp only [qpu]
            refine qtn (i := 42) (oi := fsa33o1) hHeld ?_
            try simp only [qpu]
            refine qtn (i := 43) (oi := fsa33o0) hHeld ?_
            try simp only [qpu]
            refine qtn (i := 44) (oi := fsa33o8) hHeld ?_
            try simp only [qpu]
            refine qtk (i := 45) (oi := fsa33o7) (v := (.bool true)) hHeld ?_ ?_
            · intro w9 hSw
              try dsimp only at hSw
              go_simp
            try simp only [qpu]
            refine wpAnyH_done (by kernel_rfl) ?_ _
            refine NoPanic.normal ?_
            obtain ⟨Wm13, hWm13⟩ : ∃ W, Wx11.setRow w.heap.size (As.v ⟨0, ⟨0, 0, 0⟩, 0⟩) = W := ⟨_, rfl⟩
            have Am13 : Blk Wm13 w.heap.size 32 (As.v ⟨0, ⟨0, 0, 0⟩, 0⟩) := hWm13 ▸ Ax11.set (As.v ⟨0, ⟨0, 0, 0⟩, 0⟩)
            have bm13 := hWm13 ▸ below_setRow bx11 gA (As.v ⟨0, ⟨0, 0, 0⟩, 0⟩)
            go_wp2_with (guard_target =~ wpList _ _ _ ({ dst := none, op := Op.store _ _ _, type := _, pos := _, after := _, guard := none } :: _) _ _; refine wpList_store_row rfl _ _ _ rfl w.heap.size (As.v ⟨0, ⟨0, 0, 0⟩, 0⟩) (by rfl) (by rfl) _ _ Ax11 (by kernel_rfl) (by rfl) (by kernel_rfl) ?_; rw [hWm13])
            have hR2 : R = ((⟨0, ⟨0, 0, 0⟩, 0⟩ : As), (false : Bool)) := by rw [← HR.out] <;> simp [as0, ad0, (show ¬ s4.data.toList = [50, 50, 55, 32] from by have := hq3; rw [ebeq_ft] at this; exact of_decide_eq_false this), (show s4.data.toList = [50, 50, 57, 32] from by have := hq4; rw [ebeq_ft] at this; exact of_decide_eq_true this), hq8, (show 5 ≤ y.size from by have := hq10; simp at this; omega), hq12]
            subst hR2
            exact ret_cell_tmp (k := 6) (j := 7) (v := .bool false) Tryd.f15 (by kernel_rfl) Am13 Tryd.underlying32 (by kernel_rfl) (by rfl) (by rfl) rfl ⟨rfl, bm13⟩

          | true =>
            refine qtk (i := 14) (oi := fsa33o34) (v := (.string y)) hHeld ?_ ?_
            · intro w9 hSw
              try dsimp only at hSw
              go_simp
            try simp only [qpu]
            refine qtk (i := 15) (oi := fsa33o24) (v := (.int .u8 y1)) hHeld ?_ ?_
            · intro w9 hSw
              try dsimp only at hSw
              have hcc := hi1 (by have := of_decide_eq_false hq10; omega)
              go_simp
            try simp only [qpu]
            refine qtk (i := 16) (oi := fsa33o35) (v := (.string y)) hHeld ?_ ?_
            · intro w9 hSw
              try dsimp only at hSw
              go_simp
            try simp only [qpu]
            refine qtk (i := 17) (oi := fsa33o25) (v := (.int .u8 y0)) hHeld ?_ ?_
            · intro w9 hSw
              try dsimp only at hSw
              have hcc := hi0 (by have := of_decide_eq_false hq10; omega)
              go_simp
            try simp only [qpu]
            refine qtk (i := 18) (oi := fsa33o18) (v := (.bool (y1 != y0))) hHeld ?_ ?_
            · intro w9 hSw
              try dsimp only at hSw
              go_simp
            try simp only [qpu]
            refine qtk (i := 19) (oi := fsa33o28) (v := (.bool (y1 != y0))) hHeld ?_ ?_
            · intro w9 hSw
              try dsimp only at hSw
              go_simp
            try simp only [qpu]
            refine qtk (i := 20) (oi := fsa33o31) (v := (.bool (y1 != y0))) hHeld ?_ ?_
            · intro w9 hSw
              try dsimp only at hSw
              go_simp
            try simp only [qpu]
            cases hq14 : (y1 != y0) with
            | false =>
              refine qtk (i := 21) (oi := fsa33o29) (v := (.string y)) hHeld ?_ ?_
              · intro w9 hSw
                try dsimp only at hSw
                go_simp
              try simp only [qpu]
              refine qtk (i := 22) (oi := fsa33o13) (v := (.int .u8 y2)) hHeld ?_ ?_
              · intro w9 hSw
                try dsimp only at hSw
                have hcc := hi2 (by have := of_decide_eq_false hq10; omega)
                go_simp
              try simp only [qpu]
              refine qtk (i := 23) (oi := fsa33o30) (v := (.string y)) hHeld ?_ ?_
              · intro w9 hSw
                try dsimp only at hSw
                go_simp
              try simp only [qpu]
              refine qtk (i := 24) (oi := fsa33o14) (v := (.int .u8 y0)) hHeld ?_ ?_
              · intro w9 hSw
                try dsimp only at hSw
                have hcc := hi0 (by have := of_decide_eq_false hq10; omega)
                go_simp
              try simp only [qpu]
              refine qtk (i := 25) (oi := fsa33o11) (v := (.bool (y2 != y0))) hHeld ?_ ?_
              · intro w9 hSw
                try dsimp only at hSw
                go_simp
              try simp only [qpu]
              refine qtk (i := 26) (oi := fsa33o19) (v := (.bool (y2 != y0))) hHeld ?_ ?_
              · intro w9 hSw
                try dsimp only at hSw
                go_simp
              try simp only [qpu]
              refine qtk (i := 27) (oi := fsa33o27) (v := (.bool (y2 != y0))) hHeld ?_ ?_
              · intro w9 hSw
                try dsimp only at hSw
                go_simp
              try simp only [qpu]
              cases hq15 : (y2 != y0) with
              | false =>
                refine qtk (i := 28) (oi := fsa33o21) (v := (.string y)) hHeld ?_ ?_
                · intro w9 hSw
                  try dsimp only at hSw
                  go_simp
                try simp only [qpu]
                refine qtk (i := 29) (oi := fsa33o22) (v := (.string y)) hHeld ?_ ?_
                · intro w9 hSw
                  try dsimp only at hSw
                  go_simp
                try simp only [qpu]
                refine qtk (i := 30) (oi := fsa33o5) (v := (.int .i64 (y.size : Int))) hHeld ?_ ?_
                · intro w9 hSw
                  try dsimp only at hSw
                  go_simp
                try simp only [qpu]
                refine qtk (i := 31) (oi := fsa33o9) (v := (.int .i64 ((y.size : Int) - 1))) hHeld ?_ ?_
                · intro w9 hSw
                  try dsimp only at hSw
                  go_simp
                  try decide
                try simp only [qpu]
                refine qtk (i := 32) (oi := fsa33o6) (v := (.int .u8 yl)) hHeld ?_ ?_
                · intro w9 hSw
                  try dsimp only at hSw
                  have hcc := hil (by have := of_decide_eq_false hq10; omega)
                  go_simp
                try simp only [qpu]
                refine qtk (i := 33) (oi := fsa33o23) (v := (.string y)) hHeld ?_ ?_
                · intro w9 hSw
                  try dsimp only at hSw
                  go_simp
                try simp only [qpu]
                refine qtk (i := 34) (oi := fsa33o10) (v := (.int .u8 y0)) hHeld ?_ ?_
                · intro w9 hSw
                  try dsimp only at hSw
                  have hcc := hi0 (by have := of_decide_eq_false hq10; omega)
                  go_simp
                try simp only [qpu]
                refine qtk (i := 35) (oi := fsa33o4) (v := (.bool (yl != y0))) hHeld ?_ ?_
                · intro w9 hSw
                  try dsimp only at hSw
                  go_simp
                try simp only [qpu]
                refine qtk (i := 36) (oi := fsa33o12) (v := (.bool (yl != y0))) hHeld ?_ ?_
                · intro w9 hSw
                  try dsimp only at hSw
                  go_simp
                try simp only [qpu]
                refine qtk (i := 37) (oi := fsa33o17) (v := (.bool (yl != y0))) hHeld ?_ ?_
                · intro w9 hSw
                  try dsimp only at hSw
                  go_simp
                try simp only [qpu]
                cases hq16 : (yl != y0) with
                | false =>
                  refine qtk (i := 38) (oi := fsa33o15) (v := (.string y)) hHeld ?_ ?_
                  · intro w9 hSw
                    try dsimp only at hSw
                    go_simp
                  try simp only [qpu]
                  refine qtk (i := 39) (oi := fsa33o16) (v := (.string y)) hHeld ?_ ?_
                  · intro w9 hSw
                    try dsimp only at hSw
                    go_simp
                  try simp only [qpu]
                  refine qtk (i := 40) (oi := fsa33o2) (v := (.int .i64 (y.size : Int))) hHeld ?_ ?_
                  · intro w9 hSw
                    try dsimp only at hSw
                    go_simp
                  try simp only [qpu]
                  refine qtk (i := 41) (oi := fsa33o3) (v := (.int .i64 ((y.size : Int) - 1))) hHeld ?_ ?_
                  · intro w9 hSw
                    try dsimp only at hSw
                    go_simp
                    try decide
                  try simp only [qpu]
                  refine qtk (i := 42) (oi := fsa33o1) (v := (.string yj)) hHeld ?_ ?_
                  · intro w9 hSw
                    try dsimp only at hSw
                    have hcc := hsJ (by have := of_decide_eq_false hq10; omega)
                    go_simp
                  try simp only [qpu]
                  refine wpAnyH_ready (rs := [43]) (by kernel_rfl) (by simp) ?_
                  refine AllReadyH.cons (o := fsa33o0) rfl (fun K hK => ?_) AllReadyH.nil
                  go_simp
                  refine Calls.mono (KD.out _) ?_
                  rintro e Wx17 ⟨rfl, bb⟩
                  have Ax17 := Ax11.kept bb
                  have bx17 := bel_tr bx11 bb
                  clear bb
                  refine hK.out _ _ (by exact Ax17) (fun hHeld => ?_)
                  clear hK K
                  try simp only [qpu]
                  refine qtk (i := 44) (oi := fsa33o8) (v := (.bool (!dk))) hHeld ?_ ?_
                  · intro w9 hSw
                    try dsimp only at hSw
                    go_simp
                  try simp only [qpu]
                  refine qtk (i := 45) (oi := fsa33o7) (v := (.bool (!dk))) hHeld ?_ ?_
                  · intro w9 hSw
                    try dsimp only at hSw
                    go_simp
                  try simp only [qpu]
                  refine wpAnyH_done (by kernel_rfl) ?_ _
                  refine NoPanic.normal ?_
                  cases hq18 : dk with
                  | false =>
                    obtain ⟨Wm19, hWm19⟩ : ∃ W, Wx17.setRow w.heap.size (As.v ⟨0, ⟨0, 0, 0⟩, 0⟩) = W := ⟨_, rfl⟩
                    have Am19 : Blk Wm19 w.heap.size 32 (As.v ⟨0, ⟨0, 0, 0⟩, 0⟩) := hWm19 ▸ Ax17.set (As.v ⟨0, ⟨0, 0, 0⟩, 0⟩)
                    have bm19 := hWm19 ▸ below_setRow bx17 gA (As.v ⟨0, ⟨0, 0, 0⟩, 0⟩)
                    go_wp2_with (guard_target =~ wpList _ _ _ ({ dst := none, op := Op.store _ _ _, type := _, pos := _, after := _, guard := none } :: _) _ _; refine wpList_store_row rfl _ _ _ rfl w.heap.size (As.v ⟨0, ⟨0, 0, 0⟩, 0⟩) (by rfl) (by rfl) _ _ Ax17 (by kernel_rfl) (by rfl) (by kernel_rfl) ?_; rw [hWm19])
                    have hR2 : R = ((⟨0, ⟨0, 0, 0⟩, 0⟩ : As), (false : Bool)) := by rw [← HR.out] <;> simp [as0, ad0, (show ¬ s4.data.toList = [50, 50, 55, 32] from by have := hq3; rw [ebeq_ft] at this; exact of_decide_eq_false this), (show s4.data.toList = [50, 50, 57, 32] from by have := hq4; rw [ebeq_ft] at this; exact of_decide_eq_true this), hq8, (show 5 ≤ y.size from by have := hq10; simp at this; omega), hq12, (bne_f_ft hq14), (bne_f_ft hq15), (bne_f_ft hq16), hq18]
                    subst hR2
                    exact ret_cell_tmp (k := 6) (j := 7) (v := .bool false) Tryd.f15 (by kernel_rfl) Am19 Tryd.underlying32 (by kernel_rfl) (by rfl) (by rfl) rfl ⟨rfl, bm19⟩

                  | true =>
                    have hsJ2 := hsJ (by have := of_decide_eq_false hq10; omega)
                    go_wp2_with fail
                    refine Calls.mono (KO.out _) ?_
                    rintro e Wm20 ⟨rfl, bb⟩
                    have Am20 := Ax17.kept bb
                    have bm20 := bel_tr bx17 bb
                    clear bb
                    clear Ax17 bx17
                    cases hq21 : pk with
                    | false =>
                      obtain ⟨Wm22, hWm22⟩ : ∃ W, Wm20.setRow w.heap.size (As.v ⟨0, ⟨0, 0, 0⟩, 0⟩) = W := ⟨_, rfl⟩
                      have Am22 : Blk Wm22 w.heap.size 32 (As.v ⟨0, ⟨0, 0, 0⟩, 0⟩) := hWm22 ▸ Am20.set (As.v ⟨0, ⟨0, 0, 0⟩, 0⟩)
                      have bm22 := hWm22 ▸ below_setRow bm20 gA (As.v ⟨0, ⟨0, 0, 0⟩, 0⟩)
                      go_wp2_with (guard_target =~ wpList _ _ _ ({ dst := none, op := Op.store _ _ _, type := _, pos := _, after := _, guard := none } :: _) _ _; refine wpList_store_row rfl _ _ _ rfl w.heap.size (As.v ⟨0, ⟨0, 0, 0⟩, 0⟩) (by rfl) (by rfl) _ _ Am20 (by kernel_rfl) (by rfl) (by kernel_rfl) ?_; rw [hWm22])
                      have hR2 : R = ((⟨0, ⟨0, 0, 0⟩, 0⟩ : As), (false : Bool)) := by rw [← HR.out] <;> simp [as0, ad0, (show ¬ s4.data.toList = [50, 50, 55, 32] from by have := hq3; rw [ebeq_ft] at this; exact of_decide_eq_false this), (show s4.data.toList = [50, 50, 57, 32] from by have := hq4; rw [ebeq_ft] at this; exact of_decide_eq_true this), hq8, (show 5 ≤ y.size from by have := hq10; simp at this; omega), hq12, (bne_f_ft hq14), (bne_f_ft hq15), (bne_f_ft hq16), hq18, hq21]
                      subst hR2
                      exact ret_cell_tmp (k := 6) (j := 7) (v := .bool false) Tryd.f15 (by kernel_rfl) Am22 Tryd.underlying32 (by kernel_rfl) (by rfl) (by rfl) rfl ⟨rfl, bm22⟩

                    | true =>
                      obtain ⟨Wm23, hWm23⟩ : ∃ W, Wm20.setRow w.heap.size (As.v ⟨6, ⟨0, 0, 0⟩, pn⟩) = W := ⟨_, rfl⟩
                      have Am23 : Blk Wm23 w.heap.size 32 (As.v ⟨6, ⟨0, 0, 0⟩, pn⟩) := hWm23 ▸ Am20.set (As.v ⟨6, ⟨0, 0, 0⟩, pn⟩)
                      have bm23 := hWm23 ▸ below_setRow bm20 gA (As.v ⟨6, ⟨0, 0, 0⟩, pn⟩)
                      go_wp2_with (guard_target =~ wpList _ _ _ ({ dst := none, op := Op.store _ _ _, type := _, pos := _, after := _, guard := none } :: _) _ _; refine wpList_store_row rfl _ _ _ rfl w.heap.size (As.v ⟨6, ⟨0, 0, 0⟩, pn⟩) (by rfl) (by rfl) _ _ Am20 (by kernel_rfl) (by rfl) (by kernel_rfl) ?_; rw [hWm23])
                      have hR2 : R = ((⟨6, ⟨0, 0, 0⟩, pn⟩ : As), (true : Bool)) := by rw [← HR.out] <;> simp [as0, ad0, (show ¬ s4.data.toList = [50, 50, 55, 32] from by have := hq3; rw [ebeq_ft] at this; exact of_decide_eq_false this), (show s4.data.toList = [50, 50, 57, 32] from by have := hq4; rw [ebeq_ft] at this; exact of_decide_eq_true this), hq8, (show 5 ≤ y.size from by have := hq10; simp at this; omega), hq12, (bne_f_ft hq14), (bne_f_ft hq15), (bne_f_ft hq16), hq18, hq21]
                      subst hR2
                      exact ret_cell_tmp (k := 6) (j := 7) (v := .bool true) Tryd.f15 (by kernel_rfl) Am23 Tryd.underlying32 (by kernel_rfl) (by rfl) (by rfl) rfl ⟨rfl, bm23⟩



                | true =>
                  refine qtn (i := 38) (oi := fsa33o15) hHeld ?_
                  try simp only [qpu]
                  refine qtn (i := 39) (oi := fsa33o16) hHeld ?_
                  try simp only [qpu]
                  refine qtn (i := 40) (oi := fsa33o2) hHeld ?_
                  try simp only [qpu]
                  refine qtn (i := 41) (oi := fsa33o3) hHeld ?_
                  try simp only [qpu]
                  refine qtn (i := 42) (oi := fsa33o1) hHeld ?_
                  try simp only [qpu]
                  refine qtn (i := 43) (oi := fsa33o0) hHeld ?_
                  try simp only [qpu]
                  refine qtn (i := 44) (oi := fsa33o8) hHeld ?_
                  try simp only [qpu]
                  refine qtk (i := 45) (oi := fsa33o7) (v := (.bool true)) hHeld ?_ ?_
                  · intro w9 hSw
                    try dsimp only at hSw
                    go_simp
                  try simp only [qpu]
                  refine wpAnyH_done (by kernel_rfl) ?_ _
                  refine NoPanic.normal ?_
                  obtain ⟨Wm24, hWm24⟩ : ∃ W, Wx11.setRow w.heap.size (As.v ⟨0, ⟨0, 0, 0⟩, 0⟩) = W := ⟨_, rfl⟩
                  have Am24 : Blk Wm24 w.heap.size 32 (As.v ⟨0, ⟨0, 0, 0⟩, 0⟩) := hWm24 ▸ Ax11.set (As.v ⟨0, ⟨0, 0, 0⟩, 0⟩)
                  have bm24 := hWm24 ▸ below_setRow bx11 gA (As.v ⟨0, ⟨0, 0, 0⟩, 0⟩)
                  go_wp2_with (guard_target =~ wpList _ _ _ ({ dst := none, op := Op.store _ _ _, type := _, pos := _, after := _, guard := none } :: _) _ _; refine wpList_store_row rfl _ _ _ rfl w.heap.size (As.v ⟨0, ⟨0, 0, 0⟩, 0⟩) (by rfl) (by rfl) _ _ Ax11 (by kernel_rfl) (by rfl) (by kernel_rfl) ?_; rw [hWm24])
                  have hR2 : R = ((⟨0, ⟨0, 0, 0⟩, 0⟩ : As), (false : Bool)) := by rw [← HR.out] <;> simp [as0, ad0, (show ¬ s4.data.toList = [50, 50, 55, 32] from by have := hq3; rw [ebeq_ft] at this; exact of_decide_eq_false this), (show s4.data.toList = [50, 50, 57, 32] from by have := hq4; rw [ebeq_ft] at this; exact of_decide_eq_true this), hq8, (show 5 ≤ y.size from by have := hq10; simp at this; omega), hq12, (bne_f_ft hq14), (bne_f_ft hq15), (bne_t_ft hq16)]
                  subst hR2
                  exact ret_cell_tmp (k := 6) (j := 7) (v := .bool false) Tryd.f15 (by kernel_rfl) Am24 Tryd.underlying32 (by kernel_rfl) (by rfl) (by rfl) rfl ⟨rfl, bm24⟩


              | true =>
                refine qtn (i := 28) (oi := fsa33o21) hHeld ?_
                try simp only [qpu]
                refine qtn (i := 29) (oi := fsa33o22) hHeld ?_
                try simp only [qpu]
                refine qtn (i := 30) (oi := fsa33o5) hHeld ?_
                try simp only [qpu]
                refine qtn (i := 31) (oi := fsa33o9) hHeld ?_
                try simp only [qpu]
                refine qtn (i := 32) (oi := fsa33o6) hHeld ?_
                try simp only [qpu]
                refine qtn (i := 33) (oi := fsa33o23) hHeld ?_
                try simp only [qpu]
                refine qtn (i := 34) (oi := fsa33o10) hHeld ?_
                try simp only [qpu]
                refine qtn (i := 35) (oi := fsa33o4) hHeld ?_
                try simp only [qpu]
                refine qtk (i := 36) (oi := fsa33o12) (v := (.bool true)) hHeld ?_ ?_
                · intro w9 hSw
                  try dsimp only at hSw
                  go_simp
                try simp only [qpu]
                refine qtk (i := 37) (oi := fsa33o17) (v := (.bool true)) hHeld ?_ ?_
                · intro w9 hSw
                  try dsimp only at hSw
                  go_simp
                try simp only [qpu]
                refine qtn (i := 38) (oi := fsa33o15) hHeld ?_
                try simp only [qpu]
                refine qtn (i := 39) (oi := fsa33o16) hHeld ?_
                try simp only [qpu]
                refine qtn (i := 40) (oi := fsa33o2) hHeld ?_
                try simp only [qpu]
                refine qtn (i := 41) (oi := fsa33o3) hHeld ?_
                try simp only [qpu]
                refine qtn (i := 42) (oi := fsa33o1) hHeld ?_
                try simp only [qpu]
                refine qtn (i := 43) (oi := fsa33o0) hHeld ?_
                try simp only [qpu]
                refine qtn (i := 44) (oi := fsa33o8) hHeld ?_
                try simp only [qpu]
                refine qtk (i := 45) (oi := fsa33o7) (v := (.bool true)) hHeld ?_ ?_
                · intro w9 hSw
                  try dsimp only at hSw
                  go_simp
                try simp only [qpu]
                refine wpAnyH_done (by kernel_rfl) ?_ _
                refine NoPanic.normal ?_
                obtain ⟨Wm25, hWm25⟩ : ∃ W, Wx11.setRow w.heap.size (As.v ⟨0, ⟨0, 0, 0⟩, 0⟩) = W := ⟨_, rfl⟩
                have Am25 : Blk Wm25 w.heap.size 32 (As.v ⟨0, ⟨0, 0, 0⟩, 0⟩) := hWm25 ▸ Ax11.set (As.v ⟨0, ⟨0, 0, 0⟩, 0⟩)
                have bm25 := hWm25 ▸ below_setRow bx11 gA (As.v ⟨0, ⟨0, 0, 0⟩, 0⟩)
                go_wp2_with (guard_target =~ wpList _ _ _ ({ dst := none, op := Op.store _ _ _, type := _, pos := _, after := _, guard := none } :: _) _ _; refine wpList_store_row rfl _ _ _ rfl w.heap.size (As.v ⟨0, ⟨0, 0, 0⟩, 0⟩) (by rfl) (by rfl) _ _ Ax11 (by kernel_rfl) (by rfl) (by kernel_rfl) ?_; rw [hWm25])
                have hR2 : R = ((⟨0, ⟨0, 0, 0⟩, 0⟩ : As), (false : Bool)) := by rw [← HR.out] <;> simp [as0, ad0, (show ¬ s4.data.toList = [50, 50, 55, 32] from by have := hq3; rw [ebeq_ft] at this; exact of_decide_eq_false this), (show s4.data.toList = [50, 50, 57, 32] from by have := hq4; rw [ebeq_ft] at this; exact of_decide_eq_true this), hq8, (show 5 ≤ y.size from by have := hq10; simp at this; omega), hq12, (bne_f_ft hq14), (bne_t_ft hq15)]
                subst hR2
                exact ret_cell_tmp (k := 6) (j := 7) (v := .bool false) Tryd.f15 (by kernel_rfl) Am25 Tryd.underlying32 (by kernel_rfl) (by rfl) (by rfl) rfl ⟨rfl, bm25⟩


            | true =>
              refine qtn (i := 21) (oi := fsa33o29) hHeld ?_
              try simp only [qpu]
              refine qtn (i := 22) (oi := fsa33o13) hHeld ?_
              try simp only [qpu]
              refine qtn (i := 23) (oi := fsa33o30) hHeld ?_
              try simp only [qpu]
              refine qtn (i := 24) (oi := fsa33o14) hHeld ?_
              try simp only [qpu]
              refine qtn (i := 25) (oi := fsa33o11) hHeld ?_
              try simp only [qpu]
              refine qtk (i := 26) (oi := fsa33o19) (v := (.bool true)) hHeld ?_ ?_
              · intro w9 hSw
                try dsimp only at hSw
                go_simp
              try simp only [qpu]
              refine qtk (i := 27) (oi := fsa33o27) (v := (.bool true)) hHeld ?_ ?_
              · intro w9 hSw
                try dsimp only at hSw
                go_simp
              try simp only [qpu]
              refine qtn (i := 28) (oi := fsa33o21) hHeld ?_
              try simp only [qpu]
              refine qtn (i := 29) (oi := fsa33o22) hHeld ?_
              try simp only [qpu]
              refine qtn (i := 30) (oi := fsa33o5) hHeld ?_
              try simp only [qpu]
              refine qtn (i := 31) (oi := fsa33o9) hHeld ?_
              try simp only [qpu]
              refine qtn (i := 32) (oi := fsa33o6) hHeld ?_
              try simp only [qpu]
              refine qtn (i := 33) (oi := fsa33o23) hHeld ?_
              try simp only [qpu]
              refine qtn (i := 34) (oi := fsa33o10) hHeld ?_
              try simp only [qpu]
              refine qtn (i := 35) (oi := fsa33o4) hHeld ?_
              try simp only [qpu]
              refine qtk (i := 36) (oi := fsa33o12) (v := (.bool true)) hHeld ?_ ?_
              · intro w9 hSw
                try dsimp only at hSw
                go_simp
              try simp only [qpu]
              refine qtk (i := 37) (oi := fsa33o17) (v := (.bool true)) hHeld ?_ ?_
              · intro w9 hSw
                try dsimp only at hSw
                go_simp
              try simp only [qpu]
              refine qtn (i := 38) (oi := fsa33o15) hHeld ?_
              try simp only [qpu]
              refine qtn (i := 39) (oi := fsa33o16) hHeld ?_
              try simp only [qpu]
              refine qtn (i := 40) (oi := fsa33o2) hHeld ?_
              try simp only [qpu]
              refine qtn (i := 41) (oi := fsa33o3) hHeld ?_
              try simp only [qpu]
              refine qtn (i := 42) (oi := fsa33o1) hHeld ?_
              try simp only [qpu]
              refine qtn (i := 43) (oi := fsa33o0) hHeld ?_
              try simp only [qpu]
              refine qtn (i := 44) (oi := fsa33o8) hHeld ?_
              try simp only [qpu]
              refine qtk (i := 45) (oi := fsa33o7) (v := (.bool true)) hHeld ?_ ?_
              · intro w9 hSw
                try dsimp only at hSw
                go_simp
              try simp only [qpu]
              refine wpAnyH_done (by kernel_rfl) ?_ _
              refine NoPanic.normal ?_
              obtain ⟨Wm26, hWm26⟩ : ∃ W, Wx11.setRow w.heap.size (As.v ⟨0, ⟨0, 0, 0⟩, 0⟩) = W := ⟨_, rfl⟩
              have Am26 : Blk Wm26 w.heap.size 32 (As.v ⟨0, ⟨0, 0, 0⟩, 0⟩) := hWm26 ▸ Ax11.set (As.v ⟨0, ⟨0, 0, 0⟩, 0⟩)
              have bm26 := hWm26 ▸ below_setRow bx11 gA (As.v ⟨0, ⟨0, 0, 0⟩, 0⟩)
              go_wp2_with (guard_target =~ wpList _ _ _ ({ dst := none, op := Op.store _ _ _, type := _, pos := _, after := _, guard := none } :: _) _ _; refine wpList_store_row rfl _ _ _ rfl w.heap.size (As.v ⟨0, ⟨0, 0, 0⟩, 0⟩) (by rfl) (by rfl) _ _ Ax11 (by kernel_rfl) (by rfl) (by kernel_rfl) ?_; rw [hWm26])
              have hR2 : R = ((⟨0, ⟨0, 0, 0⟩, 0⟩ : As), (false : Bool)) := by rw [← HR.out] <;> simp [as0, ad0, (show ¬ s4.data.toList = [50, 50, 55, 32] from by have := hq3; rw [ebeq_ft] at this; exact of_decide_eq_false this), (show s4.data.toList = [50, 50, 57, 32] from by have := hq4; rw [ebeq_ft] at this; exact of_decide_eq_true this), hq8, (show 5 ≤ y.size from by have := hq10; simp at this; omega), hq12, (bne_t_ft hq14)]
              subst hR2
              exact ret_cell_tmp (k := 6) (j := 7) (v := .bool false) Tryd.f15 (by kernel_rfl) Am26 Tryd.underlying32 (by kernel_rfl) (by rfl) (by rfl) rfl ⟨rfl, bm26⟩



        | true =>
          refine qtn (i := 8) (oi := fsa33o40) hHeld ?_
          try simp only [qpu]
          refine qtn (i := 9) (oi := fsa33o32) hHeld ?_
          try simp only [qpu]
          refine qtn (i := 10) (oi := fsa33o20) hHeld ?_
          try simp only [qpu]
          refine qtn (i := 11) (oi := fsa33o36) hHeld ?_
          try simp only [qpu]
          refine qtk (i := 12) (oi := fsa33o33) (v := (.bool true)) hHeld ?_ ?_
          · intro w9 hSw
            try dsimp only at hSw
            go_simp
          try simp only [qpu]
          refine qtk (i := 13) (oi := fsa33o37) (v := (.bool true)) hHeld ?_ ?_
          · intro w9 hSw
            try dsimp only at hSw
            go_simp
          try simp only [qpu]
          refine qtn (i := 14) (oi := fsa33o34) hHeld ?_
          try simp only [qpu]
          refine qtn (i := 15) (oi := fsa33o24) hHeld ?_
          try simp only [qpu]
          refine qtn (i := 16) (oi := fsa33o35) hHeld ?_
          try simp only [qpu]
          refine qtn (i := 17) (oi := fsa33o25) hHeld ?_
          try simp only [qpu]
          refine qtn (i := 18) (oi := fsa33o18) hHeld ?_
          try simp only [qpu]
          refine qtk (i := 19) (oi := fsa33o28) (v := (.bool true)) hHeld ?_ ?_
          · intro w9 hSw
            try dsimp only at hSw
            go_simp
          try simp only [qpu]
          refine qtk (i := 20) (oi := fsa33o31) (v := (.bool true)) hHeld ?_ ?_
          · intro w9 hSw
            try dsimp only at hSw
            go_simp
          try simp only [qpu]
          refine qtn (i := 21) (oi := fsa33o29) hHeld ?_
          try simp only [qpu]
          refine qtn (i := 22) (oi := fsa33o13) hHeld ?_
          try simp only [qpu]
          refine qtn (i := 23) (oi := fsa33o30) hHeld ?_
          try simp only [qpu]
          refine qtn (i := 24) (oi := fsa33o14) hHeld ?_
          try simp only [qpu]
          refine qtn (i := 25) (oi := fsa33o11) hHeld ?_
          try simp only [qpu]
          refine qtk (i := 26) (oi := fsa33o19) (v := (.bool true)) hHeld ?_ ?_
          · intro w9 hSw
            try dsimp only at hSw
            go_simp
          try simp only [qpu]
          refine qtk (i := 27) (oi := fsa33o27) (v := (.bool true)) hHeld ?_ ?_
          · intro w9 hSw
            try dsimp only at hSw
            go_simp
          try simp only [qpu]
          refine qtn (i := 28) (oi := fsa33o21) hHeld ?_
          try simp only [qpu]
          refine qtn (i := 29) (oi := fsa33o22) hHeld ?_
          try simp only [qpu]
          refine qtn (i := 30) (oi := fsa33o5) hHeld ?_
          try simp only [qpu]
          refine qtn (i := 31) (oi := fsa33o9) hHeld ?_
          try simp only [qpu]
          refine qtn (i := 32) (oi := fsa33o6) hHeld ?_
          try simp only [qpu]
          refine qtn (i := 33) (oi := fsa33o23) hHeld ?_
          try simp only [qpu]
          refine qtn (i := 34) (oi := fsa33o10) hHeld ?_
          try simp only [qpu]
          refine qtn (i := 35) (oi := fsa33o4) hHeld ?_
          try simp only [qpu]
          refine qtk (i := 36) (oi := fsa33o12) (v := (.bool true)) hHeld ?_ ?_
          · intro w9 hSw
            try dsimp only at hSw
            go_simp
          try simp only [qpu]
          refine qtk (i := 37) (oi := fsa33o17) (v := (.bool true)) hHeld ?_ ?_
          · intro w9 hSw
            try dsimp only at hSw
            go_simp
          try simp only [qpu]
          refine qtn (i := 38) (oi := fsa33o15) hHeld ?_
          try simp only [qpu]
          refine qtn (i := 39) (oi := fsa33o16) hHeld ?_
          try simp only [qpu]
          refine qtn (i := 40) (oi := fsa33o2) hHeld ?_
          try simp only [qpu]
          refine qtn (i := 41) (oi := fsa33o3) hHeld ?_
          try simp only [qpu]
          refine qtn (i := 42) (oi := fsa33o1) hHeld ?_
          try simp only [qpu]
          refine qtn (i := 43) (oi := fsa33o0) hHeld ?_
          try simp only [qpu]
          refine qtn (i := 44) (oi := fsa33o8) hHeld ?_
          try simp only [qpu]
          refine qtk (i := 45) (oi := fsa33o7) (v := (.bool true)) hHeld ?_ ?_
          · intro w9 hSw
            try dsimp only at hSw
            go_simp
          try simp only [qpu]
          refine wpAnyH_done (by kernel_rfl) ?_ _
          refine NoPanic.normal ?_
          obtain ⟨Wm27, hWm27⟩ : ∃ W, Wdq7.setRow w.heap.size (As.v ⟨0, ⟨0, 0, 0⟩, 0⟩) = W := ⟨_, rfl⟩
          have Am27 : Blk Wm27 w.heap.size 32 (As.v ⟨0, ⟨0, 0, 0⟩, 0⟩) := hWm27 ▸ Adq7.set (As.v ⟨0, ⟨0, 0, 0⟩, 0⟩)
          have bm27 := hWm27 ▸ below_setRow bdq7 gA (As.v ⟨0, ⟨0, 0, 0⟩, 0⟩)
          go_wp2_with (guard_target =~ wpList _ _ _ ({ dst := none, op := Op.store _ _ _, type := _, pos := _, after := _, guard := none } :: _) _ _; refine wpList_store_row rfl _ _ _ rfl w.heap.size (As.v ⟨0, ⟨0, 0, 0⟩, 0⟩) (by rfl) (by rfl) _ _ Adq7 (by kernel_rfl) (by rfl) (by kernel_rfl) ?_; rw [hWm27])
          have hR2 : R = ((⟨0, ⟨0, 0, 0⟩, 0⟩ : As), (false : Bool)) := by rw [← HR.out] <;> simp [as0, ad0, (show ¬ s4.data.toList = [50, 50, 55, 32] from by have := hq3; rw [ebeq_ft] at this; exact of_decide_eq_false this), (show s4.data.toList = [50, 50, 57, 32] from by have := hq4; rw [ebeq_ft] at this; exact of_decide_eq_true this), hq8, (show ¬ 5 ≤ y.size from by have := hq10; simp at this; omega)]
          subst hR2
          exact ret_cell_tmp (k := 6) (j := 7) (v := .bool false) Tryd.f15 (by kernel_rfl) Am27 Tryd.underlying32 (by kernel_rfl) (by rfl) (by rfl) rfl ⟨rfl, bm27⟩




  | true =>
    cases hq28 : (s4.toList == [50, 50, 57, 32]) with
    | false =>
      obtain ⟨Wm29, hWm29⟩ : ∃ W, Wm2.setRow w.heap.size (As.v ⟨0, ⟨0, 0, 0⟩, 0⟩) = W := ⟨_, rfl⟩
      have Am29 : Blk Wm29 w.heap.size 32 (As.v ⟨0, ⟨0, 0, 0⟩, 0⟩) := hWm29 ▸ Am2.set (As.v ⟨0, ⟨0, 0, 0⟩, 0⟩)
      have bm29 := hWm29 ▸ below_setRow bm2 gA (As.v ⟨0, ⟨0, 0, 0⟩, 0⟩)
      go_wp2_with (guard_target =~ wpList _ _ _ ({ dst := none, op := Op.store _ _ _, type := _, pos := _, after := _, guard := none } :: _) _ _; refine wpList_store_row rfl _ _ _ rfl w.heap.size (As.v ⟨0, ⟨0, 0, 0⟩, 0⟩) (by rfl) (by rfl) _ _ Am2 (by kernel_rfl) (by rfl) (by kernel_rfl) ?_; rw [hWm29])
      have hR2 : R = ((⟨0, ⟨0, 0, 0⟩, 0⟩ : As), (false : Bool)) := by rw [← HR.out] <;> simp [as0, ad0, (show s4.data.toList = [50, 50, 55, 32] from by have := hq3; rw [ebeq_ft] at this; exact of_decide_eq_true this), (show ¬ s4.data.toList = [50, 50, 57, 32] from by have := hq28; rw [ebeq_ft] at this; exact of_decide_eq_false this)]
      subst hR2
      exact ret_cell_tmp (k := 6) (j := 7) (v := .bool false) Tryd.f15 (by kernel_rfl) Am29 Tryd.underlying32 (by kernel_rfl) (by rfl) (by rfl) rfl ⟨rfl, bm29⟩

    | true =>
      go_wp2_with fail
      exact absurd ((show s4.data.toList = [50, 50, 55, 32] from by have := hq3; rw [ebeq_ft] at this; exact of_decide_eq_true this).symm.trans (show s4.data.toList = [50, 50, 57, 32] from by have := hq28; rw [ebeq_ft] at this; exact of_decide_eq_true this)) (by decide)
end Go.Proofs.YtnadfacbfcdkgaaDoor
