/- Texts joined: Alv -/
import Derived.Test.YtakajiedajfkjaaDoorApx12
namespace Go.Proofs.YtakajiedajfkjaaDoor
open Go.RowKit
set_option linter.unusedVariables false
set_option linter.unusedSimpArgs false
set_option maxRecDepth 100000
theorem ex1 : parseB [50, 48, 48, 49, 58, 48, 68, 66, 56, 58, 58, 49] = (⟨6, 2306139568115548160, 1⟩, 0) := by kernel_rfl
theorem ex2 : parseB [49, 58, 48, 58, 48, 58, 50, 58, 48, 58, 48, 58, 48, 58, 51] = (⟨6, 281474976710658, 3⟩, 0) := by kernel_rfl
theorem ex3 : parseB [49, 48, 46, 49, 46, 48, 46, 48] = (⟨4, 0, 167837696⟩, 0) := by kernel_rfl
theorem ex4 : parseB [49, 48, 46, 49, 46, 50, 46, 51] = (⟨4, 0, 167838211⟩, 0) := by kernel_rfl
theorem ex5 : Lib.cut [49, 48, 46, 49, 46, 48, 46, 48, 47, 49, 54] [47] = ([49, 48, 46, 49, 46, 48, 46, 48], [49, 54], true) := by kernel_rfl
theorem ex6 : text6 (bytesGo 16 2306139568115548160 1) = [50, 48, 48, 49, 58, 100, 98, 56, 58, 58, 49] := by kernel_rfl
theorem ex7 : text6 (bytesGo 16 281474976710658 3) = [49, 58, 48, 58, 48, 58, 50, 58, 58, 51] := by kernel_rfl
theorem ex8 : Ad.has ⟨4, 0, 167837696⟩ 16 ⟨4, 0, 167838211⟩ = true := by kernel_rfl
theorem ex9 : Ad.rightPrefix ⟨4, 0, 167837696⟩ 16 = true := by kernel_rfl
theorem ex10 : num (Ad.width ⟨4, 0, 167837696⟩).toNat [49, 54] = (16, true) := by kernel_rfl
set_option maxHeartbeats 1000000 in
theorem alive_any (w : World) (m : Int) (hm : w.cell? ⟨0, 0, none⟩ = some (.int .i64 m)) (ht : w.cell? ⟨5, 15, none⟩ = some (.int .u8 4)) :
    Calls Tryd.prog 15 #[] w fun e w' => e = .returned (.bool true) ∧ Below w.heap.size w w' := by
  have o1 : Ad.ok ⟨6, 2306139568115548160, 1⟩ := by unfold Ad.ok; decide
  have o2 : Ad.ok ⟨6, 281474976710658, 3⟩ := by unfold Ad.ok; decide
  have o3 : Ad.ok ⟨4, 0, 167837696⟩ := by unfold Ad.ok; decide
  have o4 : Ad.ok ⟨4, 0, 167838211⟩ := by unfold Ad.ok; decide
  have f1 : ∀ w, w.cell? ⟨0, 0, none⟩ = some (.int .i64 m) → Calls Tryd.prog 23 #[.string (ByteArray.mk #[50, 48, 48, 49, 58, 48, 68, 66, 56, 58, 58, 49])] w fun e w' => e = .returned (.tuple #[.agg #[.int .i64 6, .int .u64 2306139568115548160, .int .u64 1], .int .i64 0]) ∧ Below w.heap.size w w' := fun w hm => by
    have := parse_any (ByteArray.mk #[50, 48, 48, 49, 58, 48, 68, 66, 56, 58, 58, 49]) w m (by decide) hm
    rw [show (ByteArray.mk #[50, 48, 48, 49, 58, 48, 68, 66, 56, 58, 58, 49]).data.toList = [50, 48, 48, 49, 58, 48, 68, 66, 56, 58, 58, 49] from rfl, ex1] at this
    exact this
  have f2 : ∀ w, w.cell? ⟨0, 0, none⟩ = some (.int .i64 m) → Calls Tryd.prog 23 #[.string (ByteArray.mk #[49, 58, 48, 58, 48, 58, 50, 58, 48, 58, 48, 58, 48, 58, 51])] w fun e w' => e = .returned (.tuple #[.agg #[.int .i64 6, .int .u64 281474976710658, .int .u64 3], .int .i64 0]) ∧ Below w.heap.size w w' := fun w hm => by
    have := parse_any (ByteArray.mk #[49, 58, 48, 58, 48, 58, 50, 58, 48, 58, 48, 58, 48, 58, 51]) w m (by decide) hm
    rw [show (ByteArray.mk #[49, 58, 48, 58, 48, 58, 50, 58, 48, 58, 48, 58, 48, 58, 51]).data.toList = [49, 58, 48, 58, 48, 58, 50, 58, 48, 58, 48, 58, 48, 58, 51] from rfl, ex2] at this
    exact this
  have f3 := fun w hm => prefix_yes (ByteArray.mk #[49, 48, 46, 49, 46, 48, 46, 48, 47, 49, 54]) [49, 48, 46, 49, 46, 48, 46, 48] [49, 54] 4 0 167837696 16 w m (by decide) hm ex5 ex3 o3 ex10 ex9
  have f4 : ∀ w, w.cell? ⟨0, 0, none⟩ = some (.int .i64 m) → Calls Tryd.prog 23 #[.string (ByteArray.mk #[49, 48, 46, 49, 46, 50, 46, 51])] w fun e w' => e = .returned (.tuple #[.agg #[.int .i64 4, .int .u64 0, .int .u64 167838211], .int .i64 0]) ∧ Below w.heap.size w w' := fun w hm => by
    have := parse_any (ByteArray.mk #[49, 48, 46, 49, 46, 50, 46, 51]) w m (by decide) hm
    rw [show (ByteArray.mk #[49, 48, 46, 49, 46, 50, 46, 51]).data.toList = [49, 48, 46, 49, 46, 50, 46, 51] from rfl, ex4] at this
    exact this
  have f5 := fun w ht => textSix 2306139568115548160 1 w o1 ht
  rw [ex6] at f5
  have f6 := fun w ht => textSix 281474976710658 3 w o2 ht
  rw [ex7] at f6
  have f7 := fun w => has_any 4 0 167837696 16 4 0 167838211 w o4
  rw [ex8] at f7
  clear o1 o2 o3 o4
  go_enter Tryd.func15, Tryd.ntmps15
  go_wp2_with fail
  refine (f1 w hm).mono ?_
  rintro e w1 ⟨rfl, b1⟩
  have m1 := kept_alloc b1 (.cells #[.int .i64 6, .int .u64 2306139568115548160, .int .u64 1] 24) hm
  have t1 := kept_alloc b1 (.cells #[.int .i64 6, .int .u64 2306139568115548160, .int .u64 1] 24) ht
  go_wp2_with fail
  refine (f2 _ m1).mono ?_
  rintro e w2 ⟨rfl, b2⟩
  have m2 := kept_alloc b2 (.cells #[.int .i64 6, .int .u64 281474976710658, .int .u64 3] 24) m1
  have t2 := kept_alloc b2 (.cells #[.int .i64 6, .int .u64 281474976710658, .int .u64 3] 24) t1
  go_wp2_with fail
  refine (f3 _ m2).mono ?_
  rintro e w3 ⟨rfl, b3⟩
  have m3 := kept_alloc b3 (.cells #[.int .i64 4, .int .u64 0, .int .u64 167837696, .int .i64 16] 26) m2
  have t3 := kept_alloc b3 (.cells #[.int .i64 4, .int .u64 0, .int .u64 167837696, .int .i64 16] 26) t2
  go_wp2_with fail
  refine (f4 _ m3).mono ?_
  rintro e w4 ⟨rfl, b4⟩
  have t4 := kept_alloc b4 (.cells #[.int .i64 4, .int .u64 0, .int .u64 167838211] 24) t3
  have z1 := b1.size
  have z2 := b2.size
  have z3 := b3.size
  have z4 := b4.size
  simp only [World.size_alloc] at z2 z3 z4
  have a0 : (w4.alloc (.cells #[.int .i64 4, .int .u64 0, .int .u64 167838211] 24)).cell? ⟨w1.heap.size, 0, none⟩ = some (.int .i64 6) := (kept_alloc b4 (.cells #[.int .i64 4, .int .u64 0, .int .u64 167838211] 24) (kept_alloc b3 (.cells #[.int .i64 4, .int .u64 0, .int .u64 167837696, .int .i64 16] 26) (kept_alloc b2 (.cells #[.int .i64 6, .int .u64 281474976710658, .int .u64 3] 24) (by simp))))
  have a1 : (w4.alloc (.cells #[.int .i64 4, .int .u64 0, .int .u64 167838211] 24)).cell? ⟨w1.heap.size, 1, none⟩ = some (.int .u64 2306139568115548160) := (kept_alloc b4 (.cells #[.int .i64 4, .int .u64 0, .int .u64 167838211] 24) (kept_alloc b3 (.cells #[.int .i64 4, .int .u64 0, .int .u64 167837696, .int .i64 16] 26) (kept_alloc b2 (.cells #[.int .i64 6, .int .u64 281474976710658, .int .u64 3] 24) (by simp))))
  have a2 : (w4.alloc (.cells #[.int .i64 4, .int .u64 0, .int .u64 167838211] 24)).cell? ⟨w1.heap.size, 2, none⟩ = some (.int .u64 1) := (kept_alloc b4 (.cells #[.int .i64 4, .int .u64 0, .int .u64 167838211] 24) (kept_alloc b3 (.cells #[.int .i64 4, .int .u64 0, .int .u64 167837696, .int .i64 16] 26) (kept_alloc b2 (.cells #[.int .i64 6, .int .u64 281474976710658, .int .u64 3] 24) (by simp))))
  have c0 : (w4.alloc (.cells #[.int .i64 4, .int .u64 0, .int .u64 167838211] 24)).cell? ⟨w2.heap.size, 0, none⟩ = some (.int .i64 6) := (kept_alloc b4 (.cells #[.int .i64 4, .int .u64 0, .int .u64 167838211] 24) (kept_alloc b3 (.cells #[.int .i64 4, .int .u64 0, .int .u64 167837696, .int .i64 16] 26) (by simp)))
  have c1 : (w4.alloc (.cells #[.int .i64 4, .int .u64 0, .int .u64 167838211] 24)).cell? ⟨w2.heap.size, 1, none⟩ = some (.int .u64 281474976710658) := (kept_alloc b4 (.cells #[.int .i64 4, .int .u64 0, .int .u64 167838211] 24) (kept_alloc b3 (.cells #[.int .i64 4, .int .u64 0, .int .u64 167837696, .int .i64 16] 26) (by simp)))
  have c2 : (w4.alloc (.cells #[.int .i64 4, .int .u64 0, .int .u64 167838211] 24)).cell? ⟨w2.heap.size, 2, none⟩ = some (.int .u64 3) := (kept_alloc b4 (.cells #[.int .i64 4, .int .u64 0, .int .u64 167838211] 24) (kept_alloc b3 (.cells #[.int .i64 4, .int .u64 0, .int .u64 167837696, .int .i64 16] 26) (by simp)))
  have p0 : (w4.alloc (.cells #[.int .i64 4, .int .u64 0, .int .u64 167838211] 24)).cell? ⟨w3.heap.size, 0, none⟩ = some (.int .i64 4) := (kept_alloc b4 (.cells #[.int .i64 4, .int .u64 0, .int .u64 167838211] 24) (by simp))
  have p1 : (w4.alloc (.cells #[.int .i64 4, .int .u64 0, .int .u64 167838211] 24)).cell? ⟨w3.heap.size, 1, none⟩ = some (.int .u64 0) := (kept_alloc b4 (.cells #[.int .i64 4, .int .u64 0, .int .u64 167838211] 24) (by simp))
  have p2 : (w4.alloc (.cells #[.int .i64 4, .int .u64 0, .int .u64 167838211] 24)).cell? ⟨w3.heap.size, 2, none⟩ = some (.int .u64 167837696) := (kept_alloc b4 (.cells #[.int .i64 4, .int .u64 0, .int .u64 167838211] 24) (by simp))
  have p3 : (w4.alloc (.cells #[.int .i64 4, .int .u64 0, .int .u64 167838211] 24)).cell? ⟨w3.heap.size, 3, none⟩ = some (.int .i64 16) := (kept_alloc b4 (.cells #[.int .i64 4, .int .u64 0, .int .u64 167838211] 24) (by simp))
  have d0 : (w4.alloc (.cells #[.int .i64 4, .int .u64 0, .int .u64 167838211] 24)).cell? ⟨w4.heap.size, 0, none⟩ = some (.int .i64 4) := (by simp)
  have d1 : (w4.alloc (.cells #[.int .i64 4, .int .u64 0, .int .u64 167838211] 24)).cell? ⟨w4.heap.size, 1, none⟩ = some (.int .u64 0) := (by simp)
  have d2 : (w4.alloc (.cells #[.int .i64 4, .int .u64 0, .int .u64 167838211] 24)).cell? ⟨w4.heap.size, 2, none⟩ = some (.int .u64 167838211) := (by simp)
  have bb : Below w.heap.size w (w4.alloc (.cells #[.int .i64 4, .int .u64 0, .int .u64 167838211] 24)) :=
    (((((((b1.alloc z1 _).trans (b2.mono (by simp; omega))).alloc (by omega) _).trans (b3.mono (by simp; omega))).alloc (by omega) _).trans (b4.mono (by simp; omega))).alloc (by omega) _)
  have zz : w.heap.size ≤ (w4.alloc (.cells #[.int .i64 4, .int .u64 0, .int .u64 167838211] 24)).heap.size := by simp; omega
  clear m1 m2 m3 t1 t2 t3 b1 b2 b3 b4 z1 z2 z3 z4
  go_wp2_with fail
  generalize w4.alloc (.cells #[.int .i64 4, .int .u64 0, .int .u64 167838211] 24) = W at *
  refine (f5 W t4).mono ?_
  rintro e w5 ⟨rfl, b5⟩
  have t5 := kept b5 t4
  replace c0 := kept b5 c0
  replace c1 := kept b5 c1
  replace c2 := kept b5 c2
  replace p0 := kept b5 p0
  replace p1 := kept b5 p1
  replace p2 := kept b5 p2
  replace p3 := kept b5 p3
  replace d0 := kept b5 d0
  replace d1 := kept b5 d1
  replace d2 := kept b5 d2
  have z5 := b5.size
  clear a0 a1 a2
  go_wp2_with fail
  refine (f6 w5 t5).mono ?_
  rintro e w6 ⟨rfl, b6⟩
  replace p0 := kept b6 p0
  replace p1 := kept b6 p1
  replace p2 := kept b6 p2
  replace p3 := kept b6 p3
  replace d0 := kept b6 d0
  replace d1 := kept b6 d1
  replace d2 := kept b6 d2
  have z6 := b6.size
  clear c0 c1 c2
  go_wp2_with (go_at_call 13; refine (f7 _).mono ?_; rintro e w7 ⟨rfl, b7⟩)
  go_ret
  exact ⟨rfl, bb.trans ((b5.mono zz).trans ((b6.mono (by omega)).trans (b7.mono (by omega))))⟩
end Go.Proofs.YtakajiedajfkjaaDoor
