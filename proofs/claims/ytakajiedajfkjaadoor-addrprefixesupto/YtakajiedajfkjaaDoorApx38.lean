/- Texts joined: AddrPrefixesWalk -/
import Derived.Test.YtakajiedajfkjaaDoorApx32
import Derived.Test.YtakajiedajfkjaaDoorApx36
import Derived.Test.YtakajiedajfkjaaDoorApx37
import Derived.Deep.RegionHeld3
namespace Go.Proofs.YtakajiedajfkjaaDoor
open Go.RowKit
set_option linter.unusedVariables false
set_option linter.unusedSimpArgs false
set_option maxRecDepth 100000 in
set_option maxHeartbeats 4000000 in
theorem addrPrefixes_walk (f h l b : Int) (s : ByteArray) (w : World) (m : Int) (ho : Ad.ok ⟨f, h, l⟩) (hs : s.size ≤ 1048576) (hm : w.cell? ⟨0, 0, none⟩ = some (.int .i64 m)) (ht : w.cell? ⟨5, 15, none⟩ = some (.int .u8 4)) (htab : Lib.TabIs Tryd.prog w "internal/strconv.uint64pow10" .u64 Lib.pow10Tab) :
    Calls Tryd.prog 6 #[.agg #[.int .i64 f, .int .u64 h, .int .u64 l, .int .i64 b], .string s] w fun e w' => e = .returned (.bool true) ∧ Below w.heap.size w w' := by
  have gp : Tryd.prog.globalNamed "internal/strconv.uint64pow10" = some 1 := by kernel_rfl
  have kP := fun w hm => pprefix_any s w m (by omega) hm
  have kR := fun w => rpprefix_any s w (by omega)
  generalize ppB s.data.toList = P at *
  obtain ⟨⟨⟨pf, ph, pl⟩, pb⟩, pe⟩ := P
  have kTa := fun w ht htab => ptext_any f h l b w ho ht htab
  have kTb := fun w => rptext_any f h l b w ho
  generalize Ad.ptext ⟨f, h, l⟩ b = T at *
  obtain ⟨g, HG⟩ : ∃ g, Hid (w.heap.size = g) := ⟨_, rfl⟩
  have cells : ∀ W, Below g w W → W.cell? ⟨0, 0, none⟩ = some (.int .i64 m) ∧ W.cell? ⟨5, 15, none⟩ = some (.int .u8 4) ∧ Lib.TabIs Tryd.prog W "internal/strconv.uint64pow10" .u64 Lib.pow10Tab := fun W hW => by
    rw [← HG.out] at hW
    exact ⟨kept hW hm, kept hW ht, Go.Joins.tab_stays gp htab hW (Nat.le_refl _)⟩
  obtain ⟨w0, hw0⟩ : ∃ w0, w.alloc (.cells #[.int .i64 f, .int .u64 h, .int .u64 l, .int .i64 b] 26) = w0 := ⟨_, rfl⟩
  have hg := HG.out
  have A0 : w0.cell? ⟨g, 0, none⟩ = some (.int .i64 f) := by rw [← hw0, ← hg]; simp
  have A1 : w0.cell? ⟨g, 1, none⟩ = some (.int .u64 h) := by rw [← hw0, ← hg]; simp
  have A2 : w0.cell? ⟨g, 2, none⟩ = some (.int .u64 l) := by rw [← hw0, ← hg]; simp
  have A3 : w0.cell? ⟨g, 3, none⟩ = some (.int .i64 b) := by rw [← hw0, ← hg]; simp
  have B0 : Below g w w0 := by rw [← hw0, ← hg]; exact (Below.refl _ _).alloc (Nat.le_refl _) _
  have z0 : g ≤ w0.heap.size := by rw [← hw0, ← hg]; simp
  clear hg
  go_enter Tryd.func6, Tryd.ntmps6
  have hg := HG.out
  rw [hg]
  clear hg
  go_wp2_with fail
  have hg := HG.out
  simp only [hg]
  clear hg
  clear hw0 hm ht htab
  refine (kP w0 (cells w0 B0).1).mono ?_
  rintro e w1 ⟨rfl, b1⟩
  have D := b1.alloc b1.size (.cells #[.int .i64 pf, .int .u64 ph, .int .u64 pl, .int .i64 pb] 26)
  replace A0 := kept D A0; replace A1 := kept D A1; replace A2 := kept D A2; replace A3 := kept D A3
  have X0 : (w1.alloc (.cells #[.int .i64 pf, .int .u64 ph, .int .u64 pl, .int .i64 pb] 26)).cell? ⟨w1.heap.size, 0, none⟩ = some (.int .i64 pf) := by simp
  have X1 : (w1.alloc (.cells #[.int .i64 pf, .int .u64 ph, .int .u64 pl, .int .i64 pb] 26)).cell? ⟨w1.heap.size, 1, none⟩ = some (.int .u64 ph) := by simp
  have X2 : (w1.alloc (.cells #[.int .i64 pf, .int .u64 ph, .int .u64 pl, .int .i64 pb] 26)).cell? ⟨w1.heap.size, 2, none⟩ = some (.int .u64 pl) := by simp
  have X3 : (w1.alloc (.cells #[.int .i64 pf, .int .u64 ph, .int .u64 pl, .int .i64 pb] 26)).cell? ⟨w1.heap.size, 3, none⟩ = some (.int .i64 pb) := by simp
  have B1 : Below g w (w1.alloc (.cells #[.int .i64 pf, .int .u64 ph, .int .u64 pl, .int .i64 pb] 26)) := B0.trans (D.mono z0)
  have z1 : g ≤ (w1.alloc (.cells #[.int .i64 pf, .int .u64 ph, .int .u64 pl, .int .i64 pb] 26)).heap.size := by have := b1.size; simp; omega
  clear D b1 kP B0 z0
  go_wp2_with fail
  generalize w1.alloc (.cells #[.int .i64 pf, .int .u64 ph, .int .u64 pl, .int .i64 pb] 26) = w1' at *
  generalize w1.heap.size = gx at *
  refine (kR w1').mono ?_
  rintro e w2 ⟨rfl, b2⟩
  have D := b2.alloc b2.size (.cells #[.int .i64 pf, .int .u64 ph, .int .u64 pl, .int .i64 pb] 26)
  replace A0 := kept D A0; replace A1 := kept D A1; replace A2 := kept D A2; replace A3 := kept D A3; replace X0 := kept D X0; replace X1 := kept D X1; replace X2 := kept D X2; replace X3 := kept D X3
  have Y0 : (w2.alloc (.cells #[.int .i64 pf, .int .u64 ph, .int .u64 pl, .int .i64 pb] 26)).cell? ⟨w2.heap.size, 0, none⟩ = some (.int .i64 pf) := by simp
  have Y1 : (w2.alloc (.cells #[.int .i64 pf, .int .u64 ph, .int .u64 pl, .int .i64 pb] 26)).cell? ⟨w2.heap.size, 1, none⟩ = some (.int .u64 ph) := by simp
  have Y2 : (w2.alloc (.cells #[.int .i64 pf, .int .u64 ph, .int .u64 pl, .int .i64 pb] 26)).cell? ⟨w2.heap.size, 2, none⟩ = some (.int .u64 pl) := by simp
  have Y3 : (w2.alloc (.cells #[.int .i64 pf, .int .u64 ph, .int .u64 pl, .int .i64 pb] 26)).cell? ⟨w2.heap.size, 3, none⟩ = some (.int .i64 pb) := by simp
  have B7 : Below g w (w2.alloc (.cells #[.int .i64 pf, .int .u64 ph, .int .u64 pl, .int .i64 pb] 26)) := B1.trans (D.mono z1)
  have z7 : g ≤ (w2.alloc (.cells #[.int .i64 pf, .int .u64 ph, .int .u64 pl, .int .i64 pb] 26)).heap.size := by have := b2.size; simp; omega
  clear D b2 kR B1 z1
  go_upto_region 3 with (fail)
  generalize w2.alloc (.cells #[.int .i64 pf, .int .u64 ph, .int .u64 pl, .int .i64 pb] 26) = w7' at *
  generalize w2.heap.size = gy at *
  have kA' : ∀ W', Below w7'.heap.size w7' W' → Calls Tryd.prog 15 #[] W' fun e w' => e = .returned (.bool true) ∧ w'.cell? ⟨g, 0, none⟩ = some (.int .i64 f) ∧ w'.cell? ⟨g, 1, none⟩ = some (.int .u64 h) ∧ w'.cell? ⟨g, 2, none⟩ = some (.int .u64 l) ∧ w'.cell? ⟨g, 3, none⟩ = some (.int .i64 b) ∧ w'.cell? ⟨gx, 0, none⟩ = some (.int .i64 pf) ∧ w'.cell? ⟨gx, 1, none⟩ = some (.int .u64 ph) ∧ w'.cell? ⟨gx, 2, none⟩ = some (.int .u64 pl) ∧ w'.cell? ⟨gx, 3, none⟩ = some (.int .i64 pb) ∧ w'.cell? ⟨gy, 0, none⟩ = some (.int .i64 pf) ∧ w'.cell? ⟨gy, 1, none⟩ = some (.int .u64 ph) ∧ w'.cell? ⟨gy, 2, none⟩ = some (.int .u64 pl) ∧ w'.cell? ⟨gy, 3, none⟩ = some (.int .i64 pb) ∧ Below w7'.heap.size w7' w' := fun W' hW => by
    have c := cells _ (B7.trans (hW.mono z7))
    refine (alive_any W' m c.1 c.2.1).mono ?_
    rintro e w' ⟨rfl, hb⟩
    have hb' : Below w7'.heap.size w7' w' := hW.trans (hb.mono hW.size)
    exact ⟨rfl, kept hb' A0, kept hb' A1, kept hb' A2, kept hb' A3, kept hb' X0, kept hb' X1, kept hb' X2, kept hb' X3, kept hb' Y0, kept hb' Y1, kept hb' Y2, kept hb' Y3, hb'⟩
  have kT1 : ∀ W', Below w7'.heap.size w7' W' → Calls Tryd.prog 29 #[.agg #[.int .i64 f, .int .u64 h, .int .u64 l, .int .i64 b]] W' fun e w' => e = .returned (.string ⟨T.toArray⟩) ∧ w'.cell? ⟨g, 0, none⟩ = some (.int .i64 f) ∧ w'.cell? ⟨g, 1, none⟩ = some (.int .u64 h) ∧ w'.cell? ⟨g, 2, none⟩ = some (.int .u64 l) ∧ w'.cell? ⟨g, 3, none⟩ = some (.int .i64 b) ∧ w'.cell? ⟨gx, 0, none⟩ = some (.int .i64 pf) ∧ w'.cell? ⟨gx, 1, none⟩ = some (.int .u64 ph) ∧ w'.cell? ⟨gx, 2, none⟩ = some (.int .u64 pl) ∧ w'.cell? ⟨gx, 3, none⟩ = some (.int .i64 pb) ∧ w'.cell? ⟨gy, 0, none⟩ = some (.int .i64 pf) ∧ w'.cell? ⟨gy, 1, none⟩ = some (.int .u64 ph) ∧ w'.cell? ⟨gy, 2, none⟩ = some (.int .u64 pl) ∧ w'.cell? ⟨gy, 3, none⟩ = some (.int .i64 pb) ∧ Below w7'.heap.size w7' w' := fun W' hW => by
    have c := cells _ (B7.trans (hW.mono z7))
    refine (kTa W' c.2.1 c.2.2).mono ?_
    rintro e w' ⟨rfl, hb⟩
    have hb' : Below w7'.heap.size w7' w' := hW.trans (hb.mono hW.size)
    exact ⟨rfl, kept hb' A0, kept hb' A1, kept hb' A2, kept hb' A3, kept hb' X0, kept hb' X1, kept hb' X2, kept hb' X3, kept hb' Y0, kept hb' Y1, kept hb' Y2, kept hb' Y3, hb'⟩
  have kT2 : ∀ W', Below w7'.heap.size w7' W' → Calls Tryd.prog 30 #[.agg #[.int .i64 f, .int .u64 h, .int .u64 l, .int .i64 b]] W' fun e w' => e = .returned (.string ⟨T.toArray⟩) ∧ w'.cell? ⟨g, 0, none⟩ = some (.int .i64 f) ∧ w'.cell? ⟨g, 1, none⟩ = some (.int .u64 h) ∧ w'.cell? ⟨g, 2, none⟩ = some (.int .u64 l) ∧ w'.cell? ⟨g, 3, none⟩ = some (.int .i64 b) ∧ w'.cell? ⟨gx, 0, none⟩ = some (.int .i64 pf) ∧ w'.cell? ⟨gx, 1, none⟩ = some (.int .u64 ph) ∧ w'.cell? ⟨gx, 2, none⟩ = some (.int .u64 pl) ∧ w'.cell? ⟨gx, 3, none⟩ = some (.int .i64 pb) ∧ w'.cell? ⟨gy, 0, none⟩ = some (.int .i64 pf) ∧ w'.cell? ⟨gy, 1, none⟩ = some (.int .u64 ph) ∧ w'.cell? ⟨gy, 2, none⟩ = some (.int .u64 pl) ∧ w'.cell? ⟨gy, 3, none⟩ = some (.int .i64 pb) ∧ Below w7'.heap.size w7' w' := fun W' hW => by
    refine (kTb W').mono ?_
    rintro e w' ⟨rfl, hb⟩
    have hb' : Below w7'.heap.size w7' w' := hW.trans (hb.mono hW.size)
    exact ⟨rfl, kept hb' A0, kept hb' A1, kept hb' A2, kept hb' A3, kept hb' X0, kept hb' X1, kept hb' X2, kept hb' X3, kept hb' Y0, kept hb' Y1, kept hb' Y2, kept hb' Y3, hb'⟩
  clear kTa kTb cells
  generalize ByteArray.mk T.toArray = s1 at kT1 kT2
  go_wp2
  go_region_held3 (fun w'' => w''.cell? ⟨g, 0, none⟩ = some (.int .i64 f) ∧ w''.cell? ⟨g, 1, none⟩ = some (.int .u64 h) ∧ w''.cell? ⟨g, 2, none⟩ = some (.int .u64 l) ∧ w''.cell? ⟨g, 3, none⟩ = some (.int .i64 b) ∧ w''.cell? ⟨gx, 0, none⟩ = some (.int .i64 pf) ∧ w''.cell? ⟨gx, 1, none⟩ = some (.int .u64 ph) ∧ w''.cell? ⟨gx, 2, none⟩ = some (.int .u64 pl) ∧ w''.cell? ⟨gx, 3, none⟩ = some (.int .i64 pb) ∧ w''.cell? ⟨gy, 0, none⟩ = some (.int .i64 pf) ∧ w''.cell? ⟨gy, 1, none⟩ = some (.int .u64 ph) ∧ w''.cell? ⟨gy, 2, none⟩ = some (.int .u64 pl) ∧ w''.cell? ⟨gy, 3, none⟩ = some (.int .i64 pb)) (go_keep) (first
    | (go_at_call 29; refine (kT1 _ (Below.refl _ _).drew).mono ?_; rintro e w8 ⟨rfl, q0, q1, q2, q3, q4, q5, q6, q7, q8, q9, q10, q11, b8⟩)
    | (go_at_call 30; refine (kT2 _ b8).mono ?_; rintro e w9 ⟨rfl, r0, r1, r2, r3, r4, r5, r6, r7, r8, r9, r10, r11, b9⟩)
    | (go_at_call 15; refine (kA' _ b9).mono ?_; rintro e w10 ⟨rfl, s0, s1, s2, s3, s4, s5, s6, s7, s8, s9, s10, s11, b10⟩))
  all_goals go_wp2
  all_goals go_ret
  all_goals exact ⟨rfl, B7.trans (b10.mono z7)⟩
end Go.Proofs.YtakajiedajfkjaaDoor
