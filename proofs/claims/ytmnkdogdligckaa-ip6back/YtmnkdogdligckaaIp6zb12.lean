/- Texts joined: Ip6C -/
import Derived.Test.YtmnkdogdligckaaIp6zb11
namespace Go.Proofs.Ytmnkdogdligckaa
open Go.RowKit Go.Maps
set_option linter.unusedVariables false
set_option linter.unusedSimpArgs false
theorem check_int (b : Bool) (x : Int) (w : World) : (Instr.checkKey b 10000 3 (.int .i64 x)).run Try.prog w = .ok () w := by
  show (Instr.checkKey b (9999 + 1) 3 (.int .i64 x)).run Try.prog w = .ok () w
  rw [Instr.checkKey]
  simp [run_underlying Try.underlying3, Result.andThen]
theorem run_insert {w : World} {b ck : Nat} {es : Array MapEntry} {x : Int} (v : Value) (hb : w.heap[b]? = some (.map es ck)) (hn : Instr.findNow (.int .i64) (.int .i64 x) es.toList 0 = some none) :
    (Instr.mapUpdate 74 (.map (some b)) (.int .i64 x) v).run Try.prog w = .ok () (ChangeMaps.setBlock w b (.map (es.push ⟨.int .i64 x, v, ck⟩) (ck + 1))) := by
  simp [Instr.mapUpdate, check_int, Instr.findKey, run_underlying Try.underlying74, run_underlying Try.underlying3, MapKept.run_getObj_map hb, hn, MapKept.run_setObj_map _ hb, Result.andThen, ChangeMaps.setBlock]
theorem grownBy_setBlock {w : World} {b : Nat} {es : Array MapEntry} {ck : Nat} (hb : w.heap[b]? = some (.map es ck)) (o : Obj) : w.grownBy (ChangeMaps.setBlock w b o) (some b) :=
  ⟨rfl, rfl, rfl, by simp [ChangeMaps.setBlock], fun i _ hi => ChangeMaps.heap_setBlock_other hb _ (fun e => hi (by rw [e]))⟩
abbrev fv0 (bx : Nat) : Value := .func (.func 58) #[] #[.pointer (some ⟨bx, 0, none⟩)]
abbrev fv43 : Value := .func (.func 60) #[] #[]
abbrev fv44 (g : Nat) : Value := .func (.func 61) #[.pointer (some ⟨g, 0, none⟩)] #[]
abbrev fv60 : Value := .func (.func 59) #[] #[]
def tab (g bx : Nat) : Array MapEntry := #[⟨.int .i64 0, fv0 bx, 0⟩, ⟨.int .i64 43, fv43, 1⟩, ⟨.int .i64 44, fv44 g, 2⟩, ⟨.int .i64 60, fv60, 3⟩]
set_option maxHeartbeats 1000000 in
theorem looks_any (g : Nat) (w : World) :
    Calls Try.prog 42 #[.pointer (some ⟨g, 0, none⟩)] w fun e w' => e = .returned (.map (some (w.heap.size + 1))) ∧ w'.heap[w.heap.size + 1]? = some (.map (tab g w.heap.size) 4) ∧ w'.cell? ⟨w.heap.size, 0, none⟩ = some (.pointer (some ⟨g, 0, none⟩)) ∧ Below w.heap.size w w' ∧ w'.heap.size = w.heap.size + 2 := by
  have hmm := @run_makeMap Try.prog
  obtain ⟨n, hn⟩ : ∃ n, w.heap.size = n := ⟨_, rfl⟩
  obtain ⟨W1, hW1⟩ : ∃ W1, (w.alloc (.cells #[.pointer (some ⟨g, 0, none⟩)] 73)).alloc (.map #[] 0) = W1 := ⟨_, rfl⟩
  have hs1 : W1.heap.size = n + 2 := by rw [← hW1, ← hn]; simp
  have hb1 : W1.heap[n + 1]? = some (.map #[] 0) := by
    rw [← hW1, ← hn]
    have := World.heap_new (w.alloc (.cells #[.pointer (some ⟨g, 0, none⟩)] 73)) (.map #[] 0)
    rwa [World.size_alloc] at this
  have hB1 : Below n w W1 := by rw [← hW1, ← hn]; exact ((Below.refl _ _).alloc (Nat.le_refl _) _).alloc (by simp) _
  have hc1 : W1.cell? ⟨n, 0, none⟩ = some (.pointer (some ⟨g, 0, none⟩)) := by rw [← hW1, ← hn]; simp
  have r1 := run_insert (fv0 n) hb1 (x := 0) rfl
  have hb2 := ChangeMaps.heap_setBlock_same hb1 (.map ((#[] : Array MapEntry).push ⟨.int .i64 0, fv0 n, 0⟩) (0 + 1))
  have g2 := grownBy_setBlock hb1 (.map ((#[] : Array MapEntry).push ⟨.int .i64 0, fv0 n, 0⟩) (0 + 1))
  obtain ⟨W2, hW2⟩ : ∃ W2, ChangeMaps.setBlock W1 (n + 1) (.map ((#[] : Array MapEntry).push ⟨.int .i64 0, fv0 n, 0⟩) (0 + 1)) = W2 := ⟨_, rfl⟩
  have hs2 : W2.heap.size = n + 2 := by rw [← hW2]; simp [ChangeMaps.setBlock, hs1]
  rw [hW2] at r1 hb2 g2
  have r2 := run_insert fv43 hb2 (x := 43) rfl
  have hb3 := ChangeMaps.heap_setBlock_same hb2 (.map (((#[] : Array MapEntry).push ⟨.int .i64 0, fv0 n, 0⟩).push ⟨.int .i64 43, fv43, 0 + 1⟩) (0 + 1 + 1))
  have g3 := grownBy_setBlock hb2 (.map (((#[] : Array MapEntry).push ⟨.int .i64 0, fv0 n, 0⟩).push ⟨.int .i64 43, fv43, 0 + 1⟩) (0 + 1 + 1))
  obtain ⟨W3, hW3⟩ : ∃ W3, ChangeMaps.setBlock W2 (n + 1) (.map (((#[] : Array MapEntry).push ⟨.int .i64 0, fv0 n, 0⟩).push ⟨.int .i64 43, fv43, 0 + 1⟩) (0 + 1 + 1)) = W3 := ⟨_, rfl⟩
  have hs3 : W3.heap.size = n + 2 := by rw [← hW3]; simp [ChangeMaps.setBlock, hs2]
  rw [hW3] at r2 hb3 g3
  have r3 := run_insert (fv44 g) hb3 (x := 44) rfl
  have hb4 := ChangeMaps.heap_setBlock_same hb3 (.map ((((#[] : Array MapEntry).push ⟨.int .i64 0, fv0 n, 0⟩).push ⟨.int .i64 43, fv43, 0 + 1⟩).push ⟨.int .i64 44, fv44 g, 0 + 1 + 1⟩) (0 + 1 + 1 + 1))
  have g4 := grownBy_setBlock hb3 (.map ((((#[] : Array MapEntry).push ⟨.int .i64 0, fv0 n, 0⟩).push ⟨.int .i64 43, fv43, 0 + 1⟩).push ⟨.int .i64 44, fv44 g, 0 + 1 + 1⟩) (0 + 1 + 1 + 1))
  obtain ⟨W4, hW4⟩ : ∃ W4, ChangeMaps.setBlock W3 (n + 1) (.map ((((#[] : Array MapEntry).push ⟨.int .i64 0, fv0 n, 0⟩).push ⟨.int .i64 43, fv43, 0 + 1⟩).push ⟨.int .i64 44, fv44 g, 0 + 1 + 1⟩) (0 + 1 + 1 + 1)) = W4 := ⟨_, rfl⟩
  have hs4 : W4.heap.size = n + 2 := by rw [← hW4]; simp [ChangeMaps.setBlock, hs3]
  rw [hW4] at r3 hb4 g4
  have r4 := run_insert fv60 hb4 (x := 60) rfl
  have hb5 := ChangeMaps.heap_setBlock_same hb4 (.map (((((#[] : Array MapEntry).push ⟨.int .i64 0, fv0 n, 0⟩).push ⟨.int .i64 43, fv43, 0 + 1⟩).push ⟨.int .i64 44, fv44 g, 0 + 1 + 1⟩).push ⟨.int .i64 60, fv60, 0 + 1 + 1 + 1⟩) (0 + 1 + 1 + 1 + 1))
  have g5 := grownBy_setBlock hb4 (.map (((((#[] : Array MapEntry).push ⟨.int .i64 0, fv0 n, 0⟩).push ⟨.int .i64 43, fv43, 0 + 1⟩).push ⟨.int .i64 44, fv44 g, 0 + 1 + 1⟩).push ⟨.int .i64 60, fv60, 0 + 1 + 1 + 1⟩) (0 + 1 + 1 + 1 + 1))
  obtain ⟨W5, hW5⟩ : ∃ W5, ChangeMaps.setBlock W4 (n + 1) (.map (((((#[] : Array MapEntry).push ⟨.int .i64 0, fv0 n, 0⟩).push ⟨.int .i64 43, fv43, 0 + 1⟩).push ⟨.int .i64 44, fv44 g, 0 + 1 + 1⟩).push ⟨.int .i64 60, fv60, 0 + 1 + 1 + 1⟩) (0 + 1 + 1 + 1 + 1)) = W5 := ⟨_, rfl⟩
  have hs5 : W5.heap.size = n + 2 := by rw [← hW5]; simp [ChangeMaps.setBlock, hs4]
  rw [hW5] at r4 hb5 g5
  have G3 := g2.trans g3
  have G5 := G3.trans (g4.trans g5)
  have hc3 : W3.cell? ⟨n, 0, none⟩ = some (.pointer (some ⟨g, 0, none⟩)) := (G3.cell_far ⟨n, 0, none⟩ (by rw [hs1]; simp) (by simp)).trans hc1
  have hc5 : W5.cell? ⟨n, 0, none⟩ = some (.pointer (some ⟨g, 0, none⟩)) := (G5.cell_far ⟨n, 0, none⟩ (by rw [hs1]; simp) (by simp)).trans hc1
  have B5 : Below n w W5 := hB1.grown G5 (by rw [hs1]; omega) (fun k hk => by cases hk; omega)
  have hb6 : W5.heap[n + 1]? = some (.map (tab g n) 4) := hb5
  clear hb1 hb2 hb3 hb4 hb5 g2 g3 g4 g5 G3 G5 hW2 hW3 hW4 hW5 hc1 hB1 hs1 hs2 hs3 hs4
  go_enter Try.func42, Try.ntmps42
  go_wp2
  go_ret
  rw [hn]
  exact ⟨rfl, hb6, hc5, B5, hs5⟩
/-- A look into the table. -/
def lookv (g bx : Nat) (n : Int) : Value := if n = 0 then fv0 bx else if n = 43 then fv43 else if n = 44 then fv44 g else if n = 60 then fv60 else .nilFunc
theorem run_look {w : World} {g bx b : Nat} (hb : w.heap[b]? = some (.map (tab g bx) 4)) (n : Int) :
    (Instr.lookup 74 (.map (some b)) (.int .i64 n) true).run Try.prog w = .ok (.tuple #[lookv g bx n, .bool (isExt n)]) w := by
  have hz : (zeroValue 76).run Try.prog w = .ok .nilFunc w := by kernel_rfl
  by_cases h0 : n = 0
  · subst h0
    simp [Instr.lookup, check_int, Instr.findKey, run_underlying Try.underlying74, run_underlying Try.underlying3, MapKept.run_getObj_map hb, tab, Instr.findNow, Instr.sameNow, hz, Result.andThen, lookv, isExt]
  by_cases h1 : n = 43
  · subst h1
    simp [Instr.lookup, check_int, Instr.findKey, run_underlying Try.underlying74, run_underlying Try.underlying3, MapKept.run_getObj_map hb, tab, Instr.findNow, Instr.sameNow, hz, Result.andThen, lookv, isExt]
  by_cases h2 : n = 44
  · subst h2
    simp [Instr.lookup, check_int, Instr.findKey, run_underlying Try.underlying74, run_underlying Try.underlying3, MapKept.run_getObj_map hb, tab, Instr.findNow, Instr.sameNow, hz, Result.andThen, lookv, isExt]
  by_cases h3 : n = 60
  · subst h3
    simp [Instr.lookup, check_int, Instr.findKey, run_underlying Try.underlying74, run_underlying Try.underlying3, MapKept.run_getObj_map hb, tab, Instr.findNow, Instr.sameNow, hz, Result.andThen, lookv, isExt]
  · have e0 : (n == 0) = false := by simpa using h0
    have e1 : (n == 43) = false := by simpa using h1
    have e2 : (n == 44) = false := by simpa using h2
    have e3 : (n == 60) = false := by simpa using h3
    simp [Instr.lookup, check_int, Instr.findKey, run_underlying Try.underlying74, run_underlying Try.underlying3, MapKept.run_getObj_map hb, tab, Instr.findNow, Instr.sameNow, hz, Result.andThen, lookv, isExt, h0, h1, h2, h3, e0, e1, e2, e3]
end Go.Proofs.Ytmnkdogdligckaa
