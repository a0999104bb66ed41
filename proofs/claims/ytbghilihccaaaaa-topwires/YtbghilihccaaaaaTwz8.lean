/- Texts joined: Ip6B Ip6C -/
import Derived.Test.YtbghilihccaaaaaTwz7
import Derived.Deep.AppendLies
import Derived.Deep.RegionLaw
import Derived.Maps.OwnOps
namespace Go.Proofs.Ytbghilihccaaaaa
open Go.RowKit
set_option linter.unusedVariables false
set_option linter.unusedSimpArgs false
/-- The eight cells of a walk. -/
structure SW (W : World) (g : Nat) (s : St) (rv xv : Value) : Prop where
  c0 : W.cell? ⟨g, 0, none⟩ = some (.int .i64 s.next)
  c1 : W.cell? ⟨g, 1, none⟩ = some rv
  c2 : W.cell? ⟨g, 2, none⟩ = some xv
  c3 : W.cell? ⟨g, 3, none⟩ = some (.bool s.met)
  c4 : W.cell? ⟨g, 4, none⟩ = some (.bool s.cut)
  c5 : W.cell? ⟨g, 5, none⟩ = some (.int .u32 s.id)
  c6 : W.cell? ⟨g, 6, none⟩ = some (.int .i64 s.off)
  c7 : W.cell? ⟨g, 7, none⟩ = some (.bool s.more)
  fz : ∀ o, W.frozen? ⟨g, o, none⟩ = false
theorem SW.lt {W : World} {g : Nat} {s : St} {rv xv : Value} (h : SW W g s rv xv) : g < W.heap.size := World.block_lt_of_cell? W _ h.c0
theorem SW.grown {W W' : World} {g : Nat} {s : St} {rv xv : Value} {row : Option Nat} (h : SW W g s rv xv) (hg : W.grownBy W' row) (hne : some g ≠ row) : SW W' g s rv xv :=
  have k : ∀ o, W'.cell? ⟨g, o, none⟩ = W.cell? ⟨g, o, none⟩ := fun o => hg.cell_far ⟨g, o, none⟩ h.lt hne
  ⟨(k _).trans h.c0, (k _).trans h.c1, (k _).trans h.c2, (k _).trans h.c3, (k _).trans h.c4, (k _).trans h.c5, (k _).trans h.c6, (k _).trans h.c7, fun o => (hg.frozen_far ⟨g, o, none⟩ h.lt hne).trans (h.fz o)⟩
theorem SW.below {W W' : World} {g B : Nat} {s : St} {rv xv : Value} (h : SW W g s rv xv) (hg : g < B) (hb : Below B W W') : SW W' g s rv xv :=
  have k : ∀ o, W'.cell? ⟨g, o, none⟩ = W.cell? ⟨g, o, none⟩ := fun o => hb.cell (p := ⟨g, o, none⟩) hg
  ⟨(k _).trans h.c0, (k _).trans h.c1, (k _).trans h.c2, (k _).trans h.c3, (k _).trans h.c4, (k _).trans h.c5, (k _).trans h.c6, (k _).trans h.c7, fun o => (hb.frozen (p := ⟨g, o, none⟩) hg).trans (h.fz o)⟩
theorem grownBy_setCell (w : World) (g o : Nat) (v : Value) : w.grownBy (w.setCell ⟨g, o, none⟩ v) (some g) :=
  have b := (Below.refl 0 w).setCell (p := ⟨g, o, none⟩) (Nat.zero_le _) v
  ⟨b.os, b.tape, b.output, b.size, fun i hi hne => Below.heap_setCell _ _ _ _ (fun e => hne (by rw [e]))⟩
theorem grownBy_drewN (w : World) (n : Nat) (row : Option Nat) : w.grownBy (w.drewN n) row := ⟨rfl, rfl, rfl, Nat.le_refl _, fun _ _ _ => rfl⟩
theorem u16_bd {l : List Int} (hb : M.Bytes l) (x : Int) : 0 ≤ u16 l x ∧ u16 l x ≤ 65535 := by
  have h1 := hb.get x.toNat
  have h2 := hb.get (x.toNat + 1)
  unfold u16
  omega
theorem SW.frag {W : World} {g : Nat} {nx : Int} {l ex : List Int} {met cut : Bool} {id off : Int} {more : Bool} {rv xv : Value} (h : SW W g ⟨nx, l, ex, met, cut, id, off, more⟩ rv xv) (i o : Int) (m k : Bool) :
    SW ((((W.setCell ⟨g, 5, none⟩ (.int .u32 i)).setCell ⟨g, 6, none⟩ (.int .i64 o)).setCell ⟨g, 7, none⟩ (.bool m)).setCell ⟨g, 4, none⟩ (.bool k)) g ⟨nx, l, ex, met, k, i, o, m⟩ rv xv := by
  obtain ⟨c0, c1, c2, c3, c4, c5, c6, c7, fz⟩ := h
  refine ⟨?_, ?_, ?_, ?_, ?_, ?_, ?_, ?_, fun o => by simp only [World.frozen?_setCell]; exact fz o⟩
  · rw [put_oth (by decide), put_oth (by decide), put_oth (by decide), put_oth (by decide)]; exact c0
  · rw [put_oth (by decide), put_oth (by decide), put_oth (by decide), put_oth (by decide)]; exact c1
  · rw [put_oth (by decide), put_oth (by decide), put_oth (by decide), put_oth (by decide)]; exact c2
  · rw [put_oth (by decide), put_oth (by decide), put_oth (by decide), put_oth (by decide)]; exact c3
  · exact put_same (by rw [put_oth (by decide), put_oth (by decide), put_oth (by decide)]; exact c4)
  · rw [put_oth (by decide), put_oth (by decide), put_oth (by decide)]; exact put_same c5
  · rw [put_oth (by decide), put_oth (by decide)]; exact put_same (by rw [put_oth (by decide)]; exact c6)
  · rw [put_oth (by decide)]; exact put_same (by rw [put_oth (by decide), put_oth (by decide)]; exact c7)
set_option maxHeartbeats 1000000 in
theorem fragment_any (g : Nat) (s : St) (rv xv : Value) (a : Option Addr) (c : Nat) (h : List Int) (W0 w : World) (hS : SW w g s rv xv) (hr : Row W0 a h) (hg : W0.heap.size ≤ g) (hb : Below W0.heap.size W0 w) (hl : h.length = 8) (hm : s.met = false) :
    Calls Try.prog 89 #[.pointer (some ⟨g, 0, none⟩), .slice a h.length c] w fun e w' => e = .returned (.int .i64 0) ∧ SW w' g { s with met := true, id := u32 h 4, off := u16 h 2 / 8 * 8, more := decide (u16 h 2 % 2 = 1), cut := decide (u16 h 2 / 8 * 8 ≠ 0) || decide (u16 h 2 % 2 = 1) } rv xv ∧ w.grownBy w' (some g) := by
  obtain ⟨c0, c1, c2, c3, c4, c5, c6, c7, fz⟩ := hS
  obtain ⟨nx, l, ex, met, cut, id, off, more⟩ := s
  simp only at hm c0 c1 c2 c3 c4 c5 c6 c7
  subst hm
  have f3 := fz 3
  have ub := u16_bd hr.bytes 2
  have e1 := i64_and65528 _ ub.1 ub.2
  have e2 := i64_and1 _ ub.1 ub.2
  have g1 := grownBy_setCell w g 3 (.bool true)
  have b1 := hb.setCell (p := ⟨g, 3, none⟩) hg (.bool true)
  obtain ⟨W1, hW1⟩ : ∃ W1, w.setCell ⟨g, 3, none⟩ (.bool true) = W1 := ⟨_, rfl⟩
  have S1 : SW W1 g ⟨nx, l, ex, true, cut, id, off, more⟩ rv xv := by
    rw [← hW1]
    exact ⟨(put_oth (by decide)).trans c0, (put_oth (by decide)).trans c1, (put_oth (by decide)).trans c2, put_same c3, (put_oth (by decide)).trans c4, (put_oth (by decide)).trans c5, (put_oth (by decide)).trans c6, (put_oth (by decide)).trans c7, fun o => by rw [World.frozen?_setCell]; exact fz o⟩
  rw [hW1] at g1 b1
  have r1 := hr.below b1
  have hl8 : (8 : Int) ≤ (h.length : Int) := by omega
  clear hl c0 c1 c2 c4 c5 c6 c7 hr
  go_enter Try.func89, Try.ntmps89
  go_wp2_with fail
  refine (u16_yes _ _ _ _ _ r1 (by decide) (by omega)).mono ?_
  rintro e w' ⟨rfl, n, rfl⟩
  have g2 := grownBy_drewN W1 n (some g)
  have b2 := below_drewN b1 n
  have S2 : SW (W1.drewN n) g ⟨nx, l, ex, true, cut, id, off, more⟩ rv xv := S1.grown (grownBy_drewN W1 n none) (by simp)
  have r2 := r1.drewN n
  obtain ⟨W2, hW2⟩ : ∃ W2, W1.drewN n = W2 := ⟨_, rfl⟩
  rw [hW2] at g2 b2 S2 r2 ⊢
  have G2 := g1.trans g2
  clear hW2 hW1 g1 g2 b1 S1 r1 c3 f3 fz
  go_wp2_with fail
  refine (u32_yes _ _ _ _ _ r2 (by decide) (by omega)).mono ?_
  rintro e w' ⟨rfl, n', rfl⟩
  have g3 := grownBy_drewN W2 n' (some g)
  have S3 : SW (W2.drewN n') g ⟨nx, l, ex, true, cut, id, off, more⟩ rv xv := S2.grown (grownBy_drewN W2 n' none) (by simp)
  obtain ⟨W3, hW3⟩ : ∃ W3, W2.drewN n' = W3 := ⟨_, rfl⟩
  rw [hW3] at g3 S3 ⊢
  have G3 := G2.trans g3
  clear hW3 G2 g3 S2 r2 b2
  have F3 := fun i o m k => S3.frag i o m k
  obtain ⟨c0, c1, c2, c3, c4, c5, c6, c7, fz⟩ := S3
  have FF : Hid _ := F3
  clear F3
  have f4 := fz 4
  have f5 := fz 5
  have f6 := fz 6
  have f7 := fz 7
  clear hb hg
  generalize hX : u16 h 2 = x at *
  have hm1 : (x % 2 != 0) = decide (x % 2 = 1) := by
    have h' : x % 2 = 0 ∨ x % 2 = 1 := by omega
    rcases h' with h' | h' <;> simp [h']
  by_cases hx : x / 8 * 8 = 0
  · have hx' : (x / 8 * 8 != 0) = false := by simpa using hx
    go_wp2
    go_ret
    refine ⟨rfl, ?_, (((G3.trans (grownBy_setCell _ _ _ _)).trans (grownBy_setCell _ _ _ _)).trans (grownBy_setCell _ _ _ _)).trans (grownBy_setCell _ _ _ _)⟩
    have := FF.out (u32 h 4) 0 (decide (x % 2 = 1)) (decide (x % 2 = 1))
    simpa [hX, hx] using this
  · have hx' : (x / 8 * 8 != 0) = true := by simpa using hx
    go_wp2
    go_ret
    refine ⟨rfl, ?_, (((G3.trans (grownBy_setCell _ _ _ _)).trans (grownBy_setCell _ _ _ _)).trans (grownBy_setCell _ _ _ _)).trans (grownBy_setCell _ _ _ _)⟩
    have := FF.out (u32 h 4) (x / 8 * 8) (decide (x % 2 = 1)) true
    simpa [hX, hx] using this
set_option maxHeartbeats 1000000 in
theorem looks1_any (g bx : Nat) (s : St) (rv : Value) (xa : Option Addr) (xc : Nat) (a : Option Addr) (c : Nat) (h : List Int) (w : World) (hS : SW w g s rv (.slice xa s.ex.length xc)) (hbx : w.cell? ⟨bx, 0, none⟩ = some (.pointer (some ⟨g, 0, none⟩)))
    (hr : Row w a h) (hl : 8 ≤ h.length) (hc : h.length ≤ c) (hcm : c ≤ 9223372036854775807) :
    Calls Try.prog 86 #[.slice a h.length c, .pointer (some ⟨bx, 0, none⟩)] w fun e w' => e = .returned (.int .i64 (if s.met = true ∨ 0 < s.ex.length then 7 else opt6 (h.drop 2))) ∧ w' = w := by
  obtain ⟨c0, c1, c2, c3, c4, c5, c6, c7, fz⟩ := hS
  clear c0 c1 c4 c5 c6 c7 fz
  generalize s.ex.length = n at *
  cases hm : s.met with
  | true =>
    rw [hm] at c3
    rw [if_pos (.inl rfl)]
    go_enter Try.func86, Try.ntmps86
    go_wp2
    go_ret
    exact ⟨rfl, rfl⟩
  | false =>
    rw [hm] at c3
    by_cases hn : 0 < n
    · rw [if_pos (.inr hn)]
      have hn' : (n : Int) > 0 := by omega
      go_enter Try.func86, Try.ntmps86
      go_wp2
      go_ret
      exact ⟨rfl, rfl⟩
    · rw [if_neg (by simp; omega)]
      have hn' : ¬ (n : Int) > 0 := by omega
      go_enter Try.func86, Try.ntmps86
      go_wp2_with (go_at_call 87; refine (options6_any _ _ _ _ hr hl hc hcm).mono ?_; rintro e w' ⟨rfl, rfl⟩)
      go_ret
      exact ⟨rfl, rfl⟩
end Go.Proofs.Ytbghilihccaaaaa
namespace Go.Proofs.Ytbghilihccaaaaa
open Go.RowKit Go.Maps
set_option linter.unusedVariables false
set_option linter.unusedSimpArgs false
theorem check_int (b : Bool) (x : Int) (w : World) : (Instr.checkKey b 10000 3 (.int .i64 x)).run Try.prog w = .ok () w := by
  show (Instr.checkKey b (9999 + 1) 3 (.int .i64 x)).run Try.prog w = .ok () w
  rw [Instr.checkKey]
  simp [run_underlying Try.underlying3, Result.andThen]
theorem run_insert {w : World} {b ck : Nat} {es : Array MapEntry} {x : Int} (v : Value) (hb : w.heap[b]? = some (.map es ck)) (hn : Instr.findNow (.int .i64) (.int .i64 x) es.toList 0 = some none) :
    (Instr.mapUpdate 126 (.map (some b)) (.int .i64 x) v).run Try.prog w = .ok () (ChangeMaps.setBlock w b (.map (es.push ⟨.int .i64 x, v, ck⟩) (ck + 1))) := by
  simp [Instr.mapUpdate, check_int, Instr.findKey, run_underlying Try.underlying126, run_underlying Try.underlying3, MapKept.run_getObj_map hb, hn, MapKept.run_setObj_map _ hb, Result.andThen, ChangeMaps.setBlock]
theorem grownBy_setBlock {w : World} {b : Nat} {es : Array MapEntry} {ck : Nat} (hb : w.heap[b]? = some (.map es ck)) (o : Obj) : w.grownBy (ChangeMaps.setBlock w b o) (some b) :=
  ⟨rfl, rfl, rfl, by simp [ChangeMaps.setBlock], fun i _ hi => ChangeMaps.heap_setBlock_other hb _ (fun e => hi (by rw [e]))⟩
abbrev fv0 (bx : Nat) : Value := .func (.func 86) #[] #[.pointer (some ⟨bx, 0, none⟩)]
abbrev fv43 : Value := .func (.func 88) #[] #[]
abbrev fv44 (g : Nat) : Value := .func (.func 89) #[.pointer (some ⟨g, 0, none⟩)] #[]
abbrev fv60 : Value := .func (.func 87) #[] #[]
def tab (g bx : Nat) : Array MapEntry := #[⟨.int .i64 0, fv0 bx, 0⟩, ⟨.int .i64 43, fv43, 1⟩, ⟨.int .i64 44, fv44 g, 2⟩, ⟨.int .i64 60, fv60, 3⟩]
set_option maxHeartbeats 1000000 in
theorem looks_any (g : Nat) (w : World) :
    Calls Try.prog 82 #[.pointer (some ⟨g, 0, none⟩)] w fun e w' => e = .returned (.map (some (w.heap.size + 1))) ∧ w'.heap[w.heap.size + 1]? = some (.map (tab g w.heap.size) 4) ∧ w'.cell? ⟨w.heap.size, 0, none⟩ = some (.pointer (some ⟨g, 0, none⟩)) ∧ Below w.heap.size w w' ∧ w'.heap.size = w.heap.size + 2 := by
  have hmm := @run_makeMap Try.prog
  obtain ⟨n, hn⟩ : ∃ n, w.heap.size = n := ⟨_, rfl⟩
  obtain ⟨W1, hW1⟩ : ∃ W1, (w.alloc (.cells #[.pointer (some ⟨g, 0, none⟩)] 125)).alloc (.map #[] 0) = W1 := ⟨_, rfl⟩
  have hs1 : W1.heap.size = n + 2 := by rw [← hW1, ← hn]; simp
  have hb1 : W1.heap[n + 1]? = some (.map #[] 0) := by
    rw [← hW1, ← hn]
    have := World.heap_new (w.alloc (.cells #[.pointer (some ⟨g, 0, none⟩)] 125)) (.map #[] 0)
    rwa [World.size_alloc] at this
  have hB1 : Below n w W1 := by rw [← hW1, ← hn]; exact ((Below.refl _ _).alloc (Nat.le_refl _) _).alloc (by simp) _
  have hc1 : W1.cell? ⟨n, 0, none⟩ = some (.pointer (some ⟨g, 0, none⟩)) := by rw [← hW1, ← hn]; simp
  have r1 := run_insert (fv0 n) hb1 (x := 0) rfl
  have hb2 := ChangeMaps.heap_setBlock_same hb1 (.map ((#[] : Array MapEntry).push ⟨.int .i64 0, fv0 n, 0⟩) (0 + 1))
  have g2 := grownBy_setBlock hb1 (.map ((#[] : Array MapEntry).push ⟨.int .i64 0, fv0 n, 0⟩) (0 + 1))
  obtain ⟨W2, hW2⟩ : ∃ W2, ChangeMaps.setBlock W1 (n + 1) (.map ((#[] : Array MapEntry).push ⟨.int .i64 0, fv0 n, 0⟩) (0 + 1)) = W2 := ⟨_, rfl⟩
  have hs2 : W2.heap.size = n + 2 := by rw [← hW2]; simp [ChangeMaps.setBlock, hs1]
  rw [hW2] at r1 hb2 g2
  have r2 := run_insert fv43 hb2 (x := 43) rfl
  have hb3 := ChangeMaps.heap_setBlock_same hb2 (.map (((#[] : Array MapEntry).push ⟨.int .i64 0, fv0 n, 0⟩).push ⟨.int .i64 43, fv43, 0 + 1⟩) (0 + 1 + 1))
  have g3 := grownBy_setBlock hb2 (.map (((#[] : Array MapEntry).push ⟨.int .i64 0, fv0 n, 0⟩).push ⟨.int .i64 43, fv43, 0 + 1⟩) (0 + 1 + 1))
  obtain ⟨W3, hW3⟩ : ∃ W3, ChangeMaps.setBlock W2 (n + 1) (.map (((#[] : Array MapEntry).push ⟨.int .i64 0, fv0 n, 0⟩).push ⟨.int .i64 43, fv43, 0 + 1⟩) (0 + 1 + 1)) = W3 := ⟨_, rfl⟩
  have hs3 : W3.heap.size = n + 2 := by rw [← hW3]; simp [ChangeMaps.setBlock, hs2]
  rw [hW3] at r2 hb3 g3
  have r3 := run_insert (fv44 g) hb3 (x := 44) rfl
  have hb4 := ChangeMaps.heap_setBlock_same hb3 (.map ((((#[] : Array MapEntry).push ⟨.int .i64 0, fv0 n, 0⟩).push ⟨.int .i64 43, fv43, 0 + 1⟩).push ⟨.int .i64 44, fv44 g, 0 + 1 + 1⟩) (0 + 1 + 1 + 1))
  have g4 := grownBy_setBlock hb3 (.map ((((#[] : Array MapEntry).push ⟨.int .i64 0, fv0 n, 0⟩).push ⟨.int .i64 43, fv43, 0 + 1⟩).push ⟨.int .i64 44, fv44 g, 0 + 1 + 1⟩) (0 + 1 + 1 + 1))
  obtain ⟨W4, hW4⟩ : ∃ W4, ChangeMaps.setBlock W3 (n + 1) (.map ((((#[] : Array MapEntry).push ⟨.int .i64 0, fv0 n, 0⟩).push ⟨.int .i64 43, fv43, 0 + 1⟩).push ⟨.int .i64 44, fv44 g, 0 + 1 + 1⟩) (0 + 1 + 1 + 1)) = W4 := ⟨_, rfl⟩
  have hs4 : W4.heap.size = n + 2 := by rw [← hW4]; simp [ChangeMaps.setBlock, hs3]
  rw [hW4] at r3 hb4 g4
  have r4 := run_insert fv60 hb4 (x := 60) rfl
  have hb5 := ChangeMaps.heap_setBlock_same hb4 (.map (((((#[] : Array MapEntry).push ⟨.int .i64 0, fv0 n, 0⟩).push ⟨.int .i64 43, fv43, 0 + 1⟩).push ⟨.int .i64 44, fv44 g, 0 + 1 + 1⟩).push ⟨.int .i64 60, fv60, 0 + 1 + 1 + 1⟩) (0 + 1 + 1 + 1 + 1))
  have g5 := grownBy_setBlock hb4 (.map (((((#[] : Array MapEntry).push ⟨.int .i64 0, fv0 n, 0⟩).push ⟨.int .i64 43, fv43, 0 + 1⟩).push ⟨.int .i64 44, fv44 g, 0 + 1 + 1⟩).push ⟨.int .i64 60, fv60, 0 + 1 + 1 + 1⟩) (0 + 1 + 1 + 1 + 1))
  obtain ⟨W5, hW5⟩ : ∃ W5, ChangeMaps.setBlock W4 (n + 1) (.map (((((#[] : Array MapEntry).push ⟨.int .i64 0, fv0 n, 0⟩).push ⟨.int .i64 43, fv43, 0 + 1⟩).push ⟨.int .i64 44, fv44 g, 0 + 1 + 1⟩).push ⟨.int .i64 60, fv60, 0 + 1 + 1 + 1⟩) (0 + 1 + 1 + 1 + 1)) = W5 := ⟨_, rfl⟩
  have hs5 : W5.heap.size = n + 2 := by rw [← hW5]; simp [ChangeMaps.setBlock, hs4]
  rw [hW5] at r4 hb5 g5
  have G3 := g2.trans g3
  have G5 := G3.trans (g4.trans g5)
  have hc3 : W3.cell? ⟨n, 0, none⟩ = some (.pointer (some ⟨g, 0, none⟩)) := (G3.cell_far ⟨n, 0, none⟩ (by rw [hs1]; simp) (by simp)).trans hc1
  have hc5 : W5.cell? ⟨n, 0, none⟩ = some (.pointer (some ⟨g, 0, none⟩)) := (G5.cell_far ⟨n, 0, none⟩ (by rw [hs1]; simp) (by simp)).trans hc1
  have B5 : Below n w W5 := hB1.grown G5 (by rw [hs1]; omega) (fun k hk => by cases hk; omega)
  have hb6 : W5.heap[n + 1]? = some (.map (tab g n) 4) := hb5
  clear hb1 hb2 hb3 hb4 hb5 g2 g3 g4 g5 G3 G5 hW2 hW3 hW4 hW5 hc1 hB1 hs1 hs2 hs3 hs4
  go_enter Try.func82, Try.ntmps82
  go_wp2
  go_ret
  rw [hn]
  exact ⟨rfl, hb6, hc5, B5, hs5⟩
/-- A look into the table. -/
def lookv (g bx : Nat) (n : Int) : Value := if n = 0 then fv0 bx else if n = 43 then fv43 else if n = 44 then fv44 g else if n = 60 then fv60 else .nilFunc
theorem run_look {w : World} {g bx b : Nat} (hb : w.heap[b]? = some (.map (tab g bx) 4)) (n : Int) :
    (Instr.lookup 126 (.map (some b)) (.int .i64 n) true).run Try.prog w = .ok (.tuple #[lookv g bx n, .bool (isExt n)]) w := by
  have hz : (zeroValue 110).run Try.prog w = .ok .nilFunc w := by kernel_rfl
  by_cases h0 : n = 0
  · subst h0
    simp [Instr.lookup, check_int, Instr.findKey, run_underlying Try.underlying126, run_underlying Try.underlying3, MapKept.run_getObj_map hb, tab, Instr.findNow, Instr.sameNow, hz, Result.andThen, lookv, isExt]
  by_cases h1 : n = 43
  · subst h1
    simp [Instr.lookup, check_int, Instr.findKey, run_underlying Try.underlying126, run_underlying Try.underlying3, MapKept.run_getObj_map hb, tab, Instr.findNow, Instr.sameNow, hz, Result.andThen, lookv, isExt]
  by_cases h2 : n = 44
  · subst h2
    simp [Instr.lookup, check_int, Instr.findKey, run_underlying Try.underlying126, run_underlying Try.underlying3, MapKept.run_getObj_map hb, tab, Instr.findNow, Instr.sameNow, hz, Result.andThen, lookv, isExt]
  by_cases h3 : n = 60
  · subst h3
    simp [Instr.lookup, check_int, Instr.findKey, run_underlying Try.underlying126, run_underlying Try.underlying3, MapKept.run_getObj_map hb, tab, Instr.findNow, Instr.sameNow, hz, Result.andThen, lookv, isExt]
  · have e0 : (n == 0) = false := by simpa using h0
    have e1 : (n == 43) = false := by simpa using h1
    have e2 : (n == 44) = false := by simpa using h2
    have e3 : (n == 60) = false := by simpa using h3
    simp [Instr.lookup, check_int, Instr.findKey, run_underlying Try.underlying126, run_underlying Try.underlying3, MapKept.run_getObj_map hb, tab, Instr.findNow, Instr.sameNow, hz, Result.andThen, lookv, isExt, h0, h1, h2, h3, e0, e1, e2, e3]
end Go.Proofs.Ytbghilihccaaaaa
