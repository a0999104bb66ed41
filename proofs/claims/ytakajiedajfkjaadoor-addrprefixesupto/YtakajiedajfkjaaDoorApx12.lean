/- Texts joined: Pfx -/
import Derived.Test.YtakajiedajfkjaaDoorApx7
import Derived.Test.YtakajiedajfkjaaDoorApx11
import Derived.Deep.DeepCutAuto
namespace Go.Proofs.YtakajiedajfkjaaDoor
open Go.RowKit
set_option linter.unusedVariables false
set_option linter.unusedSimpArgs false
set_option maxHeartbeats 400000 in
theorem textSix (h l : Int) (w : World) (ho : Ad.ok ⟨6, h, l⟩) (ht : w.cell? ⟨5, 15, none⟩ = some (.int .u8 4)) :
    Calls Tryd.prog 25 #[.agg #[.int .i64 6, .int .u64 h, .int .u64 l]] w fun e w' => e = .returned (.string ⟨(text6 (bytesGo 16 h l)).toArray⟩) ∧ Below w.heap.size w w' := by
  have hb := fun w => bytes_any 6 h l w ho
  have e0 : Ad.bytes ⟨6, h, l⟩ = bytesGo 16 h l := rfl
  rw [e0] at hb
  have L : (bytesGo 16 h l).length = 16 := bytesGo_length 16 h l
  generalize bytesGo 16 h l = b at *
  have HL : Hid (b.length = 16) := L
  have h4 : ((b.length : Int) == 4) = false := by rw [L]; rfl
  have h16 : ((b.length : Int) == 16) = true := by rw [L]; rfl
  clear L e0
  go_enter Tryd.func25, Tryd.ntmps25
  go_wp2_with fail
  refine (hb _).mono ?_
  rintro e w1 ⟨a, c, rfl, f1⟩
  have b1 := f1.below
  have r1 := f1.row
  have bw : Below w.heap.size w w1 := ((Below.refl _ _).alloc (Nat.le_refl _) _).trans (b1.mono (by simp))
  have t6 := text6_any a c b w1 r1 HL.out (kept bw ht)
  have z1 := bw.size
  go_wp2_with (go_at_call 44; refine t6.mono ?_; rintro e w' ⟨rfl, b2⟩)
  go_ret
  exact ⟨rfl, bw.trans (b2.mono z1)⟩
set_option maxRecDepth 100000 in
set_option maxHeartbeats 1000000 in
theorem prefix_yes (s : ByteArray) (t1 t2 : List UInt8) (f h l n : Int) (w : World) (m : Int) (hs : s.size < 4294967281) (hm : w.cell? ⟨0, 0, none⟩ = some (.int .i64 m))
    (hc : Lib.cut s.data.toList [47] = (t1, t2, true)) (hp : parseB t1 = (⟨f, h, l⟩, 0)) (ho : Ad.ok ⟨f, h, l⟩) (hn : num (Ad.width ⟨f, h, l⟩).toNat t2 = (n, true)) (hr : Ad.rightPrefix ⟨f, h, l⟩ n = true) :
    Calls Tryd.prog 27 #[.string s] w fun e w' => e = .returned (.tuple #[.agg #[.int .i64 f, .int .u64 h, .int .u64 l, .int .i64 n], .int .i64 0]) ∧ Below w.heap.size w w' := by
  have e1 : s.data.toList.length = s.size := Array.length_toList
  have hcs := cut_sizes s.data.toList [47]
  rw [e1, hc] at hcs
  have hcut : ∀ w, w.cell? ⟨0, 0, none⟩ = some (.int .i64 m) → Calls Tryd.prog 46 #[.string s, .string (ByteArray.mk #[47])] w fun e w' => e = .returned (.tuple #[.string ⟨(Lib.cut s.data.toList [47]).1.toArray⟩, .string ⟨(Lib.cut s.data.toList [47]).2.1.toArray⟩, .bool (Lib.cut s.data.toList [47]).2.2]) ∧ ∃ n, w' = w.drewN n := fun w hm => Tryd.strings_Cut s (ByteArray.mk #[47]) m w hs hm
  rw [hc] at hcut
  simp only at hcut hcs
  have s1 : (ByteArray.mk t1.toArray).size < 4294967281 := by show t1.toArray.size < _; simp; omega
  have s2 : (ByteArray.mk t2.toArray).size ≤ 9223372036854775807 := by show t2.toArray.size ≤ _; simp; omega
  have hps : ∀ w, w.cell? ⟨0, 0, none⟩ = some (.int .i64 m) → Calls Tryd.prog 23 #[.string (ByteArray.mk t1.toArray)] w fun e w' => e = .returned (.tuple #[(parseB t1).1.v, .int .i64 (parseB t1).2]) ∧ Below w.heap.size w w' := fun w hm => parse_any (ByteArray.mk t1.toArray) w m s1 hm
  rw [hp] at hps
  simp only at hps
  have hwd := width_any f h l
  obtain ⟨N, hN⟩ : ∃ N, (Ad.width ⟨f, h, l⟩).toNat = N := ⟨_, rfl⟩
  have hNw : Ad.width ⟨f, h, l⟩ = (N : Int) := by rw [← hN]; unfold Ad.width; split <;> simp
  have hNb : N ≤ 1000 := by rw [← hN]; unfold Ad.width; split <;> simp
  rw [hN] at hn
  rw [hNw] at hwd
  have hnum : ∀ w, Calls Tryd.prog 47 #[.string (ByteArray.mk t2.toArray), .int .i64 (N : Int)] w fun e w' => e = .returned (.tuple #[.int .i64 (num N t2).1, .bool (num N t2).2]) ∧ Below w.heap.size w w' := fun w => number_any (ByteArray.mk t2.toArray) N w s2 hNb
  rw [hn] at hnum
  simp only at hnum
  have hrp := fun w => rightPrefix_any f h l n w ho
  rw [hr] at hrp
  clear hn hp hc hcs e1 hs s1 s2 hN hNw hr
  go_enter Tryd.func27, Tryd.ntmps27
  go_wp2_with fail
  have bA : Below w.heap.size w (w.alloc (.cells #[.int .i64 0, .int .u64 0, .int .u64 0, .int .i64 0] 26)) := (Below.refl _ _).alloc (Nat.le_refl _) _
  refine (hcut _ (kept bA hm)).mono ?_
  rintro e w1 ⟨rfl, n1, rfl⟩
  go_wp2_with fail
  have bB : Below (w.heap.size + 1) (w.alloc (.cells #[.int .i64 0, .int .u64 0, .int .u64 0, .int .i64 0] 26)) ((w.alloc (.cells #[.int .i64 0, .int .u64 0, .int .u64 0, .int .i64 0] 26)).drewN n1) := below_drewN (Below.refl _ _) n1
  have zB : w.heap.size + 1 ≤ ((w.alloc (.cells #[.int .i64 0, .int .u64 0, .int .u64 0, .int .i64 0] 26)).drewN n1).heap.size := by simp
  have hm1 := kept (below_drewN bA n1) hm
  generalize (w.alloc (.cells #[.int .i64 0, .int .u64 0, .int .u64 0, .int .i64 0] 26)).drewN n1 = w1 at *
  refine (hps w1 hm1).mono ?_
  rintro e w3 ⟨rfl, b3⟩
  have z3 := b3.size
  go_wp2
  generalize hg : w3.heap.size = g3 at *
  have HG : Hid (w3.heap.size = g3) := hg
  clear hg
  go_cut [9] (fun s w'' => ∃ pb : Nat, s = .pointer (some ⟨pb, 0, none⟩) ∧ w''.cell? ⟨pb, 0, none⟩ = some (.int .i64 f) ∧ w''.cell? ⟨pb, 1, none⟩ = some (.int .u64 h) ∧ w''.cell? ⟨pb, 2, none⟩ = some (.int .u64 l) ∧ w''.cell? ⟨pb, 3, none⟩ = some (.int .i64 N) ∧
      (∀ o, w''.frozen? ⟨pb, o, none⟩ = false) ∧ g3 < pb ∧ pb < w''.heap.size ∧ Below g3 w3 w'')
  case first =>
    have hg := HG.out
    subst hg
    go_region_held3 (fun w'' => w''.cell? ⟨w3.heap.size, 0, none⟩ = some (.int .i64 f) ∧ w''.cell? ⟨w3.heap.size, 1, none⟩ = some (.int .u64 h) ∧ w''.cell? ⟨w3.heap.size, 2, none⟩ = some (.int .u64 l)) (go_keep) (first
      | (go_at_call 34; refine (hwd _).mono ?_; rintro e w' ⟨rfl, rfl⟩))
    all_goals go_wp2
    all_goals go_meet
    all_goals exact ⟨_, rfl, by simp [go_sem], by simp [go_sem], by simp [go_sem], by simp [go_sem], fun o => by simp [go_sem], by omega, by simp <;> omega, by repeat (first | exact Below.refl _ _ | refine Below.drew ?_ | refine Below.alloc ?_ (by simp <;> omega) _)⟩
  case rest =>
    obtain ⟨pb, rfl, p0, p1, p2, p3, pf, hpb, hpz, bc⟩ := hcut
    have r0 := fun (o : Nat) (v : Value) (ho : (w.alloc (.cells #[.int .i64 0, .int .u64 0, .int .u64 0, .int .i64 0] 26)).cell? ⟨w.heap.size, o, none⟩ = some v) => ((bc.cell (p := ⟨w.heap.size, o, none⟩) (by show w.heap.size < g3; omega)).trans ((b3.cell (p := ⟨w.heap.size, o, none⟩) (by show w.heap.size < w1.heap.size; omega)).trans ((bB.cell (p := ⟨w.heap.size, o, none⟩) (by show w.heap.size < w.heap.size + 1; omega)).trans ho)))
    have c0 := r0 0 (.int .i64 0) (by simp)
    have c1 := r0 1 (.int .u64 0) (by simp)
    have c2 := r0 2 (.int .u64 0) (by simp)
    have c3 := r0 3 (.int .i64 0) (by simp)
    have rf : ∀ o, wc.frozen? ⟨w.heap.size, o, none⟩ = false := fun o => (bc.frozen (p := ⟨w.heap.size, o, none⟩) (by show w.heap.size < g3; omega)).trans ((b3.frozen (p := ⟨w.heap.size, o, none⟩) (by show w.heap.size < w1.heap.size; omega)).trans ((bB.frozen (p := ⟨w.heap.size, o, none⟩) (by show w.heap.size < w.heap.size + 1; omega)).trans (by simp)))
    have bw : Below w.heap.size w wc := bA.trans ((bB.mono (by omega)).trans ((b3.mono (by omega)).trans (bc.mono (by omega))))
    have ne1 : pb ≠ w.heap.size := by omega
    have ne2 : w.heap.size ≠ pb := by omega
    have hgz : w.heap.size < wc.heap.size := by omega
    clear r0 bA bB b3 bc hps hcut hwd
    generalize HGG : w.heap.size = g0 at *
    have HG0 : Hid (w.heap.size = g0) := HGG
    clear HGG
    go_wp2_with fail
    refine (hnum _).mono ?_
    rintro e w5 ⟨rfl, b5⟩
    have z5 := b5.size
    have P0 := kept b5 p0; have P1 := kept b5 p1; have P2 := kept b5 p2; have P3 := kept b5 p3
    have C0 := kept b5 c0; have C1 := kept b5 c1; have C2 := kept b5 c2; have C3 := kept b5 c3
    have PF : ∀ o, w5.frozen? ⟨pb, o, none⟩ = false := fun o => (b5.frozen (p := ⟨pb, o, none⟩) (by show pb < _; omega)).trans (pf o)
    have RF : ∀ o, w5.frozen? ⟨g0, o, none⟩ = false := fun o => (b5.frozen (p := ⟨g0, o, none⟩) (by show g0 < _; omega)).trans (rf o)
    have B5 : Below g0 w w5 := bw.trans (b5.mono (by omega))
    have h0z : g0 < w5.heap.size := by omega
    have hpz5 : pb < w5.heap.size := by omega
    clear p0 p1 p2 p3 c0 c1 c2 c3 pf rf b5 bw
    go_wp2_with fail
    refine (hrp _).mono ?_
    rintro e w6 ⟨rfl, b6⟩
    have P0' : w6.cell? ⟨pb, 0, none⟩ = some (.int .i64 f) := kept b6 (by rw [put_other (by simp)]; exact P0)
    have P1' : w6.cell? ⟨pb, 1, none⟩ = some (.int .u64 h) := kept b6 (by rw [put_other (by simp)]; exact P1)
    have P2' : w6.cell? ⟨pb, 2, none⟩ = some (.int .u64 l) := kept b6 (by rw [put_other (by simp)]; exact P2)
    have P3' : w6.cell? ⟨pb, 3, none⟩ = some (.int .i64 n) := kept b6 (put_same P3)
    have C0' : w6.cell? ⟨g0, 0, none⟩ = some (.int .i64 0) := kept b6 (by rw [put_other (by simp [ne1])]; exact C0)
    have C1' : w6.cell? ⟨g0, 1, none⟩ = some (.int .u64 0) := kept b6 (by rw [put_other (by simp [ne1])]; exact C1)
    have C2' : w6.cell? ⟨g0, 2, none⟩ = some (.int .u64 0) := kept b6 (by rw [put_other (by simp [ne1])]; exact C2)
    have C3' : w6.cell? ⟨g0, 3, none⟩ = some (.int .i64 0) := kept b6 (by rw [put_other (by simp [ne1])]; exact C3)
    have z6 := b6.size
    simp only [World.size_setCell] at z6
    have RF' : ∀ o, w6.frozen? ⟨g0, o, none⟩ = false := fun o => (b6.frozen (p := ⟨g0, o, none⟩) (by show g0 < _; simp; omega)).trans (by simp [RF])
    have B6 : Below g0 w w6 := (B5.setCell (by show g0 ≤ pb; omega) _).trans (b6.mono (by simp; omega))
    clear P0 P1 P2 P3 C0 C1 C2 C3 PF RF b6
    have h6z : g0 < w6.heap.size := by omega
    go_wp2
    exact bodyPost_ret (v := .tuple #[.agg #[.int .i64 f, .int .u64 h, .int .u64 l, .int .i64 n], .int .i64 0]) (by simp [results, Tryd.results27, go_sem, C0', C1', C2', C3', h6z]) rfl
      ⟨rfl, by rw [HG0.out]; exact (((B6.setCell (by simp) _).setCell (by simp) _).setCell (by simp) _).setCell (by simp) _⟩
end Go.Proofs.YtakajiedajfkjaaDoor
