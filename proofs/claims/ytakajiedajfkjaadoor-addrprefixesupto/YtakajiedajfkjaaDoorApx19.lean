/- Texts joined: AtM -/
import Derived.Test.YtakajiedajfkjaaDoorApx18
namespace Go.Proofs.YtakajiedajfkjaaDoor
open Go.RowKit
set_option linter.unusedVariables false
set_option linter.unusedSimpArgs false
/-- A prefix's cells. -/
abbrev pfv (p : Ad × Int) : Value := .agg #[.int .i64 p.1.fam, .int .u64 p.1.hi, .int .u64 p.1.lo, .int .i64 p.2]
theorem res4 {w wX : World} (bb : Below (w.heap.size + 1) (w.alloc (.cells #[.int .i64 0, .int .u64 0, .int .u64 0, .int .i64 0] 26)) wX) :
    wX.cell? ⟨w.heap.size, 0, none⟩ = some (.int .i64 0) ∧ wX.cell? ⟨w.heap.size, 1, none⟩ = some (.int .u64 0) ∧ wX.cell? ⟨w.heap.size, 2, none⟩ = some (.int .u64 0) ∧ wX.cell? ⟨w.heap.size, 3, none⟩ = some (.int .i64 0) ∧ (∀ o, wX.frozen? ⟨w.heap.size, o, none⟩ = false) ∧ w.heap.size < wX.heap.size ∧ Below w.heap.size w wX :=
  ⟨(bb.cell (p := ⟨w.heap.size, 0, none⟩) (by simp)).trans (by simp), (bb.cell (p := ⟨w.heap.size, 1, none⟩) (by simp)).trans (by simp), (bb.cell (p := ⟨w.heap.size, 2, none⟩) (by simp)).trans (by simp), (bb.cell (p := ⟨w.heap.size, 3, none⟩) (by simp)).trans (by simp),
   fun o => (bb.frozen (p := ⟨w.heap.size, o, none⟩) (by simp)).trans (by simp), by have := bb.size; simp at this; omega, ((Below.refl _ _).alloc (Nat.le_refl _) _).trans (bb.mono (by omega))⟩
set_option maxRecDepth 100000 in
set_option maxHeartbeats 4000000 in
theorem pprefix_any (s : ByteArray) (w : World) (m : Int) (hs : s.size < 4294967281) (hm : w.cell? ⟨0, 0, none⟩ = some (.int .i64 m)) :
    Calls Tryd.prog 27 #[.string s] w fun e w' => e = .returned (.tuple #[pfv (ppB s.data.toList).1, .int .i64 (ppB s.data.toList).2]) ∧ Below w.heap.size w w' := by
  have e1 : s.data.toList.length = s.size := Array.length_toList
  have hcs := cut_sizes s.data.toList [47]
  rw [e1] at hcs
  obtain ⟨T, hT⟩ : ∃ T, ppB s.data.toList = T := ⟨_, rfl⟩
  rw [hT]
  unfold ppB at hT
  have hcut : ∀ w, w.cell? ⟨0, 0, none⟩ = some (.int .i64 m) → Calls Tryd.prog 46 #[.string s, .string (ByteArray.mk #[47])] w fun e w' => e = .returned (.tuple #[.string ⟨(Lib.cut s.data.toList [47]).1.toArray⟩, .string ⟨(Lib.cut s.data.toList [47]).2.1.toArray⟩, .bool (Lib.cut s.data.toList [47]).2.2]) ∧ ∃ n, w' = w.drewN n := fun w hm => Tryd.strings_Cut s (ByteArray.mk #[47]) m w hs hm
  generalize Lib.cut s.data.toList [47] = C at *
  obtain ⟨t1, t2, ck⟩ := C
  simp only at hT hcut hcs
  have s1 : (ByteArray.mk t1.toArray).size < 4294967281 := by show t1.toArray.size < _; simp; omega
  have s2 : (ByteArray.mk t2.toArray).size ≤ 9223372036854775807 := by show t2.toArray.size ≤ _; simp; omega
  have hps : ∀ w, w.cell? ⟨0, 0, none⟩ = some (.int .i64 m) → Calls Tryd.prog 23 #[.string (ByteArray.mk t1.toArray)] w fun e w' => e = .returned (.tuple #[(parseB t1).1.v, .int .i64 (parseB t1).2]) ∧ Below w.heap.size w w' := fun w hm => parse_any (ByteArray.mk t1.toArray) w m s1 hm
  have hok := parse_ok t1
  generalize parseB t1 = P at *
  obtain ⟨⟨f, h, l⟩, e⟩ := P
  simp only at hT hps hok
  obtain ⟨ho, he01, hrt⟩ := hok
  have hwd := width_any f h l
  obtain ⟨N, hN⟩ : ∃ N, (Ad.width ⟨f, h, l⟩).toNat = N := ⟨_, rfl⟩
  have hNw : Ad.width ⟨f, h, l⟩ = (N : Int) := by rw [← hN]; unfold Ad.width; split <;> simp
  have hNb : N ≤ 1000 := by rw [← hN]; unfold Ad.width; split <;> simp
  rw [hN, hNw] at hT
  rw [hNw] at hwd
  have hnum : ∀ w, Calls Tryd.prog 47 #[.string (ByteArray.mk t2.toArray), .int .i64 (N : Int)] w fun e w' => e = .returned (.tuple #[.int .i64 (num N t2).1, .bool (num N t2).2]) ∧ Below w.heap.size w w' := fun w => number_any (ByteArray.mk t2.toArray) N w s2 hNb
  have hrp := fun n w => rightPrefix_any f h l n w ho
  generalize num N t2 = NN at *
  obtain ⟨n, nk⟩ := NN
  simp only at hT hnum
  obtain ⟨⟨⟨tf, th, tl⟩, tb⟩, te⟩ := T
  have HT : Hid _ := hT
  clear hT hcs e1 hs s1 s2 hN hNw ho hrt
  obtain ⟨W0, hW0⟩ : ∃ W0, w.alloc (.cells #[.int .i64 0, .int .u64 0, .int .u64 0, .int .i64 0] 26) = W0 := ⟨_, rfl⟩
  have fin : Hid (∀ wX, Below W0.heap.size W0 wX → wX.cell? ⟨w.heap.size, 0, none⟩ = some (.int .i64 0) ∧ wX.cell? ⟨w.heap.size, 1, none⟩ = some (.int .u64 0) ∧ wX.cell? ⟨w.heap.size, 2, none⟩ = some (.int .u64 0) ∧ wX.cell? ⟨w.heap.size, 3, none⟩ = some (.int .i64 0) ∧ (∀ o, wX.frozen? ⟨w.heap.size, o, none⟩ = false) ∧ w.heap.size < wX.heap.size ∧ Below w.heap.size w wX) := by
    show _
    rw [← hW0]
    intro wX bb
    exact res4 (by simpa using bb)
  have hz0 : w.heap.size < W0.heap.size := by rw [← hW0]; simp
  have hm0 : W0.cell? ⟨0, 0, none⟩ = some (.int .i64 m) := by rw [← hW0]; exact kept ((Below.refl _ _).alloc (Nat.le_refl _) _) hm
  obtain ⟨g0, hg0⟩ : ∃ g0, w.heap.size = g0 := ⟨_, rfl⟩
  have HG0 : Hid (w.heap.size = g0) := hg0
  rw [hg0] at fin hz0
  go_enter Tryd.func27, Tryd.ntmps27
  rw [hg0]
  clear hg0 hm
  go_wp2_with fail
  have hg0 := HG0.out
  try rw [hg0]
  clear hg0 hW0
  refine (hcut _ hm0).mono ?_
  rintro e w1 ⟨rfl, n1, rfl⟩
  go_wp2_with fail
  have bB : Below W0.heap.size W0 (W0.drewN n1) := below_drewN (Below.refl _ _) n1
  have hm1 := kept bB hm0
  generalize W0.drewN n1 = w1 at *
  refine (hps w1 hm1).mono ?_
  rintro e3 w3 ⟨rfl, b3⟩
  have z3 := b3.size
  have z1 := bB.size
  have b03 : Below W0.heap.size W0 w3 := bB.trans (b3.mono z1)
  have z03 := b03.size
  clear hcut hps hm0 hm1 b3 bB
  have bad : Hid ((tf = 0 ∧ th = 0 ∧ tl = 0 ∧ tb = 0 ∧ te = 1) ↔ ((⟨0, 0, 0⟩, 0), 1) = (((⟨tf, th, tl⟩ : Ad), tb), te)) := by
    show _ ↔ _
    simp only [Prod.mk.injEq, Ad.mk.injEq]
    omega
  by_cases he : e = 0
  · have HT1 : Hid ((if ck = true then (if nk = true ∧ Ad.rightPrefix ⟨f, h, l⟩ n = true then (((⟨f, h, l⟩ : Ad), n), (0 : Int)) else ((⟨0, 0, 0⟩, 0), 1)) else ((⟨f, h, l⟩, (N : Int)), 0)) = ((⟨tf, th, tl⟩, tb), te)) := by
      show _ = _
      have := HT.out
      rw [if_pos he] at this
      exact this
    subst he
    clear HT he01
    go_wp2
    generalize hg : w3.heap.size = g3 at *
    have HG : Hid (w3.heap.size = g3) := hg
    clear hg
    go_cut [9] (fun s w'' => ∃ pb : Nat, s = .pointer (some ⟨pb, 0, none⟩) ∧ w''.cell? ⟨pb, 0, none⟩ = some (.int .i64 f) ∧ w''.cell? ⟨pb, 1, none⟩ = some (.int .u64 h) ∧ w''.cell? ⟨pb, 2, none⟩ = some (.int .u64 l) ∧ w''.cell? ⟨pb, 3, none⟩ = some (.int .i64 N) ∧
        (∀ o, w''.frozen? ⟨pb, o, none⟩ = false) ∧ g3 < pb ∧ pb < w''.heap.size ∧ Below g3 w3 w'')
    case first =>
      have hg := HG.out
      subst hg
      go_region_held3 (fun w'' => w''.cell? ⟨w3.heap.size, 0, none⟩ = some (.int .i64 f) ∧ w''.cell? ⟨w3.heap.size, 1, none⟩ = some (.int .u64 h) ∧ w''.cell? ⟨w3.heap.size, 2, none⟩ = some (.int .u64 l)) (go_keep) (first
        | (go_at_call 34; refine (hwd _).mono ?_; rintro e w' ⟨rfl, rfl⟩))
      all_goals go_wp2
      all_goals go_meet
      all_goals exact ⟨_, rfl, by simp [go_sem], by simp [go_sem], by simp [go_sem], by simp [go_sem], fun o => by simp [go_sem], by omega, by simp <;> omega, by repeat (first | exact Below.refl _ _ | refine Below.drew ?_ | refine Below.alloc ?_ (by simp <;> omega) _)⟩
    case rest =>
      obtain ⟨pb, rfl, p0, p1, p2, p3, pf, hpb, hpz, bc⟩ := hcut
      have b0c : Below W0.heap.size W0 wc := b03.trans (bc.mono z03)
      have zc := b0c.size
      have ne1 : pb ≠ g0 := by omega
      have ne2 : g0 ≠ pb := by omega
      clear b03 bc hwd
      cases ck with
      | false =>
        have e5 := HT1.out
        simp only [if_neg (show ¬ false = true by decide), Prod.mk.injEq, Ad.mk.injEq] at e5
        obtain ⟨⟨⟨rfl, rfl, rfl⟩, rfl⟩, rfl⟩ := e5
        obtain ⟨C0, C1, C2, C3, RF, h6z, B6⟩ := fin.out wc b0c
        clear HT1 bad hnum hrp fin
        go_wp2
        exact bodyPost_ret (v := .tuple #[.agg #[.int .i64 f, .int .u64 h, .int .u64 l, .int .i64 N], .int .i64 0]) (by simp [results, Tryd.results27, go_sem, C0, C1, C2, C3, h6z]) rfl ⟨rfl, by exact (((B6.setCell (by simp) _).setCell (by simp) _).setCell (by simp) _).setCell (by simp) _⟩
      | true =>
        have HT2 : Hid ((if nk = true ∧ Ad.rightPrefix ⟨f, h, l⟩ n = true then (((⟨f, h, l⟩ : Ad), n), (0 : Int)) else ((⟨0, 0, 0⟩, 0), 1)) = ((⟨tf, th, tl⟩, tb), te)) := by
          show _ = _
          have := HT1.out
          rw [if_pos rfl] at this
          exact this
        clear HT1
        go_wp2_with fail
        refine (hnum _).mono ?_
        rintro e w5 ⟨rfl, b5⟩
        have z5 := b5.size
        have P0 := kept b5 p0; have P1 := kept b5 p1; have P2 := kept b5 p2; have P3 := kept b5 p3
        have PF : ∀ o, w5.frozen? ⟨pb, o, none⟩ = false := fun o => (b5.frozen (p := ⟨pb, o, none⟩) (by show pb < _; omega)).trans (pf o)
        have b05 : Below W0.heap.size W0 w5 := b0c.trans (b5.mono zc)
        have hpz5 : pb < w5.heap.size := by omega
        have b06 : Below W0.heap.size W0 (w5.setCell ⟨pb, 3, none⟩ (.int .i64 n)) := b05.setCell (by show W0.heap.size ≤ pb; omega) _
        have z06 := b06.size
        clear p0 p1 p2 p3 pf b5 b05 hnum b0c
        cases nk with
        | false =>
          obtain ⟨rfl, rfl, rfl, rfl, rfl⟩ := bad.out.2 (by have := HT2.out; rw [if_neg (by simp)] at this; exact this)
          obtain ⟨C0, C1, C2, C3, RF, h6z, B6⟩ := fin.out _ b06
          clear HT2 bad fin
          go_wp2
          exact bodyPost_ret (v := .tuple #[.agg #[.int .i64 0, .int .u64 0, .int .u64 0, .int .i64 0], .int .i64 1]) (by simp [results, Tryd.results27, go_sem, C0, C1, C2, C3, h6z]) rfl ⟨rfl, by exact (((B6.setCell (by simp) _).setCell (by simp) _).setCell (by simp) _).setCell (by simp) _⟩
        | true =>
          have hr := hrp n
          cases hv : Ad.rightPrefix ⟨f, h, l⟩ n with
          | false =>
            rw [hv] at hr
            obtain ⟨rfl, rfl, rfl, rfl, rfl⟩ := bad.out.2 (by have := HT2.out; rw [hv, if_neg (by simp)] at this; exact this)
            clear HT2 bad hv hrp
            go_wp2_with fail
            refine (hr _).mono ?_
            rintro e w6 ⟨rfl, b6⟩
            obtain ⟨C0, C1, C2, C3, RF, h6z, B6⟩ := fin.out _ (b06.trans (b6.mono z06))
            clear fin
            go_wp2
            exact bodyPost_ret (v := .tuple #[.agg #[.int .i64 0, .int .u64 0, .int .u64 0, .int .i64 0], .int .i64 1]) (by simp [results, Tryd.results27, go_sem, C0, C1, C2, C3, h6z]) rfl ⟨rfl, by exact (((B6.setCell (by simp) _).setCell (by simp) _).setCell (by simp) _).setCell (by simp) _⟩
          | true =>
            rw [hv] at hr
            have e5 := HT2.out
            rw [hv, if_pos ⟨rfl, rfl⟩] at e5
            simp only [Prod.mk.injEq, Ad.mk.injEq] at e5
            obtain ⟨⟨⟨rfl, rfl, rfl⟩, rfl⟩, rfl⟩ := e5
            clear HT2 bad hv hrp
            go_wp2_with fail
            refine (hr _).mono ?_
            rintro e w6 ⟨rfl, b6⟩
            obtain ⟨C0, C1, C2, C3, RF, h6z, B6⟩ := fin.out _ (b06.trans (b6.mono z06))
            have P0' : w6.cell? ⟨pb, 0, none⟩ = some (.int .i64 f) := kept b6 (by rw [put_other (by simp)]; exact P0)
            have P1' : w6.cell? ⟨pb, 1, none⟩ = some (.int .u64 h) := kept b6 (by rw [put_other (by simp)]; exact P1)
            have P2' : w6.cell? ⟨pb, 2, none⟩ = some (.int .u64 l) := kept b6 (by rw [put_other (by simp)]; exact P2)
            have P3' : w6.cell? ⟨pb, 3, none⟩ = some (.int .i64 n) := kept b6 (put_same P3)
            clear fin P0 P1 P2 P3 PF
            go_wp2
            exact bodyPost_ret (v := .tuple #[.agg #[.int .i64 f, .int .u64 h, .int .u64 l, .int .i64 n], .int .i64 0]) (by simp [results, Tryd.results27, go_sem, C0, C1, C2, C3, h6z]) rfl ⟨rfl, by exact (((B6.setCell (by simp) _).setCell (by simp) _).setCell (by simp) _).setCell (by simp) _⟩
  · obtain ⟨rfl, rfl, rfl, rfl, rfl⟩ := bad.out.2 (by have := HT.out; rw [if_neg he] at this; exact this)
    have e11 : e = 1 := by omega
    subst e11
    obtain ⟨C0, C1, C2, C3, RF, h6z, B6⟩ := fin.out _ (b03.alloc z03 (.cells #[.int .i64 f, .int .u64 h, .int .u64 l] 24))
    clear HT bad fin he hwd hnum hrp
    go_wp2
    exact bodyPost_ret (v := .tuple #[.agg #[.int .i64 0, .int .u64 0, .int .u64 0, .int .i64 0], .int .i64 1]) (by simp [results, Tryd.results27, go_sem, C0, C1, C2, C3, h6z]) rfl ⟨rfl, by exact (((B6.setCell (by simp) _).setCell (by simp) _).setCell (by simp) _).setCell (by simp) _⟩
end Go.Proofs.YtakajiedajfkjaaDoor
