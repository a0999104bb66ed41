/- A full wheel takes no new number, and turns its old ones. -/
import Derived.Test.YtfcpjenlckkloaaWhS
namespace Go.Proofs.Ytfcpjenlckkloaa
open Go.RowKit
set_option linter.unusedVariables false
set_option linter.unusedSimpArgs false

/-- A wheel with the numbers below i, all of the time 10. -/
def full (i : Nat) : List M.Ent := (List.range i).map (fun k : Nat => ((k : Int), (10 : Int)))
theorem full_len (i : Nat) : (full i).length = i := by simp [full]
theorem mem_full {i : Nat} {p : M.Ent} : p ∈ full i ↔ 0 ≤ p.1 ∧ p.1 < i ∧ p.2 = 10 := by
  unfold full
  rw [List.mem_map]
  constructor
  · rintro ⟨k, hk, rfl⟩
    have := List.mem_range.1 hk
    refine ⟨?_, ?_, rfl⟩
    · show (0 : Int) ≤ ↑k
      omega
    · show (↑k : Int) < ↑i
      omega
  · rintro ⟨h1, h2, h3⟩
    exact ⟨p.1.toNat, List.mem_range.2 (by omega), Prod.ext (by simp only; omega) h3.symm⟩
theorem full_ok (i : Nat) (hi : i ≤ 1024) : M.Ok (full i) := by
  refine ⟨?_, ?_, fun p hp => ?_⟩
  · unfold full
    rw [List.pairwise_map]
    refine List.Pairwise.imp (fun {a b} h => ?_) List.pairwise_lt_range
    rw [M.bef_iff]
    right
    exact ⟨rfl, by simp only; omega⟩
  · unfold full
    rw [List.pairwise_map]
    refine List.Pairwise.imp (fun {a b} h => ?_) List.pairwise_lt_range
    simp only
    omega
  · have := mem_full.1 hp
    omega
theorem full_none (i : Nat) (x : Int) (h : x < 0 ∨ (i : Int) ≤ x) : M.tm (full i) x = none := M.tm_none.2 (fun t ht => by
  have := mem_full.1 ht
  simp only at this
  omega)
theorem takeWhile_all {α : Type} {p : α → Bool} : ∀ {l : List α}, (∀ x ∈ l, p x = true) → l.takeWhile p = l ∧ l.dropWhile p = []
  | [], _ => ⟨rfl, rfl⟩
  | x :: l, h => by
    have := takeWhile_all (l := l) (fun y hy => h y (by simp [hy]))
    rw [List.takeWhile_cons, List.dropWhile_cons, if_pos (h x (by simp)), if_pos (h x (by simp)), this.1, this.2]
    exact ⟨rfl, rfl⟩
theorem full_set (i : Nat) : M.setE (full i) i 10 = full (i + 1) := by
  unfold M.setE
  rw [M.dropE_none (full_none i i (by omega))]
  unfold M.insE
  obtain ⟨h1, h2⟩ := takeWhile_all (l := full i) (p := fun q => M.bef q (↑i, 10)) (fun q hq => by
    have := mem_full.1 hq
    rw [M.bef_iff]
    right
    exact ⟨this.2.2, this.2.1⟩)
  rw [h1, h2]
  unfold full
  rw [List.range_succ, List.map_append]
  rfl
theorem full_R (i : Nat) (h : i < 1024) : setR (full i) i 10 = 0 ∧ setS (full i) i 10 = full (i + 1) := by
  have hr : setR (full i) i 10 = 0 := by
    unfold setR
    rw [if_neg (by decide), if_neg (by rw [full_len]; omega)]
  refine ⟨hr, ?_⟩
  unfold setS
  rw [if_pos hr, full_set]
set_option maxRecDepth 100000 in
set_option maxHeartbeats 4000000 in
theorem wheelFull_walk (id at_ : Int) (w : World) (hi : (Lit.int .i64 id).wf = true) (ha : (Lit.int .i64 at_).wf = true) :
    Calls Try.prog 7 #[.int .i64 id, .int .i64 at_] w fun e w' => e = .returned (.bool true) ∧ Below w.heap.size w w' := by
  have hi64 : In64 id := by
    have : -9223372036854775808 ≤ id ∧ id ≤ 9223372036854775807 := by simpa [Lit.wf, IntKind.min, IntKind.max, IntKind.signed, IntKind.bits] using hi
    exact this
  have k0 := hidW (new_w 0 w rfl)
  clear hi ha
  go_enter Try.func7, Try.ntmps7
  go_wp2_with fail
  refine Calls.mono k0.out ?_
  rintro e w1 ⟨F1, g, rfl, n1⟩
  have ka := hidW (alive_any w1)
  clear k0
  go_wp2_with fail
  refine Calls.mono ka.out ?_
  rintro e w2 ⟨rfl, q2⟩
  have n2 : Hid (Wn w w2 g F1 0 (full 0)) := n1.below q2
  clear ka n1 q2
  go_wp2_with fail
  go_loopw [25] (fun i wr => ∃ (k : Nat) (F : Nat → Prop), k ≤ 1024 ∧ i = .int .i64 k ∧ Hid (Wn w wr g F 0 (full k))) (fun i _ => 1024 - (intOf i).toNat)
  case atStart => exact ⟨0, F1, by omega, rfl, n2⟩
  case round =>
    obtain ⟨k, F, hk, rfl, n3⟩ := hrel
    by_cases hlt : k < 1024
    · have i1 : (↑k : Int) < 1024 := by omega
      have i0 : (0 : Int) ≤ ↑k := by omega
      have ks := hidW (set_w w wr g F 0 (full k) n3.out k 10 ⟨by omega, by omega⟩)
      rw [(full_R k hlt).1, (full_R k hlt).2] at ks
      clear n3 n2
      go_wp2_with fail
      refine Calls.mono ks.out ?_
      rintro e w4 ⟨F4, rfl, n4, -⟩
      have n4 := hidW n4
      go_wp2
      exact ⟨⟨k + 1, F4, by omega, int_eq (by omega), n4⟩, by simp [intOf] <;> omega⟩
    · have ek : k = 1024 := by omega
      subst ek
      have ks := hidW (set_w w wr g F 0 (full 1024) n3.out id at_ hi64)
      have hfl := full_len 1024
      clear n3 n2
      by_cases hr : rtB at_ = true
      · have hr' : ¬ at_ < 0 ∧ ¬ 4611686018427387904 < at_ := by simp [rtB] at hr; omega
        obtain ⟨a1, a2⟩ := hr'
        by_cases hx : id < 0 ∨ (1024 : Int) ≤ id
        · have hR : setR (full 1024) id at_ = 12 := by
            unfold setR
            rw [if_neg (by simp [hr]), if_pos ⟨full_none 1024 id (by omega), by rw [hfl]; omega⟩]
          have hS : setS (full 1024) id at_ = full 1024 := by
            unfold setS
            rw [if_neg (by rw [hR]; decide)]
          rw [hR, hS] at ks
          have fin : Hid (∀ W F', Wn w W g F' 0 (full 1024) → Calls Try.prog 17 #[.pointer (some ⟨g, 0, none⟩)] W fun e w' => e = .returned (.int .i64 1024) ∧ w' = W) := fun W F' hW => by
            have := len_any W g F' 0 (full 1024) hW.whl
            rw [hfl] at this
            exact this
          clear hR hS hfl
          rcases Int.lt_or_le id 0 with y | y
          · clear hx
            go_wp2_with fail
            refine Calls.mono ks.out ?_
            rintro e w4 ⟨F4, rfl, n4, -⟩
            have kl := hidW (fin.out w4 F4 n4)
            have b4 := n4.bel
            clear n4 ks
            go_wp2_with fail
            refine Calls.mono kl.out ?_
            rintro e W' ⟨rfl, hW'⟩
            rw [hW']
            go_wp2
            go_ret
            exact ⟨rfl, b4⟩
          · have y2 : (1024 : Int) ≤ id := by omega
            clear hx
            go_wp2_with fail
            refine Calls.mono ks.out ?_
            rintro e w4 ⟨F4, rfl, n4, -⟩
            have kl := hidW (fin.out w4 F4 n4)
            have b4 := n4.bel
            clear n4 ks
            go_wp2_with fail
            refine Calls.mono kl.out ?_
            rintro e W' ⟨rfl, hW'⟩
            rw [hW']
            go_wp2
            go_ret
            exact ⟨rfl, b4⟩
        · have y1 : ¬ id < 0 := by omega
          have y2 : ¬ (1024 : Int) ≤ id := by omega
          have hb : 0 ≤ at_ ∧ at_ ≤ 4611686018427387904 ∧ -9223372036854775808 ≤ id ∧ id ≤ 9223372036854775807 := ⟨by omega, by omega, hi64.1, hi64.2⟩
          have ho : M.Ok (full 1024) := full_ok 1024 (by omega)
          have hT : M.tm (full 1024) id = some 10 := (ho.tm_iff id 10).2 (mem_full.2 ⟨by simp only; omega, by simp only; omega, rfl⟩)
          have hR : setR (full 1024) id at_ = 0 := by
            unfold setR
            rw [if_neg (by simp [hr]), if_neg (by rw [hT]; simp)]
          have hS : setS (full 1024) id at_ = M.setE (full 1024) id at_ := by
            unfold setS
            rw [if_pos hR]
          rw [hR, hS] at ks
          have hl2 : (M.setE (full 1024) id at_).length = 1024 := by rw [ho.len_set, hT, hfl]; rfl
          have ht2 : M.tm (M.setE (full 1024) id at_) id = some at_ := ho.tm_set_same hb
          have fin : Hid (∀ W F', Wn w W g F' 0 (M.setE (full 1024) id at_) → Calls Try.prog 17 #[.pointer (some ⟨g, 0, none⟩)] W (fun e w' => e = .returned (.int .i64 1024) ∧ w' = W) ∧ Calls Try.prog 20 #[.pointer (some ⟨g, 0, none⟩), .int .i64 id] W (fun e w' => e = .returned (.tuple #[.int .i64 at_, .bool true]) ∧ w' = W)) := fun W F' hW => by
            have h1 := len_any W g F' 0 _ hW.whl
            have h2 := time_any W g F' 0 _ hW.whl id hi64
            rw [hl2] at h1
            rw [ht2] at h2
            exact ⟨h1, h2⟩
          generalize M.setE (full 1024) id at_ = E2 at *
          clear hR hS hT hl2 ht2 hfl hb ho hx
          go_wp2_with fail
          refine Calls.mono ks.out ?_
          rintro e w4 ⟨F4, rfl, n4, -⟩
          obtain ⟨q1, q2⟩ := fin.out w4 F4 n4
          have q1 := hidW q1
          have q2 := hidW q2
          have b4 := n4.bel
          clear n4 ks
          go_wp2_with (first
            | (go_at_call 20; refine Calls.mono q2.out ?_; rintro e W' ⟨rfl, hW'⟩; rw [hW']; clear hW' W')
            | (go_at_call 17; refine Calls.mono q1.out ?_; rintro e W' ⟨rfl, hW'⟩; rw [hW']; clear hW' W'))
          go_ret
          exact ⟨by simp, b4⟩
      · have hr' : at_ < 0 ∨ 4611686018427387904 < at_ := by simp [rtB] at hr; omega
        have hR : setR (full 1024) id at_ = 25 := by
          unfold setR
          rw [if_pos (by simpa using hr)]
        have hS : setS (full 1024) id at_ = full 1024 := by
          unfold setS
          rw [if_neg (by rw [hR]; decide)]
        rw [hR, hS] at ks
        have fin : Hid (∀ W F', Wn w W g F' 0 (full 1024) → Calls Try.prog 17 #[.pointer (some ⟨g, 0, none⟩)] W fun e w' => e = .returned (.int .i64 1024) ∧ w' = W) := fun W F' hW => by
          have := len_any W g F' 0 (full 1024) hW.whl
          rw [hfl] at this
          exact this
        clear hR hS hfl hr
        rcases Int.lt_or_le at_ 0 with y | y
        · clear hr'
          go_wp2_with fail
          refine Calls.mono ks.out ?_
          rintro e w4 ⟨F4, rfl, n4, -⟩
          have kl := hidW (fin.out w4 F4 n4)
          have b4 := n4.bel
          clear n4 ks
          go_wp2_with fail
          refine Calls.mono kl.out ?_
          rintro e W' ⟨rfl, hW'⟩
          rw [hW']
          go_wp2
          go_ret
          exact ⟨rfl, b4⟩
        · have y2 : 4611686018427387904 < at_ := by omega
          clear hr'
          go_wp2_with fail
          refine Calls.mono ks.out ?_
          rintro e w4 ⟨F4, rfl, n4, -⟩
          have kl := hidW (fin.out w4 F4 n4)
          have b4 := n4.bel
          clear n4 ks
          go_wp2_with fail
          refine Calls.mono kl.out ?_
          rintro e W' ⟨rfl, hW'⟩
          rw [hW']
          go_wp2
          go_ret
          exact ⟨rfl, b4⟩
end Go.Proofs.Ytfcpjenlckkloaa
