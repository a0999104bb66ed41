/- Set of the document's wheel, walked. -/
import Derived.Test.YtfcpjenlckkloaaWrC
namespace Go.Proofs.Ytfcpjenlckkloaa
open Go.RowKit
set_option linter.unusedVariables false
set_option linter.unusedSimpArgs false

set_option maxRecDepth 100000 in
set_option maxHeartbeats 4000000 in
theorem rset_y (w : World) (gr : Nat) (a : Option Addr) (c : Nat) (clock : Int) (E : List M.Ent) (h : Rm w gr a c clock E) (hE : M.Ok E) (hl : E.length ≤ 1024) (id at_ : Int) (hr : setR E id at_ = 0) :
    Calls Try.prog 23 #[.pointer (some ⟨gr, 0, none⟩), .int .i64 id, .int .i64 at_] w fun e w' => e = .returned (.int .i64 0) ∧ ∃ a2 c2, Rm w' gr a2 c2 clock (M.setE E id at_) ∧ But (fun k => k = gr) w w' ∧ ∀ k, AtB a2 k → w.heap.size ≤ k := by
  have K := hidW (find_any w gr a c clock E h hl id)
  have KD := hidW (rdrop_m w gr a c clock E h hE hl id)
  have c1' := h.blk.cell 1 _ rfl
  have hle := fnd_le E id
  have hr1 : rtB at_ = true := by
    unfold setR at hr
    cases e : rtB at_
    · simp [e] at hr
    · rfl
  have hr2 : ¬ (M.tm E id = none ∧ 1024 ≤ E.length) := by
    unfold setR at hr
    intro x
    rw [if_neg (by simp [hr1]), if_pos x] at hr
    cases hr
  have hb : 0 ≤ at_ ∧ at_ ≤ 4611686018427387904 := by simpa [rtB] using hr1
  obtain ⟨hb1, hb2⟩ := hb
  have hlen1 : (M.dropE E id).length ≤ 1024 := Nat.le_trans (List.length_filter_le _ _) hl
  have hfe : (fnd E id < E.length) ∨ (¬ fnd E id < E.length ∧ E.length < 1024) := by
    by_cases x : fnd E id < E.length
    · exact .inl x
    · refine .inr ⟨x, ?_⟩
      have := fnd_none (E := E) (id := id) (by omega)
      rcases Nat.lt_or_ge E.length 1024 with y | y
      · exact y
      · exact absurd ⟨this, y⟩ hr2
  have KF : Hid (∃ r : Int, (0 ≤ r ∨ (r < 0 ∧ (↑E.length : Int) < 1024)) ∧ Calls Try.prog 37 #[.pointer (some ⟨gr, 0, none⟩), .int .i64 id] w fun e w' => e = .returned (.int .i64 r) ∧ w' = w) := by
    refine ⟨fndR E id, ?_, K.out⟩
    unfold fndR
    rcases hfe with x | ⟨x, y⟩
    · rw [if_pos x]; left; omega
    · rw [if_neg x]; right; omega
  have hSE : M.setE E id at_ = M.insE (M.dropE E id) (id, at_) := rfl
  rw [hSE]
  clear K h hr hr1 hr2 hfe hSE hle
  generalize M.dropE E id = E1 at *
  obtain ⟨r, hrr, K⟩ := KF.out
  have K := hidW K
  clear KF
  obtain ⟨n, hP⟩ : ∃ n, plc E1 (id, at_) = n := ⟨_, rfl⟩
  obtain ⟨N, hN⟩ : ∃ N, E1.length = N := ⟨_, rfl⟩
  have hnN : n ≤ N := by rw [← hP, ← hN]; exact plc_le _ _
  have hN1 : N ≤ 1024 := by rw [← hN]; exact hlen1
  have HP := hidW hP
  have HN := hidW hN
  rcases hrr with y | ⟨y, y2⟩
  · have y' : ¬ r < 0 := by omega
    go_enter Try.func23, Try.ntmps23
    go_wp2_with fail
    refine Calls.mono K.out ?_
    rintro e W' ⟨rfl, hW'⟩
    rw [hW']
    clear hW' W' K
    go_wp2_with fail
    refine Calls.mono KD.out ?_
    rintro e w1 ⟨rfl, a1, c1, m1, bu1, at1⟩
    clear KD c1'
    have cc := m1.blk.cell 1 _ rfl
    rw [HN.out] at cc
    have hcap := m1.cap
    rw [HN.out] at hcap
    have hbig := m1.big
    cases a1 with
    | none =>
      have hc0 := m1.nil rfl
      subst hc0
      have hE1 : E1 = [] := List.eq_nil_of_length_eq_zero (by rw [HN.out]; omega)
      subst hE1
      have hn0 : n = 0 := by omega
      have hN0 : N = 0 := by omega
      subst hn0 hN0
      obtain ⟨a1', k1, W1, a2, k2, W2, a3, k3, W3, s1, t1, u1, b1, b1', b2, b3, st1, st2, st3⟩ := rset_mem w1 gr none 0 clock [] m1 (by simp) (id, at_) 0 HP.out none (fun hp => by simp at hp) (fun _ => rfl)
      have f3 : Hid (∃ a2 c2, Rm (W3.setCell ⟨gr, 1, none⟩ (.slice a3 1 k3)) gr a2 c2 clock (M.insE [] (id, at_)) ∧ But (fun k => k = gr) w (W3.setCell ⟨gr, 1, none⟩ (.slice a3 1 k3)) ∧ ∀ k, AtB a2 k → w.heap.size ≤ k) := ⟨a3, k3, st1, bu1.trans st2 (fun _ _ x => x), fun k hk => Nat.le_trans bu1.size (st3 k hk)⟩
      have g0 := b1.cell (fun x => x) cc
      have g1 := (b1.alloc (.cells #[.int .i64 id, .int .i64 at_] 70)).cell (fun x => x) cc
      have g2 := b2.cell (fun x => x) cc
      have g3 := b3.cell (fun x => x) cc
      have g4 : W3.frozen? ⟨gr, 1, none⟩ = false := (m1.blk.but b3 (fun x => x)).frozen 1
      change Sem.run Try.prog _ (W1.alloc (.cells #[.int .i64 id, .int .i64 at_] 70)).drew = Result.ok (Value.slice a2 1 k2) W2 at t1
      change (Builtin.append_ #[27, 27] 27 #[.slice a2 1 k2, .slice none 0 0]).run Try.prog W2 = Result.ok (Value.slice a3 1 k3) W3 at u1
      clear st1 st2 st3 m1 bu1 at1 b1 b1' b2 b3 HP HN hP hN
      go_wp2_with fail
      go_loopw [7] (fun i wr => wr = w1 ∧ i = .int .i64 0) (fun i _ => 0)
      case atStart => exact ⟨rfl, rfl⟩
      case round =>
        obtain ⟨rfl, rfl⟩ := hrel
        go_wp2_with (at_builtin; refine wpList_run _ rfl _ _ rfl _ _ _ _ rfl rfl s1 ?_)
        go_region_law (first | refine step_run _ rfl _ _ rfl (.slice a1' 0 k1) (.slice (some ⟨W1.heap.size, 0, none⟩) 1 1) _ _ rfl rfl t1 ?_ | refine step_run _ rfl _ _ rfl (.slice a2 1 k2) (.slice none 0 0) _ _ rfl rfl u1 ?_)
        all_goals go_wp2
        all_goals go_ret
        all_goals exact ⟨rfl, f3.out⟩
    | some x =>
      obtain ⟨b, off, spot⟩ := x
      have hsp : spot = none := m1.sp _ rfl
      subst hsp
      obtain ⟨a', ha'⟩ : ∃ a', (if c1 = n then (some ⟨b, off, none⟩ : Option Addr) else some ⟨b, off + n * 2, none⟩) = a' := ⟨_, rfl⟩
      have hcl : Hid (∀ (k : Nat) (q : M.Ent), E1[k]? = some q → w1.cell? ⟨b, off + k * 2, none⟩ = some (.int .i64 q.1) ∧ w1.cell? ⟨b, off + k * 2 + 1, none⟩ = some (.int .i64 q.2)) := fun k q hq => by
        obtain ⟨b', off', hx, hc⟩ := m1.row (by have := (List.getElem?_eq_some_iff.1 hq).1; omega)
        cases hx
        exact hc k q hq
      have ra' : RowE w1 a' (E1.drop n) := fun hp => by
        have hlen : (E1.drop n).length = N - n := by rw [List.length_drop, HN.out]
        rw [hlen] at hp
        rw [if_neg (by omega)] at ha'
        rw [← ha']
        exact m1.row.drop n (by rw [hlen]; exact hp)
      have hna : a' = none → c1 - n = 0 := fun x => by
        subst x
        split at ha' <;> cases ha'
      obtain ⟨a1', k1, W1, a2, k2, W2, a3, k3, W3, s1, t1, u1, b1, b1', b2, b3, st1, st2, st3⟩ := rset_mem w1 gr _ c1 clock E1 m1 hlen1 (id, at_) n HP.out a' ra' hna
      rw [HN.out] at u1 st1 st2
      change Sem.run Try.prog _ (W1.alloc (.cells #[.int .i64 id, .int .i64 at_] 70)).drew = Result.ok (Value.slice a2 (n + 1) k2) W2 at t1
      have f3 : Hid (∃ a2 c2, Rm (W3.setCell ⟨gr, 1, none⟩ (.slice a3 (n + 1 + (N - n)) k3)) gr a2 c2 clock (M.insE E1 (id, at_)) ∧ But (fun k => k = gr) w (W3.setCell ⟨gr, 1, none⟩ (.slice a3 (n + 1 + (N - n)) k3)) ∧ ∀ k, AtB a2 k → w.heap.size ≤ k) := ⟨a3, k3, st1, bu1.trans st2 (fun _ _ x => x), fun k hk => Nat.le_trans bu1.size (st3 k hk)⟩
      have g0 := b1.cell (fun x => x) cc
      have g1 := (b1.alloc (.cells #[.int .i64 id, .int .i64 at_] 70)).cell (fun x => x) cc
      have g2 := b2.cell (fun x => x) cc
      have g3 := b3.cell (fun x => x) cc
      have g4 : W3.frozen? ⟨gr, 1, none⟩ = false := (m1.blk.but b3 (fun x => x)).frozen 1
      have j1 : (↑n : Int) ≤ ↑c1 := by omega
      have j2 : (↑n : Int) ≤ ↑N := by omega
      have j0 : (0 : Int) ≤ ↑n := by omega
      clear st1 st2 st3 m1 bu1 at1 b1 b1' b2 b3 ra' hna hP hN
      go_wp2_with fail
      go_loopw [7] (fun i wr => wr = w1 ∧ ∃ k : Nat, k ≤ n ∧ i = .int .i64 k) (fun i _ => N - (intOf i).toNat)
      case atStart => exact ⟨rfl, 0, by omega, rfl⟩
      case round =>
        obtain ⟨rfl, k, hk, rfl⟩ := hrel
        by_cases hlt : k < n
        · obtain ⟨q, hq⟩ : ∃ q, E1[k]? = some q := ⟨_, List.getElem?_eq_getElem (by rw [HN.out]; omega)⟩
          have hbf := (plc_at (p := (id, at_)) (k := k) (q := q) (by rw [HP.out]; exact hk) hq).2 (by rw [HP.out]; exact hlt)
          obtain ⟨d1, d2⟩ := hcl.out k q hq
          have i1 : (↑k : Int) < ↑N := by omega
          have i0 : (0 : Int) ≤ ↑k := by omega
          clear s1 t1 u1 g1 g2 g3 g4
          rcases (M.bef_iff _ _).1 hbf with z | ⟨z, z2⟩
          · have z : q.2 < at_ := z
            clear hbf
            go_wp2
            exact ⟨⟨by trivial, k + 1, by omega, int_eq (by omega)⟩, by simp [intOf] <;> omega⟩
          · have z0 : ¬ q.2 < at_ := by have : q.2 = at_ := z; omega
            have z1 : (q.2 == at_) = true := by simpa using z
            have z2 : q.1 < id := z2
            clear hbf z
            go_wp2
            exact ⟨⟨by trivial, k + 1, by omega, int_eq (by omega)⟩, by simp [intOf] <;> omega⟩
        · have ek : k = n := by omega
          subst ek
          have fin0 : Hid (∀ (P : Prop), P → P) := fun _ x => x
          by_cases hkN : k < N
          · obtain ⟨q, hq⟩ : ∃ q, E1[k]? = some q := ⟨_, List.getElem?_eq_getElem (by rw [HN.out]; omega)⟩
            have hbf : ¬ M.bef q (id, at_) = true := fun x => by
              have := (plc_at (p := (id, at_)) (k := k) (q := q) (by rw [HP.out]; exact hk) hq).1 x
              rw [HP.out] at this
              omega
            obtain ⟨d1, d2⟩ := hcl.out k q hq
            have i1 : (↑k : Int) < ↑N := by omega
            have i0 : (0 : Int) ≤ ↑k := by omega
            rw [M.bef_iff] at hbf
            have z0 : ¬ q.2 < at_ := fun x => hbf (.inl x)
            by_cases z1 : q.2 = at_
            · have z1' : (q.2 == at_) = true := by simpa using z1
              have z2 : ¬ q.1 < id := fun x => hbf (.inr ⟨z1, x⟩)
              clear hbf z1
              go_wp2_with (at_builtin; refine wpList_run _ rfl _ _ rfl _ _ _ _ rfl rfl s1 ?_)
              go_region_law (first | refine step_run _ rfl _ _ rfl (.slice a1' k k1) (.slice (some ⟨W1.heap.size, 0, none⟩) 1 1) _ _ rfl rfl t1 ?_ | refine step_run _ rfl _ _ rfl (.slice a2 (k + 1) k2) (.slice a' (N - k) (c1 - k)) _ _ rfl rfl u1 ?_)
              all_goals go_wp2
              all_goals go_ret
              all_goals exact ⟨rfl, f3.out⟩
            · have z1' : (q.2 == at_) = false := by simpa using z1
              clear hbf z1
              go_wp2_with (at_builtin; refine wpList_run _ rfl _ _ rfl _ _ _ _ rfl rfl s1 ?_)
              go_region_law (first | refine step_run _ rfl _ _ rfl (.slice a1' k k1) (.slice (some ⟨W1.heap.size, 0, none⟩) 1 1) _ _ rfl rfl t1 ?_ | refine step_run _ rfl _ _ rfl (.slice a2 (k + 1) k2) (.slice a' (N - k) (c1 - k)) _ _ rfl rfl u1 ?_)
              all_goals go_wp2
              all_goals go_ret
              all_goals exact ⟨rfl, f3.out⟩
          · have i1 : ¬ (↑k : Int) < ↑N := by omega
            have i0 : (0 : Int) ≤ ↑k := by omega
            go_wp2_with (at_builtin; refine wpList_run _ rfl _ _ rfl _ _ _ _ rfl rfl s1 ?_)
            go_region_law (first | refine step_run _ rfl _ _ rfl (.slice a1' k k1) (.slice (some ⟨W1.heap.size, 0, none⟩) 1 1) _ _ rfl rfl t1 ?_ | refine step_run _ rfl _ _ rfl (.slice a2 (k + 1) k2) (.slice a' (N - k) (c1 - k)) _ _ rfl rfl u1 ?_)
            all_goals go_wp2
            all_goals go_ret
            all_goals exact ⟨rfl, f3.out⟩
  · generalize E.length = nE at *
    go_enter Try.func23, Try.ntmps23
    go_wp2_with fail
    refine Calls.mono K.out ?_
    rintro e W' ⟨rfl, hW'⟩
    rw [hW']
    clear hW' W' K
    go_wp2_with fail
    refine Calls.mono KD.out ?_
    rintro e w1 ⟨rfl, a1, c1, m1, bu1, at1⟩
    clear KD c1'
    have cc := m1.blk.cell 1 _ rfl
    rw [HN.out] at cc
    have hcap := m1.cap
    rw [HN.out] at hcap
    have hbig := m1.big
    cases a1 with
    | none =>
      have hc0 := m1.nil rfl
      subst hc0
      have hE1 : E1 = [] := List.eq_nil_of_length_eq_zero (by rw [HN.out]; omega)
      subst hE1
      have hn0 : n = 0 := by omega
      have hN0 : N = 0 := by omega
      subst hn0 hN0
      obtain ⟨a1', k1, W1, a2, k2, W2, a3, k3, W3, s1, t1, u1, b1, b1', b2, b3, st1, st2, st3⟩ := rset_mem w1 gr none 0 clock [] m1 (by simp) (id, at_) 0 HP.out none (fun hp => by simp at hp) (fun _ => rfl)
      have f3 : Hid (∃ a2 c2, Rm (W3.setCell ⟨gr, 1, none⟩ (.slice a3 1 k3)) gr a2 c2 clock (M.insE [] (id, at_)) ∧ But (fun k => k = gr) w (W3.setCell ⟨gr, 1, none⟩ (.slice a3 1 k3)) ∧ ∀ k, AtB a2 k → w.heap.size ≤ k) := ⟨a3, k3, st1, bu1.trans st2 (fun _ _ x => x), fun k hk => Nat.le_trans bu1.size (st3 k hk)⟩
      have g0 := b1.cell (fun x => x) cc
      have g1 := (b1.alloc (.cells #[.int .i64 id, .int .i64 at_] 70)).cell (fun x => x) cc
      have g2 := b2.cell (fun x => x) cc
      have g3 := b3.cell (fun x => x) cc
      have g4 : W3.frozen? ⟨gr, 1, none⟩ = false := (m1.blk.but b3 (fun x => x)).frozen 1
      change Sem.run Try.prog _ (W1.alloc (.cells #[.int .i64 id, .int .i64 at_] 70)).drew = Result.ok (Value.slice a2 1 k2) W2 at t1
      change (Builtin.append_ #[27, 27] 27 #[.slice a2 1 k2, .slice none 0 0]).run Try.prog W2 = Result.ok (Value.slice a3 1 k3) W3 at u1
      clear st1 st2 st3 m1 bu1 at1 b1 b1' b2 b3 HP HN hP hN
      go_wp2_with fail
      go_loopw [7] (fun i wr => wr = w1 ∧ i = .int .i64 0) (fun i _ => 0)
      case atStart => exact ⟨rfl, rfl⟩
      case round =>
        obtain ⟨rfl, rfl⟩ := hrel
        go_wp2_with (at_builtin; refine wpList_run _ rfl _ _ rfl _ _ _ _ rfl rfl s1 ?_)
        go_region_law (first | refine step_run _ rfl _ _ rfl (.slice a1' 0 k1) (.slice (some ⟨W1.heap.size, 0, none⟩) 1 1) _ _ rfl rfl t1 ?_ | refine step_run _ rfl _ _ rfl (.slice a2 1 k2) (.slice none 0 0) _ _ rfl rfl u1 ?_)
        all_goals go_wp2
        all_goals go_ret
        all_goals exact ⟨rfl, f3.out⟩
    | some x =>
      obtain ⟨b, off, spot⟩ := x
      have hsp : spot = none := m1.sp _ rfl
      subst hsp
      obtain ⟨a', ha'⟩ : ∃ a', (if c1 = n then (some ⟨b, off, none⟩ : Option Addr) else some ⟨b, off + n * 2, none⟩) = a' := ⟨_, rfl⟩
      have hcl : Hid (∀ (k : Nat) (q : M.Ent), E1[k]? = some q → w1.cell? ⟨b, off + k * 2, none⟩ = some (.int .i64 q.1) ∧ w1.cell? ⟨b, off + k * 2 + 1, none⟩ = some (.int .i64 q.2)) := fun k q hq => by
        obtain ⟨b', off', hx, hc⟩ := m1.row (by have := (List.getElem?_eq_some_iff.1 hq).1; omega)
        cases hx
        exact hc k q hq
      have ra' : RowE w1 a' (E1.drop n) := fun hp => by
        have hlen : (E1.drop n).length = N - n := by rw [List.length_drop, HN.out]
        rw [hlen] at hp
        rw [if_neg (by omega)] at ha'
        rw [← ha']
        exact m1.row.drop n (by rw [hlen]; exact hp)
      have hna : a' = none → c1 - n = 0 := fun x => by
        subst x
        split at ha' <;> cases ha'
      obtain ⟨a1', k1, W1, a2, k2, W2, a3, k3, W3, s1, t1, u1, b1, b1', b2, b3, st1, st2, st3⟩ := rset_mem w1 gr _ c1 clock E1 m1 hlen1 (id, at_) n HP.out a' ra' hna
      rw [HN.out] at u1 st1 st2
      change Sem.run Try.prog _ (W1.alloc (.cells #[.int .i64 id, .int .i64 at_] 70)).drew = Result.ok (Value.slice a2 (n + 1) k2) W2 at t1
      have f3 : Hid (∃ a2 c2, Rm (W3.setCell ⟨gr, 1, none⟩ (.slice a3 (n + 1 + (N - n)) k3)) gr a2 c2 clock (M.insE E1 (id, at_)) ∧ But (fun k => k = gr) w (W3.setCell ⟨gr, 1, none⟩ (.slice a3 (n + 1 + (N - n)) k3)) ∧ ∀ k, AtB a2 k → w.heap.size ≤ k) := ⟨a3, k3, st1, bu1.trans st2 (fun _ _ x => x), fun k hk => Nat.le_trans bu1.size (st3 k hk)⟩
      have g0 := b1.cell (fun x => x) cc
      have g1 := (b1.alloc (.cells #[.int .i64 id, .int .i64 at_] 70)).cell (fun x => x) cc
      have g2 := b2.cell (fun x => x) cc
      have g3 := b3.cell (fun x => x) cc
      have g4 : W3.frozen? ⟨gr, 1, none⟩ = false := (m1.blk.but b3 (fun x => x)).frozen 1
      have j1 : (↑n : Int) ≤ ↑c1 := by omega
      have j2 : (↑n : Int) ≤ ↑N := by omega
      have j0 : (0 : Int) ≤ ↑n := by omega
      clear st1 st2 st3 m1 bu1 at1 b1 b1' b2 b3 ra' hna hP hN
      go_wp2_with fail
      go_loopw [7] (fun i wr => wr = w1 ∧ ∃ k : Nat, k ≤ n ∧ i = .int .i64 k) (fun i _ => N - (intOf i).toNat)
      case atStart => exact ⟨rfl, 0, by omega, rfl⟩
      case round =>
        obtain ⟨rfl, k, hk, rfl⟩ := hrel
        by_cases hlt : k < n
        · obtain ⟨q, hq⟩ : ∃ q, E1[k]? = some q := ⟨_, List.getElem?_eq_getElem (by rw [HN.out]; omega)⟩
          have hbf := (plc_at (p := (id, at_)) (k := k) (q := q) (by rw [HP.out]; exact hk) hq).2 (by rw [HP.out]; exact hlt)
          obtain ⟨d1, d2⟩ := hcl.out k q hq
          have i1 : (↑k : Int) < ↑N := by omega
          have i0 : (0 : Int) ≤ ↑k := by omega
          clear s1 t1 u1 g1 g2 g3 g4
          rcases (M.bef_iff _ _).1 hbf with z | ⟨z, z2⟩
          · have z : q.2 < at_ := z
            clear hbf
            go_wp2
            exact ⟨⟨by trivial, k + 1, by omega, int_eq (by omega)⟩, by simp [intOf] <;> omega⟩
          · have z0 : ¬ q.2 < at_ := by have : q.2 = at_ := z; omega
            have z1 : (q.2 == at_) = true := by simpa using z
            have z2 : q.1 < id := z2
            clear hbf z
            go_wp2
            exact ⟨⟨by trivial, k + 1, by omega, int_eq (by omega)⟩, by simp [intOf] <;> omega⟩
        · have ek : k = n := by omega
          subst ek
          have fin0 : Hid (∀ (P : Prop), P → P) := fun _ x => x
          by_cases hkN : k < N
          · obtain ⟨q, hq⟩ : ∃ q, E1[k]? = some q := ⟨_, List.getElem?_eq_getElem (by rw [HN.out]; omega)⟩
            have hbf : ¬ M.bef q (id, at_) = true := fun x => by
              have := (plc_at (p := (id, at_)) (k := k) (q := q) (by rw [HP.out]; exact hk) hq).1 x
              rw [HP.out] at this
              omega
            obtain ⟨d1, d2⟩ := hcl.out k q hq
            have i1 : (↑k : Int) < ↑N := by omega
            have i0 : (0 : Int) ≤ ↑k := by omega
            rw [M.bef_iff] at hbf
            have z0 : ¬ q.2 < at_ := fun x => hbf (.inl x)
            by_cases z1 : q.2 = at_
            · have z1' : (q.2 == at_) = true := by simpa using z1
              have z2 : ¬ q.1 < id := fun x => hbf (.inr ⟨z1, x⟩)
              clear hbf z1
              go_wp2_with (at_builtin; refine wpList_run _ rfl _ _ rfl _ _ _ _ rfl rfl s1 ?_)
              go_region_law (first | refine step_run _ rfl _ _ rfl (.slice a1' k k1) (.slice (some ⟨W1.heap.size, 0, none⟩) 1 1) _ _ rfl rfl t1 ?_ | refine step_run _ rfl _ _ rfl (.slice a2 (k + 1) k2) (.slice a' (N - k) (c1 - k)) _ _ rfl rfl u1 ?_)
              all_goals go_wp2
              all_goals go_ret
              all_goals exact ⟨rfl, f3.out⟩
            · have z1' : (q.2 == at_) = false := by simpa using z1
              clear hbf z1
              go_wp2_with (at_builtin; refine wpList_run _ rfl _ _ rfl _ _ _ _ rfl rfl s1 ?_)
              go_region_law (first | refine step_run _ rfl _ _ rfl (.slice a1' k k1) (.slice (some ⟨W1.heap.size, 0, none⟩) 1 1) _ _ rfl rfl t1 ?_ | refine step_run _ rfl _ _ rfl (.slice a2 (k + 1) k2) (.slice a' (N - k) (c1 - k)) _ _ rfl rfl u1 ?_)
              all_goals go_wp2
              all_goals go_ret
              all_goals exact ⟨rfl, f3.out⟩
          · have i1 : ¬ (↑k : Int) < ↑N := by omega
            have i0 : (0 : Int) ≤ ↑k := by omega
            go_wp2_with (at_builtin; refine wpList_run _ rfl _ _ rfl _ _ _ _ rfl rfl s1 ?_)
            go_region_law (first | refine step_run _ rfl _ _ rfl (.slice a1' k k1) (.slice (some ⟨W1.heap.size, 0, none⟩) 1 1) _ _ rfl rfl t1 ?_ | refine step_run _ rfl _ _ rfl (.slice a2 (k + 1) k2) (.slice a' (N - k) (c1 - k)) _ _ rfl rfl u1 ?_)
            all_goals go_wp2
            all_goals go_ret
            all_goals exact ⟨rfl, f3.out⟩
end Go.Proofs.Ytfcpjenlckkloaa
