/- Texts joined: CkK -/
import Derived.Test.YtcoldgpnkdallaaDoorRxa13
namespace Go.Proofs.YtcoldgpnkdallaaDoor
open Go.RowKit
set_option linter.unusedVariables false
set_option linter.unusedSimpArgs false
theorem OwnP.cells {w : World} {B g c : Nat} {l : List Pt} (h : OwnP w B (some ⟨g, 0, none⟩) c l) {i : Nat} {p : Pt} (hi : l[i]? = some p) : w.cell? ⟨g, i * 3, none⟩ = some (.int .u64 p.a) ∧ w.cell? ⟨g, i * 3 + 1, none⟩ = some (.int .u64 p.b) ∧ w.cell? ⟨g, i * 3 + 2, none⟩ = some (.int .u64 p.c) := by
  obtain ⟨cur, hb, hs, hBg, hlc, hcm, hel⟩ := h.blk
  exact ⟨hb.cell _ _ (by have := hel i p 0 hi (by omega); simpa using this), hb.cell _ _ (by have := hel i p 1 hi (by omega); simpa using this), hb.cell _ _ (by have := hel i p 2 hi (by omega); simpa using this)⟩
theorem OwnP.drewN {w : World} {B : Nat} {a : Option Addr} {c : Nat} {l : List Pt} (h : OwnP w B a c l) (n : Nat) : OwnP (w.drewN n) B a c l := h.below (below_drewN (Below.refl _ _) n)
theorem pt_ne {p q : Pt} (h : p ≠ q) : (p.a == q.a) = false ∨ (p.a = q.a ∧ (p.b == q.b) = false) ∨ (p.a = q.a ∧ p.b = q.b ∧ (p.c == q.c) = false) := by
  obtain ⟨a, b, c⟩ := p
  obtain ⟨a', b', c'⟩ := q
  simp only [ne_eq, Pt.mk.injEq, not_and] at h
  simp only [beq_eq_false_iff_ne, ne_eq]
  by_cases h1 : a = a'
  · by_cases h2 : b = b'
    · exact .inr (.inr ⟨h1, h2, h h1 h2⟩)
    · exact .inr (.inl ⟨h1, h2⟩)
  · exact .inl h1
theorem setMany_size : ∀ (vs : List Value) (cur : Array Value) (j : Nat), (setMany cur j vs).size = cur.size
  | [], cur, j => rfl
  | v :: vs, cur, j => by rw [setMany, setMany_size vs]; simp
theorem setMany_at : ∀ (vs : List Value) (cur : Array Value) (j i : Nat), (setMany cur j vs)[i]? = if j ≤ i ∧ i < j + vs.length ∧ i < cur.size then vs[i - j]? else cur[i]?
  | [], cur, j, i => by
    rw [setMany, if_neg (by simp; omega)]
  | v :: vs, cur, j, i => by
    rw [setMany, setMany_at vs, Array.size_setIfInBounds, Array.getElem?_setIfInBounds]
    by_cases h1 : j + 1 ≤ i ∧ i < j + 1 + vs.length ∧ i < cur.size
    · rw [if_pos h1, if_pos (by simp; omega), show i - j = (i - (j + 1)) + 1 by omega, List.getElem?_cons_succ]
    · rw [if_neg h1]
      by_cases h2 : j = i
      · subst h2
        rw [if_pos rfl]
        by_cases h3 : j < cur.size
        · rw [if_pos h3, if_pos (by simp; omega)]
          simp
        · rw [if_neg h3, if_neg (by omega)]
          exact (Array.getElem?_eq_none (by omega)).symm
      · rw [if_neg h2, if_neg (by simp only [List.length_cons]; omega)]
/-- A point written into a slice of points. -/
theorem OwnP.put {w : World} {B g c : Nat} {l : List Pt} (h : OwnP w B (some ⟨g, 0, none⟩) c l) (k : Nat) (p : Pt) (hk : k < l.length) : ∃ cur, Blk w g 91 cur ∧ k * 3 + 3 ≤ cur.size ∧ B ≤ g ∧ OwnP (w.setRow g (setMany cur (k * 3) p.v.toList)) B (some ⟨g, 0, none⟩) c (l.set k p) := by
  obtain ⟨cur, hb, hs, hBg, hlc, hcm, hel⟩ := h.blk
  refine ⟨cur, hb, by omega, hBg, OwnP.mk' (hb.set _) (by rw [setMany_size]; exact hs) hBg (by simpa using hlc) hcm (fun i q j hi hj => ?_)⟩
  rw [setMany_at]
  by_cases e : i = k
  · subst e
    rw [List.getElem?_set_self hk] at hi
    cases hi
    rw [if_pos (by simp; omega), show i * 3 + j - i * 3 = j by omega]
    simp
  · rw [List.getElem?_set_ne (fun x => e x.symm)] at hi
    rw [if_neg (by simp; omega)]
    exact hel i q j hi hj
theorem zero3 (m : Nat) : ∀ v ∈ (Builtin.zeroCells z3 m).toList, v.oneCell' = true := by
  intro v hv
  simp only [Builtin.zeroCells, Array.toList_map, List.mem_map] at hv
  obtain ⟨i, _, rfl⟩ := hv
  have : i % 3 = 0 ∨ i % 3 = 1 ∨ i % 3 = 2 := by omega
  show (z3[i % 3]!).oneCell' = true
  rcases this with e | e | e <;> rw [e] <;> rfl
theorem zero3_len (m : Nat) : (Builtin.zeroCells z3 m).toList.length = m * 3 := by simp [Builtin.zeroCells]
/-- clear(s[k:]) of points. -/
theorem clear_pts {w : World} {B g c : Nat} {l : List Pt} (h : OwnP w B (some ⟨g, 0, none⟩) c l) (k m cc : Nat) (hm : m + k = l.length) (h0 : 0 < m) (ty : TypeId) : ∃ w', (Builtin.clear_ #[61] ty #[.slice (some ⟨g, k * 3, none⟩) m cc]).run Tryd.prog w = .ok (.tuple #[]) w' ∧ OwnP w' B (some ⟨g, 0, none⟩) c (l.take k) ∧ Below B w w' := by
  obtain ⟨cur, hb, hs, hBg, hlc, hcm, hel⟩ := h.blk
  have hst := run_storeCells_off g (k * 3) 91 (Builtin.zeroCells z3 m).toList 0 cur w hb (by rw [zero3_len]; omega) (zero3 m)
  refine ⟨_, ?_, OwnP.mk' (hb.set (setMany cur (k * 3) (Builtin.zeroCells z3 m).toList)) (by rw [setMany_size]; exact hs) hBg (by simp; omega) hcm (fun i q j hi hj => ?_), below_setRow (Below.refl _ _) hBg _⟩
  · obtain ⟨m', rfl⟩ : ∃ m', m = m' + 1 := ⟨m - 1, by omega⟩
    have hz : (zeroValue 91).run Tryd.prog w = .ok (.agg z3) w := Tryd.zeroValue91 w
    simp only [Nat.add_zero] at hst
    simp [Builtin.clear_, run_underlying Tryd.underlying61, hz, Value.cells, hst]
  · have hik : i < k := by
      have := (List.getElem?_eq_some_iff.1 hi).1
      simp at this
      omega
    rw [List.getElem?_take_of_lt hik] at hi
    rw [setMany_at, if_neg (by omega)]
    exact hel i q j hi hj
theorem wpList_clear {ops : Array Oper} {rest : List Oper} {o : Oper} {ac : Act} {Q : Exit → Act → World → Prop} {w : World} (hgd : o.guard = none) (t : TypeId) (s : Operand) (ho : o.op = .call { callee := .builtin .clear, args := #[s], argTypes := #[t] }) (v : Value) (hs : ac.eval s = v) (w' : World)
    (hrun : (Builtin.clear_ #[t] o.type #[v]).run Tryd.prog w = .ok (.tuple #[]) w') (h : wpList Tryd.prog ops Q rest (ac.put o.dst (.tuple #[])) w') : wpList Tryd.prog ops Q (o :: rest) ac w := by
  refine wpList_plain hgd fun K hK => ?_
  unfold Oper.wp execOp
  simp only [ho, resolve, invoke, builtin, Sem.run_bind, Sem.run_pure, Result.andThen_ok, List.map_toArray, List.map_cons, List.map_nil, hs, hrun]
  exact hK _ _ h
set_option maxRecDepth 100000 in
set_option maxHeartbeats 8000000 in
theorem compact_any (W : World) (B g c : Nat) (l : List Pt) (h : OwnP W B (some ⟨g, 0, none⟩) c l) (hB : B ≤ W.heap.size) (hl : l.length ≤ 1048576) :
    Calls Tryd.prog 79 #[.slice (some ⟨g, 0, none⟩) l.length c] W fun e w' => e = .returned (.slice (some ⟨g, 0, none⟩) (ddL l).length c) ∧ OwnP w' B (some ⟨g, 0, none⟩) c (ddL l) ∧ Below B W w' := by
  have HO : Hid (OwnP W B (some ⟨g, 0, none⟩) c l) := h
  have hlc : l.length ≤ c := by obtain ⟨cur, hb, hs, hBg, hlc, hcm, hel⟩ := h.blk; exact hlc
  have hcm : c ≤ 9223372036854775807 := by obtain ⟨cur, hb, hs, hBg, hlc, hcm, hel⟩ := h.blk; exact hcm
  obtain ⟨N, hN⟩ : ∃ N, l.length = N := ⟨_, rfl⟩
  have HN : Hid (l.length = N) := hN
  obtain ⟨D, hD⟩ : ∃ D, ddL l = D := ⟨_, rfl⟩
  have HD : Hid (ddN l N = D) := by show _ = _; rw [← hD, ← hN]; rfl
  rw [hN] at hl hlc ⊢
  rw [hD]
  clear h hN hD
  by_cases h2 : N < 2
  · have ED : Hid (D = l) := by
      show D = l
      rw [← HD.out]
      rcases (show N = 0 ∨ N = 1 by omega) with e | e
      · have hl0 : l = [] := List.length_eq_zero_iff.1 (by rw [HN.out, e])
        rw [e, hl0]; rfl
      · have hl1 := HN.out
        rw [e] at hl1 ⊢
        obtain ⟨p, rfl⟩ := List.length_eq_one_iff.1 hl1
        rfl
    have hi : (N : Int) < 2 := by omega
    go_enter Tryd.func79, Tryd.ntmps79
    go_wp2
    go_ret
    rw [ED.out, HN.out]
    exact ⟨rfl, HO.out, Below.refl _ _⟩
  · have hi : ¬ (N : Int) < 2 := by omega
    go_enter Tryd.func79, Tryd.ntmps79
    go_wp2
    go_loopw [3] (fun i wr => ∃ (k m : Nat), 1 ≤ k ∧ k ≤ N ∧ i = .int .i64 k ∧ wr = W.drewN m ∧ Hid (ddN l k = l.take k)) (fun i _ => N - (intOf i).toNat)
    case atStart =>
      refine ⟨1, 0, Nat.le_refl _, by omega, rfl, rfl, ?_⟩
      show ddN l 1 = l.take 1
      obtain ⟨p, hp⟩ : ∃ p, l[0]? = some p := ⟨_, List.getElem?_eq_getElem (by rw [HN.out]; omega)⟩
      exact ddN_take l (by simp [ddN]) hp (.inl rfl)
    case round =>
      obtain ⟨k, m, hk1, hk, rfl, rfl, HT⟩ := hrel
      by_cases hlt : k < N
      · have hki : (k : Int) < (N : Int) := by omega
        obtain ⟨p, hp⟩ : ∃ p, l[k]? = some p := ⟨_, List.getElem?_eq_getElem (by rw [HN.out]; omega)⟩
        obtain ⟨q, hq⟩ : ∃ q, l[k - 1]? = some q := ⟨_, List.getElem?_eq_getElem (by rw [HN.out]; omega)⟩
        obtain ⟨WW, hWW⟩ : ∃ WW, W.drewN m = WW := ⟨_, rfl⟩
        have HWW : Hid (W.drewN m = WW) := hWW
        have O1 : Hid (OwnP WW B (some ⟨g, 0, none⟩) c l) := by rw [← hWW]; exact HO.out.drewN m
        obtain ⟨p0, p1, p2⟩ := O1.out.cells hp
        obtain ⟨q0, q1, q2⟩ := O1.out.cells hq
        have hw1 : IntKind.i64.wrap ((k : Int) - 1) = ((k - 1 : Nat) : Int) := by simp [IntKind.wrap, IntKind.bits, IntKind.signed]; omega
        have hw2 : IntKind.i64.wrap ((k : Int) + 1) = ((k + 1 : Nat) : Int) := by simp [IntKind.wrap, IntKind.bits, IntKind.signed]; omega
        have HP : Hid (l[k]? = some p) := hp
        have HQ : Hid (l[k - 1]? = some q) := hq
        rw [hWW]
        clear hp hq hWW
        have hk1' : (k - 1 : Nat) < N := by omega
        by_cases hpq : p = q
        · subst hpq
          clear q0 q1 q2
          obtain ⟨q0, q1, q2⟩ := O1.out.cells HQ.out
          go_wp2
          go_quiet (fail)
          have O2 : Hid (OwnP (WW.drewN nq) B (some ⟨g, 0, none⟩) c l) := O1.out.drewN nq
          have bW : Below B W (WW.drewN nq) := by rw [← HWW.out]; exact below_drewN (below_drewN (Below.refl _ _) m) nq
          obtain ⟨W2, hW2⟩ : ∃ W2, WW.drewN nq = W2 := ⟨_, rfl⟩
          rw [hW2] at O2 bW ⊢
          clear p0 p1 p2 q0 q1 q2 hW2 O1 HWW
          have hkc : ¬ c = k := by omega
          have hkle : (k : Int) ≤ (N : Int) := by omega
          go_wp2
          go_loopw [3, 5] (fun i3 i5 wr => ∃ (kk k2 : Nat) (M : List Pt), 1 ≤ k2 ∧ k + k2 ≤ N ∧ kk + 1 ≤ k + k2 ∧ i3 = .int .i64 kk ∧ i5 = .int .i64 k2 ∧ Hid (OwnP wr B (some ⟨g, 0, none⟩) c M) ∧ Hid (M.length = N) ∧ Hid (M.take kk = ddN l (k + k2)) ∧ Hid (∀ i, k + k2 ≤ i + 1 → M[i]? = l[i]?) ∧ Below B W wr) (fun _ i5 _ => N - (intOf i5).toNat)
          case atStart =>
            refine ⟨k, 1, l, Nat.le_refl _, by omega, Nat.le_refl _, rfl, rfl, O2, HN, ?_, fun _ _ => rfl, bW⟩
            show l.take k = ddN l (k + 1)
            rw [ddN, HT.out, ddS_old HP.out (by omega) HQ.out, List.append_nil]
          case round =>
            obtain ⟨kk, k2, M, g1, g2, g3, rfl, rfl, OM, LM, TM, EM, bM⟩ := hrel
            by_cases hlt2 : k + k2 < N
            · have hk2a : (k2 : Int) < ((N - k : Nat) : Int) := by omega
              have hk2b : k2 < N - k := by omega
              have hk2c : k2 - 1 < N - k := by omega
              obtain ⟨x, hx⟩ : ∃ x, l[k + k2]? = some x := ⟨_, List.getElem?_eq_getElem (by rw [HN.out]; omega)⟩
              obtain ⟨y, hy⟩ : ∃ y, l[k + k2 - 1]? = some y := ⟨_, List.getElem?_eq_getElem (by rw [HN.out]; omega)⟩
              have HX : Hid (l[k + k2]? = some x) := hx
              have HY : Hid (l[k + k2 - 1]? = some y) := hy
              have hMx : M[k + k2]? = some x := by rw [EM.out _ (by omega)]; exact hx
              have hMy : M[k + k2 - 1]? = some y := by rw [EM.out _ (by omega)]; exact hy
              have HMX : Hid (M[k + k2]? = some x) := hMx
              have e1 : (k + k2) * 3 = k * 3 + k2 * 3 := by omega
              have e2 : (k + k2 - 1) * 3 = k * 3 + (k2 - 1) * 3 := by omega
              have X := OM.out.cells hMx
              have Y := OM.out.cells hMy
              rw [e1] at X
              rw [e2] at Y
              obtain ⟨x0, x1, x2⟩ := X
              obtain ⟨y0, y1, y2⟩ := Y
              have v1 : IntKind.i64.wrap ((k2 : Int) - 1) = ((k2 - 1 : Nat) : Int) := by simp [IntKind.wrap, IntKind.bits, IntKind.signed]; omega
              have v2 : IntKind.i64.wrap ((k2 : Int) + 1) = ((k2 + 1 : Nat) : Int) := by simp [IntKind.wrap, IntKind.bits, IntKind.signed]; omega
              have v3 : IntKind.i64.wrap ((kk : Int) + 1) = ((kk + 1 : Nat) : Int) := by simp [IntKind.wrap, IntKind.bits, IntKind.signed]; omega
              have HE1 : Hid ((k + k2) * 3 = k * 3 + k2 * 3) := e1
              clear hx hy hMx hMy e1 e2
              by_cases hxy : x = y
              · subst hxy
                go_wp2
                go_quiet (fail)
                go_wp2
                refine ⟨⟨kk, k2 + 1, M, by omega, by omega, by omega, rfl, by first | rfl | (congr 1), OM.out.drewN nq, LM, ?_, fun i hi => EM.out i (by omega), below_drewN bM nq⟩, by simp only [intOf]; omega⟩
                show M.take kk = ddN l (k + (k2 + 1))
                rw [show k + (k2 + 1) = k + k2 + 1 by omega, ddN, ddS_old HX.out (by omega) HY.out, List.append_nil]
                exact TM.out
              · obtain ⟨xa, xb, xc⟩ := x
                obtain ⟨ya, yb, yc⟩ := y
                simp only at x0 x1 x2 y0 y1 y2
                have hne := pt_ne hxy
                simp only at hne
                have hkk : kk < N := by omega
                have hkk' : (kk : Int) < (N : Int) := by omega
                rcases hne with hne | ⟨rfl, hne⟩ | ⟨rfl, rfl, hne⟩
                all_goals (
                  go_wp2
                  go_quiet (fail)
                  have O3 : Hid (OwnP (wr.drewN nq) B (some ⟨g, 0, none⟩) c M) := OM.out.drewN nq
                  have b3 : Below B W (wr.drewN nq) := below_drewN bM nq
                  obtain ⟨W3, hW3⟩ : ∃ W3, wr.drewN nq = W3 := ⟨_, rfl⟩
                  rw [hW3] at O3 b3 ⊢
                  clear x0 x1 x2 y0 y1 y2 hW3
                  have X := O3.out.cells HMX.out
                  rw [HE1.out] at X
                  obtain ⟨x0, x1, x2⟩ := X
                  obtain ⟨cur, hb, hsz, hBg, O4⟩ := O3.out.put kk ⟨xa, xb, xc⟩ (by rw [LM.out]; omega)
                  have HO4 : Hid (OwnP (W3.setRow g (setMany cur (kk * 3) (Pt.v ⟨xa, xb, xc⟩).toList)) B (some ⟨g, 0, none⟩) c (M.set kk ⟨xa, xb, xc⟩)) := O4
                  have HBg : Hid (B ≤ g) := hBg
                  have hsz' : kk * 3 + (Pt.v ⟨xa, xb, xc⟩).size ≤ cur.size := hsz
                  clear O4
                  go_wp2_with (refine wpList_store_off rfl 91 _ _ rfl g (kk * 3) 91 (Pt.v ⟨xa, xb, xc⟩) cur _ (by rfl) (by rfl) hb (by kernel_rfl) hsz' (by kernel_rfl) rfl ?_)
                  refine ⟨⟨kk + 1, k2 + 1, M.set kk ⟨xa, xb, xc⟩, by omega, by omega, by omega, by first | rfl | (congr 1), by first | rfl | (congr 1), HO4, by show _ = _; rw [List.length_set]; exact LM.out, ?_, fun i hi => ?_, below_setRow b3 HBg.out _⟩, by simp only [intOf]; omega⟩
                  · show (M.set kk ⟨xa, xb, xc⟩).take (kk + 1) = ddN l (k + (k2 + 1))
                    rw [show k + (k2 + 1) = k + k2 + 1 by omega, ddN, ddS_new HX.out (.inr (by rw [HY.out]; intro e; cases e; simp at hne)), ← TM.out, List.take_add_one, List.take_set_of_le (Nat.le_refl _), List.getElem?_set_self (by rw [LM.out]; omega)]
                    rfl
                  · rw [List.getElem?_set_ne (by omega)]
                    exact EM.out i (by omega))
            · have hend : k + k2 = N := by omega
              have hk2a : ¬ (k2 : Int) < ((N - k : Nat) : Int) := by omega
              have hk2b : k2 = N - k := by omega
              have hkkc : ¬ c = kk := by omega
              have hkkN : kk ≤ N := by omega
              have hkkI : (kk : Int) ≤ (N : Int) := by omega
              have hkkI2 : (kk : Int) ≤ (c : Int) := by omega
              have ED : Hid (M.take kk = D) := by show _ = _; rw [TM.out, hend, HD.out]
              obtain ⟨W4, hcl, O4, b4⟩ := clear_pts OM.out kk (N - kk) (c - kk) (by rw [LM.out]; omega) (by omega) 0
              have HO4 : Hid (OwnP W4 B (some ⟨g, 0, none⟩) c (M.take kk)) := O4
              have HLD : Hid (D.length = kk) := by show _ = _; rw [← ED.out, List.length_take, LM.out]; omega
              have HBD : Hid (Below B W W4) := bM.trans b4
              clear O4
              go_wp2_with (at_builtin; refine wpList_clear rfl 61 _ rfl _ (by rfl) W4 hcl ?_)
              go_ret
              rw [HLD.out, ← ED.out]
              exact ⟨rfl, HO4.out, HBD.out⟩
        · obtain ⟨a, b, d⟩ := p
          obtain ⟨a', b', d'⟩ := q
          simp only at p0 p1 p2 q0 q1 q2
          have hne := pt_ne hpq
          simp only at hne
          rcases hne with hne | ⟨rfl, hne⟩ | ⟨rfl, rfl, hne⟩
          all_goals (
            go_wp2
            go_quiet (fail)
            go_wp2
            refine ⟨⟨k + 1, m + nq, by omega, by omega, by first | rfl | (congr 1), by rw [← HWW.out]; exact drewN_add W m nq, ddN_take l HT.out HP.out (.inr (by rw [HQ.out]; intro e; cases e; simp at hne))⟩, by simp only [intOf]; omega⟩)
      · have hkN : k = N := by omega
        subst hkN
        have ED : Hid (D = l) := by
          show D = l
          rw [← HD.out, HT.out, ← HN.out, List.take_length]
        have O1 : Hid (OwnP (W.drewN m) B (some ⟨g, 0, none⟩) c l) := HO.out.drewN m
        go_wp2
        go_ret
        rw [ED.out, HN.out]
        exact ⟨rfl, O1.out, below_drewN (Below.refl _ _) m⟩
end Go.Proofs.YtcoldgpnkdallaaDoor
