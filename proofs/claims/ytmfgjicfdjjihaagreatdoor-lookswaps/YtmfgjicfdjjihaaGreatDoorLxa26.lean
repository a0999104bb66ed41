/- Texts joined: CmP CmS -/
import Derived.Test.YtmfgjicfdjjihaaGreatDoorLxa24
namespace Go.Proofs.YtmfgjicfdjjihaaGreatDoor
abbrev lxa26o0 : Oper := { dst := some 4, op := Op.assign (.tmp 45), type := 61, pos := "ref.go:94", after := #[{ on := 7, ground := Ground.data }, { on := 7, ground := Ground.chain }, { on := 0, ground := Ground.phase }, { on := 1, ground := Ground.phase }, { on := 2, ground := Ground.phase }, { on := 3, ground := Ground.phase }, { on := 4, ground := Ground.phase }, { on := 5, ground := Ground.phase }, { on := 6, ground := Ground.phase }, { on := 7, ground := Ground.phase }], guard := none }
abbrev lxa26o1 : Oper := { dst := some 17, op := Op.call { callee := Callee.value (.func 54), args := #[.tmp 15, .tmp 16], argTypes := #[86, 86] }, type := 4, pos := "ref.go:87", after := #[{ on := 8, ground := Ground.data }, { on := 9, ground := Ground.data }, { on := 4, ground := Ground.chain }, { on := 4, ground := Ground.guard }], guard := some (4, true) }
abbrev lxa26o2 : Oper := { dst := some 45, op := Op.call { callee := Callee.builtin Builtin.append, args := #[.tmp 41, .tmp 44], argTypes := #[61, 61] }, type := 61, pos := "ref.go:94", after := #[{ on := 3, ground := Ground.data }, { on := 6, ground := Ground.data }, { on := 3, ground := Ground.chain }], guard := none }
abbrev lxa26o3 : Oper := { dst := some 41, op := Op.call { callee := Callee.builtin Builtin.append, args := #[.tmp 38, .tmp 40], argTypes := #[61, 61] }, type := 61, pos := "ref.go:94", after := #[{ on := 0, ground := Ground.data }, { on := 2, ground := Ground.data }], guard := none }
abbrev lxa26o4 : Oper := { dst := some 14, op := Op.indexAddr 61 (.tmp 12) (.tmp 13), type := 0, pos := "ref.go:87", after := #[{ on := 5, ground := Ground.data }, { on := 6, ground := Ground.data }, { on := 4, ground := Ground.guard }], guard := some (4, true) }
abbrev lxa26o5 : Oper := { dst := some 44, op := Op.slice 61 (.tmp 42) (some (.tmp 43)) none none, type := 61, pos := "ref.go:94", after := #[{ on := 4, ground := Ground.data }, { on := 5, ground := Ground.data }], guard := none }
abbrev lxa26o6 : Oper := { dst := some 9, op := Op.call { callee := Callee.builtin Builtin.len, args := #[.tmp 8], argTypes := #[61] }, type := 3, pos := "ref.go:87", after := #[{ on := 1, ground := Ground.data }], guard := none }
abbrev lxa26o7 : Oper := { dst := some 10, op := Op.binOp BinOp.lss 3 (.tmp 7) (.tmp 9) 3, type := 4, pos := "ref.go:87", after := #[{ on := 0, ground := Ground.data }, { on := 2, ground := Ground.data }], guard := none }
abbrev lxa26o8 : Oper := { dst := some 18, op := Op.pick (.tmp 11) (.tmp 17) (.const (.bool false)), type := 4, pos := "ref.go:87", after := #[{ on := 4, ground := Ground.data }, { on := 10, ground := Ground.data }], guard := none }
abbrev lxa26o9 : Oper := { dst := some 15, op := Op.load 86 (.tmp 14), type := 86, pos := "ref.go:87", after := #[{ on := 7, ground := Ground.data }, { on := 4, ground := Ground.guard }], guard := some (4, true) }
abbrev lxa26o10 : Oper := { dst := some 40, op := Op.buildSlice 61 1 #[(0, .tmp 39)], type := 61, pos := "ref.go:94", after := #[{ on := 1, ground := Ground.data }], guard := none }
abbrev lxa26o11 : Oper := { dst := some 16, op := Op.load 86 (.tmp 3), type := 86, pos := "ref.go:87", after := #[{ on := 4, ground := Ground.guard }], guard := some (4, true) }
abbrev lxa26o12 : Oper := { dst := some 12, op := Op.move (.tmp 0), type := 61, pos := "ref.go:87", after := #[{ on := 4, ground := Ground.guard }], guard := some (4, true) }
abbrev lxa26o13 : Oper := { dst := some 13, op := Op.move (.tmp 5), type := 3, pos := "ref.go:87", after := #[{ on := 4, ground := Ground.guard }], guard := some (4, true) }
abbrev lxa26o14 : Oper := { dst := some 11, op := Op.move (.tmp 10), type := 4, pos := "ref.go:87", after := #[{ on := 3, ground := Ground.data }], guard := none }
abbrev lxa26o15 : Oper := { dst := some 39, op := Op.load 86 (.tmp 3), type := 86, pos := "ref.go:94", after := #[], guard := none }
abbrev lxa26o16 : Oper := { dst := some 38, op := Op.move (.tmp 6), type := 61, pos := "ref.go:94", after := #[], guard := none }
abbrev lxa26o17 : Oper := { dst := some 42, op := Op.move (.tmp 0), type := 61, pos := "ref.go:94", after := #[], guard := none }
abbrev lxa26o18 : Oper := { dst := some 8, op := Op.move (.tmp 0), type := 61, pos := "ref.go:87", after := #[], guard := none }
abbrev lxa26o19 : Oper := { dst := some 43, op := Op.move (.tmp 5), type := 3, pos := "ref.go:94", after := #[], guard := none }
abbrev lxa26o20 : Oper := { dst := some 7, op := Op.move (.tmp 5), type := 3, pos := "ref.go:87", after := #[], guard := none }
end Go.Proofs.YtmfgjicfdjjihaaGreatDoor
namespace Go.Proofs.YtmfgjicfdjjihaaGreatDoor
open Go.RowKit
set_option linter.unusedVariables false
set_option linter.unusedSimpArgs false
theorem rowp_one (w W : World) (p : Pt) (t : TypeId) (h : w.alloc (.cells p.v t) = W) (hp : p.ok) : RowP W (some ⟨w.heap.size, 0, none⟩) [p] := by
 have B := blk_nw h
 refine ⟨fun r hr => ?_, fun i r hr => ?_⟩
 ·simp only [List.mem_cons, List.not_mem_nil, or_false] at hr
  rw [hr]
  exact hp
 ·have hi : i = 0 := by
   have := (List.getElem?_eq_some_iff.1 hr).1
   simp at this
   omega
  subst hi
  simp only [List.getElem?_cons_zero, Option.some.injEq] at hr
  subst hr
  exact ⟨w.heap.size, 0, rfl, B.lt, fun j v hj => by
   rw [Nat.zero_mul, Nat.add_zero, Nat.zero_add]
   exact B.cell j v hj⟩
set_option maxRecDepth 100000 in
set_option maxHeartbeats 16000000 in
theorem radd_any (B g c : Nat) (L : List Pt) (p : Pt) (w : World) (hB : B ≤ w.heap.size) (h : OwnP w B (some ⟨g, 0, none⟩) c L) (hok : ∀ q ∈ L, q.ok) (hp : p.ok) (hl : L.length ≤ 1000) (h0 : 0 < L.length) :
  Calls Tryz.prog 73 #[.slice (some ⟨g, 0, none⟩) L.length c, .agg p.v] w fun e w' => ∃ g' c', e = .returned (.slice (some ⟨g', 0, none⟩) (insP L p).length c') ∧ OwnP w' B (some ⟨g', 0, none⟩) c' (insP L p) ∧ Below w.heap.size w w' := by
 have HPO : Hid p.ok := hp
 have HB : Hid (B ≤ w.heap.size) := hB
 have HOW : Hid (OwnP w B (some ⟨g, 0, none⟩) c L) := h
 have HR : Hid (∀ W, Below w.heap.size w W → RowP W (some ⟨g, 0, none⟩) L) := fun W hb => (h.row hok).low hb
 have hNc : L.length ≤ c := by obtain ⟨_, _, _, _, h4, _⟩ := h.blk; exact h4
 obtain ⟨W1, hW1⟩ : ∃ W1, w.alloc (.cells p.v 86) = W1 := ⟨_, rfl⟩
 have b1 := bel_nw hW1
 have HBP : Hid (Blk W1 w.heap.size 86 p.v) := blk_nw hW1
 obtain ⟨N, hN⟩ : ∃ N, L.length = N := ⟨_, rfl⟩
 have HN : Hid (L.length = N) := hN
 have HN0 : Hid (0 < N) := by show 0 < N; omega
 rw [hN] at hl hNc ⊢
 have H1 : Hid (Below w.heap.size w W1) := b1
 obtain ⟨pa, pb, pc⟩ := p
 have HT : Hid (∀ W, Below W1.heap.size W1 W → W.cell? ⟨w.heap.size, 0, none⟩ = some (.int .u64 pa) ∧ W.cell? ⟨w.heap.size, 1, none⟩ = some (.int .u64 pb) ∧ W.cell? ⟨w.heap.size, 2, none⟩ = some (.int .u64 pc)) := fun W hb => ⟨kept hb (HBP.out.cell 0 _ rfl), kept hb (HBP.out.cell 1 _ rfl), kept hb (HBP.out.cell 2 _ rfl)⟩
 clear h hp hN h0 b1 hB
 try simp only at hW1
 go_enter Tryz.func73, Tryz.ntmps73
 go_wp2_with fail
 clear hW1
 go_loopw [5] (fun i wr => ∃ (k : Nat), k ≤ N ∧ i = .int .i64 k ∧ Below W1.heap.size W1 wr ∧ Hid (∀ (j : Nat) (q : Pt), j < k → L[j]? = some q → q.less ⟨pa, pb, pc⟩ = true)) (fun i _ => N - (intOf i).toNat)
 case atStart => exact ⟨0, Nat.zero_le _, rfl, Below.refl _ _, fun j q hj => by omega⟩
 case round =>
  obtain ⟨k, hk, rfl, qb, qe⟩ := hrel
  by_cases hlt : k < N
  ·have ik : (k : Int) < (N : Int) := by omega
   obtain ⟨q, hq⟩ : ∃ q, L[k]? = some q := ⟨_, List.getElem?_eq_getElem (by rw [HN.out]; exact hlt)⟩
   have HQ : Hid (L[k]? = some q) := hq
   obtain ⟨t0, t1, t2⟩ := HT.out wr qb
   obtain ⟨b, off, ha, q0, q1, q2⟩ := (HR.out wr (bel_tr H1.out qb)).at_ hq
   cases ha
   simp only [Nat.zero_add] at q0 q1 q2
   have KD : Hid _ := less_ck q ⟨pa, pb, pc⟩ wr.drew
   obtain ⟨R, hR⟩ : ∃ R, q.less ⟨pa, pb, pc⟩ = R := ⟨_, rfl⟩
   rw [hR] at KD
   have HR2 : Hid (q.less ⟨pa, pb, pc⟩ = R) := hR
   have hw2 : IntKind.i64.wrap ((k : Int) + 1) = ((k + 1 : Nat) : Int) := by simp [IntKind.wrap, IntKind.bits, IntKind.signed]; omega
   clear hR hq
   obtain ⟨ua, ub, uc⟩ := q
   simp only at q0 q1 q2
   go_wp2
   refine wp_region_noPanic ?_
   refine wp_region_held_drew (S := fun w'' => w''.cell? ⟨w.heap.size, 0, none⟩ = some (.int .u64 pa) ∧ w''.cell? ⟨w.heap.size, 1, none⟩ = some (.int .u64 pb) ∧ w''.cell? ⟨w.heap.size, 2, none⟩ = some (.int .u64 pc) ∧ w''.cell? ⟨g, k * 3, none⟩ = some (.int .u64 ua) ∧ w''.cell? ⟨g, k * 3 + 1, none⟩ = some (.int .u64 ub) ∧ w''.cell? ⟨g, k * 3 + 2, none⟩ = some (.int .u64 uc)) (by kernel_rfl) (by exact ⟨kept (below_drew wr) t0, kept (below_drew wr) t1, kept (below_drew wr) t2, kept (below_drew wr) q0, kept (below_drew wr) q1, kept (below_drew wr) q2⟩) (fun hHeld => ?_)
   refine qtk (i := 0) (oi := lxa26o20) (v := (.int .i64 (k : Int))) hHeld ?_ ?_
   ·intro w9 hSw
    try dsimp only at hSw
    go_simp
   try simp only [qpu]
   refine qtk (i := 1) (oi := lxa26o18) (v := (.slice (some ⟨g, 0, none⟩) N c)) hHeld ?_ ?_
   ·intro w9 hSw
    try dsimp only at hSw
    go_simp
   try simp only [qpu]
   refine qtk (i := 2) (oi := lxa26o6) (v := (.int .i64 (N : Int))) hHeld ?_ ?_
   ·intro w9 hSw
    try dsimp only at hSw
    go_simp
   try simp only [qpu]
   refine qtk (i := 3) (oi := lxa26o7) (v := (.bool true)) hHeld ?_ ?_
   ·intro w9 hSw
    try dsimp only at hSw
    go_simp
   try simp only [qpu]
   refine qtk (i := 4) (oi := lxa26o14) (v := (.bool true)) hHeld ?_ ?_
   ·intro w9 hSw
    try dsimp only at hSw
    go_simp
   try simp only [qpu]
   refine qtk (i := 5) (oi := lxa26o12) (v := (.slice (some ⟨g, 0, none⟩) N c)) hHeld ?_ ?_
   ·intro w9 hSw
    try dsimp only at hSw
    go_simp
   try simp only [qpu]
   refine qtk (i := 6) (oi := lxa26o13) (v := (.int .i64 (k : Int))) hHeld ?_ ?_
   ·intro w9 hSw
    try dsimp only at hSw
    go_simp
   try simp only [qpu]
   refine qtk (i := 7) (oi := lxa26o4) (v := (.pointer (some ⟨g, k * 3, none⟩))) hHeld ?_ ?_
   ·intro w9 hSw
    try dsimp only at hSw
    go_simp
   try simp only [qpu]
   refine qtk (i := 8) (oi := lxa26o9) (v := (.agg #[.int .u64 ua, .int .u64 ub, .int .u64 uc])) hHeld ?_ ?_
   ·intro w9 hSw
    try dsimp only at hSw
    go_simp
   try simp only [qpu]
   refine qtk (i := 9) (oi := lxa26o11) (v := (.agg #[.int .u64 pa, .int .u64 pb, .int .u64 pc])) hHeld ?_ ?_
   ·intro w9 hSw
    try dsimp only at hSw
    go_simp
   try simp only [qpu]
   refine wpAnyH_ready (rs := [10]) (by kernel_rfl) (by simp) ?_
   refine AllReadyH.cons (o := lxa26o1) rfl (fun K hK => ?_) AllReadyH.nil
   go_simp
   refine Calls.mono KD.out ?_
   rintro e W4 ⟨rfl, bb⟩
   have qb4 := bel_tr qb.drew bb
   refine hK.out _ _ ?_ (fun hHeld => ?_)
   ·exact ⟨kept bb (kept (below_drew wr) t0), kept bb (kept (below_drew wr) t1), kept bb (kept (below_drew wr) t2), kept bb (kept (below_drew wr) q0), kept bb (kept (below_drew wr) q1), kept bb (kept (below_drew wr) q2)⟩
   clear hK K
   try simp only [qpu]
   refine qtk (i := 11) (oi := lxa26o8) (v := (.bool R)) hHeld ?_ ?_
   ·intro w9 hSw
    try dsimp only at hSw
    go_simp
   try simp only [qpu]
   refine wpAnyH_done (by kernel_rfl) ?_ _
   refine NoPanic.normal ?_
   clear t0 t1 t2 q0 q1 q2 KD bb
   cases R
   ·have HNL : Hid (∀ x, L[k]? = some x → x.less ⟨pa, pb, pc⟩ = false) := fun x hx => by rw [HQ.out] at hx; cases hx; exact HR2.out
    have HIN0 : Hid _ := insP_at k L ⟨pa, pb, pc⟩ (by rw [HN.out]; exact hk) qe.out HNL.out
    obtain ⟨t0, t1, t2⟩ := HT.out W4 qb4
    obtain ⟨b, off, ha, q0, q1, q2⟩ := (HR.out W4 (bel_tr H1.out qb4)).at_ HQ.out
    cases ha
    simp only [Nat.zero_add] at q0 q1 q2
    have ba := bel_tr H1.out qb4
    by_cases hqp : (⟨ua, ub, uc⟩ : Pt) = ⟨pa, pb, pc⟩
    ·have HIN : Hid (insP L ⟨pa, pb, pc⟩ = L) := by
      have h1 := HIN0.out
      rw [if_pos (by rw [HQ.out, hqp])] at h1
      exact h1
     simp only [Pt.mk.injEq] at hqp
     obtain ⟨rfl, rfl, rfl⟩ := hqp
     go_wp2
     go_quiet (fail)
     have HO : Hid (OwnP (W4.drewN nq) B (some ⟨g, 0, none⟩) c L) := HOW.out.below (below_drewN ba nq)
     have bq := below_drewN ba nq
     go_wp2
     go_ret
     refine ⟨g, c, ?_, ?_, bq⟩
     ·rw [HIN.out, HN.out]
      rfl
     ·rw [HIN.out]; exact HO.out
    ·have HIN : Hid (insP L ⟨pa, pb, pc⟩ = L.take k ++ ⟨pa, pb, pc⟩ :: L.drop k) := by
      have h1 := HIN0.out
      rw [if_neg (by rw [HQ.out]; intro e; exact hqp (Option.some.inj e))] at h1
      exact h1
     have hne := pt_ne hqp
     simp only at hne
     clear hqp
     rcases hne with hne | ⟨e1, hne⟩ | ⟨e1, e2, hne⟩
     all_goals (
      try (replace e1 := e1.symm; subst e1)
      try (replace e2 := e2.symm; subst e2)
      go_wp2
      go_quiet (fail)
      have bq := below_drewN ba nq
      have qn : Below W1.heap.size W1 (W4.drewN nq) := below_drewN qb4 nq
      clear t0 t1 t2 q0 q1 q2 ba qb4
      obtain ⟨Wa, hWa⟩ : ∃ Wa, W4.drewN nq = Wa := ⟨_, rfl⟩
      rw [hWa] at bq qn ⊢
      clear hWa
      have ba := bq
      obtain ⟨t0, t1, t2⟩ := HT.out Wa qn
      have HRW : Hid (RowP Wa (some ⟨g, 0, none⟩) L) := HR.out Wa ba
      clear bq qn
      obtain ⟨a3, c3, X1, hr1, O3, h1⟩ := run_appPs Wa 61 Wa.heap.size none 0 [] (World.ownsRow_nil _ _ _ _) (some ⟨g, 0, none⟩) c (L.take k) (HRW.out.take k) (by intro h; cases h) (by simp only [List.length_nil, List.length_take]; have := HN.out; omega) (Nat.le_refl _)
      rw [List.nil_append, List.length_take, List.length_nil, HN.out, Nat.min_eq_left hk] at hr1
      rw [List.nil_append] at O3
      obtain ⟨X, hX⟩ : ∃ X, (if c = k then some (⟨g, 0, none⟩ : Addr) else some ⟨g, k * 3, none⟩) = X := ⟨_, rfl⟩
      obtain ⟨X2, hX2⟩ : ∃ X2, X1.drew.alloc (.cells #[.int .u64 pa, .int .u64 pb, .int .u64 pc] 86) = X2 := ⟨_, rfl⟩
      have h1d : Below Wa.heap.size Wa X1.drew := h1.drew
      have h2 : Below Wa.heap.size Wa X2 := bel_al h1d hX2
      have O3' : OwnP X2 Wa.heap.size a3 c3 (L.take k) := (O3.below (below_drew X1)).below (bel_nw hX2)
      have HPR : RowP X2 (some ⟨X1.drew.heap.size, 0, none⟩) [⟨pa, pb, pc⟩] := rowp_one X1.drew X2 ⟨pa, pb, pc⟩ _ hX2 HPO.out
      obtain ⟨a4, c4, X3, hr2, O4, h23⟩ := run_appPs X2 61 Wa.heap.size a3 c3 (L.take k) O3' (some ⟨X1.drew.heap.size, 0, none⟩) 1 [⟨pa, pb, pc⟩] HPR (by intro h; cases h) (by simp only [List.length_cons, List.length_nil, List.length_take]; have := HN.out; omega) h2.size
      have h3 : Below Wa.heap.size Wa X3 := h2.trans h23
      have HRX : RowP X3 X (L.drop k) := by rw [← hX]; exact (HRW.out.drop k c (by rw [HN.out]; exact hNc)).low h3
      obtain ⟨a5, c5, X4, hr3, O5, h34⟩ := run_appPs X3 61 Wa.heap.size a4 c4 (L.take k ++ [⟨pa, pb, pc⟩]) O4 X (c - k) (L.drop k) HRX (by intro h; rw [h] at hX; split at hX <;> cases hX) (by simp only [List.length_append, List.length_cons, List.length_nil, List.length_take, List.length_drop]; have := HN.out; omega) h3.size
      have h4 : Below Wa.heap.size Wa X4 := h3.trans h34
      have e5 : (L.take k ++ [⟨pa, pb, pc⟩]) ++ L.drop k = insP L ⟨pa, pb, pc⟩ := by rw [HIN.out]; simp
      rw [e5] at hr3 O5
      have hl4 : (L.take k ++ [(⟨pa, pb, pc⟩ : Pt)]).length = k + 1 := by rw [List.length_append, List.length_take, HN.out, Nat.min_eq_left hk]; rfl
      rw [hl4] at hr2 hr3
      rw [List.length_take, HN.out, Nat.min_eq_left hk] at hr2
      rw [List.length_drop, HN.out] at hr3
      simp only [List.length_cons, List.length_nil, Nat.zero_add] at hr2
      obtain ⟨n5, hn5⟩ : ∃ n5, (insP L ⟨pa, pb, pc⟩).length = n5 := ⟨_, rfl⟩
      have HN5 : Hid ((insP L ⟨pa, pb, pc⟩).length = n5) := hn5
      rw [hn5] at hr3
      obtain ⟨g5, e6⟩ := O5.at0 (by have h7 := (insP_len L ⟨pa, pb, pc⟩).2; have h8 := HN.out; have h9 := HN0.out; omega)
      have HO5 : Hid (OwnP X4 B (some ⟨g5, 0, none⟩) c5 (insP L ⟨pa, pb, pc⟩)) := by rw [e6] at O5; exact O5.base (Nat.le_trans HB.out ba.size)
      have HE6 : Hid (a5 = some ⟨g5, 0, none⟩) := e6
      have b4 := bel_tr ba h4
      have H1 : Hid (Below Wa.heap.size Wa X1) := h1
      have H1d : Hid (Below Wa.heap.size Wa X1.drew) := h1d
      have H2 : Hid (Below Wa.heap.size Wa X2) := h2
      have H3 : Hid (Below Wa.heap.size Wa X3) := h3
      have H4 : Hid (Below Wa.heap.size Wa X4) := h4
      clear O3 O3' HPR O4 HRX O5 e5 hl4 hn5 e6 h23 h34 h1 h1d h2 h3 h4
      go_wp2_with (refine wpList_runA rfl 61 _ _ rfl _ _ (by rfl) (by rfl) _ _ hr1 ?_)
      clear hr1
      refine wp_region_noPanic ?_
      refine wp_region_held_drew (S := fun w'' => w''.cell? ⟨w.heap.size, 0, none⟩ = some (.int .u64 pa) ∧ w''.cell? ⟨w.heap.size, 1, none⟩ = some (.int .u64 pb) ∧ w''.cell? ⟨w.heap.size, 2, none⟩ = some (.int .u64 pc)) (by kernel_rfl) (by exact ⟨kept H1d.out t0, kept H1d.out t1, kept H1d.out t2⟩) (fun hHeld => ?_)
      refine qtk (i := 0) (oi := lxa26o16) (v := (.slice a3 k c3)) hHeld ?_ ?_
      ·intro w9 hSw
       try dsimp only at hSw
       go_simp
      try simp only [qpu]
      refine qtk (i := 1) (oi := lxa26o15) (v := (.agg #[.int .u64 pa, .int .u64 pb, .int .u64 pc])) hHeld ?_ ?_
      ·intro w9 hSw
       try dsimp only at hSw
       go_simp
      try simp only [qpu]
      refine qtk (i := 4) (oi := lxa26o17) (v := (.slice (some ⟨g, 0, none⟩) N c)) hHeld ?_ ?_
      ·intro w9 hSw
       try dsimp only at hSw
       go_simp
      try simp only [qpu]
      refine qtk (i := 5) (oi := lxa26o19) (v := (.int .i64 (k : Int))) hHeld ?_ ?_
      ·intro w9 hSw
       try dsimp only at hSw
       go_simp
      try simp only [qpu]
      refine qtk (i := 6) (oi := lxa26o5) (v := (.slice X (N - k) (c - k))) hHeld ?_ ?_
      ·intro w9 hSw
       try dsimp only at hSw
       go_simp
       try (first | exact hX | (rw [← hX]; split <;> rfl))
      try simp only [qpu]
      refine wpAnyH_ready (rs := [2]) (by kernel_rfl) (by simp) ?_
      refine AllReadyH.cons (o := lxa26o10) rfl (fun K hK => ?_) AllReadyH.nil
      go_simp
      try rw [hX2]
      refine hK.out _ _ ?_ (fun hHeld => ?_)
      ·exact ⟨kept H2.out t0, kept H2.out t1, kept H2.out t2⟩
      clear hK K
      try simp only [qpu]
      refine wpAnyH_ready (rs := [3]) (by kernel_rfl) (by simp) ?_
      refine AllReadyH.cons (o := lxa26o3) rfl (fun K hK => ?_) AllReadyH.nil
      refine step_runA rfl 61 _ _ rfl _ _ (by rfl) (by rfl) _ _ hr2 ?_
      refine hK.out _ _ ?_ (fun hHeld => ?_)
      ·exact ⟨kept H3.out t0, kept H3.out t1, kept H3.out t2⟩
      clear hK K
      try simp only [qpu]
      refine wpAnyH_ready (rs := [7]) (by kernel_rfl) (by simp) ?_
      refine AllReadyH.cons (o := lxa26o2) rfl (fun K hK => ?_) AllReadyH.nil
      refine step_runA rfl 61 _ _ rfl _ _ (by rfl) (by rfl) _ _ hr3 ?_
      refine hK.out _ _ ?_ (fun hHeld => ?_)
      ·exact ⟨kept H4.out t0, kept H4.out t1, kept H4.out t2⟩
      clear hK K
      try simp only [qpu]
      refine qtk (i := 8) (oi := lxa26o0) (v := (.slice a5 n5 c5)) hHeld ?_ ?_
      ·intro w9 hSw
       try dsimp only at hSw
       go_simp
      try simp only [qpu]
      refine wpAnyH_done (by kernel_rfl) ?_ _
      refine NoPanic.normal ?_
      go_wp2
      go_ret
      refine ⟨g5, c5, ?_, HO5.out, b4⟩
      rw [HN5.out, HE6.out]
      rfl)
   ·have HC : Hid (∀ (j : Nat) (x : Pt), j < k + 1 → L[j]? = some x → x.less ⟨pa, pb, pc⟩ = true) := fun j x hj hx => by
     by_cases e : j = k
     ·subst e
      rw [HQ.out] at hx
      cases hx
      exact HR2.out
     ·exact qe.out j x (by omega) hx
    clear qe
    go_wp2
    exact ⟨⟨k + 1, by omega, by first | rfl | (congr 1), qb4, HC⟩, by simp only [intOf]; omega⟩
  ·have hkN : k = N := by omega
   subst hkN
   have HIN : Hid (insP L ⟨pa, pb, pc⟩ = L.take k ++ ⟨pa, pb, pc⟩ :: L.drop k) := by
    have h1 := insP_at k L ⟨pa, pb, pc⟩ (by rw [HN.out]; exact hk) qe.out (fun q hq => by have := (List.getElem?_eq_some_iff.1 hq).1; have := HN.out; omega)
    rw [if_neg (by rw [List.getElem?_eq_none (by have := HN.out; omega)]; simp)] at h1
    exact h1
   clear qe
   go_wp2
   refine wp_region_noPanic ?_
   refine wp_region_held_drew (S := fun w'' => True) (by kernel_rfl) trivial (fun hHeld => ?_)
   refine qtk (i := 0) (oi := lxa26o20) (v := (.int .i64 (k : Int))) hHeld ?_ ?_
   ·intro w9 hSw
    try dsimp only at hSw
    go_simp
   try simp only [qpu]
   refine qtk (i := 1) (oi := lxa26o18) (v := (.slice (some ⟨g, 0, none⟩) k c)) hHeld ?_ ?_
   ·intro w9 hSw
    try dsimp only at hSw
    go_simp
   try simp only [qpu]
   refine qtk (i := 2) (oi := lxa26o6) (v := (.int .i64 (k : Int))) hHeld ?_ ?_
   ·intro w9 hSw
    try dsimp only at hSw
    go_simp
   try simp only [qpu]
   refine qtk (i := 3) (oi := lxa26o7) (v := (.bool false)) hHeld ?_ ?_
   ·intro w9 hSw
    try dsimp only at hSw
    go_simp
   try simp only [qpu]
   refine qtk (i := 4) (oi := lxa26o14) (v := (.bool false)) hHeld ?_ ?_
   ·intro w9 hSw
    try dsimp only at hSw
    go_simp
   try simp only [qpu]
   refine qtn (i := 5) (oi := lxa26o12) hHeld ?_
   try simp only [qpu]
   refine qtn (i := 6) (oi := lxa26o13) hHeld ?_
   try simp only [qpu]
   refine qtn (i := 7) (oi := lxa26o4) hHeld ?_
   try simp only [qpu]
   refine qtn (i := 8) (oi := lxa26o9) hHeld ?_
   try simp only [qpu]
   refine qtn (i := 9) (oi := lxa26o11) hHeld ?_
   try simp only [qpu]
   refine qtn (i := 10) (oi := lxa26o1) hHeld ?_
   try simp only [qpu]
   refine qtk (i := 11) (oi := lxa26o8) (v := (.bool false)) hHeld ?_ ?_
   ·intro w9 hSw
    try dsimp only at hSw
    go_simp
   try simp only [qpu]
   refine wpAnyH_done (by kernel_rfl) ?_ _
   refine NoPanic.normal ?_
   have qbd := qb.drew
   have hk0 : 0 < k := HN0.out
   go_wp2
   go_quiet (fail)
   have qn : Below W1.heap.size W1 (wr.drew.drewN nq) := below_drewN qbd nq
   clear qbd qb
   obtain ⟨Wa, hWa⟩ : ∃ Wa, wr.drew.drewN nq = Wa := ⟨_, rfl⟩
   rw [hWa] at qn ⊢
   clear hWa
   have ba := bel_tr H1.out qn
   obtain ⟨t0, t1, t2⟩ := HT.out Wa qn
   have HRW : Hid (RowP Wa (some ⟨g, 0, none⟩) L) := HR.out Wa ba
   clear qn
   obtain ⟨a3, c3, X1, hr1, O3, h1⟩ := run_appPs Wa 61 Wa.heap.size none 0 [] (World.ownsRow_nil _ _ _ _) (some ⟨g, 0, none⟩) c (L.take k) (HRW.out.take k) (by intro h; cases h) (by simp only [List.length_nil, List.length_take]; have := HN.out; omega) (Nat.le_refl _)
   rw [List.nil_append, List.length_take, List.length_nil, HN.out, Nat.min_eq_left hk] at hr1
   rw [List.nil_append] at O3
   obtain ⟨X, hX⟩ : ∃ X, (if c = k then some (⟨g, 0, none⟩ : Addr) else some ⟨g, k * 3, none⟩) = X := ⟨_, rfl⟩
   obtain ⟨X2, hX2⟩ : ∃ X2, X1.drew.alloc (.cells #[.int .u64 pa, .int .u64 pb, .int .u64 pc] 86) = X2 := ⟨_, rfl⟩
   have h1d : Below Wa.heap.size Wa X1.drew := h1.drew
   have h2 : Below Wa.heap.size Wa X2 := bel_al h1d hX2
   have O3' : OwnP X2 Wa.heap.size a3 c3 (L.take k) := (O3.below (below_drew X1)).below (bel_nw hX2)
   have HPR : RowP X2 (some ⟨X1.drew.heap.size, 0, none⟩) [⟨pa, pb, pc⟩] := rowp_one X1.drew X2 ⟨pa, pb, pc⟩ _ hX2 HPO.out
   obtain ⟨a4, c4, X3, hr2, O4, h23⟩ := run_appPs X2 61 Wa.heap.size a3 c3 (L.take k) O3' (some ⟨X1.drew.heap.size, 0, none⟩) 1 [⟨pa, pb, pc⟩] HPR (by intro h; cases h) (by simp only [List.length_cons, List.length_nil, List.length_take]; have := HN.out; omega) h2.size
   have h3 : Below Wa.heap.size Wa X3 := h2.trans h23
   have HRX : RowP X3 X (L.drop k) := by rw [← hX]; exact (HRW.out.drop k c (by rw [HN.out]; exact hNc)).low h3
   obtain ⟨a5, c5, X4, hr3, O5, h34⟩ := run_appPs X3 61 Wa.heap.size a4 c4 (L.take k ++ [⟨pa, pb, pc⟩]) O4 X (c - k) (L.drop k) HRX (by intro h; rw [h] at hX; split at hX <;> cases hX) (by simp only [List.length_append, List.length_cons, List.length_nil, List.length_take, List.length_drop]; have := HN.out; omega) h3.size
   have h4 : Below Wa.heap.size Wa X4 := h3.trans h34
   have e5 : (L.take k ++ [⟨pa, pb, pc⟩]) ++ L.drop k = insP L ⟨pa, pb, pc⟩ := by rw [HIN.out]; simp
   rw [e5] at hr3 O5
   have hl4 : (L.take k ++ [(⟨pa, pb, pc⟩ : Pt)]).length = k + 1 := by rw [List.length_append, List.length_take, HN.out, Nat.min_eq_left hk]; rfl
   rw [hl4] at hr2 hr3
   rw [List.length_take, HN.out, Nat.min_eq_left hk] at hr2
   rw [List.length_drop, HN.out, Nat.sub_self] at hr3
   simp only [List.length_cons, List.length_nil, Nat.zero_add] at hr2
   obtain ⟨n5, hn5⟩ : ∃ n5, (insP L ⟨pa, pb, pc⟩).length = n5 := ⟨_, rfl⟩
   have HN5 : Hid ((insP L ⟨pa, pb, pc⟩).length = n5) := hn5
   rw [hn5] at hr3
   obtain ⟨g5, e6⟩ := O5.at0 (by have h7 := (insP_len L ⟨pa, pb, pc⟩).2; have h8 := HN.out; have h9 := HN0.out; omega)
   have HO5 : Hid (OwnP X4 B (some ⟨g5, 0, none⟩) c5 (insP L ⟨pa, pb, pc⟩)) := by rw [e6] at O5; exact O5.base (Nat.le_trans HB.out ba.size)
   have HE6 : Hid (a5 = some ⟨g5, 0, none⟩) := e6
   have b4 := bel_tr ba h4
   have H1 : Hid (Below Wa.heap.size Wa X1) := h1
   have H1d : Hid (Below Wa.heap.size Wa X1.drew) := h1d
   have H2 : Hid (Below Wa.heap.size Wa X2) := h2
   have H3 : Hid (Below Wa.heap.size Wa X3) := h3
   have H4 : Hid (Below Wa.heap.size Wa X4) := h4
   clear O3 O3' HPR O4 HRX O5 e5 hl4 hn5 e6 h23 h34 h1 h1d h2 h3 h4
   go_wp2_with (refine wpList_runA rfl 61 _ _ rfl _ _ (by rfl) (by rfl) _ _ hr1 ?_)
   clear hr1
   refine wp_region_noPanic ?_
   refine wp_region_held_drew (S := fun w'' => w''.cell? ⟨w.heap.size, 0, none⟩ = some (.int .u64 pa) ∧ w''.cell? ⟨w.heap.size, 1, none⟩ = some (.int .u64 pb) ∧ w''.cell? ⟨w.heap.size, 2, none⟩ = some (.int .u64 pc)) (by kernel_rfl) (by exact ⟨kept H1d.out t0, kept H1d.out t1, kept H1d.out t2⟩) (fun hHeld => ?_)
   refine qtk (i := 0) (oi := lxa26o16) (v := (.slice a3 k c3)) hHeld ?_ ?_
   ·intro w9 hSw
    try dsimp only at hSw
    go_simp
   try simp only [qpu]
   refine qtk (i := 1) (oi := lxa26o15) (v := (.agg #[.int .u64 pa, .int .u64 pb, .int .u64 pc])) hHeld ?_ ?_
   ·intro w9 hSw
    try dsimp only at hSw
    go_simp
   try simp only [qpu]
   refine qtk (i := 4) (oi := lxa26o17) (v := (.slice (some ⟨g, 0, none⟩) k c)) hHeld ?_ ?_
   ·intro w9 hSw
    try dsimp only at hSw
    go_simp
   try simp only [qpu]
   refine qtk (i := 5) (oi := lxa26o19) (v := (.int .i64 (k : Int))) hHeld ?_ ?_
   ·intro w9 hSw
    try dsimp only at hSw
    go_simp
   try simp only [qpu]
   refine qtk (i := 6) (oi := lxa26o5) (v := (.slice X 0 (c - k))) hHeld ?_ ?_
   ·intro w9 hSw
    try dsimp only at hSw
    go_simp
    try (first | exact hX | (rw [← hX]; split <;> rfl))
   try simp only [qpu]
   refine wpAnyH_ready (rs := [2]) (by kernel_rfl) (by simp) ?_
   refine AllReadyH.cons (o := lxa26o10) rfl (fun K hK => ?_) AllReadyH.nil
   go_simp
   try rw [hX2]
   refine hK.out _ _ ?_ (fun hHeld => ?_)
   ·exact ⟨kept H2.out t0, kept H2.out t1, kept H2.out t2⟩
   clear hK K
   try simp only [qpu]
   refine wpAnyH_ready (rs := [3]) (by kernel_rfl) (by simp) ?_
   refine AllReadyH.cons (o := lxa26o3) rfl (fun K hK => ?_) AllReadyH.nil
   refine step_runA rfl 61 _ _ rfl _ _ (by rfl) (by rfl) _ _ hr2 ?_
   refine hK.out _ _ ?_ (fun hHeld => ?_)
   ·exact ⟨kept H3.out t0, kept H3.out t1, kept H3.out t2⟩
   clear hK K
   try simp only [qpu]
   refine wpAnyH_ready (rs := [7]) (by kernel_rfl) (by simp) ?_
   refine AllReadyH.cons (o := lxa26o2) rfl (fun K hK => ?_) AllReadyH.nil
   refine step_runA rfl 61 _ _ rfl _ _ (by rfl) (by rfl) _ _ hr3 ?_
   refine hK.out _ _ ?_ (fun hHeld => ?_)
   ·exact ⟨kept H4.out t0, kept H4.out t1, kept H4.out t2⟩
   clear hK K
   try simp only [qpu]
   refine qtk (i := 8) (oi := lxa26o0) (v := (.slice a5 n5 c5)) hHeld ?_ ?_
   ·intro w9 hSw
    try dsimp only at hSw
    go_simp
   try simp only [qpu]
   refine wpAnyH_done (by kernel_rfl) ?_ _
   refine NoPanic.normal ?_
   go_wp2
   go_ret
   refine ⟨g5, c5, ?_, HO5.out, b4⟩
   rw [HN5.out, HE6.out]
   rfl
/-- The starts with a rule more. -/
def stQ (d : Nat) (L : List Pt) (r : Rl) : List Pt := if r.any_ d then L else insP (insP L (r.from_ d)) (r.upto d).next
theorem stQ_all {d : Nat} {L : List Pt} {r : Rl} (ho : r.ok) (hr : r.right = true) (hd : d < 7) (hL : ∀ q ∈ L, q.ok) : (stQ d L r).map Pt.n = startsF (L.map Pt.n) (r.piece d) ∧ (∀ q ∈ stQ d L r, q.ok) ∧ (stQ d L r).length ≤ L.length + 2 ∧ L.length ≤ (stQ d L r).length := by
 unfold stQ startsF
 cases hz : r.any_ d with
 | true => simp [Rl.piece, hz]; exact hL
 | false =>
  have hpo := piece_ok ho hr d hd
  simp only [Rl.fst_, Rl.lst_, hz, Bool.false_eq_true, if_false] at hpo
  have hu := upto_low ho hr d hd hz
  have hn := Pt.next_ok hpo.2.1 hu
  have h1 := insP_ok hL hpo.1
  have l1 := insP_len L (r.from_ d)
  have l2 := insP_len (insP L (r.from_ d)) (r.upto d).next
  simp only [Bool.false_eq_true, if_false, Rl.piece, hz]
  refine ⟨?_, insP_ok h1 hn, by omega, by omega⟩
  rw [insP_n h1 hn, insP_n hL hpo.1, Pt.next_n hpo.2.1]
theorem stQs_all (d : Nat) (hd : d < 7) : ∀ (l : List Rl) (L : List Pt), (∀ r ∈ l, r.ok ∧ r.right = true) → (∀ q ∈ L, q.ok) → (l.foldl (stQ d) L).map Pt.n = (spns l d).foldl startsF (L.map Pt.n) ∧ (∀ q ∈ l.foldl (stQ d) L, q.ok) ∧ (l.foldl (stQ d) L).length ≤ L.length + 2 * l.length ∧ L.length ≤ (l.foldl (stQ d) L).length
 | [], L, _, hL => ⟨rfl, hL, by simp, Nat.le_refl _⟩
 | r :: l, L, hl, hL => by
  obtain ⟨h1, h2, h3, h4⟩ := stQ_all (hl r List.mem_cons_self).1 (hl r List.mem_cons_self).2 hd hL
  obtain ⟨g1, g2, g3, g4⟩ := stQs_all d hd l (stQ d L r) (fun q hq => hl q (List.mem_cons_of_mem _ hq)) h2
  simp only [List.foldl_cons, List.map_cons, List.length_cons]
  refine ⟨by rw [g1, h1], g2, by omega, by omega⟩
/-- The starts of rules: the document's. -/
def stL (d : Nat) (l : List Rl) : List Pt := l.foldl (stQ d) [pt0]
theorem stL_snoc (d : Nat) (l : List Rl) (r : Rl) : stL d (l ++ [r]) = stQ d (stL d l) r := by
 unfold stL
 rw [List.foldl_append]
 rfl
theorem stL_ok {d : Nat} {l : List Rl} (hd : d < 7) (hl : ∀ r ∈ l, r.ok ∧ r.right = true) : (stL d l).map Pt.n = startsL (spns l d) ∧ (∀ q ∈ stL d l, q.ok) ∧ (stL d l).length ≤ 2 * l.length + 1 ∧ 1 ≤ (stL d l).length := by
 obtain ⟨h1, h2, h3, h4⟩ := stQs_all d hd l [pt0] hl (fun q hq => by
  simp only [List.mem_singleton] at hq
  subst hq
  exact pt0_ok)
 refine ⟨?_, h2, ?_, h4⟩
 ·unfold stL startsL
  rw [h1]
  rfl
 ·unfold stL
  simp only [List.length_cons, List.length_nil] at h3
  omega
/-- The set of a point among the first n rules. -/
def setN (P : List Spn) (x : Int) (n : Nat) : List Nat := (List.range n).filter fun i => (P[i]?.map (·.holds x)).getD false
theorem setN_succ (P : List Spn) (x : Int) {n : Nat} {q : Spn} (hq : P[n]? = some q) : setN P x (n + 1) = if q.holds x then setN P x n ++ [n] else setN P x n := by
 unfold setN
 rw [List.range_succ, List.filter_append]
 cases h : q.holds x <;> simp [hq, h]
theorem setN_len (P : List Spn) (x : Int) (n : Nat) : (setN P x n).length ≤ n := by
 have := List.length_filter_le (fun i => (P[i]?.map (·.holds x)).getD false) (List.range n)
 simpa [setN] using this
theorem setN_all (P : List Spn) (x : Int) : setN P x P.length = setOf P x := rfl
/-- The sets of points. -/
abbrev stS (l : List Rl) (d : Nat) (x : Pt) : List Nat := setOf (spns l d) x.n
theorem stS_len (l : List Rl) (d : Nat) (x : Pt) : (stS l d x).length ≤ l.length := by
 have := setN_len (spns l d) x.n (spns l d).length
 rw [setN_all, List.length_map] at this
 exact this
theorem cutP_doc {d : Nat} {l : List Rl} (hd : d < 7) (hl : ∀ r ∈ l, r.ok ∧ r.right = true) : CutP l d (stL d l) (classL ((stL d l).map (stS l d))) (setsL ((stL d l).map (stS l d))) := by
 obtain ⟨h1, h2, h3, h4⟩ := stL_ok hd hl
 have e : (stL d l).map (stS l d) = rowL (spns l d) := by
  unfold rowL
  rw [← h1, List.map_map]
  rfl
 rw [e]
 refine cutP_mk hl hd ?_ h1 h2 h3
 have := starts_sorted (spns l d)
 rw [← h1] at this
 exact List.pairwise_map.1 this
/-- What lies in memory while the document's Cut gathers its sets. -/
structure CutJ (B : Nat) (w : World) (g4 : Nat) (g1 c1 : Nat) (L : List Pt) (ka : Option Addr) (kc : Nat) (K : List Nat) (sa : Option Addr) (sc : Nat) (S : List (List Nat)) (vs : List Value) : Prop where
 res : Blk w g4 63 zc
 sts : OwnP w B (some ⟨g1, 0, none⟩) c1 L
 cls : OwnI w B ka kc K
 set : SetsO w B sa sc S vs
 apt : Apt (ka.map (·.block)) vs
theorem CutJ.below {B : Nat} {w w' : World} {g4 : Nat} {g1 c1 : Nat} {L : List Pt} {ka : Option Addr} {kc : Nat} {K : List Nat} {sa : Option Addr} {sc : Nat} {S : List (List Nat)} {vs : List Value}
  (h : CutJ B w g4 g1 c1 L ka kc K sa sc S vs) (hb : Below w.heap.size w w') : CutJ B w' g4 g1 c1 L ka kc K sa sc S vs :=
 ⟨h.res.kept hb, h.sts.below hb, h.cls.below hb, h.set.below hb, h.apt⟩
theorem SetsO.inner {w : World} {B : Nat} {sa : Option Addr} {sc : Nat} {S : List (List Nat)} {vs : List Value} (h : SetsO w B sa sc S vs) {v : Value} (hv : v ∈ vs) : ∃ ai ci s, v = Value.slice ai (s : List Nat).length ci ∧ OwnI w B ai ci s ∧ s ∈ S := by
 obtain ⟨i, hi⟩ := List.getElem?_of_mem hv
 obtain ⟨s, hs⟩ : ∃ s, S[i]? = some s := ⟨_, List.getElem?_eq_getElem (by have := (List.getElem?_eq_some_iff.1 hi).1; have := h.cells.1; omega)⟩
 obtain ⟨ai, ci, h1, h2⟩ := h.each i s hs
 rw [hi] at h1
 exact ⟨ai, ci, s, Option.some.inj h1, h2, List.mem_of_getElem? hs⟩
/-- A block of another kind is written. -/
theorem CutJ.wrote {B : Nat} {w : World} {g4 : Nat} {g1 c1 : Nat} {L : List Pt} {ka : Option Addr} {kc : Nat} {K : List Nat} {sa : Option Addr} {sc : Nat} {S : List (List Nat)} {vs : List Value}
  (h : CutJ B w g4 g1 c1 L ka kc K sa sc S vs) {g9 : Nat} {v9 : Array Value} (hb : Blk w g9 63 v9) (cs : Array Value) : OwnP (w.setRow g9 cs) B (some ⟨g1, 0, none⟩) c1 L ∧ OwnI (w.setRow g9 cs) B ka kc K ∧ SetsO (w.setRow g9 cs) B sa sc S vs := by
 have hg := grown_setRow w g9 cs
 refine ⟨h.sts.far hg (fun y hy e => ?_), h.cls.far hg (fun y hy e => ?_), h.set.far hg ?_ (fun i s ai ci hi hv y hy e => ?_)⟩
 ·cases hy
  cases e
  obtain ⟨c', hc⟩ := h.sts.typed
  exact absurd (hb.ty hc) (by decide)
 ·obtain ⟨c', hc⟩ := h.cls.typed hy
  cases e
  exact absurd (hb.ty hc) (by decide)
 ·cases hsa : sa.map (·.block) with
  | none => exact .inl rfl
  | some g =>
   refine .inr fun e => ?_
   cases e
   exact h.set.off hb (by decide) hsa
 ·obtain ⟨ai', ci', h1, h2⟩ := h.set.each i s hi
  rw [hv] at h1
  cases h1
  obtain ⟨c', hc⟩ := h2.typed hy
  cases e
  exact absurd (hb.ty hc) (by decide)
theorem CutJ.other {B : Nat} {w : World} {g4 : Nat} {g1 c1 : Nat} {L : List Pt} {ka : Option Addr} {kc : Nat} {K : List Nat} {sa : Option Addr} {sc : Nat} {S : List (List Nat)} {vs : List Value}
  (h : CutJ B w g4 g1 c1 L ka kc K sa sc S vs) {g9 : Nat} {v9 : Array Value} (hb : Blk w g9 63 v9) (h4 : g9 ≠ g4) (cs : Array Value) : CutJ B (w.setRow g9 cs) g4 g1 c1 L ka kc K sa sc S vs := by
 obtain ⟨h1, h2, h3⟩ := h.wrote hb cs
 exact ⟨h.res.far (grown_setRow w g9 cs) (by simpa using h4), h1, h2, h3, h.apt⟩
/-- Other sets. -/
theorem CutJ.sets {B : Nat} {w w' : World} {g4 : Nat} {g1 c1 : Nat} {L : List Pt} {ka : Option Addr} {kc : Nat} {K : List Nat} {sa : Option Addr} {sc : Nat} {S : List (List Nat)} {vs : List Value}
  (h : CutJ B w g4 g1 c1 L ka kc K sa sc S vs) (hb : Below w.heap.size w w') {sa' : Option Addr} {sc' : Nat} {S' : List (List Nat)} {vs' : List Value} {v : Value} (hs : SetsO w' B sa' sc' S' vs') (hv : ∀ u ∈ vs', u ∈ vs ∨ u = v) (ha : Apt (ka.map (·.block)) [v]) : CutJ B w' g4 g1 c1 L ka kc K sa' sc' S' vs' :=
 ⟨h.res.kept hb, h.sts.below hb, h.cls.below hb, hs, fun u hu => by
  rcases hv u hu with h1 | h1
  ·exact h.apt u h1
  ·exact ha u (by simp [h1])⟩
/-- A class more. -/
theorem CutJ.moreK {B : Nat} {w w' : World} {g4 : Nat} {g1 c1 : Nat} {L : List Pt} {ka : Option Addr} {kc : Nat} {K : List Nat} {sa : Option Addr} {sc : Nat} {S : List (List Nat)} {vs : List Value}
  (h : CutJ B w g4 g1 c1 L ka kc K sa sc S vs) (hg : w.grownBy w' (ka.map (·.block))) {g c' : Nat} {K' : List Nat} (hrow : OwnI w' B (some ⟨g, 0, none⟩) c' K') (hat : ka.map (·.block) = some g ∨ g = w.heap.size) :
  CutJ B w' g4 g1 c1 L (some ⟨g, 0, none⟩) c' K' sa sc S vs := by
 refine ⟨h.res.far hg (h.cls.off h.res (by decide)), h.sts.far hg (fun y hy => ?_), hrow, h.set.far hg ?_ (fun i s ai ci hs hv y hy => ?_), fun v hv ai n ci e e2 => ?_⟩
 ·cases hy
  obtain ⟨c', hc⟩ := h.sts.typed
  exact h.cls.off hc (by decide)
 ·cases hsa : sa.map (·.block) with
  | none => exact .inl rfl
  | some g' =>
   refine .inr fun e => ?_
   obtain ⟨c1, hc1⟩ := h.set.typed hsa
   exact h.cls.off hc1 (by decide) e
 ·subst hy
  exact h.apt _ (List.mem_of_getElem? hv) y _ _ rfl
 ·simp only [Option.map_some, Option.some.injEq] at e2
  rcases hat with hat | hat
  ·exact h.apt v hv ai n ci e (by rw [hat, e2])
  ·obtain ⟨ai', ci', s, h1, h2, _⟩ := h.set.inner hv
   rw [e] at h1
   simp only [Value.slice.injEq] at h1
   have := (h2.lt ai h1.1.symm).2.1
   omega
end Go.Proofs.YtmfgjicfdjjihaaGreatDoor
