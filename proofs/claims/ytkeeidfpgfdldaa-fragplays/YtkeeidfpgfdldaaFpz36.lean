/- Texts joined: FpE -/
import Derived.Test.YtkeeidfpgfdldaaFpz23
namespace Go.Proofs.Ytkeeidfpgfdldaa
abbrev fpz36o0 : Oper := { dst := some 52, op := Op.call { callee := Callee.value (.func 50), args := #[.tmp 51], argTypes := #[42] }, type := 3, pos := "ref.go:84", after := #[{ on := 20, ground := Ground.data }, { on := 19, ground := Ground.chain }, { on := 19, ground := Ground.guard }], guard := some (19, true) }
abbrev fpz36o1 : Oper := { dst := some 54, op := Op.call { callee := Callee.value (.func 50), args := #[.tmp 53], argTypes := #[42] }, type := 3, pos := "ref.go:84", after := #[{ on := 22, ground := Ground.data }, { on := 21, ground := Ground.chain }, { on := 19, ground := Ground.guard }], guard := some (19, true) }
abbrev fpz36o2 : Oper := { dst := some 42, op := Op.call { callee := Callee.value (.func 50), args := #[.tmp 41], argTypes := #[42] }, type := 3, pos := "ref.go:84", after := #[{ on := 10, ground := Ground.data }, { on := 9, ground := Ground.chain }, { on := 7, ground := Ground.guard }], guard := some (7, false) }
abbrev fpz36o3 : Oper := { dst := some 40, op := Op.call { callee := Callee.value (.func 50), args := #[.tmp 39], argTypes := #[42] }, type := 3, pos := "ref.go:84", after := #[{ on := 8, ground := Ground.data }, { on := 7, ground := Ground.chain }, { on := 7, ground := Ground.guard }], guard := some (7, false) }
abbrev fpz36o4 : Oper := { dst := some 55, op := Op.binOp BinOp.gtr 3 (.tmp 52) (.tmp 54) 3, type := 4, pos := "ref.go:84", after := #[{ on := 21, ground := Ground.data }, { on := 23, ground := Ground.data }, { on := 19, ground := Ground.guard }], guard := some (19, true) }
abbrev fpz36o5 : Oper := { dst := some 43, op := Op.binOp BinOp.gtr 3 (.tmp 40) (.tmp 42) 3, type := 4, pos := "ref.go:84", after := #[{ on := 9, ground := Ground.data }, { on := 11, ground := Ground.data }, { on := 7, ground := Ground.guard }], guard := some (7, false) }
abbrev fpz36o6 : Oper := { dst := some 56, op := Op.pick (.tmp 50) (.tmp 55) (.const (.bool false)), type := 4, pos := "ref.go:84", after := #[{ on := 19, ground := Ground.data }, { on := 24, ground := Ground.data }, { on := 15, ground := Ground.guard }], guard := some (15, false) }
abbrev fpz36o7 : Oper := { dst := some 44, op := Op.pick (.tmp 38) (.const (.bool true)) (.tmp 43), type := 4, pos := "ref.go:84", after := #[{ on := 7, ground := Ground.data }, { on := 12, ground := Ground.data }, { on := 3, ground := Ground.guard }], guard := some (3, true) }
abbrev fpz36o8 : Oper := { dst := some 50, op := Op.move (.tmp 49), type := 4, pos := "ref.go:84", after := #[{ on := 18, ground := Ground.data }, { on := 15, ground := Ground.chain }, { on := 15, ground := Ground.guard }], guard := some (15, false) }
abbrev fpz36o9 : Oper := { dst := some 38, op := Op.move (.tmp 37), type := 4, pos := "ref.go:84", after := #[{ on := 6, ground := Ground.data }, { on := 3, ground := Ground.chain }, { on := 3, ground := Ground.guard }], guard := some (3, true) }
abbrev fpz36o10 : Oper := { dst := some 45, op := Op.pick (.tmp 34) (.tmp 44) (.const (.bool false)), type := 4, pos := "ref.go:84", after := #[{ on := 3, ground := Ground.data }, { on := 13, ground := Ground.data }], guard := none }
abbrev fpz36o11 : Oper := { dst := some 57, op := Op.pick (.tmp 46) (.const (.bool true)) (.tmp 56), type := 4, pos := "ref.go:84", after := #[{ on := 15, ground := Ground.data }, { on := 25, ground := Ground.data }], guard := none }
abbrev fpz36o12 : Oper := { dst := some 49, op := Op.unOp UnOp.not 4 (.tmp 48), type := 4, pos := "ref.go:84", after := #[{ on := 17, ground := Ground.data }, { on := 15, ground := Ground.guard }], guard := some (15, false) }
abbrev fpz36o13 : Oper := { dst := some 37, op := Op.unOp UnOp.not 4 (.tmp 36), type := 4, pos := "ref.go:84", after := #[{ on := 5, ground := Ground.data }, { on := 3, ground := Ground.guard }], guard := some (3, true) }
abbrev fpz36o14 : Oper := { dst := some 48, op := Op.load 4 (.tmp 47), type := 4, pos := "ref.go:84", after := #[{ on := 16, ground := Ground.data }, { on := 15, ground := Ground.guard }], guard := some (15, false) }
abbrev fpz36o15 : Oper := { dst := some 36, op := Op.load 4 (.tmp 35), type := 4, pos := "ref.go:84", after := #[{ on := 4, ground := Ground.data }, { on := 3, ground := Ground.guard }], guard := some (3, true) }
abbrev fpz36o16 : Oper := { dst := some 46, op := Op.move (.tmp 45), type := 4, pos := "ref.go:84", after := #[{ on := 14, ground := Ground.data }, { on := 11, ground := Ground.chain }], guard := none }
abbrev fpz36o17 : Oper := { dst := some 51, op := Op.load 42 (.tmp 6), type := 42, pos := "ref.go:84", after := #[{ on := 19, ground := Ground.guard }], guard := some (19, true) }
abbrev fpz36o18 : Oper := { dst := some 53, op := Op.load 42 (.tmp 3), type := 42, pos := "ref.go:84", after := #[{ on := 19, ground := Ground.guard }], guard := some (19, true) }
abbrev fpz36o19 : Oper := { dst := some 39, op := Op.load 42 (.tmp 3), type := 42, pos := "ref.go:84", after := #[{ on := 7, ground := Ground.guard }], guard := some (7, false) }
abbrev fpz36o20 : Oper := { dst := some 41, op := Op.load 42 (.tmp 6), type := 42, pos := "ref.go:84", after := #[{ on := 7, ground := Ground.guard }], guard := some (7, false) }
abbrev fpz36o21 : Oper := { dst := some 47, op := Op.fieldAddr 42 (.tmp 3) 8, type := 0, pos := "ref.go:84", after := #[{ on := 15, ground := Ground.guard }], guard := some (15, false) }
abbrev fpz36o22 : Oper := { dst := some 35, op := Op.fieldAddr 42 (.tmp 3) 8, type := 0, pos := "ref.go:84", after := #[{ on := 3, ground := Ground.guard }], guard := some (3, true) }
abbrev fpz36o23 : Oper := { dst := some 33, op := Op.unOp UnOp.not 4 (.tmp 32), type := 4, pos := "ref.go:84", after := #[{ on := 1, ground := Ground.data }], guard := none }
abbrev fpz36o24 : Oper := { dst := some 32, op := Op.load 4 (.tmp 31), type := 4, pos := "ref.go:84", after := #[{ on := 0, ground := Ground.data }], guard := none }
abbrev fpz36o25 : Oper := { dst := some 34, op := Op.move (.tmp 33), type := 4, pos := "ref.go:84", after := #[{ on := 2, ground := Ground.data }], guard := none }
abbrev fpz36o26 : Oper := { dst := some 31, op := Op.fieldAddr 42 (.tmp 6) 8, type := 0, pos := "ref.go:84", after := #[], guard := none }
abbrev fpz36o27 : Oper := { dst := some 28, op := Op.call { callee := Callee.value (.func 50), args := #[.tmp 27], argTypes := #[42] }, type := 3, pos := "ref.go:81", after := #[{ on := 8, ground := Ground.data }, { on := 5, ground := Ground.chain }, { on := 5, ground := Ground.guard }], guard := some (5, true) }
abbrev fpz36o28 : Oper := { dst := some 29, op := Op.binOp BinOp.lss 3 (.tmp 26) (.tmp 28) 3, type := 4, pos := "ref.go:81", after := #[{ on := 7, ground := Ground.data }, { on := 9, ground := Ground.data }, { on := 5, ground := Ground.guard }], guard := some (5, true) }
abbrev fpz36o29 : Oper := { dst := some 22, op := Op.call { callee := Callee.value (.func 50), args := #[.tmp 21], argTypes := #[42] }, type := 3, pos := "ref.go:81", after := #[{ on := 2, ground := Ground.data }], guard := none }
abbrev fpz36o30 : Oper := { dst := some 23, op := Op.binOp BinOp.lss 3 (.tmp 20) (.tmp 22) 3, type := 4, pos := "ref.go:81", after := #[{ on := 1, ground := Ground.data }, { on := 3, ground := Ground.data }], guard := none }
abbrev fpz36o31 : Oper := { dst := some 30, op := Op.pick (.tmp 24) (.tmp 29) (.const (.bool false)), type := 4, pos := "ref.go:81", after := #[{ on := 5, ground := Ground.data }, { on := 10, ground := Ground.data }], guard := none }
abbrev fpz36o32 : Oper := { dst := some 26, op := Op.load 3 (.tmp 25), type := 3, pos := "ref.go:81", after := #[{ on := 6, ground := Ground.data }, { on := 5, ground := Ground.guard }], guard := some (5, true) }
abbrev fpz36o33 : Oper := { dst := some 24, op := Op.move (.tmp 23), type := 4, pos := "ref.go:81", after := #[{ on := 4, ground := Ground.data }, { on := 3, ground := Ground.chain }], guard := none }
abbrev fpz36o34 : Oper := { dst := some 27, op := Op.load 42 (.tmp 3), type := 42, pos := "ref.go:81", after := #[{ on := 5, ground := Ground.guard }], guard := some (5, true) }
abbrev fpz36o35 : Oper := { dst := some 25, op := Op.fieldAddr 42 (.tmp 6) 7, type := 0, pos := "ref.go:81", after := #[{ on := 5, ground := Ground.guard }], guard := some (5, true) }
abbrev fpz36o36 : Oper := { dst := some 20, op := Op.load 3 (.tmp 19), type := 3, pos := "ref.go:81", after := #[{ on := 0, ground := Ground.data }], guard := none }
abbrev fpz36o37 : Oper := { dst := some 21, op := Op.load 42 (.tmp 6), type := 42, pos := "ref.go:81", after := #[], guard := none }
abbrev fpz36o38 : Oper := { dst := some 19, op := Op.fieldAddr 42 (.tmp 3) 7, type := 0, pos := "ref.go:81", after := #[], guard := none }
end Go.Proofs.Ytkeeidfpgfdldaa
namespace Go.Proofs.Ytkeeidfpgfdldaa
open Go.RowKit
set_option linter.unusedVariables false
set_option linter.unusedSimpArgs false
set_option maxRecDepth 100000 in
set_option maxHeartbeats 4000000 in
theorem clash_aux (PA GA : Array Value) (p : PkIn) (g : DgIn) (w : World) (hpi : p.in_) (hPA : p.v = PA) (hg : g.ok w) (hGA : g.v = GA) (hs1 : (Try.prog.info? 79).map (·.size) = some GA.size) :
  Calls Try.prog 36 #[.agg GA, .agg PA] w fun e w' => e = .returned (.bool (g.ps.any fun q => clash1 p.p q.p)) ∧ Below w.heap.size w w' := by
 have hsp := info_ip p
 have KP : Hid (∀ W, Calls Try.prog 50 #[.agg p.v] W fun e w' => e = .returned (.int .i64 p.p.en) ∧ Below W.heap.size W w') := fun W => end_any p W hpi
 have HE : Hid (∀ q : PkIn, q.in_ → ∀ W, Calls Try.prog 50 #[.agg q.v] W fun e w' => e = .returned (.int .i64 q.p.en) ∧ Below W.heap.size W w') := fun q hq W => end_any q W hq
 have HSI : Hid (∀ q : PkIn, (Try.prog.info? 42).map (·.size) = some q.v.size) := info_ip
 have HST : Hid (∀ (W : World) (q : PkIn), (Instr.storeAt 42 (.pointer (some ⟨W.heap.size, 0, none⟩)) (.agg q.v)).run Try.prog (W.alloc (.cells z15 42)) = .ok () (W.alloc (.cells q.v 42))) := store_ip
 have e11 : PA[11]? = some (.int .i64 p.p.of) := by rw [← hPA]; rfl
 have e12 : PA[12]? = some (.bool p.p.mo) := by rw [← hPA]; rfl
 rw [hPA] at hsp KP
 obtain ⟨W1, hW1⟩ : ∃ W1, w.alloc (.cells GA 79) = W1 := ⟨_, rfl⟩
 obtain ⟨W2, hW2⟩ : ∃ W2, W1.alloc (.cells PA 42) = W2 := ⟨_, rfl⟩
 have hz1 : W1.heap.size = w.heap.size + 1 := by rw [← hW1]; simp
 have hgb := (blk_nw hW1).al hW2
 have hpb := blk_nw hW2
 rw [hz1] at hpb
 have bel := bel_al (bel_nw hW1) hW2
 have hcs := dg_cells (g := g) (by rw [hGA]; exact hgb)
 have g8 := hcs.1
 have HG : Hid (g.ok W2) := hg.below bel
 obtain ⟨R, hR⟩ : ∃ R, (g.ps.any fun q => clash1 p.p q.p) = R := ⟨_, rfl⟩
 have HR : Hid ((g.ps.any fun q => clash1 p.p q.p) = R) := hR
 rw [hR]
 obtain ⟨N, hN⟩ : ∃ N, g.ps.length = N := ⟨_, rfl⟩
 have HN : Hid (g.ps.length = N) := hN
 have hfew : N ≤ 65536 := by rw [← hN]; exact hg.few
 rw [hN] at g8
 have p11 := hpb.cell 11 _ e11
 have p12 := hpb.cell 12 _ e12
 obtain ⟨po, hpo⟩ : ∃ x, p.p.of = x := ⟨_, rfl⟩
 obtain ⟨pm, hpm⟩ : ∃ x, p.p.mo = x := ⟨_, rfl⟩
 obtain ⟨pe, hpe⟩ : ∃ x, p.p.en = x := ⟨_, rfl⟩
 rw [hpo] at p11
 rw [hpm] at p12
 rw [hpe] at KP
 have HPO : Hid (p.p.of = po ∧ p.p.mo = pm ∧ p.p.en = pe) := ⟨hpo, hpm, hpe⟩
 obtain ⟨ga, hga⟩ : ∃ x, g.pa = x := ⟨_, rfl⟩
 rw [hga] at g8
 have HGA : Hid (g.pa = ga) := hga
 clear hR hN hcs hPA hGA hg hpo hpm hpe e11 e12 hga
 go_enter Try.func36, Try.ntmps36
 go_wp2_with fail
 clear hW1 hW2
 go_loopw [5] (fun i wr => ∃ (k : Nat), k ≤ N ∧ i = .int .i64 k ∧ Below W2.heap.size W2 wr ∧ Hid (∀ (j : Nat) (q : PkIn), j < k → g.ps[j]? = some q → clash1 p.p q.p = false)) (fun i _ => N - (intOf i).toNat)
 case atStart => exact ⟨0, Nat.zero_le _, rfl, Below.refl _ _, fun j q hj => by omega⟩
 case round =>
  obtain ⟨k, hk, rfl, bw, qe⟩ := hrel
  have gw8 := kept bw g8
  by_cases hlt : k < N
  ·have ik : (k : Int) < (N : Int) := by omega
   have ik0 : (0 : Int) ≤ (k : Int) := by omega
   obtain ⟨q, hqk⟩ : ∃ q, g.ps[k]? = some q := ⟨_, List.getElem?_eq_getElem (by rw [HN.out]; exact hlt)⟩
   have hqm := List.mem_of_getElem? hqk
   obtain ⟨b, off, hpa, hqc⟩ := (HG.out.row.low bw).cells k q hqk
   rw [HGA.out] at hpa
   have KQ : Hid _ := HE.out q (HG.out.in_ q hqm)
   have HQK : Hid (g.ps[k]? = some q ∧ q ∈ g.ps) := ⟨hqk, hqm⟩
   have hsq := HSI.out q
   have hst := HST.out wr q
   have f11 : q.v[11]? = some (.int .i64 q.p.of) := rfl
   have f12 : q.v[12]? = some (.bool q.p.mo) := rfl
   obtain ⟨QA, hQA⟩ : ∃ x, q.v = x := ⟨_, rfl⟩
   rw [hQA] at KQ hsq hst f11 f12 hqc
   obtain ⟨qo, hqo⟩ : ∃ x, q.p.of = x := ⟨_, rfl⟩
   obtain ⟨qm, hqmo⟩ : ∃ x, q.p.mo = x := ⟨_, rfl⟩
   obtain ⟨qe', hqen⟩ : ∃ x, q.p.en = x := ⟨_, rfl⟩
   rw [hqo] at f11
   rw [hqmo] at f12
   rw [hqen] at KQ
   have hC : Hid (clash1 p.p q.p = ((decide (po < qe') && decide (qo < pe)) || ((!qm && (!pm || decide (qe' < pe))) || (!pm && decide (pe < qe'))))) := by
    show _ = _
    obtain ⟨x1, x2, x3⟩ := HPO.out
    unfold clash1
    rw [x1, x2, x3, hqo, hqmo, hqen]
   have HT : Hid (clash1 p.p q.p = true → R = true) := fun h => by
    rw [← HR.out]
    exact List.any_eq_true.2 ⟨q, hqm, h⟩
   have HF : Hid (clash1 p.p q.p = false → ∀ (j : Nat) (x : PkIn), j < k + 1 → g.ps[j]? = some x → clash1 p.p x.p = false) := fun h j x hj hx => by
    by_cases e : j = k
    ·subst e
     rw [HQK.out.1] at hx
     cases hx
     exact h
    ·exact qe.out j x (by omega) hx
   subst hpa
   clear qe hqk hqm hQA hqo hqmo hqen
   have hq := blk_new wr QA 42
   have hp := (hpb.below bw hpb.lt).alloc (.cells QA 42)
   have c1 := hp.cell 11 _ (by
    have := hpb.cell 11
    exact (show PA[11]? = some (.int .i64 po) from by
     have h := p11
     rw [cell_of_row W2 (w.heap.size + 1) 11 PA _ (0, 0) hpb] at h
     exact h))
   have c2 := hp.cell 12 _ (show PA[12]? = some (.bool pm) from by
     have h := p12
     rw [cell_of_row W2 (w.heap.size + 1) 12 PA _ (0, 0) hpb] at h
     exact h)
   have c3 := hq.cell 11 _ f11
   have c4 := hq.cell 12 _ f12
   go_wp2_with (first
    | (refine wpList_load_at rfl _ _ rfl b (off + k * 15) (by rfl) _ hqc Try.underlying42 hsq ?_)
    | (refine wpList_store_new _ _ rfl _ _ _ rfl _ _ rfl rfl hst ?_))
   have bw := bw.alloc bw.size (.cells QA 42)
   clear hqc hst f11 f12 gw8
   by_cases h1 : po < qe'
   ·have e1 : decide (po < qe') = true := decide_eq_true h1
    by_cases h2 : qo < pe
    ·have e2 : decide (qo < pe) = true := decide_eq_true h2
     have hp := hp.drew
     have hq := hq.drew
     have c1 := kept (below_drew _) c1
     have c2 := kept (below_drew _) c2
     have c3 := kept (below_drew _) c3
     have c4 := kept (below_drew _) c4
     have bw := bw.drew
     refine wp_region_noPanic ?_
     refine wp_region_held_drew (S := fun w'' => Blk w'' (w.heap.size + 1) 42 PA ∧ Blk w'' wr.heap.size 42 QA ∧ w''.cell? ⟨w.heap.size + 1, 11, none⟩ = some (.int .i64 po) ∧ w''.cell? ⟨w.heap.size + 1, 12, none⟩ = some (.bool pm) ∧ w''.cell? ⟨wr.heap.size, 11, none⟩ = some (.int .i64 qo) ∧ w''.cell? ⟨wr.heap.size, 12, none⟩ = some (.bool qm)) (by kernel_rfl) (by exact ⟨hp, hq, c1, c2, c3, c4⟩) (fun hHeld => ?_)
     refine qtk (i := 0) (oi := fpz36o38) (v := (.pointer (some ⟨w.heap.size + 1, 11, none⟩))) hHeld ?_ ?_
     ·intro w9 hSw
      try dsimp only at hSw
      go_simp
     try simp only [qpu]
     refine qtk (i := 1) (oi := fpz36o36) (v := (.int .i64 po)) hHeld ?_ ?_
     ·intro w9 hSw
      try dsimp only at hSw
      go_simp
     try simp only [qpu]
     refine qty (i := 2) (oi := fpz36o37) (v := (.agg QA)) (yieldsIf_at (by rfl) _ _ rfl wr.heap.size 0 (by rfl) _ (fun _ h => h.2.1.at_) Try.underlying42 hsq) hHeld ?_
     try simp only [qpu]
     refine wpAnyH_ready (rs := [3]) (by kernel_rfl) (by simp) ?_
     refine AllReadyH.cons (o := fpz36o29) rfl (fun K hK => ?_) AllReadyH.nil
     go_simp
     refine Calls.mono (KQ.out _) ?_
     rintro e W21 ⟨rfl, bb⟩
     have hp := hp.kept bb
     have hq := hq.kept bb
     have c1 := kept bb c1
     have c2 := kept bb c2
     have c3 := kept bb c3
     have c4 := kept bb c4
     have bw := bel_tr bw bb
     refine hK.out _ _ ?_ (fun hHeld => ?_)
     ·exact ⟨hp, hq, c1, c2, c3, c4⟩
     clear hK K
     try simp only [qpu]
     refine qtk (i := 4) (oi := fpz36o30) (v := (.bool true)) hHeld ?_ ?_
     ·intro w9 hSw
      try dsimp only at hSw
      go_simp
     try simp only [qpu]
     refine qtk (i := 5) (oi := fpz36o33) (v := (.bool true)) hHeld ?_ ?_
     ·intro w9 hSw
      try dsimp only at hSw
      go_simp
     try simp only [qpu]
     refine qtk (i := 6) (oi := fpz36o35) (v := (.pointer (some ⟨wr.heap.size, 11, none⟩))) hHeld ?_ ?_
     ·intro w9 hSw
      try dsimp only at hSw
      go_simp
     try simp only [qpu]
     refine qtk (i := 7) (oi := fpz36o32) (v := (.int .i64 qo)) hHeld ?_ ?_
     ·intro w9 hSw
      try dsimp only at hSw
      go_simp
     try simp only [qpu]
     refine qty (i := 8) (oi := fpz36o34) (v := (.agg PA)) (yieldsIf_at (by rfl) _ _ rfl (w.heap.size + 1) 0 (by rfl) _ (fun _ h => h.1.at_) Try.underlying42 hsp) hHeld ?_
     try simp only [qpu]
     refine wpAnyH_ready (rs := [9]) (by kernel_rfl) (by simp) ?_
     refine AllReadyH.cons (o := fpz36o27) rfl (fun K hK => ?_) AllReadyH.nil
     go_simp
     refine Calls.mono (KP.out _) ?_
     rintro e W22 ⟨rfl, bb⟩
     have hp := hp.kept bb
     have hq := hq.kept bb
     have c1 := kept bb c1
     have c2 := kept bb c2
     have c3 := kept bb c3
     have c4 := kept bb c4
     have bw := bel_tr bw bb
     refine hK.out _ _ ?_ (fun hHeld => ?_)
     ·exact ⟨hp, hq, c1, c2, c3, c4⟩
     clear hK K
     try simp only [qpu]
     refine qtk (i := 10) (oi := fpz36o28) (v := (.bool true)) hHeld ?_ ?_
     ·intro w9 hSw
      try dsimp only at hSw
      go_simp
     try simp only [qpu]
     refine qtk (i := 11) (oi := fpz36o31) (v := (.bool true)) hHeld ?_ ?_
     ·intro w9 hSw
      try dsimp only at hSw
      go_simp
     try simp only [qpu]
     refine wpAnyH_done (by kernel_rfl) ?_ _
     refine NoPanic.normal ?_
     have hR : R = true := HT.out (by rw [hC.out]; simp [e1, e2])
     subst hR
     clear hHeld
     go_wp2
     go_ret
     exact ⟨rfl, bel_tr bel bw⟩
    ·have e2 : decide (qo < pe) = false := decide_eq_false h2
     replace h2 := Int.not_lt.1 h2
     have hp := hp.drew
     have hq := hq.drew
     have c1 := kept (below_drew _) c1
     have c2 := kept (below_drew _) c2
     have c3 := kept (below_drew _) c3
     have c4 := kept (below_drew _) c4
     have bw := bw.drew
     refine wp_region_noPanic ?_
     refine wp_region_held_drew (S := fun w'' => Blk w'' (w.heap.size + 1) 42 PA ∧ Blk w'' wr.heap.size 42 QA ∧ w''.cell? ⟨w.heap.size + 1, 11, none⟩ = some (.int .i64 po) ∧ w''.cell? ⟨w.heap.size + 1, 12, none⟩ = some (.bool pm) ∧ w''.cell? ⟨wr.heap.size, 11, none⟩ = some (.int .i64 qo) ∧ w''.cell? ⟨wr.heap.size, 12, none⟩ = some (.bool qm)) (by kernel_rfl) (by exact ⟨hp, hq, c1, c2, c3, c4⟩) (fun hHeld => ?_)
     refine qtk (i := 0) (oi := fpz36o38) (v := (.pointer (some ⟨w.heap.size + 1, 11, none⟩))) hHeld ?_ ?_
     ·intro w9 hSw
      try dsimp only at hSw
      go_simp
     try simp only [qpu]
     refine qtk (i := 1) (oi := fpz36o36) (v := (.int .i64 po)) hHeld ?_ ?_
     ·intro w9 hSw
      try dsimp only at hSw
      go_simp
     try simp only [qpu]
     refine qty (i := 2) (oi := fpz36o37) (v := (.agg QA)) (yieldsIf_at (by rfl) _ _ rfl wr.heap.size 0 (by rfl) _ (fun _ h => h.2.1.at_) Try.underlying42 hsq) hHeld ?_
     try simp only [qpu]
     refine wpAnyH_ready (rs := [3]) (by kernel_rfl) (by simp) ?_
     refine AllReadyH.cons (o := fpz36o29) rfl (fun K hK => ?_) AllReadyH.nil
     go_simp
     refine Calls.mono (KQ.out _) ?_
     rintro e W23 ⟨rfl, bb⟩
     have hp := hp.kept bb
     have hq := hq.kept bb
     have c1 := kept bb c1
     have c2 := kept bb c2
     have c3 := kept bb c3
     have c4 := kept bb c4
     have bw := bel_tr bw bb
     refine hK.out _ _ ?_ (fun hHeld => ?_)
     ·exact ⟨hp, hq, c1, c2, c3, c4⟩
     clear hK K
     try simp only [qpu]
     refine qtk (i := 4) (oi := fpz36o30) (v := (.bool true)) hHeld ?_ ?_
     ·intro w9 hSw
      try dsimp only at hSw
      go_simp
     try simp only [qpu]
     refine qtk (i := 5) (oi := fpz36o33) (v := (.bool true)) hHeld ?_ ?_
     ·intro w9 hSw
      try dsimp only at hSw
      go_simp
     try simp only [qpu]
     refine qtk (i := 6) (oi := fpz36o35) (v := (.pointer (some ⟨wr.heap.size, 11, none⟩))) hHeld ?_ ?_
     ·intro w9 hSw
      try dsimp only at hSw
      go_simp
     try simp only [qpu]
     refine qtk (i := 7) (oi := fpz36o32) (v := (.int .i64 qo)) hHeld ?_ ?_
     ·intro w9 hSw
      try dsimp only at hSw
      go_simp
     try simp only [qpu]
     refine qty (i := 8) (oi := fpz36o34) (v := (.agg PA)) (yieldsIf_at (by rfl) _ _ rfl (w.heap.size + 1) 0 (by rfl) _ (fun _ h => h.1.at_) Try.underlying42 hsp) hHeld ?_
     try simp only [qpu]
     refine wpAnyH_ready (rs := [9]) (by kernel_rfl) (by simp) ?_
     refine AllReadyH.cons (o := fpz36o27) rfl (fun K hK => ?_) AllReadyH.nil
     go_simp
     refine Calls.mono (KP.out _) ?_
     rintro e W24 ⟨rfl, bb⟩
     have hp := hp.kept bb
     have hq := hq.kept bb
     have c1 := kept bb c1
     have c2 := kept bb c2
     have c3 := kept bb c3
     have c4 := kept bb c4
     have bw := bel_tr bw bb
     refine hK.out _ _ ?_ (fun hHeld => ?_)
     ·exact ⟨hp, hq, c1, c2, c3, c4⟩
     clear hK K
     try simp only [qpu]
     refine qtk (i := 10) (oi := fpz36o28) (v := (.bool false)) hHeld ?_ ?_
     ·intro w9 hSw
      try dsimp only at hSw
      go_simp
     try simp only [qpu]
     refine qtk (i := 11) (oi := fpz36o31) (v := (.bool false)) hHeld ?_ ?_
     ·intro w9 hSw
      try dsimp only at hSw
      go_simp
     try simp only [qpu]
     refine wpAnyH_done (by kernel_rfl) ?_ _
     refine NoPanic.normal ?_
     go_wp2
     cases qm
     ·cases pm
      ·skip
       have hp := hp.drew
       have hq := hq.drew
       have c1 := kept (below_drew _) c1
       have c2 := kept (below_drew _) c2
       have c3 := kept (below_drew _) c3
       have c4 := kept (below_drew _) c4
       have bw := bw.drew
       refine wp_region_noPanic ?_
       refine wp_region_held_drew (S := fun w'' => Blk w'' (w.heap.size + 1) 42 PA ∧ Blk w'' wr.heap.size 42 QA ∧ w''.cell? ⟨w.heap.size + 1, 11, none⟩ = some (.int .i64 po) ∧ w''.cell? ⟨w.heap.size + 1, 12, none⟩ = some (.bool false) ∧ w''.cell? ⟨wr.heap.size, 11, none⟩ = some (.int .i64 qo) ∧ w''.cell? ⟨wr.heap.size, 12, none⟩ = some (.bool false)) (by kernel_rfl) (by exact ⟨hp, hq, c1, c2, c3, c4⟩) (fun hHeld => ?_)
       refine qtk (i := 0) (oi := fpz36o26) (v := (.pointer (some ⟨wr.heap.size, 12, none⟩))) hHeld ?_ ?_
       ·intro w9 hSw
        try dsimp only at hSw
        go_simp
       try simp only [qpu]
       refine qtk (i := 1) (oi := fpz36o24) (v := (.bool false)) hHeld ?_ ?_
       ·intro w9 hSw
        try dsimp only at hSw
        go_simp
       try simp only [qpu]
       refine qtk (i := 2) (oi := fpz36o23) (v := (.bool true)) hHeld ?_ ?_
       ·intro w9 hSw
        try dsimp only at hSw
        go_simp
       try simp only [qpu]
       refine qtk (i := 3) (oi := fpz36o25) (v := (.bool true)) hHeld ?_ ?_
       ·intro w9 hSw
        try dsimp only at hSw
        go_simp
       try simp only [qpu]
       refine qtk (i := 4) (oi := fpz36o22) (v := (.pointer (some ⟨w.heap.size + 1, 12, none⟩))) hHeld ?_ ?_
       ·intro w9 hSw
        try dsimp only at hSw
        go_simp
       try simp only [qpu]
       refine qtk (i := 5) (oi := fpz36o15) (v := (.bool false)) hHeld ?_ ?_
       ·intro w9 hSw
        try dsimp only at hSw
        go_simp
       try simp only [qpu]
       refine qtk (i := 6) (oi := fpz36o13) (v := (.bool true)) hHeld ?_ ?_
       ·intro w9 hSw
        try dsimp only at hSw
        go_simp
       try simp only [qpu]
       refine qtk (i := 7) (oi := fpz36o9) (v := (.bool true)) hHeld ?_ ?_
       ·intro w9 hSw
        try dsimp only at hSw
        go_simp
       try simp only [qpu]
       refine qtn (i := 8) (oi := fpz36o19) hHeld ?_
       try simp only [qpu]
       refine qtn (i := 9) (oi := fpz36o3) hHeld ?_
       try simp only [qpu]
       refine qtn (i := 10) (oi := fpz36o20) hHeld ?_
       try simp only [qpu]
       refine qtn (i := 11) (oi := fpz36o2) hHeld ?_
       try simp only [qpu]
       refine qtn (i := 12) (oi := fpz36o5) hHeld ?_
       try simp only [qpu]
       refine qtk (i := 13) (oi := fpz36o7) (v := (.bool true)) hHeld ?_ ?_
       ·intro w9 hSw
        try dsimp only at hSw
        go_simp
       try simp only [qpu]
       refine qtk (i := 14) (oi := fpz36o10) (v := (.bool true)) hHeld ?_ ?_
       ·intro w9 hSw
        try dsimp only at hSw
        go_simp
       try simp only [qpu]
       refine qtk (i := 15) (oi := fpz36o16) (v := (.bool true)) hHeld ?_ ?_
       ·intro w9 hSw
        try dsimp only at hSw
        go_simp
       try simp only [qpu]
       refine qtn (i := 16) (oi := fpz36o21) hHeld ?_
       try simp only [qpu]
       refine qtn (i := 17) (oi := fpz36o14) hHeld ?_
       try simp only [qpu]
       refine qtn (i := 18) (oi := fpz36o12) hHeld ?_
       try simp only [qpu]
       refine qtn (i := 19) (oi := fpz36o8) hHeld ?_
       try simp only [qpu]
       refine qtn (i := 20) (oi := fpz36o17) hHeld ?_
       try simp only [qpu]
       refine qtn (i := 21) (oi := fpz36o0) hHeld ?_
       try simp only [qpu]
       refine qtn (i := 22) (oi := fpz36o18) hHeld ?_
       try simp only [qpu]
       refine qtn (i := 23) (oi := fpz36o1) hHeld ?_
       try simp only [qpu]
       refine qtn (i := 24) (oi := fpz36o4) hHeld ?_
       try simp only [qpu]
       refine qtn (i := 25) (oi := fpz36o6) hHeld ?_
       try simp only [qpu]
       refine qtk (i := 26) (oi := fpz36o11) (v := (.bool true)) hHeld ?_ ?_
       ·intro w9 hSw
        try dsimp only at hSw
        go_simp
       try simp only [qpu]
       refine wpAnyH_done (by kernel_rfl) ?_ _
       refine NoPanic.normal ?_
       have hR : R = true := HT.out (by rw [hC.out]; simp [e1, e2])
       subst hR
       clear hHeld
       go_wp2
       go_ret
       exact ⟨rfl, bel_tr bel bw⟩
      ·by_cases hx : qe' < pe
       ·have ex : decide (qe' < pe) = true := decide_eq_true hx
        have ex2 : decide (pe > qe') = true := decide_eq_true hx
        have hp := hp.drew
        have hq := hq.drew
        have c1 := kept (below_drew _) c1
        have c2 := kept (below_drew _) c2
        have c3 := kept (below_drew _) c3
        have c4 := kept (below_drew _) c4
        have bw := bw.drew
        refine wp_region_noPanic ?_
        refine wp_region_held_drew (S := fun w'' => Blk w'' (w.heap.size + 1) 42 PA ∧ Blk w'' wr.heap.size 42 QA ∧ w''.cell? ⟨w.heap.size + 1, 11, none⟩ = some (.int .i64 po) ∧ w''.cell? ⟨w.heap.size + 1, 12, none⟩ = some (.bool true) ∧ w''.cell? ⟨wr.heap.size, 11, none⟩ = some (.int .i64 qo) ∧ w''.cell? ⟨wr.heap.size, 12, none⟩ = some (.bool false)) (by kernel_rfl) (by exact ⟨hp, hq, c1, c2, c3, c4⟩) (fun hHeld => ?_)
        refine qtk (i := 0) (oi := fpz36o26) (v := (.pointer (some ⟨wr.heap.size, 12, none⟩))) hHeld ?_ ?_
        ·intro w9 hSw
         try dsimp only at hSw
         go_simp
        try simp only [qpu]
        refine qtk (i := 1) (oi := fpz36o24) (v := (.bool false)) hHeld ?_ ?_
        ·intro w9 hSw
         try dsimp only at hSw
         go_simp
        try simp only [qpu]
        refine qtk (i := 2) (oi := fpz36o23) (v := (.bool true)) hHeld ?_ ?_
        ·intro w9 hSw
         try dsimp only at hSw
         go_simp
        try simp only [qpu]
        refine qtk (i := 3) (oi := fpz36o25) (v := (.bool true)) hHeld ?_ ?_
        ·intro w9 hSw
         try dsimp only at hSw
         go_simp
        try simp only [qpu]
        refine qtk (i := 4) (oi := fpz36o22) (v := (.pointer (some ⟨w.heap.size + 1, 12, none⟩))) hHeld ?_ ?_
        ·intro w9 hSw
         try dsimp only at hSw
         go_simp
        try simp only [qpu]
        refine qtk (i := 5) (oi := fpz36o15) (v := (.bool true)) hHeld ?_ ?_
        ·intro w9 hSw
         try dsimp only at hSw
         go_simp
        try simp only [qpu]
        refine qtk (i := 6) (oi := fpz36o13) (v := (.bool false)) hHeld ?_ ?_
        ·intro w9 hSw
         try dsimp only at hSw
         go_simp
        try simp only [qpu]
        refine qtk (i := 7) (oi := fpz36o9) (v := (.bool false)) hHeld ?_ ?_
        ·intro w9 hSw
         try dsimp only at hSw
         go_simp
        try simp only [qpu]
        refine qty (i := 8) (oi := fpz36o19) (v := (.agg PA)) (yieldsIf_at (by rfl) _ _ rfl (w.heap.size + 1) 0 (by rfl) _ (fun _ h => h.1.at_) Try.underlying42 hsp) hHeld ?_
        try simp only [qpu]
        refine qty (i := 10) (oi := fpz36o20) (v := (.agg QA)) (yieldsIf_at (by rfl) _ _ rfl wr.heap.size 0 (by rfl) _ (fun _ h => h.2.1.at_) Try.underlying42 hsq) hHeld ?_
        try simp only [qpu]
        refine wpAnyH_ready (rs := [9]) (by kernel_rfl) (by simp) ?_
        refine AllReadyH.cons (o := fpz36o3) rfl (fun K hK => ?_) AllReadyH.nil
        go_simp
        refine Calls.mono (KP.out _) ?_
        rintro e W25 ⟨rfl, bb⟩
        have hp := hp.kept bb
        have hq := hq.kept bb
        have c1 := kept bb c1
        have c2 := kept bb c2
        have c3 := kept bb c3
        have c4 := kept bb c4
        have bw := bel_tr bw bb
        refine hK.out _ _ ?_ (fun hHeld => ?_)
        ·exact ⟨hp, hq, c1, c2, c3, c4⟩
        clear hK K
        try simp only [qpu]
        refine wpAnyH_ready (rs := [11]) (by kernel_rfl) (by simp) ?_
        refine AllReadyH.cons (o := fpz36o2) rfl (fun K hK => ?_) AllReadyH.nil
        go_simp
        refine Calls.mono (KQ.out _) ?_
        rintro e W26 ⟨rfl, bb⟩
        have hp := hp.kept bb
        have hq := hq.kept bb
        have c1 := kept bb c1
        have c2 := kept bb c2
        have c3 := kept bb c3
        have c4 := kept bb c4
        have bw := bel_tr bw bb
        refine hK.out _ _ ?_ (fun hHeld => ?_)
        ·exact ⟨hp, hq, c1, c2, c3, c4⟩
        clear hK K
        try simp only [qpu]
        refine qtk (i := 12) (oi := fpz36o5) (v := (.bool true)) hHeld ?_ ?_
        ·intro w9 hSw
         try dsimp only at hSw
         go_simp
        try simp only [qpu]
        refine qtk (i := 13) (oi := fpz36o7) (v := (.bool true)) hHeld ?_ ?_
        ·intro w9 hSw
         try dsimp only at hSw
         go_simp
        try simp only [qpu]
        refine qtk (i := 14) (oi := fpz36o10) (v := (.bool true)) hHeld ?_ ?_
        ·intro w9 hSw
         try dsimp only at hSw
         go_simp
        try simp only [qpu]
        refine qtk (i := 15) (oi := fpz36o16) (v := (.bool true)) hHeld ?_ ?_
        ·intro w9 hSw
         try dsimp only at hSw
         go_simp
        try simp only [qpu]
        refine qtn (i := 16) (oi := fpz36o21) hHeld ?_
        try simp only [qpu]
        refine qtn (i := 17) (oi := fpz36o14) hHeld ?_
        try simp only [qpu]
        refine qtn (i := 18) (oi := fpz36o12) hHeld ?_
        try simp only [qpu]
        refine qtn (i := 19) (oi := fpz36o8) hHeld ?_
        try simp only [qpu]
        refine qtn (i := 20) (oi := fpz36o17) hHeld ?_
        try simp only [qpu]
        refine qtn (i := 21) (oi := fpz36o0) hHeld ?_
        try simp only [qpu]
        refine qtn (i := 22) (oi := fpz36o18) hHeld ?_
        try simp only [qpu]
        refine qtn (i := 23) (oi := fpz36o1) hHeld ?_
        try simp only [qpu]
        refine qtn (i := 24) (oi := fpz36o4) hHeld ?_
        try simp only [qpu]
        refine qtn (i := 25) (oi := fpz36o6) hHeld ?_
        try simp only [qpu]
        refine qtk (i := 26) (oi := fpz36o11) (v := (.bool true)) hHeld ?_ ?_
        ·intro w9 hSw
         try dsimp only at hSw
         go_simp
        try simp only [qpu]
        refine wpAnyH_done (by kernel_rfl) ?_ _
        refine NoPanic.normal ?_
        have hR : R = true := HT.out (by rw [hC.out]; simp [e1, e2, ex])
        subst hR
        clear hHeld
        go_wp2
        go_ret
        exact ⟨rfl, bel_tr bel bw⟩
       ·have ex : decide (qe' < pe) = false := decide_eq_false hx
        have ex2 : decide (pe > qe') = false := decide_eq_false hx
        replace hx := Int.not_lt.1 hx
        have hp := hp.drew
        have hq := hq.drew
        have c1 := kept (below_drew _) c1
        have c2 := kept (below_drew _) c2
        have c3 := kept (below_drew _) c3
        have c4 := kept (below_drew _) c4
        have bw := bw.drew
        refine wp_region_noPanic ?_
        refine wp_region_held_drew (S := fun w'' => Blk w'' (w.heap.size + 1) 42 PA ∧ Blk w'' wr.heap.size 42 QA ∧ w''.cell? ⟨w.heap.size + 1, 11, none⟩ = some (.int .i64 po) ∧ w''.cell? ⟨w.heap.size + 1, 12, none⟩ = some (.bool true) ∧ w''.cell? ⟨wr.heap.size, 11, none⟩ = some (.int .i64 qo) ∧ w''.cell? ⟨wr.heap.size, 12, none⟩ = some (.bool false)) (by kernel_rfl) (by exact ⟨hp, hq, c1, c2, c3, c4⟩) (fun hHeld => ?_)
        refine qtk (i := 0) (oi := fpz36o26) (v := (.pointer (some ⟨wr.heap.size, 12, none⟩))) hHeld ?_ ?_
        ·intro w9 hSw
         try dsimp only at hSw
         go_simp
        try simp only [qpu]
        refine qtk (i := 1) (oi := fpz36o24) (v := (.bool false)) hHeld ?_ ?_
        ·intro w9 hSw
         try dsimp only at hSw
         go_simp
        try simp only [qpu]
        refine qtk (i := 2) (oi := fpz36o23) (v := (.bool true)) hHeld ?_ ?_
        ·intro w9 hSw
         try dsimp only at hSw
         go_simp
        try simp only [qpu]
        refine qtk (i := 3) (oi := fpz36o25) (v := (.bool true)) hHeld ?_ ?_
        ·intro w9 hSw
         try dsimp only at hSw
         go_simp
        try simp only [qpu]
        refine qtk (i := 4) (oi := fpz36o22) (v := (.pointer (some ⟨w.heap.size + 1, 12, none⟩))) hHeld ?_ ?_
        ·intro w9 hSw
         try dsimp only at hSw
         go_simp
        try simp only [qpu]
        refine qtk (i := 5) (oi := fpz36o15) (v := (.bool true)) hHeld ?_ ?_
        ·intro w9 hSw
         try dsimp only at hSw
         go_simp
        try simp only [qpu]
        refine qtk (i := 6) (oi := fpz36o13) (v := (.bool false)) hHeld ?_ ?_
        ·intro w9 hSw
         try dsimp only at hSw
         go_simp
        try simp only [qpu]
        refine qtk (i := 7) (oi := fpz36o9) (v := (.bool false)) hHeld ?_ ?_
        ·intro w9 hSw
         try dsimp only at hSw
         go_simp
        try simp only [qpu]
        refine qty (i := 8) (oi := fpz36o19) (v := (.agg PA)) (yieldsIf_at (by rfl) _ _ rfl (w.heap.size + 1) 0 (by rfl) _ (fun _ h => h.1.at_) Try.underlying42 hsp) hHeld ?_
        try simp only [qpu]
        refine qty (i := 10) (oi := fpz36o20) (v := (.agg QA)) (yieldsIf_at (by rfl) _ _ rfl wr.heap.size 0 (by rfl) _ (fun _ h => h.2.1.at_) Try.underlying42 hsq) hHeld ?_
        try simp only [qpu]
        refine wpAnyH_ready (rs := [9]) (by kernel_rfl) (by simp) ?_
        refine AllReadyH.cons (o := fpz36o3) rfl (fun K hK => ?_) AllReadyH.nil
        go_simp
        refine Calls.mono (KP.out _) ?_
        rintro e W27 ⟨rfl, bb⟩
        have hp := hp.kept bb
        have hq := hq.kept bb
        have c1 := kept bb c1
        have c2 := kept bb c2
        have c3 := kept bb c3
        have c4 := kept bb c4
        have bw := bel_tr bw bb
        refine hK.out _ _ ?_ (fun hHeld => ?_)
        ·exact ⟨hp, hq, c1, c2, c3, c4⟩
        clear hK K
        try simp only [qpu]
        refine wpAnyH_ready (rs := [11]) (by kernel_rfl) (by simp) ?_
        refine AllReadyH.cons (o := fpz36o2) rfl (fun K hK => ?_) AllReadyH.nil
        go_simp
        refine Calls.mono (KQ.out _) ?_
        rintro e W28 ⟨rfl, bb⟩
        have hp := hp.kept bb
        have hq := hq.kept bb
        have c1 := kept bb c1
        have c2 := kept bb c2
        have c3 := kept bb c3
        have c4 := kept bb c4
        have bw := bel_tr bw bb
        refine hK.out _ _ ?_ (fun hHeld => ?_)
        ·exact ⟨hp, hq, c1, c2, c3, c4⟩
        clear hK K
        try simp only [qpu]
        refine qtk (i := 12) (oi := fpz36o5) (v := (.bool false)) hHeld ?_ ?_
        ·intro w9 hSw
         try dsimp only at hSw
         go_simp
        try simp only [qpu]
        refine qtk (i := 13) (oi := fpz36o7) (v := (.bool false)) hHeld ?_ ?_
        ·intro w9 hSw
         try dsimp only at hSw
         go_simp
        try simp only [qpu]
        refine qtk (i := 14) (oi := fpz36o10) (v := (.bool false)) hHeld ?_ ?_
        ·intro w9 hSw
         try dsimp only at hSw
         go_simp
        try simp only [qpu]
        refine qtk (i := 15) (oi := fpz36o16) (v := (.bool false)) hHeld ?_ ?_
        ·intro w9 hSw
         try dsimp only at hSw
         go_simp
        try simp only [qpu]
        refine qtk (i := 16) (oi := fpz36o21) (v := (.pointer (some ⟨w.heap.size + 1, 12, none⟩))) hHeld ?_ ?_
        ·intro w9 hSw
         try dsimp only at hSw
         go_simp
        try simp only [qpu]
        refine qtk (i := 17) (oi := fpz36o14) (v := (.bool true)) hHeld ?_ ?_
        ·intro w9 hSw
         try dsimp only at hSw
         go_simp
        try simp only [qpu]
        refine qtk (i := 18) (oi := fpz36o12) (v := (.bool false)) hHeld ?_ ?_
        ·intro w9 hSw
         try dsimp only at hSw
         go_simp
        try simp only [qpu]
        refine qtk (i := 19) (oi := fpz36o8) (v := (.bool false)) hHeld ?_ ?_
        ·intro w9 hSw
         try dsimp only at hSw
         go_simp
        try simp only [qpu]
        refine qtn (i := 20) (oi := fpz36o17) hHeld ?_
        try simp only [qpu]
        refine qtn (i := 21) (oi := fpz36o0) hHeld ?_
        try simp only [qpu]
        refine qtn (i := 22) (oi := fpz36o18) hHeld ?_
        try simp only [qpu]
        refine qtn (i := 23) (oi := fpz36o1) hHeld ?_
        try simp only [qpu]
        refine qtn (i := 24) (oi := fpz36o4) hHeld ?_
        try simp only [qpu]
        refine qtk (i := 25) (oi := fpz36o6) (v := (.bool false)) hHeld ?_ ?_
        ·intro w9 hSw
         try dsimp only at hSw
         go_simp
        try simp only [qpu]
        refine qtk (i := 26) (oi := fpz36o11) (v := (.bool false)) hHeld ?_ ?_
        ·intro w9 hSw
         try dsimp only at hSw
         go_simp
        try simp only [qpu]
        refine wpAnyH_done (by kernel_rfl) ?_ _
        refine NoPanic.normal ?_
        have HF' : Hid (∀ (j : Nat) (x : PkIn), j < k + 1 → g.ps[j]? = some x → clash1 p.p x.p = false) := HF.out (by rw [hC.out]; simp [e1, e2, ex])
        clear hHeld
        go_wp2
        exact ⟨⟨k + 1, by omega, by go_num, bw, HF'⟩, by simp [intOf]; omega⟩
     ·cases pm
      ·by_cases hx : pe < qe'
       ·have ex : decide (pe < qe') = true := decide_eq_true hx
        have ex2 : decide (qe' > pe) = true := decide_eq_true hx
        have hp := hp.drew
        have hq := hq.drew
        have c1 := kept (below_drew _) c1
        have c2 := kept (below_drew _) c2
        have c3 := kept (below_drew _) c3
        have c4 := kept (below_drew _) c4
        have bw := bw.drew
        refine wp_region_noPanic ?_
        refine wp_region_held_drew (S := fun w'' => Blk w'' (w.heap.size + 1) 42 PA ∧ Blk w'' wr.heap.size 42 QA ∧ w''.cell? ⟨w.heap.size + 1, 11, none⟩ = some (.int .i64 po) ∧ w''.cell? ⟨w.heap.size + 1, 12, none⟩ = some (.bool false) ∧ w''.cell? ⟨wr.heap.size, 11, none⟩ = some (.int .i64 qo) ∧ w''.cell? ⟨wr.heap.size, 12, none⟩ = some (.bool true)) (by kernel_rfl) (by exact ⟨hp, hq, c1, c2, c3, c4⟩) (fun hHeld => ?_)
        refine qtk (i := 0) (oi := fpz36o26) (v := (.pointer (some ⟨wr.heap.size, 12, none⟩))) hHeld ?_ ?_
        ·intro w9 hSw
         try dsimp only at hSw
         go_simp
        try simp only [qpu]
        refine qtk (i := 1) (oi := fpz36o24) (v := (.bool true)) hHeld ?_ ?_
        ·intro w9 hSw
         try dsimp only at hSw
         go_simp
        try simp only [qpu]
        refine qtk (i := 2) (oi := fpz36o23) (v := (.bool false)) hHeld ?_ ?_
        ·intro w9 hSw
         try dsimp only at hSw
         go_simp
        try simp only [qpu]
        refine qtk (i := 3) (oi := fpz36o25) (v := (.bool false)) hHeld ?_ ?_
        ·intro w9 hSw
         try dsimp only at hSw
         go_simp
        try simp only [qpu]
        refine qtn (i := 4) (oi := fpz36o22) hHeld ?_
        try simp only [qpu]
        refine qtn (i := 5) (oi := fpz36o15) hHeld ?_
        try simp only [qpu]
        refine qtn (i := 6) (oi := fpz36o13) hHeld ?_
        try simp only [qpu]
        refine qtn (i := 7) (oi := fpz36o9) hHeld ?_
        try simp only [qpu]
        refine qtn (i := 8) (oi := fpz36o19) hHeld ?_
        try simp only [qpu]
        refine qtn (i := 9) (oi := fpz36o3) hHeld ?_
        try simp only [qpu]
        refine qtn (i := 10) (oi := fpz36o20) hHeld ?_
        try simp only [qpu]
        refine qtn (i := 11) (oi := fpz36o2) hHeld ?_
        try simp only [qpu]
        refine qtn (i := 12) (oi := fpz36o5) hHeld ?_
        try simp only [qpu]
        refine qtn (i := 13) (oi := fpz36o7) hHeld ?_
        try simp only [qpu]
        refine qtk (i := 14) (oi := fpz36o10) (v := (.bool false)) hHeld ?_ ?_
        ·intro w9 hSw
         try dsimp only at hSw
         go_simp
        try simp only [qpu]
        refine qtk (i := 15) (oi := fpz36o16) (v := (.bool false)) hHeld ?_ ?_
        ·intro w9 hSw
         try dsimp only at hSw
         go_simp
        try simp only [qpu]
        refine qtk (i := 16) (oi := fpz36o21) (v := (.pointer (some ⟨w.heap.size + 1, 12, none⟩))) hHeld ?_ ?_
        ·intro w9 hSw
         try dsimp only at hSw
         go_simp
        try simp only [qpu]
        refine qtk (i := 17) (oi := fpz36o14) (v := (.bool false)) hHeld ?_ ?_
        ·intro w9 hSw
         try dsimp only at hSw
         go_simp
        try simp only [qpu]
        refine qtk (i := 18) (oi := fpz36o12) (v := (.bool true)) hHeld ?_ ?_
        ·intro w9 hSw
         try dsimp only at hSw
         go_simp
        try simp only [qpu]
        refine qtk (i := 19) (oi := fpz36o8) (v := (.bool true)) hHeld ?_ ?_
        ·intro w9 hSw
         try dsimp only at hSw
         go_simp
        try simp only [qpu]
        refine qty (i := 20) (oi := fpz36o17) (v := (.agg QA)) (yieldsIf_at (by rfl) _ _ rfl wr.heap.size 0 (by rfl) _ (fun _ h => h.2.1.at_) Try.underlying42 hsq) hHeld ?_
        try simp only [qpu]
        refine qty (i := 22) (oi := fpz36o18) (v := (.agg PA)) (yieldsIf_at (by rfl) _ _ rfl (w.heap.size + 1) 0 (by rfl) _ (fun _ h => h.1.at_) Try.underlying42 hsp) hHeld ?_
        try simp only [qpu]
        refine wpAnyH_ready (rs := [21]) (by kernel_rfl) (by simp) ?_
        refine AllReadyH.cons (o := fpz36o0) rfl (fun K hK => ?_) AllReadyH.nil
        go_simp
        refine Calls.mono (KQ.out _) ?_
        rintro e W29 ⟨rfl, bb⟩
        have hp := hp.kept bb
        have hq := hq.kept bb
        have c1 := kept bb c1
        have c2 := kept bb c2
        have c3 := kept bb c3
        have c4 := kept bb c4
        have bw := bel_tr bw bb
        refine hK.out _ _ ?_ (fun hHeld => ?_)
        ·exact ⟨hp, hq, c1, c2, c3, c4⟩
        clear hK K
        try simp only [qpu]
        refine wpAnyH_ready (rs := [23]) (by kernel_rfl) (by simp) ?_
        refine AllReadyH.cons (o := fpz36o1) rfl (fun K hK => ?_) AllReadyH.nil
        go_simp
        refine Calls.mono (KP.out _) ?_
        rintro e W30 ⟨rfl, bb⟩
        have hp := hp.kept bb
        have hq := hq.kept bb
        have c1 := kept bb c1
        have c2 := kept bb c2
        have c3 := kept bb c3
        have c4 := kept bb c4
        have bw := bel_tr bw bb
        refine hK.out _ _ ?_ (fun hHeld => ?_)
        ·exact ⟨hp, hq, c1, c2, c3, c4⟩
        clear hK K
        try simp only [qpu]
        refine qtk (i := 24) (oi := fpz36o4) (v := (.bool true)) hHeld ?_ ?_
        ·intro w9 hSw
         try dsimp only at hSw
         go_simp
        try simp only [qpu]
        refine qtk (i := 25) (oi := fpz36o6) (v := (.bool true)) hHeld ?_ ?_
        ·intro w9 hSw
         try dsimp only at hSw
         go_simp
        try simp only [qpu]
        refine qtk (i := 26) (oi := fpz36o11) (v := (.bool true)) hHeld ?_ ?_
        ·intro w9 hSw
         try dsimp only at hSw
         go_simp
        try simp only [qpu]
        refine wpAnyH_done (by kernel_rfl) ?_ _
        refine NoPanic.normal ?_
        have hR : R = true := HT.out (by rw [hC.out]; simp [e1, e2, ex])
        subst hR
        clear hHeld
        go_wp2
        go_ret
        exact ⟨rfl, bel_tr bel bw⟩
       ·have ex : decide (pe < qe') = false := decide_eq_false hx
        have ex2 : decide (qe' > pe) = false := decide_eq_false hx
        replace hx := Int.not_lt.1 hx
        have hp := hp.drew
        have hq := hq.drew
        have c1 := kept (below_drew _) c1
        have c2 := kept (below_drew _) c2
        have c3 := kept (below_drew _) c3
        have c4 := kept (below_drew _) c4
        have bw := bw.drew
        refine wp_region_noPanic ?_
        refine wp_region_held_drew (S := fun w'' => Blk w'' (w.heap.size + 1) 42 PA ∧ Blk w'' wr.heap.size 42 QA ∧ w''.cell? ⟨w.heap.size + 1, 11, none⟩ = some (.int .i64 po) ∧ w''.cell? ⟨w.heap.size + 1, 12, none⟩ = some (.bool false) ∧ w''.cell? ⟨wr.heap.size, 11, none⟩ = some (.int .i64 qo) ∧ w''.cell? ⟨wr.heap.size, 12, none⟩ = some (.bool true)) (by kernel_rfl) (by exact ⟨hp, hq, c1, c2, c3, c4⟩) (fun hHeld => ?_)
        refine qtk (i := 0) (oi := fpz36o26) (v := (.pointer (some ⟨wr.heap.size, 12, none⟩))) hHeld ?_ ?_
        ·intro w9 hSw
         try dsimp only at hSw
         go_simp
        try simp only [qpu]
        refine qtk (i := 1) (oi := fpz36o24) (v := (.bool true)) hHeld ?_ ?_
        ·intro w9 hSw
         try dsimp only at hSw
         go_simp
        try simp only [qpu]
        refine qtk (i := 2) (oi := fpz36o23) (v := (.bool false)) hHeld ?_ ?_
        ·intro w9 hSw
         try dsimp only at hSw
         go_simp
        try simp only [qpu]
        refine qtk (i := 3) (oi := fpz36o25) (v := (.bool false)) hHeld ?_ ?_
        ·intro w9 hSw
         try dsimp only at hSw
         go_simp
        try simp only [qpu]
        refine qtn (i := 4) (oi := fpz36o22) hHeld ?_
        try simp only [qpu]
        refine qtn (i := 5) (oi := fpz36o15) hHeld ?_
        try simp only [qpu]
        refine qtn (i := 6) (oi := fpz36o13) hHeld ?_
        try simp only [qpu]
        refine qtn (i := 7) (oi := fpz36o9) hHeld ?_
        try simp only [qpu]
        refine qtn (i := 8) (oi := fpz36o19) hHeld ?_
        try simp only [qpu]
        refine qtn (i := 9) (oi := fpz36o3) hHeld ?_
        try simp only [qpu]
        refine qtn (i := 10) (oi := fpz36o20) hHeld ?_
        try simp only [qpu]
        refine qtn (i := 11) (oi := fpz36o2) hHeld ?_
        try simp only [qpu]
        refine qtn (i := 12) (oi := fpz36o5) hHeld ?_
        try simp only [qpu]
        refine qtn (i := 13) (oi := fpz36o7) hHeld ?_
        try simp only [qpu]
        refine qtk (i := 14) (oi := fpz36o10) (v := (.bool false)) hHeld ?_ ?_
        ·intro w9 hSw
         try dsimp only at hSw
         go_simp
        try simp only [qpu]
        refine qtk (i := 15) (oi := fpz36o16) (v := (.bool false)) hHeld ?_ ?_
        ·intro w9 hSw
         try dsimp only at hSw
         go_simp
        try simp only [qpu]
        refine qtk (i := 16) (oi := fpz36o21) (v := (.pointer (some ⟨w.heap.size + 1, 12, none⟩))) hHeld ?_ ?_
        ·intro w9 hSw
         try dsimp only at hSw
         go_simp
        try simp only [qpu]
        refine qtk (i := 17) (oi := fpz36o14) (v := (.bool false)) hHeld ?_ ?_
        ·intro w9 hSw
         try dsimp only at hSw
         go_simp
        try simp only [qpu]
        refine qtk (i := 18) (oi := fpz36o12) (v := (.bool true)) hHeld ?_ ?_
        ·intro w9 hSw
         try dsimp only at hSw
         go_simp
        try simp only [qpu]
        refine qtk (i := 19) (oi := fpz36o8) (v := (.bool true)) hHeld ?_ ?_
        ·intro w9 hSw
         try dsimp only at hSw
         go_simp
        try simp only [qpu]
        refine qty (i := 20) (oi := fpz36o17) (v := (.agg QA)) (yieldsIf_at (by rfl) _ _ rfl wr.heap.size 0 (by rfl) _ (fun _ h => h.2.1.at_) Try.underlying42 hsq) hHeld ?_
        try simp only [qpu]
        refine qty (i := 22) (oi := fpz36o18) (v := (.agg PA)) (yieldsIf_at (by rfl) _ _ rfl (w.heap.size + 1) 0 (by rfl) _ (fun _ h => h.1.at_) Try.underlying42 hsp) hHeld ?_
        try simp only [qpu]
        refine wpAnyH_ready (rs := [21]) (by kernel_rfl) (by simp) ?_
        refine AllReadyH.cons (o := fpz36o0) rfl (fun K hK => ?_) AllReadyH.nil
        go_simp
        refine Calls.mono (KQ.out _) ?_
        rintro e W31 ⟨rfl, bb⟩
        have hp := hp.kept bb
        have hq := hq.kept bb
        have c1 := kept bb c1
        have c2 := kept bb c2
        have c3 := kept bb c3
        have c4 := kept bb c4
        have bw := bel_tr bw bb
        refine hK.out _ _ ?_ (fun hHeld => ?_)
        ·exact ⟨hp, hq, c1, c2, c3, c4⟩
        clear hK K
        try simp only [qpu]
        refine wpAnyH_ready (rs := [23]) (by kernel_rfl) (by simp) ?_
        refine AllReadyH.cons (o := fpz36o1) rfl (fun K hK => ?_) AllReadyH.nil
        go_simp
        refine Calls.mono (KP.out _) ?_
        rintro e W32 ⟨rfl, bb⟩
        have hp := hp.kept bb
        have hq := hq.kept bb
        have c1 := kept bb c1
        have c2 := kept bb c2
        have c3 := kept bb c3
        have c4 := kept bb c4
        have bw := bel_tr bw bb
        refine hK.out _ _ ?_ (fun hHeld => ?_)
        ·exact ⟨hp, hq, c1, c2, c3, c4⟩
        clear hK K
        try simp only [qpu]
        refine qtk (i := 24) (oi := fpz36o4) (v := (.bool false)) hHeld ?_ ?_
        ·intro w9 hSw
         try dsimp only at hSw
         go_simp
        try simp only [qpu]
        refine qtk (i := 25) (oi := fpz36o6) (v := (.bool false)) hHeld ?_ ?_
        ·intro w9 hSw
         try dsimp only at hSw
         go_simp
        try simp only [qpu]
        refine qtk (i := 26) (oi := fpz36o11) (v := (.bool false)) hHeld ?_ ?_
        ·intro w9 hSw
         try dsimp only at hSw
         go_simp
        try simp only [qpu]
        refine wpAnyH_done (by kernel_rfl) ?_ _
        refine NoPanic.normal ?_
        have HF' : Hid (∀ (j : Nat) (x : PkIn), j < k + 1 → g.ps[j]? = some x → clash1 p.p x.p = false) := HF.out (by rw [hC.out]; simp [e1, e2, ex])
        clear hHeld
        go_wp2
        exact ⟨⟨k + 1, by omega, by go_num, bw, HF'⟩, by simp [intOf]; omega⟩
      ·skip
       have hp := hp.drew
       have hq := hq.drew
       have c1 := kept (below_drew _) c1
       have c2 := kept (below_drew _) c2
       have c3 := kept (below_drew _) c3
       have c4 := kept (below_drew _) c4
       have bw := bw.drew
       refine wp_region_noPanic ?_
       refine wp_region_held_drew (S := fun w'' => Blk w'' (w.heap.size + 1) 42 PA ∧ Blk w'' wr.heap.size 42 QA ∧ w''.cell? ⟨w.heap.size + 1, 11, none⟩ = some (.int .i64 po) ∧ w''.cell? ⟨w.heap.size + 1, 12, none⟩ = some (.bool true) ∧ w''.cell? ⟨wr.heap.size, 11, none⟩ = some (.int .i64 qo) ∧ w''.cell? ⟨wr.heap.size, 12, none⟩ = some (.bool true)) (by kernel_rfl) (by exact ⟨hp, hq, c1, c2, c3, c4⟩) (fun hHeld => ?_)
       refine qtk (i := 0) (oi := fpz36o26) (v := (.pointer (some ⟨wr.heap.size, 12, none⟩))) hHeld ?_ ?_
       ·intro w9 hSw
        try dsimp only at hSw
        go_simp
       try simp only [qpu]
       refine qtk (i := 1) (oi := fpz36o24) (v := (.bool true)) hHeld ?_ ?_
       ·intro w9 hSw
        try dsimp only at hSw
        go_simp
       try simp only [qpu]
       refine qtk (i := 2) (oi := fpz36o23) (v := (.bool false)) hHeld ?_ ?_
       ·intro w9 hSw
        try dsimp only at hSw
        go_simp
       try simp only [qpu]
       refine qtk (i := 3) (oi := fpz36o25) (v := (.bool false)) hHeld ?_ ?_
       ·intro w9 hSw
        try dsimp only at hSw
        go_simp
       try simp only [qpu]
       refine qtn (i := 4) (oi := fpz36o22) hHeld ?_
       try simp only [qpu]
       refine qtn (i := 5) (oi := fpz36o15) hHeld ?_
       try simp only [qpu]
       refine qtn (i := 6) (oi := fpz36o13) hHeld ?_
       try simp only [qpu]
       refine qtn (i := 7) (oi := fpz36o9) hHeld ?_
       try simp only [qpu]
       refine qtn (i := 8) (oi := fpz36o19) hHeld ?_
       try simp only [qpu]
       refine qtn (i := 9) (oi := fpz36o3) hHeld ?_
       try simp only [qpu]
       refine qtn (i := 10) (oi := fpz36o20) hHeld ?_
       try simp only [qpu]
       refine qtn (i := 11) (oi := fpz36o2) hHeld ?_
       try simp only [qpu]
       refine qtn (i := 12) (oi := fpz36o5) hHeld ?_
       try simp only [qpu]
       refine qtn (i := 13) (oi := fpz36o7) hHeld ?_
       try simp only [qpu]
       refine qtk (i := 14) (oi := fpz36o10) (v := (.bool false)) hHeld ?_ ?_
       ·intro w9 hSw
        try dsimp only at hSw
        go_simp
       try simp only [qpu]
       refine qtk (i := 15) (oi := fpz36o16) (v := (.bool false)) hHeld ?_ ?_
       ·intro w9 hSw
        try dsimp only at hSw
        go_simp
       try simp only [qpu]
       refine qtk (i := 16) (oi := fpz36o21) (v := (.pointer (some ⟨w.heap.size + 1, 12, none⟩))) hHeld ?_ ?_
       ·intro w9 hSw
        try dsimp only at hSw
        go_simp
       try simp only [qpu]
       refine qtk (i := 17) (oi := fpz36o14) (v := (.bool true)) hHeld ?_ ?_
       ·intro w9 hSw
        try dsimp only at hSw
        go_simp
       try simp only [qpu]
       refine qtk (i := 18) (oi := fpz36o12) (v := (.bool false)) hHeld ?_ ?_
       ·intro w9 hSw
        try dsimp only at hSw
        go_simp
       try simp only [qpu]
       refine qtk (i := 19) (oi := fpz36o8) (v := (.bool false)) hHeld ?_ ?_
       ·intro w9 hSw
        try dsimp only at hSw
        go_simp
       try simp only [qpu]
       refine qtn (i := 20) (oi := fpz36o17) hHeld ?_
       try simp only [qpu]
       refine qtn (i := 21) (oi := fpz36o0) hHeld ?_
       try simp only [qpu]
       refine qtn (i := 22) (oi := fpz36o18) hHeld ?_
       try simp only [qpu]
       refine qtn (i := 23) (oi := fpz36o1) hHeld ?_
       try simp only [qpu]
       refine qtn (i := 24) (oi := fpz36o4) hHeld ?_
       try simp only [qpu]
       refine qtk (i := 25) (oi := fpz36o6) (v := (.bool false)) hHeld ?_ ?_
       ·intro w9 hSw
        try dsimp only at hSw
        go_simp
       try simp only [qpu]
       refine qtk (i := 26) (oi := fpz36o11) (v := (.bool false)) hHeld ?_ ?_
       ·intro w9 hSw
        try dsimp only at hSw
        go_simp
       try simp only [qpu]
       refine wpAnyH_done (by kernel_rfl) ?_ _
       refine NoPanic.normal ?_
       have HF' : Hid (∀ (j : Nat) (x : PkIn), j < k + 1 → g.ps[j]? = some x → clash1 p.p x.p = false) := HF.out (by rw [hC.out]; simp [e1, e2])
       clear hHeld
       go_wp2
       exact ⟨⟨k + 1, by omega, by go_num, bw, HF'⟩, by simp [intOf]; omega⟩
   ·have e1 : decide (po < qe') = false := decide_eq_false h1
    replace h1 := Int.not_lt.1 h1
    have hp := hp.drew
    have hq := hq.drew
    have c1 := kept (below_drew _) c1
    have c2 := kept (below_drew _) c2
    have c3 := kept (below_drew _) c3
    have c4 := kept (below_drew _) c4
    have bw := bw.drew
    refine wp_region_noPanic ?_
    refine wp_region_held_drew (S := fun w'' => Blk w'' (w.heap.size + 1) 42 PA ∧ Blk w'' wr.heap.size 42 QA ∧ w''.cell? ⟨w.heap.size + 1, 11, none⟩ = some (.int .i64 po) ∧ w''.cell? ⟨w.heap.size + 1, 12, none⟩ = some (.bool pm) ∧ w''.cell? ⟨wr.heap.size, 11, none⟩ = some (.int .i64 qo) ∧ w''.cell? ⟨wr.heap.size, 12, none⟩ = some (.bool qm)) (by kernel_rfl) (by exact ⟨hp, hq, c1, c2, c3, c4⟩) (fun hHeld => ?_)
    refine qtk (i := 0) (oi := fpz36o38) (v := (.pointer (some ⟨w.heap.size + 1, 11, none⟩))) hHeld ?_ ?_
    ·intro w9 hSw
     try dsimp only at hSw
     go_simp
    try simp only [qpu]
    refine qtk (i := 1) (oi := fpz36o36) (v := (.int .i64 po)) hHeld ?_ ?_
    ·intro w9 hSw
     try dsimp only at hSw
     go_simp
    try simp only [qpu]
    refine qty (i := 2) (oi := fpz36o37) (v := (.agg QA)) (yieldsIf_at (by rfl) _ _ rfl wr.heap.size 0 (by rfl) _ (fun _ h => h.2.1.at_) Try.underlying42 hsq) hHeld ?_
    try simp only [qpu]
    refine wpAnyH_ready (rs := [3]) (by kernel_rfl) (by simp) ?_
    refine AllReadyH.cons (o := fpz36o29) rfl (fun K hK => ?_) AllReadyH.nil
    go_simp
    refine Calls.mono (KQ.out _) ?_
    rintro e W33 ⟨rfl, bb⟩
    have hp := hp.kept bb
    have hq := hq.kept bb
    have c1 := kept bb c1
    have c2 := kept bb c2
    have c3 := kept bb c3
    have c4 := kept bb c4
    have bw := bel_tr bw bb
    refine hK.out _ _ ?_ (fun hHeld => ?_)
    ·exact ⟨hp, hq, c1, c2, c3, c4⟩
    clear hK K
    try simp only [qpu]
    refine qtk (i := 4) (oi := fpz36o30) (v := (.bool false)) hHeld ?_ ?_
    ·intro w9 hSw
     try dsimp only at hSw
     go_simp
    try simp only [qpu]
    refine qtk (i := 5) (oi := fpz36o33) (v := (.bool false)) hHeld ?_ ?_
    ·intro w9 hSw
     try dsimp only at hSw
     go_simp
    try simp only [qpu]
    refine qtn (i := 6) (oi := fpz36o35) hHeld ?_
    try simp only [qpu]
    refine qtn (i := 7) (oi := fpz36o32) hHeld ?_
    try simp only [qpu]
    refine qtn (i := 8) (oi := fpz36o34) hHeld ?_
    try simp only [qpu]
    refine qtn (i := 9) (oi := fpz36o27) hHeld ?_
    try simp only [qpu]
    refine qtn (i := 10) (oi := fpz36o28) hHeld ?_
    try simp only [qpu]
    refine qtk (i := 11) (oi := fpz36o31) (v := (.bool false)) hHeld ?_ ?_
    ·intro w9 hSw
     try dsimp only at hSw
     go_simp
    try simp only [qpu]
    refine wpAnyH_done (by kernel_rfl) ?_ _
    refine NoPanic.normal ?_
    go_wp2
    cases qm
    ·cases pm
     ·skip
      have hp := hp.drew
      have hq := hq.drew
      have c1 := kept (below_drew _) c1
      have c2 := kept (below_drew _) c2
      have c3 := kept (below_drew _) c3
      have c4 := kept (below_drew _) c4
      have bw := bw.drew
      refine wp_region_noPanic ?_
      refine wp_region_held_drew (S := fun w'' => Blk w'' (w.heap.size + 1) 42 PA ∧ Blk w'' wr.heap.size 42 QA ∧ w''.cell? ⟨w.heap.size + 1, 11, none⟩ = some (.int .i64 po) ∧ w''.cell? ⟨w.heap.size + 1, 12, none⟩ = some (.bool false) ∧ w''.cell? ⟨wr.heap.size, 11, none⟩ = some (.int .i64 qo) ∧ w''.cell? ⟨wr.heap.size, 12, none⟩ = some (.bool false)) (by kernel_rfl) (by exact ⟨hp, hq, c1, c2, c3, c4⟩) (fun hHeld => ?_)
      refine qtk (i := 0) (oi := fpz36o26) (v := (.pointer (some ⟨wr.heap.size, 12, none⟩))) hHeld ?_ ?_
      ·intro w9 hSw
       try dsimp only at hSw
       go_simp
      try simp only [qpu]
      refine qtk (i := 1) (oi := fpz36o24) (v := (.bool false)) hHeld ?_ ?_
      ·intro w9 hSw
       try dsimp only at hSw
       go_simp
      try simp only [qpu]
      refine qtk (i := 2) (oi := fpz36o23) (v := (.bool true)) hHeld ?_ ?_
      ·intro w9 hSw
       try dsimp only at hSw
       go_simp
      try simp only [qpu]
      refine qtk (i := 3) (oi := fpz36o25) (v := (.bool true)) hHeld ?_ ?_
      ·intro w9 hSw
       try dsimp only at hSw
       go_simp
      try simp only [qpu]
      refine qtk (i := 4) (oi := fpz36o22) (v := (.pointer (some ⟨w.heap.size + 1, 12, none⟩))) hHeld ?_ ?_
      ·intro w9 hSw
       try dsimp only at hSw
       go_simp
      try simp only [qpu]
      refine qtk (i := 5) (oi := fpz36o15) (v := (.bool false)) hHeld ?_ ?_
      ·intro w9 hSw
       try dsimp only at hSw
       go_simp
      try simp only [qpu]
      refine qtk (i := 6) (oi := fpz36o13) (v := (.bool true)) hHeld ?_ ?_
      ·intro w9 hSw
       try dsimp only at hSw
       go_simp
      try simp only [qpu]
      refine qtk (i := 7) (oi := fpz36o9) (v := (.bool true)) hHeld ?_ ?_
      ·intro w9 hSw
       try dsimp only at hSw
       go_simp
      try simp only [qpu]
      refine qtn (i := 8) (oi := fpz36o19) hHeld ?_
      try simp only [qpu]
      refine qtn (i := 9) (oi := fpz36o3) hHeld ?_
      try simp only [qpu]
      refine qtn (i := 10) (oi := fpz36o20) hHeld ?_
      try simp only [qpu]
      refine qtn (i := 11) (oi := fpz36o2) hHeld ?_
      try simp only [qpu]
      refine qtn (i := 12) (oi := fpz36o5) hHeld ?_
      try simp only [qpu]
      refine qtk (i := 13) (oi := fpz36o7) (v := (.bool true)) hHeld ?_ ?_
      ·intro w9 hSw
       try dsimp only at hSw
       go_simp
      try simp only [qpu]
      refine qtk (i := 14) (oi := fpz36o10) (v := (.bool true)) hHeld ?_ ?_
      ·intro w9 hSw
       try dsimp only at hSw
       go_simp
      try simp only [qpu]
      refine qtk (i := 15) (oi := fpz36o16) (v := (.bool true)) hHeld ?_ ?_
      ·intro w9 hSw
       try dsimp only at hSw
       go_simp
      try simp only [qpu]
      refine qtn (i := 16) (oi := fpz36o21) hHeld ?_
      try simp only [qpu]
      refine qtn (i := 17) (oi := fpz36o14) hHeld ?_
      try simp only [qpu]
      refine qtn (i := 18) (oi := fpz36o12) hHeld ?_
      try simp only [qpu]
      refine qtn (i := 19) (oi := fpz36o8) hHeld ?_
      try simp only [qpu]
      refine qtn (i := 20) (oi := fpz36o17) hHeld ?_
      try simp only [qpu]
      refine qtn (i := 21) (oi := fpz36o0) hHeld ?_
      try simp only [qpu]
      refine qtn (i := 22) (oi := fpz36o18) hHeld ?_
      try simp only [qpu]
      refine qtn (i := 23) (oi := fpz36o1) hHeld ?_
      try simp only [qpu]
      refine qtn (i := 24) (oi := fpz36o4) hHeld ?_
      try simp only [qpu]
      refine qtn (i := 25) (oi := fpz36o6) hHeld ?_
      try simp only [qpu]
      refine qtk (i := 26) (oi := fpz36o11) (v := (.bool true)) hHeld ?_ ?_
      ·intro w9 hSw
       try dsimp only at hSw
       go_simp
      try simp only [qpu]
      refine wpAnyH_done (by kernel_rfl) ?_ _
      refine NoPanic.normal ?_
      have hR : R = true := HT.out (by rw [hC.out]; simp [e1])
      subst hR
      clear hHeld
      go_wp2
      go_ret
      exact ⟨rfl, bel_tr bel bw⟩
     ·by_cases hx : qe' < pe
      ·have ex : decide (qe' < pe) = true := decide_eq_true hx
       have ex2 : decide (pe > qe') = true := decide_eq_true hx
       have hp := hp.drew
       have hq := hq.drew
       have c1 := kept (below_drew _) c1
       have c2 := kept (below_drew _) c2
       have c3 := kept (below_drew _) c3
       have c4 := kept (below_drew _) c4
       have bw := bw.drew
       refine wp_region_noPanic ?_
       refine wp_region_held_drew (S := fun w'' => Blk w'' (w.heap.size + 1) 42 PA ∧ Blk w'' wr.heap.size 42 QA ∧ w''.cell? ⟨w.heap.size + 1, 11, none⟩ = some (.int .i64 po) ∧ w''.cell? ⟨w.heap.size + 1, 12, none⟩ = some (.bool true) ∧ w''.cell? ⟨wr.heap.size, 11, none⟩ = some (.int .i64 qo) ∧ w''.cell? ⟨wr.heap.size, 12, none⟩ = some (.bool false)) (by kernel_rfl) (by exact ⟨hp, hq, c1, c2, c3, c4⟩) (fun hHeld => ?_)
       refine qtk (i := 0) (oi := fpz36o26) (v := (.pointer (some ⟨wr.heap.size, 12, none⟩))) hHeld ?_ ?_
       ·intro w9 hSw
        try dsimp only at hSw
        go_simp
       try simp only [qpu]
       refine qtk (i := 1) (oi := fpz36o24) (v := (.bool false)) hHeld ?_ ?_
       ·intro w9 hSw
        try dsimp only at hSw
        go_simp
       try simp only [qpu]
       refine qtk (i := 2) (oi := fpz36o23) (v := (.bool true)) hHeld ?_ ?_
       ·intro w9 hSw
        try dsimp only at hSw
        go_simp
       try simp only [qpu]
       refine qtk (i := 3) (oi := fpz36o25) (v := (.bool true)) hHeld ?_ ?_
       ·intro w9 hSw
        try dsimp only at hSw
        go_simp
       try simp only [qpu]
       refine qtk (i := 4) (oi := fpz36o22) (v := (.pointer (some ⟨w.heap.size + 1, 12, none⟩))) hHeld ?_ ?_
       ·intro w9 hSw
        try dsimp only at hSw
        go_simp
       try simp only [qpu]
       refine qtk (i := 5) (oi := fpz36o15) (v := (.bool true)) hHeld ?_ ?_
       ·intro w9 hSw
        try dsimp only at hSw
        go_simp
       try simp only [qpu]
       refine qtk (i := 6) (oi := fpz36o13) (v := (.bool false)) hHeld ?_ ?_
       ·intro w9 hSw
        try dsimp only at hSw
        go_simp
       try simp only [qpu]
       refine qtk (i := 7) (oi := fpz36o9) (v := (.bool false)) hHeld ?_ ?_
       ·intro w9 hSw
        try dsimp only at hSw
        go_simp
       try simp only [qpu]
       refine qty (i := 8) (oi := fpz36o19) (v := (.agg PA)) (yieldsIf_at (by rfl) _ _ rfl (w.heap.size + 1) 0 (by rfl) _ (fun _ h => h.1.at_) Try.underlying42 hsp) hHeld ?_
       try simp only [qpu]
       refine qty (i := 10) (oi := fpz36o20) (v := (.agg QA)) (yieldsIf_at (by rfl) _ _ rfl wr.heap.size 0 (by rfl) _ (fun _ h => h.2.1.at_) Try.underlying42 hsq) hHeld ?_
       try simp only [qpu]
       refine wpAnyH_ready (rs := [9]) (by kernel_rfl) (by simp) ?_
       refine AllReadyH.cons (o := fpz36o3) rfl (fun K hK => ?_) AllReadyH.nil
       go_simp
       refine Calls.mono (KP.out _) ?_
       rintro e W34 ⟨rfl, bb⟩
       have hp := hp.kept bb
       have hq := hq.kept bb
       have c1 := kept bb c1
       have c2 := kept bb c2
       have c3 := kept bb c3
       have c4 := kept bb c4
       have bw := bel_tr bw bb
       refine hK.out _ _ ?_ (fun hHeld => ?_)
       ·exact ⟨hp, hq, c1, c2, c3, c4⟩
       clear hK K
       try simp only [qpu]
       refine wpAnyH_ready (rs := [11]) (by kernel_rfl) (by simp) ?_
       refine AllReadyH.cons (o := fpz36o2) rfl (fun K hK => ?_) AllReadyH.nil
       go_simp
       refine Calls.mono (KQ.out _) ?_
       rintro e W35 ⟨rfl, bb⟩
       have hp := hp.kept bb
       have hq := hq.kept bb
       have c1 := kept bb c1
       have c2 := kept bb c2
       have c3 := kept bb c3
       have c4 := kept bb c4
       have bw := bel_tr bw bb
       refine hK.out _ _ ?_ (fun hHeld => ?_)
       ·exact ⟨hp, hq, c1, c2, c3, c4⟩
       clear hK K
       try simp only [qpu]
       refine qtk (i := 12) (oi := fpz36o5) (v := (.bool true)) hHeld ?_ ?_
       ·intro w9 hSw
        try dsimp only at hSw
        go_simp
       try simp only [qpu]
       refine qtk (i := 13) (oi := fpz36o7) (v := (.bool true)) hHeld ?_ ?_
       ·intro w9 hSw
        try dsimp only at hSw
        go_simp
       try simp only [qpu]
       refine qtk (i := 14) (oi := fpz36o10) (v := (.bool true)) hHeld ?_ ?_
       ·intro w9 hSw
        try dsimp only at hSw
        go_simp
       try simp only [qpu]
       refine qtk (i := 15) (oi := fpz36o16) (v := (.bool true)) hHeld ?_ ?_
       ·intro w9 hSw
        try dsimp only at hSw
        go_simp
       try simp only [qpu]
       refine qtn (i := 16) (oi := fpz36o21) hHeld ?_
       try simp only [qpu]
       refine qtn (i := 17) (oi := fpz36o14) hHeld ?_
       try simp only [qpu]
       refine qtn (i := 18) (oi := fpz36o12) hHeld ?_
       try simp only [qpu]
       refine qtn (i := 19) (oi := fpz36o8) hHeld ?_
       try simp only [qpu]
       refine qtn (i := 20) (oi := fpz36o17) hHeld ?_
       try simp only [qpu]
       refine qtn (i := 21) (oi := fpz36o0) hHeld ?_
       try simp only [qpu]
       refine qtn (i := 22) (oi := fpz36o18) hHeld ?_
       try simp only [qpu]
       refine qtn (i := 23) (oi := fpz36o1) hHeld ?_
       try simp only [qpu]
       refine qtn (i := 24) (oi := fpz36o4) hHeld ?_
       try simp only [qpu]
       refine qtn (i := 25) (oi := fpz36o6) hHeld ?_
       try simp only [qpu]
       refine qtk (i := 26) (oi := fpz36o11) (v := (.bool true)) hHeld ?_ ?_
       ·intro w9 hSw
        try dsimp only at hSw
        go_simp
       try simp only [qpu]
       refine wpAnyH_done (by kernel_rfl) ?_ _
       refine NoPanic.normal ?_
       have hR : R = true := HT.out (by rw [hC.out]; simp [e1, ex])
       subst hR
       clear hHeld
       go_wp2
       go_ret
       exact ⟨rfl, bel_tr bel bw⟩
      ·have ex : decide (qe' < pe) = false := decide_eq_false hx
       have ex2 : decide (pe > qe') = false := decide_eq_false hx
       replace hx := Int.not_lt.1 hx
       have hp := hp.drew
       have hq := hq.drew
       have c1 := kept (below_drew _) c1
       have c2 := kept (below_drew _) c2
       have c3 := kept (below_drew _) c3
       have c4 := kept (below_drew _) c4
       have bw := bw.drew
       refine wp_region_noPanic ?_
       refine wp_region_held_drew (S := fun w'' => Blk w'' (w.heap.size + 1) 42 PA ∧ Blk w'' wr.heap.size 42 QA ∧ w''.cell? ⟨w.heap.size + 1, 11, none⟩ = some (.int .i64 po) ∧ w''.cell? ⟨w.heap.size + 1, 12, none⟩ = some (.bool true) ∧ w''.cell? ⟨wr.heap.size, 11, none⟩ = some (.int .i64 qo) ∧ w''.cell? ⟨wr.heap.size, 12, none⟩ = some (.bool false)) (by kernel_rfl) (by exact ⟨hp, hq, c1, c2, c3, c4⟩) (fun hHeld => ?_)
       refine qtk (i := 0) (oi := fpz36o26) (v := (.pointer (some ⟨wr.heap.size, 12, none⟩))) hHeld ?_ ?_
       ·intro w9 hSw
        try dsimp only at hSw
        go_simp
       try simp only [qpu]
       refine qtk (i := 1) (oi := fpz36o24) (v := (.bool false)) hHeld ?_ ?_
       ·intro w9 hSw
        try dsimp only at hSw
        go_simp
       try simp only [qpu]
       refine qtk (i := 2) (oi := fpz36o23) (v := (.bool true)) hHeld ?_ ?_
       ·intro w9 hSw
        try dsimp only at hSw
        go_simp
       try simp only [qpu]
       refine qtk (i := 3) (oi := fpz36o25) (v := (.bool true)) hHeld ?_ ?_
       ·intro w9 hSw
        try dsimp only at hSw
        go_simp
       try simp only [qpu]
       refine qtk (i := 4) (oi := fpz36o22) (v := (.pointer (some ⟨w.heap.size + 1, 12, none⟩))) hHeld ?_ ?_
       ·intro w9 hSw
        try dsimp only at hSw
        go_simp
       try simp only [qpu]
       refine qtk (i := 5) (oi := fpz36o15) (v := (.bool true)) hHeld ?_ ?_
       ·intro w9 hSw
        try dsimp only at hSw
        go_simp
       try simp only [qpu]
       refine qtk (i := 6) (oi := fpz36o13) (v := (.bool false)) hHeld ?_ ?_
       ·intro w9 hSw
        try dsimp only at hSw
        go_simp
       try simp only [qpu]
       refine qtk (i := 7) (oi := fpz36o9) (v := (.bool false)) hHeld ?_ ?_
       ·intro w9 hSw
        try dsimp only at hSw
        go_simp
       try simp only [qpu]
       refine qty (i := 8) (oi := fpz36o19) (v := (.agg PA)) (yieldsIf_at (by rfl) _ _ rfl (w.heap.size + 1) 0 (by rfl) _ (fun _ h => h.1.at_) Try.underlying42 hsp) hHeld ?_
       try simp only [qpu]
       refine qty (i := 10) (oi := fpz36o20) (v := (.agg QA)) (yieldsIf_at (by rfl) _ _ rfl wr.heap.size 0 (by rfl) _ (fun _ h => h.2.1.at_) Try.underlying42 hsq) hHeld ?_
       try simp only [qpu]
       refine wpAnyH_ready (rs := [9]) (by kernel_rfl) (by simp) ?_
       refine AllReadyH.cons (o := fpz36o3) rfl (fun K hK => ?_) AllReadyH.nil
       go_simp
       refine Calls.mono (KP.out _) ?_
       rintro e W36 ⟨rfl, bb⟩
       have hp := hp.kept bb
       have hq := hq.kept bb
       have c1 := kept bb c1
       have c2 := kept bb c2
       have c3 := kept bb c3
       have c4 := kept bb c4
       have bw := bel_tr bw bb
       refine hK.out _ _ ?_ (fun hHeld => ?_)
       ·exact ⟨hp, hq, c1, c2, c3, c4⟩
       clear hK K
       try simp only [qpu]
       refine wpAnyH_ready (rs := [11]) (by kernel_rfl) (by simp) ?_
       refine AllReadyH.cons (o := fpz36o2) rfl (fun K hK => ?_) AllReadyH.nil
       go_simp
       refine Calls.mono (KQ.out _) ?_
       rintro e W37 ⟨rfl, bb⟩
       have hp := hp.kept bb
       have hq := hq.kept bb
       have c1 := kept bb c1
       have c2 := kept bb c2
       have c3 := kept bb c3
       have c4 := kept bb c4
       have bw := bel_tr bw bb
       refine hK.out _ _ ?_ (fun hHeld => ?_)
       ·exact ⟨hp, hq, c1, c2, c3, c4⟩
       clear hK K
       try simp only [qpu]
       refine qtk (i := 12) (oi := fpz36o5) (v := (.bool false)) hHeld ?_ ?_
       ·intro w9 hSw
        try dsimp only at hSw
        go_simp
       try simp only [qpu]
       refine qtk (i := 13) (oi := fpz36o7) (v := (.bool false)) hHeld ?_ ?_
       ·intro w9 hSw
        try dsimp only at hSw
        go_simp
       try simp only [qpu]
       refine qtk (i := 14) (oi := fpz36o10) (v := (.bool false)) hHeld ?_ ?_
       ·intro w9 hSw
        try dsimp only at hSw
        go_simp
       try simp only [qpu]
       refine qtk (i := 15) (oi := fpz36o16) (v := (.bool false)) hHeld ?_ ?_
       ·intro w9 hSw
        try dsimp only at hSw
        go_simp
       try simp only [qpu]
       refine qtk (i := 16) (oi := fpz36o21) (v := (.pointer (some ⟨w.heap.size + 1, 12, none⟩))) hHeld ?_ ?_
       ·intro w9 hSw
        try dsimp only at hSw
        go_simp
       try simp only [qpu]
       refine qtk (i := 17) (oi := fpz36o14) (v := (.bool true)) hHeld ?_ ?_
       ·intro w9 hSw
        try dsimp only at hSw
        go_simp
       try simp only [qpu]
       refine qtk (i := 18) (oi := fpz36o12) (v := (.bool false)) hHeld ?_ ?_
       ·intro w9 hSw
        try dsimp only at hSw
        go_simp
       try simp only [qpu]
       refine qtk (i := 19) (oi := fpz36o8) (v := (.bool false)) hHeld ?_ ?_
       ·intro w9 hSw
        try dsimp only at hSw
        go_simp
       try simp only [qpu]
       refine qtn (i := 20) (oi := fpz36o17) hHeld ?_
       try simp only [qpu]
       refine qtn (i := 21) (oi := fpz36o0) hHeld ?_
       try simp only [qpu]
       refine qtn (i := 22) (oi := fpz36o18) hHeld ?_
       try simp only [qpu]
       refine qtn (i := 23) (oi := fpz36o1) hHeld ?_
       try simp only [qpu]
       refine qtn (i := 24) (oi := fpz36o4) hHeld ?_
       try simp only [qpu]
       refine qtk (i := 25) (oi := fpz36o6) (v := (.bool false)) hHeld ?_ ?_
       ·intro w9 hSw
        try dsimp only at hSw
        go_simp
       try simp only [qpu]
       refine qtk (i := 26) (oi := fpz36o11) (v := (.bool false)) hHeld ?_ ?_
       ·intro w9 hSw
        try dsimp only at hSw
        go_simp
       try simp only [qpu]
       refine wpAnyH_done (by kernel_rfl) ?_ _
       refine NoPanic.normal ?_
       have HF' : Hid (∀ (j : Nat) (x : PkIn), j < k + 1 → g.ps[j]? = some x → clash1 p.p x.p = false) := HF.out (by rw [hC.out]; simp [e1, ex])
       clear hHeld
       go_wp2
       exact ⟨⟨k + 1, by omega, by go_num, bw, HF'⟩, by simp [intOf]; omega⟩
    ·cases pm
     ·by_cases hx : pe < qe'
      ·have ex : decide (pe < qe') = true := decide_eq_true hx
       have ex2 : decide (qe' > pe) = true := decide_eq_true hx
       have hp := hp.drew
       have hq := hq.drew
       have c1 := kept (below_drew _) c1
       have c2 := kept (below_drew _) c2
       have c3 := kept (below_drew _) c3
       have c4 := kept (below_drew _) c4
       have bw := bw.drew
       refine wp_region_noPanic ?_
       refine wp_region_held_drew (S := fun w'' => Blk w'' (w.heap.size + 1) 42 PA ∧ Blk w'' wr.heap.size 42 QA ∧ w''.cell? ⟨w.heap.size + 1, 11, none⟩ = some (.int .i64 po) ∧ w''.cell? ⟨w.heap.size + 1, 12, none⟩ = some (.bool false) ∧ w''.cell? ⟨wr.heap.size, 11, none⟩ = some (.int .i64 qo) ∧ w''.cell? ⟨wr.heap.size, 12, none⟩ = some (.bool true)) (by kernel_rfl) (by exact ⟨hp, hq, c1, c2, c3, c4⟩) (fun hHeld => ?_)
       refine qtk (i := 0) (oi := fpz36o26) (v := (.pointer (some ⟨wr.heap.size, 12, none⟩))) hHeld ?_ ?_
       ·intro w9 hSw
        try dsimp only at hSw
        go_simp
       try simp only [qpu]
       refine qtk (i := 1) (oi := fpz36o24) (v := (.bool true)) hHeld ?_ ?_
       ·intro w9 hSw
        try dsimp only at hSw
        go_simp
       try simp only [qpu]
       refine qtk (i := 2) (oi := fpz36o23) (v := (.bool false)) hHeld ?_ ?_
       ·intro w9 hSw
        try dsimp only at hSw
        go_simp
       try simp only [qpu]
       refine qtk (i := 3) (oi := fpz36o25) (v := (.bool false)) hHeld ?_ ?_
       ·intro w9 hSw
        try dsimp only at hSw
        go_simp
       try simp only [qpu]
       refine qtn (i := 4) (oi := fpz36o22) hHeld ?_
       try simp only [qpu]
       refine qtn (i := 5) (oi := fpz36o15) hHeld ?_
       try simp only [qpu]
       refine qtn (i := 6) (oi := fpz36o13) hHeld ?_
       try simp only [qpu]
       refine qtn (i := 7) (oi := fpz36o9) hHeld ?_
       try simp only [qpu]
       refine qtn (i := 8) (oi := fpz36o19) hHeld ?_
       try simp only [qpu]
       refine qtn (i := 9) (oi := fpz36o3) hHeld ?_
       try simp only [qpu]
       refine qtn (i := 10) (oi := fpz36o20) hHeld ?_
       try simp only [qpu]
       refine qtn (i := 11) (oi := fpz36o2) hHeld ?_
       try simp only [qpu]
       refine qtn (i := 12) (oi := fpz36o5) hHeld ?_
       try simp only [qpu]
       refine qtn (i := 13) (oi := fpz36o7) hHeld ?_
       try simp only [qpu]
       refine qtk (i := 14) (oi := fpz36o10) (v := (.bool false)) hHeld ?_ ?_
       ·intro w9 hSw
        try dsimp only at hSw
        go_simp
       try simp only [qpu]
       refine qtk (i := 15) (oi := fpz36o16) (v := (.bool false)) hHeld ?_ ?_
       ·intro w9 hSw
        try dsimp only at hSw
        go_simp
       try simp only [qpu]
       refine qtk (i := 16) (oi := fpz36o21) (v := (.pointer (some ⟨w.heap.size + 1, 12, none⟩))) hHeld ?_ ?_
       ·intro w9 hSw
        try dsimp only at hSw
        go_simp
       try simp only [qpu]
       refine qtk (i := 17) (oi := fpz36o14) (v := (.bool false)) hHeld ?_ ?_
       ·intro w9 hSw
        try dsimp only at hSw
        go_simp
       try simp only [qpu]
       refine qtk (i := 18) (oi := fpz36o12) (v := (.bool true)) hHeld ?_ ?_
       ·intro w9 hSw
        try dsimp only at hSw
        go_simp
       try simp only [qpu]
       refine qtk (i := 19) (oi := fpz36o8) (v := (.bool true)) hHeld ?_ ?_
       ·intro w9 hSw
        try dsimp only at hSw
        go_simp
       try simp only [qpu]
       refine qty (i := 20) (oi := fpz36o17) (v := (.agg QA)) (yieldsIf_at (by rfl) _ _ rfl wr.heap.size 0 (by rfl) _ (fun _ h => h.2.1.at_) Try.underlying42 hsq) hHeld ?_
       try simp only [qpu]
       refine qty (i := 22) (oi := fpz36o18) (v := (.agg PA)) (yieldsIf_at (by rfl) _ _ rfl (w.heap.size + 1) 0 (by rfl) _ (fun _ h => h.1.at_) Try.underlying42 hsp) hHeld ?_
       try simp only [qpu]
       refine wpAnyH_ready (rs := [21]) (by kernel_rfl) (by simp) ?_
       refine AllReadyH.cons (o := fpz36o0) rfl (fun K hK => ?_) AllReadyH.nil
       go_simp
       refine Calls.mono (KQ.out _) ?_
       rintro e W38 ⟨rfl, bb⟩
       have hp := hp.kept bb
       have hq := hq.kept bb
       have c1 := kept bb c1
       have c2 := kept bb c2
       have c3 := kept bb c3
       have c4 := kept bb c4
       have bw := bel_tr bw bb
       refine hK.out _ _ ?_ (fun hHeld => ?_)
       ·exact ⟨hp, hq, c1, c2, c3, c4⟩
       clear hK K
       try simp only [qpu]
       refine wpAnyH_ready (rs := [23]) (by kernel_rfl) (by simp) ?_
       refine AllReadyH.cons (o := fpz36o1) rfl (fun K hK => ?_) AllReadyH.nil
       go_simp
       refine Calls.mono (KP.out _) ?_
       rintro e W39 ⟨rfl, bb⟩
       have hp := hp.kept bb
       have hq := hq.kept bb
       have c1 := kept bb c1
       have c2 := kept bb c2
       have c3 := kept bb c3
       have c4 := kept bb c4
       have bw := bel_tr bw bb
       refine hK.out _ _ ?_ (fun hHeld => ?_)
       ·exact ⟨hp, hq, c1, c2, c3, c4⟩
       clear hK K
       try simp only [qpu]
       refine qtk (i := 24) (oi := fpz36o4) (v := (.bool true)) hHeld ?_ ?_
       ·intro w9 hSw
        try dsimp only at hSw
        go_simp
       try simp only [qpu]
       refine qtk (i := 25) (oi := fpz36o6) (v := (.bool true)) hHeld ?_ ?_
       ·intro w9 hSw
        try dsimp only at hSw
        go_simp
       try simp only [qpu]
       refine qtk (i := 26) (oi := fpz36o11) (v := (.bool true)) hHeld ?_ ?_
       ·intro w9 hSw
        try dsimp only at hSw
        go_simp
       try simp only [qpu]
       refine wpAnyH_done (by kernel_rfl) ?_ _
       refine NoPanic.normal ?_
       have hR : R = true := HT.out (by rw [hC.out]; simp [e1, ex])
       subst hR
       clear hHeld
       go_wp2
       go_ret
       exact ⟨rfl, bel_tr bel bw⟩
      ·have ex : decide (pe < qe') = false := decide_eq_false hx
       have ex2 : decide (qe' > pe) = false := decide_eq_false hx
       replace hx := Int.not_lt.1 hx
       have hp := hp.drew
       have hq := hq.drew
       have c1 := kept (below_drew _) c1
       have c2 := kept (below_drew _) c2
       have c3 := kept (below_drew _) c3
       have c4 := kept (below_drew _) c4
       have bw := bw.drew
       refine wp_region_noPanic ?_
       refine wp_region_held_drew (S := fun w'' => Blk w'' (w.heap.size + 1) 42 PA ∧ Blk w'' wr.heap.size 42 QA ∧ w''.cell? ⟨w.heap.size + 1, 11, none⟩ = some (.int .i64 po) ∧ w''.cell? ⟨w.heap.size + 1, 12, none⟩ = some (.bool false) ∧ w''.cell? ⟨wr.heap.size, 11, none⟩ = some (.int .i64 qo) ∧ w''.cell? ⟨wr.heap.size, 12, none⟩ = some (.bool true)) (by kernel_rfl) (by exact ⟨hp, hq, c1, c2, c3, c4⟩) (fun hHeld => ?_)
       refine qtk (i := 0) (oi := fpz36o26) (v := (.pointer (some ⟨wr.heap.size, 12, none⟩))) hHeld ?_ ?_
       ·intro w9 hSw
        try dsimp only at hSw
        go_simp
       try simp only [qpu]
       refine qtk (i := 1) (oi := fpz36o24) (v := (.bool true)) hHeld ?_ ?_
       ·intro w9 hSw
        try dsimp only at hSw
        go_simp
       try simp only [qpu]
       refine qtk (i := 2) (oi := fpz36o23) (v := (.bool false)) hHeld ?_ ?_
       ·intro w9 hSw
        try dsimp only at hSw
        go_simp
       try simp only [qpu]
       refine qtk (i := 3) (oi := fpz36o25) (v := (.bool false)) hHeld ?_ ?_
       ·intro w9 hSw
        try dsimp only at hSw
        go_simp
       try simp only [qpu]
       refine qtn (i := 4) (oi := fpz36o22) hHeld ?_
       try simp only [qpu]
       refine qtn (i := 5) (oi := fpz36o15) hHeld ?_
       try simp only [qpu]
       refine qtn (i := 6) (oi := fpz36o13) hHeld ?_
       try simp only [qpu]
       refine qtn (i := 7) (oi := fpz36o9) hHeld ?_
       try simp only [qpu]
       refine qtn (i := 8) (oi := fpz36o19) hHeld ?_
       try simp only [qpu]
       refine qtn (i := 9) (oi := fpz36o3) hHeld ?_
       try simp only [qpu]
       refine qtn (i := 10) (oi := fpz36o20) hHeld ?_
       try simp only [qpu]
       refine qtn (i := 11) (oi := fpz36o2) hHeld ?_
       try simp only [qpu]
       refine qtn (i := 12) (oi := fpz36o5) hHeld ?_
       try simp only [qpu]
       refine qtn (i := 13) (oi := fpz36o7) hHeld ?_
       try simp only [qpu]
       refine qtk (i := 14) (oi := fpz36o10) (v := (.bool false)) hHeld ?_ ?_
       ·intro w9 hSw
        try dsimp only at hSw
        go_simp
       try simp only [qpu]
       refine qtk (i := 15) (oi := fpz36o16) (v := (.bool false)) hHeld ?_ ?_
       ·intro w9 hSw
        try dsimp only at hSw
        go_simp
       try simp only [qpu]
       refine qtk (i := 16) (oi := fpz36o21) (v := (.pointer (some ⟨w.heap.size + 1, 12, none⟩))) hHeld ?_ ?_
       ·intro w9 hSw
        try dsimp only at hSw
        go_simp
       try simp only [qpu]
       refine qtk (i := 17) (oi := fpz36o14) (v := (.bool false)) hHeld ?_ ?_
       ·intro w9 hSw
        try dsimp only at hSw
        go_simp
       try simp only [qpu]
       refine qtk (i := 18) (oi := fpz36o12) (v := (.bool true)) hHeld ?_ ?_
       ·intro w9 hSw
        try dsimp only at hSw
        go_simp
       try simp only [qpu]
       refine qtk (i := 19) (oi := fpz36o8) (v := (.bool true)) hHeld ?_ ?_
       ·intro w9 hSw
        try dsimp only at hSw
        go_simp
       try simp only [qpu]
       refine qty (i := 20) (oi := fpz36o17) (v := (.agg QA)) (yieldsIf_at (by rfl) _ _ rfl wr.heap.size 0 (by rfl) _ (fun _ h => h.2.1.at_) Try.underlying42 hsq) hHeld ?_
       try simp only [qpu]
       refine qty (i := 22) (oi := fpz36o18) (v := (.agg PA)) (yieldsIf_at (by rfl) _ _ rfl (w.heap.size + 1) 0 (by rfl) _ (fun _ h => h.1.at_) Try.underlying42 hsp) hHeld ?_
       try simp only [qpu]
       refine wpAnyH_ready (rs := [21]) (by kernel_rfl) (by simp) ?_
       refine AllReadyH.cons (o := fpz36o0) rfl (fun K hK => ?_) AllReadyH.nil
       go_simp
       refine Calls.mono (KQ.out _) ?_
       rintro e W40 ⟨rfl, bb⟩
       have hp := hp.kept bb
       have hq := hq.kept bb
       have c1 := kept bb c1
       have c2 := kept bb c2
       have c3 := kept bb c3
       have c4 := kept bb c4
       have bw := bel_tr bw bb
       refine hK.out _ _ ?_ (fun hHeld => ?_)
       ·exact ⟨hp, hq, c1, c2, c3, c4⟩
       clear hK K
       try simp only [qpu]
       refine wpAnyH_ready (rs := [23]) (by kernel_rfl) (by simp) ?_
       refine AllReadyH.cons (o := fpz36o1) rfl (fun K hK => ?_) AllReadyH.nil
       go_simp
       refine Calls.mono (KP.out _) ?_
       rintro e W41 ⟨rfl, bb⟩
       have hp := hp.kept bb
       have hq := hq.kept bb
       have c1 := kept bb c1
       have c2 := kept bb c2
       have c3 := kept bb c3
       have c4 := kept bb c4
       have bw := bel_tr bw bb
       refine hK.out _ _ ?_ (fun hHeld => ?_)
       ·exact ⟨hp, hq, c1, c2, c3, c4⟩
       clear hK K
       try simp only [qpu]
       refine qtk (i := 24) (oi := fpz36o4) (v := (.bool false)) hHeld ?_ ?_
       ·intro w9 hSw
        try dsimp only at hSw
        go_simp
       try simp only [qpu]
       refine qtk (i := 25) (oi := fpz36o6) (v := (.bool false)) hHeld ?_ ?_
       ·intro w9 hSw
        try dsimp only at hSw
        go_simp
       try simp only [qpu]
       refine qtk (i := 26) (oi := fpz36o11) (v := (.bool false)) hHeld ?_ ?_
       ·intro w9 hSw
        try dsimp only at hSw
        go_simp
       try simp only [qpu]
       refine wpAnyH_done (by kernel_rfl) ?_ _
       refine NoPanic.normal ?_
       have HF' : Hid (∀ (j : Nat) (x : PkIn), j < k + 1 → g.ps[j]? = some x → clash1 p.p x.p = false) := HF.out (by rw [hC.out]; simp [e1, ex])
       clear hHeld
       go_wp2
       exact ⟨⟨k + 1, by omega, by go_num, bw, HF'⟩, by simp [intOf]; omega⟩
     ·skip
      have hp := hp.drew
      have hq := hq.drew
      have c1 := kept (below_drew _) c1
      have c2 := kept (below_drew _) c2
      have c3 := kept (below_drew _) c3
      have c4 := kept (below_drew _) c4
      have bw := bw.drew
      refine wp_region_noPanic ?_
      refine wp_region_held_drew (S := fun w'' => Blk w'' (w.heap.size + 1) 42 PA ∧ Blk w'' wr.heap.size 42 QA ∧ w''.cell? ⟨w.heap.size + 1, 11, none⟩ = some (.int .i64 po) ∧ w''.cell? ⟨w.heap.size + 1, 12, none⟩ = some (.bool true) ∧ w''.cell? ⟨wr.heap.size, 11, none⟩ = some (.int .i64 qo) ∧ w''.cell? ⟨wr.heap.size, 12, none⟩ = some (.bool true)) (by kernel_rfl) (by exact ⟨hp, hq, c1, c2, c3, c4⟩) (fun hHeld => ?_)
      refine qtk (i := 0) (oi := fpz36o26) (v := (.pointer (some ⟨wr.heap.size, 12, none⟩))) hHeld ?_ ?_
      ·intro w9 hSw
       try dsimp only at hSw
       go_simp
      try simp only [qpu]
      refine qtk (i := 1) (oi := fpz36o24) (v := (.bool true)) hHeld ?_ ?_
      ·intro w9 hSw
       try dsimp only at hSw
       go_simp
      try simp only [qpu]
      refine qtk (i := 2) (oi := fpz36o23) (v := (.bool false)) hHeld ?_ ?_
      ·intro w9 hSw
       try dsimp only at hSw
       go_simp
      try simp only [qpu]
      refine qtk (i := 3) (oi := fpz36o25) (v := (.bool false)) hHeld ?_ ?_
      ·intro w9 hSw
       try dsimp only at hSw
       go_simp
      try simp only [qpu]
      refine qtn (i := 4) (oi := fpz36o22) hHeld ?_
      try simp only [qpu]
      refine qtn (i := 5) (oi := fpz36o15) hHeld ?_
      try simp only [qpu]
      refine qtn (i := 6) (oi := fpz36o13) hHeld ?_
      try simp only [qpu]
      refine qtn (i := 7) (oi := fpz36o9) hHeld ?_
      try simp only [qpu]
      refine qtn (i := 8) (oi := fpz36o19) hHeld ?_
      try simp only [qpu]
      refine qtn (i := 9) (oi := fpz36o3) hHeld ?_
      try simp only [qpu]
      refine qtn (i := 10) (oi := fpz36o20) hHeld ?_
      try simp only [qpu]
      refine qtn (i := 11) (oi := fpz36o2) hHeld ?_
      try simp only [qpu]
      refine qtn (i := 12) (oi := fpz36o5) hHeld ?_
      try simp only [qpu]
      refine qtn (i := 13) (oi := fpz36o7) hHeld ?_
      try simp only [qpu]
      refine qtk (i := 14) (oi := fpz36o10) (v := (.bool false)) hHeld ?_ ?_
      ·intro w9 hSw
       try dsimp only at hSw
       go_simp
      try simp only [qpu]
      refine qtk (i := 15) (oi := fpz36o16) (v := (.bool false)) hHeld ?_ ?_
      ·intro w9 hSw
       try dsimp only at hSw
       go_simp
      try simp only [qpu]
      refine qtk (i := 16) (oi := fpz36o21) (v := (.pointer (some ⟨w.heap.size + 1, 12, none⟩))) hHeld ?_ ?_
      ·intro w9 hSw
       try dsimp only at hSw
       go_simp
      try simp only [qpu]
      refine qtk (i := 17) (oi := fpz36o14) (v := (.bool true)) hHeld ?_ ?_
      ·intro w9 hSw
       try dsimp only at hSw
       go_simp
      try simp only [qpu]
      refine qtk (i := 18) (oi := fpz36o12) (v := (.bool false)) hHeld ?_ ?_
      ·intro w9 hSw
       try dsimp only at hSw
       go_simp
      try simp only [qpu]
      refine qtk (i := 19) (oi := fpz36o8) (v := (.bool false)) hHeld ?_ ?_
      ·intro w9 hSw
       try dsimp only at hSw
       go_simp
      try simp only [qpu]
      refine qtn (i := 20) (oi := fpz36o17) hHeld ?_
      try simp only [qpu]
      refine qtn (i := 21) (oi := fpz36o0) hHeld ?_
      try simp only [qpu]
      refine qtn (i := 22) (oi := fpz36o18) hHeld ?_
      try simp only [qpu]
      refine qtn (i := 23) (oi := fpz36o1) hHeld ?_
      try simp only [qpu]
      refine qtn (i := 24) (oi := fpz36o4) hHeld ?_
      try simp only [qpu]
      refine qtk (i := 25) (oi := fpz36o6) (v := (.bool false)) hHeld ?_ ?_
      ·intro w9 hSw
       try dsimp only at hSw
       go_simp
      try simp only [qpu]
      refine qtk (i := 26) (oi := fpz36o11) (v := (.bool false)) hHeld ?_ ?_
      ·intro w9 hSw
       try dsimp only at hSw
       go_simp
      try simp only [qpu]
      refine wpAnyH_done (by kernel_rfl) ?_ _
      refine NoPanic.normal ?_
      have HF' : Hid (∀ (j : Nat) (x : PkIn), j < k + 1 → g.ps[j]? = some x → clash1 p.p x.p = false) := HF.out (by rw [hC.out]; simp [e1])
      clear hHeld
      go_wp2
      exact ⟨⟨k + 1, by omega, by go_num, bw, HF'⟩, by simp [intOf]; omega⟩
  ·have ik : ¬ (k : Int) < (N : Int) := by omega
   have e : R = false := by
    rw [← HR.out, List.any_eq_false]
    intro x hx
    obtain ⟨j, hj⟩ := List.getElem?_of_mem hx
    have hjl : j < g.ps.length := (List.getElem?_eq_some_iff.1 hj).1
    rw [qe.out j x (by have := HN.out; omega) hj]
    decide
   subst e
   clear qe
   go_wp2
   go_ret
   exact ⟨rfl, bel_tr bel bw⟩
end Go.Proofs.Ytkeeidfpgfdldaa
