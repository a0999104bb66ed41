/- Texts joined: ChunkOwnWalk -/
import Derived.Test.YtgppfkbapieneaaDoorCox41
namespace Go.Proofs.YtgppfkbapieneaaDoor
open Go.RowKit
set_option linter.unusedVariables false
set_option linter.unusedSimpArgs false
theorem yieldsIf_neq {ops : Array Oper} {S : World → Prop} {o : Oper} {ac : Act} (hw : Region.wanted o (yielded ops ac.tmps) = true) (t t' : TypeId) (x y : Operand) (ho : o.op = Op.binOp BinOp.neq t x y t') (v1 v2 : Array Value) (hx : ac.eval x = .agg v1) (hy : ac.eval y = .agg v2) (r : Value)
    (hm : Tryd.prog.eqGuardType Tryd.prog.depth t = false) (hr : ∀ W, (binOp .neq t (.agg v1) (.agg v2)).run Tryd.prog W = .ok r W) : YieldsIf Tryd.prog ops S o r ac := by
  refine .inl ⟨hw, fun w hw' => ?_⟩
  simp only [execOp, ho, hx, hy, Sem.run_bind, run_eqGuard_agg (P := Tryd.prog) w _ _ _ _ _ _ hm, Result.andThen_ok, hr, Sem.run_pure]
set_option maxRecDepth 100000 in
set_option maxHeartbeats 16000000 in
theorem chunkOwn_walk (a : Option Addr) (c : Nat) (l : List Rl) (dim : Int) (w : World) (lc : l.length ≤ c) (cm : c * 136 ≤ 140737488351232 ∧ (a = none → c = 0)) (hrow : RowR w a l) (hT : Top w) : Calls Tryd.prog 9 #[.slice a l.length c, .int .i64 dim] w fun e w' => e = .returned (.bool true) ∧ Below w.heap.size w w' := by
  have KA : Hid (∀ W, Top W → Calls Tryd.prog 13 #[] W fun e w' => e = .returned (.bool true) ∧ Below W.heap.size W w') := alive_ck
  have HT : Hid (Top w) := hT
  have HRow : Hid (RowR w a l) := hrow
  have hsr : Hid (∀ r : Rl, (Tryd.prog.info? 55).map (·.size) = some r.v.size) := info_rl
  have HNE : Hid (∀ (r : Rl) W, (binOp .neq 55 (.agg r.v) (.agg r.v)).run Tryd.prog W = .ok (.bool false) W) := rule_neq
  obtain ⟨a', c', X1, hr1, O1, b1⟩ := run_appRs w 22 w.heap.size none 0 [] (OwnR.nil _ _) a c l hrow cm.2 (by simp only [List.length_nil]; omega) (Nat.le_refl _)
  rw [List.nil_append, List.length_nil] at hr1
  rw [List.nil_append] at O1
  have HWas : Hid (RowR X1 a' l) := O1.row (fun r hr => hrow.each r hr)
  have K1 : Hid (Calls Tryd.prog 10 #[.slice a l.length c, .int .i64 dim] X1 fun e w' => CutHad X1.heap.size l dim e w' ∧ Below X1.heap.size X1 w') := cut_had a c l dim X1 (hT.below b1) (hrow.low b1)
  have K2 : Hid (∀ W, Below X1.heap.size X1 W → Calls Tryd.prog 10 #[.slice a l.length c, .int .i64 dim] W fun e w' => CutGot l dim e w' ∧ Below W.heap.size W w') := fun W hb => cut_all a c l dim W (hT.below (bel_tr b1 hb)) (hrow.low (bel_tr b1 hb))
  have K3 : Hid (∀ W, Below X1.heap.size X1 W → Calls Tryd.prog 11 #[.slice a' l.length c', .int .i64 dim] W fun e w' => CutGot l dim e w' ∧ Below W.heap.size W w') := fun W hb => rcut_all a' c' l dim W (HWas.out.low hb)
  have HB1 : Hid (Below w.heap.size w X1) := b1
  obtain ⟨N, hN⟩ : ∃ N, l.length = N := ⟨_, rfl⟩
  have HN : Hid (l.length = N) := hN
  have hNb : N ≤ 1034834473201 := by omega
  rw [hN] at K1 K2 K3 hr1 ⊢
  clear hrow hT hN O1 b1 lc cm
  obtain ⟨E, hE⟩ : ∃ E, errC l dim = E := ⟨_, rfl⟩
  have HE : Hid (errC l dim = E) := hE
  clear hE
  go_enter Tryd.func9, Tryd.ntmps9
  go_wp2_with (refine wpList_runA rfl 22 _ _ rfl _ _ (by rfl) (by rfl) _ _ hr1 ?_)
  clear hr1
  refine Calls.mono K1.out ?_
  rintro e W2 ⟨⟨a1, c1, a2, c2, a3, c3, n1, n3, vs, rfl, cw, hn1, hn3⟩, b2⟩
  rw [HE.out]
  clear K1
  obtain ⟨W3, hW3⟩ : ∃ W3, W2.alloc (.cells #[.slice a1 n1 c1, .slice a2 n1 c2, .slice a3 n3 c3] 27) = W3 := ⟨_, rfl⟩
  have b23 := bel_nw hW3
  have b3 := bel_tr b2 b23
  have HW3 : Hid (CutW W3 X1.heap.size (.slice a1 n1 c1) n1 (.slice a3 n3 c3) n3 vs) := cw.below b23
  have HB3 : Hid (Blk W3 W2.heap.size 27 #[.slice a1 n1 c1, .slice a2 n1 c2, .slice a3 n3 c3]) := blk_nw hW3
  have x2 := HB3.out.cell 2 (.slice a3 n3 c3) rfl
  clear cw b2 b23
  go_wp2_with fail
  clear hW3 x2
  go_loopw [27] (fun i wr => ∃ (m : Nat), m ≤ n3 ∧ i = .int .i64 m ∧ Hid (Blk wr W2.heap.size 27 #[.slice a1 n1 c1, .slice a2 n1 c2, .slice a3 n3 c3]) ∧ Hid (CutW wr X1.heap.size (.slice a1 n1 c1) n1 (.slice a3 n3 c3) n3 vs) ∧ Below X1.heap.size X1 wr) (fun i _ => n3 - (intOf i).toNat)
  case atStart => exact ⟨0, Nat.zero_le _, rfl, HB3, HW3, b3⟩
  case round =>
    clear HB3 HW3 b3
    obtain ⟨m, hm, rfl, HB, HW, bw⟩ := hrel
    obtain ⟨V, rfl⟩ : ∃ V, V = wr := ⟨_, rfl⟩
    by_cases hlt : m < n3
    · have imk : (m : Int) < (n3 : Int) := by omega
      have im0 : (0 : Int) ≤ (m : Int) := by omega
      have hw1 : IntKind.i64.wrap ((m : Int) + 1) = ((m + 1 : Nat) : Int) := by simp [IntKind.wrap, IntKind.bits, IntKind.signed]; omega
      have hvl : vs.length = n3 := by have := HW.out.row.1; omega
      obtain ⟨v, hv⟩ : ∃ v, vs[m]? = some v := ⟨_, List.getElem?_eq_getElem (by omega)⟩
      have HV : Hid (vs[m]? = some v) := hv
      have HVM : Hid (v ∈ vs) := List.mem_of_getElem? hv
      obtain ⟨ai, ni, ci, xs, ev, hni, _⟩ := HW.out.each v HVM.out
      subst ev
      obtain ⟨g3, cur3, e3, hg3, hb3, _, _, hc3⟩ := ownsRow_at HW.out.row (by omega)
      subst e3
      have z3 := hb3.cell m (.slice ai ni ci) (by rw [hc3 m (by omega)]; exact hv)
      have x2 := HB.out.cell 2 (.slice (some ⟨g3, 0, none⟩) n3 c3) rfl
      clear hb3 hc3 hg3 hv hvl
      go_wp2_with fail
      clear z3 x2
      go_loopw [36] (fun k wq => ∃ (j : Nat), j ≤ ni ∧ k = .int .i64 j ∧ Hid (Blk wq W2.heap.size 27 #[.slice a1 n1 c1, .slice a2 n1 c2, .slice (some ⟨g3, 0, none⟩) n3 c3]) ∧ Hid (CutW wq X1.heap.size (.slice a1 n1 c1) n1 (.slice (some ⟨g3, 0, none⟩) n3 c3) n3 vs) ∧ Below X1.heap.size X1 wq) (fun k _ => ni - (intOf k).toNat)
      case atStart => exact ⟨0, Nat.zero_le _, rfl, HB, HW, bw⟩
      case round =>
        clear HB HW bw
        obtain ⟨j, hj, rfl, HB, HW, bw⟩ := hrel
        by_cases hlj : j < ni
        · have ijk : (j : Int) < (ni : Int) := by omega
          have ij0 : (0 : Int) ≤ (j : Int) := by omega
          have hwj : IntKind.i64.wrap ((j : Int) + 1) = ((j + 1 : Nat) : Int) := by simp [IntKind.wrap, IntKind.bits, IntKind.signed]; omega
          obtain ⟨g3', cur3, e3, _, hb3, _, _, hc3⟩ := ownsRow_at HW.out.row (by omega)
          cases e3
          obtain ⟨ai', ni', ci', xs', ev, _, hro⟩ := HW.out.each _ HVM.out
          cases ev
          obtain ⟨gi, curi, ei, hgi, hbi, hci, hsi, hxi⟩ := ownsRow_at hro (by omega)
          have z3 := hb3.cell m (.slice ai ni ci) (by rw [hc3 m (by omega)]; exact HV.out)
          have x2 := HB.out.cell 2 (.slice (some ⟨g3, 0, none⟩) n3 c3) rfl
          have HBI : Hid (Blk wr gi 3 curi) := hbi
          have HGI : Hid (X1.heap.size ≤ gi) := hgi
          obtain ⟨old, hold⟩ : ∃ old, curi[j]? = some old := ⟨_, Array.getElem?_eq_getElem (by omega)⟩
          have y0 := hbi.cell j old hold
          have f0 := hbi.frozen j
          have HEI : Hid (ai = some ⟨gi, 0, none⟩) := ei
          have HE1 : Hid (wr.setCell ⟨gi, j, none⟩ (.int .i64 (-1)) = wr.setRow gi (curi.setIfInBounds j (.int .i64 (-1)))) := setCell_eq_setRow wr gi j curi 3 (0, 0) _ hbi
          have HW' : Hid _ := HW.out.set hbi (by decide) (curi.setIfInBounds j (.int .i64 (-1))) (by simp)
          have hne : W2.heap.size ≠ gi := fun e => by
            subst e
            exact absurd (HB.out.ty hbi) (by decide)
          have HB' : Hid (Blk _ _ _ _) := HB.out.other hne (curi.setIfInBounds j (.int .i64 (-1)))
          have bw' := below_setRow bw hgi (curi.setIfInBounds j (.int .i64 (-1)))
          clear hb3 hc3 hro hbi hgi hci hsi hxi hold hne bw HB HW
          rw [ei] at z3
          clear ei
          go_wp2
          rw [HE1.out]
          exact ⟨⟨j + 1, by omega, by first | rfl | (congr 1), HB', HW', bw'⟩, by simp only [intOf]; omega⟩
        · have ijk : ¬ (j : Int) < (ni : Int) := by omega
          go_wp2
          exact ⟨⟨m + 1, by omega, by first | rfl | (congr 1), HB, HW, bw⟩, by simp only [intOf]; omega⟩
    · have imk : ¬ (m : Int) < (n3 : Int) := by omega
      have x0 := HB.out.cell 0 (.slice a1 n1 c1) rfl
      go_wp2_with fail
      clear x0
      go_loopw [51] (fun i wr => ∃ (m : Nat), m ≤ n1 ∧ i = .int .i64 m ∧ Hid (Blk wr W2.heap.size 27 #[.slice a1 n1 c1, .slice a2 n1 c2, .slice a3 n3 c3]) ∧ Hid (CutW wr X1.heap.size (.slice a1 n1 c1) n1 (.slice a3 n3 c3) n3 vs) ∧ Below X1.heap.size X1 wr) (fun i _ => n1 - (intOf i).toNat)
      case atStart => exact ⟨0, Nat.zero_le _, rfl, HB, HW, bw⟩
      case round =>
        clear HB HW bw
        clear hlt imk hm
        obtain ⟨m, hm, rfl, HB, HW, bw⟩ := hrel
        by_cases hlt : m < n1
        · have imk : (m : Int) < (n1 : Int) := by omega
          have im0 : (0 : Int) ≤ (m : Int) := by omega
          have hw1 : IntKind.i64.wrap ((m : Int) + 1) = ((m + 1 : Nat) : Int) := by simp [IntKind.wrap, IntKind.bits, IntKind.signed]; omega
          obtain ⟨xs, hro⟩ := HW.out.sts
          obtain ⟨g1, cur1, e1, hg1, hb1, hc1, hs1, _⟩ := ownsRow_at hro (by omega)
          subst e1
          have x0 := HB.out.cell 0 (.slice (some ⟨g1, 0, none⟩) n1 c1) rfl
          have hsz : m * 3 + (#[.int .u64 9, .int .u64 0, .int .u64 0] : Array Value).size ≤ cur1.size := by
            simp only [List.size_toArray, List.length_cons, List.length_nil]
            omega
          have HW' : Hid _ := HW.out.set hb1 (by decide) (setMany cur1 (m * 3) [.int .u64 9, .int .u64 0, .int .u64 0]) (setMany_size _ _ _)
          have hne : W2.heap.size ≠ g1 := fun e => by
            subst e
            exact absurd (HB.out.ty hb1) (by decide)
          have HB' : Hid (Blk _ _ _ _) := HB.out.other hne (setMany cur1 (m * 3) [.int .u64 9, .int .u64 0, .int .u64 0])
          have bw' := below_setRow bw hg1 (setMany cur1 (m * 3) [.int .u64 9, .int .u64 0, .int .u64 0])
          have HBP : Hid (Blk wr g1 42 cur1) := hb1
          clear hro hb1 hg1 hc1 hs1 hne bw HB HW
          go_wp2_with (refine wpList_store_off rfl 42 _ _ rfl g1 (m * 3) 42 #[.int .u64 9, .int .u64 0, .int .u64 0] cur1 _ (by rfl) (by rfl) HBP.out (by kernel_rfl) hsz (by kernel_rfl) rfl ?_)
          exact ⟨⟨m + 1, by omega, by first | rfl | (congr 1), HB', HW', bw'⟩, by simp only [intOf]; omega⟩
        · have imk : ¬ (m : Int) < (n1 : Int) := by omega
          clear HB HW
          go_wp2_with fail
          go_loopw [62] (fun i wr => ∃ (m : Nat), m ≤ N ∧ i = .int .i64 m ∧ Below X1.heap.size X1 wr) (fun i _ => N - (intOf i).toNat)
          case atStart => exact ⟨0, Nat.zero_le _, rfl, bw⟩
          case round =>
            clear bw hlt imk hm
            obtain ⟨m, hm, rfl, bw⟩ := hrel
            by_cases hlt : m < N
            · have imk : (m : Int) < (N : Int) := by omega
              have im0 : (0 : Int) ≤ (m : Int) := by omega
              have hw1 : IntKind.i64.wrap ((m : Int) + 1) = ((m + 1 : Nat) : Int) := by simp [IntKind.wrap, IntKind.bits, IntKind.signed]; omega
              obtain ⟨r, hr⟩ : ∃ r, l[m]? = some r := ⟨_, List.getElem?_eq_getElem (by rw [HN.out]; exact hlt)⟩
              obtain ⟨b, off, ha, hc⟩ := (HRow.out.low (bel_tr HB1.out bw)).cells m r hr
              obtain ⟨b', off', ha', hc2⟩ := (HWas.out.low bw).cells m r hr
              have hs1 := hsr.out r
              have HNQ : Hid _ := HNE.out r
              subst ha
              subst ha'
              obtain ⟨RA, hRA⟩ : ∃ RA, r.v = RA := ⟨_, rfl⟩
              rw [hRA] at hs1 hc hc2 HNQ
              have bd := bw.drew
              clear hRA hr
              go_wp2_with fail
              refine wp_region_noPanic ?_
              refine wp_region_held_drew (S := fun w'' => CellsAt w'' b (off + m * 17) RA ∧ CellsAt w'' b' (off' + m * 17) RA) (by kernel_rfl) (by exact ⟨hc.below (below_drew _), hc2.below (below_drew _)⟩) (fun hHeld => ?_)
              refine wpAnyH_take (i := 0) (oi := { dst := some 65, op := Op.move (.tmp 0), type := 22, pos := "law.go:120", after := #[], guard := none }) (v := (.slice (some ⟨b, off, none⟩) N c)) rfl (by kernel_rfl) (by kernel_rfl) (by kernel_rfl) (fun _ _ _ h => h) (Or.inl ⟨by rfl, ?_⟩) hHeld ?_
              · intro w9 hSw
                try dsimp only at hSw
                go_simp
              try simp only [Act.put, List.setIfInBounds_toArray, List.set_cons_zero, List.set_cons_succ]
              refine wpAnyH_take (i := 1) (oi := { dst := some 66, op := Op.move (.tmp 11), type := 3, pos := "law.go:120", after := #[], guard := none }) (v := (.int .i64 (m : Int))) rfl (by kernel_rfl) (by kernel_rfl) (by kernel_rfl) (fun _ _ _ h => h) (Or.inl ⟨by rfl, ?_⟩) hHeld ?_
              · intro w9 hSw
                try dsimp only at hSw
                go_simp
              try simp only [Act.put, List.setIfInBounds_toArray, List.set_cons_zero, List.set_cons_succ]
              refine wpAnyH_take (i := 2) (oi := { dst := some 67, op := Op.indexAddr 22 (.tmp 65) (.tmp 66), type := 0, pos := "law.go:120", after := #[{ on := 0, ground := Ground.data }, { on := 1, ground := Ground.data }], guard := none }) (v := (.pointer (some ⟨b, off + m * 17, none⟩))) rfl (by kernel_rfl) (by kernel_rfl) (by kernel_rfl) (fun _ _ _ h => h) (Or.inl ⟨by rfl, ?_⟩) hHeld ?_
              · intro w9 hSw
                try dsimp only at hSw
                go_simp
              try simp only [Act.put, List.setIfInBounds_toArray, List.set_cons_zero, List.set_cons_succ]
              refine wpAnyH_take (i := 3) (oi := { dst := some 68, op := Op.load 55 (.tmp 67), type := 55, pos := "law.go:120", after := #[{ on := 2, ground := Ground.data }], guard := none }) (v := (.agg RA)) rfl (by kernel_rfl) (by kernel_rfl) (by kernel_rfl) (fun _ _ _ h => h) (yieldsIf_at (by rfl) _ _ rfl b (off + m * 17) (by rfl) _ (fun _ h => h.1) Tryd.underlying55 hs1) hHeld ?_
              try simp only [Act.put, List.setIfInBounds_toArray, List.set_cons_zero, List.set_cons_succ]
              refine wpAnyH_take (i := 4) (oi := { dst := some 69, op := Op.move (.tmp 5), type := 22, pos := "law.go:120", after := #[], guard := none }) (v := (.slice (some ⟨b', off', none⟩) N c')) rfl (by kernel_rfl) (by kernel_rfl) (by kernel_rfl) (fun _ _ _ h => h) (Or.inl ⟨by rfl, ?_⟩) hHeld ?_
              · intro w9 hSw
                try dsimp only at hSw
                go_simp
              try simp only [Act.put, List.setIfInBounds_toArray, List.set_cons_zero, List.set_cons_succ]
              refine wpAnyH_take (i := 5) (oi := { dst := some 70, op := Op.move (.tmp 11), type := 3, pos := "law.go:120", after := #[], guard := none }) (v := (.int .i64 (m : Int))) rfl (by kernel_rfl) (by kernel_rfl) (by kernel_rfl) (fun _ _ _ h => h) (Or.inl ⟨by rfl, ?_⟩) hHeld ?_
              · intro w9 hSw
                try dsimp only at hSw
                go_simp
              try simp only [Act.put, List.setIfInBounds_toArray, List.set_cons_zero, List.set_cons_succ]
              refine wpAnyH_take (i := 6) (oi := { dst := some 71, op := Op.indexAddr 22 (.tmp 69) (.tmp 70), type := 0, pos := "law.go:120", after := #[{ on := 4, ground := Ground.data }, { on := 5, ground := Ground.data }], guard := none }) (v := (.pointer (some ⟨b', off' + m * 17, none⟩))) rfl (by kernel_rfl) (by kernel_rfl) (by kernel_rfl) (fun _ _ _ h => h) (Or.inl ⟨by rfl, ?_⟩) hHeld ?_
              · intro w9 hSw
                try dsimp only at hSw
                go_simp
              try simp only [Act.put, List.setIfInBounds_toArray, List.set_cons_zero, List.set_cons_succ]
              refine wpAnyH_take (i := 7) (oi := { dst := some 72, op := Op.load 55 (.tmp 71), type := 55, pos := "law.go:120", after := #[{ on := 6, ground := Ground.data }], guard := none }) (v := (.agg RA)) rfl (by kernel_rfl) (by kernel_rfl) (by kernel_rfl) (fun _ _ _ h => h) (yieldsIf_at (by rfl) _ _ rfl b' (off' + m * 17) (by rfl) _ (fun _ h => h.2) Tryd.underlying55 hs1) hHeld ?_
              try simp only [Act.put, List.setIfInBounds_toArray, List.set_cons_zero, List.set_cons_succ]
              refine wpAnyH_take (i := 8) (oi := { dst := some 73, op := Op.binOp BinOp.neq 55 (.tmp 68) (.tmp 72) 55, type := 4, pos := "law.go:120", after := #[{ on := 3, ground := Ground.data }, { on := 7, ground := Ground.data }], guard := none }) (v := (.bool false)) rfl (by kernel_rfl) (by kernel_rfl) (by kernel_rfl) (fun _ _ _ h => h) (yieldsIf_neq (by rfl) _ _ _ _ rfl _ _ (by rfl) (by rfl) _ (by kernel_rfl) HNQ.out) hHeld ?_
              try simp only [Act.put, List.setIfInBounds_toArray, List.set_cons_zero, List.set_cons_succ]
              refine wpAnyH_done (by kernel_rfl) ?_ _
              refine NoPanic.normal ?_
              clear hc hc2 hHeld
              go_wp2
              exact ⟨⟨m + 1, by omega, by first | rfl | (congr 1), bd⟩, by simp only [intOf]; omega⟩
            · have imk : ¬ (m : Int) < (N : Int) := by omega
              have K2' : Hid _ := K2.out wr bw
              go_wp2_with fail
              refine Calls.mono K2'.out ?_
              rintro e Y2 ⟨⟨d1, e1, d2, e2, d3, e3, L, K, S, rfl, h1, h2, h3, hc⟩, y2⟩
              have H1 : Hid (RowP Y2 d1 L) := h1
              have H2 : Hid (RowI Y2 d2 (ints K)) := h2
              have H3 : Hid (RowS Y2 d3 (S.map ints)) := h3
              have HC : Hid (Cuts l dim L K S) := hc
              rw [HE.out]
              clear h1 h2 h3 hc K2'
              obtain ⟨M, hM⟩ : ∃ M, L.length = M := ⟨_, rfl⟩
              obtain ⟨Q, hQ⟩ : ∃ Q, S.length = Q := ⟨_, rfl⟩
              have HM : Hid (L.length = M ∧ S.length = Q) := ⟨hM, hQ⟩
              rw [hM, hQ]
              clear hM hQ
              have bY2 := bel_tr bw y2
              obtain ⟨Y3, hY3⟩ : ∃ Y3, Y2.alloc (.cells #[.slice d1 M e1, .slice d2 M e2, .slice d3 Q e3] 27) = Y3 := ⟨_, rfl⟩
              have y23 := bel_nw hY3
              have y3 := bel_tr bY2 y23
              have HB3 : Hid (Blk Y3 Y2.heap.size 27 #[.slice d1 M e1, .slice d2 M e2, .slice d3 Q e3]) := blk_nw hY3
              have K3' : Hid _ := K3.out Y3 y3
              clear bw y2 bY2
              go_wp2_with fail
              refine Calls.mono K3'.out ?_
              rintro e Y4 ⟨⟨d1', e1', d2', e2', d3', e3', L', K', S', rfl, h1', h2', h3', hc'⟩, y34⟩
              rw [HE.out]
              obtain ⟨M', hM'⟩ : ∃ M', L'.length = M' := ⟨_, rfl⟩
              obtain ⟨Q', hQ'⟩ : ∃ Q', S'.length = Q' := ⟨_, rfl⟩
              rw [hM', hQ']
              obtain ⟨Y5, hY5⟩ : ∃ Y5, Y4.alloc (.cells #[.slice d1' M' e1', .slice d2' M' e2', .slice d3' Q' e3'] 27) = Y5 := ⟨_, rfl⟩
              have y45 := bel_nw hY5
              have y35 := bel_tr y34 y45
              have y25 := bel_tr y23 y35
              have y5 := bel_tr y3 y35
              have KS := rsame_got d1 d2 d3 d1' d2' d3' e1 e2 e3 e1' e2' e3' Y5 HC.out hc' (H1.out.low y25) (H2.out.below y25) (H3.out.below y25) (h1'.low y45) (h2'.below y45) (h3'.below y45)
              rw [HM.out.1, HM.out.2, hM', hQ'] at KS
              have HKS : Hid _ := KS
              have B5 := HB3.out.kept y35
              have D5 := blk_nw hY5
              have x0 := B5.cell 0 (.slice d1 M e1) rfl
              have x1 := B5.cell 1 (.slice d2 M e2) rfl
              have x2 := B5.cell 2 (.slice d3 Q e3) rfl
              have z0 := D5.cell 0 (.slice d1' M' e1') rfl
              have z1 := D5.cell 1 (.slice d2' M' e2') rfl
              have z2 := D5.cell 2 (.slice d3' Q' e3') rfl
              have hee : (E == E) = true := by simp
              clear KS h1' h2' h3' hc' hM' hQ' B5 D5 K3' y23 y34 y35 y25 y45 y3
              go_wp2_with fail
              refine Calls.mono HKS.out ?_
              rintro e Y6 ⟨rfl, y56⟩
              have y6 := bel_tr HB1.out (bel_tr y5 y56)
              have KA' : Hid _ := KA.out Y6 (HT.out.below y6)
              clear x0 x1 x2 z0 z1 z2 y56
              go_wp2_with fail
              refine Calls.mono KA'.out ?_
              rintro e Y7 ⟨rfl, y67⟩
              have y7 := bel_tr y6 y67
              go_wp2
              go_ret
              exact ⟨rfl, y7⟩
end Go.Proofs.YtgppfkbapieneaaDoor
