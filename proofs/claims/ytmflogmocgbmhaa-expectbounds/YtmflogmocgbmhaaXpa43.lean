/- For every input the law ExpectBounds returns true and leaves its arguments as they were. -/
import Derived.Test.YtmflogmocgbmhaaXpa32
import Derived.Test.YtmflogmocgbmhaaRows
import Derived.WalkKit
import Derived.ProofKit
import Derived.OpenShut
import Derived.ShutString
import Derived.ChangeOld
import Derived.Below
import Derived.SizedLaws
namespace Go.Proofs.Ytmflogmocgbmhaa
abbrev xpa43o0 : Oper := { dst := some 106, op := Op.call { callee := Callee.value (.func 21), args := #[.tmp 105], argTypes := #[35] }, type := 3, pos := "law.go:138", after := #[{ on := 7, ground := Ground.data }, { on := 4, ground := Ground.chain }, { on := 4, ground := Ground.guard }], guard := some (4, false) }
abbrev xpa43o1 : Oper := { dst := some 107, op := Op.binOp BinOp.leq 3 (.tmp 104) (.tmp 106) 3, type := 4, pos := "law.go:138", after := #[{ on := 6, ground := Ground.data }, { on := 8, ground := Ground.data }, { on := 4, ground := Ground.guard }], guard := some (4, false) }
abbrev xpa43o2 : Oper := { dst := some 101, op := Op.binOp BinOp.gtr 3 (.tmp 98) (.tmp 100) 3, type := 4, pos := "law.go:138", after := #[{ on := 0, ground := Ground.data }, { on := 2, ground := Ground.data }], guard := none }
abbrev xpa43o3 : Oper := { dst := some 108, op := Op.pick (.tmp 102) (.const (.bool true)) (.tmp 107), type := 4, pos := "law.go:138", after := #[{ on := 4, ground := Ground.data }, { on := 9, ground := Ground.data }], guard := none }
abbrev xpa43o4 : Oper := { dst := some 104, op := Op.load 3 (.tmp 103), type := 3, pos := "law.go:138", after := #[{ on := 5, ground := Ground.data }, { on := 4, ground := Ground.guard }], guard := some (4, false) }
abbrev xpa43o5 : Oper := { dst := some 103, op := Op.fieldAddr 28 (.tmp 11) 2, type := 0, pos := "law.go:138", after := #[{ on := 4, ground := Ground.guard }], guard := some (4, false) }
abbrev xpa43o6 : Oper := { dst := some 105, op := Op.move (.tmp 5), type := 35, pos := "law.go:138", after := #[{ on := 4, ground := Ground.guard }], guard := some (4, false) }
abbrev xpa43o7 : Oper := { dst := some 100, op := Op.load 3 (.tmp 99), type := 3, pos := "law.go:138", after := #[{ on := 1, ground := Ground.data }], guard := none }
abbrev xpa43o8 : Oper := { dst := some 102, op := Op.move (.tmp 101), type := 4, pos := "law.go:138", after := #[{ on := 3, ground := Ground.data }], guard := none }
abbrev xpa43o9 : Oper := { dst := some 99, op := Op.fieldAddr 33 (.tmp 2) 1, type := 0, pos := "law.go:138", after := #[], guard := none }
abbrev xpa43o10 : Oper := { dst := some 98, op := Op.move (.tmp 12), type := 3, pos := "law.go:138", after := #[], guard := none }
end Go.Proofs.Ytmflogmocgbmhaa
namespace Go.Proofs.Ytmflogmocgbmhaa
open Go.RowKit
set_option linter.unusedVariables false
set_option linter.unusedSimpArgs false
set_option maxRecDepth 100000 in
set_option maxHeartbeats 16000000 in
theorem expectBounds_walk (cx : Cx) (la : Option Addr) (lc : Nat) (l : List Ax) (w : World) (hlc : l.length ≤ lc) (hcm : lc * 200 ≤ 140737488351232 ∧ (la = none → lc = 0)) (hrow : RowN 25 Ax.v (fun _ q => q.f.ok) w la l) :
    Calls Try.prog 6 #[.agg cx.v, .slice la l.length lc] w fun e w' => e = .returned (.bool true) ∧ Below w.heap.size w w' := by
  have HRow : Hid (RowN 25 Ax.v (fun _ q => q.f.ok) w la l) := hrow
  obtain ⟨N, hN⟩ : ∃ N, l.length = N := ⟨_, rfl⟩
  have HN : Hid (l.length = N) := hN
  have hNl : N ≤ 140737488355328 := by omega
  rw [hN]
  clear hN hrow hlc hcm
  have b := Below.refl w.heap.size w
  by_cases hc : capX cx.mo = true ∧ capX cx.qu = true
  · go_enter Try.func6, Try.ntmps6
    obtain ⟨Wm1, hWm1⟩ : ∃ W, w.alloc (.cells cx.v 33) = W := ⟨_, rfl⟩
    have bm1 := bel_al b hWm1
    have Am1 := blk_nw hWm1
    have gA : w.heap.size ≤ w.heap.size := b.size
    have c2 := Am1.cell 0 (.int .i64 cx.mo) rfl
    have c3 := Am1.cell 1 (.int .i64 cx.qu) rfl
    go_wp2_with fail
    clear c2 c3
    refine Calls.mono (newX cx.mo cx.qu (hc.1) (hc.2) _) ?_
    rintro e Wm4 ⟨tb, rfl, Xm4, gtb, bb⟩
    have Am4 := Am1.kept bb
    have bm4 := bel_tr bm1 bb
    clear bb
    have gwb : w.heap.size ≤ tb := Nat.le_trans bm1.size gtb
    have gwm := gwb
    have nXA : tb ≠ w.heap.size ∧ tb ≠ w.heap.size := by have := Am1.lt; omega
    clear Am1 bm1
    go_wp2_with fail
    refine Calls.mono (alive_xp _) ?_
    rintro e Wm5 ⟨rfl, bb⟩
    have Am5 := Am4.kept bb
    have Xm5 := Xm4.kept bb
    have bm5 := bel_tr bm4 bb
    clear bb
    clear Am4 Xm4 bm4
    go_wp2_with fail
    go_loopw [36] (fun i wr => ∃ (j : Nat) (s : Xt) (lb : Nat), j ≤ N ∧ i = .int .i64 j ∧ Hid (s.most = cx.mo ∧ s.quota = cx.qu) ∧ w.heap.size ≤ lb ∧ Blk wr w.heap.size 33 cx.v ∧ (tb ≠ w.heap.size ∧ lb ≠ w.heap.size) ∧ TabX wr tb lb s ∧ Below w.heap.size w wr) (fun i _ => N - (intOf i).toNat)
    case atStart => exact ⟨0, ⟨cx.mo, cx.qu, 0, []⟩, tb, Nat.zero_le _, rfl, ⟨rfl, rfl⟩, gwb, Am5, nXA, Xm5, bm5⟩
    case round =>
      obtain ⟨j, s, lb, hj, rfl, hI, gwm, Ar, nXA, Xr, br⟩ := hrel
      obtain ⟨Wr, rfl⟩ : ∃ W, W = wr := ⟨_, rfl⟩
      have HOK : Hid (XtOk s) := Xr.ok
      have HLN : s.L.length ≤ 1000000 := Xr.len
      have in0 : (0 : Int) ≤ (j : Int) := by omega
      by_cases hlt : j < N
      · have ik : (j : Int) < (N : Int) := by omega
        have ik' : decide ((j : Int) < (N : Int)) = true := by simpa using ik
        obtain ⟨qa, hq⟩ : ∃ q, l[j]? = some q := ⟨_, List.getElem?_eq_getElem (by rw [HN.out]; exact hlt)⟩
        have hok : qa.f.ok := HRow.out.each qa (List.mem_of_getElem? hq)
        obtain ⟨p, off, rfl, hcells⟩ := HRow.out.cells j qa hq
        have hca := hcells.below br
        clear hcells
        cases hq9 : ((bits .and .i64 qa.kd 3) == 3) with
        | false =>
          obtain ⟨Wm10, hWm10⟩ : ∃ W, Wr.alloc (.cells #[.int .i64 0, .int .i64 0, .int .i64 0, .int .i64 0, .int .i64 0, .int .i64 0, .int .u64 0, .int .u64 0, .int .i64 0, .int .u64 0, .int .u64 0, .int .i64 0, .int .i64 0, .int .i64 0, .int .i64 0, .int .i64 0, .int .u64 0, .int .u64 0, .int .i64 0, .int .u64 0, .int .u64 0, .int .i64 0, .int .i64 0, .int .i64 0, .int .i64 0] 45) = W := ⟨_, rfl⟩
          have bm10 := bel_al br hWm10
          have Am10 := Ar.al hWm10
          have Xm10 := Xr.al hWm10
          have Bm10 := blk_nw hWm10
          have gB : w.heap.size ≤ Wr.heap.size := br.size
          have nAB : w.heap.size ≠ Wr.heap.size := by have := Ar.lt; omega
          have nBA : Wr.heap.size ≠ w.heap.size := fun e => nAB e.symm
          have nXB : tb ≠ Wr.heap.size ∧ lb ≠ Wr.heap.size := by have := Xr.lt; omega
          obtain ⟨Wm11, hWm11⟩ : ∃ W, Wm10.setRow Wr.heap.size qa.v = W := ⟨_, rfl⟩
          have Bm11 : Blk Wm11 Wr.heap.size 45 qa.v := hWm11 ▸ Bm10.set qa.v
          have Am11 := hWm11 ▸ Am10.other nAB qa.v
          have Xm11 := hWm11 ▸ Xm10.other nXB qa.v
          have bm11 := hWm11 ▸ below_setRow bm10 gB qa.v
          have c12 := Bm11.cell 0 (.int .i64 qa.kd) rfl
          go_wp2_with (first | (refine wpList_load_at_w (by rfl) _ _ rfl p (off + j * 25) (by rfl) _ hca Try.underlying45 (by kernel_rfl) ?_) | (refine wpList_store_row rfl _ _ _ rfl Wr.heap.size qa.v (by rfl) (by rfl) _ _ Bm10 (by kernel_rfl) (by rfl) (by kernel_rfl) ?_; rw [hWm11]) | (refine wpList_load_sub_w (by rfl) _ _ rfl Wr.heap.size 3 _ (by rfl) _ qa.f.v Bm11 (by rfl) Try.underlying28 (by kernel_rfl) ?_))
          clear c12
          refine Calls.mono (addX tb lb s qa.f _ Xm11 (by first | assumption | exact hok)) ?_
          rintro e Wm13 ⟨lb13, rfl, Xm13, hlm13, bb⟩
          have Am13 := Am11.but bb (by have := nXA; omega)
          have Bm13 := Bm11.but bb (by have := nXB; omega)
          have bm13 := bel_but bm11 bb gwb gwm
          clear bb
          have nXA : tb ≠ w.heap.size ∧ lb13 ≠ w.heap.size := by have h8 := Am11.lt; have h9 := nXA; rcases hlm13 with h | h <;> omega
          have nXB : tb ≠ Wr.heap.size ∧ lb13 ≠ Wr.heap.size := by have h8 := Bm11.lt; have h9 := nXB; rcases hlm13 with h | h <;> omega
          have gwm : w.heap.size ≤ lb13 := by have h9 := bm11.size; rcases hlm13 with h | h <;> omega
          clear Am11 Xm11 Bm11 bm11
          obtain ⟨s1, hs1⟩ : ∃ t, (Xt.add s qa.f).1 = t := ⟨_, rfl⟩
          rw [hs1] at Xm13
          have hI1 : Hid (s1.most = cx.mo ∧ s1.quota = cx.qu) := by rw [← hs1]; exact ⟨(add_most s _).1.trans hI.out.1, (add_most s _).2.1.trans hI.out.2⟩
          have HOK1 : Hid (XtOk s1) := Xm13.ok
          have HLN1 : s1.L.length ≤ 1000000 := Xm13.len
          have hfw : ¬ cx.mo < (s1.L.length : Int) := by
            have h8 := HOK1.out.few
            have h9 : s1.most = cx.mo := hI1.out.1
            omega
          have hfw' : decide (cx.mo < (s1.L.length : Int)) = false := by simpa using hfw
          clear hs1
          go_wp2_with fail
          refine Calls.mono (allX tb lb13 s1 _ Xm13) ?_
          rintro e Wm14 ⟨aa, ca, rfl, OAm14, bb⟩
          have Am14 := Am13.kept bb
          have Xm14 := Xm13.kept bb
          have Bm14 := Bm13.kept bb
          have bm14 := bel_tr bm13 bb
          clear bb
          have HRW : Hid (RowW Wm14 aa s1.L) := OAm14.row (fun _ _ => trivial)
          have HCA : Hid (s1.L.length ≤ ca) := OAm14.le
          have Qm14 : But (fun _ => False) Wm14 Wm14 := But.refl _ _
          clear Am13 Xm13 Bm13 bm13
          have c15 := Am14.cell 0 (.int .i64 cx.mo) rfl
          go_wp2_with fail
          clear c15
          refine Calls.mono (lenX tb lb13 s1 _ Xm14) ?_
          rintro e Wm16 ⟨rfl, bb⟩
          have Am16 := Am14.kept bb
          have Xm16 := Xm14.kept bb
          have Bm16 := Bm14.kept bb
          have Qm16 := Qm14.kept bb
          have bm16 := bel_tr bm14 bb
          clear bb
          clear Am14 Xm14 Bm14 Qm14 bm14
          go_wp2_with fail
          obtain ⟨M, hM⟩ : ∃ M, s1.L.length = M := ⟨_, rfl⟩
          have HM : Hid (s1.L.length = M) := hM
          have hM0 : M ≤ 1000000 := by
            have h8 := HOK1.out.len
            omega
          rw [hM]
          clear hM
          clear hfw hfw'
          go_loopw [68] (fun i wr => ∃ k : Nat, k ≤ M ∧ i = .int .i64 k ∧ Blk wr w.heap.size 33 cx.v ∧ TabX wr tb lb13 s1 ∧ But (fun _ => False) Wm14 wr ∧ Below w.heap.size w wr) (fun i _ => M - (intOf i).toNat)
          case atStart => exact ⟨0, Nat.zero_le _, rfl, Am16, Xm16, Qm16, bm16⟩
          case round =>
            obtain ⟨k, hkk, rfl, Av, Xv, Qv, bv⟩ := hrel
            obtain ⟨Wv, rfl⟩ : ∃ W, W = wr := ⟨_, rfl⟩
            have in0k : (0 : Int) ≤ (k : Int) := by omega
            by_cases hltk : k < M
            · have ikk : (k : Int) < (M : Int) := by omega
              have ikk' : decide ((k : Int) < (M : Int)) = true := by simpa using ikk
              obtain ⟨x, hx⟩ : ∃ x, s1.L[k]? = some x := ⟨_, List.getElem?_eq_getElem (by rw [HM.out]; exact hltk)⟩
              have HXx : Hid (s1.L[k]? = some x) := hx
              obtain ⟨p2, off2, rfl, hcellsx⟩ := HRW.out.cells k x hx
              have hcb := hcellsx.below (Qv.to_below (Nat.le_refl _) (fun _ _ x => x))
              clear hcellsx hx
              have hen : ¬ x.ends ≤ s1.now := by have := (HOK1.out.each x (List.mem_of_getElem? HXx.out)).2.1; omega
              have hen' : decide (x.ends ≤ s1.now) = false := by simpa using hen
              obtain ⟨Wm17, hWm17⟩ : ∃ W, Wv.alloc (.cells #[.int .i64 0, .int .i64 0, .int .i64 0, .int .u64 0, .int .u64 0, .int .i64 0, .int .u64 0, .int .u64 0, .int .i64 0, .int .i64 0, .int .i64 0, .int .i64 0, .int .i64 0, .int .u64 0, .int .u64 0, .int .i64 0, .int .u64 0, .int .u64 0, .int .i64 0, .int .i64 0, .int .i64 0, .int .i64 0] 28) = W := ⟨_, rfl⟩
              have bm17 := bel_al bv hWm17
              have Am17 := Av.al hWm17
              have Xm17 := Xv.al hWm17
              have Qm17 := Qv.al hWm17
              have Bm17 := blk_nw hWm17
              have gB : w.heap.size ≤ Wv.heap.size := bv.size
              have nAB : w.heap.size ≠ Wv.heap.size := by have := Av.lt; omega
              have nBA : Wv.heap.size ≠ w.heap.size := fun e => nAB e.symm
              have nXB : tb ≠ Wv.heap.size ∧ lb13 ≠ Wv.heap.size := by have := Xv.lt; omega
              have nQB : (fun _ => False) Wv.heap.size ∨ Wm14.heap.size ≤ Wv.heap.size := .inr Qv.size
              obtain ⟨Wm18, hWm18⟩ : ∃ W, Wm17.setRow Wv.heap.size x.v = W := ⟨_, rfl⟩
              have Bm18 : Blk Wm18 Wv.heap.size 28 x.v := hWm18 ▸ Bm17.set x.v
              have Am18 := hWm18 ▸ Am17.other nAB x.v
              have Xm18 := hWm18 ▸ Xm17.other nXB x.v
              have Qm18 := hWm18 ▸ Qm17.other nQB x.v
              have bm18 := hWm18 ▸ below_setRow bm17 gB x.v
              go_wp2_with (first | (refine wpList_load_at_w (by rfl) _ _ rfl p2 (off2 + k * 22) (by rfl) _ hcb Try.underlying28 (by kernel_rfl) ?_) | (refine wpList_store_row rfl _ _ _ rfl Wv.heap.size x.v (by rfl) (by rfl) _ _ Bm17 (by kernel_rfl) (by rfl) (by kernel_rfl) ?_; rw [hWm18]))
              go_loopw [12, 75] (fun i12 i wr => ∃ i2 : Nat, i2 ≤ M ∧ i = .int .i64 i2 ∧ i12 = .int .i64 (cntW x.m (s1.L.take i2) : Int) ∧ Blk wr w.heap.size 33 cx.v ∧ Blk wr Wv.heap.size 28 x.v ∧ TabX wr tb lb13 s1 ∧ But (fun _ => False) Wm14 wr ∧ Below w.heap.size w wr) (fun i12 i _ => M - (intOf i).toNat)
              case atStart => exact ⟨0, Nat.zero_le _, rfl, rfl, Am18, Bm18, Xm18, Qm18, bm18⟩
              case round =>
                obtain ⟨i2, hki2, rfl, rfl, Au, Bu, Xu, Qu, bu⟩ := hrel
                obtain ⟨Wu, rfl⟩ : ∃ W, W = wr := ⟨_, rfl⟩
                have in0i2 : (0 : Int) ≤ (i2 : Int) := by omega
                by_cases hlti2 : i2 < M
                · have iki2 : (i2 : Int) < (M : Int) := by omega
                  have iki2' : decide ((i2 : Int) < (M : Int)) = true := by simpa using iki2
                  obtain ⟨y, hy⟩ : ∃ x, s1.L[i2]? = some x := ⟨_, List.getElem?_eq_getElem (by rw [HM.out]; exact hlti2)⟩
                  have HXy : Hid (s1.L[i2]? = some y) := hy
                  obtain ⟨pz, oz, ez, hcellsy⟩ := HRW.out.cells i2 y hy
                  cases ez
                  have hcy := hcellsy.below (Qu.to_below (Nat.le_refl _) (fun _ _ x => x))
                  clear hcellsy hy
                  have hap : ((i2 : Int) != (k : Int)) = true → Wy.eqB y.w x.w = false := fun h => ways_apart HOK1.out HXy.out HXx.out (by rintro rfl; simp at h)
                  have hcu : cntW x.m (s1.L.take i2) ≤ 1000000 := by
                    have h8 : cntW x.m (s1.L.take i2) ≤ (s1.L.take i2).length := List.countP_le_length
                    have h9 := List.length_take_le i2 s1.L
                    have h7 := HLN1
                    omega
                  cases hq22 : (Wy.eqB y.m x.m) with
                  | false =>
                    cases hq26 : ((i2 : Int) != (k : Int)) with
                    | false =>
                      obtain ⟨Wm27, hWm27⟩ : ∃ W, Wu.alloc (.cells #[.int .i64 0, .int .i64 0, .int .i64 0, .int .u64 0, .int .u64 0, .int .i64 0, .int .u64 0, .int .u64 0, .int .i64 0, .int .i64 0, .int .i64 0, .int .i64 0, .int .i64 0, .int .u64 0, .int .u64 0, .int .i64 0, .int .u64 0, .int .u64 0, .int .i64 0, .int .i64 0, .int .i64 0, .int .i64 0] 28) = W := ⟨_, rfl⟩
                      have bm27 := bel_al bu hWm27
                      have Am27 := Au.al hWm27
                      have Bm27 := Bu.al hWm27
                      have Xm27 := Xu.al hWm27
                      have Qm27 := Qu.al hWm27
                      have Cm27 := blk_nw hWm27
                      have gC : w.heap.size ≤ Wu.heap.size := bu.size
                      have nAC : w.heap.size ≠ Wu.heap.size := by have := Au.lt; omega
                      have nCA : Wu.heap.size ≠ w.heap.size := fun e => nAC e.symm
                      have nBC : Wv.heap.size ≠ Wu.heap.size := by have := Bu.lt; omega
                      have nCB : Wu.heap.size ≠ Wv.heap.size := fun e => nBC e.symm
                      have nXC : tb ≠ Wu.heap.size ∧ lb13 ≠ Wu.heap.size := by have := Xu.lt; omega
                      have nQC : (fun _ => False) Wu.heap.size ∨ Wm14.heap.size ≤ Wu.heap.size := .inr Qu.size
                      obtain ⟨Wm28, hWm28⟩ : ∃ W, Wm27.setRow Wu.heap.size y.v = W := ⟨_, rfl⟩
                      have Cm28 : Blk Wm28 Wu.heap.size 28 y.v := hWm28 ▸ Cm27.set y.v
                      have Am28 := hWm28 ▸ Am27.other nAC y.v
                      have Bm28 := hWm28 ▸ Bm27.other nBC y.v
                      have Xm28 := hWm28 ▸ Xm27.other nXC y.v
                      have Qm28 := hWm28 ▸ Qm27.other nQC y.v
                      have bm28 := hWm28 ▸ below_setRow bm27 gC y.v
                      have hE29 := eql_way y.m x.m
                      go_wp2_with (first | (refine wpList_load_at_w (by rfl) _ _ rfl p2 (off2 + i2 * 22) (by rfl) _ hcy Try.underlying28 (by kernel_rfl) ?_) | (refine wpList_store_row rfl _ _ _ rfl Wu.heap.size y.v (by rfl) (by rfl) _ _ Cm27 (by kernel_rfl) (by rfl) (by kernel_rfl) ?_; rw [hWm28]) | (refine wpList_load_sub_w (by rfl) _ _ rfl Wu.heap.size 10 _ (by rfl) _ y.m.v Cm28 (by rfl) Try.underlying26 (by kernel_rfl) ?_) | (refine wpList_load_sub_w (by rfl) _ _ rfl Wv.heap.size 10 _ (by rfl) _ x.m.v Bm28 (by rfl) Try.underlying26 (by kernel_rfl) ?_))
                      exact ⟨⟨i2 + 1, by omega, by go_num, (by rw [cnt_at HXy.out, (by assumption : Wy.eqB y.m x.m = false)]; first | rfl | go_num), Am28, Bm28, Xm28, Qm28, bm28⟩, by simp [intOf]; omega⟩

                    | true =>
                      cases hq34 : (Wy.eqB y.w x.w) with
                      | false =>
                        obtain ⟨Wm35, hWm35⟩ : ∃ W, Wu.alloc (.cells #[.int .i64 0, .int .i64 0, .int .i64 0, .int .u64 0, .int .u64 0, .int .i64 0, .int .u64 0, .int .u64 0, .int .i64 0, .int .i64 0, .int .i64 0, .int .i64 0, .int .i64 0, .int .u64 0, .int .u64 0, .int .i64 0, .int .u64 0, .int .u64 0, .int .i64 0, .int .i64 0, .int .i64 0, .int .i64 0] 28) = W := ⟨_, rfl⟩
                        have bm35 := bel_al bu hWm35
                        have Am35 := Au.al hWm35
                        have Bm35 := Bu.al hWm35
                        have Xm35 := Xu.al hWm35
                        have Qm35 := Qu.al hWm35
                        have Cm35 := blk_nw hWm35
                        have gC : w.heap.size ≤ Wu.heap.size := bu.size
                        have nAC : w.heap.size ≠ Wu.heap.size := by have := Au.lt; omega
                        have nCA : Wu.heap.size ≠ w.heap.size := fun e => nAC e.symm
                        have nBC : Wv.heap.size ≠ Wu.heap.size := by have := Bu.lt; omega
                        have nCB : Wu.heap.size ≠ Wv.heap.size := fun e => nBC e.symm
                        have nXC : tb ≠ Wu.heap.size ∧ lb13 ≠ Wu.heap.size := by have := Xu.lt; omega
                        have nQC : (fun _ => False) Wu.heap.size ∨ Wm14.heap.size ≤ Wu.heap.size := .inr Qu.size
                        obtain ⟨Wm36, hWm36⟩ : ∃ W, Wm35.setRow Wu.heap.size y.v = W := ⟨_, rfl⟩
                        have Cm36 : Blk Wm36 Wu.heap.size 28 y.v := hWm36 ▸ Cm35.set y.v
                        have Am36 := hWm36 ▸ Am35.other nAC y.v
                        have Bm36 := hWm36 ▸ Bm35.other nBC y.v
                        have Xm36 := hWm36 ▸ Xm35.other nXC y.v
                        have Qm36 := hWm36 ▸ Qm35.other nQC y.v
                        have bm36 := hWm36 ▸ below_setRow bm35 gC y.v
                        have hE37 := eql_way y.m x.m
                        have hE38 := eql_way y.w x.w
                        go_wp2_with (first | (refine wpList_load_at_w (by rfl) _ _ rfl p2 (off2 + i2 * 22) (by rfl) _ hcy Try.underlying28 (by kernel_rfl) ?_) | (refine wpList_store_row rfl _ _ _ rfl Wu.heap.size y.v (by rfl) (by rfl) _ _ Cm35 (by kernel_rfl) (by rfl) (by kernel_rfl) ?_; rw [hWm36]) | (refine wpList_load_sub_w (by rfl) _ _ rfl Wu.heap.size 10 _ (by rfl) _ y.m.v Cm36 (by rfl) Try.underlying26 (by kernel_rfl) ?_) | (refine wpList_load_sub_w (by rfl) _ _ rfl Wv.heap.size 10 _ (by rfl) _ x.m.v Bm36 (by rfl) Try.underlying26 (by kernel_rfl) ?_) | (refine wpList_load_sub_w (by rfl) _ _ rfl Wu.heap.size 0 _ (by rfl) _ y.w.v Cm36 (by rfl) Try.underlying26 (by kernel_rfl) ?_) | (refine wpList_load_sub_w (by rfl) _ _ rfl Wv.heap.size 0 _ (by rfl) _ x.w.v Bm36 (by rfl) Try.underlying26 (by kernel_rfl) ?_))
                        exact ⟨⟨i2 + 1, by omega, by go_num, (by rw [cnt_at HXy.out, (by assumption : Wy.eqB y.m x.m = false)]; first | rfl | go_num), Am36, Bm36, Xm36, Qm36, bm36⟩, by simp [intOf]; omega⟩

                      | true =>
                        obtain ⟨Wm39, hWm39⟩ : ∃ W, Wu.alloc (.cells #[.int .i64 0, .int .i64 0, .int .i64 0, .int .u64 0, .int .u64 0, .int .i64 0, .int .u64 0, .int .u64 0, .int .i64 0, .int .i64 0, .int .i64 0, .int .i64 0, .int .i64 0, .int .u64 0, .int .u64 0, .int .i64 0, .int .u64 0, .int .u64 0, .int .i64 0, .int .i64 0, .int .i64 0, .int .i64 0] 28) = W := ⟨_, rfl⟩
                        have bm39 := bel_al bu hWm39
                        have Am39 := Au.al hWm39
                        have Bm39 := Bu.al hWm39
                        have Xm39 := Xu.al hWm39
                        have Qm39 := Qu.al hWm39
                        have Cm39 := blk_nw hWm39
                        have gC : w.heap.size ≤ Wu.heap.size := bu.size
                        have nAC : w.heap.size ≠ Wu.heap.size := by have := Au.lt; omega
                        have nCA : Wu.heap.size ≠ w.heap.size := fun e => nAC e.symm
                        have nBC : Wv.heap.size ≠ Wu.heap.size := by have := Bu.lt; omega
                        have nCB : Wu.heap.size ≠ Wv.heap.size := fun e => nBC e.symm
                        have nXC : tb ≠ Wu.heap.size ∧ lb13 ≠ Wu.heap.size := by have := Xu.lt; omega
                        have nQC : (fun _ => False) Wu.heap.size ∨ Wm14.heap.size ≤ Wu.heap.size := .inr Qu.size
                        obtain ⟨Wm40, hWm40⟩ : ∃ W, Wm39.setRow Wu.heap.size y.v = W := ⟨_, rfl⟩
                        have Cm40 : Blk Wm40 Wu.heap.size 28 y.v := hWm40 ▸ Cm39.set y.v
                        have Am40 := hWm40 ▸ Am39.other nAC y.v
                        have Bm40 := hWm40 ▸ Bm39.other nBC y.v
                        have Xm40 := hWm40 ▸ Xm39.other nXC y.v
                        have Qm40 := hWm40 ▸ Qm39.other nQC y.v
                        have bm40 := hWm40 ▸ below_setRow bm39 gC y.v
                        have hE41 := eql_way y.m x.m
                        have hE42 := eql_way y.w x.w
                        go_wp2_with (first | (refine wpList_load_at_w (by rfl) _ _ rfl p2 (off2 + i2 * 22) (by rfl) _ hcy Try.underlying28 (by kernel_rfl) ?_) | (refine wpList_store_row rfl _ _ _ rfl Wu.heap.size y.v (by rfl) (by rfl) _ _ Cm39 (by kernel_rfl) (by rfl) (by kernel_rfl) ?_; rw [hWm40]) | (refine wpList_load_sub_w (by rfl) _ _ rfl Wu.heap.size 10 _ (by rfl) _ y.m.v Cm40 (by rfl) Try.underlying26 (by kernel_rfl) ?_) | (refine wpList_load_sub_w (by rfl) _ _ rfl Wv.heap.size 10 _ (by rfl) _ x.m.v Bm40 (by rfl) Try.underlying26 (by kernel_rfl) ?_) | (refine wpList_load_sub_w (by rfl) _ _ rfl Wu.heap.size 0 _ (by rfl) _ y.w.v Cm40 (by rfl) Try.underlying26 (by kernel_rfl) ?_) | (refine wpList_load_sub_w (by rfl) _ _ rfl Wv.heap.size 0 _ (by rfl) _ x.w.v Bm40 (by rfl) Try.underlying26 (by kernel_rfl) ?_))
                        exact absurd (by assumption : Wy.eqB y.w x.w = true) (by rw [hap (by assumption)]; decide)



                  | true =>
                    cases hq46 : ((i2 : Int) != (k : Int)) with
                    | false =>
                      obtain ⟨Wm47, hWm47⟩ : ∃ W, Wu.alloc (.cells #[.int .i64 0, .int .i64 0, .int .i64 0, .int .u64 0, .int .u64 0, .int .i64 0, .int .u64 0, .int .u64 0, .int .i64 0, .int .i64 0, .int .i64 0, .int .i64 0, .int .i64 0, .int .u64 0, .int .u64 0, .int .i64 0, .int .u64 0, .int .u64 0, .int .i64 0, .int .i64 0, .int .i64 0, .int .i64 0] 28) = W := ⟨_, rfl⟩
                      have bm47 := bel_al bu hWm47
                      have Am47 := Au.al hWm47
                      have Bm47 := Bu.al hWm47
                      have Xm47 := Xu.al hWm47
                      have Qm47 := Qu.al hWm47
                      have Cm47 := blk_nw hWm47
                      have gC : w.heap.size ≤ Wu.heap.size := bu.size
                      have nAC : w.heap.size ≠ Wu.heap.size := by have := Au.lt; omega
                      have nCA : Wu.heap.size ≠ w.heap.size := fun e => nAC e.symm
                      have nBC : Wv.heap.size ≠ Wu.heap.size := by have := Bu.lt; omega
                      have nCB : Wu.heap.size ≠ Wv.heap.size := fun e => nBC e.symm
                      have nXC : tb ≠ Wu.heap.size ∧ lb13 ≠ Wu.heap.size := by have := Xu.lt; omega
                      have nQC : (fun _ => False) Wu.heap.size ∨ Wm14.heap.size ≤ Wu.heap.size := .inr Qu.size
                      obtain ⟨Wm48, hWm48⟩ : ∃ W, Wm47.setRow Wu.heap.size y.v = W := ⟨_, rfl⟩
                      have Cm48 : Blk Wm48 Wu.heap.size 28 y.v := hWm48 ▸ Cm47.set y.v
                      have Am48 := hWm48 ▸ Am47.other nAC y.v
                      have Bm48 := hWm48 ▸ Bm47.other nBC y.v
                      have Xm48 := hWm48 ▸ Xm47.other nXC y.v
                      have Qm48 := hWm48 ▸ Qm47.other nQC y.v
                      have bm48 := hWm48 ▸ below_setRow bm47 gC y.v
                      have hE49 := eql_way y.m x.m
                      go_wp2_with (first | (refine wpList_load_at_w (by rfl) _ _ rfl p2 (off2 + i2 * 22) (by rfl) _ hcy Try.underlying28 (by kernel_rfl) ?_) | (refine wpList_store_row rfl _ _ _ rfl Wu.heap.size y.v (by rfl) (by rfl) _ _ Cm47 (by kernel_rfl) (by rfl) (by kernel_rfl) ?_; rw [hWm48]) | (refine wpList_load_sub_w (by rfl) _ _ rfl Wu.heap.size 10 _ (by rfl) _ y.m.v Cm48 (by rfl) Try.underlying26 (by kernel_rfl) ?_) | (refine wpList_load_sub_w (by rfl) _ _ rfl Wv.heap.size 10 _ (by rfl) _ x.m.v Bm48 (by rfl) Try.underlying26 (by kernel_rfl) ?_))
                      exact ⟨⟨i2 + 1, by omega, by go_num, (by rw [cnt_at HXy.out, (by assumption : Wy.eqB y.m x.m = true)]; first | rfl | go_num), Am48, Bm48, Xm48, Qm48, bm48⟩, by simp [intOf]; omega⟩

                    | true =>
                      cases hq54 : (Wy.eqB y.w x.w) with
                      | false =>
                        obtain ⟨Wm55, hWm55⟩ : ∃ W, Wu.alloc (.cells #[.int .i64 0, .int .i64 0, .int .i64 0, .int .u64 0, .int .u64 0, .int .i64 0, .int .u64 0, .int .u64 0, .int .i64 0, .int .i64 0, .int .i64 0, .int .i64 0, .int .i64 0, .int .u64 0, .int .u64 0, .int .i64 0, .int .u64 0, .int .u64 0, .int .i64 0, .int .i64 0, .int .i64 0, .int .i64 0] 28) = W := ⟨_, rfl⟩
                        have bm55 := bel_al bu hWm55
                        have Am55 := Au.al hWm55
                        have Bm55 := Bu.al hWm55
                        have Xm55 := Xu.al hWm55
                        have Qm55 := Qu.al hWm55
                        have Cm55 := blk_nw hWm55
                        have gC : w.heap.size ≤ Wu.heap.size := bu.size
                        have nAC : w.heap.size ≠ Wu.heap.size := by have := Au.lt; omega
                        have nCA : Wu.heap.size ≠ w.heap.size := fun e => nAC e.symm
                        have nBC : Wv.heap.size ≠ Wu.heap.size := by have := Bu.lt; omega
                        have nCB : Wu.heap.size ≠ Wv.heap.size := fun e => nBC e.symm
                        have nXC : tb ≠ Wu.heap.size ∧ lb13 ≠ Wu.heap.size := by have := Xu.lt; omega
                        have nQC : (fun _ => False) Wu.heap.size ∨ Wm14.heap.size ≤ Wu.heap.size := .inr Qu.size
                        obtain ⟨Wm56, hWm56⟩ : ∃ W, Wm55.setRow Wu.heap.size y.v = W := ⟨_, rfl⟩
                        have Cm56 : Blk Wm56 Wu.heap.size 28 y.v := hWm56 ▸ Cm55.set y.v
                        have Am56 := hWm56 ▸ Am55.other nAC y.v
                        have Bm56 := hWm56 ▸ Bm55.other nBC y.v
                        have Xm56 := hWm56 ▸ Xm55.other nXC y.v
                        have Qm56 := hWm56 ▸ Qm55.other nQC y.v
                        have bm56 := hWm56 ▸ below_setRow bm55 gC y.v
                        have hE57 := eql_way y.m x.m
                        have hE58 := eql_way y.w x.w
                        go_wp2_with (first | (refine wpList_load_at_w (by rfl) _ _ rfl p2 (off2 + i2 * 22) (by rfl) _ hcy Try.underlying28 (by kernel_rfl) ?_) | (refine wpList_store_row rfl _ _ _ rfl Wu.heap.size y.v (by rfl) (by rfl) _ _ Cm55 (by kernel_rfl) (by rfl) (by kernel_rfl) ?_; rw [hWm56]) | (refine wpList_load_sub_w (by rfl) _ _ rfl Wu.heap.size 10 _ (by rfl) _ y.m.v Cm56 (by rfl) Try.underlying26 (by kernel_rfl) ?_) | (refine wpList_load_sub_w (by rfl) _ _ rfl Wv.heap.size 10 _ (by rfl) _ x.m.v Bm56 (by rfl) Try.underlying26 (by kernel_rfl) ?_) | (refine wpList_load_sub_w (by rfl) _ _ rfl Wu.heap.size 0 _ (by rfl) _ y.w.v Cm56 (by rfl) Try.underlying26 (by kernel_rfl) ?_) | (refine wpList_load_sub_w (by rfl) _ _ rfl Wv.heap.size 0 _ (by rfl) _ x.w.v Bm56 (by rfl) Try.underlying26 (by kernel_rfl) ?_))
                        exact ⟨⟨i2 + 1, by omega, by go_num, (by rw [cnt_at HXy.out, (by assumption : Wy.eqB y.m x.m = true)]; first | rfl | go_num), Am56, Bm56, Xm56, Qm56, bm56⟩, by simp [intOf]; omega⟩

                      | true =>
                        obtain ⟨Wm59, hWm59⟩ : ∃ W, Wu.alloc (.cells #[.int .i64 0, .int .i64 0, .int .i64 0, .int .u64 0, .int .u64 0, .int .i64 0, .int .u64 0, .int .u64 0, .int .i64 0, .int .i64 0, .int .i64 0, .int .i64 0, .int .i64 0, .int .u64 0, .int .u64 0, .int .i64 0, .int .u64 0, .int .u64 0, .int .i64 0, .int .i64 0, .int .i64 0, .int .i64 0] 28) = W := ⟨_, rfl⟩
                        have bm59 := bel_al bu hWm59
                        have Am59 := Au.al hWm59
                        have Bm59 := Bu.al hWm59
                        have Xm59 := Xu.al hWm59
                        have Qm59 := Qu.al hWm59
                        have Cm59 := blk_nw hWm59
                        have gC : w.heap.size ≤ Wu.heap.size := bu.size
                        have nAC : w.heap.size ≠ Wu.heap.size := by have := Au.lt; omega
                        have nCA : Wu.heap.size ≠ w.heap.size := fun e => nAC e.symm
                        have nBC : Wv.heap.size ≠ Wu.heap.size := by have := Bu.lt; omega
                        have nCB : Wu.heap.size ≠ Wv.heap.size := fun e => nBC e.symm
                        have nXC : tb ≠ Wu.heap.size ∧ lb13 ≠ Wu.heap.size := by have := Xu.lt; omega
                        have nQC : (fun _ => False) Wu.heap.size ∨ Wm14.heap.size ≤ Wu.heap.size := .inr Qu.size
                        obtain ⟨Wm60, hWm60⟩ : ∃ W, Wm59.setRow Wu.heap.size y.v = W := ⟨_, rfl⟩
                        have Cm60 : Blk Wm60 Wu.heap.size 28 y.v := hWm60 ▸ Cm59.set y.v
                        have Am60 := hWm60 ▸ Am59.other nAC y.v
                        have Bm60 := hWm60 ▸ Bm59.other nBC y.v
                        have Xm60 := hWm60 ▸ Xm59.other nXC y.v
                        have Qm60 := hWm60 ▸ Qm59.other nQC y.v
                        have bm60 := hWm60 ▸ below_setRow bm59 gC y.v
                        have hE61 := eql_way y.m x.m
                        have hE62 := eql_way y.w x.w
                        go_wp2_with (first | (refine wpList_load_at_w (by rfl) _ _ rfl p2 (off2 + i2 * 22) (by rfl) _ hcy Try.underlying28 (by kernel_rfl) ?_) | (refine wpList_store_row rfl _ _ _ rfl Wu.heap.size y.v (by rfl) (by rfl) _ _ Cm59 (by kernel_rfl) (by rfl) (by kernel_rfl) ?_; rw [hWm60]) | (refine wpList_load_sub_w (by rfl) _ _ rfl Wu.heap.size 10 _ (by rfl) _ y.m.v Cm60 (by rfl) Try.underlying26 (by kernel_rfl) ?_) | (refine wpList_load_sub_w (by rfl) _ _ rfl Wv.heap.size 10 _ (by rfl) _ x.m.v Bm60 (by rfl) Try.underlying26 (by kernel_rfl) ?_) | (refine wpList_load_sub_w (by rfl) _ _ rfl Wu.heap.size 0 _ (by rfl) _ y.w.v Cm60 (by rfl) Try.underlying26 (by kernel_rfl) ?_) | (refine wpList_load_sub_w (by rfl) _ _ rfl Wv.heap.size 0 _ (by rfl) _ x.w.v Bm60 (by rfl) Try.underlying26 (by kernel_rfl) ?_))
                        exact absurd (by assumption : Wy.eqB y.w x.w = true) (by rw [hap (by assumption)]; decide)




                · have iki2 : ¬ (i2 : Int) < (M : Int) := by omega
                  have iki2' : decide ((i2 : Int) < (M : Int)) = false := by simpa using iki2
                  have hie : i2 = M := by omega
                  have hcq : ¬ cx.qu < (cntW x.m (s1.L.take i2) : Int) := by
                    have h8 := HOK1.out.quot x.m
                    have h9 : s1.quota = cx.qu := hI1.out.2
                    have h7 : s1.L.length = M := HM
                    rw [hie, List.take_of_length_le (by omega)]
                    omega
                  have hcq' : decide (cx.qu < (cntW x.m (s1.L.take i2) : Int)) = false := by simpa using hcq
                  clear hie
                  go_wp2_with fail
                  obtain ⟨Wdq63, hWdq63⟩ : ∃ W, Wu.drew = W := ⟨_, rfl⟩
                  have Adq63 := hWdq63 ▸ Au.drew
                  have Bdq63 := hWdq63 ▸ Bu.drew
                  have Xdq63 := hWdq63 ▸ Xu.drew
                  have Qdq63 := hWdq63 ▸ Qu.drew
                  have bdq63 := hWdq63 ▸ bu.drew
                  refine wp_region_noPanic ?_
                  refine wp_region_held_drew (S := fun w' => Blk w' w.heap.size 33 cx.v ∧ Blk w' Wv.heap.size 28 x.v ∧ TabX w' tb lb13 s1 ∧ But (fun _ => False) Wm14 w') (by kernel_rfl) (by rw [hWdq63]; exact ⟨Adq63, Bdq63, Xdq63, Qdq63⟩) (fun hHeld => ?_)
                  rw [hWdq63] at hHeld ⊢
                  refine qtk (i := 0) (oi := xpa43o10) (v := (.int .i64 (cntW x.m (s1.L.take i2) : Int))) hHeld ?_ ?_
                  · intro w9 hSw
                    try dsimp only at hSw
                    go_simp
                  try simp only [qpu]
                  refine qtk (i := 1) (oi := xpa43o9) (v := (.pointer (some ⟨w.heap.size, 1, none⟩))) hHeld ?_ ?_
                  · intro w9 hSw
                    try dsimp only at hSw
                    go_simp
                  try simp only [qpu]
                  refine qtk (i := 2) (oi := xpa43o7) (v := (.int .i64 cx.qu)) hHeld ?_ ?_
                  · intro w9 hSw
                    try dsimp only at hSw
                    have hcc := hSw.1.cell 1 (.int .i64 cx.qu) rfl
                    go_simp
                  try simp only [qpu]
                  refine qtk (i := 3) (oi := xpa43o2) (v := (.bool (decide (cx.qu < (cntW x.m (s1.L.take i2) : Int))))) hHeld ?_ ?_
                  · intro w9 hSw
                    try dsimp only at hSw
                    go_simp
                  try simp only [qpu]
                  refine qtk (i := 4) (oi := xpa43o8) (v := (.bool false)) hHeld ?_ ?_
                  · intro w9 hSw
                    try dsimp only at hSw
                    go_simp
                  try simp only [qpu]
                  refine qtk (i := 5) (oi := xpa43o5) (v := (.pointer (some ⟨Wv.heap.size, 20, none⟩))) hHeld ?_ ?_
                  · intro w9 hSw
                    try dsimp only at hSw
                    go_simp
                  try simp only [qpu]
                  refine qtk (i := 6) (oi := xpa43o4) (v := (.int .i64 x.ends)) hHeld ?_ ?_
                  · intro w9 hSw
                    try dsimp only at hSw
                    have hcc := hSw.2.1.cell 20 (.int .i64 x.ends) rfl
                    go_simp
                  try simp only [qpu]
                  refine qtk (i := 7) (oi := xpa43o6) (v := (.pointer (some ⟨tb, 0, none⟩))) hHeld ?_ ?_
                  · intro w9 hSw
                    try dsimp only at hSw
                    go_simp
                  try simp only [qpu]
                  refine wpAnyH_ready (rs := [8]) (by kernel_rfl) (by simp) ?_
                  refine AllReadyH.cons (o := xpa43o0) rfl (fun K hK => ?_) AllReadyH.nil
                  go_simp
                  refine Calls.mono (nowX tb lb13 s1 _ Xdq63) ?_
                  rintro e Wx64 ⟨rfl, bb⟩
                  have Ax64 := Adq63.kept bb
                  have Bx64 := Bdq63.kept bb
                  have Xx64 := Xdq63.kept bb
                  have Qx64 := Qdq63.kept bb
                  have bx64 := bel_tr bdq63 bb
                  clear bb
                  refine hK.out _ _ (by exact ⟨Ax64, Bx64, Xx64, Qx64⟩) (fun hHeld => ?_)
                  clear hK K
                  try simp only [qpu]
                  refine qtk (i := 9) (oi := xpa43o1) (v := (.bool (decide (x.ends ≤ s1.now)))) hHeld ?_ ?_
                  · intro w9 hSw
                    try dsimp only at hSw
                    go_simp
                  try simp only [qpu]
                  refine qtk (i := 10) (oi := xpa43o3) (v := (.bool false)) hHeld ?_ ?_
                  · intro w9 hSw
                    try dsimp only at hSw
                    go_simp
                  try simp only [qpu]
                  refine wpAnyH_done (by kernel_rfl) ?_ _
                  refine NoPanic.normal ?_
                  go_wp2_with fail
                  exact ⟨⟨k + 1, by omega, by go_num, Ax64, Xx64, Qx64, bx64⟩, by simp [intOf]; omega⟩

            · have ikk : ¬ (k : Int) < (M : Int) := by omega
              have ikk' : decide ((k : Int) < (M : Int)) = false := by simpa using ikk
              go_wp2_with fail
              exact ⟨⟨j + 1, s1, lb13, by omega, by go_num, hI1, gwm, Av, nXA, Xv, bv⟩, by simp [intOf]; omega⟩

        | true =>
          obtain ⟨Wm65, hWm65⟩ : ∃ W, Wr.alloc (.cells #[.int .i64 0, .int .i64 0, .int .i64 0, .int .i64 0, .int .i64 0, .int .i64 0, .int .u64 0, .int .u64 0, .int .i64 0, .int .u64 0, .int .u64 0, .int .i64 0, .int .i64 0, .int .i64 0, .int .i64 0, .int .i64 0, .int .u64 0, .int .u64 0, .int .i64 0, .int .u64 0, .int .u64 0, .int .i64 0, .int .i64 0, .int .i64 0, .int .i64 0] 45) = W := ⟨_, rfl⟩
          have bm65 := bel_al br hWm65
          have Am65 := Ar.al hWm65
          have Xm65 := Xr.al hWm65
          have Bm65 := blk_nw hWm65
          have gB : w.heap.size ≤ Wr.heap.size := br.size
          have nAB : w.heap.size ≠ Wr.heap.size := by have := Ar.lt; omega
          have nBA : Wr.heap.size ≠ w.heap.size := fun e => nAB e.symm
          have nXB : tb ≠ Wr.heap.size ∧ lb ≠ Wr.heap.size := by have := Xr.lt; omega
          obtain ⟨Wm66, hWm66⟩ : ∃ W, Wm65.setRow Wr.heap.size qa.v = W := ⟨_, rfl⟩
          have Bm66 : Blk Wm66 Wr.heap.size 45 qa.v := hWm66 ▸ Bm65.set qa.v
          have Am66 := hWm66 ▸ Am65.other nAB qa.v
          have Xm66 := hWm66 ▸ Xm65.other nXB qa.v
          have bm66 := hWm66 ▸ below_setRow bm65 gB qa.v
          have c67 := Bm66.cell 0 (.int .i64 qa.kd) rfl
          have c68 := Bm66.cell 2 (.int .i64 qa.nw) rfl
          go_wp2_with (first | (refine wpList_load_at_w (by rfl) _ _ rfl p (off + j * 25) (by rfl) _ hca Try.underlying45 (by kernel_rfl) ?_) | (refine wpList_store_row rfl _ _ _ rfl Wr.heap.size qa.v (by rfl) (by rfl) _ _ Bm65 (by kernel_rfl) (by rfl) (by kernel_rfl) ?_; rw [hWm66]))
          clear c67 c68
          refine Calls.mono (tickX tb lb s qa.nw _ Xm66) ?_
          rintro e Wm69 ⟨rfl, Xm69, bb⟩
          have Am69 := Am66.but bb (by have := nXA; omega)
          have Bm69 := Bm66.but bb (by have := nXB; omega)
          have bm69 := bel_but bm66 bb gwb gwm
          clear bb
          clear Am66 Xm66 Bm66 bm66
          obtain ⟨s1, hs1⟩ : ∃ t, (Xt.tick s qa.nw).1 = t := ⟨_, rfl⟩
          rw [hs1] at Xm69
          have hI1 : Hid (s1.most = cx.mo ∧ s1.quota = cx.qu) := by rw [← hs1]; exact ⟨(tick_most s _).1.trans hI.out.1, (tick_most s _).2.trans hI.out.2⟩
          have HOK1 : Hid (XtOk s1) := Xm69.ok
          have HLN1 : s1.L.length ≤ 1000000 := Xm69.len
          have hfw : ¬ cx.mo < (s1.L.length : Int) := by
            have h8 := HOK1.out.few
            have h9 : s1.most = cx.mo := hI1.out.1
            omega
          have hfw' : decide (cx.mo < (s1.L.length : Int)) = false := by simpa using hfw
          clear hs1
          go_wp2_with fail
          refine Calls.mono (allX tb lb s1 _ Xm69) ?_
          rintro e Wm70 ⟨aa, ca, rfl, OAm70, bb⟩
          have Am70 := Am69.kept bb
          have Xm70 := Xm69.kept bb
          have Bm70 := Bm69.kept bb
          have bm70 := bel_tr bm69 bb
          clear bb
          have HRW : Hid (RowW Wm70 aa s1.L) := OAm70.row (fun _ _ => trivial)
          have HCA : Hid (s1.L.length ≤ ca) := OAm70.le
          have Qm70 : But (fun _ => False) Wm70 Wm70 := But.refl _ _
          clear Am69 Xm69 Bm69 bm69
          have c71 := Am70.cell 0 (.int .i64 cx.mo) rfl
          go_wp2_with fail
          clear c71
          refine Calls.mono (lenX tb lb s1 _ Xm70) ?_
          rintro e Wm72 ⟨rfl, bb⟩
          have Am72 := Am70.kept bb
          have Xm72 := Xm70.kept bb
          have Bm72 := Bm70.kept bb
          have Qm72 := Qm70.kept bb
          have bm72 := bel_tr bm70 bb
          clear bb
          clear Am70 Xm70 Bm70 Qm70 bm70
          go_wp2_with fail
          obtain ⟨M, hM⟩ : ∃ M, s1.L.length = M := ⟨_, rfl⟩
          have HM : Hid (s1.L.length = M) := hM
          have hM0 : M ≤ 1000000 := by
            have h8 := HOK1.out.len
            omega
          rw [hM]
          clear hM
          clear hfw hfw'
          go_loopw [68] (fun i wr => ∃ k : Nat, k ≤ M ∧ i = .int .i64 k ∧ Blk wr w.heap.size 33 cx.v ∧ TabX wr tb lb s1 ∧ But (fun _ => False) Wm70 wr ∧ Below w.heap.size w wr) (fun i _ => M - (intOf i).toNat)
          case atStart => exact ⟨0, Nat.zero_le _, rfl, Am72, Xm72, Qm72, bm72⟩
          case round =>
            obtain ⟨k, hkk, rfl, Av, Xv, Qv, bv⟩ := hrel
            obtain ⟨Wv, rfl⟩ : ∃ W, W = wr := ⟨_, rfl⟩
            have in0k : (0 : Int) ≤ (k : Int) := by omega
            by_cases hltk : k < M
            · have ikk : (k : Int) < (M : Int) := by omega
              have ikk' : decide ((k : Int) < (M : Int)) = true := by simpa using ikk
              obtain ⟨x, hx⟩ : ∃ x, s1.L[k]? = some x := ⟨_, List.getElem?_eq_getElem (by rw [HM.out]; exact hltk)⟩
              have HXx : Hid (s1.L[k]? = some x) := hx
              obtain ⟨p2, off2, rfl, hcellsx⟩ := HRW.out.cells k x hx
              have hcb := hcellsx.below (Qv.to_below (Nat.le_refl _) (fun _ _ x => x))
              clear hcellsx hx
              have hen : ¬ x.ends ≤ s1.now := by have := (HOK1.out.each x (List.mem_of_getElem? HXx.out)).2.1; omega
              have hen' : decide (x.ends ≤ s1.now) = false := by simpa using hen
              obtain ⟨Wm73, hWm73⟩ : ∃ W, Wv.alloc (.cells #[.int .i64 0, .int .i64 0, .int .i64 0, .int .u64 0, .int .u64 0, .int .i64 0, .int .u64 0, .int .u64 0, .int .i64 0, .int .i64 0, .int .i64 0, .int .i64 0, .int .i64 0, .int .u64 0, .int .u64 0, .int .i64 0, .int .u64 0, .int .u64 0, .int .i64 0, .int .i64 0, .int .i64 0, .int .i64 0] 28) = W := ⟨_, rfl⟩
              have bm73 := bel_al bv hWm73
              have Am73 := Av.al hWm73
              have Xm73 := Xv.al hWm73
              have Qm73 := Qv.al hWm73
              have Bm73 := blk_nw hWm73
              have gB : w.heap.size ≤ Wv.heap.size := bv.size
              have nAB : w.heap.size ≠ Wv.heap.size := by have := Av.lt; omega
              have nBA : Wv.heap.size ≠ w.heap.size := fun e => nAB e.symm
              have nXB : tb ≠ Wv.heap.size ∧ lb ≠ Wv.heap.size := by have := Xv.lt; omega
              have nQB : (fun _ => False) Wv.heap.size ∨ Wm70.heap.size ≤ Wv.heap.size := .inr Qv.size
              obtain ⟨Wm74, hWm74⟩ : ∃ W, Wm73.setRow Wv.heap.size x.v = W := ⟨_, rfl⟩
              have Bm74 : Blk Wm74 Wv.heap.size 28 x.v := hWm74 ▸ Bm73.set x.v
              have Am74 := hWm74 ▸ Am73.other nAB x.v
              have Xm74 := hWm74 ▸ Xm73.other nXB x.v
              have Qm74 := hWm74 ▸ Qm73.other nQB x.v
              have bm74 := hWm74 ▸ below_setRow bm73 gB x.v
              go_wp2_with (first | (refine wpList_load_at_w (by rfl) _ _ rfl p2 (off2 + k * 22) (by rfl) _ hcb Try.underlying28 (by kernel_rfl) ?_) | (refine wpList_store_row rfl _ _ _ rfl Wv.heap.size x.v (by rfl) (by rfl) _ _ Bm73 (by kernel_rfl) (by rfl) (by kernel_rfl) ?_; rw [hWm74]))
              go_loopw [12, 75] (fun i12 i wr => ∃ i2 : Nat, i2 ≤ M ∧ i = .int .i64 i2 ∧ i12 = .int .i64 (cntW x.m (s1.L.take i2) : Int) ∧ Blk wr w.heap.size 33 cx.v ∧ Blk wr Wv.heap.size 28 x.v ∧ TabX wr tb lb s1 ∧ But (fun _ => False) Wm70 wr ∧ Below w.heap.size w wr) (fun i12 i _ => M - (intOf i).toNat)
              case atStart => exact ⟨0, Nat.zero_le _, rfl, rfl, Am74, Bm74, Xm74, Qm74, bm74⟩
              case round =>
                obtain ⟨i2, hki2, rfl, rfl, Au, Bu, Xu, Qu, bu⟩ := hrel
                obtain ⟨Wu, rfl⟩ : ∃ W, W = wr := ⟨_, rfl⟩
                have in0i2 : (0 : Int) ≤ (i2 : Int) := by omega
                by_cases hlti2 : i2 < M
                · have iki2 : (i2 : Int) < (M : Int) := by omega
                  have iki2' : decide ((i2 : Int) < (M : Int)) = true := by simpa using iki2
                  obtain ⟨y, hy⟩ : ∃ x, s1.L[i2]? = some x := ⟨_, List.getElem?_eq_getElem (by rw [HM.out]; exact hlti2)⟩
                  have HXy : Hid (s1.L[i2]? = some y) := hy
                  obtain ⟨pz, oz, ez, hcellsy⟩ := HRW.out.cells i2 y hy
                  cases ez
                  have hcy := hcellsy.below (Qu.to_below (Nat.le_refl _) (fun _ _ x => x))
                  clear hcellsy hy
                  have hap : ((i2 : Int) != (k : Int)) = true → Wy.eqB y.w x.w = false := fun h => ways_apart HOK1.out HXy.out HXx.out (by rintro rfl; simp at h)
                  have hcu : cntW x.m (s1.L.take i2) ≤ 1000000 := by
                    have h8 : cntW x.m (s1.L.take i2) ≤ (s1.L.take i2).length := List.countP_le_length
                    have h9 := List.length_take_le i2 s1.L
                    have h7 := HLN1
                    omega
                  cases hq78 : (Wy.eqB y.m x.m) with
                  | false =>
                    cases hq82 : ((i2 : Int) != (k : Int)) with
                    | false =>
                      obtain ⟨Wm83, hWm83⟩ : ∃ W, Wu.alloc (.cells #[.int .i64 0, .int .i64 0, .int .i64 0, .int .u64 0, .int .u64 0, .int .i64 0, .int .u64 0, .int .u64 0, .int .i64 0, .int .i64 0, .int .i64 0, .int .i64 0, .int .i64 0, .int .u64 0, .int .u64 0, .int .i64 0, .int .u64 0, .int .u64 0, .int .i64 0, .int .i64 0, .int .i64 0, .int .i64 0] 28) = W := ⟨_, rfl⟩
                      have bm83 := bel_al bu hWm83
                      have Am83 := Au.al hWm83
                      have Bm83 := Bu.al hWm83
                      have Xm83 := Xu.al hWm83
                      have Qm83 := Qu.al hWm83
                      have Cm83 := blk_nw hWm83
                      have gC : w.heap.size ≤ Wu.heap.size := bu.size
                      have nAC : w.heap.size ≠ Wu.heap.size := by have := Au.lt; omega
                      have nCA : Wu.heap.size ≠ w.heap.size := fun e => nAC e.symm
                      have nBC : Wv.heap.size ≠ Wu.heap.size := by have := Bu.lt; omega
                      have nCB : Wu.heap.size ≠ Wv.heap.size := fun e => nBC e.symm
                      have nXC : tb ≠ Wu.heap.size ∧ lb ≠ Wu.heap.size := by have := Xu.lt; omega
                      have nQC : (fun _ => False) Wu.heap.size ∨ Wm70.heap.size ≤ Wu.heap.size := .inr Qu.size
                      obtain ⟨Wm84, hWm84⟩ : ∃ W, Wm83.setRow Wu.heap.size y.v = W := ⟨_, rfl⟩
                      have Cm84 : Blk Wm84 Wu.heap.size 28 y.v := hWm84 ▸ Cm83.set y.v
                      have Am84 := hWm84 ▸ Am83.other nAC y.v
                      have Bm84 := hWm84 ▸ Bm83.other nBC y.v
                      have Xm84 := hWm84 ▸ Xm83.other nXC y.v
                      have Qm84 := hWm84 ▸ Qm83.other nQC y.v
                      have bm84 := hWm84 ▸ below_setRow bm83 gC y.v
                      have hE85 := eql_way y.m x.m
                      go_wp2_with (first | (refine wpList_load_at_w (by rfl) _ _ rfl p2 (off2 + i2 * 22) (by rfl) _ hcy Try.underlying28 (by kernel_rfl) ?_) | (refine wpList_store_row rfl _ _ _ rfl Wu.heap.size y.v (by rfl) (by rfl) _ _ Cm83 (by kernel_rfl) (by rfl) (by kernel_rfl) ?_; rw [hWm84]) | (refine wpList_load_sub_w (by rfl) _ _ rfl Wu.heap.size 10 _ (by rfl) _ y.m.v Cm84 (by rfl) Try.underlying26 (by kernel_rfl) ?_) | (refine wpList_load_sub_w (by rfl) _ _ rfl Wv.heap.size 10 _ (by rfl) _ x.m.v Bm84 (by rfl) Try.underlying26 (by kernel_rfl) ?_))
                      exact ⟨⟨i2 + 1, by omega, by go_num, (by rw [cnt_at HXy.out, (by assumption : Wy.eqB y.m x.m = false)]; first | rfl | go_num), Am84, Bm84, Xm84, Qm84, bm84⟩, by simp [intOf]; omega⟩

                    | true =>
                      cases hq90 : (Wy.eqB y.w x.w) with
                      | false =>
                        obtain ⟨Wm91, hWm91⟩ : ∃ W, Wu.alloc (.cells #[.int .i64 0, .int .i64 0, .int .i64 0, .int .u64 0, .int .u64 0, .int .i64 0, .int .u64 0, .int .u64 0, .int .i64 0, .int .i64 0, .int .i64 0, .int .i64 0, .int .i64 0, .int .u64 0, .int .u64 0, .int .i64 0, .int .u64 0, .int .u64 0, .int .i64 0, .int .i64 0, .int .i64 0, .int .i64 0] 28) = W := ⟨_, rfl⟩
                        have bm91 := bel_al bu hWm91
                        have Am91 := Au.al hWm91
                        have Bm91 := Bu.al hWm91
                        have Xm91 := Xu.al hWm91
                        have Qm91 := Qu.al hWm91
                        have Cm91 := blk_nw hWm91
                        have gC : w.heap.size ≤ Wu.heap.size := bu.size
                        have nAC : w.heap.size ≠ Wu.heap.size := by have := Au.lt; omega
                        have nCA : Wu.heap.size ≠ w.heap.size := fun e => nAC e.symm
                        have nBC : Wv.heap.size ≠ Wu.heap.size := by have := Bu.lt; omega
                        have nCB : Wu.heap.size ≠ Wv.heap.size := fun e => nBC e.symm
                        have nXC : tb ≠ Wu.heap.size ∧ lb ≠ Wu.heap.size := by have := Xu.lt; omega
                        have nQC : (fun _ => False) Wu.heap.size ∨ Wm70.heap.size ≤ Wu.heap.size := .inr Qu.size
                        obtain ⟨Wm92, hWm92⟩ : ∃ W, Wm91.setRow Wu.heap.size y.v = W := ⟨_, rfl⟩
                        have Cm92 : Blk Wm92 Wu.heap.size 28 y.v := hWm92 ▸ Cm91.set y.v
                        have Am92 := hWm92 ▸ Am91.other nAC y.v
                        have Bm92 := hWm92 ▸ Bm91.other nBC y.v
                        have Xm92 := hWm92 ▸ Xm91.other nXC y.v
                        have Qm92 := hWm92 ▸ Qm91.other nQC y.v
                        have bm92 := hWm92 ▸ below_setRow bm91 gC y.v
                        have hE93 := eql_way y.m x.m
                        have hE94 := eql_way y.w x.w
                        go_wp2_with (first | (refine wpList_load_at_w (by rfl) _ _ rfl p2 (off2 + i2 * 22) (by rfl) _ hcy Try.underlying28 (by kernel_rfl) ?_) | (refine wpList_store_row rfl _ _ _ rfl Wu.heap.size y.v (by rfl) (by rfl) _ _ Cm91 (by kernel_rfl) (by rfl) (by kernel_rfl) ?_; rw [hWm92]) | (refine wpList_load_sub_w (by rfl) _ _ rfl Wu.heap.size 10 _ (by rfl) _ y.m.v Cm92 (by rfl) Try.underlying26 (by kernel_rfl) ?_) | (refine wpList_load_sub_w (by rfl) _ _ rfl Wv.heap.size 10 _ (by rfl) _ x.m.v Bm92 (by rfl) Try.underlying26 (by kernel_rfl) ?_) | (refine wpList_load_sub_w (by rfl) _ _ rfl Wu.heap.size 0 _ (by rfl) _ y.w.v Cm92 (by rfl) Try.underlying26 (by kernel_rfl) ?_) | (refine wpList_load_sub_w (by rfl) _ _ rfl Wv.heap.size 0 _ (by rfl) _ x.w.v Bm92 (by rfl) Try.underlying26 (by kernel_rfl) ?_))
                        exact ⟨⟨i2 + 1, by omega, by go_num, (by rw [cnt_at HXy.out, (by assumption : Wy.eqB y.m x.m = false)]; first | rfl | go_num), Am92, Bm92, Xm92, Qm92, bm92⟩, by simp [intOf]; omega⟩

                      | true =>
                        obtain ⟨Wm95, hWm95⟩ : ∃ W, Wu.alloc (.cells #[.int .i64 0, .int .i64 0, .int .i64 0, .int .u64 0, .int .u64 0, .int .i64 0, .int .u64 0, .int .u64 0, .int .i64 0, .int .i64 0, .int .i64 0, .int .i64 0, .int .i64 0, .int .u64 0, .int .u64 0, .int .i64 0, .int .u64 0, .int .u64 0, .int .i64 0, .int .i64 0, .int .i64 0, .int .i64 0] 28) = W := ⟨_, rfl⟩
                        have bm95 := bel_al bu hWm95
                        have Am95 := Au.al hWm95
                        have Bm95 := Bu.al hWm95
                        have Xm95 := Xu.al hWm95
                        have Qm95 := Qu.al hWm95
                        have Cm95 := blk_nw hWm95
                        have gC : w.heap.size ≤ Wu.heap.size := bu.size
                        have nAC : w.heap.size ≠ Wu.heap.size := by have := Au.lt; omega
                        have nCA : Wu.heap.size ≠ w.heap.size := fun e => nAC e.symm
                        have nBC : Wv.heap.size ≠ Wu.heap.size := by have := Bu.lt; omega
                        have nCB : Wu.heap.size ≠ Wv.heap.size := fun e => nBC e.symm
                        have nXC : tb ≠ Wu.heap.size ∧ lb ≠ Wu.heap.size := by have := Xu.lt; omega
                        have nQC : (fun _ => False) Wu.heap.size ∨ Wm70.heap.size ≤ Wu.heap.size := .inr Qu.size
                        obtain ⟨Wm96, hWm96⟩ : ∃ W, Wm95.setRow Wu.heap.size y.v = W := ⟨_, rfl⟩
                        have Cm96 : Blk Wm96 Wu.heap.size 28 y.v := hWm96 ▸ Cm95.set y.v
                        have Am96 := hWm96 ▸ Am95.other nAC y.v
                        have Bm96 := hWm96 ▸ Bm95.other nBC y.v
                        have Xm96 := hWm96 ▸ Xm95.other nXC y.v
                        have Qm96 := hWm96 ▸ Qm95.other nQC y.v
                        have bm96 := hWm96 ▸ below_setRow bm95 gC y.v
                        have hE97 := eql_way y.m x.m
                        have hE98 := eql_way y.w x.w
                        go_wp2_with (first | (refine wpList_load_at_w (by rfl) _ _ rfl p2 (off2 + i2 * 22) (by rfl) _ hcy Try.underlying28 (by kernel_rfl) ?_) | (refine wpList_store_row rfl _ _ _ rfl Wu.heap.size y.v (by rfl) (by rfl) _ _ Cm95 (by kernel_rfl) (by rfl) (by kernel_rfl) ?_; rw [hWm96]) | (refine wpList_load_sub_w (by rfl) _ _ rfl Wu.heap.size 10 _ (by rfl) _ y.m.v Cm96 (by rfl) Try.underlying26 (by kernel_rfl) ?_) | (refine wpList_load_sub_w (by rfl) _ _ rfl Wv.heap.size 10 _ (by rfl) _ x.m.v Bm96 (by rfl) Try.underlying26 (by kernel_rfl) ?_) | (refine wpList_load_sub_w (by rfl) _ _ rfl Wu.heap.size 0 _ (by rfl) _ y.w.v Cm96 (by rfl) Try.underlying26 (by kernel_rfl) ?_) | (refine wpList_load_sub_w (by rfl) _ _ rfl Wv.heap.size 0 _ (by rfl) _ x.w.v Bm96 (by rfl) Try.underlying26 (by kernel_rfl) ?_))
                        exact absurd (by assumption : Wy.eqB y.w x.w = true) (by rw [hap (by assumption)]; decide)



                  | true =>
                    cases hq102 : ((i2 : Int) != (k : Int)) with
                    | false =>
                      obtain ⟨Wm103, hWm103⟩ : ∃ W, Wu.alloc (.cells #[.int .i64 0, .int .i64 0, .int .i64 0, .int .u64 0, .int .u64 0, .int .i64 0, .int .u64 0, .int .u64 0, .int .i64 0, .int .i64 0, .int .i64 0, .int .i64 0, .int .i64 0, .int .u64 0, .int .u64 0, .int .i64 0, .int .u64 0, .int .u64 0, .int .i64 0, .int .i64 0, .int .i64 0, .int .i64 0] 28) = W := ⟨_, rfl⟩
                      have bm103 := bel_al bu hWm103
                      have Am103 := Au.al hWm103
                      have Bm103 := Bu.al hWm103
                      have Xm103 := Xu.al hWm103
                      have Qm103 := Qu.al hWm103
                      have Cm103 := blk_nw hWm103
                      have gC : w.heap.size ≤ Wu.heap.size := bu.size
                      have nAC : w.heap.size ≠ Wu.heap.size := by have := Au.lt; omega
                      have nCA : Wu.heap.size ≠ w.heap.size := fun e => nAC e.symm
                      have nBC : Wv.heap.size ≠ Wu.heap.size := by have := Bu.lt; omega
                      have nCB : Wu.heap.size ≠ Wv.heap.size := fun e => nBC e.symm
                      have nXC : tb ≠ Wu.heap.size ∧ lb ≠ Wu.heap.size := by have := Xu.lt; omega
                      have nQC : (fun _ => False) Wu.heap.size ∨ Wm70.heap.size ≤ Wu.heap.size := .inr Qu.size
                      obtain ⟨Wm104, hWm104⟩ : ∃ W, Wm103.setRow Wu.heap.size y.v = W := ⟨_, rfl⟩
                      have Cm104 : Blk Wm104 Wu.heap.size 28 y.v := hWm104 ▸ Cm103.set y.v
                      have Am104 := hWm104 ▸ Am103.other nAC y.v
                      have Bm104 := hWm104 ▸ Bm103.other nBC y.v
                      have Xm104 := hWm104 ▸ Xm103.other nXC y.v
                      have Qm104 := hWm104 ▸ Qm103.other nQC y.v
                      have bm104 := hWm104 ▸ below_setRow bm103 gC y.v
                      have hE105 := eql_way y.m x.m
                      go_wp2_with (first | (refine wpList_load_at_w (by rfl) _ _ rfl p2 (off2 + i2 * 22) (by rfl) _ hcy Try.underlying28 (by kernel_rfl) ?_) | (refine wpList_store_row rfl _ _ _ rfl Wu.heap.size y.v (by rfl) (by rfl) _ _ Cm103 (by kernel_rfl) (by rfl) (by kernel_rfl) ?_; rw [hWm104]) | (refine wpList_load_sub_w (by rfl) _ _ rfl Wu.heap.size 10 _ (by rfl) _ y.m.v Cm104 (by rfl) Try.underlying26 (by kernel_rfl) ?_) | (refine wpList_load_sub_w (by rfl) _ _ rfl Wv.heap.size 10 _ (by rfl) _ x.m.v Bm104 (by rfl) Try.underlying26 (by kernel_rfl) ?_))
                      exact ⟨⟨i2 + 1, by omega, by go_num, (by rw [cnt_at HXy.out, (by assumption : Wy.eqB y.m x.m = true)]; first | rfl | go_num), Am104, Bm104, Xm104, Qm104, bm104⟩, by simp [intOf]; omega⟩

                    | true =>
                      cases hq110 : (Wy.eqB y.w x.w) with
                      | false =>
                        obtain ⟨Wm111, hWm111⟩ : ∃ W, Wu.alloc (.cells #[.int .i64 0, .int .i64 0, .int .i64 0, .int .u64 0, .int .u64 0, .int .i64 0, .int .u64 0, .int .u64 0, .int .i64 0, .int .i64 0, .int .i64 0, .int .i64 0, .int .i64 0, .int .u64 0, .int .u64 0, .int .i64 0, .int .u64 0, .int .u64 0, .int .i64 0, .int .i64 0, .int .i64 0, .int .i64 0] 28) = W := ⟨_, rfl⟩
                        have bm111 := bel_al bu hWm111
                        have Am111 := Au.al hWm111
                        have Bm111 := Bu.al hWm111
                        have Xm111 := Xu.al hWm111
                        have Qm111 := Qu.al hWm111
                        have Cm111 := blk_nw hWm111
                        have gC : w.heap.size ≤ Wu.heap.size := bu.size
                        have nAC : w.heap.size ≠ Wu.heap.size := by have := Au.lt; omega
                        have nCA : Wu.heap.size ≠ w.heap.size := fun e => nAC e.symm
                        have nBC : Wv.heap.size ≠ Wu.heap.size := by have := Bu.lt; omega
                        have nCB : Wu.heap.size ≠ Wv.heap.size := fun e => nBC e.symm
                        have nXC : tb ≠ Wu.heap.size ∧ lb ≠ Wu.heap.size := by have := Xu.lt; omega
                        have nQC : (fun _ => False) Wu.heap.size ∨ Wm70.heap.size ≤ Wu.heap.size := .inr Qu.size
                        obtain ⟨Wm112, hWm112⟩ : ∃ W, Wm111.setRow Wu.heap.size y.v = W := ⟨_, rfl⟩
                        have Cm112 : Blk Wm112 Wu.heap.size 28 y.v := hWm112 ▸ Cm111.set y.v
                        have Am112 := hWm112 ▸ Am111.other nAC y.v
                        have Bm112 := hWm112 ▸ Bm111.other nBC y.v
                        have Xm112 := hWm112 ▸ Xm111.other nXC y.v
                        have Qm112 := hWm112 ▸ Qm111.other nQC y.v
                        have bm112 := hWm112 ▸ below_setRow bm111 gC y.v
                        have hE113 := eql_way y.m x.m
                        have hE114 := eql_way y.w x.w
                        go_wp2_with (first | (refine wpList_load_at_w (by rfl) _ _ rfl p2 (off2 + i2 * 22) (by rfl) _ hcy Try.underlying28 (by kernel_rfl) ?_) | (refine wpList_store_row rfl _ _ _ rfl Wu.heap.size y.v (by rfl) (by rfl) _ _ Cm111 (by kernel_rfl) (by rfl) (by kernel_rfl) ?_; rw [hWm112]) | (refine wpList_load_sub_w (by rfl) _ _ rfl Wu.heap.size 10 _ (by rfl) _ y.m.v Cm112 (by rfl) Try.underlying26 (by kernel_rfl) ?_) | (refine wpList_load_sub_w (by rfl) _ _ rfl Wv.heap.size 10 _ (by rfl) _ x.m.v Bm112 (by rfl) Try.underlying26 (by kernel_rfl) ?_) | (refine wpList_load_sub_w (by rfl) _ _ rfl Wu.heap.size 0 _ (by rfl) _ y.w.v Cm112 (by rfl) Try.underlying26 (by kernel_rfl) ?_) | (refine wpList_load_sub_w (by rfl) _ _ rfl Wv.heap.size 0 _ (by rfl) _ x.w.v Bm112 (by rfl) Try.underlying26 (by kernel_rfl) ?_))
                        exact ⟨⟨i2 + 1, by omega, by go_num, (by rw [cnt_at HXy.out, (by assumption : Wy.eqB y.m x.m = true)]; first | rfl | go_num), Am112, Bm112, Xm112, Qm112, bm112⟩, by simp [intOf]; omega⟩

                      | true =>
                        obtain ⟨Wm115, hWm115⟩ : ∃ W, Wu.alloc (.cells #[.int .i64 0, .int .i64 0, .int .i64 0, .int .u64 0, .int .u64 0, .int .i64 0, .int .u64 0, .int .u64 0, .int .i64 0, .int .i64 0, .int .i64 0, .int .i64 0, .int .i64 0, .int .u64 0, .int .u64 0, .int .i64 0, .int .u64 0, .int .u64 0, .int .i64 0, .int .i64 0, .int .i64 0, .int .i64 0] 28) = W := ⟨_, rfl⟩
                        have bm115 := bel_al bu hWm115
                        have Am115 := Au.al hWm115
                        have Bm115 := Bu.al hWm115
                        have Xm115 := Xu.al hWm115
                        have Qm115 := Qu.al hWm115
                        have Cm115 := blk_nw hWm115
                        have gC : w.heap.size ≤ Wu.heap.size := bu.size
                        have nAC : w.heap.size ≠ Wu.heap.size := by have := Au.lt; omega
                        have nCA : Wu.heap.size ≠ w.heap.size := fun e => nAC e.symm
                        have nBC : Wv.heap.size ≠ Wu.heap.size := by have := Bu.lt; omega
                        have nCB : Wu.heap.size ≠ Wv.heap.size := fun e => nBC e.symm
                        have nXC : tb ≠ Wu.heap.size ∧ lb ≠ Wu.heap.size := by have := Xu.lt; omega
                        have nQC : (fun _ => False) Wu.heap.size ∨ Wm70.heap.size ≤ Wu.heap.size := .inr Qu.size
                        obtain ⟨Wm116, hWm116⟩ : ∃ W, Wm115.setRow Wu.heap.size y.v = W := ⟨_, rfl⟩
                        have Cm116 : Blk Wm116 Wu.heap.size 28 y.v := hWm116 ▸ Cm115.set y.v
                        have Am116 := hWm116 ▸ Am115.other nAC y.v
                        have Bm116 := hWm116 ▸ Bm115.other nBC y.v
                        have Xm116 := hWm116 ▸ Xm115.other nXC y.v
                        have Qm116 := hWm116 ▸ Qm115.other nQC y.v
                        have bm116 := hWm116 ▸ below_setRow bm115 gC y.v
                        have hE117 := eql_way y.m x.m
                        have hE118 := eql_way y.w x.w
                        go_wp2_with (first | (refine wpList_load_at_w (by rfl) _ _ rfl p2 (off2 + i2 * 22) (by rfl) _ hcy Try.underlying28 (by kernel_rfl) ?_) | (refine wpList_store_row rfl _ _ _ rfl Wu.heap.size y.v (by rfl) (by rfl) _ _ Cm115 (by kernel_rfl) (by rfl) (by kernel_rfl) ?_; rw [hWm116]) | (refine wpList_load_sub_w (by rfl) _ _ rfl Wu.heap.size 10 _ (by rfl) _ y.m.v Cm116 (by rfl) Try.underlying26 (by kernel_rfl) ?_) | (refine wpList_load_sub_w (by rfl) _ _ rfl Wv.heap.size 10 _ (by rfl) _ x.m.v Bm116 (by rfl) Try.underlying26 (by kernel_rfl) ?_) | (refine wpList_load_sub_w (by rfl) _ _ rfl Wu.heap.size 0 _ (by rfl) _ y.w.v Cm116 (by rfl) Try.underlying26 (by kernel_rfl) ?_) | (refine wpList_load_sub_w (by rfl) _ _ rfl Wv.heap.size 0 _ (by rfl) _ x.w.v Bm116 (by rfl) Try.underlying26 (by kernel_rfl) ?_))
                        exact absurd (by assumption : Wy.eqB y.w x.w = true) (by rw [hap (by assumption)]; decide)




                · have iki2 : ¬ (i2 : Int) < (M : Int) := by omega
                  have iki2' : decide ((i2 : Int) < (M : Int)) = false := by simpa using iki2
                  have hie : i2 = M := by omega
                  have hcq : ¬ cx.qu < (cntW x.m (s1.L.take i2) : Int) := by
                    have h8 := HOK1.out.quot x.m
                    have h9 : s1.quota = cx.qu := hI1.out.2
                    have h7 : s1.L.length = M := HM
                    rw [hie, List.take_of_length_le (by omega)]
                    omega
                  have hcq' : decide (cx.qu < (cntW x.m (s1.L.take i2) : Int)) = false := by simpa using hcq
                  clear hie
                  go_wp2_with fail
                  obtain ⟨Wdq119, hWdq119⟩ : ∃ W, Wu.drew = W := ⟨_, rfl⟩
                  have Adq119 := hWdq119 ▸ Au.drew
                  have Bdq119 := hWdq119 ▸ Bu.drew
                  have Xdq119 := hWdq119 ▸ Xu.drew
                  have Qdq119 := hWdq119 ▸ Qu.drew
                  have bdq119 := hWdq119 ▸ bu.drew
                  refine wp_region_noPanic ?_
                  refine wp_region_held_drew (S := fun w' => Blk w' w.heap.size 33 cx.v ∧ Blk w' Wv.heap.size 28 x.v ∧ TabX w' tb lb s1 ∧ But (fun _ => False) Wm70 w') (by kernel_rfl) (by rw [hWdq119]; exact ⟨Adq119, Bdq119, Xdq119, Qdq119⟩) (fun hHeld => ?_)
                  rw [hWdq119] at hHeld ⊢
                  refine qtk (i := 0) (oi := xpa43o10) (v := (.int .i64 (cntW x.m (s1.L.take i2) : Int))) hHeld ?_ ?_
                  · intro w9 hSw
                    try dsimp only at hSw
                    go_simp
                  try simp only [qpu]
                  refine qtk (i := 1) (oi := xpa43o9) (v := (.pointer (some ⟨w.heap.size, 1, none⟩))) hHeld ?_ ?_
                  · intro w9 hSw
                    try dsimp only at hSw
                    go_simp
                  try simp only [qpu]
                  refine qtk (i := 2) (oi := xpa43o7) (v := (.int .i64 cx.qu)) hHeld ?_ ?_
                  · intro w9 hSw
                    try dsimp only at hSw
                    have hcc := hSw.1.cell 1 (.int .i64 cx.qu) rfl
                    go_simp
                  try simp only [qpu]
                  refine qtk (i := 3) (oi := xpa43o2) (v := (.bool (decide (cx.qu < (cntW x.m (s1.L.take i2) : Int))))) hHeld ?_ ?_
                  · intro w9 hSw
                    try dsimp only at hSw
                    go_simp
                  try simp only [qpu]
                  refine qtk (i := 4) (oi := xpa43o8) (v := (.bool false)) hHeld ?_ ?_
                  · intro w9 hSw
                    try dsimp only at hSw
                    go_simp
                  try simp only [qpu]
                  refine qtk (i := 5) (oi := xpa43o5) (v := (.pointer (some ⟨Wv.heap.size, 20, none⟩))) hHeld ?_ ?_
                  · intro w9 hSw
                    try dsimp only at hSw
                    go_simp
                  try simp only [qpu]
                  refine qtk (i := 6) (oi := xpa43o4) (v := (.int .i64 x.ends)) hHeld ?_ ?_
                  · intro w9 hSw
                    try dsimp only at hSw
                    have hcc := hSw.2.1.cell 20 (.int .i64 x.ends) rfl
                    go_simp
                  try simp only [qpu]
                  refine qtk (i := 7) (oi := xpa43o6) (v := (.pointer (some ⟨tb, 0, none⟩))) hHeld ?_ ?_
                  · intro w9 hSw
                    try dsimp only at hSw
                    go_simp
                  try simp only [qpu]
                  refine wpAnyH_ready (rs := [8]) (by kernel_rfl) (by simp) ?_
                  refine AllReadyH.cons (o := xpa43o0) rfl (fun K hK => ?_) AllReadyH.nil
                  go_simp
                  refine Calls.mono (nowX tb lb s1 _ Xdq119) ?_
                  rintro e Wx120 ⟨rfl, bb⟩
                  have Ax120 := Adq119.kept bb
                  have Bx120 := Bdq119.kept bb
                  have Xx120 := Xdq119.kept bb
                  have Qx120 := Qdq119.kept bb
                  have bx120 := bel_tr bdq119 bb
                  clear bb
                  refine hK.out _ _ (by exact ⟨Ax120, Bx120, Xx120, Qx120⟩) (fun hHeld => ?_)
                  clear hK K
                  try simp only [qpu]
                  refine qtk (i := 9) (oi := xpa43o1) (v := (.bool (decide (x.ends ≤ s1.now)))) hHeld ?_ ?_
                  · intro w9 hSw
                    try dsimp only at hSw
                    go_simp
                  try simp only [qpu]
                  refine qtk (i := 10) (oi := xpa43o3) (v := (.bool false)) hHeld ?_ ?_
                  · intro w9 hSw
                    try dsimp only at hSw
                    go_simp
                  try simp only [qpu]
                  refine wpAnyH_done (by kernel_rfl) ?_ _
                  refine NoPanic.normal ?_
                  go_wp2_with fail
                  exact ⟨⟨k + 1, by omega, by go_num, Ax120, Xx120, Qx120, bx120⟩, by simp [intOf]; omega⟩

            · have ikk : ¬ (k : Int) < (M : Int) := by omega
              have ikk' : decide ((k : Int) < (M : Int)) = false := by simpa using ikk
              go_wp2_with fail
              exact ⟨⟨j + 1, s1, lb, by omega, by go_num, hI1, gwm, Av, nXA, Xv, bv⟩, by simp [intOf]; omega⟩


      · have ik : ¬ (j : Int) < (N : Int) := by omega
        have ik' : decide ((j : Int) < (N : Int)) = false := by simpa using ik
        go_wp2_with fail
        go_ret
        exact ⟨rfl, br⟩
  · go_enter Try.func6, Try.ntmps6
    obtain ⟨Wm121, hWm121⟩ : ∃ W, w.alloc (.cells cx.v 33) = W := ⟨_, rfl⟩
    have bm121 := bel_al b hWm121
    have Am121 := blk_nw hWm121
    have gA : w.heap.size ≤ w.heap.size := b.size
    have c122 := Am121.cell 0 (.int .i64 cx.mo) rfl
    have c123 := Am121.cell 1 (.int .i64 cx.qu) rfl
    go_wp2_with fail
    clear c122 c123
    refine Calls.mono (newN_xp cx.mo cx.qu _ hc) ?_
    rintro e Wm124 ⟨rfl, bb⟩
    have Am124 := Am121.kept bb
    have bm124 := bel_tr bm121 bb
    clear bb
    clear Am121 bm121
    go_wp2_with fail
    refine Calls.mono (alive_xp _) ?_
    rintro e Wm125 ⟨rfl, bb⟩
    have Am125 := Am124.kept bb
    have bm125 := bel_tr bm124 bb
    clear bb
    clear Am124 bm124
    go_wp2_with fail
    go_ret
    exact ⟨rfl, bm125⟩
end Go.Proofs.Ytmflogmocgbmhaa
namespace Go.Proofs.Ytmflogmocgbmhaa.expectBounds
open Go.ChangeShapes Go.WideShapes Go.ChangeAt Go.RowKit
open Go.ChangeMaps (open_string shut_string)
set_option linter.unusedVariables false
theorem own : ownKnob Try.prog.godebug = none := by kernel_rfl
theorem laidOut : laidOutB Try.prog = true := by kernel_rfl
set_option maxRecDepth 100000 in
theorem lifted (os : Os) (started : os.Started) (H : Type) (enc : TypeId × Value → H) :
    ReturnsInHanded {} Try.checked os 6 .any (Rows.expectBoundsSpec.pre6 enc Try.prog Try.f6 Rows.expectBoundsRow.domain false) (Rows.expectBoundsSpec.post enc Try.prog Try.f6 false true false false) := by
  refine returnsInHanded_of_change_sized (C := Try.checked) own started (by kernel_rfl) Try.func6
    (ChangeSpec.witness6 (enc := enc) (C := Try.checked) false ⟨#[], #[.agg #[.int .i64 0, .int .i64 0], .slice none 0 0], []⟩ 8 (by kernel_rfl) (by kernel_rfl) (by kernel_rfl) (by kernel_rfl)) ?_
  intro W base args ds gs before hval0 hW hcnd hsz0 _
  have hval : ∀ (j : Nat) t v, Try.f6.params[j]? = some t → args[j]? = some v → Value.okWide Try.prog W .any base t v := hval0
  have hW' := hW
  obtain ⟨p, q, hA0, hV, rfl, hfz, hnd⟩ := hW
  have hA : DataW.TrodAll enc Try.prog W 0 (fun _ => true) true Try.f6.params.toList args.toList ds p := hA0
  have hsz : (DataW.weightsEach Try.prog (Try.f6.params.toList ++ Rows.expectBoundsSpec.plain.varTypes Try.prog) (ds ++ gs)).all (· ≤ reachBytes) = true := hsz0
  rw [Try.params6] at hA hval hsz
  obtain ⟨v0, vs0, d0, ds0, p0, q0, hargs, rfl, rfl, h0, r0⟩ := trodAll_cons hA
  obtain ⟨v1, vs1, d1, ds1, p1, q1, rfl, rfl, rfl, h1, r1⟩ := trodAll_cons r0
  obtain ⟨rfl, rfl, rfl⟩ := trodAll_nil r1
  obtain rfl : args = #[v0, v1] := by cases args; simp_all
  obtain ⟨rfl, rfl⟩ := trodVars_none hV
  have lt0 : ∀ x ∈ p0, x.block < W.heap.size := by obtain ⟨m, hm⟩ := h0; exact DataW.trod_lt m _ _ _ hm
  have s0 : ∀ n ∈ d0.weights Try.prog 33, n ≤ reachBytes := fun n hn => by simpa using List.all_eq_true.1 hsz n (DataW.weights_mem_each (j := 0) (t := 33) rfl rfl n hn)
  obtain ⟨q0, rfl, ok0⟩ := open_caps17 (hval 0 33 v0 rfl rfl) h0
  have lt1 : ∀ x ∈ p1, x.block < W.heap.size := by obtain ⟨m, hm⟩ := h1; exact DataW.trod_lt m _ _ _ hm
  have s1 : ∀ n ∈ d1.weights Try.prog 34, n ≤ reachBytes := fun n hn => by simpa using List.all_eq_true.1 hsz n (DataW.weights_mem_each (j := 1) (t := 34) rfl rfl n hn)
  obtain ⟨a1, c1, l1, rfl, lc1, cm1, w1⟩ := open_acts17 (hval 1 34 v1 rfl rfl) h1 s1
  clear hA0 hval0 hsz0
  refine (expectBounds_walk q0 a1 c1 l1 W lc1 cm1 w1).mono fun e W' ⟨he, bel⟩ => ?_
  subst he
  exact ⟨_, rfl, _, _, _, [], _, [], hW', trodAll_mk1 (shut_bool Try.underlying4 _), (trodAll_cons_mk (Below.trod laidOut (by kernel_rfl) (of_decide_eq_true (by kernel_rfl)) h0 bel lt0) (trodAll_cons_mk (Below.trod laidOut (by kernel_rfl) (of_decide_eq_true (by kernel_rfl)) h1 bel lt1) trodAll_mk0)), rfl, bel.frame _, fun h => by cases h⟩
theorem over : Rows.expectBoundsRow.holds Try.pinned (OpenSpec.ofChange Rows.expectBoundsSpec) :=
  OpenClaim.holds_of_wide 6 Try.f6 rfl rfl rfl rfl rfl rfl rfl ⟨rfl, rfl, rfl, rfl, rfl⟩ rfl rfl rfl rfl rfl (by kernel_rfl) Try.func6 (by kernel_rfl)
    (of_decide_eq_true (by kernel_rfl)) (by unfold Func.isWrapper; first | (rw [if_pos (by decide +kernel)]; kernel_rfl) | (rw [if_neg (by decide +kernel)]; exact ⟨rfl, rfl⟩))
    (fun os started H enc _ => lifted os started H enc)
end Go.Proofs.Ytmflogmocgbmhaa.expectBounds
namespace Go.Proofs.Ytmflogmocgbmhaa
theorem expectBounds_holds : Rows.ExpectBoundsSaid := expectBounds.over
end Go.Proofs.Ytmflogmocgbmhaa
