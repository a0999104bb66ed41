/- Texts joined: ExpectPlaysWalk -/
import Derived.Test.YtmflogmocgbmhaaXpa37
namespace Go.Proofs.Ytmflogmocgbmhaa
abbrev xpa38o0 : Oper := { dst := some 71, op := Op.call { callee := Callee.value (.func 21), args := #[.tmp 70], argTypes := #[35] }, type := 3, pos := "law.go:77", after := #[{ on := 21, ground := Ground.data }, { on := 20, ground := Ground.chain }, { on := 20, ground := Ground.guard }], guard := some (20, false) }
abbrev xpa38o1 : Oper := { dst := some 74, op := Op.binOp BinOp.neq 3 (.tmp 71) (.tmp 73) 3, type := 4, pos := "law.go:77", after := #[{ on := 22, ground := Ground.data }, { on := 24, ground := Ground.data }, { on := 20, ground := Ground.guard }], guard := some (20, false) }
abbrev xpa38o2 : Oper := { dst := some 75, op := Op.pick (.tmp 69) (.const (.bool true)) (.tmp 74), type := 4, pos := "law.go:77", after := #[{ on := 20, ground := Ground.data }, { on := 25, ground := Ground.data }], guard := none }
abbrev xpa38o3 : Oper := { dst := some 73, op := Op.load 3 (.tmp 72), type := 3, pos := "law.go:77", after := #[{ on := 23, ground := Ground.data }, { on := 20, ground := Ground.guard }], guard := some (20, false) }
abbrev xpa38o4 : Oper := { dst := some 63, op := Op.call { callee := Callee.value (.func 20), args := #[.tmp 62], argTypes := #[35] }, type := 3, pos := "law.go:77", after := #[{ on := 13, ground := Ground.data }, { on := 12, ground := Ground.chain }, { on := 12, ground := Ground.guard }], guard := some (12, false) }
abbrev xpa38o5 : Oper := { dst := some 66, op := Op.call { callee := Callee.builtin Builtin.len, args := #[.tmp 65], argTypes := #[39] }, type := 3, pos := "law.go:77", after := #[{ on := 16, ground := Ground.data }, { on := 12, ground := Ground.guard }], guard := some (12, false) }
abbrev xpa38o6 : Oper := { dst := some 67, op := Op.binOp BinOp.neq 3 (.tmp 63) (.tmp 66) 3, type := 4, pos := "law.go:77", after := #[{ on := 14, ground := Ground.data }, { on := 17, ground := Ground.data }, { on := 12, ground := Ground.guard }], guard := some (12, false) }
abbrev xpa38o7 : Oper := { dst := some 65, op := Op.load 39 (.tmp 64), type := 39, pos := "law.go:77", after := #[{ on := 15, ground := Ground.data }, { on := 12, ground := Ground.guard }], guard := some (12, false) }
abbrev xpa38o8 : Oper := { dst := some 68, op := Op.pick (.tmp 61) (.const (.bool true)) (.tmp 67), type := 4, pos := "law.go:77", after := #[{ on := 12, ground := Ground.data }, { on := 18, ground := Ground.data }], guard := none }
abbrev xpa38o9 : Oper := { dst := some 58, op := Op.call { callee := Callee.value (.func 18), args := #[.tmp 55, .tmp 57], argTypes := #[39, 39] }, type := 4, pos := "law.go:77", after := #[{ on := 6, ground := Ground.data }, { on := 8, ground := Ground.data }, { on := 6, ground := Ground.chain }, { on := 4, ground := Ground.guard }], guard := some (4, false) }
abbrev xpa38o10 : Oper := { dst := some 69, op := Op.move (.tmp 68), type := 4, pos := "law.go:77", after := #[{ on := 19, ground := Ground.data }, { on := 14, ground := Ground.chain }], guard := none }
abbrev xpa38o11 : Oper := { dst := some 72, op := Op.fieldAddr 41 (.tmp 7) 2, type := 0, pos := "law.go:77", after := #[{ on := 20, ground := Ground.guard }], guard := some (20, false) }
abbrev xpa38o12 : Oper := { dst := some 55, op := Op.call { callee := Callee.value (.func 19), args := #[.tmp 54], argTypes := #[35] }, type := 39, pos := "law.go:77", after := #[{ on := 5, ground := Ground.data }, { on := 4, ground := Ground.chain }, { on := 4, ground := Ground.guard }], guard := some (4, false) }
abbrev xpa38o13 : Oper := { dst := some 70, op := Op.move (.tmp 5), type := 35, pos := "law.go:77", after := #[{ on := 20, ground := Ground.guard }], guard := some (20, false) }
abbrev xpa38o14 : Oper := { dst := some 57, op := Op.load 39 (.tmp 56), type := 39, pos := "law.go:77", after := #[{ on := 7, ground := Ground.data }, { on := 4, ground := Ground.guard }], guard := some (4, false) }
abbrev xpa38o15 : Oper := { dst := some 60, op := Op.pick (.tmp 53) (.const (.bool true)) (.tmp 59), type := 4, pos := "law.go:77", after := #[{ on := 4, ground := Ground.data }, { on := 10, ground := Ground.data }], guard := none }
abbrev xpa38o16 : Oper := { dst := some 59, op := Op.unOp UnOp.not 4 (.tmp 58), type := 4, pos := "law.go:77", after := #[{ on := 9, ground := Ground.data }, { on := 4, ground := Ground.guard }], guard := some (4, false) }
abbrev xpa38o17 : Oper := { dst := some 61, op := Op.move (.tmp 60), type := 4, pos := "law.go:77", after := #[{ on := 11, ground := Ground.data }, { on := 9, ground := Ground.chain }], guard := none }
abbrev xpa38o18 : Oper := { dst := some 64, op := Op.fieldAddr 41 (.tmp 7) 3, type := 0, pos := "law.go:77", after := #[{ on := 12, ground := Ground.guard }], guard := some (12, false) }
abbrev xpa38o20 : Oper := { dst := some 62, op := Op.move (.tmp 5), type := 35, pos := "law.go:77", after := #[{ on := 12, ground := Ground.guard }], guard := some (12, false) }
end Go.Proofs.Ytmflogmocgbmhaa
namespace Go.Proofs.Ytmflogmocgbmhaa
open Go.RowKit
set_option linter.unusedVariables false
set_option linter.unusedSimpArgs false
theorem bel_but3 {w W W' : World} {tb lb rb : Nat} (b : Below w.heap.size w W) (k : But (fun k => k = tb ∨ k = lb ∨ k = rb) W W') (h1 : w.heap.size ≤ tb) (h2 : w.heap.size ≤ lb) (h3 : w.heap.size ≤ rb) : Below w.heap.size w W' := b.trans (k.to_below b.size (fun i hi h => by omega))
theorem docx_new {w : World} {rb : Nat} {m q : Int} (hm : capX m = true) (hq : capX q = true) (T : Blk w rb 41 (docW ⟨m, q, 0, []⟩ none 0)) : DocX w rb rb ⟨m, q, 0, []⟩ :=
  ⟨xt_new (cap_iff.1 hm) (cap_iff.1 hq), ⟨T.lt, T.lt⟩, none, 0, ⟨T, (own_noneW w 0).toE, fun y hy => by cases hy⟩, fun y hy => by cases hy⟩
set_option maxRecDepth 100000 in
set_option maxHeartbeats 16000000 in
theorem expectPlays_walk (cx : Cx) (la : Option Addr) (lc : Nat) (l : List Ax) (w : World) (hlc : l.length ≤ lc) (hcm : lc * 200 ≤ 140737488351232 ∧ (la = none → lc = 0)) (hrow : RowN 25 Ax.v (fun _ q => q.f.ok) w la l) :
    Calls Try.prog 4 #[.agg cx.v, .slice la l.length lc] w fun e w' => e = .returned (.bool true) ∧ Below w.heap.size w w' := by
  have HRow : Hid (RowN 25 Ax.v (fun _ q => q.f.ok) w la l) := hrow
  obtain ⟨N, hN⟩ : ∃ N, l.length = N := ⟨_, rfl⟩
  have HN : Hid (l.length = N) := hN
  have hNl : N ≤ 140737488355328 := by omega
  rw [hN]
  clear hN hrow hlc hcm
  have b := Below.refl w.heap.size w
  by_cases hc : capX cx.mo = true ∧ capX cx.qu = true
  · go_enter Try.func4, Try.ntmps4
    obtain ⟨Wm1, hWm1⟩ : ∃ W, w.alloc (.cells cx.v 33) = W := ⟨_, rfl⟩
    have bm1 := bel_al b hWm1
    have Am1 := blk_nw hWm1
    have gA : w.heap.size ≤ w.heap.size := b.size
    have c2 := Am1.cell 0 (.int .i64 cx.mo) rfl
    have c3 := Am1.cell 1 (.int .i64 cx.qu) rfl
    go_wp2_with fail
    clear c2 c3
    refine Calls.mono (newX cx.mo cx.qu (hc.1) (hc.2) _) ?_
    rintro e Wm4 ⟨tb, rfl, Xm4, gtb, bb⟩
    have Am4 := Am1.kept bb
    have bm4 := bel_tr bm1 bb
    clear bb
    have gwb : w.heap.size ≤ tb := Nat.le_trans bm1.size gtb
    have gwm := gwb
    have nXA : tb ≠ w.heap.size ∧ tb ≠ w.heap.size := by have := Am1.lt; omega
    clear Am1 bm1
    have c5 := Am4.cell 0 (.int .i64 cx.mo) rfl
    have c6 := Am4.cell 1 (.int .i64 cx.qu) rfl
    go_wp2_with fail
    clear c5 c6
    refine Calls.mono (rnewY_xp cx.mo cx.qu _ (hc.1) (hc.2)) ?_
    rintro e Wm7 ⟨rfl, bb⟩
    have Am7 := Am4.kept bb
    have Xm7 := Xm4.kept bb
    have bm7 := bel_tr bm4 bb
    clear bb
    clear Am4 Xm4 bm4
    obtain ⟨Wm8, hWm8⟩ : ∃ W, Wm7.alloc (.cells #[.int .i64 0, .int .i64 0, .int .i64 0, .slice none 0 0] 41) = W := ⟨_, rfl⟩
    have bm8 := bel_al bm7 hWm8
    have Am8 := Am7.al hWm8
    have Xm8 := Xm7.al hWm8
    have Bm8 := blk_nw hWm8
    have gB : w.heap.size ≤ Wm7.heap.size := bm7.size
    have nAB : w.heap.size ≠ Wm7.heap.size := by have := Am7.lt; omega
    have nBA : Wm7.heap.size ≠ w.heap.size := fun e => nAB e.symm
    have nXB : tb ≠ Wm7.heap.size ∧ tb ≠ Wm7.heap.size := by have := Xm7.lt; omega
    obtain ⟨Wm9, hWm9⟩ : ∃ W, Wm8.setRow Wm7.heap.size #[.int .i64 cx.mo, .int .i64 cx.qu, .int .i64 0, .slice none 0 0] = W := ⟨_, rfl⟩
    have Bm9 : Blk Wm9 Wm7.heap.size 41 #[.int .i64 cx.mo, .int .i64 cx.qu, .int .i64 0, .slice none 0 0] := hWm9 ▸ Bm8.set #[.int .i64 cx.mo, .int .i64 cx.qu, .int .i64 0, .slice none 0 0]
    have Am9 := hWm9 ▸ Am8.other nAB #[.int .i64 cx.mo, .int .i64 cx.qu, .int .i64 0, .slice none 0 0]
    have Xm9 := hWm9 ▸ Xm8.other nXB #[.int .i64 cx.mo, .int .i64 cx.qu, .int .i64 0, .slice none 0 0]
    have bm9 := hWm9 ▸ below_setRow bm8 gB #[.int .i64 cx.mo, .int .i64 cx.qu, .int .i64 0, .slice none 0 0]
    go_wp2_with (refine wpList_store_row rfl _ _ _ rfl Wm7.heap.size #[.int .i64 cx.mo, .int .i64 cx.qu, .int .i64 0, .slice none 0 0] (by rfl) (by rfl) _ _ Bm8 (by kernel_rfl) (by rfl) (by kernel_rfl) ?_; rw [hWm9])
    refine Calls.mono (alive_xp _) ?_
    rintro e Wm10 ⟨rfl, bb⟩
    have Am10 := Am9.kept bb
    have Xm10 := Xm9.kept bb
    have Bm10 := Bm9.kept bb
    have bm10 := bel_tr bm9 bb
    clear bb
    clear Am9 Xm9 Bm9 bm9
    go_wp2_with fail
    obtain ⟨rb, hrb⟩ : ∃ g, Wm7.heap.size = g := ⟨_, rfl⟩
    rw [hrb] at Bm10 nXB gB
    try rw [hrb]
    clear hrb
    have Dm10 : DocX Wm10 rb rb ⟨cx.mo, cx.qu, 0, []⟩ := docx_new hc.1 hc.2 Bm10
    have gdb : w.heap.size ≤ rb := gB
    have nXD : ((tb ≠ rb ∧ tb ≠ rb) ∧ (tb ≠ rb ∧ tb ≠ rb)) := by have := nXB; omega
    go_loopw [45] (fun i wr => ∃ (j : Nat) (s : Xt) (lb ld : Nat), j ≤ N ∧ i = .int .i64 j ∧ w.heap.size ≤ lb ∧ w.heap.size ≤ ld ∧ ((tb ≠ rb ∧ lb ≠ rb) ∧ (tb ≠ ld ∧ lb ≠ ld)) ∧ TabX wr tb lb s ∧ DocX wr rb ld s ∧ Below w.heap.size w wr) (fun i _ => N - (intOf i).toNat)
    case atStart => exact ⟨0, ⟨cx.mo, cx.qu, 0, []⟩, tb, rb, Nat.zero_le _, rfl, gwb, gdb, nXD, Xm10, Dm10, bm10⟩
    case round =>
      obtain ⟨j, s, lb, ld, hj, rfl, gwm, gdm, nXD, Xr, Dr, br⟩ := hrel
      obtain ⟨Wr, rfl⟩ : ∃ W, W = wr := ⟨_, rfl⟩
      have HOK : Hid (XtOk s) := Xr.ok
      have HLN : s.L.length ≤ 1000000 := Xr.len
      have in0 : (0 : Int) ≤ (j : Int) := by omega
      by_cases hlt : j < N
      · have ik : (j : Int) < (N : Int) := by omega
        have ik' : decide ((j : Int) < (N : Int)) = true := by simpa using ik
        obtain ⟨qa, hq⟩ : ∃ q, l[j]? = some q := ⟨_, List.getElem?_eq_getElem (by rw [HN.out]; exact hlt)⟩
        have hok : qa.f.ok := HRow.out.each qa (List.mem_of_getElem? hq)
        obtain ⟨p, off, rfl, hcells⟩ := HRow.out.cells j qa hq
        have hca := hcells.below br
        clear hcells
        obtain ⟨Wm11, hWm11⟩ : ∃ W, Wr.alloc (.cells #[.int .i64 0, .int .i64 0, .int .i64 0, .int .i64 0, .int .i64 0, .int .i64 0, .int .u64 0, .int .u64 0, .int .i64 0, .int .u64 0, .int .u64 0, .int .i64 0, .int .i64 0, .int .i64 0, .int .i64 0, .int .i64 0, .int .u64 0, .int .u64 0, .int .i64 0, .int .u64 0, .int .u64 0, .int .i64 0, .int .i64 0, .int .i64 0, .int .i64 0] 45) = W := ⟨_, rfl⟩
        have bm11 := bel_al br hWm11
        have Xm11 := Xr.al hWm11
        have Dm11 := Dr.al hWm11
        have Am11 := blk_nw hWm11
        have gA : w.heap.size ≤ Wr.heap.size := br.size
        have nXA : tb ≠ Wr.heap.size ∧ lb ≠ Wr.heap.size := by have := Xr.lt; omega
        have nDA : rb ≠ Wr.heap.size ∧ ld ≠ Wr.heap.size := by have := Dr.lt; omega
        obtain ⟨Wm12, hWm12⟩ : ∃ W, Wm11.setRow Wr.heap.size qa.v = W := ⟨_, rfl⟩
        have Am12 : Blk Wm12 Wr.heap.size 45 qa.v := hWm12 ▸ Am11.set qa.v
        have Xm12 := hWm12 ▸ Xm11.other nXA qa.v
        have Dm12 := hWm12 ▸ Dm11.other nDA qa.v
        have bm12 := hWm12 ▸ below_setRow bm11 gA qa.v
        go_wp2_with (first | (refine wpList_load_at_w (by rfl) _ _ rfl p (off + j * 25) (by rfl) _ hca Try.underlying45 (by kernel_rfl) ?_) | (refine wpList_store_row rfl _ _ _ rfl Wr.heap.size qa.v (by rfl) (by rfl) _ _ Am11 (by kernel_rfl) (by rfl) (by kernel_rfl) ?_; rw [hWm12]))
        obtain ⟨Wdq13, hWdq13⟩ : ∃ W, Wm12.drew = W := ⟨_, rfl⟩
        have Xdq13 := hWdq13 ▸ Xm12.drew
        have Ddq13 := hWdq13 ▸ Dm12.drew
        have Adq13 := hWdq13 ▸ Am12.drew
        have bdq13 := hWdq13 ▸ bm12.drew
        refine wp_region_noPanic ?_
        refine wp_region_held_drew (S := fun w' => Blk w' Wr.heap.size 45 qa.v) (by kernel_rfl) (by rw [hWdq13]; exact Adq13) (fun hHeld => ?_)
        rw [hWdq13] at hHeld ⊢
        refine qtk (i := 0) (oi := { dst := some 49, op := Op.move (.tmp 5), type := 35, pos := "law.go:77", after := #[], guard := none }) (v := (.pointer (some ⟨tb, 0, none⟩))) hHeld ?_ ?_
        · intro w9 hSw
          try dsimp only at hSw
          go_simp
        try simp only [qpu]
        refine qty (i := 1) (oi := { dst := some 50, op := Op.load 45 (.tmp 10), type := 45, pos := "law.go:77", after := #[], guard := none }) (v := (.agg qa.v)) (yieldsIf_blk_w (by kernel_rfl) _ _ rfl Wr.heap.size (by rfl) _ (fun _ hSw => hSw) Try.underlying45 (by kernel_rfl)) hHeld ?_
        try simp only [qpu]
        refine wpAnyH_ready (rs := [2]) (by kernel_rfl) (by simp) ?_
        refine AllReadyH.cons (o := { dst := some 51, op := Op.call { callee := Callee.value (.func 17), args := #[.tmp 49, .tmp 7, .tmp 50], argTypes := #[35, 47, 45] }, type := 4, pos := "law.go:77", after := #[{ on := 0, ground := Ground.data }, { on := 1, ground := Ground.data }], guard := none }) rfl (fun K hK => ?_) AllReadyH.nil
        go_simp
        refine Calls.mono (does_xp tb lb rb ld s qa _ Xdq13 Ddq13 nXD hok) ?_
        rintro e Wx14 ⟨rfl, ⟨lb14, ld14, Xx14, Dx14, nXD, hlx14, hdx14⟩, bb⟩
        obtain ⟨s1, hs1⟩ : ∃ t, Ax.go qa s = t := ⟨_, rfl⟩
        rw [hs1] at Xx14 Dx14
        clear hs1
        have Ax14 := Adq13.but bb (by have := nXA; have := nDA; omega)
        have nAT : Wr.heap.size ≠ rb := by have := nDA; omega
        have bx14 := bel_but3 bdq13 bb gwb gwm gdb
        have gwm : w.heap.size ≤ lb14 := by have h9 := bdq13.size; have h8 := gwm; rcases hlx14 with h | h <;> omega
        have gdm : w.heap.size ≤ ld14 := by have h9 := bdq13.size; have h8 := gdm; rcases hdx14 with h | h <;> omega
        obtain ⟨a, c, DO, hdl⟩ := Dx14.ex
        have HOK1 : Hid (XtOk s1) := Xx14.ok
        have hl1 : s1.L.length ≤ 1000000 := Xx14.len
        have hdlt := Dx14.lt.2
        have Tx14 := DO.tab
        have Ex14 := DO.row
        have hne := DO.ne
        have Gx14 : But (fun _ => False) Wx14 Wx14 := But.refl _ _
        clear bb DO
        refine hK.out _ _ (by exact Ax14) (fun hHeld => ?_)
        clear hK K
        try simp only [qpu]
        refine qtk (i := 3) (oi := { dst := some 52, op := Op.unOp UnOp.not 4 (.tmp 51), type := 4, pos := "law.go:77", after := #[{ on := 2, ground := Ground.data }], guard := none }) (v := (.bool false)) hHeld ?_ ?_
        · intro w9 hSw
          try dsimp only at hSw
          go_simp
        try simp only [qpu]
        refine qtk (i := 4) (oi := { dst := some 53, op := Op.move (.tmp 52), type := 4, pos := "law.go:77", after := #[{ on := 3, ground := Ground.data }, { on := 2, ground := Ground.chain }], guard := none }) (v := (.bool false)) hHeld ?_ ?_
        · intro w9 hSw
          try dsimp only at hSw
          go_simp
        try simp only [qpu]
        refine qtk (i := 5) (oi := { dst := some 54, op := Op.move (.tmp 5), type := 35, pos := "law.go:77", after := #[{ on := 4, ground := Ground.guard }], guard := some (4, false) }) (v := (.pointer (some ⟨tb, 0, none⟩))) hHeld ?_ ?_
        · intro w9 hSw
          try dsimp only at hSw
          go_simp
        try simp only [qpu]
        refine qtk (i := 7) (oi := { dst := some 56, op := Op.fieldAddr 41 (.tmp 7) 3, type := 0, pos := "law.go:77", after := #[{ on := 4, ground := Ground.guard }], guard := some (4, false) }) (v := (.pointer (some ⟨rb, 3, none⟩))) hHeld ?_ ?_
        · intro w9 hSw
          try dsimp only at hSw
          go_simp
        try simp only [qpu]
        refine wpAnyH_ready (rs := [6, 8]) (by kernel_rfl) (by simp) ?_
        refine AllReadyH.cons (o := xpa38o12) rfl (fun K hK => ?_) (AllReadyH.cons (o := xpa38o14) rfl (fun K hK => ?_) AllReadyH.nil)
        · go_simp
          refine Calls.mono (allX tb lb14 s1 _ Xx14) ?_
          rintro e Wx15 ⟨aa, ca, rfl, OAx15, bb⟩
          have Ax15 := Ax14.kept bb
          have Xx15 := Xx14.kept bb
          have Tx15 := Tx14.kept bb
          have Ex15 := Ex14.kept bb
          have Gx15 := Gx14.kept bb
          have bx15 := bel_tr bx14 bb
          clear bb
          have HRW : Hid (RowW Wx15 aa s1.L) := OAx15.row (fun _ _ => trivial)
          have Qx15 : But (fun _ => False) Wx15 Wx15 := But.refl _ _
          clear OAx15
          refine hK.out _ _ (by exact Ax15) (fun hHeld => ?_)
          clear hK K
          try simp only [qpu]
          refine wpAnyH_ready (rs := [8]) (by kernel_rfl) (by simp) ?_
          refine AllReadyH.cons (o := xpa38o14) rfl (fun K hK => ?_) AllReadyH.nil
          have cld := Tx15.cell 3 (.slice a s1.L.length c) rfl
          go_simp
          clear cld
          refine hK.out _ _ (by exact Ax15) (fun hHeld => ?_)
          clear hK K
          try simp only [qpu]
          refine wpAnyH_ready (rs := [9]) (by kernel_rfl) (by simp) ?_
          refine AllReadyH.cons (o := xpa38o9) rfl (fun K hK => ?_) AllReadyH.nil
          go_simp
          refine Calls.mono (same_xp _ _ _ _ s1.L _ (HRW.out.low (Qx15.to_below (Nat.le_refl _) (fun _ _ x => x))) Ex15.row hl1) ?_
          rintro e Wx16 ⟨rfl, bb⟩
          have Ax16 := Ax15.kept bb
          have Xx16 := Xx15.kept bb
          have Tx16 := Tx15.kept bb
          have Ex16 := Ex15.kept bb
          have Gx16 := Gx15.kept bb
          have Qx16 := Qx15.kept bb
          have bx16 := bel_tr bx15 bb
          clear bb
          refine hK.out _ _ (by exact Ax16) (fun hHeld => ?_)
          clear hK K
          try simp only [qpu]
          refine qtk (i := 10) (oi := xpa38o16) (v := (.bool false)) hHeld ?_ ?_
          · intro w9 hSw
            try dsimp only at hSw
            go_simp
          try simp only [qpu]
          refine qtk (i := 11) (oi := xpa38o15) (v := (.bool false)) hHeld ?_ ?_
          · intro w9 hSw
            try dsimp only at hSw
            go_simp
          try simp only [qpu]
          refine qtk (i := 12) (oi := xpa38o17) (v := (.bool false)) hHeld ?_ ?_
          · intro w9 hSw
            try dsimp only at hSw
            go_simp
          try simp only [qpu]
          refine qtk (i := 13) (oi := xpa38o20) (v := (.pointer (some ⟨tb, 0, none⟩))) hHeld ?_ ?_
          · intro w9 hSw
            try dsimp only at hSw
            go_simp
          try simp only [qpu]
          refine qtk (i := 15) (oi := xpa38o18) (v := (.pointer (some ⟨rb, 3, none⟩))) hHeld ?_ ?_
          · intro w9 hSw
            try dsimp only at hSw
            go_simp
          try simp only [qpu]
          refine wpAnyH_ready (rs := [14, 16]) (by kernel_rfl) (by simp) ?_
          refine AllReadyH.cons (o := xpa38o4) rfl (fun K hK => ?_) (AllReadyH.cons (o := xpa38o7) rfl (fun K hK => ?_) AllReadyH.nil)
          · go_simp
            refine Calls.mono (lenX tb lb14 s1 _ Xx16) ?_
            rintro e Wx17 ⟨rfl, bb⟩
            have Ax17 := Ax16.kept bb
            have Xx17 := Xx16.kept bb
            have Tx17 := Tx16.kept bb
            have Ex17 := Ex16.kept bb
            have Gx17 := Gx16.kept bb
            have Qx17 := Qx16.kept bb
            have bx17 := bel_tr bx16 bb
            clear bb
            refine hK.out _ _ (by exact Ax17) (fun hHeld => ?_)
            clear hK K
            try simp only [qpu]
            refine wpAnyH_ready (rs := [16]) (by kernel_rfl) (by simp) ?_
            refine AllReadyH.cons (o := xpa38o7) rfl (fun K hK => ?_) AllReadyH.nil
            have cld := Tx17.cell 3 (.slice a s1.L.length c) rfl
            go_simp
            clear cld
            refine hK.out _ _ (by exact Ax17) (fun hHeld => ?_)
            clear hK K
            try simp only [qpu]
            refine qtk (i := 17) (oi := xpa38o5) (v := (.int .i64 (s1.L.length : Int))) hHeld ?_ ?_
            · intro w9 hSw
              try dsimp only at hSw
              go_simp
            try simp only [qpu]
            refine qtk (i := 18) (oi := xpa38o6) (v := (.bool false)) hHeld ?_ ?_
            · intro w9 hSw
              try dsimp only at hSw
              go_simp
            try simp only [qpu]
            refine qtk (i := 19) (oi := xpa38o8) (v := (.bool false)) hHeld ?_ ?_
            · intro w9 hSw
              try dsimp only at hSw
              go_simp
            try simp only [qpu]
            refine qtk (i := 20) (oi := xpa38o10) (v := (.bool false)) hHeld ?_ ?_
            · intro w9 hSw
              try dsimp only at hSw
              go_simp
            try simp only [qpu]
            refine qtk (i := 21) (oi := xpa38o13) (v := (.pointer (some ⟨tb, 0, none⟩))) hHeld ?_ ?_
            · intro w9 hSw
              try dsimp only at hSw
              go_simp
            try simp only [qpu]
            refine qtk (i := 23) (oi := xpa38o11) (v := (.pointer (some ⟨rb, 2, none⟩))) hHeld ?_ ?_
            · intro w9 hSw
              try dsimp only at hSw
              go_simp
            try simp only [qpu]
            refine wpAnyH_ready (rs := [22, 24]) (by kernel_rfl) (by simp) ?_
            refine AllReadyH.cons (o := xpa38o0) rfl (fun K hK => ?_) (AllReadyH.cons (o := xpa38o3) rfl (fun K hK => ?_) AllReadyH.nil)
            · go_simp
              refine Calls.mono (nowX tb lb14 s1 _ Xx17) ?_
              rintro e Wx18 ⟨rfl, bb⟩
              have Ax18 := Ax17.kept bb
              have Xx18 := Xx17.kept bb
              have Tx18 := Tx17.kept bb
              have Ex18 := Ex17.kept bb
              have Gx18 := Gx17.kept bb
              have Qx18 := Qx17.kept bb
              have bx18 := bel_tr bx17 bb
              clear bb
              refine hK.out _ _ (by exact Ax18) (fun hHeld => ?_)
              clear hK K
              try simp only [qpu]
              refine wpAnyH_ready (rs := [24]) (by kernel_rfl) (by simp) ?_
              refine AllReadyH.cons (o := xpa38o3) rfl (fun K hK => ?_) AllReadyH.nil
              have cld := Tx18.cell 2 (.int .i64 s1.now) rfl
              go_simp
              clear cld
              refine hK.out _ _ (by exact Ax18) (fun hHeld => ?_)
              clear hK K
              try simp only [qpu]
              refine qtk (i := 25) (oi := xpa38o1) (v := (.bool false)) hHeld ?_ ?_
              · intro w9 hSw
                try dsimp only at hSw
                go_simp
              try simp only [qpu]
              refine qtk (i := 26) (oi := xpa38o2) (v := (.bool false)) hHeld ?_ ?_
              · intro w9 hSw
                try dsimp only at hSw
                go_simp
              try simp only [qpu]
              refine wpAnyH_done (by kernel_rfl) ?_ _
              refine NoPanic.normal ?_
              have nTA : rb ≠ Wr.heap.size := fun e => nAT e.symm
              go_wp2_with fail
              exact ⟨⟨j + 1, s1, lb14, ld14, by omega, by go_num, gwm, gdm, nXD, Xx18, ⟨HOK1.out, ⟨Tx18.lt, Nat.lt_of_lt_of_le hdlt Gx18.size⟩, a, c, ⟨Tx18, Ex18, hne⟩, hdl⟩, bx18⟩, by simp [intOf]; omega⟩
            · have cld := Tx17.cell 2 (.int .i64 s1.now) rfl
              go_simp
              clear cld
              refine hK.out _ _ (by exact Ax17) (fun hHeld => ?_)
              clear hK K
              try simp only [qpu]
              refine wpAnyH_ready (rs := [22]) (by kernel_rfl) (by simp) ?_
              refine AllReadyH.cons (o := xpa38o0) rfl (fun K hK => ?_) AllReadyH.nil
              go_simp
              refine Calls.mono (nowX tb lb14 s1 _ Xx17) ?_
              rintro e Wx19 ⟨rfl, bb⟩
              have Ax19 := Ax17.kept bb
              have Xx19 := Xx17.kept bb
              have Tx19 := Tx17.kept bb
              have Ex19 := Ex17.kept bb
              have Gx19 := Gx17.kept bb
              have Qx19 := Qx17.kept bb
              have bx19 := bel_tr bx17 bb
              clear bb
              refine hK.out _ _ (by exact Ax19) (fun hHeld => ?_)
              clear hK K
              try simp only [qpu]
              refine qtk (i := 25) (oi := xpa38o1) (v := (.bool false)) hHeld ?_ ?_
              · intro w9 hSw
                try dsimp only at hSw
                go_simp
              try simp only [qpu]
              refine qtk (i := 26) (oi := xpa38o2) (v := (.bool false)) hHeld ?_ ?_
              · intro w9 hSw
                try dsimp only at hSw
                go_simp
              try simp only [qpu]
              refine wpAnyH_done (by kernel_rfl) ?_ _
              refine NoPanic.normal ?_
              have nTA : rb ≠ Wr.heap.size := fun e => nAT e.symm
              go_wp2_with fail
              exact ⟨⟨j + 1, s1, lb14, ld14, by omega, by go_num, gwm, gdm, nXD, Xx19, ⟨HOK1.out, ⟨Tx19.lt, Nat.lt_of_lt_of_le hdlt Gx19.size⟩, a, c, ⟨Tx19, Ex19, hne⟩, hdl⟩, bx19⟩, by simp [intOf]; omega⟩
          · have cld := Tx16.cell 3 (.slice a s1.L.length c) rfl
            go_simp
            clear cld
            refine hK.out _ _ (by exact Ax16) (fun hHeld => ?_)
            clear hK K
            try simp only [qpu]
            refine qtk (i := 17) (oi := xpa38o5) (v := (.int .i64 (s1.L.length : Int))) hHeld ?_ ?_
            · intro w9 hSw
              try dsimp only at hSw
              go_simp
            try simp only [qpu]
            refine wpAnyH_ready (rs := [14]) (by kernel_rfl) (by simp) ?_
            refine AllReadyH.cons (o := xpa38o4) rfl (fun K hK => ?_) AllReadyH.nil
            go_simp
            refine Calls.mono (lenX tb lb14 s1 _ Xx16) ?_
            rintro e Wx20 ⟨rfl, bb⟩
            have Ax20 := Ax16.kept bb
            have Xx20 := Xx16.kept bb
            have Tx20 := Tx16.kept bb
            have Ex20 := Ex16.kept bb
            have Gx20 := Gx16.kept bb
            have Qx20 := Qx16.kept bb
            have bx20 := bel_tr bx16 bb
            clear bb
            refine hK.out _ _ (by exact Ax20) (fun hHeld => ?_)
            clear hK K
            try simp only [qpu]
            refine qtk (i := 18) (oi := xpa38o6) (v := (.bool false)) hHeld ?_ ?_
            · intro w9 hSw
              try dsimp only at hSw
              go_simp
            try simp only [qpu]
            refine qtk (i := 19) (oi := xpa38o8) (v := (.bool false)) hHeld ?_ ?_
            · intro w9 hSw
              try dsimp only at hSw
              go_simp
            try simp only [qpu]
            refine qtk (i := 20) (oi := xpa38o10) (v := (.bool false)) hHeld ?_ ?_
            · intro w9 hSw
              try dsimp only at hSw
              go_simp
            try simp only [qpu]
            refine qtk (i := 21) (oi := xpa38o13) (v := (.pointer (some ⟨tb, 0, none⟩))) hHeld ?_ ?_
            · intro w9 hSw
              try dsimp only at hSw
              go_simp
            try simp only [qpu]
            refine qtk (i := 23) (oi := xpa38o11) (v := (.pointer (some ⟨rb, 2, none⟩))) hHeld ?_ ?_
            · intro w9 hSw
              try dsimp only at hSw
              go_simp
            try simp only [qpu]
            refine wpAnyH_ready (rs := [22, 24]) (by kernel_rfl) (by simp) ?_
            refine AllReadyH.cons (o := xpa38o0) rfl (fun K hK => ?_) (AllReadyH.cons (o := xpa38o3) rfl (fun K hK => ?_) AllReadyH.nil)
            · go_simp
              refine Calls.mono (nowX tb lb14 s1 _ Xx20) ?_
              rintro e Wx21 ⟨rfl, bb⟩
              have Ax21 := Ax20.kept bb
              have Xx21 := Xx20.kept bb
              have Tx21 := Tx20.kept bb
              have Ex21 := Ex20.kept bb
              have Gx21 := Gx20.kept bb
              have Qx21 := Qx20.kept bb
              have bx21 := bel_tr bx20 bb
              clear bb
              refine hK.out _ _ (by exact Ax21) (fun hHeld => ?_)
              clear hK K
              try simp only [qpu]
              refine wpAnyH_ready (rs := [24]) (by kernel_rfl) (by simp) ?_
              refine AllReadyH.cons (o := xpa38o3) rfl (fun K hK => ?_) AllReadyH.nil
              have cld := Tx21.cell 2 (.int .i64 s1.now) rfl
              go_simp
              clear cld
              refine hK.out _ _ (by exact Ax21) (fun hHeld => ?_)
              clear hK K
              try simp only [qpu]
              refine qtk (i := 25) (oi := xpa38o1) (v := (.bool false)) hHeld ?_ ?_
              · intro w9 hSw
                try dsimp only at hSw
                go_simp
              try simp only [qpu]
              refine qtk (i := 26) (oi := xpa38o2) (v := (.bool false)) hHeld ?_ ?_
              · intro w9 hSw
                try dsimp only at hSw
                go_simp
              try simp only [qpu]
              refine wpAnyH_done (by kernel_rfl) ?_ _
              refine NoPanic.normal ?_
              have nTA : rb ≠ Wr.heap.size := fun e => nAT e.symm
              go_wp2_with fail
              exact ⟨⟨j + 1, s1, lb14, ld14, by omega, by go_num, gwm, gdm, nXD, Xx21, ⟨HOK1.out, ⟨Tx21.lt, Nat.lt_of_lt_of_le hdlt Gx21.size⟩, a, c, ⟨Tx21, Ex21, hne⟩, hdl⟩, bx21⟩, by simp [intOf]; omega⟩
            · have cld := Tx20.cell 2 (.int .i64 s1.now) rfl
              go_simp
              clear cld
              refine hK.out _ _ (by exact Ax20) (fun hHeld => ?_)
              clear hK K
              try simp only [qpu]
              refine wpAnyH_ready (rs := [22]) (by kernel_rfl) (by simp) ?_
              refine AllReadyH.cons (o := xpa38o0) rfl (fun K hK => ?_) AllReadyH.nil
              go_simp
              refine Calls.mono (nowX tb lb14 s1 _ Xx20) ?_
              rintro e Wx22 ⟨rfl, bb⟩
              have Ax22 := Ax20.kept bb
              have Xx22 := Xx20.kept bb
              have Tx22 := Tx20.kept bb
              have Ex22 := Ex20.kept bb
              have Gx22 := Gx20.kept bb
              have Qx22 := Qx20.kept bb
              have bx22 := bel_tr bx20 bb
              clear bb
              refine hK.out _ _ (by exact Ax22) (fun hHeld => ?_)
              clear hK K
              try simp only [qpu]
              refine qtk (i := 25) (oi := xpa38o1) (v := (.bool false)) hHeld ?_ ?_
              · intro w9 hSw
                try dsimp only at hSw
                go_simp
              try simp only [qpu]
              refine qtk (i := 26) (oi := xpa38o2) (v := (.bool false)) hHeld ?_ ?_
              · intro w9 hSw
                try dsimp only at hSw
                go_simp
              try simp only [qpu]
              refine wpAnyH_done (by kernel_rfl) ?_ _
              refine NoPanic.normal ?_
              have nTA : rb ≠ Wr.heap.size := fun e => nAT e.symm
              go_wp2_with fail
              exact ⟨⟨j + 1, s1, lb14, ld14, by omega, by go_num, gwm, gdm, nXD, Xx22, ⟨HOK1.out, ⟨Tx22.lt, Nat.lt_of_lt_of_le hdlt Gx22.size⟩, a, c, ⟨Tx22, Ex22, hne⟩, hdl⟩, bx22⟩, by simp [intOf]; omega⟩
        · have cld := Tx14.cell 3 (.slice a s1.L.length c) rfl
          go_simp
          clear cld
          refine hK.out _ _ (by exact Ax14) (fun hHeld => ?_)
          clear hK K
          try simp only [qpu]
          refine wpAnyH_ready (rs := [6]) (by kernel_rfl) (by simp) ?_
          refine AllReadyH.cons (o := xpa38o12) rfl (fun K hK => ?_) AllReadyH.nil
          go_simp
          refine Calls.mono (allX tb lb14 s1 _ Xx14) ?_
          rintro e Wx23 ⟨aa, ca, rfl, OAx23, bb⟩
          have Ax23 := Ax14.kept bb
          have Xx23 := Xx14.kept bb
          have Tx23 := Tx14.kept bb
          have Ex23 := Ex14.kept bb
          have Gx23 := Gx14.kept bb
          have bx23 := bel_tr bx14 bb
          clear bb
          have HRW : Hid (RowW Wx23 aa s1.L) := OAx23.row (fun _ _ => trivial)
          have Qx23 : But (fun _ => False) Wx23 Wx23 := But.refl _ _
          clear OAx23
          refine hK.out _ _ (by exact Ax23) (fun hHeld => ?_)
          clear hK K
          try simp only [qpu]
          refine wpAnyH_ready (rs := [9]) (by kernel_rfl) (by simp) ?_
          refine AllReadyH.cons (o := xpa38o9) rfl (fun K hK => ?_) AllReadyH.nil
          go_simp
          refine Calls.mono (same_xp _ _ _ _ s1.L _ (HRW.out.low (Qx23.to_below (Nat.le_refl _) (fun _ _ x => x))) Ex23.row hl1) ?_
          rintro e Wx24 ⟨rfl, bb⟩
          have Ax24 := Ax23.kept bb
          have Xx24 := Xx23.kept bb
          have Tx24 := Tx23.kept bb
          have Ex24 := Ex23.kept bb
          have Gx24 := Gx23.kept bb
          have Qx24 := Qx23.kept bb
          have bx24 := bel_tr bx23 bb
          clear bb
          refine hK.out _ _ (by exact Ax24) (fun hHeld => ?_)
          clear hK K
          try simp only [qpu]
          refine qtk (i := 10) (oi := xpa38o16) (v := (.bool false)) hHeld ?_ ?_
          · intro w9 hSw
            try dsimp only at hSw
            go_simp
          try simp only [qpu]
          refine qtk (i := 11) (oi := xpa38o15) (v := (.bool false)) hHeld ?_ ?_
          · intro w9 hSw
            try dsimp only at hSw
            go_simp
          try simp only [qpu]
          refine qtk (i := 12) (oi := xpa38o17) (v := (.bool false)) hHeld ?_ ?_
          · intro w9 hSw
            try dsimp only at hSw
            go_simp
          try simp only [qpu]
          refine qtk (i := 13) (oi := xpa38o20) (v := (.pointer (some ⟨tb, 0, none⟩))) hHeld ?_ ?_
          · intro w9 hSw
            try dsimp only at hSw
            go_simp
          try simp only [qpu]
          refine qtk (i := 15) (oi := xpa38o18) (v := (.pointer (some ⟨rb, 3, none⟩))) hHeld ?_ ?_
          · intro w9 hSw
            try dsimp only at hSw
            go_simp
          try simp only [qpu]
          refine wpAnyH_ready (rs := [14, 16]) (by kernel_rfl) (by simp) ?_
          refine AllReadyH.cons (o := xpa38o4) rfl (fun K hK => ?_) (AllReadyH.cons (o := xpa38o7) rfl (fun K hK => ?_) AllReadyH.nil)
          · go_simp
            refine Calls.mono (lenX tb lb14 s1 _ Xx24) ?_
            rintro e Wx25 ⟨rfl, bb⟩
            have Ax25 := Ax24.kept bb
            have Xx25 := Xx24.kept bb
            have Tx25 := Tx24.kept bb
            have Ex25 := Ex24.kept bb
            have Gx25 := Gx24.kept bb
            have Qx25 := Qx24.kept bb
            have bx25 := bel_tr bx24 bb
            clear bb
            refine hK.out _ _ (by exact Ax25) (fun hHeld => ?_)
            clear hK K
            try simp only [qpu]
            refine wpAnyH_ready (rs := [16]) (by kernel_rfl) (by simp) ?_
            refine AllReadyH.cons (o := xpa38o7) rfl (fun K hK => ?_) AllReadyH.nil
            have cld := Tx25.cell 3 (.slice a s1.L.length c) rfl
            go_simp
            clear cld
            refine hK.out _ _ (by exact Ax25) (fun hHeld => ?_)
            clear hK K
            try simp only [qpu]
            refine qtk (i := 17) (oi := xpa38o5) (v := (.int .i64 (s1.L.length : Int))) hHeld ?_ ?_
            · intro w9 hSw
              try dsimp only at hSw
              go_simp
            try simp only [qpu]
            refine qtk (i := 18) (oi := xpa38o6) (v := (.bool false)) hHeld ?_ ?_
            · intro w9 hSw
              try dsimp only at hSw
              go_simp
            try simp only [qpu]
            refine qtk (i := 19) (oi := xpa38o8) (v := (.bool false)) hHeld ?_ ?_
            · intro w9 hSw
              try dsimp only at hSw
              go_simp
            try simp only [qpu]
            refine qtk (i := 20) (oi := xpa38o10) (v := (.bool false)) hHeld ?_ ?_
            · intro w9 hSw
              try dsimp only at hSw
              go_simp
            try simp only [qpu]
            refine qtk (i := 21) (oi := xpa38o13) (v := (.pointer (some ⟨tb, 0, none⟩))) hHeld ?_ ?_
            · intro w9 hSw
              try dsimp only at hSw
              go_simp
            try simp only [qpu]
            refine qtk (i := 23) (oi := xpa38o11) (v := (.pointer (some ⟨rb, 2, none⟩))) hHeld ?_ ?_
            · intro w9 hSw
              try dsimp only at hSw
              go_simp
            try simp only [qpu]
            refine wpAnyH_ready (rs := [22, 24]) (by kernel_rfl) (by simp) ?_
            refine AllReadyH.cons (o := xpa38o0) rfl (fun K hK => ?_) (AllReadyH.cons (o := xpa38o3) rfl (fun K hK => ?_) AllReadyH.nil)
            · go_simp
              refine Calls.mono (nowX tb lb14 s1 _ Xx25) ?_
              rintro e Wx26 ⟨rfl, bb⟩
              have Ax26 := Ax25.kept bb
              have Xx26 := Xx25.kept bb
              have Tx26 := Tx25.kept bb
              have Ex26 := Ex25.kept bb
              have Gx26 := Gx25.kept bb
              have Qx26 := Qx25.kept bb
              have bx26 := bel_tr bx25 bb
              clear bb
              refine hK.out _ _ (by exact Ax26) (fun hHeld => ?_)
              clear hK K
              try simp only [qpu]
              refine wpAnyH_ready (rs := [24]) (by kernel_rfl) (by simp) ?_
              refine AllReadyH.cons (o := xpa38o3) rfl (fun K hK => ?_) AllReadyH.nil
              have cld := Tx26.cell 2 (.int .i64 s1.now) rfl
              go_simp
              clear cld
              refine hK.out _ _ (by exact Ax26) (fun hHeld => ?_)
              clear hK K
              try simp only [qpu]
              refine qtk (i := 25) (oi := xpa38o1) (v := (.bool false)) hHeld ?_ ?_
              · intro w9 hSw
                try dsimp only at hSw
                go_simp
              try simp only [qpu]
              refine qtk (i := 26) (oi := xpa38o2) (v := (.bool false)) hHeld ?_ ?_
              · intro w9 hSw
                try dsimp only at hSw
                go_simp
              try simp only [qpu]
              refine wpAnyH_done (by kernel_rfl) ?_ _
              refine NoPanic.normal ?_
              have nTA : rb ≠ Wr.heap.size := fun e => nAT e.symm
              go_wp2_with fail
              exact ⟨⟨j + 1, s1, lb14, ld14, by omega, by go_num, gwm, gdm, nXD, Xx26, ⟨HOK1.out, ⟨Tx26.lt, Nat.lt_of_lt_of_le hdlt Gx26.size⟩, a, c, ⟨Tx26, Ex26, hne⟩, hdl⟩, bx26⟩, by simp [intOf]; omega⟩
            · have cld := Tx25.cell 2 (.int .i64 s1.now) rfl
              go_simp
              clear cld
              refine hK.out _ _ (by exact Ax25) (fun hHeld => ?_)
              clear hK K
              try simp only [qpu]
              refine wpAnyH_ready (rs := [22]) (by kernel_rfl) (by simp) ?_
              refine AllReadyH.cons (o := xpa38o0) rfl (fun K hK => ?_) AllReadyH.nil
              go_simp
              refine Calls.mono (nowX tb lb14 s1 _ Xx25) ?_
              rintro e Wx27 ⟨rfl, bb⟩
              have Ax27 := Ax25.kept bb
              have Xx27 := Xx25.kept bb
              have Tx27 := Tx25.kept bb
              have Ex27 := Ex25.kept bb
              have Gx27 := Gx25.kept bb
              have Qx27 := Qx25.kept bb
              have bx27 := bel_tr bx25 bb
              clear bb
              refine hK.out _ _ (by exact Ax27) (fun hHeld => ?_)
              clear hK K
              try simp only [qpu]
              refine qtk (i := 25) (oi := xpa38o1) (v := (.bool false)) hHeld ?_ ?_
              · intro w9 hSw
                try dsimp only at hSw
                go_simp
              try simp only [qpu]
              refine qtk (i := 26) (oi := xpa38o2) (v := (.bool false)) hHeld ?_ ?_
              · intro w9 hSw
                try dsimp only at hSw
                go_simp
              try simp only [qpu]
              refine wpAnyH_done (by kernel_rfl) ?_ _
              refine NoPanic.normal ?_
              have nTA : rb ≠ Wr.heap.size := fun e => nAT e.symm
              go_wp2_with fail
              exact ⟨⟨j + 1, s1, lb14, ld14, by omega, by go_num, gwm, gdm, nXD, Xx27, ⟨HOK1.out, ⟨Tx27.lt, Nat.lt_of_lt_of_le hdlt Gx27.size⟩, a, c, ⟨Tx27, Ex27, hne⟩, hdl⟩, bx27⟩, by simp [intOf]; omega⟩
          · have cld := Tx24.cell 3 (.slice a s1.L.length c) rfl
            go_simp
            clear cld
            refine hK.out _ _ (by exact Ax24) (fun hHeld => ?_)
            clear hK K
            try simp only [qpu]
            refine qtk (i := 17) (oi := xpa38o5) (v := (.int .i64 (s1.L.length : Int))) hHeld ?_ ?_
            · intro w9 hSw
              try dsimp only at hSw
              go_simp
            try simp only [qpu]
            refine wpAnyH_ready (rs := [14]) (by kernel_rfl) (by simp) ?_
            refine AllReadyH.cons (o := xpa38o4) rfl (fun K hK => ?_) AllReadyH.nil
            go_simp
            refine Calls.mono (lenX tb lb14 s1 _ Xx24) ?_
            rintro e Wx28 ⟨rfl, bb⟩
            have Ax28 := Ax24.kept bb
            have Xx28 := Xx24.kept bb
            have Tx28 := Tx24.kept bb
            have Ex28 := Ex24.kept bb
            have Gx28 := Gx24.kept bb
            have Qx28 := Qx24.kept bb
            have bx28 := bel_tr bx24 bb
            clear bb
            refine hK.out _ _ (by exact Ax28) (fun hHeld => ?_)
            clear hK K
            try simp only [qpu]
            refine qtk (i := 18) (oi := xpa38o6) (v := (.bool false)) hHeld ?_ ?_
            · intro w9 hSw
              try dsimp only at hSw
              go_simp
            try simp only [qpu]
            refine qtk (i := 19) (oi := xpa38o8) (v := (.bool false)) hHeld ?_ ?_
            · intro w9 hSw
              try dsimp only at hSw
              go_simp
            try simp only [qpu]
            refine qtk (i := 20) (oi := xpa38o10) (v := (.bool false)) hHeld ?_ ?_
            · intro w9 hSw
              try dsimp only at hSw
              go_simp
            try simp only [qpu]
            refine qtk (i := 21) (oi := xpa38o13) (v := (.pointer (some ⟨tb, 0, none⟩))) hHeld ?_ ?_
            · intro w9 hSw
              try dsimp only at hSw
              go_simp
            try simp only [qpu]
            refine qtk (i := 23) (oi := xpa38o11) (v := (.pointer (some ⟨rb, 2, none⟩))) hHeld ?_ ?_
            · intro w9 hSw
              try dsimp only at hSw
              go_simp
            try simp only [qpu]
            refine wpAnyH_ready (rs := [22, 24]) (by kernel_rfl) (by simp) ?_
            refine AllReadyH.cons (o := xpa38o0) rfl (fun K hK => ?_) (AllReadyH.cons (o := xpa38o3) rfl (fun K hK => ?_) AllReadyH.nil)
            · go_simp
              refine Calls.mono (nowX tb lb14 s1 _ Xx28) ?_
              rintro e Wx29 ⟨rfl, bb⟩
              have Ax29 := Ax28.kept bb
              have Xx29 := Xx28.kept bb
              have Tx29 := Tx28.kept bb
              have Ex29 := Ex28.kept bb
              have Gx29 := Gx28.kept bb
              have Qx29 := Qx28.kept bb
              have bx29 := bel_tr bx28 bb
              clear bb
              refine hK.out _ _ (by exact Ax29) (fun hHeld => ?_)
              clear hK K
              try simp only [qpu]
              refine wpAnyH_ready (rs := [24]) (by kernel_rfl) (by simp) ?_
              refine AllReadyH.cons (o := xpa38o3) rfl (fun K hK => ?_) AllReadyH.nil
              have cld := Tx29.cell 2 (.int .i64 s1.now) rfl
              go_simp
              clear cld
              refine hK.out _ _ (by exact Ax29) (fun hHeld => ?_)
              clear hK K
              try simp only [qpu]
              refine qtk (i := 25) (oi := xpa38o1) (v := (.bool false)) hHeld ?_ ?_
              · intro w9 hSw
                try dsimp only at hSw
                go_simp
              try simp only [qpu]
              refine qtk (i := 26) (oi := xpa38o2) (v := (.bool false)) hHeld ?_ ?_
              · intro w9 hSw
                try dsimp only at hSw
                go_simp
              try simp only [qpu]
              refine wpAnyH_done (by kernel_rfl) ?_ _
              refine NoPanic.normal ?_
              have nTA : rb ≠ Wr.heap.size := fun e => nAT e.symm
              go_wp2_with fail
              exact ⟨⟨j + 1, s1, lb14, ld14, by omega, by go_num, gwm, gdm, nXD, Xx29, ⟨HOK1.out, ⟨Tx29.lt, Nat.lt_of_lt_of_le hdlt Gx29.size⟩, a, c, ⟨Tx29, Ex29, hne⟩, hdl⟩, bx29⟩, by simp [intOf]; omega⟩
            · have cld := Tx28.cell 2 (.int .i64 s1.now) rfl
              go_simp
              clear cld
              refine hK.out _ _ (by exact Ax28) (fun hHeld => ?_)
              clear hK K
              try simp only [qpu]
              refine wpAnyH_ready (rs := [22]) (by kernel_rfl) (by simp) ?_
              refine AllReadyH.cons (o := xpa38o0) rfl (fun K hK => ?_) AllReadyH.nil
              go_simp
              refine Calls.mono (nowX tb lb14 s1 _ Xx28) ?_
              rintro e Wx30 ⟨rfl, bb⟩
              have Ax30 := Ax28.kept bb
              have Xx30 := Xx28.kept bb
              have Tx30 := Tx28.kept bb
              have Ex30 := Ex28.kept bb
              have Gx30 := Gx28.kept bb
              have Qx30 := Qx28.kept bb
              have bx30 := bel_tr bx28 bb
              clear bb
              refine hK.out _ _ (by exact Ax30) (fun hHeld => ?_)
              clear hK K
              try simp only [qpu]
              refine qtk (i := 25) (oi := xpa38o1) (v := (.bool false)) hHeld ?_ ?_
              · intro w9 hSw
                try dsimp only at hSw
                go_simp
              try simp only [qpu]
              refine qtk (i := 26) (oi := xpa38o2) (v := (.bool false)) hHeld ?_ ?_
              · intro w9 hSw
                try dsimp only at hSw
                go_simp
              try simp only [qpu]
              refine wpAnyH_done (by kernel_rfl) ?_ _
              refine NoPanic.normal ?_
              have nTA : rb ≠ Wr.heap.size := fun e => nAT e.symm
              go_wp2_with fail
              exact ⟨⟨j + 1, s1, lb14, ld14, by omega, by go_num, gwm, gdm, nXD, Xx30, ⟨HOK1.out, ⟨Tx30.lt, Nat.lt_of_lt_of_le hdlt Gx30.size⟩, a, c, ⟨Tx30, Ex30, hne⟩, hdl⟩, bx30⟩, by simp [intOf]; omega⟩

      · have ik : ¬ (j : Int) < (N : Int) := by omega
        have ik' : decide ((j : Int) < (N : Int)) = false := by simpa using ik
        go_wp2_with fail
        go_ret
        exact ⟨rfl, br⟩
  · go_enter Try.func4, Try.ntmps4
    obtain ⟨Wm31, hWm31⟩ : ∃ W, w.alloc (.cells cx.v 33) = W := ⟨_, rfl⟩
    have bm31 := bel_al b hWm31
    have Am31 := blk_nw hWm31
    have gA : w.heap.size ≤ w.heap.size := b.size
    have c32 := Am31.cell 0 (.int .i64 cx.mo) rfl
    have c33 := Am31.cell 1 (.int .i64 cx.qu) rfl
    go_wp2_with fail
    clear c32 c33
    refine Calls.mono (newN_xp cx.mo cx.qu _ hc) ?_
    rintro e Wm34 ⟨rfl, bb⟩
    have Am34 := Am31.kept bb
    have bm34 := bel_tr bm31 bb
    clear bb
    clear Am31 bm31
    have c35 := Am34.cell 0 (.int .i64 cx.mo) rfl
    have c36 := Am34.cell 1 (.int .i64 cx.qu) rfl
    go_wp2_with fail
    clear c35 c36
    refine Calls.mono (rnewN_xp cx.mo cx.qu _ hc) ?_
    rintro e Wm37 ⟨rfl, bb⟩
    have Am37 := Am34.kept bb
    have bm37 := bel_tr bm34 bb
    clear bb
    clear Am34 bm34
    obtain ⟨Wm38, hWm38⟩ : ∃ W, Wm37.alloc (.cells #[.int .i64 0, .int .i64 0, .int .i64 0, .slice none 0 0] 41) = W := ⟨_, rfl⟩
    have bm38 := bel_al bm37 hWm38
    have Am38 := Am37.al hWm38
    have Bm38 := blk_nw hWm38
    have gB : w.heap.size ≤ Wm37.heap.size := bm37.size
    have nAB : w.heap.size ≠ Wm37.heap.size := by have := Am37.lt; omega
    have nBA : Wm37.heap.size ≠ w.heap.size := fun e => nAB e.symm
    obtain ⟨Wm39, hWm39⟩ : ∃ W, Wm38.setRow Wm37.heap.size #[.int .i64 0, .int .i64 0, .int .i64 0, .slice none 0 0] = W := ⟨_, rfl⟩
    have Bm39 : Blk Wm39 Wm37.heap.size 41 #[.int .i64 0, .int .i64 0, .int .i64 0, .slice none 0 0] := hWm39 ▸ Bm38.set #[.int .i64 0, .int .i64 0, .int .i64 0, .slice none 0 0]
    have Am39 := hWm39 ▸ Am38.other nAB #[.int .i64 0, .int .i64 0, .int .i64 0, .slice none 0 0]
    have bm39 := hWm39 ▸ below_setRow bm38 gB #[.int .i64 0, .int .i64 0, .int .i64 0, .slice none 0 0]
    go_wp2_with (refine wpList_store_row rfl _ _ _ rfl Wm37.heap.size #[.int .i64 0, .int .i64 0, .int .i64 0, .slice none 0 0] (by rfl) (by rfl) _ _ Bm38 (by kernel_rfl) (by rfl) (by kernel_rfl) ?_; rw [hWm39])
    refine Calls.mono (alive_xp _) ?_
    rintro e Wm40 ⟨rfl, bb⟩
    have Am40 := Am39.kept bb
    have Bm40 := Bm39.kept bb
    have bm40 := bel_tr bm39 bb
    clear bb
    clear Am39 Bm39 bm39
    go_wp2_with fail
    go_ret
    exact ⟨rfl, bm40⟩
end Go.Proofs.Ytmflogmocgbmhaa
