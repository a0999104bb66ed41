/- Texts joined: FlowPlaysWalk -/
import Derived.Test.YtmjjdbkipagkbaaFyp42
namespace Go.Proofs.Ytmjjdbkipagkbaa
abbrev fyp43o0 : Oper := { dst := some 57, op := Op.call { callee := Callee.value (.func 21), args := #[.tmp 56], argTypes := #[50] }, type := 3, pos := "law.go:72", after := #[{ on := 13, ground := Ground.data }, { on := 12, ground := Ground.chain }, { on := 12, ground := Ground.guard }], guard := some (12, false) }
abbrev fyp43o1 : Oper := { dst := some 60, op := Op.binOp BinOp.neq 3 (.tmp 57) (.tmp 59) 3, type := 4, pos := "law.go:72", after := #[{ on := 14, ground := Ground.data }, { on := 16, ground := Ground.data }, { on := 12, ground := Ground.guard }], guard := some (12, false) }
abbrev fyp43o2 : Oper := { dst := some 61, op := Op.pick (.tmp 55) (.const (.bool true)) (.tmp 60), type := 4, pos := "law.go:72", after := #[{ on := 12, ground := Ground.data }, { on := 17, ground := Ground.data }], guard := none }
abbrev fyp43o3 : Oper := { dst := some 59, op := Op.load 3 (.tmp 58), type := 3, pos := "law.go:72", after := #[{ on := 15, ground := Ground.data }, { on := 12, ground := Ground.guard }], guard := some (12, false) }
abbrev fyp43o4 : Oper := { dst := some 49, op := Op.call { callee := Callee.value (.func 20), args := #[.tmp 48], argTypes := #[50] }, type := 3, pos := "law.go:72", after := #[{ on := 5, ground := Ground.data }, { on := 4, ground := Ground.chain }, { on := 4, ground := Ground.guard }], guard := some (4, false) }
abbrev fyp43o5 : Oper := { dst := some 52, op := Op.call { callee := Callee.builtin Builtin.len, args := #[.tmp 51], argTypes := #[53] }, type := 3, pos := "law.go:72", after := #[{ on := 8, ground := Ground.data }, { on := 4, ground := Ground.guard }], guard := some (4, false) }
abbrev fyp43o6 : Oper := { dst := some 53, op := Op.binOp BinOp.neq 3 (.tmp 49) (.tmp 52) 3, type := 4, pos := "law.go:72", after := #[{ on := 6, ground := Ground.data }, { on := 9, ground := Ground.data }, { on := 4, ground := Ground.guard }], guard := some (4, false) }
abbrev fyp43o7 : Oper := { dst := some 51, op := Op.load 53 (.tmp 50), type := 53, pos := "law.go:72", after := #[{ on := 7, ground := Ground.data }, { on := 4, ground := Ground.guard }], guard := some (4, false) }
abbrev fyp43o8 : Oper := { dst := some 54, op := Op.pick (.tmp 47) (.const (.bool true)) (.tmp 53), type := 4, pos := "law.go:72", after := #[{ on := 4, ground := Ground.data }, { on := 10, ground := Ground.data }], guard := none }
abbrev fyp43o10 : Oper := { dst := some 55, op := Op.move (.tmp 54), type := 4, pos := "law.go:72", after := #[{ on := 11, ground := Ground.data }, { on := 6, ground := Ground.chain }], guard := none }
abbrev fyp43o11 : Oper := { dst := some 58, op := Op.fieldAddr 55 (.tmp 7) 1, type := 0, pos := "law.go:72", after := #[{ on := 12, ground := Ground.guard }], guard := some (12, false) }
abbrev fyp43o14 : Oper := { dst := some 56, op := Op.move (.tmp 5), type := 50, pos := "law.go:72", after := #[{ on := 12, ground := Ground.guard }], guard := some (12, false) }
end Go.Proofs.Ytmjjdbkipagkbaa
namespace Go.Proofs.Ytmjjdbkipagkbaa
open Go.RowKit
set_option linter.unusedVariables false
set_option linter.unusedSimpArgs false
set_option maxRecDepth 100000 in
set_option maxHeartbeats 16000000 in
theorem flowPlays_walk (m : Int) (la : Option Addr) (lc : Nat) (l : List Ac) (w : World) (hlc : l.length ≤ lc) (hcm : lc * 152 ≤ 140737488351232 ∧ (la = none → lc = 0)) (hrow : RowN 24 Ac.v (fun _ q => q.ok) w la l) :
    Calls Try.prog 5 #[.int .i64 m, .slice la l.length lc] w fun e w' => e = .returned (.bool true) ∧ Below w.heap.size w w' := by
  have HRow : Hid (RowN 24 Ac.v (fun _ q => q.ok) w la l) := hrow
  obtain ⟨N, hN⟩ : ∃ N, l.length = N := ⟨_, rfl⟩
  have HN : Hid (l.length = N) := hN
  have hNl : N ≤ 140737488355328 := by omega
  rw [hN]
  clear hN hrow hlc hcm
  have b := Below.refl w.heap.size w
  cases hc : capB m with
  | true =>
    have hci := cap_iffF.1 hc
    go_enter Try.func5, Try.ntmps5
    go_wp2_with fail
    refine Calls.mono (new_y_fw m hci.1 hci.2 _) ?_
    rintro e Wm1 ⟨tb, mb, rfl, Xm1, gtb, gmb, bb⟩
    have bm1 := bel_tr b bb
    clear bb
    have gwb : w.heap.size ≤ tb := Nat.le_trans b.size gtb
    have gwm : w.heap.size ≤ mb := Nat.le_trans b.size gmb
    go_wp2_with fail
    refine Calls.mono (rnewY_fy m _ hc) ?_
    rintro e Wm2 ⟨rfl, bb⟩
    have Xm2 := Xm1.kept bb
    have bm2 := bel_tr bm1 bb
    clear bb
    clear Xm1 bm1
    obtain ⟨Wm3, hWm3⟩ : ∃ W, Wm2.alloc (.cells #[.int .i64 0, .int .i64 0, .slice none 0 0] 55) = W := ⟨_, rfl⟩
    have bm3 := bel_al bm2 hWm3
    have Xm3 := Xm2.al hWm3
    have Am3 := blk_nw hWm3
    have gA : w.heap.size ≤ Wm2.heap.size := bm2.size
    have nXA : tb ≠ Wm2.heap.size ∧ mb ≠ Wm2.heap.size := by have := Xm2.lt; omega
    obtain ⟨Wm4, hWm4⟩ : ∃ W, Wm3.setRow Wm2.heap.size #[.int .i64 m, .int .i64 0, .slice none 0 0] = W := ⟨_, rfl⟩
    have Am4 : Blk Wm4 Wm2.heap.size 55 #[.int .i64 m, .int .i64 0, .slice none 0 0] := hWm4 ▸ Am3.set #[.int .i64 m, .int .i64 0, .slice none 0 0]
    have Xm4 := hWm4 ▸ Xm3.other nXA #[.int .i64 m, .int .i64 0, .slice none 0 0]
    have bm4 := hWm4 ▸ below_setRow bm3 gA #[.int .i64 m, .int .i64 0, .slice none 0 0]
    go_wp2_with (refine wpList_store_row rfl _ _ _ rfl Wm2.heap.size #[.int .i64 m, .int .i64 0, .slice none 0 0] (by rfl) (by rfl) _ _ Am3 (by kernel_rfl) (by rfl) (by kernel_rfl) ?_; rw [hWm4])
    refine Calls.mono (alive_fw _) ?_
    rintro e Wm5 ⟨rfl, bb⟩
    have Xm5 := Xm4.kept bb
    have Am5 := Am4.kept bb
    have bm5 := bel_tr bm4 bb
    clear bb
    clear Xm4 Am4 bm4
    go_wp2_with fail
    obtain ⟨rb, hrb⟩ : ∃ g, Wm2.heap.size = g := ⟨_, rfl⟩
    rw [hrb] at Am5 nXA gA
    try rw [hrb]
    clear hrb
    have Dm5 : DocFX Wm5 rb rb ⟨m, 0, []⟩ := docfx_new hc Am5
    have gdb : w.heap.size ≤ rb := gA
    have nXD : ((tb ≠ rb ∧ mb ≠ rb) ∧ (tb ≠ rb ∧ mb ≠ rb)) := by have := nXA; omega
    go_loopw [39] (fun i wr => ∃ (j : Nat) (s : Ft) (ld : Nat), j ≤ N ∧ i = .int .i64 j ∧ w.heap.size ≤ ld ∧ ((tb ≠ rb ∧ mb ≠ rb) ∧ (tb ≠ ld ∧ mb ≠ ld)) ∧ TabX wr tb mb s ∧ DocFX wr rb ld s ∧ Below w.heap.size w wr) (fun i _ => N - (intOf i).toNat)
    case atStart => exact ⟨0, ⟨m, 0, []⟩, rb, Nat.zero_le _, rfl, gdb, nXD, Xm5, Dm5, bm5⟩
    case round =>
      obtain ⟨j, s, ld, hj, rfl, gdm, nXD, Xr, Dr, br⟩ := hrel
      obtain ⟨Wr, rfl⟩ : ∃ W, W = wr := ⟨_, rfl⟩
      have HLN : s.L.length ≤ 100000 := Dr.ok.lenD
      have in0 : (0 : Int) ≤ (j : Int) := by omega
      by_cases hlt : j < N
      · have ik : (j : Int) < (N : Int) := by omega
        have ik' : decide ((j : Int) < (N : Int)) = true := by simpa using ik
        obtain ⟨qa, hq⟩ : ∃ q, l[j]? = some q := ⟨_, List.getElem?_eq_getElem (by rw [HN.out]; exact hlt)⟩
        have hok : qa.ok := HRow.out.each qa (List.mem_of_getElem? hq)
        obtain ⟨p, off, rfl, hcells⟩ := HRow.out.cells j qa hq
        have hca := hcells.below br
        clear hcells
        obtain ⟨Wm6, hWm6⟩ : ∃ W, Wr.alloc (.cells #[.int .i64 0, .int .i64 0, .int .i64 0, .int .i64 0, .int .i64 0, .int .u64 0, .int .u64 0, .int .i64 0, .int .u64 0, .int .u64 0, .int .i64 0, .int .i64 0, .int .i64 0, .int .u32 0, .int .u32 0, .int .u32 0, .int .u32 0, .bool false, .bool false, .bool false, .bool false, .int .i64 0, .int .i64 0, .bool false] 59) = W := ⟨_, rfl⟩
        have bm6 := bel_al br hWm6
        have Xm6 := Xr.al hWm6
        have Dm6 := Dr.al hWm6
        have Am6 := blk_nw hWm6
        have gA : w.heap.size ≤ Wr.heap.size := br.size
        have nXA : tb ≠ Wr.heap.size ∧ mb ≠ Wr.heap.size := by have := Xr.lt; omega
        have nDA : rb ≠ Wr.heap.size ∧ ld ≠ Wr.heap.size := by have := Dr.lt; omega
        obtain ⟨Wm7, hWm7⟩ : ∃ W, Wm6.setRow Wr.heap.size qa.v = W := ⟨_, rfl⟩
        have Am7 : Blk Wm7 Wr.heap.size 59 qa.v := hWm7 ▸ Am6.set qa.v
        have Xm7 := hWm7 ▸ Xm6.other nXA qa.v
        have Dm7 := hWm7 ▸ Dm6.other nDA qa.v
        have bm7 := hWm7 ▸ below_setRow bm6 gA qa.v
        go_wp2_with (first | (refine wpList_load_at_w (by rfl) _ _ rfl p (off + j * 24) (by rfl) _ hca Try.underlying59 (by kernel_rfl) ?_) | (refine wpList_store_row rfl _ _ _ rfl Wr.heap.size qa.v (by rfl) (by rfl) _ _ Am6 (by kernel_rfl) (by rfl) (by kernel_rfl) ?_; rw [hWm7]))
        obtain ⟨Wdq8, hWdq8⟩ : ∃ W, Wm7.drew = W := ⟨_, rfl⟩
        have Xdq8 := hWdq8 ▸ Xm7.drew
        have Ddq8 := hWdq8 ▸ Dm7.drew
        have Adq8 := hWdq8 ▸ Am7.drew
        have bdq8 := hWdq8 ▸ bm7.drew
        refine wp_region_noPanic ?_
        refine wp_region_held_drew (S := fun w' => Blk w' Wr.heap.size 59 qa.v) (by kernel_rfl) (by rw [hWdq8]; exact Adq8) (fun hHeld => ?_)
        rw [hWdq8] at hHeld ⊢
        refine qtk (i := 0) (oi := { dst := some 43, op := Op.move (.tmp 5), type := 50, pos := "law.go:72", after := #[], guard := none }) (v := (.pointer (some ⟨tb, 0, none⟩))) hHeld ?_ ?_
        · intro w9 hSw
          try dsimp only at hSw
          go_simp
        try simp only [qpu]
        refine qty (i := 1) (oi := { dst := some 44, op := Op.load 59 (.tmp 10), type := 59, pos := "law.go:72", after := #[], guard := none }) (v := (.agg qa.v)) (yieldsIf_blk_w (by kernel_rfl) _ _ rfl Wr.heap.size (by rfl) _ (fun _ hSw => hSw) Try.underlying59 (by kernel_rfl)) hHeld ?_
        try simp only [qpu]
        refine wpAnyH_ready (rs := [2]) (by kernel_rfl) (by simp) ?_
        refine AllReadyH.cons (o := { dst := some 45, op := Op.call { callee := Callee.value (.func 19), args := #[.tmp 43, .tmp 7, .tmp 44], argTypes := #[50, 61, 59] }, type := 4, pos := "law.go:72", after := #[{ on := 0, ground := Ground.data }, { on := 1, ground := Ground.data }], guard := none }) rfl (fun K hK => ?_) AllReadyH.nil
        go_simp
        refine Calls.mono (does_fy tb mb rb ld s qa _ Xdq8 Ddq8 nXD hok) ?_
        rintro e Wx9 ⟨rfl, ⟨ld9, Xx9, Dx9, nXD, hdx9⟩, bb⟩
        obtain ⟨s1, hs1⟩ : ∃ t, Ac.go qa s = t := ⟨_, rfl⟩
        rw [hs1] at Xx9 Dx9
        clear hs1
        have Ax9 := Adq8.but bb (by have := nXA; have := nDA; omega)
        have nAT : Wr.heap.size ≠ rb := by have := nDA; omega
        have bx9 := bel_but3 bdq8 bb gwb gwm gdb
        have gdm : w.heap.size ≤ ld9 := by have h9 := bdq8.size; have h8 := gdm; rcases hdx9 with h | h <;> omega
        obtain ⟨a, c, DO, hdl⟩ := Dx9.ex
        have HOK1 : Hid (FtOk s1) := Dx9.ok
        have hl1 : s1.L.length ≤ 100000 := Dx9.ok.lenD
        have hdlt := Dx9.lt.2
        have Tx9 := DO.tab
        have Ex9 := DO.row
        have hne := DO.ne
        have Gx9 : But (fun _ => False) Wx9 Wx9 := But.refl _ _
        clear bb DO
        refine hK.out _ _ (by exact Ax9) (fun hHeld => ?_)
        clear hK K
        try simp only [qpu]
        refine qtk (i := 3) (oi := { dst := some 46, op := Op.unOp UnOp.not 4 (.tmp 45), type := 4, pos := "law.go:72", after := #[{ on := 2, ground := Ground.data }], guard := none }) (v := (.bool false)) hHeld ?_ ?_
        · intro w9 hSw
          try dsimp only at hSw
          go_simp
        try simp only [qpu]
        refine qtk (i := 4) (oi := { dst := some 47, op := Op.move (.tmp 46), type := 4, pos := "law.go:72", after := #[{ on := 3, ground := Ground.data }, { on := 2, ground := Ground.chain }], guard := none }) (v := (.bool false)) hHeld ?_ ?_
        · intro w9 hSw
          try dsimp only at hSw
          go_simp
        try simp only [qpu]
        refine qtk (i := 5) (oi := { dst := some 48, op := Op.move (.tmp 5), type := 50, pos := "law.go:72", after := #[{ on := 4, ground := Ground.guard }], guard := some (4, false) }) (v := (.pointer (some ⟨tb, 0, none⟩))) hHeld ?_ ?_
        · intro w9 hSw
          try dsimp only at hSw
          go_simp
        try simp only [qpu]
        refine qtk (i := 7) (oi := { dst := some 50, op := Op.fieldAddr 55 (.tmp 7) 2, type := 0, pos := "law.go:72", after := #[{ on := 4, ground := Ground.guard }], guard := some (4, false) }) (v := (.pointer (some ⟨rb, 2, none⟩))) hHeld ?_ ?_
        · intro w9 hSw
          try dsimp only at hSw
          go_simp
        try simp only [qpu]
        refine wpAnyH_ready (rs := [6, 8]) (by kernel_rfl) (by simp) ?_
        refine AllReadyH.cons (o := fyp43o4) rfl (fun K hK => ?_) (AllReadyH.cons (o := fyp43o7) rfl (fun K hK => ?_) AllReadyH.nil)
        · go_simp
          refine Calls.mono (lenX tb mb s1 _ Xx9) ?_
          rintro e Wx10 ⟨rfl, bb⟩
          have Ax10 := Ax9.kept bb
          have Xx10 := Xx9.kept bb
          have Tx10 := Tx9.kept bb
          have Ex10 := Ex9.kept bb
          have Gx10 := Gx9.kept bb
          have bx10 := bel_tr bx9 bb
          clear bb
          refine hK.out _ _ (by exact Ax10) (fun hHeld => ?_)
          clear hK K
          try simp only [qpu]
          refine wpAnyH_ready (rs := [8]) (by kernel_rfl) (by simp) ?_
          refine AllReadyH.cons (o := fyp43o7) rfl (fun K hK => ?_) AllReadyH.nil
          have cld := Tx10.cell 2 (.slice a s1.L.length c) rfl
          go_simp
          clear cld
          refine hK.out _ _ (by exact Ax10) (fun hHeld => ?_)
          clear hK K
          try simp only [qpu]
          refine qtk (i := 9) (oi := fyp43o5) (v := (.int .i64 (s1.L.length : Int))) hHeld ?_ ?_
          · intro w9 hSw
            try dsimp only at hSw
            go_simp
          try simp only [qpu]
          refine qtk (i := 10) (oi := fyp43o6) (v := (.bool false)) hHeld ?_ ?_
          · intro w9 hSw
            try dsimp only at hSw
            go_simp
          try simp only [qpu]
          refine qtk (i := 11) (oi := fyp43o8) (v := (.bool false)) hHeld ?_ ?_
          · intro w9 hSw
            try dsimp only at hSw
            go_simp
          try simp only [qpu]
          refine qtk (i := 12) (oi := fyp43o10) (v := (.bool false)) hHeld ?_ ?_
          · intro w9 hSw
            try dsimp only at hSw
            go_simp
          try simp only [qpu]
          refine qtk (i := 13) (oi := fyp43o14) (v := (.pointer (some ⟨tb, 0, none⟩))) hHeld ?_ ?_
          · intro w9 hSw
            try dsimp only at hSw
            go_simp
          try simp only [qpu]
          refine qtk (i := 15) (oi := fyp43o11) (v := (.pointer (some ⟨rb, 1, none⟩))) hHeld ?_ ?_
          · intro w9 hSw
            try dsimp only at hSw
            go_simp
          try simp only [qpu]
          refine wpAnyH_ready (rs := [14, 16]) (by kernel_rfl) (by simp) ?_
          refine AllReadyH.cons (o := fyp43o0) rfl (fun K hK => ?_) (AllReadyH.cons (o := fyp43o3) rfl (fun K hK => ?_) AllReadyH.nil)
          · go_simp
            refine Calls.mono (nowX tb mb s1 _ Xx10) ?_
            rintro e Wx11 ⟨rfl, bb⟩
            have Ax11 := Ax10.kept bb
            have Xx11 := Xx10.kept bb
            have Tx11 := Tx10.kept bb
            have Ex11 := Ex10.kept bb
            have Gx11 := Gx10.kept bb
            have bx11 := bel_tr bx10 bb
            clear bb
            refine hK.out _ _ (by exact Ax11) (fun hHeld => ?_)
            clear hK K
            try simp only [qpu]
            refine wpAnyH_ready (rs := [16]) (by kernel_rfl) (by simp) ?_
            refine AllReadyH.cons (o := fyp43o3) rfl (fun K hK => ?_) AllReadyH.nil
            have cld := Tx11.cell 1 (.int .i64 s1.now) rfl
            go_simp
            clear cld
            refine hK.out _ _ (by exact Ax11) (fun hHeld => ?_)
            clear hK K
            try simp only [qpu]
            refine qtk (i := 17) (oi := fyp43o1) (v := (.bool false)) hHeld ?_ ?_
            · intro w9 hSw
              try dsimp only at hSw
              go_simp
            try simp only [qpu]
            refine qtk (i := 18) (oi := fyp43o2) (v := (.bool false)) hHeld ?_ ?_
            · intro w9 hSw
              try dsimp only at hSw
              go_simp
            try simp only [qpu]
            refine wpAnyH_done (by kernel_rfl) ?_ _
            refine NoPanic.normal ?_
            have nTA : rb ≠ Wr.heap.size := fun e => nAT e.symm
            go_wp2_with fail
            exact ⟨⟨j + 1, s1, _, by omega, by go_num, gdm, nXD, Xx11, ⟨HOK1.out, ⟨Tx11.lt, Nat.lt_of_lt_of_le hdlt Gx11.size⟩, a, c, ⟨Tx11, Ex11, hne⟩, hdl⟩, bx11⟩, by simp [intOf]; omega⟩
          · have cld := Tx10.cell 1 (.int .i64 s1.now) rfl
            go_simp
            clear cld
            refine hK.out _ _ (by exact Ax10) (fun hHeld => ?_)
            clear hK K
            try simp only [qpu]
            refine wpAnyH_ready (rs := [14]) (by kernel_rfl) (by simp) ?_
            refine AllReadyH.cons (o := fyp43o0) rfl (fun K hK => ?_) AllReadyH.nil
            go_simp
            refine Calls.mono (nowX tb mb s1 _ Xx10) ?_
            rintro e Wx12 ⟨rfl, bb⟩
            have Ax12 := Ax10.kept bb
            have Xx12 := Xx10.kept bb
            have Tx12 := Tx10.kept bb
            have Ex12 := Ex10.kept bb
            have Gx12 := Gx10.kept bb
            have bx12 := bel_tr bx10 bb
            clear bb
            refine hK.out _ _ (by exact Ax12) (fun hHeld => ?_)
            clear hK K
            try simp only [qpu]
            refine qtk (i := 17) (oi := fyp43o1) (v := (.bool false)) hHeld ?_ ?_
            · intro w9 hSw
              try dsimp only at hSw
              go_simp
            try simp only [qpu]
            refine qtk (i := 18) (oi := fyp43o2) (v := (.bool false)) hHeld ?_ ?_
            · intro w9 hSw
              try dsimp only at hSw
              go_simp
            try simp only [qpu]
            refine wpAnyH_done (by kernel_rfl) ?_ _
            refine NoPanic.normal ?_
            have nTA : rb ≠ Wr.heap.size := fun e => nAT e.symm
            go_wp2_with fail
            exact ⟨⟨j + 1, s1, _, by omega, by go_num, gdm, nXD, Xx12, ⟨HOK1.out, ⟨Tx12.lt, Nat.lt_of_lt_of_le hdlt Gx12.size⟩, a, c, ⟨Tx12, Ex12, hne⟩, hdl⟩, bx12⟩, by simp [intOf]; omega⟩
        · have cld := Tx9.cell 2 (.slice a s1.L.length c) rfl
          go_simp
          clear cld
          refine hK.out _ _ (by exact Ax9) (fun hHeld => ?_)
          clear hK K
          try simp only [qpu]
          refine qtk (i := 9) (oi := fyp43o5) (v := (.int .i64 (s1.L.length : Int))) hHeld ?_ ?_
          · intro w9 hSw
            try dsimp only at hSw
            go_simp
          try simp only [qpu]
          refine wpAnyH_ready (rs := [6]) (by kernel_rfl) (by simp) ?_
          refine AllReadyH.cons (o := fyp43o4) rfl (fun K hK => ?_) AllReadyH.nil
          go_simp
          refine Calls.mono (lenX tb mb s1 _ Xx9) ?_
          rintro e Wx13 ⟨rfl, bb⟩
          have Ax13 := Ax9.kept bb
          have Xx13 := Xx9.kept bb
          have Tx13 := Tx9.kept bb
          have Ex13 := Ex9.kept bb
          have Gx13 := Gx9.kept bb
          have bx13 := bel_tr bx9 bb
          clear bb
          refine hK.out _ _ (by exact Ax13) (fun hHeld => ?_)
          clear hK K
          try simp only [qpu]
          refine qtk (i := 10) (oi := fyp43o6) (v := (.bool false)) hHeld ?_ ?_
          · intro w9 hSw
            try dsimp only at hSw
            go_simp
          try simp only [qpu]
          refine qtk (i := 11) (oi := fyp43o8) (v := (.bool false)) hHeld ?_ ?_
          · intro w9 hSw
            try dsimp only at hSw
            go_simp
          try simp only [qpu]
          refine qtk (i := 12) (oi := fyp43o10) (v := (.bool false)) hHeld ?_ ?_
          · intro w9 hSw
            try dsimp only at hSw
            go_simp
          try simp only [qpu]
          refine qtk (i := 13) (oi := fyp43o14) (v := (.pointer (some ⟨tb, 0, none⟩))) hHeld ?_ ?_
          · intro w9 hSw
            try dsimp only at hSw
            go_simp
          try simp only [qpu]
          refine qtk (i := 15) (oi := fyp43o11) (v := (.pointer (some ⟨rb, 1, none⟩))) hHeld ?_ ?_
          · intro w9 hSw
            try dsimp only at hSw
            go_simp
          try simp only [qpu]
          refine wpAnyH_ready (rs := [14, 16]) (by kernel_rfl) (by simp) ?_
          refine AllReadyH.cons (o := fyp43o0) rfl (fun K hK => ?_) (AllReadyH.cons (o := fyp43o3) rfl (fun K hK => ?_) AllReadyH.nil)
          · go_simp
            refine Calls.mono (nowX tb mb s1 _ Xx13) ?_
            rintro e Wx14 ⟨rfl, bb⟩
            have Ax14 := Ax13.kept bb
            have Xx14 := Xx13.kept bb
            have Tx14 := Tx13.kept bb
            have Ex14 := Ex13.kept bb
            have Gx14 := Gx13.kept bb
            have bx14 := bel_tr bx13 bb
            clear bb
            refine hK.out _ _ (by exact Ax14) (fun hHeld => ?_)
            clear hK K
            try simp only [qpu]
            refine wpAnyH_ready (rs := [16]) (by kernel_rfl) (by simp) ?_
            refine AllReadyH.cons (o := fyp43o3) rfl (fun K hK => ?_) AllReadyH.nil
            have cld := Tx14.cell 1 (.int .i64 s1.now) rfl
            go_simp
            clear cld
            refine hK.out _ _ (by exact Ax14) (fun hHeld => ?_)
            clear hK K
            try simp only [qpu]
            refine qtk (i := 17) (oi := fyp43o1) (v := (.bool false)) hHeld ?_ ?_
            · intro w9 hSw
              try dsimp only at hSw
              go_simp
            try simp only [qpu]
            refine qtk (i := 18) (oi := fyp43o2) (v := (.bool false)) hHeld ?_ ?_
            · intro w9 hSw
              try dsimp only at hSw
              go_simp
            try simp only [qpu]
            refine wpAnyH_done (by kernel_rfl) ?_ _
            refine NoPanic.normal ?_
            have nTA : rb ≠ Wr.heap.size := fun e => nAT e.symm
            go_wp2_with fail
            exact ⟨⟨j + 1, s1, _, by omega, by go_num, gdm, nXD, Xx14, ⟨HOK1.out, ⟨Tx14.lt, Nat.lt_of_lt_of_le hdlt Gx14.size⟩, a, c, ⟨Tx14, Ex14, hne⟩, hdl⟩, bx14⟩, by simp [intOf]; omega⟩
          · have cld := Tx13.cell 1 (.int .i64 s1.now) rfl
            go_simp
            clear cld
            refine hK.out _ _ (by exact Ax13) (fun hHeld => ?_)
            clear hK K
            try simp only [qpu]
            refine wpAnyH_ready (rs := [14]) (by kernel_rfl) (by simp) ?_
            refine AllReadyH.cons (o := fyp43o0) rfl (fun K hK => ?_) AllReadyH.nil
            go_simp
            refine Calls.mono (nowX tb mb s1 _ Xx13) ?_
            rintro e Wx15 ⟨rfl, bb⟩
            have Ax15 := Ax13.kept bb
            have Xx15 := Xx13.kept bb
            have Tx15 := Tx13.kept bb
            have Ex15 := Ex13.kept bb
            have Gx15 := Gx13.kept bb
            have bx15 := bel_tr bx13 bb
            clear bb
            refine hK.out _ _ (by exact Ax15) (fun hHeld => ?_)
            clear hK K
            try simp only [qpu]
            refine qtk (i := 17) (oi := fyp43o1) (v := (.bool false)) hHeld ?_ ?_
            · intro w9 hSw
              try dsimp only at hSw
              go_simp
            try simp only [qpu]
            refine qtk (i := 18) (oi := fyp43o2) (v := (.bool false)) hHeld ?_ ?_
            · intro w9 hSw
              try dsimp only at hSw
              go_simp
            try simp only [qpu]
            refine wpAnyH_done (by kernel_rfl) ?_ _
            refine NoPanic.normal ?_
            have nTA : rb ≠ Wr.heap.size := fun e => nAT e.symm
            go_wp2_with fail
            exact ⟨⟨j + 1, s1, _, by omega, by go_num, gdm, nXD, Xx15, ⟨HOK1.out, ⟨Tx15.lt, Nat.lt_of_lt_of_le hdlt Gx15.size⟩, a, c, ⟨Tx15, Ex15, hne⟩, hdl⟩, bx15⟩, by simp [intOf]; omega⟩

      · have ik : ¬ (j : Int) < (N : Int) := by omega
        have ik' : decide ((j : Int) < (N : Int)) = false := by simpa using ik
        obtain ⟨a, c, DO, hdl⟩ := Dr.ex
        have Tr := DO.tab
        have Er := DO.row
        go_wp2_with fail
        obtain ⟨Wdq16, hWdq16⟩ : ∃ W, Wr.drew = W := ⟨_, rfl⟩
        have Xdq16 := hWdq16 ▸ Xr.drew
        have Tdq16 := hWdq16 ▸ Tr.drew
        have Edq16 := hWdq16 ▸ Er.drew
        have bdq16 := hWdq16 ▸ br.drew
        refine wp_region_noPanic ?_
        refine wp_region_held_drew (S := fun w' => TabX w' tb mb s ∧ Blk w' rb 55 #[.int .i64 s.most, .int .i64 s.now, .slice a s.L.length c] ∧ RowG w' a c s.L) (by kernel_rfl) (by rw [hWdq16]; exact ⟨Xdq16, Tdq16, Edq16⟩) (fun hHeld => ?_)
        rw [hWdq16] at hHeld ⊢
        refine qtk (i := 0) (oi := { dst := some 63, op := Op.move (.tmp 5), type := 50, pos := "law.go:76", after := #[], guard := none }) (v := (.pointer (some ⟨tb, 0, none⟩))) hHeld ?_ ?_
        · intro w9 hSw
          try dsimp only at hSw
          go_simp
        try simp only [qpu]
        refine qtk (i := 2) (oi := { dst := some 65, op := Op.fieldAddr 55 (.tmp 7) 2, type := 0, pos := "law.go:76", after := #[], guard := none }) (v := (.pointer (some ⟨rb, 2, none⟩))) hHeld ?_ ?_
        · intro w9 hSw
          try dsimp only at hSw
          go_simp
        try simp only [qpu]
        refine qtk (i := 3) (oi := { dst := some 66, op := Op.load 53 (.tmp 65), type := 53, pos := "law.go:76", after := #[{ on := 2, ground := Ground.data }], guard := none }) (v := (.slice a s.L.length c)) hHeld ?_ ?_
        · intro w9 hSw
          try dsimp only at hSw
          have hcc := hSw.2.1.cell 2 (.slice a s.L.length c) rfl
          go_simp
        try simp only [qpu]
        refine wpAnyH_ready (rs := [1]) (by kernel_rfl) (by simp) ?_
        refine AllReadyH.cons (o := { dst := some 64, op := Op.call { callee := Callee.value (.func 23), args := #[.tmp 63], argTypes := #[50] }, type := 53, pos := "law.go:76", after := #[{ on := 0, ground := Ground.data }], guard := none }) rfl (fun K hK => ?_) AllReadyH.nil
        go_simp
        refine Calls.mono (allX tb mb s _ Xdq16) ?_
        rintro e Wx17 ⟨aa, ca, rfl, OAx17, bb⟩
        have Xx17 := Xdq16.kept bb
        have Tx17 := Tdq16.kept bb
        have Ex17 := Edq16.kept bb
        have bx17 := bel_tr bdq16 bb
        clear bb
        have HRW : Hid (RowL Wx17 aa s.L) := OAx17.row (fun _ _ => trivial)
        have Qx17 : But (fun _ => False) Wx17 Wx17 := But.refl _ _
        clear OAx17
        refine hK.out _ _ (by exact ⟨Xx17, Tx17, Ex17⟩) (fun hHeld => ?_)
        clear hK K
        try simp only [qpu]
        refine wpAnyH_ready (rs := [4]) (by kernel_rfl) (by simp) ?_
        refine AllReadyH.cons (o := { dst := some 67, op := Op.call { callee := Callee.value (.func 22), args := #[.tmp 64, .tmp 66], argTypes := #[53, 53] }, type := 4, pos := "law.go:76", after := #[{ on := 1, ground := Ground.data }, { on := 3, ground := Ground.data }, { on := 1, ground := Ground.chain }], guard := none }) rfl (fun K hK => ?_) AllReadyH.nil
        go_simp
        refine Calls.mono (same_fy _ _ _ _ s.L _ (HRW.out.low (Qx17.to_below (Nat.le_refl _) (fun _ _ x => x))) Ex17.row (by omega)) ?_
        rintro e Wx18 ⟨rfl, bb⟩
        have Xx18 := Xx17.kept bb
        have Tx18 := Tx17.kept bb
        have Ex18 := Ex17.kept bb
        have Qx18 := Qx17.kept bb
        have bx18 := bel_tr bx17 bb
        clear bb
        refine hK.out _ _ (by exact ⟨Xx18, Tx18, Ex18⟩) (fun hHeld => ?_)
        clear hK K
        try simp only [qpu]
        refine qtk (i := 5) (oi := { dst := some 4, op := Op.assign (.tmp 67), type := 4, pos := "law.go:76", after := #[{ on := 4, ground := Ground.data }, { on := 4, ground := Ground.chain }, { on := 0, ground := Ground.phase }, { on := 1, ground := Ground.phase }, { on := 2, ground := Ground.phase }, { on := 3, ground := Ground.phase }, { on := 4, ground := Ground.phase }], guard := none }) (v := (.bool true)) hHeld ?_ ?_
        · intro w9 hSw
          try dsimp only at hSw
          go_simp
        try simp only [qpu]
        refine wpAnyH_done (by kernel_rfl) ?_ _
        refine NoPanic.normal ?_
        go_wp2_with fail
        go_ret
        exact ⟨rfl, bx18⟩

  | false =>
    have hcn : ¬ (0 ≤ m ∧ m ≤ 256) := fun h => by rw [cap_iffF.2 h] at hc; cases hc
    go_enter Try.func5, Try.ntmps5
    go_wp2_with fail
    refine Calls.mono (new_n_fw m hcn _) ?_
    rintro e Wm19 ⟨rfl, bb⟩
    have bm19 := bel_tr b bb
    clear bb
    go_wp2_with fail
    refine Calls.mono (rnewN_fy m _ hc) ?_
    rintro e Wm20 ⟨rfl, bb⟩
    have bm20 := bel_tr bm19 bb
    clear bb
    clear  bm19
    obtain ⟨Wm21, hWm21⟩ : ∃ W, Wm20.alloc (.cells #[.int .i64 0, .int .i64 0, .slice none 0 0] 55) = W := ⟨_, rfl⟩
    have bm21 := bel_al bm20 hWm21
    have Am21 := blk_nw hWm21
    have gA : w.heap.size ≤ Wm20.heap.size := bm20.size
    obtain ⟨Wm22, hWm22⟩ : ∃ W, Wm21.setRow Wm20.heap.size #[.int .i64 0, .int .i64 0, .slice none 0 0] = W := ⟨_, rfl⟩
    have Am22 : Blk Wm22 Wm20.heap.size 55 #[.int .i64 0, .int .i64 0, .slice none 0 0] := hWm22 ▸ Am21.set #[.int .i64 0, .int .i64 0, .slice none 0 0]
    have bm22 := hWm22 ▸ below_setRow bm21 gA #[.int .i64 0, .int .i64 0, .slice none 0 0]
    go_wp2_with (refine wpList_store_row rfl _ _ _ rfl Wm20.heap.size #[.int .i64 0, .int .i64 0, .slice none 0 0] (by rfl) (by rfl) _ _ Am21 (by kernel_rfl) (by rfl) (by kernel_rfl) ?_; rw [hWm22])
    refine Calls.mono (alive_fw _) ?_
    rintro e Wm23 ⟨rfl, bb⟩
    have Am23 := Am22.kept bb
    have bm23 := bel_tr bm22 bb
    clear bb
    clear Am22 bm22
    go_wp2_with fail
    go_ret
    exact ⟨rfl, bm23⟩
end Go.Proofs.Ytmjjdbkipagkbaa
