/- Texts joined: FyD -/
import Derived.Test.YtmjjdbkipagkbaaFyp34
namespace Go.Proofs.Ytmjjdbkipagkbaa
abbrev fyp35o0 : Oper := { dst := none, op := Op.store 53 (.tmp 34) (.tmp 32), type := 0, pos := "ref.go:193", after := #[{ on := 17, ground := Ground.data }, { on := 15, ground := Ground.data }, { on := 15, ground := Ground.chain }, { on := 0, ground := Ground.phase }, { on := 1, ground := Ground.phase }, { on := 2, ground := Ground.phase }, { on := 3, ground := Ground.phase }, { on := 4, ground := Ground.phase }, { on := 5, ground := Ground.phase }, { on := 6, ground := Ground.phase }, { on := 7, ground := Ground.phase }, { on := 8, ground := Ground.phase }, { on := 9, ground := Ground.phase }, { on := 10, ground := Ground.phase }, { on := 11, ground := Ground.phase }, { on := 12, ground := Ground.phase }, { on := 13, ground := Ground.phase }, { on := 14, ground := Ground.phase }, { on := 15, ground := Ground.phase }], guard := none }
abbrev fyp35o1 : Oper := { dst := some 34, op := Op.fieldAddr 55 (.tmp 33) 2, type := 0, pos := "ref.go:193", after := #[{ on := 16, ground := Ground.data }, { on := 0, ground := Ground.phase }, { on := 1, ground := Ground.phase }, { on := 2, ground := Ground.phase }, { on := 3, ground := Ground.phase }, { on := 4, ground := Ground.phase }, { on := 5, ground := Ground.phase }, { on := 6, ground := Ground.phase }, { on := 7, ground := Ground.phase }, { on := 8, ground := Ground.phase }, { on := 9, ground := Ground.phase }, { on := 10, ground := Ground.phase }, { on := 11, ground := Ground.phase }, { on := 12, ground := Ground.phase }, { on := 13, ground := Ground.phase }, { on := 14, ground := Ground.phase }, { on := 15, ground := Ground.phase }], guard := none }
abbrev fyp35o2 : Oper := { dst := some 33, op := Op.nilCheck (.tmp 17), type := 0, pos := "ref.go:193", after := #[{ on := 0, ground := Ground.data }, { on := 0, ground := Ground.phase }, { on := 1, ground := Ground.phase }, { on := 2, ground := Ground.phase }, { on := 3, ground := Ground.phase }, { on := 4, ground := Ground.phase }, { on := 5, ground := Ground.phase }, { on := 6, ground := Ground.phase }, { on := 7, ground := Ground.phase }, { on := 8, ground := Ground.phase }, { on := 9, ground := Ground.phase }, { on := 10, ground := Ground.phase }, { on := 11, ground := Ground.phase }, { on := 12, ground := Ground.phase }, { on := 13, ground := Ground.phase }, { on := 14, ground := Ground.phase }, { on := 15, ground := Ground.phase }], guard := none }
abbrev fyp35o3 : Oper := { dst := some 32, op := Op.call { callee := Callee.builtin Builtin.append, args := #[.tmp 24, .tmp 31], argTypes := #[53, 53] }, type := 53, pos := "ref.go:193", after := #[{ on := 7, ground := Ground.data }, { on := 14, ground := Ground.data }, { on := 7, ground := Ground.chain }], guard := none }
abbrev fyp35o4 : Oper := { dst := some 24, op := Op.call { callee := Callee.builtin Builtin.append, args := #[.const (Value.slice none 0 0), .tmp 23], argTypes := #[53, 53] }, type := 53, pos := "ref.go:193", after := #[{ on := 6, ground := Ground.data }], guard := none }
abbrev fyp35o5 : Oper := { dst := some 31, op := Op.slice 53 (.tmp 28) (some (.tmp 30)) none none, type := 53, pos := "ref.go:193", after := #[{ on := 11, ground := Ground.data }, { on := 13, ground := Ground.data }], guard := none }
abbrev fyp35o6 : Oper := { dst := some 28, op := Op.load 53 (.tmp 27), type := 53, pos := "ref.go:193", after := #[{ on := 10, ground := Ground.data }], guard := none }
abbrev fyp35o7 : Oper := { dst := some 23, op := Op.slice 53 (.tmp 21) none (some (.tmp 22)) none, type := 53, pos := "ref.go:193", after := #[{ on := 4, ground := Ground.data }, { on := 5, ground := Ground.data }], guard := none }
abbrev fyp35o8 : Oper := { dst := some 21, op := Op.load 53 (.tmp 20), type := 53, pos := "ref.go:193", after := #[{ on := 3, ground := Ground.data }], guard := none }
abbrev fyp35o9 : Oper := { dst := some 30, op := Op.binOp BinOp.add 3 (.tmp 29) (.const (.int .i64 1)) 3, type := 3, pos := "ref.go:193", after := #[{ on := 12, ground := Ground.data }], guard := none }
abbrev fyp35o10 : Oper := { dst := some 20, op := Op.fieldAddr 55 (.tmp 19) 2, type := 0, pos := "ref.go:193", after := #[{ on := 2, ground := Ground.data }], guard := none }
abbrev fyp35o11 : Oper := { dst := some 27, op := Op.fieldAddr 55 (.tmp 26) 2, type := 0, pos := "ref.go:193", after := #[{ on := 9, ground := Ground.data }], guard := none }
abbrev fyp35o12 : Oper := { dst := some 19, op := Op.nilCheck (.tmp 18), type := 0, pos := "ref.go:193", after := #[{ on := 1, ground := Ground.data }], guard := none }
abbrev fyp35o13 : Oper := { dst := some 26, op := Op.nilCheck (.tmp 25), type := 0, pos := "ref.go:193", after := #[{ on := 8, ground := Ground.data }], guard := none }
abbrev fyp35o14 : Oper := { dst := some 17, op := Op.move (.tmp 0), type := 61, pos := "ref.go:193", after := #[], guard := none }
abbrev fyp35o15 : Oper := { dst := some 18, op := Op.move (.tmp 0), type := 61, pos := "ref.go:193", after := #[], guard := none }
abbrev fyp35o16 : Oper := { dst := some 25, op := Op.move (.tmp 0), type := 61, pos := "ref.go:193", after := #[], guard := none }
abbrev fyp35o17 : Oper := { dst := some 22, op := Op.move (.tmp 5), type := 3, pos := "ref.go:193", after := #[], guard := none }
abbrev fyp35o18 : Oper := { dst := some 29, op := Op.move (.tmp 5), type := 3, pos := "ref.go:193", after := #[], guard := none }
end Go.Proofs.Ytmjjdbkipagkbaa
namespace Go.Proofs.Ytmjjdbkipagkbaa
open Go.RowKit
set_option linter.unusedVariables false
set_option linter.unusedSimpArgs false
set_option maxRecDepth 100000 in
set_option maxHeartbeats 16000000 in
theorem rdrop1_fy (rb : Nat) (s : Ft) (a : Option Addr) (c : Nat) (q : Wy) (k : Nat) (x : Fl) (w : World) (hll : s.L.length ≤ 100000) (H : DocF w rb s a c) (hok : FtOk s) (hp : plc q s.L = (k : Int)) (hx : s.L[k]? = some x) (ha : atF q s.L = some x) :
    Calls Try.prog 48 #[.pointer (some ⟨rb, 0, none⟩), .agg q.v] w fun e w' => e = .returned (.bool (s.drop q).2) ∧ DocNF w.heap.size a w' rb (s.drop q).1 ∧ But (fun k => k = rb) w w' := by
  have ik0 : (0 : Int) ≤ (k : Int) := by omega
  have ik0' : decide ((0 : Int) ≤ (k : Int)) = true := by simp
  have ik3 : decide ((k : Int) < 0) = false := by simp
  have HX : Hid (s.L[k]? = some x) := hx
  have hlt : k < s.L.length := (List.getElem?_eq_some_iff.1 hx).1
  have ikl : (k : Int) < (s.L.length : Int) := by omega
  have hltk : (s.L.take k).length = k := by rw [List.length_take]; omega
  have hldk : (s.L.drop (k + 1)).length = s.L.length - (k + 1) := List.length_drop
  have hkc : k ≤ c := by have := H.row.le; omega
  have hk1 : ((k + 1 : Nat) : Int) = (k : Int) + 1 := by omega
  obtain ⟨p2, off2, rfl, hcells⟩ := H.row.row.cells k x hx
  clear hx hcells
  have HA : Hid _ := ha
  clear ha
  have HOK : Hid (FtOk s) := hok
  clear hok
  have T := H.tab
  have E := H.row
  have hne := H.ne
  have hgl := T.lt
  have hal := E.lt
  have nET : ∀ y : Addr, (some ⟨p2, off2, none⟩) = some y → y.block ≠ rb := hne
  clear H
  obtain ⟨R, hR⟩ : ∃ R, s.drop q = R := ⟨_, rfl⟩
  have HR : Hid (s.drop q = R) := hR
  try rw [hR]
  clear hR
  have b := But.refl (fun k => k = rb) w
  go_enter Try.func48, Try.ntmps48
  obtain ⟨Wm1, hWm1⟩ : ∃ W, w.alloc (.cells q.v 26) = W := ⟨_, rfl⟩
  have bm1 := but_al b hWm1
  have Tm1 := T.al hWm1
  have Em1 := E.al hWm1
  have Am1 := blk_nw hWm1
  have gA : (fun k => k = rb) w.heap.size ∨ w.heap.size ≤ w.heap.size := .inr b.size
  have nTA : rb ≠ w.heap.size := by have := T.lt; omega
  have nAT : w.heap.size ≠ rb := fun e => nTA e.symm
  have nEA : ∀ y : Addr, (some ⟨p2, off2, none⟩) = some y → y.block ≠ w.heap.size := fun y hy => by have := E.lt y hy; omega
  go_wp2_with (refine wpList_load_blk_w (by rfl) _ _ rfl w.heap.size (by rfl) _ Am1 Try.underlying26 (by kernel_rfl) ?_)
  refine Calls.mono (rplace_fy rb s (some ⟨p2, off2, none⟩) c q _ hll Tm1 Em1) ?_
  rintro e Wm2 ⟨rfl, bb⟩
  have Tm2 := Tm1.kept bb
  have Em2 := Em1.kept bb
  have Am2 := Am1.kept bb
  have bm2 := bm1.below bb
  clear bb
  rw [hp]
  clear Tm1 Em1 Am1 bm1
  go_wp2_with fail
  obtain ⟨Wdq3, hWdq3⟩ : ∃ W, Wm2.drew = W := ⟨_, rfl⟩
  have Tdq3 := hWdq3 ▸ Tm2.drew
  have Edq3 := hWdq3 ▸ Em2.drew
  have Adq3 := hWdq3 ▸ Am2.drew
  have bdq3 := hWdq3 ▸ bm2.drew
  refine wp_region_noPanic ?_
  refine wp_region_held_drew (S := fun w' => RowG w' (some ⟨p2, off2, none⟩) c s.L ∧ Blk w' w.heap.size 26 q.v) (by kernel_rfl) (by rw [hWdq3]; exact ⟨Edq3, Adq3⟩) (fun hHeld => ?_)
  rw [hWdq3] at hHeld ⊢
  refine qtk (i := 0) (oi := fyp35o14) (v := (.pointer (some ⟨rb, 0, none⟩))) hHeld ?_ ?_
  · intro w9 hSw
    try dsimp only at hSw
    go_simp
  try simp only [qpu]
  refine qtk (i := 1) (oi := fyp35o15) (v := (.pointer (some ⟨rb, 0, none⟩))) hHeld ?_ ?_
  · intro w9 hSw
    try dsimp only at hSw
    go_simp
  try simp only [qpu]
  refine qtk (i := 2) (oi := fyp35o12) (v := (.pointer (some ⟨rb, 0, none⟩))) hHeld ?_ ?_
  · intro w9 hSw
    try dsimp only at hSw
    go_simp
  try simp only [qpu]
  refine qtk (i := 3) (oi := fyp35o10) (v := (.pointer (some ⟨rb, 2, none⟩))) hHeld ?_ ?_
  · intro w9 hSw
    try dsimp only at hSw
    go_simp
  try simp only [qpu]
  refine qtk (i := 5) (oi := fyp35o17) (v := (.int .i64 (k : Int))) hHeld ?_ ?_
  · intro w9 hSw
    try dsimp only at hSw
    go_simp
  try simp only [qpu]
  refine qtk (i := 8) (oi := fyp35o16) (v := (.pointer (some ⟨rb, 0, none⟩))) hHeld ?_ ?_
  · intro w9 hSw
    try dsimp only at hSw
    go_simp
  try simp only [qpu]
  refine qtk (i := 9) (oi := fyp35o13) (v := (.pointer (some ⟨rb, 0, none⟩))) hHeld ?_ ?_
  · intro w9 hSw
    try dsimp only at hSw
    go_simp
  try simp only [qpu]
  refine qtk (i := 10) (oi := fyp35o11) (v := (.pointer (some ⟨rb, 2, none⟩))) hHeld ?_ ?_
  · intro w9 hSw
    try dsimp only at hSw
    go_simp
  try simp only [qpu]
  refine qtk (i := 12) (oi := fyp35o18) (v := (.int .i64 (k : Int))) hHeld ?_ ?_
  · intro w9 hSw
    try dsimp only at hSw
    go_simp
  try simp only [qpu]
  refine qtk (i := 13) (oi := fyp35o9) (v := (.int .i64 ((k : Int) + 1))) hHeld ?_ ?_
  · intro w9 hSw
    try dsimp only at hSw
    go_simp
    try decide
    try (rw [IntKind.wrap_i64]; omega)
  try simp only [qpu]
  refine wpAnyH_ready (rs := [4, 11]) (by kernel_rfl) (by simp) ?_
  refine AllReadyH.cons (o := fyp35o8) rfl (fun K hK => ?_) (AllReadyH.cons (o := fyp35o6) rfl (fun K hK => ?_) AllReadyH.nil)
  · have cld := Tdq3.cell 2 (.slice (some ⟨p2, off2, none⟩) s.L.length c) rfl
    go_simp
    clear cld
    refine hK.out _ _ (by exact ⟨Edq3, Adq3⟩) (fun hHeld => ?_)
    clear hK K
    try simp only [qpu]
    refine qty (i := 6) (oi := fyp35o7) (v := (.slice (some ⟨p2, off2, none⟩) k c)) (yieldsIf_slice rfl _ _ _ _ _ rfl _ _ _ _ (by rfl) (by rfl) (by rfl) (by rfl) _ (run_upto p2 off2 s.L.length c k hkc)) hHeld ?_
    try simp only [qpu]
    refine wpAnyH_ready (rs := [7, 11]) (by kernel_rfl) (by simp) ?_
    refine AllReadyH.cons (o := fyp35o4) rfl (fun K hK => ?_) (AllReadyH.cons (o := fyp35o6) rfl (fun K hK => ?_) AllReadyH.nil)
    · obtain ⟨a8, c8, Wp4, hrun, Op4, gr⟩ := run_appLs Wdq3 53 Wdq3.heap.size none 0 [] (own_noneL _ _) (some ⟨p2, off2, none⟩) c (s.L.take k) (Edq3.take k) (by simp; omega) (Nat.le_refl _)
      have hl0 : ([] ++ s.L.take k).length = k := by simpa using hltk
      rw [hl0] at hrun
      try rw [hltk] at hrun
      refine step_rnL rfl _ _ _ rfl _ _ (by rfl) (by rfl) _ _ hrun ?_
      have bg : But (fun _ => False) Wdq3 Wp4 := (But.refl _ _).grown gr (fun n hn => by cases hn)
      have bp4 := bdq3.trans bg (fun n _ e => e.elim)
      obtain ⟨B8, hB8⟩ : ∃ B, Wdq3.heap.size = B := ⟨_, rfl⟩
      rw [hB8] at Op4
      have hw8 : w.heap.size ≤ B8 := by rw [← hB8]; exact bdq3.size
      have hlE : ∀ y : Addr, (some ⟨p2, off2, none⟩) = some y → y.block < B8 := by rw [← hB8]; exact Edq3.lt
      have Ep4 := Edq3.but bg (fun _ _ h => h)
      have hlA : w.heap.size < B8 := by rw [← hB8]; exact Adq3.lt
      have Ap4 := Adq3.but bg (fun h => h)
      have hlT : rb < B8 := by rw [← hB8]; exact Tdq3.lt
      have Tp4 := Tdq3.but bg (fun h => h)
      have hsz8 : B8 ≤ Wp4.heap.size := by rw [← hB8]; exact bg.size
      clear hrun gr bg hB8
      refine hK.out _ _ (by exact ⟨Ep4, Ap4⟩) (fun hHeld => ?_)
      clear hK K
      try simp only [qpu]
      refine wpAnyH_ready (rs := [11]) (by kernel_rfl) (by simp) ?_
      refine AllReadyH.cons (o := fyp35o6) rfl (fun K hK => ?_) AllReadyH.nil
      have cld := Tp4.cell 2 (.slice (some ⟨p2, off2, none⟩) s.L.length c) rfl
      go_simp
      clear cld
      refine hK.out _ _ (by exact ⟨Ep4, Ap4⟩) (fun hHeld => ?_)
      clear hK K
      try simp only [qpu]
      refine qty (i := 14) (oi := fyp35o5) (v := (.slice (subP p2 off2 c (k + 1)) (s.L.length - (k + 1)) (c - (k + 1)))) (yieldsIf_slice rfl _ _ _ _ _ rfl _ _ _ _ (by rfl) (by rfl) (by rfl) (by rfl) _ (run_from p2 off2 s.L.length c (k + 1) ((k : Int) + 1) (by omega) hlt)) hHeld ?_
      try simp only [qpu]
      refine wpAnyH_ready (rs := [15]) (by kernel_rfl) (by simp) ?_
      refine AllReadyH.cons (o := fyp35o3) rfl (fun K hK => ?_) AllReadyH.nil
      obtain ⟨a9, c9, Wp5, hrun, Op5, gr⟩ := run_appLs Wp4 53 B8 a8 c8 ([] ++ s.L.take k) Op4 (subP p2 off2 c (k + 1)) (c - (k + 1)) (s.L.drop (k + 1)) (Ep4.from_ (k + 1) hlt) (by simp; omega) hsz8
      rw [hl0, hldk] at hrun
      refine step_rnL rfl _ _ _ rfl _ _ (by rfl) (by rfl) _ _ hrun ?_
      have bg : But (fun k => a8.map (·.block) = some k) Wp4 Wp5 := (But.refl _ _).grown gr (fun n hn => .inl hn)
      have hga : ∀ y, a9 = some y → B8 ≤ y.block := Op5.lt
      have bp5 : But (fun k => k = rb) w Wp5 := bp4.trans bg (fun n hn e => absurd e (map_geL Op4.lt (Nat.lt_of_lt_of_le hn hw8)))
      have Ep5 := Ep4.but bg (fun y hy => map_geL Op4.lt (hlE y hy))
      have Ap5 := Ap4.but bg (map_geL Op4.lt hlA)
      have nOA : ∀ y : Addr, a9 = some y → y.block ≠ w.heap.size := fun y hy => by have := hga y hy; have := hlA; omega
      have Tp5 := Tp4.but bg (map_geL Op4.lt hlT)
      have nOT : ∀ y : Addr, a9 = some y → y.block ≠ rb := fun y hy => by have := hga y hy; have := hlT; omega
      clear hrun gr bg
      refine hK.out _ _ (by exact ⟨Ep5, Ap5⟩) (fun hHeld => ?_)
      clear hK K
      try simp only [qpu]
      refine qtk (i := 16) (oi := fyp35o2) (v := (.pointer (some ⟨rb, 0, none⟩))) hHeld ?_ ?_
      · intro w9 hSw
        try dsimp only at hSw
        go_simp
      try simp only [qpu]
      refine qtk (i := 17) (oi := fyp35o1) (v := (.pointer (some ⟨rb, 2, none⟩))) hHeld ?_ ?_
      · intro w9 hSw
        try dsimp only at hSw
        go_simp
      try simp only [qpu]
      refine wpAnyH_ready (rs := [18]) (by kernel_rfl) (by simp) ?_
      refine AllReadyH.cons (o := fyp35o0) rfl (fun K hK => ?_) AllReadyH.nil
      refine step_store_one rfl _ _ _ rfl rb 2 _ (.slice a9 ([] ++ s.L.take k ++ s.L.drop (k + 1)).length c9) #[.int .i64 s.most, .int .i64 s.now, .slice (some ⟨p2, off2, none⟩) s.L.length c] #[.int .i64 s.most, .int .i64 s.now, .slice a9 ([] ++ s.L.take k ++ s.L.drop (k + 1)).length c9] (by rfl) (by rfl) rfl rfl Tp5 (by kernel_rfl) (by simp) (by rfl) ?_
      obtain ⟨Wx6, hWx6⟩ : ∃ W, Wp5.setRow rb #[.int .i64 s.most, .int .i64 s.now, .slice a9 ([] ++ s.L.take k ++ s.L.drop (k + 1)).length c9] = W := ⟨_, rfl⟩
      rw [hWx6]
      have Tx6 : Blk Wx6 rb 55 #[.int .i64 s.most, .int .i64 s.now, .slice a9 ([] ++ s.L.take k ++ s.L.drop (k + 1)).length c9] := hWx6 ▸ Tp5.set #[.int .i64 s.most, .int .i64 s.now, .slice a9 ([] ++ s.L.take k ++ s.L.drop (k + 1)).length c9]
      have Ex6 := hWx6 ▸ Ep5.other nET #[.int .i64 s.most, .int .i64 s.now, .slice a9 ([] ++ s.L.take k ++ s.L.drop (k + 1)).length c9]
      have Ax6 := hWx6 ▸ Ap5.other nAT #[.int .i64 s.most, .int .i64 s.now, .slice a9 ([] ++ s.L.take k ++ s.L.drop (k + 1)).length c9]
      have Ox6 := hWx6 ▸ Op5.other (fun y hy => by have := Op5.lt y hy; have := hlT; omega) #[.int .i64 s.most, .int .i64 s.now, .slice a9 ([] ++ s.L.take k ++ s.L.drop (k + 1)).length c9]
      have bx6 := hWx6 ▸ bp5.setRow rb (.inl rfl) #[.int .i64 s.most, .int .i64 s.now, .slice a9 ([] ++ s.L.take k ++ s.L.drop (k + 1)).length c9]
      refine hK.out _ _ (by exact ⟨Ex6, Ax6⟩) (fun hHeld => ?_)
      clear hK K
      try simp only [qpu]
      refine wpAnyH_done (by kernel_rfl) ?_ _
      refine NoPanic.normal ?_
      go_wp2_with fail
      have hR2 : R = (((⟨s.most, s.now, s.L.take k ++ s.L.drop (k + 1)⟩, true) : Ft × Bool)) := by rw [← HR.out]; exact drop_one HOK.out HA.out HX.out
      subst hR2
      go_ret
      exact ⟨rfl, ⟨a9, c9, ⟨Tx6, Ox6.toE, (fun y hy => by have := hga y hy; have := hlT; omega)⟩, (fun y hy => .inr (Nat.le_trans hw8 (hga y hy)))⟩, bx6⟩
    · have cld := Tdq3.cell 2 (.slice (some ⟨p2, off2, none⟩) s.L.length c) rfl
      go_simp
      clear cld
      refine hK.out _ _ (by exact ⟨Edq3, Adq3⟩) (fun hHeld => ?_)
      clear hK K
      try simp only [qpu]
      refine qty (i := 14) (oi := fyp35o5) (v := (.slice (subP p2 off2 c (k + 1)) (s.L.length - (k + 1)) (c - (k + 1)))) (yieldsIf_slice rfl _ _ _ _ _ rfl _ _ _ _ (by rfl) (by rfl) (by rfl) (by rfl) _ (run_from p2 off2 s.L.length c (k + 1) ((k : Int) + 1) (by omega) hlt)) hHeld ?_
      try simp only [qpu]
      refine wpAnyH_ready (rs := [7]) (by kernel_rfl) (by simp) ?_
      refine AllReadyH.cons (o := fyp35o4) rfl (fun K hK => ?_) AllReadyH.nil
      obtain ⟨a8, c8, Wp7, hrun, Op7, gr⟩ := run_appLs Wdq3 53 Wdq3.heap.size none 0 [] (own_noneL _ _) (some ⟨p2, off2, none⟩) c (s.L.take k) (Edq3.take k) (by simp; omega) (Nat.le_refl _)
      have hl0 : ([] ++ s.L.take k).length = k := by simpa using hltk
      rw [hl0] at hrun
      try rw [hltk] at hrun
      refine step_rnL rfl _ _ _ rfl _ _ (by rfl) (by rfl) _ _ hrun ?_
      have bg : But (fun _ => False) Wdq3 Wp7 := (But.refl _ _).grown gr (fun n hn => by cases hn)
      have bp7 := bdq3.trans bg (fun n _ e => e.elim)
      obtain ⟨B8, hB8⟩ : ∃ B, Wdq3.heap.size = B := ⟨_, rfl⟩
      rw [hB8] at Op7
      have hw8 : w.heap.size ≤ B8 := by rw [← hB8]; exact bdq3.size
      have hlE : ∀ y : Addr, (some ⟨p2, off2, none⟩) = some y → y.block < B8 := by rw [← hB8]; exact Edq3.lt
      have Ep7 := Edq3.but bg (fun _ _ h => h)
      have hlA : w.heap.size < B8 := by rw [← hB8]; exact Adq3.lt
      have Ap7 := Adq3.but bg (fun h => h)
      have hlT : rb < B8 := by rw [← hB8]; exact Tdq3.lt
      have Tp7 := Tdq3.but bg (fun h => h)
      have hsz8 : B8 ≤ Wp7.heap.size := by rw [← hB8]; exact bg.size
      clear hrun gr bg hB8
      refine hK.out _ _ (by exact ⟨Ep7, Ap7⟩) (fun hHeld => ?_)
      clear hK K
      try simp only [qpu]
      refine wpAnyH_ready (rs := [15]) (by kernel_rfl) (by simp) ?_
      refine AllReadyH.cons (o := fyp35o3) rfl (fun K hK => ?_) AllReadyH.nil
      obtain ⟨a9, c9, Wp8, hrun, Op8, gr⟩ := run_appLs Wp7 53 B8 a8 c8 ([] ++ s.L.take k) Op7 (subP p2 off2 c (k + 1)) (c - (k + 1)) (s.L.drop (k + 1)) (Ep7.from_ (k + 1) hlt) (by simp; omega) hsz8
      rw [hl0, hldk] at hrun
      refine step_rnL rfl _ _ _ rfl _ _ (by rfl) (by rfl) _ _ hrun ?_
      have bg : But (fun k => a8.map (·.block) = some k) Wp7 Wp8 := (But.refl _ _).grown gr (fun n hn => .inl hn)
      have hga : ∀ y, a9 = some y → B8 ≤ y.block := Op8.lt
      have bp8 : But (fun k => k = rb) w Wp8 := bp7.trans bg (fun n hn e => absurd e (map_geL Op7.lt (Nat.lt_of_lt_of_le hn hw8)))
      have Ep8 := Ep7.but bg (fun y hy => map_geL Op7.lt (hlE y hy))
      have Ap8 := Ap7.but bg (map_geL Op7.lt hlA)
      have nOA : ∀ y : Addr, a9 = some y → y.block ≠ w.heap.size := fun y hy => by have := hga y hy; have := hlA; omega
      have Tp8 := Tp7.but bg (map_geL Op7.lt hlT)
      have nOT : ∀ y : Addr, a9 = some y → y.block ≠ rb := fun y hy => by have := hga y hy; have := hlT; omega
      clear hrun gr bg
      refine hK.out _ _ (by exact ⟨Ep8, Ap8⟩) (fun hHeld => ?_)
      clear hK K
      try simp only [qpu]
      refine qtk (i := 16) (oi := fyp35o2) (v := (.pointer (some ⟨rb, 0, none⟩))) hHeld ?_ ?_
      · intro w9 hSw
        try dsimp only at hSw
        go_simp
      try simp only [qpu]
      refine qtk (i := 17) (oi := fyp35o1) (v := (.pointer (some ⟨rb, 2, none⟩))) hHeld ?_ ?_
      · intro w9 hSw
        try dsimp only at hSw
        go_simp
      try simp only [qpu]
      refine wpAnyH_ready (rs := [18]) (by kernel_rfl) (by simp) ?_
      refine AllReadyH.cons (o := fyp35o0) rfl (fun K hK => ?_) AllReadyH.nil
      refine step_store_one rfl _ _ _ rfl rb 2 _ (.slice a9 ([] ++ s.L.take k ++ s.L.drop (k + 1)).length c9) #[.int .i64 s.most, .int .i64 s.now, .slice (some ⟨p2, off2, none⟩) s.L.length c] #[.int .i64 s.most, .int .i64 s.now, .slice a9 ([] ++ s.L.take k ++ s.L.drop (k + 1)).length c9] (by rfl) (by rfl) rfl rfl Tp8 (by kernel_rfl) (by simp) (by rfl) ?_
      obtain ⟨Wx9, hWx9⟩ : ∃ W, Wp8.setRow rb #[.int .i64 s.most, .int .i64 s.now, .slice a9 ([] ++ s.L.take k ++ s.L.drop (k + 1)).length c9] = W := ⟨_, rfl⟩
      rw [hWx9]
      have Tx9 : Blk Wx9 rb 55 #[.int .i64 s.most, .int .i64 s.now, .slice a9 ([] ++ s.L.take k ++ s.L.drop (k + 1)).length c9] := hWx9 ▸ Tp8.set #[.int .i64 s.most, .int .i64 s.now, .slice a9 ([] ++ s.L.take k ++ s.L.drop (k + 1)).length c9]
      have Ex9 := hWx9 ▸ Ep8.other nET #[.int .i64 s.most, .int .i64 s.now, .slice a9 ([] ++ s.L.take k ++ s.L.drop (k + 1)).length c9]
      have Ax9 := hWx9 ▸ Ap8.other nAT #[.int .i64 s.most, .int .i64 s.now, .slice a9 ([] ++ s.L.take k ++ s.L.drop (k + 1)).length c9]
      have Ox9 := hWx9 ▸ Op8.other (fun y hy => by have := Op8.lt y hy; have := hlT; omega) #[.int .i64 s.most, .int .i64 s.now, .slice a9 ([] ++ s.L.take k ++ s.L.drop (k + 1)).length c9]
      have bx9 := hWx9 ▸ bp8.setRow rb (.inl rfl) #[.int .i64 s.most, .int .i64 s.now, .slice a9 ([] ++ s.L.take k ++ s.L.drop (k + 1)).length c9]
      refine hK.out _ _ (by exact ⟨Ex9, Ax9⟩) (fun hHeld => ?_)
      clear hK K
      try simp only [qpu]
      refine wpAnyH_done (by kernel_rfl) ?_ _
      refine NoPanic.normal ?_
      go_wp2_with fail
      have hR2 : R = (((⟨s.most, s.now, s.L.take k ++ s.L.drop (k + 1)⟩, true) : Ft × Bool)) := by rw [← HR.out]; exact drop_one HOK.out HA.out HX.out
      subst hR2
      go_ret
      exact ⟨rfl, ⟨a9, c9, ⟨Tx9, Ox9.toE, (fun y hy => by have := hga y hy; have := hlT; omega)⟩, (fun y hy => .inr (Nat.le_trans hw8 (hga y hy)))⟩, bx9⟩
  · have cld := Tdq3.cell 2 (.slice (some ⟨p2, off2, none⟩) s.L.length c) rfl
    go_simp
    clear cld
    refine hK.out _ _ (by exact ⟨Edq3, Adq3⟩) (fun hHeld => ?_)
    clear hK K
    try simp only [qpu]
    refine qty (i := 14) (oi := fyp35o5) (v := (.slice (subP p2 off2 c (k + 1)) (s.L.length - (k + 1)) (c - (k + 1)))) (yieldsIf_slice rfl _ _ _ _ _ rfl _ _ _ _ (by rfl) (by rfl) (by rfl) (by rfl) _ (run_from p2 off2 s.L.length c (k + 1) ((k : Int) + 1) (by omega) hlt)) hHeld ?_
    try simp only [qpu]
    refine wpAnyH_ready (rs := [4]) (by kernel_rfl) (by simp) ?_
    refine AllReadyH.cons (o := fyp35o8) rfl (fun K hK => ?_) AllReadyH.nil
    have cld := Tdq3.cell 2 (.slice (some ⟨p2, off2, none⟩) s.L.length c) rfl
    go_simp
    clear cld
    refine hK.out _ _ (by exact ⟨Edq3, Adq3⟩) (fun hHeld => ?_)
    clear hK K
    try simp only [qpu]
    refine qty (i := 6) (oi := fyp35o7) (v := (.slice (some ⟨p2, off2, none⟩) k c)) (yieldsIf_slice rfl _ _ _ _ _ rfl _ _ _ _ (by rfl) (by rfl) (by rfl) (by rfl) _ (run_upto p2 off2 s.L.length c k hkc)) hHeld ?_
    try simp only [qpu]
    refine wpAnyH_ready (rs := [7]) (by kernel_rfl) (by simp) ?_
    refine AllReadyH.cons (o := fyp35o4) rfl (fun K hK => ?_) AllReadyH.nil
    obtain ⟨a8, c8, Wp10, hrun, Op10, gr⟩ := run_appLs Wdq3 53 Wdq3.heap.size none 0 [] (own_noneL _ _) (some ⟨p2, off2, none⟩) c (s.L.take k) (Edq3.take k) (by simp; omega) (Nat.le_refl _)
    have hl0 : ([] ++ s.L.take k).length = k := by simpa using hltk
    rw [hl0] at hrun
    try rw [hltk] at hrun
    refine step_rnL rfl _ _ _ rfl _ _ (by rfl) (by rfl) _ _ hrun ?_
    have bg : But (fun _ => False) Wdq3 Wp10 := (But.refl _ _).grown gr (fun n hn => by cases hn)
    have bp10 := bdq3.trans bg (fun n _ e => e.elim)
    obtain ⟨B8, hB8⟩ : ∃ B, Wdq3.heap.size = B := ⟨_, rfl⟩
    rw [hB8] at Op10
    have hw8 : w.heap.size ≤ B8 := by rw [← hB8]; exact bdq3.size
    have hlE : ∀ y : Addr, (some ⟨p2, off2, none⟩) = some y → y.block < B8 := by rw [← hB8]; exact Edq3.lt
    have Ep10 := Edq3.but bg (fun _ _ h => h)
    have hlA : w.heap.size < B8 := by rw [← hB8]; exact Adq3.lt
    have Ap10 := Adq3.but bg (fun h => h)
    have hlT : rb < B8 := by rw [← hB8]; exact Tdq3.lt
    have Tp10 := Tdq3.but bg (fun h => h)
    have hsz8 : B8 ≤ Wp10.heap.size := by rw [← hB8]; exact bg.size
    clear hrun gr bg hB8
    refine hK.out _ _ (by exact ⟨Ep10, Ap10⟩) (fun hHeld => ?_)
    clear hK K
    try simp only [qpu]
    refine wpAnyH_ready (rs := [15]) (by kernel_rfl) (by simp) ?_
    refine AllReadyH.cons (o := fyp35o3) rfl (fun K hK => ?_) AllReadyH.nil
    obtain ⟨a9, c9, Wp11, hrun, Op11, gr⟩ := run_appLs Wp10 53 B8 a8 c8 ([] ++ s.L.take k) Op10 (subP p2 off2 c (k + 1)) (c - (k + 1)) (s.L.drop (k + 1)) (Ep10.from_ (k + 1) hlt) (by simp; omega) hsz8
    rw [hl0, hldk] at hrun
    refine step_rnL rfl _ _ _ rfl _ _ (by rfl) (by rfl) _ _ hrun ?_
    have bg : But (fun k => a8.map (·.block) = some k) Wp10 Wp11 := (But.refl _ _).grown gr (fun n hn => .inl hn)
    have hga : ∀ y, a9 = some y → B8 ≤ y.block := Op11.lt
    have bp11 : But (fun k => k = rb) w Wp11 := bp10.trans bg (fun n hn e => absurd e (map_geL Op10.lt (Nat.lt_of_lt_of_le hn hw8)))
    have Ep11 := Ep10.but bg (fun y hy => map_geL Op10.lt (hlE y hy))
    have Ap11 := Ap10.but bg (map_geL Op10.lt hlA)
    have nOA : ∀ y : Addr, a9 = some y → y.block ≠ w.heap.size := fun y hy => by have := hga y hy; have := hlA; omega
    have Tp11 := Tp10.but bg (map_geL Op10.lt hlT)
    have nOT : ∀ y : Addr, a9 = some y → y.block ≠ rb := fun y hy => by have := hga y hy; have := hlT; omega
    clear hrun gr bg
    refine hK.out _ _ (by exact ⟨Ep11, Ap11⟩) (fun hHeld => ?_)
    clear hK K
    try simp only [qpu]
    refine qtk (i := 16) (oi := fyp35o2) (v := (.pointer (some ⟨rb, 0, none⟩))) hHeld ?_ ?_
    · intro w9 hSw
      try dsimp only at hSw
      go_simp
    try simp only [qpu]
    refine qtk (i := 17) (oi := fyp35o1) (v := (.pointer (some ⟨rb, 2, none⟩))) hHeld ?_ ?_
    · intro w9 hSw
      try dsimp only at hSw
      go_simp
    try simp only [qpu]
    refine wpAnyH_ready (rs := [18]) (by kernel_rfl) (by simp) ?_
    refine AllReadyH.cons (o := fyp35o0) rfl (fun K hK => ?_) AllReadyH.nil
    refine step_store_one rfl _ _ _ rfl rb 2 _ (.slice a9 ([] ++ s.L.take k ++ s.L.drop (k + 1)).length c9) #[.int .i64 s.most, .int .i64 s.now, .slice (some ⟨p2, off2, none⟩) s.L.length c] #[.int .i64 s.most, .int .i64 s.now, .slice a9 ([] ++ s.L.take k ++ s.L.drop (k + 1)).length c9] (by rfl) (by rfl) rfl rfl Tp11 (by kernel_rfl) (by simp) (by rfl) ?_
    obtain ⟨Wx12, hWx12⟩ : ∃ W, Wp11.setRow rb #[.int .i64 s.most, .int .i64 s.now, .slice a9 ([] ++ s.L.take k ++ s.L.drop (k + 1)).length c9] = W := ⟨_, rfl⟩
    rw [hWx12]
    have Tx12 : Blk Wx12 rb 55 #[.int .i64 s.most, .int .i64 s.now, .slice a9 ([] ++ s.L.take k ++ s.L.drop (k + 1)).length c9] := hWx12 ▸ Tp11.set #[.int .i64 s.most, .int .i64 s.now, .slice a9 ([] ++ s.L.take k ++ s.L.drop (k + 1)).length c9]
    have Ex12 := hWx12 ▸ Ep11.other nET #[.int .i64 s.most, .int .i64 s.now, .slice a9 ([] ++ s.L.take k ++ s.L.drop (k + 1)).length c9]
    have Ax12 := hWx12 ▸ Ap11.other nAT #[.int .i64 s.most, .int .i64 s.now, .slice a9 ([] ++ s.L.take k ++ s.L.drop (k + 1)).length c9]
    have Ox12 := hWx12 ▸ Op11.other (fun y hy => by have := Op11.lt y hy; have := hlT; omega) #[.int .i64 s.most, .int .i64 s.now, .slice a9 ([] ++ s.L.take k ++ s.L.drop (k + 1)).length c9]
    have bx12 := hWx12 ▸ bp11.setRow rb (.inl rfl) #[.int .i64 s.most, .int .i64 s.now, .slice a9 ([] ++ s.L.take k ++ s.L.drop (k + 1)).length c9]
    refine hK.out _ _ (by exact ⟨Ex12, Ax12⟩) (fun hHeld => ?_)
    clear hK K
    try simp only [qpu]
    refine wpAnyH_done (by kernel_rfl) ?_ _
    refine NoPanic.normal ?_
    go_wp2_with fail
    have hR2 : R = (((⟨s.most, s.now, s.L.take k ++ s.L.drop (k + 1)⟩, true) : Ft × Bool)) := by rw [← HR.out]; exact drop_one HOK.out HA.out HX.out
    subst hR2
    go_ret
    exact ⟨rfl, ⟨a9, c9, ⟨Tx12, Ox12.toE, (fun y hy => by have := hga y hy; have := hlT; omega)⟩, (fun y hy => .inr (Nat.le_trans hw8 (hga y hy)))⟩, bx12⟩
set_option maxRecDepth 100000 in
set_option maxHeartbeats 16000000 in
theorem rdrop2_fy (rb : Nat) (s : Ft) (a : Option Addr) (c : Nat) (q : Wy) (k : Nat) (x : Fl) (w : World) (hll : s.L.length ≤ 100000) (H : DocF w rb s a c) (hok : FtOk s) (hq : plc q s.L = -1) (hp : plc q.rev s.L = (k : Int)) (hx : s.L[k]? = some x) (ha : atF q s.L = none) (ha2 : atF q.rev s.L = some x) :
    Calls Try.prog 48 #[.pointer (some ⟨rb, 0, none⟩), .agg q.v] w fun e w' => e = .returned (.bool (s.drop q).2) ∧ DocNF w.heap.size a w' rb (s.drop q).1 ∧ But (fun k => k = rb) w w' := by
  have ik0 : (0 : Int) ≤ (k : Int) := by omega
  have ik0' : decide ((0 : Int) ≤ (k : Int)) = true := by simp
  have ik3 : decide ((k : Int) < 0) = false := by simp
  have HX : Hid (s.L[k]? = some x) := hx
  have hlt : k < s.L.length := (List.getElem?_eq_some_iff.1 hx).1
  have ikl : (k : Int) < (s.L.length : Int) := by omega
  have hltk : (s.L.take k).length = k := by rw [List.length_take]; omega
  have hldk : (s.L.drop (k + 1)).length = s.L.length - (k + 1) := List.length_drop
  have hkc : k ≤ c := by have := H.row.le; omega
  have hk1 : ((k + 1 : Nat) : Int) = (k : Int) + 1 := by omega
  obtain ⟨p2, off2, rfl, hcells⟩ := H.row.row.cells k x hx
  clear hx hcells
  have HA : Hid _ := ha
  clear ha
  have HA2 : Hid _ := ha2
  clear ha2
  have HOK : Hid (FtOk s) := hok
  clear hok
  have T := H.tab
  have E := H.row
  have hne := H.ne
  have hgl := T.lt
  have hal := E.lt
  have nET : ∀ y : Addr, (some ⟨p2, off2, none⟩) = some y → y.block ≠ rb := hne
  clear H
  obtain ⟨R, hR⟩ : ∃ R, s.drop q = R := ⟨_, rfl⟩
  have HR : Hid (s.drop q = R) := hR
  try rw [hR]
  clear hR
  have b := But.refl (fun k => k = rb) w
  go_enter Try.func48, Try.ntmps48
  obtain ⟨Wm1, hWm1⟩ : ∃ W, w.alloc (.cells q.v 26) = W := ⟨_, rfl⟩
  have bm1 := but_al b hWm1
  have Tm1 := T.al hWm1
  have Em1 := E.al hWm1
  have Am1 := blk_nw hWm1
  have gA : (fun k => k = rb) w.heap.size ∨ w.heap.size ≤ w.heap.size := .inr b.size
  have nTA : rb ≠ w.heap.size := by have := T.lt; omega
  have nAT : w.heap.size ≠ rb := fun e => nTA e.symm
  have nEA : ∀ y : Addr, (some ⟨p2, off2, none⟩) = some y → y.block ≠ w.heap.size := fun y hy => by have := E.lt y hy; omega
  go_wp2_with (refine wpList_load_blk_w (by rfl) _ _ rfl w.heap.size (by rfl) _ Am1 Try.underlying26 (by kernel_rfl) ?_)
  refine Calls.mono (rplace_fy rb s (some ⟨p2, off2, none⟩) c q _ hll Tm1 Em1) ?_
  rintro e Wm2 ⟨rfl, bb⟩
  have Tm2 := Tm1.kept bb
  have Em2 := Em1.kept bb
  have Am2 := Am1.kept bb
  have bm2 := bm1.below bb
  clear bb
  rw [hq]
  clear Tm1 Em1 Am1 bm1
  go_wp2_with (refine wpList_load_blk_w (by rfl) _ _ rfl w.heap.size (by rfl) _ Am2 Try.underlying26 (by kernel_rfl) ?_)
  refine Calls.mono (rrev_t q _) ?_
  rintro e Wm3 ⟨rfl, bb⟩
  have Tm3 := Tm2.kept bb
  have Em3 := Em2.kept bb
  have Am3 := Am2.kept bb
  have bm3 := bm2.below bb
  clear bb
  clear Tm2 Em2 Am2 bm2
  go_wp2_with fail
  refine Calls.mono (rplace_fy rb s (some ⟨p2, off2, none⟩) c (q.rev) _ hll Tm3 Em3) ?_
  rintro e Wm4 ⟨rfl, bb⟩
  have Tm4 := Tm3.kept bb
  have Em4 := Em3.kept bb
  have Am4 := Am3.kept bb
  have bm4 := bm3.below bb
  clear bb
  rw [hp]
  clear Tm3 Em3 Am3 bm3
  go_wp2_with fail
  obtain ⟨Wdq5, hWdq5⟩ : ∃ W, Wm4.drew = W := ⟨_, rfl⟩
  have Tdq5 := hWdq5 ▸ Tm4.drew
  have Edq5 := hWdq5 ▸ Em4.drew
  have Adq5 := hWdq5 ▸ Am4.drew
  have bdq5 := hWdq5 ▸ bm4.drew
  refine wp_region_noPanic ?_
  refine wp_region_held_drew (S := fun w' => RowG w' (some ⟨p2, off2, none⟩) c s.L ∧ Blk w' w.heap.size 26 q.v) (by kernel_rfl) (by rw [hWdq5]; exact ⟨Edq5, Adq5⟩) (fun hHeld => ?_)
  rw [hWdq5] at hHeld ⊢
  refine qtk (i := 0) (oi := fyp35o14) (v := (.pointer (some ⟨rb, 0, none⟩))) hHeld ?_ ?_
  · intro w9 hSw
    try dsimp only at hSw
    go_simp
  try simp only [qpu]
  refine qtk (i := 1) (oi := fyp35o15) (v := (.pointer (some ⟨rb, 0, none⟩))) hHeld ?_ ?_
  · intro w9 hSw
    try dsimp only at hSw
    go_simp
  try simp only [qpu]
  refine qtk (i := 2) (oi := fyp35o12) (v := (.pointer (some ⟨rb, 0, none⟩))) hHeld ?_ ?_
  · intro w9 hSw
    try dsimp only at hSw
    go_simp
  try simp only [qpu]
  refine qtk (i := 3) (oi := fyp35o10) (v := (.pointer (some ⟨rb, 2, none⟩))) hHeld ?_ ?_
  · intro w9 hSw
    try dsimp only at hSw
    go_simp
  try simp only [qpu]
  refine qtk (i := 5) (oi := fyp35o17) (v := (.int .i64 (k : Int))) hHeld ?_ ?_
  · intro w9 hSw
    try dsimp only at hSw
    go_simp
  try simp only [qpu]
  refine qtk (i := 8) (oi := fyp35o16) (v := (.pointer (some ⟨rb, 0, none⟩))) hHeld ?_ ?_
  · intro w9 hSw
    try dsimp only at hSw
    go_simp
  try simp only [qpu]
  refine qtk (i := 9) (oi := fyp35o13) (v := (.pointer (some ⟨rb, 0, none⟩))) hHeld ?_ ?_
  · intro w9 hSw
    try dsimp only at hSw
    go_simp
  try simp only [qpu]
  refine qtk (i := 10) (oi := fyp35o11) (v := (.pointer (some ⟨rb, 2, none⟩))) hHeld ?_ ?_
  · intro w9 hSw
    try dsimp only at hSw
    go_simp
  try simp only [qpu]
  refine qtk (i := 12) (oi := fyp35o18) (v := (.int .i64 (k : Int))) hHeld ?_ ?_
  · intro w9 hSw
    try dsimp only at hSw
    go_simp
  try simp only [qpu]
  refine qtk (i := 13) (oi := fyp35o9) (v := (.int .i64 ((k : Int) + 1))) hHeld ?_ ?_
  · intro w9 hSw
    try dsimp only at hSw
    go_simp
    try decide
    try (rw [IntKind.wrap_i64]; omega)
  try simp only [qpu]
  refine wpAnyH_ready (rs := [4, 11]) (by kernel_rfl) (by simp) ?_
  refine AllReadyH.cons (o := fyp35o8) rfl (fun K hK => ?_) (AllReadyH.cons (o := fyp35o6) rfl (fun K hK => ?_) AllReadyH.nil)
  · have cld := Tdq5.cell 2 (.slice (some ⟨p2, off2, none⟩) s.L.length c) rfl
    go_simp
    clear cld
    refine hK.out _ _ (by exact ⟨Edq5, Adq5⟩) (fun hHeld => ?_)
    clear hK K
    try simp only [qpu]
    refine qty (i := 6) (oi := fyp35o7) (v := (.slice (some ⟨p2, off2, none⟩) k c)) (yieldsIf_slice rfl _ _ _ _ _ rfl _ _ _ _ (by rfl) (by rfl) (by rfl) (by rfl) _ (run_upto p2 off2 s.L.length c k hkc)) hHeld ?_
    try simp only [qpu]
    refine wpAnyH_ready (rs := [7, 11]) (by kernel_rfl) (by simp) ?_
    refine AllReadyH.cons (o := fyp35o4) rfl (fun K hK => ?_) (AllReadyH.cons (o := fyp35o6) rfl (fun K hK => ?_) AllReadyH.nil)
    · obtain ⟨a8, c8, Wp6, hrun, Op6, gr⟩ := run_appLs Wdq5 53 Wdq5.heap.size none 0 [] (own_noneL _ _) (some ⟨p2, off2, none⟩) c (s.L.take k) (Edq5.take k) (by simp; omega) (Nat.le_refl _)
      have hl0 : ([] ++ s.L.take k).length = k := by simpa using hltk
      rw [hl0] at hrun
      try rw [hltk] at hrun
      refine step_rnL rfl _ _ _ rfl _ _ (by rfl) (by rfl) _ _ hrun ?_
      have bg : But (fun _ => False) Wdq5 Wp6 := (But.refl _ _).grown gr (fun n hn => by cases hn)
      have bp6 := bdq5.trans bg (fun n _ e => e.elim)
      obtain ⟨B8, hB8⟩ : ∃ B, Wdq5.heap.size = B := ⟨_, rfl⟩
      rw [hB8] at Op6
      have hw8 : w.heap.size ≤ B8 := by rw [← hB8]; exact bdq5.size
      have hlE : ∀ y : Addr, (some ⟨p2, off2, none⟩) = some y → y.block < B8 := by rw [← hB8]; exact Edq5.lt
      have Ep6 := Edq5.but bg (fun _ _ h => h)
      have hlA : w.heap.size < B8 := by rw [← hB8]; exact Adq5.lt
      have Ap6 := Adq5.but bg (fun h => h)
      have hlT : rb < B8 := by rw [← hB8]; exact Tdq5.lt
      have Tp6 := Tdq5.but bg (fun h => h)
      have hsz8 : B8 ≤ Wp6.heap.size := by rw [← hB8]; exact bg.size
      clear hrun gr bg hB8
      refine hK.out _ _ (by exact ⟨Ep6, Ap6⟩) (fun hHeld => ?_)
      clear hK K
      try simp only [qpu]
      refine wpAnyH_ready (rs := [11]) (by kernel_rfl) (by simp) ?_
      refine AllReadyH.cons (o := fyp35o6) rfl (fun K hK => ?_) AllReadyH.nil
      have cld := Tp6.cell 2 (.slice (some ⟨p2, off2, none⟩) s.L.length c) rfl
      go_simp
      clear cld
      refine hK.out _ _ (by exact ⟨Ep6, Ap6⟩) (fun hHeld => ?_)
      clear hK K
      try simp only [qpu]
      refine qty (i := 14) (oi := fyp35o5) (v := (.slice (subP p2 off2 c (k + 1)) (s.L.length - (k + 1)) (c - (k + 1)))) (yieldsIf_slice rfl _ _ _ _ _ rfl _ _ _ _ (by rfl) (by rfl) (by rfl) (by rfl) _ (run_from p2 off2 s.L.length c (k + 1) ((k : Int) + 1) (by omega) hlt)) hHeld ?_
      try simp only [qpu]
      refine wpAnyH_ready (rs := [15]) (by kernel_rfl) (by simp) ?_
      refine AllReadyH.cons (o := fyp35o3) rfl (fun K hK => ?_) AllReadyH.nil
      obtain ⟨a9, c9, Wp7, hrun, Op7, gr⟩ := run_appLs Wp6 53 B8 a8 c8 ([] ++ s.L.take k) Op6 (subP p2 off2 c (k + 1)) (c - (k + 1)) (s.L.drop (k + 1)) (Ep6.from_ (k + 1) hlt) (by simp; omega) hsz8
      rw [hl0, hldk] at hrun
      refine step_rnL rfl _ _ _ rfl _ _ (by rfl) (by rfl) _ _ hrun ?_
      have bg : But (fun k => a8.map (·.block) = some k) Wp6 Wp7 := (But.refl _ _).grown gr (fun n hn => .inl hn)
      have hga : ∀ y, a9 = some y → B8 ≤ y.block := Op7.lt
      have bp7 : But (fun k => k = rb) w Wp7 := bp6.trans bg (fun n hn e => absurd e (map_geL Op6.lt (Nat.lt_of_lt_of_le hn hw8)))
      have Ep7 := Ep6.but bg (fun y hy => map_geL Op6.lt (hlE y hy))
      have Ap7 := Ap6.but bg (map_geL Op6.lt hlA)
      have nOA : ∀ y : Addr, a9 = some y → y.block ≠ w.heap.size := fun y hy => by have := hga y hy; have := hlA; omega
      have Tp7 := Tp6.but bg (map_geL Op6.lt hlT)
      have nOT : ∀ y : Addr, a9 = some y → y.block ≠ rb := fun y hy => by have := hga y hy; have := hlT; omega
      clear hrun gr bg
      refine hK.out _ _ (by exact ⟨Ep7, Ap7⟩) (fun hHeld => ?_)
      clear hK K
      try simp only [qpu]
      refine qtk (i := 16) (oi := fyp35o2) (v := (.pointer (some ⟨rb, 0, none⟩))) hHeld ?_ ?_
      · intro w9 hSw
        try dsimp only at hSw
        go_simp
      try simp only [qpu]
      refine qtk (i := 17) (oi := fyp35o1) (v := (.pointer (some ⟨rb, 2, none⟩))) hHeld ?_ ?_
      · intro w9 hSw
        try dsimp only at hSw
        go_simp
      try simp only [qpu]
      refine wpAnyH_ready (rs := [18]) (by kernel_rfl) (by simp) ?_
      refine AllReadyH.cons (o := fyp35o0) rfl (fun K hK => ?_) AllReadyH.nil
      refine step_store_one rfl _ _ _ rfl rb 2 _ (.slice a9 ([] ++ s.L.take k ++ s.L.drop (k + 1)).length c9) #[.int .i64 s.most, .int .i64 s.now, .slice (some ⟨p2, off2, none⟩) s.L.length c] #[.int .i64 s.most, .int .i64 s.now, .slice a9 ([] ++ s.L.take k ++ s.L.drop (k + 1)).length c9] (by rfl) (by rfl) rfl rfl Tp7 (by kernel_rfl) (by simp) (by rfl) ?_
      obtain ⟨Wx8, hWx8⟩ : ∃ W, Wp7.setRow rb #[.int .i64 s.most, .int .i64 s.now, .slice a9 ([] ++ s.L.take k ++ s.L.drop (k + 1)).length c9] = W := ⟨_, rfl⟩
      rw [hWx8]
      have Tx8 : Blk Wx8 rb 55 #[.int .i64 s.most, .int .i64 s.now, .slice a9 ([] ++ s.L.take k ++ s.L.drop (k + 1)).length c9] := hWx8 ▸ Tp7.set #[.int .i64 s.most, .int .i64 s.now, .slice a9 ([] ++ s.L.take k ++ s.L.drop (k + 1)).length c9]
      have Ex8 := hWx8 ▸ Ep7.other nET #[.int .i64 s.most, .int .i64 s.now, .slice a9 ([] ++ s.L.take k ++ s.L.drop (k + 1)).length c9]
      have Ax8 := hWx8 ▸ Ap7.other nAT #[.int .i64 s.most, .int .i64 s.now, .slice a9 ([] ++ s.L.take k ++ s.L.drop (k + 1)).length c9]
      have Ox8 := hWx8 ▸ Op7.other (fun y hy => by have := Op7.lt y hy; have := hlT; omega) #[.int .i64 s.most, .int .i64 s.now, .slice a9 ([] ++ s.L.take k ++ s.L.drop (k + 1)).length c9]
      have bx8 := hWx8 ▸ bp7.setRow rb (.inl rfl) #[.int .i64 s.most, .int .i64 s.now, .slice a9 ([] ++ s.L.take k ++ s.L.drop (k + 1)).length c9]
      refine hK.out _ _ (by exact ⟨Ex8, Ax8⟩) (fun hHeld => ?_)
      clear hK K
      try simp only [qpu]
      refine wpAnyH_done (by kernel_rfl) ?_ _
      refine NoPanic.normal ?_
      go_wp2_with fail
      have hR2 : R = (((⟨s.most, s.now, s.L.take k ++ s.L.drop (k + 1)⟩, true) : Ft × Bool)) := by rw [← HR.out]; exact drop_two HOK.out HA.out HA2.out HX.out
      subst hR2
      go_ret
      exact ⟨rfl, ⟨a9, c9, ⟨Tx8, Ox8.toE, (fun y hy => by have := hga y hy; have := hlT; omega)⟩, (fun y hy => .inr (Nat.le_trans hw8 (hga y hy)))⟩, bx8⟩
    · have cld := Tdq5.cell 2 (.slice (some ⟨p2, off2, none⟩) s.L.length c) rfl
      go_simp
      clear cld
      refine hK.out _ _ (by exact ⟨Edq5, Adq5⟩) (fun hHeld => ?_)
      clear hK K
      try simp only [qpu]
      refine qty (i := 14) (oi := fyp35o5) (v := (.slice (subP p2 off2 c (k + 1)) (s.L.length - (k + 1)) (c - (k + 1)))) (yieldsIf_slice rfl _ _ _ _ _ rfl _ _ _ _ (by rfl) (by rfl) (by rfl) (by rfl) _ (run_from p2 off2 s.L.length c (k + 1) ((k : Int) + 1) (by omega) hlt)) hHeld ?_
      try simp only [qpu]
      refine wpAnyH_ready (rs := [7]) (by kernel_rfl) (by simp) ?_
      refine AllReadyH.cons (o := fyp35o4) rfl (fun K hK => ?_) AllReadyH.nil
      obtain ⟨a8, c8, Wp9, hrun, Op9, gr⟩ := run_appLs Wdq5 53 Wdq5.heap.size none 0 [] (own_noneL _ _) (some ⟨p2, off2, none⟩) c (s.L.take k) (Edq5.take k) (by simp; omega) (Nat.le_refl _)
      have hl0 : ([] ++ s.L.take k).length = k := by simpa using hltk
      rw [hl0] at hrun
      try rw [hltk] at hrun
      refine step_rnL rfl _ _ _ rfl _ _ (by rfl) (by rfl) _ _ hrun ?_
      have bg : But (fun _ => False) Wdq5 Wp9 := (But.refl _ _).grown gr (fun n hn => by cases hn)
      have bp9 := bdq5.trans bg (fun n _ e => e.elim)
      obtain ⟨B8, hB8⟩ : ∃ B, Wdq5.heap.size = B := ⟨_, rfl⟩
      rw [hB8] at Op9
      have hw8 : w.heap.size ≤ B8 := by rw [← hB8]; exact bdq5.size
      have hlE : ∀ y : Addr, (some ⟨p2, off2, none⟩) = some y → y.block < B8 := by rw [← hB8]; exact Edq5.lt
      have Ep9 := Edq5.but bg (fun _ _ h => h)
      have hlA : w.heap.size < B8 := by rw [← hB8]; exact Adq5.lt
      have Ap9 := Adq5.but bg (fun h => h)
      have hlT : rb < B8 := by rw [← hB8]; exact Tdq5.lt
      have Tp9 := Tdq5.but bg (fun h => h)
      have hsz8 : B8 ≤ Wp9.heap.size := by rw [← hB8]; exact bg.size
      clear hrun gr bg hB8
      refine hK.out _ _ (by exact ⟨Ep9, Ap9⟩) (fun hHeld => ?_)
      clear hK K
      try simp only [qpu]
      refine wpAnyH_ready (rs := [15]) (by kernel_rfl) (by simp) ?_
      refine AllReadyH.cons (o := fyp35o3) rfl (fun K hK => ?_) AllReadyH.nil
      obtain ⟨a9, c9, Wp10, hrun, Op10, gr⟩ := run_appLs Wp9 53 B8 a8 c8 ([] ++ s.L.take k) Op9 (subP p2 off2 c (k + 1)) (c - (k + 1)) (s.L.drop (k + 1)) (Ep9.from_ (k + 1) hlt) (by simp; omega) hsz8
      rw [hl0, hldk] at hrun
      refine step_rnL rfl _ _ _ rfl _ _ (by rfl) (by rfl) _ _ hrun ?_
      have bg : But (fun k => a8.map (·.block) = some k) Wp9 Wp10 := (But.refl _ _).grown gr (fun n hn => .inl hn)
      have hga : ∀ y, a9 = some y → B8 ≤ y.block := Op10.lt
      have bp10 : But (fun k => k = rb) w Wp10 := bp9.trans bg (fun n hn e => absurd e (map_geL Op9.lt (Nat.lt_of_lt_of_le hn hw8)))
      have Ep10 := Ep9.but bg (fun y hy => map_geL Op9.lt (hlE y hy))
      have Ap10 := Ap9.but bg (map_geL Op9.lt hlA)
      have nOA : ∀ y : Addr, a9 = some y → y.block ≠ w.heap.size := fun y hy => by have := hga y hy; have := hlA; omega
      have Tp10 := Tp9.but bg (map_geL Op9.lt hlT)
      have nOT : ∀ y : Addr, a9 = some y → y.block ≠ rb := fun y hy => by have := hga y hy; have := hlT; omega
      clear hrun gr bg
      refine hK.out _ _ (by exact ⟨Ep10, Ap10⟩) (fun hHeld => ?_)
      clear hK K
      try simp only [qpu]
      refine qtk (i := 16) (oi := fyp35o2) (v := (.pointer (some ⟨rb, 0, none⟩))) hHeld ?_ ?_
      · intro w9 hSw
        try dsimp only at hSw
        go_simp
      try simp only [qpu]
      refine qtk (i := 17) (oi := fyp35o1) (v := (.pointer (some ⟨rb, 2, none⟩))) hHeld ?_ ?_
      · intro w9 hSw
        try dsimp only at hSw
        go_simp
      try simp only [qpu]
      refine wpAnyH_ready (rs := [18]) (by kernel_rfl) (by simp) ?_
      refine AllReadyH.cons (o := fyp35o0) rfl (fun K hK => ?_) AllReadyH.nil
      refine step_store_one rfl _ _ _ rfl rb 2 _ (.slice a9 ([] ++ s.L.take k ++ s.L.drop (k + 1)).length c9) #[.int .i64 s.most, .int .i64 s.now, .slice (some ⟨p2, off2, none⟩) s.L.length c] #[.int .i64 s.most, .int .i64 s.now, .slice a9 ([] ++ s.L.take k ++ s.L.drop (k + 1)).length c9] (by rfl) (by rfl) rfl rfl Tp10 (by kernel_rfl) (by simp) (by rfl) ?_
      obtain ⟨Wx11, hWx11⟩ : ∃ W, Wp10.setRow rb #[.int .i64 s.most, .int .i64 s.now, .slice a9 ([] ++ s.L.take k ++ s.L.drop (k + 1)).length c9] = W := ⟨_, rfl⟩
      rw [hWx11]
      have Tx11 : Blk Wx11 rb 55 #[.int .i64 s.most, .int .i64 s.now, .slice a9 ([] ++ s.L.take k ++ s.L.drop (k + 1)).length c9] := hWx11 ▸ Tp10.set #[.int .i64 s.most, .int .i64 s.now, .slice a9 ([] ++ s.L.take k ++ s.L.drop (k + 1)).length c9]
      have Ex11 := hWx11 ▸ Ep10.other nET #[.int .i64 s.most, .int .i64 s.now, .slice a9 ([] ++ s.L.take k ++ s.L.drop (k + 1)).length c9]
      have Ax11 := hWx11 ▸ Ap10.other nAT #[.int .i64 s.most, .int .i64 s.now, .slice a9 ([] ++ s.L.take k ++ s.L.drop (k + 1)).length c9]
      have Ox11 := hWx11 ▸ Op10.other (fun y hy => by have := Op10.lt y hy; have := hlT; omega) #[.int .i64 s.most, .int .i64 s.now, .slice a9 ([] ++ s.L.take k ++ s.L.drop (k + 1)).length c9]
      have bx11 := hWx11 ▸ bp10.setRow rb (.inl rfl) #[.int .i64 s.most, .int .i64 s.now, .slice a9 ([] ++ s.L.take k ++ s.L.drop (k + 1)).length c9]
      refine hK.out _ _ (by exact ⟨Ex11, Ax11⟩) (fun hHeld => ?_)
      clear hK K
      try simp only [qpu]
      refine wpAnyH_done (by kernel_rfl) ?_ _
      refine NoPanic.normal ?_
      go_wp2_with fail
      have hR2 : R = (((⟨s.most, s.now, s.L.take k ++ s.L.drop (k + 1)⟩, true) : Ft × Bool)) := by rw [← HR.out]; exact drop_two HOK.out HA.out HA2.out HX.out
      subst hR2
      go_ret
      exact ⟨rfl, ⟨a9, c9, ⟨Tx11, Ox11.toE, (fun y hy => by have := hga y hy; have := hlT; omega)⟩, (fun y hy => .inr (Nat.le_trans hw8 (hga y hy)))⟩, bx11⟩
  · have cld := Tdq5.cell 2 (.slice (some ⟨p2, off2, none⟩) s.L.length c) rfl
    go_simp
    clear cld
    refine hK.out _ _ (by exact ⟨Edq5, Adq5⟩) (fun hHeld => ?_)
    clear hK K
    try simp only [qpu]
    refine qty (i := 14) (oi := fyp35o5) (v := (.slice (subP p2 off2 c (k + 1)) (s.L.length - (k + 1)) (c - (k + 1)))) (yieldsIf_slice rfl _ _ _ _ _ rfl _ _ _ _ (by rfl) (by rfl) (by rfl) (by rfl) _ (run_from p2 off2 s.L.length c (k + 1) ((k : Int) + 1) (by omega) hlt)) hHeld ?_
    try simp only [qpu]
    refine wpAnyH_ready (rs := [4]) (by kernel_rfl) (by simp) ?_
    refine AllReadyH.cons (o := fyp35o8) rfl (fun K hK => ?_) AllReadyH.nil
    have cld := Tdq5.cell 2 (.slice (some ⟨p2, off2, none⟩) s.L.length c) rfl
    go_simp
    clear cld
    refine hK.out _ _ (by exact ⟨Edq5, Adq5⟩) (fun hHeld => ?_)
    clear hK K
    try simp only [qpu]
    refine qty (i := 6) (oi := fyp35o7) (v := (.slice (some ⟨p2, off2, none⟩) k c)) (yieldsIf_slice rfl _ _ _ _ _ rfl _ _ _ _ (by rfl) (by rfl) (by rfl) (by rfl) _ (run_upto p2 off2 s.L.length c k hkc)) hHeld ?_
    try simp only [qpu]
    refine wpAnyH_ready (rs := [7]) (by kernel_rfl) (by simp) ?_
    refine AllReadyH.cons (o := fyp35o4) rfl (fun K hK => ?_) AllReadyH.nil
    obtain ⟨a8, c8, Wp12, hrun, Op12, gr⟩ := run_appLs Wdq5 53 Wdq5.heap.size none 0 [] (own_noneL _ _) (some ⟨p2, off2, none⟩) c (s.L.take k) (Edq5.take k) (by simp; omega) (Nat.le_refl _)
    have hl0 : ([] ++ s.L.take k).length = k := by simpa using hltk
    rw [hl0] at hrun
    try rw [hltk] at hrun
    refine step_rnL rfl _ _ _ rfl _ _ (by rfl) (by rfl) _ _ hrun ?_
    have bg : But (fun _ => False) Wdq5 Wp12 := (But.refl _ _).grown gr (fun n hn => by cases hn)
    have bp12 := bdq5.trans bg (fun n _ e => e.elim)
    obtain ⟨B8, hB8⟩ : ∃ B, Wdq5.heap.size = B := ⟨_, rfl⟩
    rw [hB8] at Op12
    have hw8 : w.heap.size ≤ B8 := by rw [← hB8]; exact bdq5.size
    have hlE : ∀ y : Addr, (some ⟨p2, off2, none⟩) = some y → y.block < B8 := by rw [← hB8]; exact Edq5.lt
    have Ep12 := Edq5.but bg (fun _ _ h => h)
    have hlA : w.heap.size < B8 := by rw [← hB8]; exact Adq5.lt
    have Ap12 := Adq5.but bg (fun h => h)
    have hlT : rb < B8 := by rw [← hB8]; exact Tdq5.lt
    have Tp12 := Tdq5.but bg (fun h => h)
    have hsz8 : B8 ≤ Wp12.heap.size := by rw [← hB8]; exact bg.size
    clear hrun gr bg hB8
    refine hK.out _ _ (by exact ⟨Ep12, Ap12⟩) (fun hHeld => ?_)
    clear hK K
    try simp only [qpu]
    refine wpAnyH_ready (rs := [15]) (by kernel_rfl) (by simp) ?_
    refine AllReadyH.cons (o := fyp35o3) rfl (fun K hK => ?_) AllReadyH.nil
    obtain ⟨a9, c9, Wp13, hrun, Op13, gr⟩ := run_appLs Wp12 53 B8 a8 c8 ([] ++ s.L.take k) Op12 (subP p2 off2 c (k + 1)) (c - (k + 1)) (s.L.drop (k + 1)) (Ep12.from_ (k + 1) hlt) (by simp; omega) hsz8
    rw [hl0, hldk] at hrun
    refine step_rnL rfl _ _ _ rfl _ _ (by rfl) (by rfl) _ _ hrun ?_
    have bg : But (fun k => a8.map (·.block) = some k) Wp12 Wp13 := (But.refl _ _).grown gr (fun n hn => .inl hn)
    have hga : ∀ y, a9 = some y → B8 ≤ y.block := Op13.lt
    have bp13 : But (fun k => k = rb) w Wp13 := bp12.trans bg (fun n hn e => absurd e (map_geL Op12.lt (Nat.lt_of_lt_of_le hn hw8)))
    have Ep13 := Ep12.but bg (fun y hy => map_geL Op12.lt (hlE y hy))
    have Ap13 := Ap12.but bg (map_geL Op12.lt hlA)
    have nOA : ∀ y : Addr, a9 = some y → y.block ≠ w.heap.size := fun y hy => by have := hga y hy; have := hlA; omega
    have Tp13 := Tp12.but bg (map_geL Op12.lt hlT)
    have nOT : ∀ y : Addr, a9 = some y → y.block ≠ rb := fun y hy => by have := hga y hy; have := hlT; omega
    clear hrun gr bg
    refine hK.out _ _ (by exact ⟨Ep13, Ap13⟩) (fun hHeld => ?_)
    clear hK K
    try simp only [qpu]
    refine qtk (i := 16) (oi := fyp35o2) (v := (.pointer (some ⟨rb, 0, none⟩))) hHeld ?_ ?_
    · intro w9 hSw
      try dsimp only at hSw
      go_simp
    try simp only [qpu]
    refine qtk (i := 17) (oi := fyp35o1) (v := (.pointer (some ⟨rb, 2, none⟩))) hHeld ?_ ?_
    · intro w9 hSw
      try dsimp only at hSw
      go_simp
    try simp only [qpu]
    refine wpAnyH_ready (rs := [18]) (by kernel_rfl) (by simp) ?_
    refine AllReadyH.cons (o := fyp35o0) rfl (fun K hK => ?_) AllReadyH.nil
    refine step_store_one rfl _ _ _ rfl rb 2 _ (.slice a9 ([] ++ s.L.take k ++ s.L.drop (k + 1)).length c9) #[.int .i64 s.most, .int .i64 s.now, .slice (some ⟨p2, off2, none⟩) s.L.length c] #[.int .i64 s.most, .int .i64 s.now, .slice a9 ([] ++ s.L.take k ++ s.L.drop (k + 1)).length c9] (by rfl) (by rfl) rfl rfl Tp13 (by kernel_rfl) (by simp) (by rfl) ?_
    obtain ⟨Wx14, hWx14⟩ : ∃ W, Wp13.setRow rb #[.int .i64 s.most, .int .i64 s.now, .slice a9 ([] ++ s.L.take k ++ s.L.drop (k + 1)).length c9] = W := ⟨_, rfl⟩
    rw [hWx14]
    have Tx14 : Blk Wx14 rb 55 #[.int .i64 s.most, .int .i64 s.now, .slice a9 ([] ++ s.L.take k ++ s.L.drop (k + 1)).length c9] := hWx14 ▸ Tp13.set #[.int .i64 s.most, .int .i64 s.now, .slice a9 ([] ++ s.L.take k ++ s.L.drop (k + 1)).length c9]
    have Ex14 := hWx14 ▸ Ep13.other nET #[.int .i64 s.most, .int .i64 s.now, .slice a9 ([] ++ s.L.take k ++ s.L.drop (k + 1)).length c9]
    have Ax14 := hWx14 ▸ Ap13.other nAT #[.int .i64 s.most, .int .i64 s.now, .slice a9 ([] ++ s.L.take k ++ s.L.drop (k + 1)).length c9]
    have Ox14 := hWx14 ▸ Op13.other (fun y hy => by have := Op13.lt y hy; have := hlT; omega) #[.int .i64 s.most, .int .i64 s.now, .slice a9 ([] ++ s.L.take k ++ s.L.drop (k + 1)).length c9]
    have bx14 := hWx14 ▸ bp13.setRow rb (.inl rfl) #[.int .i64 s.most, .int .i64 s.now, .slice a9 ([] ++ s.L.take k ++ s.L.drop (k + 1)).length c9]
    refine hK.out _ _ (by exact ⟨Ex14, Ax14⟩) (fun hHeld => ?_)
    clear hK K
    try simp only [qpu]
    refine wpAnyH_done (by kernel_rfl) ?_ _
    refine NoPanic.normal ?_
    go_wp2_with fail
    have hR2 : R = (((⟨s.most, s.now, s.L.take k ++ s.L.drop (k + 1)⟩, true) : Ft × Bool)) := by rw [← HR.out]; exact drop_two HOK.out HA.out HA2.out HX.out
    subst hR2
    go_ret
    exact ⟨rfl, ⟨a9, c9, ⟨Tx14, Ox14.toE, (fun y hy => by have := hga y hy; have := hlT; omega)⟩, (fun y hy => .inr (Nat.le_trans hw8 (hga y hy)))⟩, bx14⟩
set_option maxRecDepth 100000 in
set_option maxHeartbeats 16000000 in
theorem rdrop3_fy (rb : Nat) (s : Ft) (a : Option Addr) (c : Nat) (q : Wy) (w : World) (hll : s.L.length ≤ 100000) (H : DocF w rb s a c) (hok : FtOk s) (hq : plc q s.L = -1) (hr : plc q.rev s.L = -1) (ha : atF q s.L = none) (ha2 : atF q.rev s.L = none) :
    Calls Try.prog 48 #[.pointer (some ⟨rb, 0, none⟩), .agg q.v] w fun e w' => e = .returned (.bool (s.drop q).2) ∧ DocNF w.heap.size a w' rb (s.drop q).1 ∧ But (fun k => k = rb) w w' := by
  have HA : Hid _ := ha
  clear ha
  have HA2 : Hid _ := ha2
  clear ha2
  have HOK : Hid (FtOk s) := hok
  clear hok
  have T := H.tab
  have E := H.row
  have hne := H.ne
  have hgl := T.lt
  have hal := E.lt
  have nET : ∀ y : Addr, a = some y → y.block ≠ rb := hne
  clear H
  obtain ⟨R, hR⟩ : ∃ R, s.drop q = R := ⟨_, rfl⟩
  have HR : Hid (s.drop q = R) := hR
  try rw [hR]
  clear hR
  have b := But.refl (fun k => k = rb) w
  go_enter Try.func48, Try.ntmps48
  obtain ⟨Wm1, hWm1⟩ : ∃ W, w.alloc (.cells q.v 26) = W := ⟨_, rfl⟩
  have bm1 := but_al b hWm1
  have Tm1 := T.al hWm1
  have Em1 := E.al hWm1
  have Am1 := blk_nw hWm1
  have gA : (fun k => k = rb) w.heap.size ∨ w.heap.size ≤ w.heap.size := .inr b.size
  have nTA : rb ≠ w.heap.size := by have := T.lt; omega
  have nAT : w.heap.size ≠ rb := fun e => nTA e.symm
  have nEA : ∀ y : Addr, a = some y → y.block ≠ w.heap.size := fun y hy => by have := E.lt y hy; omega
  go_wp2_with (refine wpList_load_blk_w (by rfl) _ _ rfl w.heap.size (by rfl) _ Am1 Try.underlying26 (by kernel_rfl) ?_)
  refine Calls.mono (rplace_fy rb s a c q _ hll Tm1 Em1) ?_
  rintro e Wm2 ⟨rfl, bb⟩
  have Tm2 := Tm1.kept bb
  have Em2 := Em1.kept bb
  have Am2 := Am1.kept bb
  have bm2 := bm1.below bb
  clear bb
  rw [hq]
  clear Tm1 Em1 Am1 bm1
  go_wp2_with (refine wpList_load_blk_w (by rfl) _ _ rfl w.heap.size (by rfl) _ Am2 Try.underlying26 (by kernel_rfl) ?_)
  refine Calls.mono (rrev_t q _) ?_
  rintro e Wm3 ⟨rfl, bb⟩
  have Tm3 := Tm2.kept bb
  have Em3 := Em2.kept bb
  have Am3 := Am2.kept bb
  have bm3 := bm2.below bb
  clear bb
  clear Tm2 Em2 Am2 bm2
  go_wp2_with fail
  refine Calls.mono (rplace_fy rb s a c (q.rev) _ hll Tm3 Em3) ?_
  rintro e Wm4 ⟨rfl, bb⟩
  have Tm4 := Tm3.kept bb
  have Em4 := Em3.kept bb
  have Am4 := Am3.kept bb
  have bm4 := bm3.below bb
  clear bb
  rw [hr]
  clear Tm3 Em3 Am3 bm3
  go_wp2_with fail
  have hR2 : R = (((s, false) : Ft × Bool)) := by rw [← HR.out]; exact drop_none HA.out HA2.out
  subst hR2
  go_ret
  exact ⟨rfl, ⟨a, c, ⟨Tm4, Em4, nET⟩, (fun y hy => .inl hy)⟩, bm4⟩
theorem rdrop_fy (rb : Nat) (s : Ft) (a : Option Addr) (c : Nat) (q : Wy) (w : World) (hll : s.L.length ≤ 100000) (H : DocF w rb s a c) (hok : FtOk s) :
    Calls Try.prog 48 #[.pointer (some ⟨rb, 0, none⟩), .agg q.v] w fun e w' => e = .returned (.bool (s.drop q).2) ∧ DocNF w.heap.size a w' rb (s.drop q).1 ∧ But (fun k => k = rb) w w' := by
  rcases plc_atF (q := q) (L := s.L) with ⟨k, x, h1, h2, h3⟩ | ⟨h1, h2⟩
  · exact rdrop1_fy rb s a c q k x w hll H hok h1 h2 h3
  · rcases plc_atF (q := q.rev) (L := s.L) with ⟨k, x, h4, h5, h6⟩ | ⟨h4, h5⟩
    · exact rdrop2_fy rb s a c q k x w hll H hok h1 h4 h5 h2 h6
    · exact rdrop3_fy rb s a c q w hll H hok h1 h4 h2 h5
end Go.Proofs.Ytmjjdbkipagkbaa
