/- Texts joined: FiE -/
import Derived.Test.YtbghilihccaaaaaTwz28
namespace Go.Proofs.Ytbghilihccaaaaa
abbrev twz29o0 : Oper := { dst := some 16, op := Op.call { callee := Callee.value (.func 31), args := #[.tmp 15], argTypes := #[39] }, type := 39, pos := "frag.go:72", after := #[{ on := 1, ground := Ground.data }], guard := none }
abbrev twz29o3 : Oper := { dst := some 18, op := Op.load 40 (.tmp 17), type := 40, pos := "frag.go:72", after := #[{ on := 3, ground := Ground.data }], guard := none }
abbrev twz29o6 : Oper := { dst := some 15, op := Op.load 39 (.tmp 14), type := 39, pos := "frag.go:72", after := #[{ on := 0, ground := Ground.data }], guard := none }
end Go.Proofs.Ytbghilihccaaaaa
namespace Go.Proofs.Ytbghilihccaaaaa
open Go.RowKit
set_option linter.unusedVariables false
set_option linter.unusedSimpArgs false
set_option maxRecDepth 100000 in
set_option maxHeartbeats 4000000 in
theorem put_plain (tb mb : Nat) (s : Fs) (G : List (Lit × Gm)) (p : Pkt) (xa : Option Addr) (xc : Nat) (da : Option Addr) (dc : Nat) (w : World) (T : TabG w tb mb s G) (hfg : p.fg = false)
    (hdat : Row w da p.dat) (hnil : da = none → dc = 0) (hx : RowI w xa p.X) (hxn : xa = none → xc = 0) :
    Calls Try.prog 17 #[.pointer (some ⟨tb, 0, none⟩), .agg (pkV p xa xc da dc)] w fun e w' => ∃ RV c, e = .returned (.tuple #[.agg RV, .int .i64 c]) ∧ TakeAt tb mb G (putF s p) w RV c w' := by
  have e0 : putF s p = (s, p, 0) := by unfold putF; rw [if_pos hfg]
  rw [e0]
  obtain ⟨W1, hW1⟩ : ∃ W, w.alloc (.cells (pkV p xa xc da dc) 42) = W := ⟨_, rfl⟩
  obtain ⟨W2, hW2⟩ : ∃ W, W1.alloc (.cells #[.int .i64 0, .int .i64 0, .int .u64 0, .int .u64 0, .int .i64 0, .int .u64 0, .int .u64 0, .int .i64 0, .int .i64 0, .bool false, .int .u32 0, .int .i64 0, .bool false, .slice none 0 0, .slice none 0 0] 42) = W := ⟨_, rfl⟩
  have b1 := bel_nw hW1
  have b2 := bel_al b1 hW2
  have B1 := blk_nw hW1
  have B2 := B1.al hW2
  have R2 := blk_nw hW2
  have n1 : w.heap.size < W1.heap.size := B1.lt
  have K : Hid _ := isMade_at tb true W2 (kept b2 (T.tab.cell 0 (.bool true) rfl))
  have q9 := B2.cell 9 (.bool p.fg) rfl
  rw [hfg] at q9
  have KX : Hid (∀ W, Below w.heap.size w W → Calls Try.prog 31 #[.slice xa p.X.length xc] W fun e w' => ∃ a' c', e = .returned (.slice a' p.X.length c') ∧ OwnsI w' W.heap.size (.slice a' p.X.length c') p.X ∧ Below W.heap.size W w') := fun W hW => cloneI_any xa xc p.X W (hx.below hW) hxn
  have KD : Hid (∀ W, Below w.heap.size w W → Calls Try.prog 32 #[.slice da p.dat.length dc] W fun e w' => ∃ a' c', e = .returned (.slice a' p.dat.length c') ∧ Fresh W w' a' c' p.dat) := fun W hW => clone_any da dc p.dat W (hdat.below hW) hnil
  have HT : Hid (TabG w tb mb s G) := T
  have HS : Hid (p.X.length ≤ 17592186044416) := hx.small
  have HB : Hid (p.dat.length ≤ 140737488355328 ∧ M.Bytes p.dat) := ⟨hdat.small, hdat.bytes⟩
  clear hdat hnil hx hxn hfg T e0
  go_enter Try.func17, Try.ntmps17
  go_wp2_with fail
  refine Calls.mono K.out ?_
  rintro e w' ⟨rfl, hW'⟩
  rw [hW']
  clear hW' w' K
  go_wp2_with fail
  have Bd := B2.drew
  have Rd := R2.drew
  have kd := b2.drew
  have d13 := Bd.cell 13 (.slice xa p.X.length xc) rfl
  have d14 := Bd.cell 14 (.slice da p.dat.length dc) rfl
  refine wp_region_noPanic ?_
  refine wp_region_held_drew (S := fun _ => True) (by kernel_rfl) trivial (fun hHeld => ?_)
  generalize W2.drew = V1 at Bd Rd kd d13 d14 hHeld ⊢
  refine wpAnyH_take (i := 0) (oi := { dst := some 14, op := Op.fieldAddr 42 (.tmp 3) 9, type := 0, pos := "frag.go:72", after := #[], guard := none }) (v := (.pointer (some ⟨w.heap.size, 13, none⟩))) rfl (by kernel_rfl) (by kernel_rfl) (by kernel_rfl) (fun _ _ _ h => h) (Or.inl ⟨by rfl, ?_⟩) hHeld ?_
  · intro w9 hSw
    try dsimp only at hSw
    go_simp
  try simp only [Act.put, List.setIfInBounds_toArray, List.set_cons_zero, List.set_cons_succ]
  refine wpAnyH_take (i := 3) (oi := { dst := some 17, op := Op.fieldAddr 42 (.tmp 3) 10, type := 0, pos := "frag.go:72", after := #[], guard := none }) (v := (.pointer (some ⟨w.heap.size, 14, none⟩))) rfl (by kernel_rfl) (by kernel_rfl) (by kernel_rfl) (fun _ _ _ h => h) (Or.inl ⟨by rfl, ?_⟩) hHeld ?_
  · intro w9 hSw
    try dsimp only at hSw
    go_simp
  try simp only [Act.put, List.setIfInBounds_toArray, List.set_cons_zero, List.set_cons_succ]
  refine wpAnyH_ready (rs := [1, 4]) (by kernel_rfl) (by simp) ?_
  refine (AllReadyH.cons (o := twz29o6) rfl (fun K hK => ?A) (AllReadyH.cons (o := twz29o3) rfl (fun K hK => ?B) AllReadyH.nil))
  case' A =>
    go_simp
    refine hK.out _ _ trivial (fun hHeld => ?_)
    clear hK K
    try simp only [Act.put, List.setIfInBounds_toArray, List.set_cons_zero, List.set_cons_succ]
    refine wpAnyH_ready (rs := [2, 4]) (by kernel_rfl) (by simp) ?_
    refine (AllReadyH.cons (o := twz29o0) rfl (fun K hK => ?C) (AllReadyH.cons (o := twz29o3) rfl (fun K hK => ?D) AllReadyH.nil))
    case' C =>
      go_simp
      refine Calls.mono (KX.out _ kd) ?_
      rintro e V2 ⟨ax, cx, rfl, ox, kx⟩
      refine hK.out _ _ trivial (fun hHeld => ?_)
      clear hK K
      try simp only [Act.put, List.setIfInBounds_toArray, List.set_cons_zero, List.set_cons_succ]
      have d14 := (Bd.kept kx).cell 14 (.slice da p.dat.length dc) rfl
      refine wpAnyH_ready (rs := [4]) (by kernel_rfl) (by simp) ?_
      refine (AllReadyH.cons (o := twz29o3) rfl (fun K hK => ?E) AllReadyH.nil)
      go_simp
      refine hK.out _ _ trivial (fun hHeld => ?_)
      clear hK K
      try simp only [Act.put, List.setIfInBounds_toArray, List.set_cons_zero, List.set_cons_succ]
    case' D =>
      go_simp
      refine hK.out _ _ trivial (fun hHeld => ?_)
      clear hK K
      try simp only [Act.put, List.setIfInBounds_toArray, List.set_cons_zero, List.set_cons_succ]
      refine wpAnyH_ready (rs := [2]) (by kernel_rfl) (by simp) ?_
      refine (AllReadyH.cons (o := twz29o0) rfl (fun K hK => ?F) AllReadyH.nil)
      go_simp
      refine Calls.mono (KX.out _ kd) ?_
      rintro e V2 ⟨ax, cx, rfl, ox, kx⟩
      refine hK.out _ _ trivial (fun hHeld => ?_)
      clear hK K
      try simp only [Act.put, List.setIfInBounds_toArray, List.set_cons_zero, List.set_cons_succ]
      have d14 := (Bd.kept kx).cell 14 (.slice da p.dat.length dc) rfl
  case' B =>
    go_simp
    refine hK.out _ _ trivial (fun hHeld => ?_)
    clear hK K
    try simp only [Act.put, List.setIfInBounds_toArray, List.set_cons_zero, List.set_cons_succ]
    refine wpAnyH_ready (rs := [1]) (by kernel_rfl) (by simp) ?_
    refine (AllReadyH.cons (o := twz29o6) rfl (fun K hK => ?J) AllReadyH.nil)
    go_simp
    refine hK.out _ _ trivial (fun hHeld => ?_)
    clear hK K
    try simp only [Act.put, List.setIfInBounds_toArray, List.set_cons_zero, List.set_cons_succ]
    refine wpAnyH_ready (rs := [2]) (by kernel_rfl) (by simp) ?_
    refine (AllReadyH.cons (o := twz29o0) rfl (fun K hK => ?H) AllReadyH.nil)
    go_simp
    refine Calls.mono (KX.out _ kd) ?_
    rintro e V2 ⟨ax, cx, rfl, ox, kx⟩
    refine hK.out _ _ trivial (fun hHeld => ?_)
    clear hK K
    try simp only [Act.put, List.setIfInBounds_toArray, List.set_cons_zero, List.set_cons_succ]
    have d14 := (Bd.kept kx).cell 14 (.slice da p.dat.length dc) rfl
  all_goals (
    have B3 := Bd.kept kx
    have R3 := Rd.kept kx
    have k3 := bel_tr kd kx
    have lW : W1.heap.size < V1.heap.size := Rd.lt
    clear Bd Rd d13 d14 KX
    refine wpAnyH_take (i := 6) (oi := { dst := some 20, op := Op.fieldAddr 42 (.tmp 3) 9, type := 0, pos := "frag.go:72", after := #[{ on := 0, ground := Ground.phase }, { on := 1, ground := Ground.phase }, { on := 2, ground := Ground.phase }, { on := 3, ground := Ground.phase }, { on := 4, ground := Ground.phase }, { on := 5, ground := Ground.textOnly Departure.lateStoresUnsure }], guard := none }) (v := (.pointer (some ⟨w.heap.size, 13, none⟩))) rfl (by kernel_rfl) (by kernel_rfl) (by kernel_rfl) (fun _ _ _ h => h) (Or.inl ⟨by rfl, ?_⟩) hHeld ?_
    · intro w9 hSw
      try dsimp only at hSw
      go_simp
    try simp only [Act.put, List.setIfInBounds_toArray, List.set_cons_zero, List.set_cons_succ]
    refine wpAnyH_ready (rs := [5]) (by kernel_rfl) (by simp) ?_
    refine AllReadyH.cons (o := { dst := some 19, op := Op.call { callee := Callee.value (.func 32), args := #[.tmp 18], argTypes := #[40] }, type := 40, pos := "frag.go:72", after := #[{ on := 4, ground := Ground.data }, { on := 2, ground := Ground.chain }], guard := none }) rfl (fun K hK => ?_) AllReadyH.nil
    go_simp
    refine Calls.mono (KD.out _ k3) ?_
    rintro e V3 ⟨ay, cy, rfl, oy⟩
    refine hK.out _ _ trivial (fun hHeld => ?_)
    clear hK K
    try simp only [Act.put, List.setIfInBounds_toArray, List.set_cons_zero, List.set_cons_succ]
    have B4 := B3.kept oy.below
    have R4 := R3.kept oy.below
    have k4 := bel_tr k3 oy.below
    have z13 := B4.frozen 13
    have c13 := B4.cell 13 (.slice xa p.X.length xc) rfl
    have B5 := B4.put 13 (.slice ax p.X.length cx)
    have R5 := R4.put_other B4 (by omega) 13 (.slice ax p.X.length cx)
    refine wpAnyH_ready (rs := [7]) (by kernel_rfl) (by simp) ?_
    refine AllReadyH.cons (o := { dst := none, op := Op.store 39 (.tmp 20) (.tmp 16), type := 0, pos := "frag.go:72", after := #[{ on := 6, ground := Ground.data }, { on := 2, ground := Ground.data }, { on := 5, ground := Ground.chain }, { on := 0, ground := Ground.phase }, { on := 1, ground := Ground.phase }, { on := 2, ground := Ground.phase }, { on := 3, ground := Ground.phase }, { on := 4, ground := Ground.phase }, { on := 5, ground := Ground.textOnly Departure.lateStoresUnsure }], guard := none }) rfl (fun K hK => ?_) AllReadyH.nil
    go_simp
    refine hK.out _ _ trivial (fun hHeld => ?_)
    clear hK K
    try simp only [Act.put, List.setIfInBounds_toArray, List.set_cons_zero, List.set_cons_succ]
    refine wpAnyH_take (i := 8) (oi := { dst := some 21, op := Op.fieldAddr 42 (.tmp 3) 10, type := 0, pos := "frag.go:72", after := #[{ on := 0, ground := Ground.phase }, { on := 1, ground := Ground.phase }, { on := 2, ground := Ground.phase }, { on := 3, ground := Ground.phase }, { on := 4, ground := Ground.phase }, { on := 5, ground := Ground.phase }, { on := 6, ground := Ground.phase }, { on := 7, ground := Ground.phase }], guard := none }) (v := (.pointer (some ⟨w.heap.size, 14, none⟩))) rfl (by kernel_rfl) (by kernel_rfl) (by kernel_rfl) (fun _ _ _ h => h) (Or.inl ⟨by rfl, ?_⟩) hHeld ?_
    · intro w9 hSw
      try dsimp only at hSw
      go_simp
    try simp only [Act.put, List.setIfInBounds_toArray, List.set_cons_zero, List.set_cons_succ]
    have B6 := B5.put 14 (.slice ay p.dat.length cy)
    have R6 := R5.put_other B5 (by omega) 14 (.slice ay p.dat.length cy)
    have z14 := B5.frozen 14
    have c14 := B5.cell 14 (.slice da p.dat.length dc) rfl
    refine wpAnyH_ready (rs := [9]) (by kernel_rfl) (by simp) ?_
    refine AllReadyH.cons (o := { dst := none, op := Op.store 40 (.tmp 21) (.tmp 19), type := 0, pos := "frag.go:72", after := #[{ on := 8, ground := Ground.data }, { on := 5, ground := Ground.data }, { on := 7, ground := Ground.chain }, { on := 0, ground := Ground.phase }, { on := 1, ground := Ground.phase }, { on := 2, ground := Ground.phase }, { on := 3, ground := Ground.phase }, { on := 4, ground := Ground.phase }, { on := 5, ground := Ground.phase }, { on := 6, ground := Ground.phase }, { on := 7, ground := Ground.phase }], guard := none }) rfl (fun K hK => ?_) AllReadyH.nil
    go_simp
    refine hK.out _ _ trivial (fun hHeld => ?_)
    clear hK K
    try simp only [Act.put, List.setIfInBounds_toArray, List.set_cons_zero, List.set_cons_succ]
    refine wpAnyH_done (by kernel_rfl) ?_ _
    refine NoPanic.normal ?_
    have B7 : Blk _ w.heap.size 42 (pkV p ax cx ay cy) := B6
    obtain ⟨V6, hV6⟩ : ∃ V, (V3.setCell ⟨w.heap.size, 13, none⟩ (.slice ax p.X.length cx)).setCell ⟨w.heap.size, 14, none⟩ (.slice ay p.dat.length cy) = V := ⟨_, rfl⟩
    have e6 : But (fun k => k = w.heap.size) V3 V6 := by
      rw [← hV6]
      exact ((But.refl (fun k => k = w.heap.size) V3).setCell w.heap.size 13 (.inl rfl) _).setCell w.heap.size 14 (.inl rfl) _
    rw [hV6] at B7 R6
    have HV6 : Hid _ := hV6
    rw [hV6]
    clear hV6 HV6 B6 B5 R5 R4 B4 B3 R3 z13 z14 c13 c14
    have R8 := R6.set (pkV p ax cx ay cy)
    go_wp2_with (first
      | (refine wpList_load_row rfl _ _ rfl w.heap.size (by rfl) _ _ _ _ B7 Try.underlying42 rfl (by kernel_rfl) ?_)
      | (refine wpList_store_row rfl _ _ _ rfl W1.heap.size (pkV p ax cx ay cy) (by rfl) (by rfl) _ _ R6 (by kernel_rfl) (by rfl) (by kernel_rfl) ?_))
    refine ret_cell_tmp (k := 4) (j := 5) Try.f17 (by kernel_rfl) R8 Try.underlying42 (by kernel_rfl) (by rfl) (by rfl) rfl ⟨_, _, rfl, rfl, G, ?_, fun k hk => .inl hk, ?_, ?_⟩
    · refine (HT.out.below k4).but (F := fun k => k = w.heap.size ∨ k = W1.heap.size) (((But.refl (fun k => k = w.heap.size ∨ k = W1.heap.size) V3).trans e6 (fun _ _ h => .inl h)).setRow W1.heap.size (.inl (.inr rfl)) _) (fun k hk h => ?_)
      have := HT.out.lt hk
      omega
    · have h1 : But (foot tb mb G) w V3 := But.of_below k4 _
      have h2 : But (foot tb mb G) w V6 := ⟨e6.os.trans h1.os, e6.tape.trans h1.tape, e6.output.trans h1.output, Nat.le_trans h1.size e6.size, fun k hk hn => (e6.block k (Nat.lt_of_lt_of_le hk h1.size) (by omega)).trans (h1.block k hk hn)⟩
      exact h2.setRow W1.heap.size (.inr (by omega)) _
    · have g2 := ownsI_new_of (ox.below oy.below)
      have g3 := owns_new_of oy.owns
      have l2 : V1.heap.size ≤ V2.heap.size := kx.size
      have r2 := (ox.below oy.below).row HS.out
      have r3 := oy.owns.row HB.out.1 HB.out.2
      have e7 : But (fun k => k = w.heap.size ∨ k = W1.heap.size) V3 (V6.setRow W1.heap.size (pkV p ax cx ay cy)) := ((But.refl _ V3).trans e6 (fun _ _ h => .inl h)).setRow W1.heap.size (.inl (.inr rfl)) _
      refine ⟨ax, cx, ay, cy, rfl, r2.but e7 (fun x hx hF => ?_), r3.but e7 (fun x hx hF => ?_), fun x hx => .inl ?_, fun x hx => ?_⟩
      · have := g2.1 x hx; omega
      · have := g3.1 x hx; omega
      · have := g2.1 x hx; omega
      · have := g3.1 x hx; omega
  )
end Go.Proofs.Ytbghilihccaaaaa
