/- Texts joined: RfJ -/
import Derived.Test.YtcoldgpnkdallaaDoorRxa36
namespace Go.Proofs.YtcoldgpnkdallaaDoor
abbrev rxa37o0 : Oper := { dst := none, op := Op.store 47 (.tmp 7) (.tmp 63), type := 0, pos := "ref.go:127", after := #[{ on := 10, ground := Ground.data }, { on := 4, ground := Ground.data }, { on := 0, ground := Ground.phase }, { on := 1, ground := Ground.phase }, { on := 2, ground := Ground.phase }, { on := 3, ground := Ground.phase }, { on := 4, ground := Ground.phase }, { on := 5, ground := Ground.textOnly Departure.lateStores }, { on := 6, ground := Ground.textOnly Departure.lateStores }, { on := 7, ground := Ground.textOnly Departure.lateStores }, { on := 8, ground := Ground.textOnly Departure.lateStores }, { on := 9, ground := Ground.textOnly Departure.lateStores }, { on := 10, ground := Ground.phase }, { on := 11, ground := Ground.phase }], guard := none }
abbrev rxa37o1 : Oper := { dst := none, op := Op.store 47 (.tmp 8) (.tmp 68), type := 0, pos := "ref.go:127", after := #[{ on := 11, ground := Ground.data }, { on := 9, ground := Ground.data }, { on := 12, ground := Ground.chain }, { on := 0, ground := Ground.phase }, { on := 1, ground := Ground.phase }, { on := 2, ground := Ground.phase }, { on := 3, ground := Ground.phase }, { on := 4, ground := Ground.phase }, { on := 5, ground := Ground.phase }, { on := 6, ground := Ground.phase }, { on := 7, ground := Ground.phase }, { on := 8, ground := Ground.phase }, { on := 9, ground := Ground.phase }, { on := 10, ground := Ground.phase }, { on := 11, ground := Ground.phase }, { on := 12, ground := Ground.phase }], guard := none }
abbrev rxa37o2 : Oper := { dst := some 51, op := Op.unOp UnOp.not 4 (.tmp 50), type := 4, pos := "ref.go:122", after := #[{ on := 10, ground := Ground.data }], guard := none }
abbrev rxa37o7 : Oper := { dst := some 7, op := Op.alloc 47, type := 0, pos := "ref.go:127", after := #[], guard := none }
abbrev rxa37o8 : Oper := { dst := some 8, op := Op.alloc 47, type := 0, pos := "ref.go:127", after := #[], guard := none }
end Go.Proofs.YtcoldgpnkdallaaDoor
namespace Go.Proofs.YtcoldgpnkdallaaDoor
open Go.RowKit
set_option linter.unusedVariables false
set_option linter.unusedSimpArgs false
def ChR.pl (x : ChR) : List Pt × List Int × List (List Int) := (x.L, x.K, x.S)
def CrR.pl (x : CrR) : Int × List Int × List (List Int) := (x.wd, x.K, x.S)
theorem map_take_iff {α β : Type} (f : α → β) {D D' : List α} {k : Nat} {x y : α} (hx : D[k]? = some x) (hy : D'[k]? = some y) (h : (D.take k).map f = (D'.take k).map f) : ((D.take (k + 1)).map f = (D'.take (k + 1)).map f) ↔ f x = f y := by
  rw [List.take_add_one, List.take_add_one, hx, hy, List.map_append, List.map_append, h]
  simp
theorem map_ne_at {α β : Type} (f : α → β) {D D' : List α} {k : Nat} {x y : α} (hx : D[k]? = some x) (hy : D'[k]? = some y) (h : ¬ f x = f y) : ¬ D.map f = D'.map f := fun e => h (by
  have h1 : (D.map f)[k]? = some (f x) := by rw [List.getElem?_map, hx]; rfl
  rw [e, List.getElem?_map, hy] at h1
  exact (Option.some.inj h1).symm)
/-- The document's Same of tables. -/
def SameT (D D' : List ChR) (X X' : List CrR) (F F' : List Int) : Prop := D.map ChR.pl = D'.map ChR.pl ∧ X.map CrR.pl = X'.map CrR.pl ∧ F = F'
set_option maxRecDepth 100000 in
set_option maxHeartbeats 16000000 in
theorem rsame_len (da xa fa da' xa' fa' : Option Addr) (dc xc fc dc' xc' fc' : Nat) (D D' : List ChR) (X X' : List CrR) (F F' : List Int) (w : World) (hd : D.length ≤ 17592186044416) (hx : X.length ≤ 17592186044416) (hD : RowD w da D) (hX : RowX w xa X) (hF : RowI w fa F) (hD' : RowD w da' D') (hX' : RowX w xa' X') (hF' : RowI w fa' F') (hne : ¬ (D.length = D'.length ∧ X.length = X'.length)) :
    Calls Tryd.prog 11 #[.agg #[.slice da D.length dc, .slice xa X.length xc, .slice fa F.length fc], .agg #[.slice da' D'.length dc', .slice xa' X'.length xc', .slice fa' F'.length fc']] w fun e w' => Tells e (SameT D D' X X' F F') ∧ Below w.heap.size w w' := by
  have HF0 : Hid (¬ SameT D D' X X' F F') := fun h => hne ⟨by have := congrArg List.length h.1; simpa using this, by have := congrArg List.length h.2.1; simpa using this⟩
  generalize D.length = N at *
  generalize D'.length = N' at *
  generalize X.length = M at *
  generalize X'.length = M' at *
  generalize F.length = P at *
  generalize F'.length = P' at *
  obtain ⟨W1, hW1⟩ : ∃ W1, w.alloc (.cells #[.slice da N dc, .slice xa M xc, .slice fa P fc] 27) = W1 := ⟨_, rfl⟩
  obtain ⟨W2, hW2⟩ : ∃ W2, W1.alloc (.cells #[.slice da' N' dc', .slice xa' M' xc', .slice fa' P' fc'] 27) = W2 := ⟨_, rfl⟩
  have b2 := bel_al (bel_nw hW1) hW2
  have B1 := (blk_nw hW1).al hW2
  have B2 := blk_nw hW2
  have x0 := B1.cell 0 _ rfl
  have x1 := B1.cell 1 _ rfl
  have y0 := B2.cell 0 _ rfl
  have y1 := B2.cell 1 _ rfl
  clear hD hX hF hD' hX' hF'
  by_cases h1 : N = N'
  · have h2 : ((M : Int) != (M' : Int)) = true := by
      have : M ≠ M' := fun e => hne ⟨h1, e⟩
      simp; omega
    have h1' : ((N : Int) != (N' : Int)) = false := by simp; omega
    clear h1 hne
    go_enter Tryd.func11, Tryd.ntmps11
    go_wp2
    go_ret
    exact ⟨Tells.no HF0.out, b2⟩
  · have h1' : ((N : Int) != (N' : Int)) = true := by simp; omega
    clear h1 hne
    go_enter Tryd.func11, Tryd.ntmps11
    go_wp2
    go_ret
    exact ⟨Tells.no HF0.out, b2⟩
set_option maxRecDepth 100000 in
set_option maxHeartbeats 16000000 in
theorem rsame_eq (da xa fa da' xa' fa' : Option Addr) (dc xc fc dc' xc' fc' : Nat) (D D' : List ChR) (X X' : List CrR) (F F' : List Int) (w : World) (hd : D.length ≤ 17592186044416) (hx : X.length ≤ 17592186044416) (hD : RowD w da D) (hX : RowX w xa X) (hF : RowI w fa F) (hD' : RowD w da' D') (hX' : RowX w xa' X') (hF' : RowI w fa' F') (hl1 : D.length = D'.length) (hl2 : X.length = X'.length) :
    Calls Tryd.prog 11 #[.agg #[.slice da D.length dc, .slice xa X.length xc, .slice fa F.length fc], .agg #[.slice da' D'.length dc', .slice xa' X'.length xc', .slice fa' F'.length fc']] w fun e w' => Tells e (SameT D D' X X' F F') ∧ Below w.heap.size w w' := by
  have HD : Hid (RowD w da D) := hD
  have HD' : Hid (RowD w da' D') := hD'
  have HX : Hid (RowX w xa X) := hX
  have HX' : Hid (RowX w xa' X') := hX'
  have KI : Hid (∀ (W : World) (a b : Option Addr) (c d : Nat) (x y : List Int), RowI W a x → RowI W b y → Calls Tryd.prog 20 #[.slice a x.length c, .slice b y.length d] W fun e w' => e = .returned (.bool (decide (x = y))) ∧ Below W.heap.size W w') := fun W a b c d x y h h' =>
    (sameI_any a b c d x y W h h').mono (by rintro e w' ⟨rfl, n, rfl⟩; exact ⟨rfl, below_drewN (Below.refl _ _) n⟩)
  obtain ⟨N, hN⟩ : ∃ N, D.length = N := ⟨_, rfl⟩
  obtain ⟨M, hM⟩ : ∃ M, X.length = M := ⟨_, rfl⟩
  have HN : Hid (D.length = N ∧ D'.length = N) := ⟨hN, by rw [← hl1, hN]⟩
  have HM : Hid (X.length = M ∧ X'.length = M) := ⟨hM, by rw [← hl2, hM]⟩
  rw [← hl1, ← hl2, hN, hM]
  rw [hN] at hd
  rw [hM] at hx
  clear hl1 hl2 hN hM
  obtain ⟨P, hP⟩ : ∃ P, F.length = P := ⟨_, rfl⟩
  obtain ⟨P', hP'⟩ : ∃ P', F'.length = P' := ⟨_, rfl⟩
  rw [hP, hP']
  obtain ⟨W1, hW1⟩ : ∃ W1, w.alloc (.cells #[.slice da N dc, .slice xa M xc, .slice fa P fc] 27) = W1 := ⟨_, rfl⟩
  obtain ⟨W2, hW2⟩ : ∃ W2, W1.alloc (.cells #[.slice da' N dc', .slice xa' M xc', .slice fa' P' fc'] 27) = W2 := ⟨_, rfl⟩
  have b2 := bel_al (bel_nw hW1) hW2
  have HB1 : Hid (Blk W2 w.heap.size 27 #[.slice da N dc, .slice xa M xc, .slice fa P fc]) := (blk_nw hW1).al hW2
  have HB2 : Hid (Blk W2 W1.heap.size 27 #[.slice da' N dc', .slice xa' M xc', .slice fa' P' fc']) := blk_nw hW2
  have K1 : Hid _ := KI.out W2 fa fa' fc fc' F F' (hF.below b2) (hF'.below b2)
  rw [hP, hP'] at K1
  have x0 := HB1.out.cell 0 _ rfl
  have x1 := HB1.out.cell 1 _ rfl
  have x2 := HB1.out.cell 2 _ rfl
  have y0 := HB2.out.cell 0 _ rfl
  have y1 := HB2.out.cell 1 _ rfl
  have y2 := HB2.out.cell 2 _ rfl
  obtain ⟨Z, hZ⟩ : ∃ Z, SameT D D' X X' F F' = Z := ⟨_, rfl⟩
  have HZ : Hid (SameT D D' X X' F F' = Z) := hZ
  rw [hZ]
  clear hD hX hF hD' hX' hF' hP hP' hZ
  go_enter Tryd.func11, Tryd.ntmps11
  go_wp2_with fail
  refine Calls.mono K1.out ?_
  rintro e W3 ⟨rfl, q3⟩
  have b3 := bel_tr b2 q3
  have HB13 : Hid (Blk W3 w.heap.size 27 #[.slice da N dc, .slice xa M xc, .slice fa P fc]) := HB1.out.kept q3
  have HB23 : Hid (Blk W3 W1.heap.size 27 #[.slice da' N dc', .slice xa' M xc', .slice fa' P' fc']) := HB2.out.kept q3
  clear K1 x0 x1 x2 y0 y1 y2 HB1 HB2 q3 hW1 hW2
  obtain ⟨T, hT⟩ : ∃ T, decide (F = F') = T := ⟨_, rfl⟩
  have HT : Hid (decide (F = F') = T) := hT
  rw [hT]
  clear hT
  cases T
  · have HF0 : Hid (¬ Z) := by rw [← HZ.out]; exact fun h => by have := HT.out; rw [decide_eq_false_iff_not] at this; exact this h.2.2
    go_wp2
    go_ret
    exact ⟨Tells.no HF0.out, b3⟩
  · have HFE : Hid (F = F') := (decide_eq_true_iff.1 HT.out : F = F')
    clear HT
    go_wp2_with fail
    go_loopw [5] (fun i wr => ∃ (k : Nat), k ≤ N ∧ i = .int .i64 k ∧ Hid ((D.take k).map ChR.pl = (D'.take k).map ChR.pl) ∧ Below W3.heap.size W3 wr) (fun i _ => N - (intOf i).toNat)
    case atStart => exact ⟨0, Nat.zero_le _, rfl, by rw [List.take_zero, List.take_zero]; exact Eq.refl _, Below.refl _ _⟩
    case round =>
      obtain ⟨k, hk, rfl, HE, qw⟩ := hrel
      by_cases hlt : k < N
      · have ik : (k : Int) < (N : Int) := by omega
        have k0 : (0 : Int) ≤ (k : Int) := by omega
        have hw1 : IntKind.i64.wrap ((k : Int) + 1) = ((k + 1 : Nat) : Int) := by simp [IntKind.wrap, IntKind.bits, IntKind.signed]; omega
        obtain ⟨x, hx'⟩ : ∃ x, D[k]? = some x := ⟨_, List.getElem?_eq_getElem (by rw [HN.out.1]; exact hlt)⟩
        obtain ⟨y, hy'⟩ : ∃ y, D'[k]? = some y := ⟨_, List.getElem?_eq_getElem (by rw [HN.out.2]; exact hlt)⟩
        have HXY : Hid (D[k]? = some x ∧ D'[k]? = some y) := ⟨hx', hy'⟩
        have bw : Below w.heap.size w wr := bel_tr b3 qw
        obtain ⟨bx, ox, ex, cx⟩ := (HD.out.low bw).cells k x hx'
        obtain ⟨by_, oy, ey, cy⟩ := (HD'.out.low bw).cells k y hy'
        have okx := HD.out.each x (List.mem_of_getElem? hx')
        have oky := HD'.out.each y (List.mem_of_getElem? hy')
        have KS : Hid (∀ W, Below w.heap.size w W → Calls Tryd.prog 32 #[.agg x.v, .agg y.v] W fun e w' => Tells e (x.pl = y.pl) ∧ Below W.heap.size W w') := fun W hb => by
          have := rsame_ck x.a1 x.a2 x.a3 y.a1 y.a2 y.a3 x.c1 x.c2 x.c3 y.c1 y.c2 y.c3 x.L y.L x.K y.K x.S y.S W okx.small (okx.low hb).p (okx.low hb).i (okx.low hb).s (oky.low hb).p (oky.low hb).i (oky.low hb).s
          refine this.mono ?_
          rintro e w' ⟨⟨r, rfl, hr⟩, hbb⟩
          refine ⟨⟨r, rfl, ?_⟩, hbb⟩
          rw [hr]
          simp only [ChR.pl, Prod.mk.injEq]
        have HCX : Hid (CellsAt wr bx (ox + k * 3) x.v) := cx
        have HCY : Hid (CellsAt wr by_ (oy + k * 3) y.v) := cy
        have hsx := info_chR x
        have hsy := info_chR y
        have HB1w : Hid (Blk wr w.heap.size 27 #[.slice da N dc, .slice xa M xc, .slice fa P fc]) := HB13.out.kept qw
        have HB2w : Hid (Blk wr W1.heap.size 27 #[.slice da' N dc', .slice xa' M xc', .slice fa' P' fc']) := HB23.out.kept qw
        obtain ⟨XV, hXV⟩ : ∃ XV, x.v = XV := ⟨_, rfl⟩
        obtain ⟨YV, hYV⟩ : ∃ YV, y.v = YV := ⟨_, rfl⟩
        rw [hXV] at KS HCX hsx
        rw [hYV] at KS HCY hsy
        have c10 := HB1w.out.cell 0 _ rfl
        subst ex
        subst ey
        clear hx' hy' cx cy okx oky hXV hYV
        go_wp2_with fail
        refine wp_region_noPanic ?_
        refine wp_region_held_drew (S := fun w'' => Below wr.heap.size wr w'') (by kernel_rfl) (below_drew wr) (fun hHeld => ?_)
        refine wpAnyH_take (i := 0) (oi := { dst := some 40, op := Op.fieldAddr 27 (.tmp 2) 0, type := 0, pos := "ref.go:122", after := #[], guard := none }) (v := (.pointer (some ⟨w.heap.size, 0, none⟩))) rfl (by kernel_rfl) (by kernel_rfl) (by kernel_rfl) (fun _ _ _ h => h) (Or.inl ⟨by rfl, ?_⟩) hHeld ?_
        · intro w9 hSw
          try dsimp only at hSw
          go_simp
        try simp only [Act.put, List.setIfInBounds_toArray, List.set_cons_zero, List.set_cons_succ]
        refine wpAnyH_take (i := 1) (oi := { dst := some 41, op := Op.load 23 (.tmp 40), type := 23, pos := "ref.go:122", after := #[{ on := 0, ground := Ground.data }], guard := none }) (v := (.slice (some ⟨bx, ox, none⟩) N dc)) rfl (by kernel_rfl) (by kernel_rfl) (by kernel_rfl) (fun _ _ _ h => h) (Or.inl ⟨by rfl, ?_⟩) hHeld ?_
        · intro w9 hSw
          try dsimp only at hSw
          have hcc := (HB1w.out.kept hSw).cell 0 _ rfl
          go_simp
        try simp only [Act.put, List.setIfInBounds_toArray, List.set_cons_zero, List.set_cons_succ]
        refine wpAnyH_take (i := 2) (oi := { dst := some 42, op := Op.move (.tmp 5), type := 3, pos := "ref.go:122", after := #[], guard := none }) (v := (.int .i64 (k : Int))) rfl (by kernel_rfl) (by kernel_rfl) (by kernel_rfl) (fun _ _ _ h => h) (Or.inl ⟨by rfl, ?_⟩) hHeld ?_
        · intro w9 hSw
          try dsimp only at hSw
          go_simp
        try simp only [Act.put, List.setIfInBounds_toArray, List.set_cons_zero, List.set_cons_succ]
        refine wpAnyH_take (i := 3) (oi := { dst := some 43, op := Op.indexAddr 23 (.tmp 41) (.tmp 42), type := 0, pos := "ref.go:122", after := #[{ on := 1, ground := Ground.data }, { on := 2, ground := Ground.data }], guard := none }) (v := (.pointer (some ⟨bx, ox + k * 3, none⟩))) rfl (by kernel_rfl) (by kernel_rfl) (by kernel_rfl) (fun _ _ _ h => h) (Or.inl ⟨by rfl, ?_⟩) hHeld ?_
        · intro w9 hSw
          try dsimp only at hSw
          go_simp
        try simp only [Act.put, List.setIfInBounds_toArray, List.set_cons_zero, List.set_cons_succ]
        refine wpAnyH_take (i := 4) (oi := { dst := some 44, op := Op.load 63 (.tmp 43), type := 63, pos := "ref.go:122", after := #[{ on := 3, ground := Ground.data }], guard := none }) (v := (.agg XV)) rfl (by kernel_rfl) (by kernel_rfl) (by kernel_rfl) (fun _ _ _ h => h) (yieldsIf_at (by rfl) _ _ rfl bx (ox + k * 3) (by rfl) _ (fun _ h => HCX.out.below h) Tryd.underlying63 hsx) hHeld ?_
        try simp only [Act.put, List.setIfInBounds_toArray, List.set_cons_zero, List.set_cons_succ]
        refine wpAnyH_take (i := 5) (oi := { dst := some 45, op := Op.fieldAddr 27 (.tmp 3) 0, type := 0, pos := "ref.go:122", after := #[], guard := none }) (v := (.pointer (some ⟨W1.heap.size, 0, none⟩))) rfl (by kernel_rfl) (by kernel_rfl) (by kernel_rfl) (fun _ _ _ h => h) (Or.inl ⟨by rfl, ?_⟩) hHeld ?_
        · intro w9 hSw
          try dsimp only at hSw
          go_simp
        try simp only [Act.put, List.setIfInBounds_toArray, List.set_cons_zero, List.set_cons_succ]
        refine wpAnyH_take (i := 6) (oi := { dst := some 46, op := Op.load 23 (.tmp 45), type := 23, pos := "ref.go:122", after := #[{ on := 5, ground := Ground.data }], guard := none }) (v := (.slice (some ⟨by_, oy, none⟩) N dc')) rfl (by kernel_rfl) (by kernel_rfl) (by kernel_rfl) (fun _ _ _ h => h) (Or.inl ⟨by rfl, ?_⟩) hHeld ?_
        · intro w9 hSw
          try dsimp only at hSw
          have hcc := (HB2w.out.kept hSw).cell 0 _ rfl
          go_simp
        try simp only [Act.put, List.setIfInBounds_toArray, List.set_cons_zero, List.set_cons_succ]
        refine wpAnyH_take (i := 7) (oi := { dst := some 47, op := Op.move (.tmp 5), type := 3, pos := "ref.go:122", after := #[], guard := none }) (v := (.int .i64 (k : Int))) rfl (by kernel_rfl) (by kernel_rfl) (by kernel_rfl) (fun _ _ _ h => h) (Or.inl ⟨by rfl, ?_⟩) hHeld ?_
        · intro w9 hSw
          try dsimp only at hSw
          go_simp
        try simp only [Act.put, List.setIfInBounds_toArray, List.set_cons_zero, List.set_cons_succ]
        refine wpAnyH_take (i := 8) (oi := { dst := some 48, op := Op.indexAddr 23 (.tmp 46) (.tmp 47), type := 0, pos := "ref.go:122", after := #[{ on := 6, ground := Ground.data }, { on := 7, ground := Ground.data }], guard := none }) (v := (.pointer (some ⟨by_, oy + k * 3, none⟩))) rfl (by kernel_rfl) (by kernel_rfl) (by kernel_rfl) (fun _ _ _ h => h) (Or.inl ⟨by rfl, ?_⟩) hHeld ?_
        · intro w9 hSw
          try dsimp only at hSw
          go_simp
        try simp only [Act.put, List.setIfInBounds_toArray, List.set_cons_zero, List.set_cons_succ]
        refine wpAnyH_take (i := 9) (oi := { dst := some 49, op := Op.load 63 (.tmp 48), type := 63, pos := "ref.go:122", after := #[{ on := 8, ground := Ground.data }], guard := none }) (v := (.agg YV)) rfl (by kernel_rfl) (by kernel_rfl) (by kernel_rfl) (fun _ _ _ h => h) (yieldsIf_at (by rfl) _ _ rfl by_ (oy + k * 3) (by rfl) _ (fun _ h => HCY.out.below h) Tryd.underlying63 hsy) hHeld ?_
        try simp only [Act.put, List.setIfInBounds_toArray, List.set_cons_zero, List.set_cons_succ]
        refine wpAnyH_ready (rs := [10]) (by kernel_rfl) (by simp) ?_
        refine AllReadyH.cons (o := { dst := some 50, op := Op.call { callee := Callee.value (.func 32), args := #[.tmp 44, .tmp 49], argTypes := #[63, 63] }, type := 4, pos := "ref.go:122", after := #[{ on := 4, ground := Ground.data }, { on := 9, ground := Ground.data }], guard := none }) rfl (fun K hK => ?_) AllReadyH.nil
        go_simp
        refine Calls.mono (KS.out _ (bel_tr bw (below_drew wr))) ?_
        rintro e V3 ⟨⟨r, rfl, hr⟩, q3⟩
        have HR : Hid (r = true ↔ x.pl = y.pl) := hr
        have q3w := bel_tr (below_drew wr) q3
        clear hr
        refine hK.out _ _ q3w (fun hHeld => ?_)
        clear hK K
        try simp only [Act.put, List.setIfInBounds_toArray, List.set_cons_zero, List.set_cons_succ]
        have b5 := bel_tr bw q3w
        have q5 := bel_tr qw q3w
        cases r
        · have HF0 : Hid (¬ Z) := by rw [← HZ.out]; exact fun h => map_ne_at ChR.pl HXY.out.1 HXY.out.2 (fun e => by have := HR.out.2 e; cases this) h.1
          refine wpAnyH_take (i := 11) (oi := rxa37o2) (v := (.bool true)) rfl (by kernel_rfl) (by kernel_rfl) (by kernel_rfl) (fun _ _ _ h => h) (Or.inl ⟨by rfl, ?_⟩) hHeld ?_
          · intro w9 hSw
            try dsimp only at hSw
            go_simp
          try simp only [Act.put, List.setIfInBounds_toArray, List.set_cons_zero, List.set_cons_succ]
          refine wpAnyH_done (by kernel_rfl) ?_ _
          refine NoPanic.normal ?_
          go_wp2
          go_ret
          exact ⟨Tells.no HF0.out, b5⟩
        · have HE' : Hid ((D.take (k + 1)).map ChR.pl = (D'.take (k + 1)).map ChR.pl) := (map_take_iff ChR.pl HXY.out.1 HXY.out.2 HE.out).2 (HR.out.1 rfl)
          refine wpAnyH_take (i := 11) (oi := rxa37o2) (v := (.bool false)) rfl (by kernel_rfl) (by kernel_rfl) (by kernel_rfl) (fun _ _ _ h => h) (Or.inl ⟨by rfl, ?_⟩) hHeld ?_
          · intro w9 hSw
            try dsimp only at hSw
            go_simp
          try simp only [Act.put, List.setIfInBounds_toArray, List.set_cons_zero, List.set_cons_succ]
          refine wpAnyH_done (by kernel_rfl) ?_ _
          refine NoPanic.normal ?_
          go_wp2
          exact ⟨⟨k + 1, by omega, by first | rfl | (congr 1), HE', q5⟩, by simp only [intOf]; omega⟩

      · have ik : ¬ (k : Int) < (N : Int) := by omega
        have HDE : Hid (D.map ChR.pl = D'.map ChR.pl) := by
          have := HE.out
          rw [List.take_of_length_le (by rw [HN.out.1]; omega), List.take_of_length_le (by rw [HN.out.2]; omega)] at this
          exact this
        have b4 := bel_tr b3 qw
        have HB14 : Hid (Blk wr w.heap.size 27 #[.slice da N dc, .slice xa M xc, .slice fa P fc]) := HB13.out.kept qw
        have HB24 : Hid (Blk wr W1.heap.size 27 #[.slice da' N dc', .slice xa' M xc', .slice fa' P' fc']) := HB23.out.kept qw
        obtain ⟨W4, rfl⟩ : ∃ W4, W4 = wr := ⟨_, rfl⟩
        have c10 := HB14.out.cell 0 _ rfl
        clear HE hlt HB13 HB23 qw b3
        go_wp2_with fail
        clear c10
        go_loopw [6] (fun i wr => ∃ (k : Nat), k ≤ M ∧ i = .int .i64 k ∧ Hid ((X.take k).map CrR.pl = (X'.take k).map CrR.pl) ∧ Below W4.heap.size W4 wr) (fun i _ => M - (intOf i).toNat)
        case atStart => exact ⟨0, Nat.zero_le _, rfl, by rw [List.take_zero, List.take_zero]; exact Eq.refl _, Below.refl _ _⟩
        case round =>
          clear ik hk
          obtain ⟨k, hk, rfl, HE, qw⟩ := hrel
          by_cases hlt : k < M
          · have ik : (k : Int) < (M : Int) := by omega
            have k0 : (0 : Int) ≤ (k : Int) := by omega
            have hw1 : IntKind.i64.wrap ((k : Int) + 1) = ((k + 1 : Nat) : Int) := by simp [IntKind.wrap, IntKind.bits, IntKind.signed]; omega
            obtain ⟨x, hx'⟩ : ∃ x, X[k]? = some x := ⟨_, List.getElem?_eq_getElem (by rw [HM.out.1]; exact hlt)⟩
            obtain ⟨y, hy'⟩ : ∃ y, X'[k]? = some y := ⟨_, List.getElem?_eq_getElem (by rw [HM.out.2]; exact hlt)⟩
            have HXY : Hid (X[k]? = some x ∧ X'[k]? = some y) := ⟨hx', hy'⟩
            have bw : Below w.heap.size w wr := bel_tr b4 qw
            obtain ⟨bx, ox, ex, cx⟩ := (HX.out.low bw).cells k x hx'
            obtain ⟨by_, oy, ey, cy⟩ := (HX'.out.low bw).cells k y hy'
            have HOX : Hid (CrR.ok w x) := HX.out.each x (List.mem_of_getElem? hx')
            have HOY : Hid (CrR.ok w y) := HX'.out.each y (List.mem_of_getElem? hy')
            have HSS : Hid (((X.take (k + 1)).map CrR.pl = (X'.take (k + 1)).map CrR.pl) ↔ x.pl = y.pl) := map_take_iff CrR.pl hx' hy' HE.out
            obtain ⟨wx, ax2, cx2, ax3, cx3, KX, SX⟩ := x
            obtain ⟨wy, ay2, cy2, ay3, cy3, KY, SY⟩ := y
            have HK2 : Hid (∀ W, Below w.heap.size w W → Calls Tryd.prog 20 #[.slice ax2 KX.length cx2, .slice ay2 KY.length cy2] W fun e w' => e = .returned (.bool (decide (KX = KY))) ∧ Below W.heap.size W w') := fun W hb => KI.out W ax2 ay2 cx2 cy2 KX KY (HOX.out.low hb).i (HOY.out.low hb).i
            have HK3 : Hid (∀ W, Below w.heap.size w W → Calls Tryd.prog 33 #[.slice ax3 SX.length cx3, .slice ay3 SY.length cy3] W fun e w' => Tells e (SX = SY) ∧ Below W.heap.size W w') := fun W hb => rsameSets_any ax3 ay3 cx3 cy3 SX SY W (HOX.out.low hb).s (HOY.out.low hb).s
            have HPL : Hid ((⟨wx, ax2, cx2, ax3, cx3, KX, SX⟩ : CrR).pl = (⟨wy, ay2, cy2, ay3, cy3, KY, SY⟩ : CrR).pl ↔ wx = wy ∧ KX = KY ∧ SX = SY) := by show _ ↔ _; simp only [CrR.pl, Prod.mk.injEq]
            have hvx : (⟨wx, ax2, cx2, ax3, cx3, KX, SX⟩ : CrR).v = #[.int .i64 wx, .slice ax2 KX.length cx2, .slice ax3 SX.length cx3] := rfl
            have hvy : (⟨wy, ay2, cy2, ay3, cy3, KY, SY⟩ : CrR).v = #[.int .i64 wy, .slice ay2 KY.length cy2, .slice ay3 SY.length cy3] := rfl
            rw [hvx] at cx
            rw [hvy] at cy
            obtain ⟨n1, hn1⟩ : ∃ n, KX.length = n := ⟨_, rfl⟩
            obtain ⟨n2, hn2⟩ : ∃ n, SX.length = n := ⟨_, rfl⟩
            obtain ⟨m1, hm1⟩ : ∃ n, KY.length = n := ⟨_, rfl⟩
            obtain ⟨m2, hm2⟩ : ∃ n, SY.length = n := ⟨_, rfl⟩
            rw [hn1, hn2] at cx
            rw [hm1, hm2] at cy
            rw [hn1, hm1] at HK2
            rw [hn2, hm2] at HK3
            have HCX : Hid (CellsAt wr bx (ox + k * 3) #[.int .i64 wx, .slice ax2 n1 cx2, .slice ax3 n2 cx3]) := cx
            have HCY : Hid (CellsAt wr by_ (oy + k * 3) #[.int .i64 wy, .slice ay2 m1 cy2, .slice ay3 m2 cy3]) := cy
            have hsz : (Tryd.prog.info? 47).map (·.size) = some 3 := by kernel_rfl
            have HB1w : Hid (Blk wr w.heap.size 27 #[.slice da N dc, .slice xa M xc, .slice fa P fc]) := HB14.out.kept qw
            have HB2w : Hid (Blk wr W1.heap.size 27 #[.slice da' N dc', .slice xa' M xc', .slice fa' P' fc']) := HB24.out.kept qw
            have c11 := HB1w.out.cell 1 _ rfl
            subst ex
            subst ey
            clear hx' hy' cx cy hvx hvy hn1 hn2 hm1 hm2 HE HOX HOY
            go_wp2_with fail
            refine wp_region_noPanic ?_
            refine wp_region_held_drew (S := fun w'' => Below wr.heap.size wr w'') (by kernel_rfl) (below_drew wr) (fun hHeld => ?_)
            refine wpAnyH_take (i := 0) (oi := { dst := some 59, op := Op.fieldAddr 27 (.tmp 2) 1, type := 0, pos := "ref.go:127", after := #[], guard := none }) (v := (.pointer (some ⟨w.heap.size, 1, none⟩))) rfl (by kernel_rfl) (by kernel_rfl) (by kernel_rfl) (fun _ _ _ h => h) (Or.inl ⟨by rfl, ?_⟩) hHeld ?_
            · intro w9 hSw
              try dsimp only at hSw
              go_simp
            try simp only [Act.put, List.setIfInBounds_toArray, List.set_cons_zero, List.set_cons_succ]
            refine wpAnyH_take (i := 1) (oi := { dst := some 60, op := Op.load 24 (.tmp 59), type := 24, pos := "ref.go:127", after := #[{ on := 0, ground := Ground.data }], guard := none }) (v := (.slice (some ⟨bx, ox, none⟩) M xc)) rfl (by kernel_rfl) (by kernel_rfl) (by kernel_rfl) (fun _ _ _ h => h) (Or.inl ⟨by rfl, ?_⟩) hHeld ?_
            · intro w9 hSw
              try dsimp only at hSw
              have hcc := (HB1w.out.kept hSw).cell 1 _ rfl
              go_simp
            try simp only [Act.put, List.setIfInBounds_toArray, List.set_cons_zero, List.set_cons_succ]
            refine wpAnyH_take (i := 2) (oi := { dst := some 61, op := Op.move (.tmp 6), type := 3, pos := "ref.go:127", after := #[], guard := none }) (v := (.int .i64 (k : Int))) rfl (by kernel_rfl) (by kernel_rfl) (by kernel_rfl) (fun _ _ _ h => h) (Or.inl ⟨by rfl, ?_⟩) hHeld ?_
            · intro w9 hSw
              try dsimp only at hSw
              go_simp
            try simp only [Act.put, List.setIfInBounds_toArray, List.set_cons_zero, List.set_cons_succ]
            refine wpAnyH_take (i := 3) (oi := { dst := some 62, op := Op.indexAddr 24 (.tmp 60) (.tmp 61), type := 0, pos := "ref.go:127", after := #[{ on := 1, ground := Ground.data }, { on := 2, ground := Ground.data }], guard := none }) (v := (.pointer (some ⟨bx, ox + k * 3, none⟩))) rfl (by kernel_rfl) (by kernel_rfl) (by kernel_rfl) (fun _ _ _ h => h) (Or.inl ⟨by rfl, ?_⟩) hHeld ?_
            · intro w9 hSw
              try dsimp only at hSw
              go_simp
            try simp only [Act.put, List.setIfInBounds_toArray, List.set_cons_zero, List.set_cons_succ]
            refine wpAnyH_take (i := 4) (oi := { dst := some 63, op := Op.load 47 (.tmp 62), type := 47, pos := "ref.go:127", after := #[{ on := 3, ground := Ground.data }], guard := none }) (v := (.agg #[.int .i64 wx, .slice ax2 n1 cx2, .slice ax3 n2 cx3])) rfl (by kernel_rfl) (by kernel_rfl) (by kernel_rfl) (fun _ _ _ h => h) (yieldsIf_at (by rfl) _ _ rfl bx (ox + k * 3) (by rfl) _ (fun _ h => HCX.out.below h) Tryd.underlying47 hsz) hHeld ?_
            try simp only [Act.put, List.setIfInBounds_toArray, List.set_cons_zero, List.set_cons_succ]
            refine wpAnyH_take (i := 5) (oi := { dst := some 64, op := Op.fieldAddr 27 (.tmp 3) 1, type := 0, pos := "ref.go:127", after := #[{ on := 12, ground := Ground.gcOnly Departure.lateStores }], guard := none }) (v := (.pointer (some ⟨W1.heap.size, 1, none⟩))) rfl (by kernel_rfl) (by kernel_rfl) (by kernel_rfl) (fun _ _ _ h => h) (Or.inl ⟨by rfl, ?_⟩) hHeld ?_
            · intro w9 hSw
              try dsimp only at hSw
              go_simp
            try simp only [Act.put, List.setIfInBounds_toArray, List.set_cons_zero, List.set_cons_succ]
            refine wpAnyH_take (i := 6) (oi := { dst := some 65, op := Op.load 24 (.tmp 64), type := 24, pos := "ref.go:127", after := #[{ on := 5, ground := Ground.data }, { on := 12, ground := Ground.gcOnly Departure.lateStores }], guard := none }) (v := (.slice (some ⟨by_, oy, none⟩) M xc')) rfl (by kernel_rfl) (by kernel_rfl) (by kernel_rfl) (fun _ _ _ h => h) (Or.inl ⟨by rfl, ?_⟩) hHeld ?_
            · intro w9 hSw
              try dsimp only at hSw
              have hcc := (HB2w.out.kept hSw).cell 1 _ rfl
              go_simp
            try simp only [Act.put, List.setIfInBounds_toArray, List.set_cons_zero, List.set_cons_succ]
            refine wpAnyH_take (i := 7) (oi := { dst := some 66, op := Op.move (.tmp 6), type := 3, pos := "ref.go:127", after := #[{ on := 12, ground := Ground.gcOnly Departure.lateStores }], guard := none }) (v := (.int .i64 (k : Int))) rfl (by kernel_rfl) (by kernel_rfl) (by kernel_rfl) (fun _ _ _ h => h) (Or.inl ⟨by rfl, ?_⟩) hHeld ?_
            · intro w9 hSw
              try dsimp only at hSw
              go_simp
            try simp only [Act.put, List.setIfInBounds_toArray, List.set_cons_zero, List.set_cons_succ]
            refine wpAnyH_take (i := 8) (oi := { dst := some 67, op := Op.indexAddr 24 (.tmp 65) (.tmp 66), type := 0, pos := "ref.go:127", after := #[{ on := 6, ground := Ground.data }, { on := 7, ground := Ground.data }, { on := 12, ground := Ground.gcOnly Departure.lateStores }], guard := none }) (v := (.pointer (some ⟨by_, oy + k * 3, none⟩))) rfl (by kernel_rfl) (by kernel_rfl) (by kernel_rfl) (fun _ _ _ h => h) (Or.inl ⟨by rfl, ?_⟩) hHeld ?_
            · intro w9 hSw
              try dsimp only at hSw
              go_simp
            try simp only [Act.put, List.setIfInBounds_toArray, List.set_cons_zero, List.set_cons_succ]
            refine wpAnyH_take (i := 9) (oi := { dst := some 68, op := Op.load 47 (.tmp 67), type := 47, pos := "ref.go:127", after := #[{ on := 8, ground := Ground.data }, { on := 12, ground := Ground.gcOnly Departure.lateStores }], guard := none }) (v := (.agg #[.int .i64 wy, .slice ay2 m1 cy2, .slice ay3 m2 cy3])) rfl (by kernel_rfl) (by kernel_rfl) (by kernel_rfl) (fun _ _ _ h => h) (yieldsIf_at (by rfl) _ _ rfl by_ (oy + k * 3) (by rfl) _ (fun _ h => HCY.out.below h) Tryd.underlying47 hsz) hHeld ?_
            try simp only [Act.put, List.setIfInBounds_toArray, List.set_cons_zero, List.set_cons_succ]
            obtain ⟨V1, hV1⟩ : ∃ V1, wr.drew = V1 := ⟨_, rfl⟩
            have q1 : Below wr.heap.size wr V1 := by rw [← hV1]; exact below_drew wr
            rw [hV1]
            obtain ⟨V2, hV2⟩ : ∃ V2, V1.alloc (.cells zx3 47) = V2 := ⟨_, rfl⟩
            obtain ⟨V3, hV3⟩ : ∃ V3, V2.alloc (.cells zx3 47) = V3 := ⟨_, rfl⟩
            have q2 := bel_al q1 hV2
            have q3 := bel_al q2 hV3
            have G1 : Blk V3 V1.heap.size 47 zx3 := (blk_nw hV2).al hV3
            have G2 : Blk V3 V2.heap.size 47 zx3 := blk_nw hV3
            have g12 : V1.heap.size < V2.heap.size := (blk_nw hV2).lt
            have wv1 : wr.heap.size ≤ V1.heap.size := q1.size
            have wv2 : wr.heap.size ≤ V2.heap.size := q2.size
            refine wpAnyH_ready (rs := [10, 11]) (by kernel_rfl) (by simp) ?_
            refine AllReadyH.cons (o := rxa37o7) rfl (fun K hK => ?_) (AllReadyH.cons (o := rxa37o8) rfl (fun K hK => ?_) AllReadyH.nil)
            · go_simp
              try rw [hV2]
              refine hK.out _ _ q2 (fun hHeld => ?_)
              clear hK K
              try simp only [Act.put, List.setIfInBounds_toArray, List.set_cons_zero, List.set_cons_succ]
              refine wpAnyH_ready (rs := [11]) (by kernel_rfl) (by simp) ?_
              refine AllReadyH.cons (o := rxa37o8) rfl (fun K hK => ?_) AllReadyH.nil
              go_simp
              try rw [hV3]
              refine hK.out _ _ q3 (fun hHeld => ?_)
              clear hK K
              try simp only [Act.put, List.setIfInBounds_toArray, List.set_cons_zero, List.set_cons_succ]
              obtain ⟨V4, hV4⟩ : ∃ V4, V3.setRow V1.heap.size #[.int .i64 wx, .slice ax2 n1 cx2, .slice ax3 n2 cx3] = V4 := ⟨_, rfl⟩
              obtain ⟨V5, hV5⟩ : ∃ V5, V4.setRow V2.heap.size #[.int .i64 wy, .slice ay2 m1 cy2, .slice ay3 m2 cy3] = V5 := ⟨_, rfl⟩
              have q4 : Below wr.heap.size wr V4 := by rw [← hV4]; exact below_setRow q3 (by omega) _
              have q5 : Below wr.heap.size wr V5 := by rw [← hV5]; exact below_setRow q4 (by omega) _
              have X4 : Blk V4 V1.heap.size 47 #[.int .i64 wx, .slice ax2 n1 cx2, .slice ax3 n2 cx3] := by rw [← hV4]; exact G1.set _
              have Y4 : Blk V4 V2.heap.size 47 zx3 := by rw [← hV4]; exact G2.other (by omega) _
              have HX5 : Hid (Blk V5 V1.heap.size 47 #[.int .i64 wx, .slice ax2 n1 cx2, .slice ax3 n2 cx3]) := by show Blk _ _ _ _; rw [← hV5]; exact X4.other (by omega) _
              have HY5 : Hid (Blk V5 V2.heap.size 47 #[.int .i64 wy, .slice ay2 m1 cy2, .slice ay3 m2 cy3]) := by show Blk _ _ _ _; rw [← hV5]; exact Y4.set _
              refine wpAnyH_ready (rs := [12]) (by kernel_rfl) (by simp) ?_
              refine AllReadyH.cons (o := rxa37o0) rfl (fun K hK => ?_) AllReadyH.nil
              refine step_store_blk rfl 47 _ _ rfl V1.heap.size #[.int .i64 wx, .slice ax2 n1 cx2, .slice ax3 n2 cx3] zx3 (by rfl) (by rfl) G1 (by kernel_rfl) rfl (by kernel_rfl) ?_
              rw [hV4]
              refine hK.out _ _ q4 (fun hHeld => ?_)
              clear hK K
              try simp only [Act.put, List.setIfInBounds_toArray, List.set_cons_zero, List.set_cons_succ]
              refine wpAnyH_ready (rs := [13]) (by kernel_rfl) (by simp) ?_
              refine AllReadyH.cons (o := rxa37o1) rfl (fun K hK => ?_) AllReadyH.nil
              refine step_store_blk rfl 47 _ _ rfl V2.heap.size #[.int .i64 wy, .slice ay2 m1 cy2, .slice ay3 m2 cy3] zx3 (by rfl) (by rfl) Y4 (by kernel_rfl) rfl (by kernel_rfl) ?_
              rw [hV5]
              refine hK.out _ _ q5 (fun hHeld => ?_)
              clear hK K
              try simp only [Act.put, List.setIfInBounds_toArray, List.set_cons_zero, List.set_cons_succ]
              refine wpAnyH_done (by kernel_rfl) ?_ _
              refine NoPanic.normal ?_
              have bw5 := bel_tr bw q5
              have qw5 := bel_tr qw q5
              have x0 := HX5.out.cell 0 _ rfl
              have y0 := HY5.out.cell 0 _ rfl
              have x1 := HX5.out.cell 1 _ rfl
              have y1 := HY5.out.cell 1 _ rfl
              clear X4 Y4 G1 G2 hV2 hV3 hV4 hV5 q2 q3 q4 q1 g12
              by_cases hwd : wx = wy
              · have hwd' : (wx != wy) = false := by simp [hwd]
                have HWD : Hid (wx = wy) := hwd
                have K2 : Hid _ := HK2.out V5 bw5
                clear hwd
                go_wp2_with fail
                refine Calls.mono K2.out ?_
                rintro e V6 ⟨rfl, q6⟩
                have bw6 := bel_tr bw5 q6
                have qw6 := bel_tr qw5 q6
                have HX6 : Hid (Blk V6 V1.heap.size 47 #[.int .i64 wx, .slice ax2 n1 cx2, .slice ax3 n2 cx3]) := HX5.out.kept q6
                have HY6 : Hid (Blk V6 V2.heap.size 47 #[.int .i64 wy, .slice ay2 m1 cy2, .slice ay3 m2 cy3]) := HY5.out.kept q6
                obtain ⟨T, hT⟩ : ∃ T, decide (KX = KY) = T := ⟨_, rfl⟩
                have HT : Hid (decide (KX = KY) = T) := hT
                rw [hT]
                clear hT K2 q6 x0 x1 y0 y1 HX5 HY5 bw5 qw5
                cases T
                · have HF0 : Hid (¬ Z) := by rw [← HZ.out]; exact fun h => map_ne_at CrR.pl HXY.out.1 HXY.out.2 (fun e => by have := HT.out; rw [decide_eq_false_iff_not] at this; exact this (HPL.out.1 e).2.1) h.2.1
                  go_wp2
                  go_ret
                  exact ⟨Tells.no HF0.out, bw6⟩
                · have HKE : Hid (KX = KY) := (decide_eq_true_iff.1 HT.out : KX = KY)
                  have K3 : Hid _ := HK3.out V6 bw6
                  have x2 := HX6.out.cell 2 _ rfl
                  have y2 := HY6.out.cell 2 _ rfl
                  go_wp2_with fail
                  refine Calls.mono K3.out ?_
                  rintro e V7 ⟨⟨r, rfl, hr⟩, q7⟩
                  have HR : Hid (r = true ↔ SX = SY) := hr
                  have bw7 := bel_tr bw6 q7
                  have qw7 := bel_tr qw6 q7
                  clear hr K3 x2 y2 q7 bw6 qw6 HX6 HY6
                  cases r
                  · have HF0 : Hid (¬ Z) := by rw [← HZ.out]; exact fun h => map_ne_at CrR.pl HXY.out.1 HXY.out.2 (fun e => by have := HR.out.2 (HPL.out.1 e).2.2; cases this) h.2.1
                    go_wp2
                    go_ret
                    exact ⟨Tells.no HF0.out, bw7⟩
                  · have HE' : Hid ((X.take (k + 1)).map CrR.pl = (X'.take (k + 1)).map CrR.pl) := HSS.out.2 (HPL.out.2 ⟨HWD.out, HKE.out, HR.out.1 rfl⟩)
                    go_wp2
                    exact ⟨⟨k + 1, by omega, by first | rfl | (congr 1), HE', qw7⟩, by simp only [intOf]; omega⟩
              · have hwd' : (wx != wy) = true := by simp [hwd]
                have HF0 : Hid (¬ Z) := by rw [← HZ.out]; exact fun h => map_ne_at CrR.pl HXY.out.1 HXY.out.2 (fun e => hwd (HPL.out.1 e).1) h.2.1
                clear hwd
                go_wp2
                go_ret
                exact ⟨Tells.no HF0.out, bw5⟩
            · go_simp
              try rw [hV2]
              refine hK.out _ _ q2 (fun hHeld => ?_)
              clear hK K
              try simp only [Act.put, List.setIfInBounds_toArray, List.set_cons_zero, List.set_cons_succ]
              refine wpAnyH_ready (rs := [10]) (by kernel_rfl) (by simp) ?_
              refine AllReadyH.cons (o := rxa37o7) rfl (fun K hK => ?_) AllReadyH.nil
              go_simp
              try rw [hV3]
              refine hK.out _ _ q3 (fun hHeld => ?_)
              clear hK K
              try simp only [Act.put, List.setIfInBounds_toArray, List.set_cons_zero, List.set_cons_succ]
              obtain ⟨V4, hV4⟩ : ∃ V4, V3.setRow V2.heap.size #[.int .i64 wx, .slice ax2 n1 cx2, .slice ax3 n2 cx3] = V4 := ⟨_, rfl⟩
              obtain ⟨V5, hV5⟩ : ∃ V5, V4.setRow V1.heap.size #[.int .i64 wy, .slice ay2 m1 cy2, .slice ay3 m2 cy3] = V5 := ⟨_, rfl⟩
              have q4 : Below wr.heap.size wr V4 := by rw [← hV4]; exact below_setRow q3 (by omega) _
              have q5 : Below wr.heap.size wr V5 := by rw [← hV5]; exact below_setRow q4 (by omega) _
              have X4 : Blk V4 V2.heap.size 47 #[.int .i64 wx, .slice ax2 n1 cx2, .slice ax3 n2 cx3] := by rw [← hV4]; exact G2.set _
              have Y4 : Blk V4 V1.heap.size 47 zx3 := by rw [← hV4]; exact G1.other (by omega) _
              have HX5 : Hid (Blk V5 V2.heap.size 47 #[.int .i64 wx, .slice ax2 n1 cx2, .slice ax3 n2 cx3]) := by show Blk _ _ _ _; rw [← hV5]; exact X4.other (by omega) _
              have HY5 : Hid (Blk V5 V1.heap.size 47 #[.int .i64 wy, .slice ay2 m1 cy2, .slice ay3 m2 cy3]) := by show Blk _ _ _ _; rw [← hV5]; exact Y4.set _
              refine wpAnyH_ready (rs := [12]) (by kernel_rfl) (by simp) ?_
              refine AllReadyH.cons (o := rxa37o0) rfl (fun K hK => ?_) AllReadyH.nil
              refine step_store_blk rfl 47 _ _ rfl V2.heap.size #[.int .i64 wx, .slice ax2 n1 cx2, .slice ax3 n2 cx3] zx3 (by rfl) (by rfl) G2 (by kernel_rfl) rfl (by kernel_rfl) ?_
              rw [hV4]
              refine hK.out _ _ q4 (fun hHeld => ?_)
              clear hK K
              try simp only [Act.put, List.setIfInBounds_toArray, List.set_cons_zero, List.set_cons_succ]
              refine wpAnyH_ready (rs := [13]) (by kernel_rfl) (by simp) ?_
              refine AllReadyH.cons (o := rxa37o1) rfl (fun K hK => ?_) AllReadyH.nil
              refine step_store_blk rfl 47 _ _ rfl V1.heap.size #[.int .i64 wy, .slice ay2 m1 cy2, .slice ay3 m2 cy3] zx3 (by rfl) (by rfl) Y4 (by kernel_rfl) rfl (by kernel_rfl) ?_
              rw [hV5]
              refine hK.out _ _ q5 (fun hHeld => ?_)
              clear hK K
              try simp only [Act.put, List.setIfInBounds_toArray, List.set_cons_zero, List.set_cons_succ]
              refine wpAnyH_done (by kernel_rfl) ?_ _
              refine NoPanic.normal ?_
              have bw5 := bel_tr bw q5
              have qw5 := bel_tr qw q5
              have x0 := HX5.out.cell 0 _ rfl
              have y0 := HY5.out.cell 0 _ rfl
              have x1 := HX5.out.cell 1 _ rfl
              have y1 := HY5.out.cell 1 _ rfl
              clear X4 Y4 G1 G2 hV2 hV3 hV4 hV5 q2 q3 q4 q1 g12
              by_cases hwd : wx = wy
              · have hwd' : (wx != wy) = false := by simp [hwd]
                have HWD : Hid (wx = wy) := hwd
                have K2 : Hid _ := HK2.out V5 bw5
                clear hwd
                go_wp2_with fail
                refine Calls.mono K2.out ?_
                rintro e V6 ⟨rfl, q6⟩
                have bw6 := bel_tr bw5 q6
                have qw6 := bel_tr qw5 q6
                have HX6 : Hid (Blk V6 V2.heap.size 47 #[.int .i64 wx, .slice ax2 n1 cx2, .slice ax3 n2 cx3]) := HX5.out.kept q6
                have HY6 : Hid (Blk V6 V1.heap.size 47 #[.int .i64 wy, .slice ay2 m1 cy2, .slice ay3 m2 cy3]) := HY5.out.kept q6
                obtain ⟨T, hT⟩ : ∃ T, decide (KX = KY) = T := ⟨_, rfl⟩
                have HT : Hid (decide (KX = KY) = T) := hT
                rw [hT]
                clear hT K2 q6 x0 x1 y0 y1 HX5 HY5 bw5 qw5
                cases T
                · have HF0 : Hid (¬ Z) := by rw [← HZ.out]; exact fun h => map_ne_at CrR.pl HXY.out.1 HXY.out.2 (fun e => by have := HT.out; rw [decide_eq_false_iff_not] at this; exact this (HPL.out.1 e).2.1) h.2.1
                  go_wp2
                  go_ret
                  exact ⟨Tells.no HF0.out, bw6⟩
                · have HKE : Hid (KX = KY) := (decide_eq_true_iff.1 HT.out : KX = KY)
                  have K3 : Hid _ := HK3.out V6 bw6
                  have x2 := HX6.out.cell 2 _ rfl
                  have y2 := HY6.out.cell 2 _ rfl
                  go_wp2_with fail
                  refine Calls.mono K3.out ?_
                  rintro e V7 ⟨⟨r, rfl, hr⟩, q7⟩
                  have HR : Hid (r = true ↔ SX = SY) := hr
                  have bw7 := bel_tr bw6 q7
                  have qw7 := bel_tr qw6 q7
                  clear hr K3 x2 y2 q7 bw6 qw6 HX6 HY6
                  cases r
                  · have HF0 : Hid (¬ Z) := by rw [← HZ.out]; exact fun h => map_ne_at CrR.pl HXY.out.1 HXY.out.2 (fun e => by have := HR.out.2 (HPL.out.1 e).2.2; cases this) h.2.1
                    go_wp2
                    go_ret
                    exact ⟨Tells.no HF0.out, bw7⟩
                  · have HE' : Hid ((X.take (k + 1)).map CrR.pl = (X'.take (k + 1)).map CrR.pl) := HSS.out.2 (HPL.out.2 ⟨HWD.out, HKE.out, HR.out.1 rfl⟩)
                    go_wp2
                    exact ⟨⟨k + 1, by omega, by first | rfl | (congr 1), HE', qw7⟩, by simp only [intOf]; omega⟩
              · have hwd' : (wx != wy) = true := by simp [hwd]
                have HF0 : Hid (¬ Z) := by rw [← HZ.out]; exact fun h => map_ne_at CrR.pl HXY.out.1 HXY.out.2 (fun e => hwd (HPL.out.1 e).1) h.2.1
                clear hwd
                go_wp2
                go_ret
                exact ⟨Tells.no HF0.out, bw5⟩

          · have ik : ¬ (k : Int) < (M : Int) := by omega
            have HXE : Hid (X.map CrR.pl = X'.map CrR.pl) := by
              have := HE.out
              rw [List.take_of_length_le (by rw [HM.out.1]; omega), List.take_of_length_le (by rw [HM.out.2]; omega)] at this
              exact this
            have HZ1 : Hid Z := by rw [← HZ.out]; exact ⟨HDE.out, HXE.out, HFE.out⟩
            have b5 := bel_tr b4 qw
            have c11 := (HB14.out.kept qw).cell 1 _ rfl
            go_wp2
            go_ret
            exact ⟨Tells.yes HZ1.out, b5⟩
theorem rsame_any (da xa fa da' xa' fa' : Option Addr) (dc xc fc dc' xc' fc' : Nat) (D D' : List ChR) (X X' : List CrR) (F F' : List Int) (w : World) (hd : D.length ≤ 17592186044416) (hx : X.length ≤ 17592186044416) (hD : RowD w da D) (hX : RowX w xa X) (hF : RowI w fa F) (hD' : RowD w da' D') (hX' : RowX w xa' X') (hF' : RowI w fa' F') :
    Calls Tryd.prog 11 #[.agg #[.slice da D.length dc, .slice xa X.length xc, .slice fa F.length fc], .agg #[.slice da' D'.length dc', .slice xa' X'.length xc', .slice fa' F'.length fc']] w fun e w' => Tells e (SameT D D' X X' F F') ∧ Below w.heap.size w w' := by
  by_cases h : D.length = D'.length ∧ X.length = X'.length
  · exact rsame_eq da xa fa da' xa' fa' dc xc fc dc' xc' fc' D D' X X' F F' w hd hx hD hX hF hD' hX' hF' h.1 h.2
  · exact rsame_len da xa fa da' xa' fa' dc xc fc dc' xc' fc' D D' X X' F F' w hd hx hD hX hF hD' hX' hF' h
end Go.Proofs.YtcoldgpnkdallaaDoor
