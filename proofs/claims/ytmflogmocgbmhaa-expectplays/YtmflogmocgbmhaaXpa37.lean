/- Texts joined: XpZ -/
import Derived.Test.YtmflogmocgbmhaaXpa36
namespace Go.Proofs.Ytmflogmocgbmhaa
open Go.RowKit
set_option linter.unusedVariables false
set_option linter.unusedSimpArgs false
set_option maxRecDepth 100000 in
set_option maxHeartbeats 4000000 in
theorem rnewY_xp (m q : Int) (w : World) (hm : capW m = true) (hq : capW q = true) :
    Calls Try.prog 16 #[.int .i64 m, .int .i64 q] w fun e w' => e = .returned (.tuple #[.agg (docW ⟨m, q, 0, []⟩ none 0), .int .i64 0]) ∧ Below w.heap.size w w' := by
  obtain ⟨R, hR⟩ : ∃ R, (7777 : Int) = R := ⟨_, rfl⟩
  have HR : Hid ((7777 : Int) = R) := hR
  try rw [hR]
  clear hR
  have b := Below.refl w.heap.size w
  go_enter Try.func16, Try.ntmps16
  obtain ⟨Wm1, hWm1⟩ : ∃ W, w.alloc (.cells #[.int .i64 0, .int .i64 0, .int .i64 0, .slice none 0 0] 41) = W := ⟨_, rfl⟩
  have bm1 := bel_al b hWm1
  have Am1 := blk_nw hWm1
  have gA : w.heap.size ≤ w.heap.size := b.size
  go_wp2_with fail
  refine Calls.mono (in_capW m _) ?_
  rintro e Wm2 ⟨rfl, bb⟩
  have Am2 := Am1.kept bb
  have bm2 := bel_tr bm1 bb
  clear bb
  clear Am1 bm1
  go_wp2_with fail
  refine Calls.mono (in_capW q _) ?_
  rintro e Wm3 ⟨rfl, bb⟩
  have Am3 := Am2.kept bb
  have bm3 := bel_tr bm2 bb
  clear bb
  clear Am2 bm2
  obtain ⟨Wm4, hWm4⟩ : ∃ W, Wm3.setRow w.heap.size #[.int .i64 m, .int .i64 q, .int .i64 0, .slice none 0 0] = W := ⟨_, rfl⟩
  have Am4 : Blk Wm4 w.heap.size 41 #[.int .i64 m, .int .i64 q, .int .i64 0, .slice none 0 0] := hWm4 ▸ Am3.set #[.int .i64 m, .int .i64 q, .int .i64 0, .slice none 0 0]
  have bm4 := hWm4 ▸ below_setRow bm3 gA #[.int .i64 m, .int .i64 q, .int .i64 0, .slice none 0 0]
  go_wp2_with (refine wpList_store_row rfl _ _ _ rfl w.heap.size #[.int .i64 m, .int .i64 q, .int .i64 0, .slice none 0 0] (by rfl) (by rfl) _ _ Am3 (by kernel_rfl) (by rfl) (by kernel_rfl) ?_; rw [hWm4])
  exact ret_cell_tmp (k := 4) (j := 5) (v := .int .i64 0) Try.f16 (by kernel_rfl) Am4 Try.underlying41 (by kernel_rfl) (by rfl) (by rfl) rfl ⟨rfl, bm4⟩
set_option maxRecDepth 100000 in
set_option maxHeartbeats 4000000 in
theorem rnewN_xp (m q : Int) (w : World) (hc : ¬ (capW m = true ∧ capW q = true)) :
    Calls Try.prog 16 #[.int .i64 m, .int .i64 q] w fun e w' => e = .returned (.tuple #[.agg #[.int .i64 0, .int .i64 0, .int .i64 0, .slice none 0 0], .int .i64 1]) ∧ Below w.heap.size w w' := by
  obtain ⟨R, hR⟩ : ∃ R, (7777 : Int) = R := ⟨_, rfl⟩
  have HR : Hid ((7777 : Int) = R) := hR
  try rw [hR]
  clear hR
  have b := Below.refl w.heap.size w
  go_enter Try.func16, Try.ntmps16
  obtain ⟨Wm1, hWm1⟩ : ∃ W, w.alloc (.cells #[.int .i64 0, .int .i64 0, .int .i64 0, .slice none 0 0] 41) = W := ⟨_, rfl⟩
  have bm1 := bel_al b hWm1
  have Am1 := blk_nw hWm1
  have gA : w.heap.size ≤ w.heap.size := b.size
  go_wp2_with fail
  refine Calls.mono (in_capW m _) ?_
  rintro e Wm2 ⟨rfl, bb⟩
  have Am2 := Am1.kept bb
  have bm2 := bel_tr bm1 bb
  clear bb
  clear Am1 bm1
  cases hq3 : (capW m) with
  | false =>
    obtain ⟨Wm4, hWm4⟩ : ∃ W, Wm2.setRow w.heap.size #[.int .i64 0, .int .i64 0, .int .i64 0, .slice none 0 0] = W := ⟨_, rfl⟩
    have Am4 : Blk Wm4 w.heap.size 41 #[.int .i64 0, .int .i64 0, .int .i64 0, .slice none 0 0] := hWm4 ▸ Am2.set #[.int .i64 0, .int .i64 0, .int .i64 0, .slice none 0 0]
    have bm4 := hWm4 ▸ below_setRow bm2 gA #[.int .i64 0, .int .i64 0, .int .i64 0, .slice none 0 0]
    go_wp2_with (refine wpList_store_row rfl _ _ _ rfl w.heap.size #[.int .i64 0, .int .i64 0, .int .i64 0, .slice none 0 0] (by rfl) (by rfl) _ _ Am2 (by kernel_rfl) (by rfl) (by kernel_rfl) ?_; rw [hWm4])
    exact ret_cell_tmp (k := 4) (j := 5) (v := .int .i64 1) Try.f16 (by kernel_rfl) Am4 Try.underlying41 (by kernel_rfl) (by rfl) (by rfl) rfl ⟨rfl, bm4⟩

  | true =>
    go_wp2_with fail
    refine Calls.mono (in_capW q _) ?_
    rintro e Wm5 ⟨rfl, bb⟩
    have Am5 := Am2.kept bb
    have bm5 := bel_tr bm2 bb
    clear bb
    clear Am2 bm2
    cases hq6 : (capW q) with
    | false =>
      obtain ⟨Wm7, hWm7⟩ : ∃ W, Wm5.setRow w.heap.size #[.int .i64 0, .int .i64 0, .int .i64 0, .slice none 0 0] = W := ⟨_, rfl⟩
      have Am7 : Blk Wm7 w.heap.size 41 #[.int .i64 0, .int .i64 0, .int .i64 0, .slice none 0 0] := hWm7 ▸ Am5.set #[.int .i64 0, .int .i64 0, .int .i64 0, .slice none 0 0]
      have bm7 := hWm7 ▸ below_setRow bm5 gA #[.int .i64 0, .int .i64 0, .int .i64 0, .slice none 0 0]
      go_wp2_with (refine wpList_store_row rfl _ _ _ rfl w.heap.size #[.int .i64 0, .int .i64 0, .int .i64 0, .slice none 0 0] (by rfl) (by rfl) _ _ Am5 (by kernel_rfl) (by rfl) (by kernel_rfl) ?_; rw [hWm7])
      exact ret_cell_tmp (k := 4) (j := 5) (v := .int .i64 1) Try.f16 (by kernel_rfl) Am7 Try.underlying41 (by kernel_rfl) (by rfl) (by rfl) rfl ⟨rfl, bm7⟩

    | true =>
      obtain ⟨Wm8, hWm8⟩ : ∃ W, Wm5.setRow w.heap.size #[.int .i64 m, .int .i64 q, .int .i64 0, .slice none 0 0] = W := ⟨_, rfl⟩
      have Am8 : Blk Wm8 w.heap.size 41 #[.int .i64 m, .int .i64 q, .int .i64 0, .slice none 0 0] := hWm8 ▸ Am5.set #[.int .i64 m, .int .i64 q, .int .i64 0, .slice none 0 0]
      have bm8 := hWm8 ▸ below_setRow bm5 gA #[.int .i64 m, .int .i64 q, .int .i64 0, .slice none 0 0]
      go_wp2_with (refine wpList_store_row rfl _ _ _ rfl w.heap.size #[.int .i64 m, .int .i64 q, .int .i64 0, .slice none 0 0] (by rfl) (by rfl) _ _ Am5 (by kernel_rfl) (by rfl) (by kernel_rfl) ?_; rw [hWm8])
      exact absurd ⟨(by assumption : capW m = true), (by assumption : capW q = true)⟩ hc
/-- The document's table at rb, whose list lies in the block ld. -/
structure DocX (w : World) (rb ld : Nat) (s : Xt) : Prop where
  ok : XtOk s
  lt : rb < w.heap.size ∧ ld < w.heap.size
  ex : ∃ a c, DocO w rb s a c ∧ ∀ y : Addr, a = some y → y.block = ld
theorem DocX.but {F : Nat → Prop} {w w' : World} {rb ld : Nat} {s : Xt} (h : DocX w rb ld s) (b : But F w w') (h1 : ¬ F rb) (h2 : ¬ F ld) : DocX w' rb ld s := by
  obtain ⟨a, c, D, hl⟩ := h.ex
  exact ⟨h.ok, ⟨Nat.lt_of_lt_of_le h.lt.1 b.size, Nat.lt_of_lt_of_le h.lt.2 b.size⟩, a, c, ⟨D.tab.but b h1, D.row.but b (fun y hy => by rw [hl y hy]; exact h2), D.ne⟩, hl⟩
theorem DocX.kept {w w' : World} {rb ld : Nat} {s : Xt} (h : DocX w rb ld s) (b : Below w.heap.size w w') : DocX w' rb ld s := h.but (But.of_below b (fun _ => False)) (fun x => x) (fun x => x)
theorem DocX.al {w w' : World} {rb ld : Nat} {s : Xt} {o : Obj} (h : DocX w rb ld s) (e : w.alloc o = w') : DocX w' rb ld s := h.kept (bel_nw e)
theorem DocX.drew {w : World} {rb ld : Nat} {s : Xt} (h : DocX w rb ld s) : DocX w.drew rb ld s := h.kept (Below.refl _ _).drew
theorem DocX.other {w : World} {rb ld g : Nat} {s : Xt} (h : DocX w rb ld s) (hn : rb ≠ g ∧ ld ≠ g) (cs : Array Value) : DocX (w.setRow g cs) rb ld s := h.but ((But.refl (fun k => k = g) w).setRow g (.inl rfl) cs) hn.1 hn.2
theorem DocX.put_other {w : World} {rb ld g : Nat} {s : Xt} {t : TypeId} {cs : Array Value} (h : DocX w rb ld s) (_ : Blk w g t cs) (hn : rb ≠ g ∧ ld ≠ g) (i : Nat) (v : Value) : DocX (w.setCell ⟨g, i, none⟩ v) rb ld s := h.but ((But.refl (fun k => k = g) w).setCell g i (.inl rfl) v) hn.1 hn.2
theorem XtOk.lenD {s : Xt} (h : XtOk s) : s.L.length ≤ 100000 := by have := h.few; have := h.most; omega
theorem bel_but1 {w W W' : World} {rb : Nat} (b : Below w.heap.size w W) (k : But (fun k => k = rb) W W') (h1 : w.heap.size ≤ rb) : Below w.heap.size w W' := b.trans (k.to_below b.size (fun i hi h => by omega))
theorem doc_next {w w' : World} {rb ld : Nat} {s' : Xt} {a : Option Addr} (hl : ∀ y : Addr, a = some y → y.block = ld) (hlt : rb < w.heap.size ∧ ld < w.heap.size) (N : DocN w.heap.size a w' rb s') (ok : XtOk s') (b : But (fun k => k = rb) w w') : ∃ ld', DocX w' rb ld' s' ∧ (ld' = ld ∨ w.heap.size ≤ ld') := by
  obtain ⟨a', c', D, hy⟩ := N
  have hb := b.size
  refine ⟨(a'.map (·.block)).getD ld, ⟨ok, ⟨by omega, ?_⟩, a', c', D, fun y h => by rw [h]; rfl⟩, ?_⟩
  · cases ha : a' with
    | none => exact Nat.lt_of_lt_of_le hlt.2 hb
    | some y => exact D.row.lt y ha
  · cases ha : a' with
    | none => exact .inl rfl
    | some y => exact (hy y ha).imp (fun e => hl y e) id
theorem raddX (rb ld : Nat) (s : Xt) (f : Wt) (w : World) (D : DocX w rb ld s) (ho : f.ok) : Calls Try.prog 28 #[.pointer (some ⟨rb, 0, none⟩), .agg f.v] w fun e w' => ∃ ld', e = .returned (.int .i64 (s.add f).2) ∧ DocX w' rb ld' (s.add f).1 ∧ (ld' = ld ∨ w.heap.size ≤ ld') ∧ But (fun k => k = rb) w w' := by
  obtain ⟨a, c, H, hl⟩ := D.ex
  refine (radd_xp rb s a c f w ho D.ok.lenD H).mono ?_
  rintro e w' ⟨rfl, N, b⟩
  obtain ⟨ld', h1, h2⟩ := doc_next hl D.lt N (D.ok.add ho) b
  exact ⟨ld', rfl, h1, h2, b⟩
theorem rtakeX (rb ld : Nat) (s : Xt) (x : Wy) (w : World) (D : DocX w rb ld s) (hx : x.ok) : Calls Try.prog 36 #[.pointer (some ⟨rb, 0, none⟩), .agg x.v] w fun e w' => ∃ ld', e = .returned (.tuple #[.agg (s.take x).2.1.v, .bool (s.take x).2.2]) ∧ DocX w' rb ld' (s.take x).1 ∧ (ld' = ld ∨ w.heap.size ≤ ld') ∧ But (fun k => k = rb) w w' := by
  obtain ⟨a, c, H, hl⟩ := D.ex
  refine (rtake_xp rb s a c x w D.ok hx D.ok.lenD H).mono ?_
  rintro e w' ⟨rfl, N, b⟩
  obtain ⟨ld', h1, h2⟩ := doc_next hl D.lt N (D.ok.take x) b
  exact ⟨ld', rfl, h1, h2, b⟩
theorem rforgetX (rb ld : Nat) (s : Xt) (m : Wy) (w : World) (D : DocX w rb ld s) : Calls Try.prog 37 #[.pointer (some ⟨rb, 0, none⟩), .agg m.v] w fun e w' => ∃ ld', e = .returned (.int .i64 (s.forget m).2) ∧ DocX w' rb ld' (s.forget m).1 ∧ (ld' = ld ∨ w.heap.size ≤ ld') ∧ But (fun k => k = rb) w w' := by
  obtain ⟨a, c, H, hl⟩ := D.ex
  refine (rforget_xp rb s a c m w D.ok.lenD H).mono ?_
  rintro e w' ⟨rfl, N, b⟩
  obtain ⟨ld', h1, h2⟩ := doc_next hl D.lt N (D.ok.forget m) b
  exact ⟨ld', rfl, h1, h2, b⟩
theorem rtickX (rb ld : Nat) (s : Xt) (n : Int) (w : World) (D : DocX w rb ld s) : Calls Try.prog 38 #[.pointer (some ⟨rb, 0, none⟩), .int .i64 n] w fun e w' => ∃ ld', e = .returned (.int .i64 (s.tick n).2) ∧ DocX w' rb ld' (s.tick n).1 ∧ (ld' = ld ∨ w.heap.size ≤ ld') ∧ But (fun k => k = rb) w w' := by
  obtain ⟨a, c, H, hl⟩ := D.ex
  refine (rtick_xp rb s a c n w D.ok.lenD H).mono ?_
  rintro e w' ⟨rfl, N, b⟩
  obtain ⟨ld', h1, h2⟩ := doc_next hl D.lt N (D.ok.tick n) b
  exact ⟨ld', rfl, h1, h2, b⟩
def Ax.go (q : Ax) (s : Xt) : Xt := if bits .and .i64 q.kd 3 == 0 then (s.add q.f).1 else if bits .and .i64 q.kd 3 == 1 then (s.take q.tk).1 else if bits .and .i64 q.kd 3 == 2 then (s.forget q.f.m).1 else (s.tick q.nw).1
/-- Both tables behind a call. -/
def BothX (sz lb ld : Nat) (w : World) (tb rb : Nat) (s : Xt) : Prop := ∃ lb' ld', TabX w tb lb' s ∧ DocX w rb ld' s ∧ ((tb ≠ rb ∧ lb' ≠ rb) ∧ (tb ≠ ld' ∧ lb' ≠ ld')) ∧ (lb' = lb ∨ sz ≤ lb') ∧ (ld' = ld ∨ sz ≤ ld')
set_option maxRecDepth 100000 in
set_option maxHeartbeats 16000000 in
theorem does_xp (tb lb rb ld : Nat) (s : Xt) (q : Ax) (w : World) (X : TabX w tb lb s) (D : DocX w rb ld s) (nXD : ((tb ≠ rb ∧ lb ≠ rb) ∧ (tb ≠ ld ∧ lb ≠ ld))) (hok : q.f.ok) :
    Calls Try.prog 17 #[.pointer (some ⟨tb, 0, none⟩), .pointer (some ⟨rb, 0, none⟩), .agg q.v] w fun e w' => e = .returned (.bool true) ∧ BothX w.heap.size lb ld w' tb rb (q.go s) ∧ But (fun k => k = tb ∨ k = lb ∨ k = rb) w w' := by
  have gl : lb = lb ∨ w.heap.size ≤ lb := .inl rfl
  have gd : ld = ld ∨ w.heap.size ≤ ld := .inl rfl
  obtain ⟨R, hR⟩ : ∃ R, (q.go s) = R := ⟨_, rfl⟩
  have HR : Hid ((q.go s) = R) := hR
  try rw [hR]
  clear hR
  have b := But.refl (fun k => k = tb ∨ k = lb ∨ k = rb) w
  go_enter Try.func17, Try.ntmps17
  cases hq3 : ((bits .and .i64 q.kd 3) == 0) with
  | false =>
    cases hq6 : ((bits .and .i64 q.kd 3) == 1) with
    | false =>
      cases hq9 : ((bits .and .i64 q.kd 3) == 2) with
      | false =>
        obtain ⟨Wm10, hWm10⟩ : ∃ W, w.alloc (.cells q.v 45) = W := ⟨_, rfl⟩
        have bm10 := but_al b hWm10
        have Xm10 := X.al hWm10
        have Dm10 := D.al hWm10
        have Am10 := blk_nw hWm10
        have gA : (fun k => k = tb ∨ k = lb ∨ k = rb) w.heap.size ∨ w.heap.size ≤ w.heap.size := .inr b.size
        have nXA : tb ≠ w.heap.size ∧ lb ≠ w.heap.size := by have := X.lt; omega
        have nDA : rb ≠ w.heap.size ∧ ld ≠ w.heap.size := by have := D.lt; omega
        have c11 := Am10.cell 0 (.int .i64 q.kd) rfl
        go_wp2_with fail
        clear c11
        obtain ⟨Wdq12, hWdq12⟩ : ∃ W, Wm10.drew = W := ⟨_, rfl⟩
        have Xdq12 := hWdq12 ▸ Xm10.drew
        have Ddq12 := hWdq12 ▸ Dm10.drew
        have Adq12 := hWdq12 ▸ Am10.drew
        have bdq12 := hWdq12 ▸ bm10.drew
        refine wp_region_noPanic ?_
        refine wp_region_held_drew (S := fun w' => Blk w' w.heap.size 45 q.v) (by kernel_rfl) (by rw [hWdq12]; exact Adq12) (fun hHeld => ?_)
        rw [hWdq12] at hHeld ⊢
        refine qtk (i := 0) (oi := { dst := some 62, op := Op.move (.tmp 0), type := 35, pos := "law.go:63", after := #[], guard := none }) (v := (.pointer (some ⟨tb, 0, none⟩))) hHeld ?_ ?_
        · intro w9 hSw
          try dsimp only at hSw
          go_simp
        try simp only [qpu]
        refine qtk (i := 1) (oi := { dst := some 63, op := Op.fieldAddr 45 (.tmp 5) 2, type := 0, pos := "law.go:63", after := #[], guard := none }) (v := (.pointer (some ⟨w.heap.size, 2, none⟩))) hHeld ?_ ?_
        · intro w9 hSw
          try dsimp only at hSw
          go_simp
        try simp only [qpu]
        refine qtk (i := 2) (oi := { dst := some 64, op := Op.load 3 (.tmp 63), type := 3, pos := "law.go:63", after := #[{ on := 1, ground := Ground.data }], guard := none }) (v := (.int .i64 q.nw)) hHeld ?_ ?_
        · intro w9 hSw
          try dsimp only at hSw
          have hcc := hSw.cell 2 (.int .i64 q.nw) rfl
          go_simp
        try simp only [qpu]
        refine qtk (i := 4) (oi := { dst := some 66, op := Op.move (.tmp 1), type := 47, pos := "law.go:63", after := #[], guard := none }) (v := (.pointer (some ⟨rb, 0, none⟩))) hHeld ?_ ?_
        · intro w9 hSw
          try dsimp only at hSw
          go_simp
        try simp only [qpu]
        refine qtk (i := 5) (oi := { dst := some 67, op := Op.fieldAddr 45 (.tmp 5) 2, type := 0, pos := "law.go:63", after := #[], guard := none }) (v := (.pointer (some ⟨w.heap.size, 2, none⟩))) hHeld ?_ ?_
        · intro w9 hSw
          try dsimp only at hSw
          go_simp
        try simp only [qpu]
        refine qtk (i := 6) (oi := { dst := some 68, op := Op.load 3 (.tmp 67), type := 3, pos := "law.go:63", after := #[{ on := 5, ground := Ground.data }], guard := none }) (v := (.int .i64 q.nw)) hHeld ?_ ?_
        · intro w9 hSw
          try dsimp only at hSw
          have hcc := hSw.cell 2 (.int .i64 q.nw) rfl
          go_simp
        try simp only [qpu]
        refine wpAnyH_ready (rs := [3]) (by kernel_rfl) (by simp) ?_
        refine AllReadyH.cons (o := { dst := some 65, op := Op.call { callee := Callee.value (.func 24), args := #[.tmp 62, .tmp 64], argTypes := #[35, 3] }, type := 36, pos := "law.go:63", after := #[{ on := 0, ground := Ground.data }, { on := 2, ground := Ground.data }], guard := none }) rfl (fun K hK => ?_) AllReadyH.nil
        go_simp
        refine Calls.mono (tickX tb lb s q.nw _ Xdq12) ?_
        rintro e Wx13 ⟨rfl, Xx13, bb⟩
        have gl0 := gl
        have Ax13 := Adq12.but bb (by have := nXA; omega)
        have Dx13 := Ddq12.but bb (by have := nXD; omega) (by have := nXD; omega)
        have bx13 := bdq12.trans bb (fun k hk e => by have h8 := gl0; rcases e with e | e <;> omega)
        clear bb
        refine hK.out _ _ (by exact Ax13) (fun hHeld => ?_)
        clear hK K
        try simp only [qpu]
        refine wpAnyH_ready (rs := [7]) (by kernel_rfl) (by simp) ?_
        refine AllReadyH.cons (o := { dst := some 69, op := Op.call { callee := Callee.value (.func 38), args := #[.tmp 66, .tmp 68], argTypes := #[47, 3] }, type := 3, pos := "law.go:63", after := #[{ on := 4, ground := Ground.data }, { on := 6, ground := Ground.data }, { on := 3, ground := Ground.chain }], guard := none }) rfl (fun K hK => ?_) AllReadyH.nil
        go_simp
        refine Calls.mono (rtickX rb ld s q.nw _ Dx13) ?_
        rintro e Wx14 ⟨ld14, rfl, Dx14, hdx14, bb⟩
        have Ax14 := Ax13.but bb (by have := nDA; omega)
        have Xx14 := Xx13.but bb (by have := nXD; omega) (by have := nXD; omega)
        have nXD : ((tb ≠ rb ∧ lb ≠ rb) ∧ (tb ≠ ld14 ∧ lb ≠ ld14)) := by have h9 := nXD; have h8 := Xx13.lt; rcases hdx14 with h | h <;> omega
        have nDA : rb ≠ w.heap.size ∧ ld14 ≠ w.heap.size := by have h8 := Ax13.lt; have h9 := nDA; rcases hdx14 with h | h <;> omega
        have gd : ld14 = ld ∨ w.heap.size ≤ ld14 := by have h9 := bx13.size; have h8 := gd; rcases hdx14 with h | h <;> omega
        have bx14 := bx13.trans bb (fun k hk e => .inr (.inr e))
        clear bb
        refine hK.out _ _ (by exact Ax14) (fun hHeld => ?_)
        clear hK K
        try simp only [qpu]
        refine qtk (i := 8) (oi := { dst := some 70, op := Op.binOp BinOp.eql 3 (.tmp 65) (.tmp 69) 3, type := 4, pos := "law.go:63", after := #[{ on := 3, ground := Ground.data }, { on := 7, ground := Ground.data }], guard := none }) (v := (.bool true)) hHeld ?_ ?_
        · intro w9 hSw
          try dsimp only at hSw
          go_simp
        try simp only [qpu]
        refine qtk (i := 9) (oi := { dst := some 6, op := Op.assign (.tmp 70), type := 4, pos := "law.go:63", after := #[{ on := 8, ground := Ground.data }, { on := 7, ground := Ground.chain }, { on := 0, ground := Ground.phase }, { on := 1, ground := Ground.phase }, { on := 2, ground := Ground.phase }, { on := 3, ground := Ground.phase }, { on := 4, ground := Ground.phase }, { on := 5, ground := Ground.phase }, { on := 6, ground := Ground.phase }, { on := 7, ground := Ground.phase }, { on := 8, ground := Ground.phase }], guard := none }) (v := (.bool true)) hHeld ?_ ?_
        · intro w9 hSw
          try dsimp only at hSw
          go_simp
        try simp only [qpu]
        refine wpAnyH_done (by kernel_rfl) ?_ _
        refine NoPanic.normal ?_
        go_wp2_with fail
        have hR2 : R = (Xt.tick s q.nw).1 := by rw [← HR.out]; unfold Ax.go; simp [hq3, hq6, hq9]
        subst hR2
        go_ret
        exact ⟨rfl, ⟨lb, ld14, Xx14, Dx14, nXD, (by first | exact gl | exact .inl rfl), (by first | exact gd | exact .inl rfl)⟩, bx14⟩

      | true =>
        obtain ⟨Wm15, hWm15⟩ : ∃ W, w.alloc (.cells q.v 45) = W := ⟨_, rfl⟩
        have bm15 := but_al b hWm15
        have Xm15 := X.al hWm15
        have Dm15 := D.al hWm15
        have Am15 := blk_nw hWm15
        have gA : (fun k => k = tb ∨ k = lb ∨ k = rb) w.heap.size ∨ w.heap.size ≤ w.heap.size := .inr b.size
        have nXA : tb ≠ w.heap.size ∧ lb ≠ w.heap.size := by have := X.lt; omega
        have nDA : rb ≠ w.heap.size ∧ ld ≠ w.heap.size := by have := D.lt; omega
        have c16 := Am15.cell 0 (.int .i64 q.kd) rfl
        go_wp2_with fail
        clear c16
        obtain ⟨Wdq17, hWdq17⟩ : ∃ W, Wm15.drew = W := ⟨_, rfl⟩
        have Xdq17 := hWdq17 ▸ Xm15.drew
        have Ddq17 := hWdq17 ▸ Dm15.drew
        have Adq17 := hWdq17 ▸ Am15.drew
        have bdq17 := hWdq17 ▸ bm15.drew
        refine wp_region_noPanic ?_
        refine wp_region_held_drew (S := fun w' => Blk w' w.heap.size 45 q.v) (by kernel_rfl) (by rw [hWdq17]; exact Adq17) (fun hHeld => ?_)
        rw [hWdq17] at hHeld ⊢
        refine qtk (i := 0) (oi := { dst := some 51, op := Op.move (.tmp 0), type := 35, pos := "law.go:61", after := #[], guard := none }) (v := (.pointer (some ⟨tb, 0, none⟩))) hHeld ?_ ?_
        · intro w9 hSw
          try dsimp only at hSw
          go_simp
        try simp only [qpu]
        refine qtk (i := 1) (oi := { dst := some 52, op := Op.fieldAddr 45 (.tmp 5) 3, type := 0, pos := "law.go:61", after := #[], guard := none }) (v := (.pointer (some ⟨w.heap.size, 3, none⟩))) hHeld ?_ ?_
        · intro w9 hSw
          try dsimp only at hSw
          go_simp
        try simp only [qpu]
        refine qtk (i := 2) (oi := { dst := some 53, op := Op.fieldAddr 28 (.tmp 52) 1, type := 0, pos := "law.go:61", after := #[{ on := 1, ground := Ground.data }], guard := none }) (v := (.pointer (some ⟨w.heap.size, 13, none⟩))) hHeld ?_ ?_
        · intro w9 hSw
          try dsimp only at hSw
          go_simp
        try simp only [qpu]
        refine qty (i := 3) (oi := { dst := some 54, op := Op.load 26 (.tmp 53), type := 26, pos := "law.go:61", after := #[{ on := 2, ground := Ground.data }], guard := none }) (v := (.agg q.f.m.v)) (yieldsIf_sub_w (by kernel_rfl) _ _ rfl w.heap.size 13 _ (by rfl) _ q.f.m.v (fun _ hSw => hSw) (by rfl) Try.underlying26 (by kernel_rfl)) hHeld ?_
        try simp only [qpu]
        refine qtk (i := 5) (oi := { dst := some 56, op := Op.move (.tmp 1), type := 47, pos := "law.go:61", after := #[], guard := none }) (v := (.pointer (some ⟨rb, 0, none⟩))) hHeld ?_ ?_
        · intro w9 hSw
          try dsimp only at hSw
          go_simp
        try simp only [qpu]
        refine qtk (i := 6) (oi := { dst := some 57, op := Op.fieldAddr 45 (.tmp 5) 3, type := 0, pos := "law.go:61", after := #[], guard := none }) (v := (.pointer (some ⟨w.heap.size, 3, none⟩))) hHeld ?_ ?_
        · intro w9 hSw
          try dsimp only at hSw
          go_simp
        try simp only [qpu]
        refine qtk (i := 7) (oi := { dst := some 58, op := Op.fieldAddr 28 (.tmp 57) 1, type := 0, pos := "law.go:61", after := #[{ on := 6, ground := Ground.data }], guard := none }) (v := (.pointer (some ⟨w.heap.size, 13, none⟩))) hHeld ?_ ?_
        · intro w9 hSw
          try dsimp only at hSw
          go_simp
        try simp only [qpu]
        refine qty (i := 8) (oi := { dst := some 59, op := Op.load 26 (.tmp 58), type := 26, pos := "law.go:61", after := #[{ on := 7, ground := Ground.data }], guard := none }) (v := (.agg q.f.m.v)) (yieldsIf_sub_w (by kernel_rfl) _ _ rfl w.heap.size 13 _ (by rfl) _ q.f.m.v (fun _ hSw => hSw) (by rfl) Try.underlying26 (by kernel_rfl)) hHeld ?_
        try simp only [qpu]
        refine wpAnyH_ready (rs := [4]) (by kernel_rfl) (by simp) ?_
        refine AllReadyH.cons (o := { dst := some 55, op := Op.call { callee := Callee.value (.func 27), args := #[.tmp 51, .tmp 54], argTypes := #[35, 26] }, type := 3, pos := "law.go:61", after := #[{ on := 0, ground := Ground.data }, { on := 3, ground := Ground.data }], guard := none }) rfl (fun K hK => ?_) AllReadyH.nil
        go_simp
        refine Calls.mono (forgetX tb lb s q.f.m _ Xdq17) ?_
        rintro e Wx18 ⟨rfl, Xx18, bb⟩
        have gl0 := gl
        have Ax18 := Adq17.but bb (by have := nXA; omega)
        have Dx18 := Ddq17.but bb (by have := nXD; omega) (by have := nXD; omega)
        have bx18 := bdq17.trans bb (fun k hk e => by have h8 := gl0; rcases e with e | e <;> omega)
        clear bb
        refine hK.out _ _ (by exact Ax18) (fun hHeld => ?_)
        clear hK K
        try simp only [qpu]
        refine wpAnyH_ready (rs := [9]) (by kernel_rfl) (by simp) ?_
        refine AllReadyH.cons (o := { dst := some 60, op := Op.call { callee := Callee.value (.func 37), args := #[.tmp 56, .tmp 59], argTypes := #[47, 26] }, type := 3, pos := "law.go:61", after := #[{ on := 5, ground := Ground.data }, { on := 8, ground := Ground.data }, { on := 4, ground := Ground.chain }], guard := none }) rfl (fun K hK => ?_) AllReadyH.nil
        go_simp
        refine Calls.mono (rforgetX rb ld s q.f.m _ Dx18) ?_
        rintro e Wx19 ⟨ld19, rfl, Dx19, hdx19, bb⟩
        have Ax19 := Ax18.but bb (by have := nDA; omega)
        have Xx19 := Xx18.but bb (by have := nXD; omega) (by have := nXD; omega)
        have nXD : ((tb ≠ rb ∧ lb ≠ rb) ∧ (tb ≠ ld19 ∧ lb ≠ ld19)) := by have h9 := nXD; have h8 := Xx18.lt; rcases hdx19 with h | h <;> omega
        have nDA : rb ≠ w.heap.size ∧ ld19 ≠ w.heap.size := by have h8 := Ax18.lt; have h9 := nDA; rcases hdx19 with h | h <;> omega
        have gd : ld19 = ld ∨ w.heap.size ≤ ld19 := by have h9 := bx18.size; have h8 := gd; rcases hdx19 with h | h <;> omega
        have bx19 := bx18.trans bb (fun k hk e => .inr (.inr e))
        clear bb
        refine hK.out _ _ (by exact Ax19) (fun hHeld => ?_)
        clear hK K
        try simp only [qpu]
        refine qtk (i := 10) (oi := { dst := some 61, op := Op.binOp BinOp.eql 3 (.tmp 55) (.tmp 60) 3, type := 4, pos := "law.go:61", after := #[{ on := 4, ground := Ground.data }, { on := 9, ground := Ground.data }], guard := none }) (v := (.bool true)) hHeld ?_ ?_
        · intro w9 hSw
          try dsimp only at hSw
          go_simp
        try simp only [qpu]
        refine qtk (i := 11) (oi := { dst := some 6, op := Op.assign (.tmp 61), type := 4, pos := "law.go:61", after := #[{ on := 10, ground := Ground.data }, { on := 9, ground := Ground.chain }, { on := 0, ground := Ground.phase }, { on := 1, ground := Ground.phase }, { on := 2, ground := Ground.phase }, { on := 3, ground := Ground.phase }, { on := 4, ground := Ground.phase }, { on := 5, ground := Ground.phase }, { on := 6, ground := Ground.phase }, { on := 7, ground := Ground.phase }, { on := 8, ground := Ground.phase }, { on := 9, ground := Ground.phase }, { on := 10, ground := Ground.phase }], guard := none }) (v := (.bool true)) hHeld ?_ ?_
        · intro w9 hSw
          try dsimp only at hSw
          go_simp
        try simp only [qpu]
        refine wpAnyH_done (by kernel_rfl) ?_ _
        refine NoPanic.normal ?_
        go_wp2_with fail
        have hR2 : R = (Xt.forget s q.f.m).1 := by rw [← HR.out]; unfold Ax.go; simp [hq3, hq6, hq9]
        subst hR2
        go_ret
        exact ⟨rfl, ⟨lb, ld19, Xx19, Dx19, nXD, (by first | exact gl | exact .inl rfl), (by first | exact gd | exact .inl rfl)⟩, bx19⟩


    | true =>
      obtain ⟨Wm20, hWm20⟩ : ∃ W, w.alloc (.cells q.v 45) = W := ⟨_, rfl⟩
      have bm20 := but_al b hWm20
      have Xm20 := X.al hWm20
      have Dm20 := D.al hWm20
      have Am20 := blk_nw hWm20
      have gA : (fun k => k = tb ∨ k = lb ∨ k = rb) w.heap.size ∨ w.heap.size ≤ w.heap.size := .inr b.size
      have nXA : tb ≠ w.heap.size ∧ lb ≠ w.heap.size := by have := X.lt; omega
      have nDA : rb ≠ w.heap.size ∧ ld ≠ w.heap.size := by have := D.lt; omega
      have c21 := Am20.cell 0 (.int .i64 q.kd) rfl
      go_wp2_with (refine wpList_load_blk_w (by rfl) _ _ rfl w.heap.size (by rfl) _ Am20 Try.underlying45 (by kernel_rfl) ?_)
      clear c21
      refine Calls.mono (taken_xp q _) ?_
      rintro e Wm22 ⟨rfl, bb⟩
      have Xm22 := Xm20.kept bb
      have Dm22 := Dm20.kept bb
      have Am22 := Am20.kept bb
      have bm22 := bm20.below bb
      clear bb
      clear Xm20 Dm20 Am20 bm20
      go_wp2_with fail
      refine Calls.mono (takeX tb lb s (Ax.tk q) _ Xm22) ?_
      rintro e Wm23 ⟨rfl, Xm23, bb⟩
      have gl0 := gl
      have Dm23 := Dm22.but bb (by have := nXD; omega) (by have := nXD; omega)
      have Am23 := Am22.but bb (by have := nXA; omega)
      have bm23 := bm22.trans bb (fun k hk e => by have h8 := gl0; rcases e with e | e <;> omega)
      clear bb
      clear Xm22 Dm22 Am22 bm22
      obtain ⟨Wm24, hWm24⟩ : ∃ W, Wm23.alloc (.cells #[.int .i64 0, .int .i64 0, .int .i64 0, .int .u64 0, .int .u64 0, .int .i64 0, .int .u64 0, .int .u64 0, .int .i64 0, .int .i64 0, .int .i64 0, .int .i64 0, .int .i64 0, .int .u64 0, .int .u64 0, .int .i64 0, .int .u64 0, .int .u64 0, .int .i64 0, .int .i64 0, .int .i64 0, .int .i64 0] 28) = W := ⟨_, rfl⟩
      have bm24 := but_al bm23 hWm24
      have Xm24 := Xm23.al hWm24
      have Dm24 := Dm23.al hWm24
      have Am24 := Am23.al hWm24
      have Bm24 := blk_nw hWm24
      have gB : (fun k => k = tb ∨ k = lb ∨ k = rb) Wm23.heap.size ∨ w.heap.size ≤ Wm23.heap.size := .inr bm23.size
      have nXB : tb ≠ Wm23.heap.size ∧ lb ≠ Wm23.heap.size := by have := Xm23.lt; omega
      have nDB : rb ≠ Wm23.heap.size ∧ ld ≠ Wm23.heap.size := by have := Dm23.lt; omega
      have nAB : w.heap.size ≠ Wm23.heap.size := by have := Am23.lt; omega
      have nBA : Wm23.heap.size ≠ w.heap.size := fun e => nAB e.symm
      obtain ⟨Wm25, hWm25⟩ : ∃ W, Wm24.setRow Wm23.heap.size (Xt.take s (Ax.tk q)).2.1.v = W := ⟨_, rfl⟩
      have Bm25 : Blk Wm25 Wm23.heap.size 28 (Xt.take s (Ax.tk q)).2.1.v := hWm25 ▸ Bm24.set (Xt.take s (Ax.tk q)).2.1.v
      have Xm25 := hWm25 ▸ Xm24.other nXB (Xt.take s (Ax.tk q)).2.1.v
      have Dm25 := hWm25 ▸ Dm24.other nDB (Xt.take s (Ax.tk q)).2.1.v
      have Am25 := hWm25 ▸ Am24.other nAB (Xt.take s (Ax.tk q)).2.1.v
      have bm25 := hWm25 ▸ but_setRow bm24 gB (Xt.take s (Ax.tk q)).2.1.v
      go_wp2_with (first | (refine wpList_store_row rfl _ _ _ rfl Wm23.heap.size (Xt.take s (Ax.tk q)).2.1.v (by rfl) (by rfl) _ _ Bm24 (by kernel_rfl) (by rfl) (by kernel_rfl) ?_; rw [hWm25]) | (refine wpList_load_blk_w (by rfl) _ _ rfl w.heap.size (by rfl) _ Am25 Try.underlying45 (by kernel_rfl) ?_))
      refine Calls.mono (taken_xp q _) ?_
      rintro e Wm26 ⟨rfl, bb⟩
      have Xm26 := Xm25.kept bb
      have Dm26 := Dm25.kept bb
      have Am26 := Am25.kept bb
      have Bm26 := Bm25.kept bb
      have bm26 := bm25.below bb
      clear bb
      clear Xm25 Dm25 Am25 Bm25 bm25
      go_wp2_with fail
      refine Calls.mono (rtakeX rb ld s (Ax.tk q) _ Dm26 (tk_ok hok)) ?_
      rintro e Wm27 ⟨ld27, rfl, Dm27, hdm27, bb⟩
      have Xm27 := Xm26.but bb (by have := nXD; omega) (by have := nXD; omega)
      have Am27 := Am26.but bb (by have := nDA; omega)
      have Bm27 := Bm26.but bb (by have := nDB; omega)
      have nXD : ((tb ≠ rb ∧ lb ≠ rb) ∧ (tb ≠ ld27 ∧ lb ≠ ld27)) := by have h9 := nXD; have h8 := Xm26.lt; rcases hdm27 with h | h <;> omega
      have nDA : rb ≠ w.heap.size ∧ ld27 ≠ w.heap.size := by have h8 := Am26.lt; have h9 := nDA; rcases hdm27 with h | h <;> omega
      have nDB : rb ≠ Wm23.heap.size ∧ ld27 ≠ Wm23.heap.size := by have h8 := Bm26.lt; have h9 := nDB; rcases hdm27 with h | h <;> omega
      have gd : ld27 = ld ∨ w.heap.size ≤ ld27 := by have h9 := bm26.size; have h8 := gd; rcases hdm27 with h | h <;> omega
      have bm27 := bm26.trans bb (fun k hk e => .inr (.inr e))
      clear bb
      clear Xm26 Dm26 Am26 Bm26 bm26
      obtain ⟨Wm28, hWm28⟩ : ∃ W, Wm27.alloc (.cells #[.int .i64 0, .int .i64 0, .int .i64 0, .int .u64 0, .int .u64 0, .int .i64 0, .int .u64 0, .int .u64 0, .int .i64 0, .int .i64 0, .int .i64 0, .int .i64 0, .int .i64 0, .int .u64 0, .int .u64 0, .int .i64 0, .int .u64 0, .int .u64 0, .int .i64 0, .int .i64 0, .int .i64 0, .int .i64 0] 28) = W := ⟨_, rfl⟩
      have bm28 := but_al bm27 hWm28
      have Xm28 := Xm27.al hWm28
      have Dm28 := Dm27.al hWm28
      have Am28 := Am27.al hWm28
      have Bm28 := Bm27.al hWm28
      have Cm28 := blk_nw hWm28
      have gC : (fun k => k = tb ∨ k = lb ∨ k = rb) Wm27.heap.size ∨ w.heap.size ≤ Wm27.heap.size := .inr bm27.size
      have nXC : tb ≠ Wm27.heap.size ∧ lb ≠ Wm27.heap.size := by have := Xm27.lt; omega
      have nDC : rb ≠ Wm27.heap.size ∧ ld27 ≠ Wm27.heap.size := by have := Dm27.lt; omega
      have nAC : w.heap.size ≠ Wm27.heap.size := by have := Am27.lt; omega
      have nCA : Wm27.heap.size ≠ w.heap.size := fun e => nAC e.symm
      have nBC : Wm23.heap.size ≠ Wm27.heap.size := by have := Bm27.lt; omega
      have nCB : Wm27.heap.size ≠ Wm23.heap.size := fun e => nBC e.symm
      obtain ⟨Wm29, hWm29⟩ : ∃ W, Wm28.setRow Wm27.heap.size (Xt.take s (Ax.tk q)).2.1.v = W := ⟨_, rfl⟩
      have Cm29 : Blk Wm29 Wm27.heap.size 28 (Xt.take s (Ax.tk q)).2.1.v := hWm29 ▸ Cm28.set (Xt.take s (Ax.tk q)).2.1.v
      have Xm29 := hWm29 ▸ Xm28.other nXC (Xt.take s (Ax.tk q)).2.1.v
      have Dm29 := hWm29 ▸ Dm28.other nDC (Xt.take s (Ax.tk q)).2.1.v
      have Am29 := hWm29 ▸ Am28.other nAC (Xt.take s (Ax.tk q)).2.1.v
      have Bm29 := hWm29 ▸ Bm28.other nBC (Xt.take s (Ax.tk q)).2.1.v
      have bm29 := hWm29 ▸ but_setRow bm28 gC (Xt.take s (Ax.tk q)).2.1.v
      have hE30 := eql_want (Xt.take s (Ax.tk q)).2.1
      go_wp2_with (first | (refine wpList_store_row rfl _ _ _ rfl Wm27.heap.size (Xt.take s (Ax.tk q)).2.1.v (by rfl) (by rfl) _ _ Cm28 (by kernel_rfl) (by rfl) (by kernel_rfl) ?_; rw [hWm29]) | (refine wpList_load_blk_w (by rfl) _ _ rfl Wm23.heap.size (by rfl) _ Bm29 Try.underlying28 (by kernel_rfl) ?_) | (refine wpList_load_blk_w (by rfl) _ _ rfl Wm27.heap.size (by rfl) _ Cm29 Try.underlying28 (by kernel_rfl) ?_))
      have hR2 : R = (Xt.take s (Ax.tk q)).1 := by rw [← HR.out]; unfold Ax.go; simp [hq3, hq6]
      subst hR2
      go_ret
      exact ⟨rfl, ⟨lb, ld27, Xm29, Dm29, nXD, (by first | exact gl | exact .inl rfl), (by first | exact gd | exact .inl rfl)⟩, bm29⟩


  | true =>
    obtain ⟨Wm31, hWm31⟩ : ∃ W, w.alloc (.cells q.v 45) = W := ⟨_, rfl⟩
    have bm31 := but_al b hWm31
    have Xm31 := X.al hWm31
    have Dm31 := D.al hWm31
    have Am31 := blk_nw hWm31
    have gA : (fun k => k = tb ∨ k = lb ∨ k = rb) w.heap.size ∨ w.heap.size ≤ w.heap.size := .inr b.size
    have nXA : tb ≠ w.heap.size ∧ lb ≠ w.heap.size := by have := X.lt; omega
    have nDA : rb ≠ w.heap.size ∧ ld ≠ w.heap.size := by have := D.lt; omega
    have c32 := Am31.cell 0 (.int .i64 q.kd) rfl
    go_wp2_with fail
    clear c32
    obtain ⟨Wdq33, hWdq33⟩ : ∃ W, Wm31.drew = W := ⟨_, rfl⟩
    have Xdq33 := hWdq33 ▸ Xm31.drew
    have Ddq33 := hWdq33 ▸ Dm31.drew
    have Adq33 := hWdq33 ▸ Am31.drew
    have bdq33 := hWdq33 ▸ bm31.drew
    refine wp_region_noPanic ?_
    refine wp_region_held_drew (S := fun w' => Blk w' w.heap.size 45 q.v) (by kernel_rfl) (by rw [hWdq33]; exact Adq33) (fun hHeld => ?_)
    rw [hWdq33] at hHeld ⊢
    refine qtk (i := 0) (oi := { dst := some 16, op := Op.move (.tmp 0), type := 35, pos := "law.go:55", after := #[], guard := none }) (v := (.pointer (some ⟨tb, 0, none⟩))) hHeld ?_ ?_
    · intro w9 hSw
      try dsimp only at hSw
      go_simp
    try simp only [qpu]
    refine qtk (i := 1) (oi := { dst := some 17, op := Op.fieldAddr 45 (.tmp 5) 3, type := 0, pos := "law.go:55", after := #[], guard := none }) (v := (.pointer (some ⟨w.heap.size, 3, none⟩))) hHeld ?_ ?_
    · intro w9 hSw
      try dsimp only at hSw
      go_simp
    try simp only [qpu]
    refine qty (i := 2) (oi := { dst := some 18, op := Op.load 28 (.tmp 17), type := 28, pos := "law.go:55", after := #[{ on := 1, ground := Ground.data }], guard := none }) (v := (.agg q.f.v)) (yieldsIf_sub_w (by kernel_rfl) _ _ rfl w.heap.size 3 _ (by rfl) _ q.f.v (fun _ hSw => hSw) (by rfl) Try.underlying28 (by kernel_rfl)) hHeld ?_
    try simp only [qpu]
    refine qtk (i := 4) (oi := { dst := some 20, op := Op.move (.tmp 1), type := 47, pos := "law.go:55", after := #[], guard := none }) (v := (.pointer (some ⟨rb, 0, none⟩))) hHeld ?_ ?_
    · intro w9 hSw
      try dsimp only at hSw
      go_simp
    try simp only [qpu]
    refine qtk (i := 5) (oi := { dst := some 21, op := Op.fieldAddr 45 (.tmp 5) 3, type := 0, pos := "law.go:55", after := #[], guard := none }) (v := (.pointer (some ⟨w.heap.size, 3, none⟩))) hHeld ?_ ?_
    · intro w9 hSw
      try dsimp only at hSw
      go_simp
    try simp only [qpu]
    refine qty (i := 6) (oi := { dst := some 22, op := Op.load 28 (.tmp 21), type := 28, pos := "law.go:55", after := #[{ on := 5, ground := Ground.data }], guard := none }) (v := (.agg q.f.v)) (yieldsIf_sub_w (by kernel_rfl) _ _ rfl w.heap.size 3 _ (by rfl) _ q.f.v (fun _ hSw => hSw) (by rfl) Try.underlying28 (by kernel_rfl)) hHeld ?_
    try simp only [qpu]
    refine wpAnyH_ready (rs := [3]) (by kernel_rfl) (by simp) ?_
    refine AllReadyH.cons (o := { dst := some 19, op := Op.call { callee := Callee.value (.func 25), args := #[.tmp 16, .tmp 18], argTypes := #[35, 28] }, type := 36, pos := "law.go:55", after := #[{ on := 0, ground := Ground.data }, { on := 2, ground := Ground.data }], guard := none }) rfl (fun K hK => ?_) AllReadyH.nil
    go_simp
    refine Calls.mono (addX tb lb s q.f _ Xdq33 (by first | assumption | exact hok)) ?_
    rintro e Wx34 ⟨lb34, rfl, Xx34, hlx34, bb⟩
    have gl0 := gl
    have Ax34 := Adq33.but bb (by have := nXA; omega)
    have Dx34 := Ddq33.but bb (by have := nXD; omega) (by have := nXD; omega)
    have nXD : ((tb ≠ rb ∧ lb34 ≠ rb) ∧ (tb ≠ ld ∧ lb34 ≠ ld)) := by have h9 := nXD; have h8 := Ddq33.lt; rcases hlx34 with h | h <;> omega
    have nXA : tb ≠ w.heap.size ∧ lb34 ≠ w.heap.size := by have h8 := Adq33.lt; have h9 := nXA; rcases hlx34 with h | h <;> omega
    have gl : lb34 = lb ∨ w.heap.size ≤ lb34 := by have h9 := bdq33.size; have h8 := gl; rcases hlx34 with h | h <;> omega
    have bx34 := bdq33.trans bb (fun k hk e => by have h8 := gl0; rcases e with e | e <;> omega)
    clear bb
    refine hK.out _ _ (by exact Ax34) (fun hHeld => ?_)
    clear hK K
    try simp only [qpu]
    refine wpAnyH_ready (rs := [7]) (by kernel_rfl) (by simp) ?_
    refine AllReadyH.cons (o := { dst := some 23, op := Op.call { callee := Callee.value (.func 28), args := #[.tmp 20, .tmp 22], argTypes := #[47, 28] }, type := 3, pos := "law.go:55", after := #[{ on := 4, ground := Ground.data }, { on := 6, ground := Ground.data }, { on := 3, ground := Ground.chain }], guard := none }) rfl (fun K hK => ?_) AllReadyH.nil
    go_simp
    refine Calls.mono (raddX rb ld s q.f _ Dx34 (by first | assumption | exact hok)) ?_
    rintro e Wx35 ⟨ld35, rfl, Dx35, hdx35, bb⟩
    have Ax35 := Ax34.but bb (by have := nDA; omega)
    have Xx35 := Xx34.but bb (by have := nXD; omega) (by have := nXD; omega)
    have nXD : ((tb ≠ rb ∧ lb34 ≠ rb) ∧ (tb ≠ ld35 ∧ lb34 ≠ ld35)) := by have h9 := nXD; have h8 := Xx34.lt; rcases hdx35 with h | h <;> omega
    have nDA : rb ≠ w.heap.size ∧ ld35 ≠ w.heap.size := by have h8 := Ax34.lt; have h9 := nDA; rcases hdx35 with h | h <;> omega
    have gd : ld35 = ld ∨ w.heap.size ≤ ld35 := by have h9 := bx34.size; have h8 := gd; rcases hdx35 with h | h <;> omega
    have bx35 := bx34.trans bb (fun k hk e => .inr (.inr e))
    clear bb
    refine hK.out _ _ (by exact Ax35) (fun hHeld => ?_)
    clear hK K
    try simp only [qpu]
    refine qtk (i := 8) (oi := { dst := some 24, op := Op.binOp BinOp.eql 3 (.tmp 19) (.tmp 23) 3, type := 4, pos := "law.go:55", after := #[{ on := 3, ground := Ground.data }, { on := 7, ground := Ground.data }], guard := none }) (v := (.bool true)) hHeld ?_ ?_
    · intro w9 hSw
      try dsimp only at hSw
      go_simp
    try simp only [qpu]
    refine qtk (i := 9) (oi := { dst := some 6, op := Op.assign (.tmp 24), type := 4, pos := "law.go:55", after := #[{ on := 8, ground := Ground.data }, { on := 7, ground := Ground.chain }, { on := 0, ground := Ground.phase }, { on := 1, ground := Ground.phase }, { on := 2, ground := Ground.phase }, { on := 3, ground := Ground.phase }, { on := 4, ground := Ground.phase }, { on := 5, ground := Ground.phase }, { on := 6, ground := Ground.phase }, { on := 7, ground := Ground.phase }, { on := 8, ground := Ground.phase }], guard := none }) (v := (.bool true)) hHeld ?_ ?_
    · intro w9 hSw
      try dsimp only at hSw
      go_simp
    try simp only [qpu]
    refine wpAnyH_done (by kernel_rfl) ?_ _
    refine NoPanic.normal ?_
    go_wp2_with fail
    have hR2 : R = (Xt.add s q.f).1 := by rw [← HR.out]; unfold Ax.go; simp [hq3]
    subst hR2
    go_ret
    exact ⟨rfl, ⟨lb34, ld35, Xx35, Dx35, nXD, (by first | exact gl | exact .inl rfl), (by first | exact gd | exact .inl rfl)⟩, bx35⟩
end Go.Proofs.Ytmflogmocgbmhaa
