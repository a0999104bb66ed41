/- Texts joined: FyF -/
import Derived.Test.YtmjjdbkipagkbaaFyp36
import Derived.Test.YtmjjdbkipagkbaaFyp41
import Derived.Deep.AppendLies
namespace Go.Proofs.Ytmjjdbkipagkbaa
open Go.RowKit
set_option linter.unusedVariables false
set_option linter.unusedSimpArgs false
set_option maxRecDepth 100000 in
set_option maxHeartbeats 4000000 in
theorem rnewY_fy (m : Int) (w : World) (hc : capB m = true) :
    Calls Try.prog 18 #[.int .i64 m] w fun e w' => e = .returned (.tuple #[.agg (docV ⟨m, 0, []⟩ none 0), .int .i64 0]) ∧ Below w.heap.size w w' := by
  obtain ⟨R, hR⟩ : ∃ R, (7777 : Int) = R := ⟨_, rfl⟩
  have HR : Hid ((7777 : Int) = R) := hR
  try rw [hR]
  clear hR
  have b := Below.refl w.heap.size w
  go_enter Try.func18, Try.ntmps18
  obtain ⟨Wm1, hWm1⟩ : ∃ W, w.alloc (.cells #[.int .i64 0, .int .i64 0, .slice none 0 0] 55) = W := ⟨_, rfl⟩
  have bm1 := bel_al b hWm1
  have Am1 := blk_nw hWm1
  have gA : w.heap.size ≤ w.heap.size := b.size
  go_wp2_with fail
  refine Calls.mono (rin_cap m _) ?_
  rintro e Wm2 ⟨rfl, bb⟩
  have Am2 := Am1.kept bb
  have bm2 := bel_tr bm1 bb
  clear bb
  clear Am1 bm1
  obtain ⟨Wm3, hWm3⟩ : ∃ W, Wm2.setRow w.heap.size #[.int .i64 m, .int .i64 0, .slice none 0 0] = W := ⟨_, rfl⟩
  have Am3 : Blk Wm3 w.heap.size 55 #[.int .i64 m, .int .i64 0, .slice none 0 0] := hWm3 ▸ Am2.set #[.int .i64 m, .int .i64 0, .slice none 0 0]
  have bm3 := hWm3 ▸ below_setRow bm2 gA #[.int .i64 m, .int .i64 0, .slice none 0 0]
  go_wp2_with (refine wpList_store_row rfl _ _ _ rfl w.heap.size #[.int .i64 m, .int .i64 0, .slice none 0 0] (by rfl) (by rfl) _ _ Am2 (by kernel_rfl) (by rfl) (by kernel_rfl) ?_; rw [hWm3])
  exact ret_cell_tmp (k := 2) (j := 3) (v := .int .i64 0) Try.f18 (by kernel_rfl) Am3 Try.underlying55 (by kernel_rfl) (by rfl) (by rfl) rfl ⟨rfl, bm3⟩
set_option maxRecDepth 100000 in
set_option maxHeartbeats 4000000 in
theorem rnewN_fy (m : Int) (w : World) (hc : capB m = false) :
    Calls Try.prog 18 #[.int .i64 m] w fun e w' => e = .returned (.tuple #[.agg #[.int .i64 0, .int .i64 0, .slice none 0 0], .int .i64 1]) ∧ Below w.heap.size w w' := by
  obtain ⟨R, hR⟩ : ∃ R, (7777 : Int) = R := ⟨_, rfl⟩
  have HR : Hid ((7777 : Int) = R) := hR
  try rw [hR]
  clear hR
  have b := Below.refl w.heap.size w
  go_enter Try.func18, Try.ntmps18
  obtain ⟨Wm1, hWm1⟩ : ∃ W, w.alloc (.cells #[.int .i64 0, .int .i64 0, .slice none 0 0] 55) = W := ⟨_, rfl⟩
  have bm1 := bel_al b hWm1
  have Am1 := blk_nw hWm1
  have gA : w.heap.size ≤ w.heap.size := b.size
  go_wp2_with fail
  refine Calls.mono (rin_cap m _) ?_
  rintro e Wm2 ⟨rfl, bb⟩
  have Am2 := Am1.kept bb
  have bm2 := bel_tr bm1 bb
  clear bb
  clear Am1 bm1
  obtain ⟨Wm3, hWm3⟩ : ∃ W, Wm2.setRow w.heap.size #[.int .i64 0, .int .i64 0, .slice none 0 0] = W := ⟨_, rfl⟩
  have Am3 : Blk Wm3 w.heap.size 55 #[.int .i64 0, .int .i64 0, .slice none 0 0] := hWm3 ▸ Am2.set #[.int .i64 0, .int .i64 0, .slice none 0 0]
  have bm3 := hWm3 ▸ below_setRow bm2 gA #[.int .i64 0, .int .i64 0, .slice none 0 0]
  go_wp2_with (refine wpList_store_row rfl _ _ _ rfl w.heap.size #[.int .i64 0, .int .i64 0, .slice none 0 0] (by rfl) (by rfl) _ _ Am2 (by kernel_rfl) (by rfl) (by kernel_rfl) ?_; rw [hWm3])
  exact ret_cell_tmp (k := 2) (j := 3) (v := .int .i64 1) Try.f18 (by kernel_rfl) Am3 Try.underlying55 (by kernel_rfl) (by rfl) (by rfl) rfl ⟨rfl, bm3⟩
/-- The document's table at rb, whose list lies in the block ld. -/
structure DocFX (w : World) (rb ld : Nat) (s : Ft) : Prop where
  ok : FtOk s
  lt : rb < w.heap.size ∧ ld < w.heap.size
  ex : ∃ a c, DocF w rb s a c ∧ ∀ y : Addr, a = some y → y.block = ld
theorem DocFX.but {F : Nat → Prop} {w w' : World} {rb ld : Nat} {s : Ft} (h : DocFX w rb ld s) (b : But F w w') (h1 : ¬ F rb) (h2 : ¬ F ld) : DocFX w' rb ld s := by
  obtain ⟨a, c, D, hl⟩ := h.ex
  exact ⟨h.ok, ⟨Nat.lt_of_lt_of_le h.lt.1 b.size, Nat.lt_of_lt_of_le h.lt.2 b.size⟩, a, c, ⟨D.tab.but b h1, D.row.but b (fun y hy => by rw [hl y hy]; exact h2), D.ne⟩, hl⟩
theorem DocFX.kept {w w' : World} {rb ld : Nat} {s : Ft} (h : DocFX w rb ld s) (b : Below w.heap.size w w') : DocFX w' rb ld s := h.but (But.of_below b (fun _ => False)) (fun x => x) (fun x => x)
theorem DocFX.al {w w' : World} {rb ld : Nat} {s : Ft} {o : Obj} (h : DocFX w rb ld s) (e : w.alloc o = w') : DocFX w' rb ld s := h.kept (bel_nw e)
theorem DocFX.drew {w : World} {rb ld : Nat} {s : Ft} (h : DocFX w rb ld s) : DocFX w.drew rb ld s := h.kept (Below.refl _ _).drew
theorem DocFX.other {w : World} {rb ld g : Nat} {s : Ft} (h : DocFX w rb ld s) (hn : rb ≠ g ∧ ld ≠ g) (cs : Array Value) : DocFX (w.setRow g cs) rb ld s := h.but ((But.refl (fun k => k = g) w).setRow g (.inl rfl) cs) hn.1 hn.2
theorem FtOk.lenD {s : Ft} (h : FtOk s) : s.L.length ≤ 100000 := by have := h.few; have := h.most; omega
theorem bel_but3 {w W W' : World} {tb lb rb : Nat} (b : Below w.heap.size w W) (k : But (fun k => k = tb ∨ k = lb ∨ k = rb) W W') (h1 : w.heap.size ≤ tb) (h2 : w.heap.size ≤ lb) (h3 : w.heap.size ≤ rb) : Below w.heap.size w W' := b.trans (k.to_below b.size (fun i hi h => by omega))
theorem cap_iffF {m : Int} : capB m = true ↔ 0 ≤ m ∧ m ≤ 256 := by unfold capB; simp
theorem docfx_new {w : World} {rb : Nat} {m : Int} (hm : capB m = true) (T : Blk w rb 55 (docV ⟨m, 0, []⟩ none 0)) : DocFX w rb rb ⟨m, 0, []⟩ :=
  ⟨new_ok (cap_iffF.1 hm), ⟨T.lt, T.lt⟩, none, 0, ⟨T, (own_noneL w 0).toE, fun y hy => by cases hy⟩, fun y hy => by cases hy⟩
theorem docf_next {w w' : World} {rb ld : Nat} {s' : Ft} {a : Option Addr} (hl : ∀ y : Addr, a = some y → y.block = ld) (hlt : rb < w.heap.size ∧ ld < w.heap.size) (N : DocNF w.heap.size a w' rb s') (ok : FtOk s') (b : But (fun k => k = rb) w w') : ∃ ld', DocFX w' rb ld' s' ∧ (ld' = ld ∨ w.heap.size ≤ ld') := by
  obtain ⟨a', c', D, hy⟩ := N
  have hb := b.size
  refine ⟨(a'.map (·.block)).getD ld, ⟨ok, ⟨by omega, ?_⟩, a', c', D, fun y h => by rw [h]; rfl⟩, ?_⟩
  · cases ha : a' with
    | none => exact Nat.lt_of_lt_of_le hlt.2 hb
    | some y => exact D.row.lt y ha
  · cases ha : a' with
    | none => exact .inl rfl
    | some y => exact (hy y ha).imp (fun e => hl y e) id
theorem rputFX (rb ld : Nat) (s : Ft) (f : Fl) (w : World) (D : DocFX w rb ld s) (ho : f.w.kf) : Calls Try.prog 47 #[.pointer (some ⟨rb, 0, none⟩), .agg f.v] w fun e w' => ∃ ld', e = .returned (.int .i64 (s.put f).2) ∧ DocFX w' rb ld' (s.put f).1 ∧ (ld' = ld ∨ w.heap.size ≤ ld') ∧ But (fun k => k = rb) w w' := by
  obtain ⟨a, c, H, hl⟩ := D.ex
  refine (rput_fy rb s a c f w ho.ok D.ok.lenD H D.ok).mono ?_
  rintro e w' ⟨rfl, N, b⟩
  obtain ⟨ld', h1, h2⟩ := docf_next hl D.lt N (Ft.put_ok D.ok ho) b
  exact ⟨ld', rfl, h1, h2, b⟩
theorem rdropFX (rb ld : Nat) (s : Ft) (q : Wy) (w : World) (D : DocFX w rb ld s) : Calls Try.prog 48 #[.pointer (some ⟨rb, 0, none⟩), .agg q.v] w fun e w' => ∃ ld', e = .returned (.bool (s.drop q).2) ∧ DocFX w' rb ld' (s.drop q).1 ∧ (ld' = ld ∨ w.heap.size ≤ ld') ∧ But (fun k => k = rb) w w' := by
  obtain ⟨a, c, H, hl⟩ := D.ex
  refine (rdrop_fy rb s a c q w D.ok.lenD H D.ok).mono ?_
  rintro e w' ⟨rfl, N, b⟩
  obtain ⟨ld', h1, h2⟩ := docf_next hl D.lt N (Ft.drop_ok D.ok q) b
  exact ⟨ld', rfl, h1, h2, b⟩
theorem rtickFX (rb ld : Nat) (s : Ft) (n : Int) (w : World) (D : DocFX w rb ld s) : Calls Try.prog 49 #[.pointer (some ⟨rb, 0, none⟩), .int .i64 n] w fun e w' => ∃ ld', e = .returned (.int .i64 (s.tick n).2) ∧ DocFX w' rb ld' (s.tick n).1 ∧ (ld' = ld ∨ w.heap.size ≤ ld') ∧ But (fun k => k = rb) w w' := by
  obtain ⟨a, c, H, hl⟩ := D.ex
  refine (rtick_fy rb s a c n w D.ok.lenD H).mono ?_
  rintro e w' ⟨rfl, N, b⟩
  obtain ⟨ld', h1, h2⟩ := docf_next hl D.lt N (Ft.tick_ok D.ok n) b
  exact ⟨ld', rfl, h1, h2, b⟩
theorem rfindFX (rb ld : Nat) (s : Ft) (q : Wy) (w : World) (D : DocFX w rb ld s) : Calls Try.prog 50 #[.pointer (some ⟨rb, 0, none⟩), .agg q.v] w fun e w' => e = .returned (.tuple #[.agg (s.find q).1.v, .int .i64 (s.find q).2.1, .bool (s.find q).2.2]) ∧ Below w.heap.size w w' := by
  obtain ⟨a, c, H, hl⟩ := D.ex
  exact rfind_fy rb s a c q w D.ok.lenD H
def Ac.go (q : Ac) (s : Ft) : Ft := if bits .and .i64 q.kd 3 == 0 then (s.put q.f).1 else if bits .and .i64 q.kd 3 == 1 then (s.drop q.f.w).1 else if bits .and .i64 q.kd 3 == 2 then (s.tick q.nw).1 else s
/-- Both tables behind a call. -/
def BothF (sz ld : Nat) (w : World) (tb mb rb : Nat) (s : Ft) : Prop := ∃ ld', TabX w tb mb s ∧ DocFX w rb ld' s ∧ ((tb ≠ rb ∧ mb ≠ rb) ∧ (tb ≠ ld' ∧ mb ≠ ld')) ∧ (ld' = ld ∨ sz ≤ ld')
set_option maxRecDepth 100000 in
set_option maxHeartbeats 4000000 in
theorem same_fy (a a2 : Option Addr) (c c2 : Nat) (l : List Fl) (w : World) (h1 : RowL w a l) (h2 : RowL w a2 l) (hll : l.length ≤ 1000000) :
    Calls Try.prog 22 #[.slice a l.length c, .slice a2 l.length c2] w fun e w' => e = .returned (.bool true) ∧ Below w.heap.size w w' := by
  have HA : Hid (RowL w a l) := h1
  have HB : Hid (RowL w a2 l) := h2
  obtain ⟨N, hN⟩ : ∃ N, l.length = N := ⟨_, rfl⟩
  have HN : Hid (l.length = N) := hN
  rw [hN] at hll ⊢
  clear hN h1 h2
  obtain ⟨R, hR⟩ : ∃ R, (7777 : Int) = R := ⟨_, rfl⟩
  have HR : Hid ((7777 : Int) = R) := hR
  try rw [hR]
  clear hR
  have b := Below.refl w.heap.size w
  go_enter Try.func22, Try.ntmps22
  go_wp2_with fail
  go_loopw [5] (fun i wr => ∃ k : Nat, k ≤ N ∧ i = .int .i64 k ∧ Below w.heap.size w wr) (fun i _ => N - (intOf i).toNat)
  case atStart => exact ⟨0, Nat.zero_le _, rfl, b⟩
  case round =>
    obtain ⟨k, hk, rfl, br⟩ := hrel
    obtain ⟨Wr, rfl⟩ : ∃ W, W = wr := ⟨_, rfl⟩
    have in0 : (0 : Int) ≤ (k : Int) := by omega
    by_cases hlt : k < N
    · have ik : (k : Int) < (N : Int) := by omega
      have ik' : decide ((k : Int) < (N : Int)) = true := by simpa using ik
      obtain ⟨q, hq⟩ : ∃ q, l[k]? = some q := ⟨_, List.getElem?_eq_getElem (by rw [HN.out]; exact hlt)⟩
      obtain ⟨p1, o1, rfl, hc1⟩ := (HA.out.low br).cells k q hq
      obtain ⟨p2, o2, rfl, hc2⟩ := (HB.out.low br).cells k q hq
      have HC1 : Hid (CellsAt Wr p1 (o1 + k * 22) q.v) := hc1
      have HC2 : Hid (CellsAt Wr p2 (o2 + k * 22) q.v) := hc2
      have Qr : But (fun _ => False) Wr Wr := But.refl _ _
      clear hq hc1 hc2
      go_wp2_with fail
      obtain ⟨Wdq1, hWdq1⟩ : ∃ W, Wr.drew = W := ⟨_, rfl⟩
      have Qdq1 := hWdq1 ▸ Qr.drew
      have bdq1 := hWdq1 ▸ br.drew
      refine wp_region_noPanic ?_
      refine wp_region_held_drew (S := fun w' => But (fun _ => False) Wr w') (by kernel_rfl) (by rw [hWdq1]; exact Qdq1) (fun hHeld => ?_)
      rw [hWdq1] at hHeld ⊢
      refine qtk (i := 0) (oi := { dst := some 17, op := Op.move (.tmp 0), type := 53, pos := "ref.go:219", after := #[], guard := none }) (v := (.slice (some ⟨p1, o1, none⟩) N c)) hHeld ?_ ?_
      · intro w9 hSw
        try dsimp only at hSw
        go_simp
      try simp only [qpu]
      refine qtk (i := 1) (oi := { dst := some 18, op := Op.move (.tmp 5), type := 3, pos := "ref.go:219", after := #[], guard := none }) (v := (.int .i64 (k : Int))) hHeld ?_ ?_
      · intro w9 hSw
        try dsimp only at hSw
        go_simp
      try simp only [qpu]
      refine qtk (i := 2) (oi := { dst := some 19, op := Op.indexAddr 53 (.tmp 17) (.tmp 18), type := 0, pos := "ref.go:219", after := #[{ on := 0, ground := Ground.data }, { on := 1, ground := Ground.data }], guard := none }) (v := (.pointer (some ⟨p1, o1 + k * 22, none⟩))) hHeld ?_ ?_
      · intro w9 hSw
        try dsimp only at hSw
        go_simp
      try simp only [qpu]
      refine qty (i := 3) (oi := { dst := some 20, op := Op.load 33 (.tmp 19), type := 33, pos := "ref.go:219", after := #[{ on := 2, ground := Ground.data }], guard := none }) (v := (.agg q.v)) (yieldsIf_at (by kernel_rfl) _ _ rfl p1 (o1 + k * 22) (by rfl) _ (fun _ hSw => HC1.out.below (hSw.to_below (Nat.le_refl _) (fun _ _ x => x))) Try.underlying33 (by kernel_rfl)) hHeld ?_
      try simp only [qpu]
      refine qtk (i := 4) (oi := { dst := some 21, op := Op.move (.tmp 1), type := 53, pos := "ref.go:219", after := #[], guard := none }) (v := (.slice (some ⟨p2, o2, none⟩) N c2)) hHeld ?_ ?_
      · intro w9 hSw
        try dsimp only at hSw
        go_simp
      try simp only [qpu]
      refine qtk (i := 5) (oi := { dst := some 22, op := Op.move (.tmp 5), type := 3, pos := "ref.go:219", after := #[], guard := none }) (v := (.int .i64 (k : Int))) hHeld ?_ ?_
      · intro w9 hSw
        try dsimp only at hSw
        go_simp
      try simp only [qpu]
      refine qtk (i := 6) (oi := { dst := some 23, op := Op.indexAddr 53 (.tmp 21) (.tmp 22), type := 0, pos := "ref.go:219", after := #[{ on := 4, ground := Ground.data }, { on := 5, ground := Ground.data }], guard := none }) (v := (.pointer (some ⟨p2, o2 + k * 22, none⟩))) hHeld ?_ ?_
      · intro w9 hSw
        try dsimp only at hSw
        go_simp
      try simp only [qpu]
      refine qty (i := 7) (oi := { dst := some 24, op := Op.load 33 (.tmp 23), type := 33, pos := "ref.go:219", after := #[{ on := 6, ground := Ground.data }], guard := none }) (v := (.agg q.v)) (yieldsIf_at (by kernel_rfl) _ _ rfl p2 (o2 + k * 22) (by rfl) _ (fun _ hSw => HC2.out.below (hSw.to_below (Nat.le_refl _) (fun _ _ x => x))) Try.underlying33 (by kernel_rfl)) hHeld ?_
      try simp only [qpu]
      refine qtk (i := 8) (oi := { dst := some 25, op := Op.binOp BinOp.neq 33 (.tmp 20) (.tmp 24) 33, type := 4, pos := "ref.go:219", after := #[{ on := 3, ground := Ground.data }, { on := 7, ground := Ground.data }], guard := none }) (v := (.bool false)) hHeld ?_ ?_
      · intro w9 hSw
        try dsimp only at hSw
        have hcc := neq_fl q
        go_simp
      try simp only [qpu]
      refine wpAnyH_done (by kernel_rfl) ?_ _
      refine NoPanic.normal ?_
      go_wp2_with fail
      exact ⟨⟨k + 1, by omega, by go_num, bdq1⟩, by simp [intOf]; omega⟩

    · have ik : ¬ (k : Int) < (N : Int) := by omega
      have ik' : decide ((k : Int) < (N : Int)) = false := by simpa using ik
      go_wp2_with fail
      go_ret
      exact ⟨rfl, br⟩
set_option maxRecDepth 100000 in
set_option maxHeartbeats 16000000 in
theorem does_fy (tb mb rb ld : Nat) (s : Ft) (q : Ac) (w : World) (X : TabX w tb mb s) (D : DocFX w rb ld s) (nXD : ((tb ≠ rb ∧ mb ≠ rb) ∧ (tb ≠ ld ∧ mb ≠ ld))) (hok : q.ok) :
    Calls Try.prog 19 #[.pointer (some ⟨tb, 0, none⟩), .pointer (some ⟨rb, 0, none⟩), .agg q.v] w fun e w' => e = .returned (.bool true) ∧ BothF w.heap.size ld w' tb mb rb (q.go s) ∧ But (fun k => k = tb ∨ k = mb ∨ k = rb) w w' := by
  have gd : ld = ld ∨ w.heap.size ≤ ld := .inl rfl
  obtain ⟨R, hR⟩ : ∃ R, (q.go s) = R := ⟨_, rfl⟩
  have HR : Hid ((q.go s) = R) := hR
  try rw [hR]
  clear hR
  have b := But.refl (fun k => k = tb ∨ k = mb ∨ k = rb) w
  go_enter Try.func19, Try.ntmps19
  cases hq3 : ((bits .and .i64 q.kd 3) == 0) with
  | false =>
    cases hq6 : ((bits .and .i64 q.kd 3) == 1) with
    | false =>
      cases hq9 : ((bits .and .i64 q.kd 3) == 2) with
      | false =>
        obtain ⟨Wm10, hWm10⟩ : ∃ W, w.alloc (.cells q.v 59) = W := ⟨_, rfl⟩
        have bm10 := but_al b hWm10
        have Xm10 := X.al hWm10
        have Dm10 := D.al hWm10
        have Am10 := blk_nw hWm10
        have gA : (fun k => k = tb ∨ k = mb ∨ k = rb) w.heap.size ∨ w.heap.size ≤ w.heap.size := .inr b.size
        have nXA : tb ≠ w.heap.size ∧ mb ≠ w.heap.size := by have := X.lt; omega
        have nDA : rb ≠ w.heap.size ∧ ld ≠ w.heap.size := by have := D.lt; omega
        have c11 := Am10.cell 0 (.int .i64 q.kd) rfl
        go_wp2_with (refine wpList_load_sub_w (by rfl) _ _ rfl w.heap.size 2 _ (by rfl) _ q.f.w.v Am10 (by rfl) Try.underlying26 (by kernel_rfl) ?_)
        clear c11
        refine Calls.mono (findX tb mb s q.f.w _ Xm10 (by first | exact hok.f.w | assumption)) ?_
        rintro e Wm12 ⟨rfl, bb⟩
        have Xm12 := Xm10.kept bb
        have Dm12 := Dm10.kept bb
        have Am12 := Am10.kept bb
        have bm12 := bm10.below bb
        clear bb
        clear Xm10 Dm10 Am10 bm10
        obtain ⟨Wm13, hWm13⟩ : ∃ W, Wm12.alloc (.cells #[.int .i64 0, .int .i64 0, .int .i64 0, .int .u64 0, .int .u64 0, .int .i64 0, .int .u64 0, .int .u64 0, .int .i64 0, .int .i64 0, .int .i64 0, .int .u32 0, .int .u32 0, .int .u32 0, .int .u32 0, .bool false, .bool false, .bool false, .bool false, .int .i64 0, .int .i64 0, .bool false] 33) = W := ⟨_, rfl⟩
        have bm13 := but_al bm12 hWm13
        have Xm13 := Xm12.al hWm13
        have Dm13 := Dm12.al hWm13
        have Am13 := Am12.al hWm13
        have Bm13 := blk_nw hWm13
        have gB : (fun k => k = tb ∨ k = mb ∨ k = rb) Wm12.heap.size ∨ w.heap.size ≤ Wm12.heap.size := .inr bm12.size
        have nXB : tb ≠ Wm12.heap.size ∧ mb ≠ Wm12.heap.size := by have := Xm12.lt; omega
        have nDB : rb ≠ Wm12.heap.size ∧ ld ≠ Wm12.heap.size := by have := Dm12.lt; omega
        have nAB : w.heap.size ≠ Wm12.heap.size := by have := Am12.lt; omega
        have nBA : Wm12.heap.size ≠ w.heap.size := fun e => nAB e.symm
        obtain ⟨Wm14, hWm14⟩ : ∃ W, Wm13.setRow Wm12.heap.size (Ft.find s q.f.w).1.v = W := ⟨_, rfl⟩
        have Bm14 : Blk Wm14 Wm12.heap.size 33 (Ft.find s q.f.w).1.v := hWm14 ▸ Bm13.set (Ft.find s q.f.w).1.v
        have Xm14 := hWm14 ▸ Xm13.other nXB (Ft.find s q.f.w).1.v
        have Dm14 := hWm14 ▸ Dm13.other nDB (Ft.find s q.f.w).1.v
        have Am14 := hWm14 ▸ Am13.other nAB (Ft.find s q.f.w).1.v
        have bm14 := hWm14 ▸ but_setRow bm13 gB (Ft.find s q.f.w).1.v
        go_wp2_with (first | (refine wpList_store_row rfl _ _ _ rfl Wm12.heap.size (Ft.find s q.f.w).1.v (by rfl) (by rfl) _ _ Bm13 (by kernel_rfl) (by rfl) (by kernel_rfl) ?_; rw [hWm14]) | (refine wpList_load_sub_w (by rfl) _ _ rfl w.heap.size 2 _ (by rfl) _ q.f.w.v Am14 (by rfl) Try.underlying26 (by kernel_rfl) ?_))
        refine Calls.mono (rfindFX rb ld s q.f.w _ Dm14) ?_
        rintro e Wm15 ⟨rfl, bb⟩
        have Xm15 := Xm14.kept bb
        have Dm15 := Dm14.kept bb
        have Am15 := Am14.kept bb
        have Bm15 := Bm14.kept bb
        have bm15 := bm14.below bb
        clear bb
        clear Xm14 Dm14 Am14 Bm14 bm14
        obtain ⟨Wm16, hWm16⟩ : ∃ W, Wm15.alloc (.cells #[.int .i64 0, .int .i64 0, .int .i64 0, .int .u64 0, .int .u64 0, .int .i64 0, .int .u64 0, .int .u64 0, .int .i64 0, .int .i64 0, .int .i64 0, .int .u32 0, .int .u32 0, .int .u32 0, .int .u32 0, .bool false, .bool false, .bool false, .bool false, .int .i64 0, .int .i64 0, .bool false] 33) = W := ⟨_, rfl⟩
        have bm16 := but_al bm15 hWm16
        have Xm16 := Xm15.al hWm16
        have Dm16 := Dm15.al hWm16
        have Am16 := Am15.al hWm16
        have Bm16 := Bm15.al hWm16
        have Cm16 := blk_nw hWm16
        have gC : (fun k => k = tb ∨ k = mb ∨ k = rb) Wm15.heap.size ∨ w.heap.size ≤ Wm15.heap.size := .inr bm15.size
        have nXC : tb ≠ Wm15.heap.size ∧ mb ≠ Wm15.heap.size := by have := Xm15.lt; omega
        have nDC : rb ≠ Wm15.heap.size ∧ ld ≠ Wm15.heap.size := by have := Dm15.lt; omega
        have nAC : w.heap.size ≠ Wm15.heap.size := by have := Am15.lt; omega
        have nCA : Wm15.heap.size ≠ w.heap.size := fun e => nAC e.symm
        have nBC : Wm12.heap.size ≠ Wm15.heap.size := by have := Bm15.lt; omega
        have nCB : Wm15.heap.size ≠ Wm12.heap.size := fun e => nBC e.symm
        obtain ⟨Wm17, hWm17⟩ : ∃ W, Wm16.setRow Wm15.heap.size (Ft.find s q.f.w).1.v = W := ⟨_, rfl⟩
        have Cm17 : Blk Wm17 Wm15.heap.size 33 (Ft.find s q.f.w).1.v := hWm17 ▸ Cm16.set (Ft.find s q.f.w).1.v
        have Xm17 := hWm17 ▸ Xm16.other nXC (Ft.find s q.f.w).1.v
        have Dm17 := hWm17 ▸ Dm16.other nDC (Ft.find s q.f.w).1.v
        have Am17 := hWm17 ▸ Am16.other nAC (Ft.find s q.f.w).1.v
        have Bm17 := hWm17 ▸ Bm16.other nBC (Ft.find s q.f.w).1.v
        have bm17 := hWm17 ▸ but_setRow bm16 gC (Ft.find s q.f.w).1.v
        have hE18 := eql_fl (Ft.find s q.f.w).1
        go_wp2_with (first | (refine wpList_store_row rfl _ _ _ rfl Wm15.heap.size (Ft.find s q.f.w).1.v (by rfl) (by rfl) _ _ Cm16 (by kernel_rfl) (by rfl) (by kernel_rfl) ?_; rw [hWm17]) | (refine wpList_load_blk_w (by rfl) _ _ rfl Wm12.heap.size (by rfl) _ Bm17 Try.underlying33 (by kernel_rfl) ?_) | (refine wpList_load_blk_w (by rfl) _ _ rfl Wm15.heap.size (by rfl) _ Cm17 Try.underlying33 (by kernel_rfl) ?_))
        have hR2 : R = s := by rw [← HR.out]; unfold Ac.go; simp [hq3, hq6, hq9]
        subst hR2
        go_ret
        exact ⟨rfl, ⟨ld, Xm17, Dm17, nXD, (by first | exact gd | exact .inl rfl)⟩, bm17⟩

      | true =>
        obtain ⟨Wm19, hWm19⟩ : ∃ W, w.alloc (.cells q.v 59) = W := ⟨_, rfl⟩
        have bm19 := but_al b hWm19
        have Xm19 := X.al hWm19
        have Dm19 := D.al hWm19
        have Am19 := blk_nw hWm19
        have gA : (fun k => k = tb ∨ k = mb ∨ k = rb) w.heap.size ∨ w.heap.size ≤ w.heap.size := .inr b.size
        have nXA : tb ≠ w.heap.size ∧ mb ≠ w.heap.size := by have := X.lt; omega
        have nDA : rb ≠ w.heap.size ∧ ld ≠ w.heap.size := by have := D.lt; omega
        have c20 := Am19.cell 0 (.int .i64 q.kd) rfl
        go_wp2_with fail
        clear c20
        obtain ⟨Wdq21, hWdq21⟩ : ∃ W, Wm19.drew = W := ⟨_, rfl⟩
        have Xdq21 := hWdq21 ▸ Xm19.drew
        have Ddq21 := hWdq21 ▸ Dm19.drew
        have Adq21 := hWdq21 ▸ Am19.drew
        have bdq21 := hWdq21 ▸ bm19.drew
        refine wp_region_noPanic ?_
        refine wp_region_held_drew (S := fun w' => Blk w' w.heap.size 59 q.v) (by kernel_rfl) (by rw [hWdq21]; exact Adq21) (fun hHeld => ?_)
        rw [hWdq21] at hHeld ⊢
        refine qtk (i := 0) (oi := { dst := some 42, op := Op.move (.tmp 0), type := 50, pos := "law.go:54", after := #[], guard := none }) (v := (.pointer (some ⟨tb, 0, none⟩))) hHeld ?_ ?_
        · intro w9 hSw
          try dsimp only at hSw
          go_simp
        try simp only [qpu]
        refine qtk (i := 1) (oi := { dst := some 43, op := Op.fieldAddr 59 (.tmp 5) 1, type := 0, pos := "law.go:54", after := #[], guard := none }) (v := (.pointer (some ⟨w.heap.size, 1, none⟩))) hHeld ?_ ?_
        · intro w9 hSw
          try dsimp only at hSw
          go_simp
        try simp only [qpu]
        refine qtk (i := 2) (oi := { dst := some 44, op := Op.load 3 (.tmp 43), type := 3, pos := "law.go:54", after := #[{ on := 1, ground := Ground.data }], guard := none }) (v := (.int .i64 q.nw)) hHeld ?_ ?_
        · intro w9 hSw
          try dsimp only at hSw
          have hcc := hSw.cell 1 (.int .i64 q.nw) rfl
          go_simp
        try simp only [qpu]
        refine qtk (i := 4) (oi := { dst := some 46, op := Op.move (.tmp 1), type := 61, pos := "law.go:54", after := #[], guard := none }) (v := (.pointer (some ⟨rb, 0, none⟩))) hHeld ?_ ?_
        · intro w9 hSw
          try dsimp only at hSw
          go_simp
        try simp only [qpu]
        refine qtk (i := 5) (oi := { dst := some 47, op := Op.fieldAddr 59 (.tmp 5) 1, type := 0, pos := "law.go:54", after := #[], guard := none }) (v := (.pointer (some ⟨w.heap.size, 1, none⟩))) hHeld ?_ ?_
        · intro w9 hSw
          try dsimp only at hSw
          go_simp
        try simp only [qpu]
        refine qtk (i := 6) (oi := { dst := some 48, op := Op.load 3 (.tmp 47), type := 3, pos := "law.go:54", after := #[{ on := 5, ground := Ground.data }], guard := none }) (v := (.int .i64 q.nw)) hHeld ?_ ?_
        · intro w9 hSw
          try dsimp only at hSw
          have hcc := hSw.cell 1 (.int .i64 q.nw) rfl
          go_simp
        try simp only [qpu]
        refine wpAnyH_ready (rs := [3]) (by kernel_rfl) (by simp) ?_
        refine AllReadyH.cons (o := { dst := some 45, op := Op.call { callee := Callee.value (.func 24), args := #[.tmp 42, .tmp 44], argTypes := #[50, 3] }, type := 37, pos := "law.go:54", after := #[{ on := 0, ground := Ground.data }, { on := 2, ground := Ground.data }], guard := none }) rfl (fun K hK => ?_) AllReadyH.nil
        go_simp
        refine Calls.mono (tickX tb mb s q.nw _ Xdq21) ?_
        rintro e Wx22 ⟨rfl, Xx22, bb⟩
        have Ax22 := Adq21.but bb (by have := nXA; omega)
        have Dx22 := Ddq21.but bb (by have := nXD; omega) (by have := nXD; omega)
        have bx22 := bdq21.trans bb (fun k hk e => e.imp id .inl)
        clear bb
        refine hK.out _ _ (by exact Ax22) (fun hHeld => ?_)
        clear hK K
        try simp only [qpu]
        refine wpAnyH_ready (rs := [7]) (by kernel_rfl) (by simp) ?_
        refine AllReadyH.cons (o := { dst := some 49, op := Op.call { callee := Callee.value (.func 49), args := #[.tmp 46, .tmp 48], argTypes := #[61, 3] }, type := 3, pos := "law.go:54", after := #[{ on := 4, ground := Ground.data }, { on := 6, ground := Ground.data }, { on := 3, ground := Ground.chain }], guard := none }) rfl (fun K hK => ?_) AllReadyH.nil
        go_simp
        refine Calls.mono (rtickFX rb ld s q.nw _ Dx22) ?_
        rintro e Wx23 ⟨ld23, rfl, Dx23, hdx23, bb⟩
        have Ax23 := Ax22.but bb (by have := nDA; omega)
        have Xx23 := Xx22.but bb (by have := nXD; omega) (by have := nXD; omega)
        have nXD : ((tb ≠ rb ∧ mb ≠ rb) ∧ (tb ≠ ld23 ∧ mb ≠ ld23)) := by have h9 := nXD; have h8 := Xx22.lt; rcases hdx23 with h | h <;> omega
        have nDA : rb ≠ w.heap.size ∧ ld23 ≠ w.heap.size := by have h8 := Ax22.lt; have h9 := nDA; rcases hdx23 with h | h <;> omega
        have gd : ld23 = ld ∨ w.heap.size ≤ ld23 := by have h9 := bx22.size; have h8 := gd; rcases hdx23 with h | h <;> omega
        have bx23 := bx22.trans bb (fun k hk e => .inr (.inr e))
        clear bb
        refine hK.out _ _ (by exact Ax23) (fun hHeld => ?_)
        clear hK K
        try simp only [qpu]
        refine qtk (i := 8) (oi := { dst := some 50, op := Op.binOp BinOp.eql 3 (.tmp 45) (.tmp 49) 3, type := 4, pos := "law.go:54", after := #[{ on := 3, ground := Ground.data }, { on := 7, ground := Ground.data }], guard := none }) (v := (.bool true)) hHeld ?_ ?_
        · intro w9 hSw
          try dsimp only at hSw
          go_simp
        try simp only [qpu]
        refine qtk (i := 9) (oi := { dst := some 6, op := Op.assign (.tmp 50), type := 4, pos := "law.go:54", after := #[{ on := 8, ground := Ground.data }, { on := 7, ground := Ground.chain }, { on := 0, ground := Ground.phase }, { on := 1, ground := Ground.phase }, { on := 2, ground := Ground.phase }, { on := 3, ground := Ground.phase }, { on := 4, ground := Ground.phase }, { on := 5, ground := Ground.phase }, { on := 6, ground := Ground.phase }, { on := 7, ground := Ground.phase }, { on := 8, ground := Ground.phase }], guard := none }) (v := (.bool true)) hHeld ?_ ?_
        · intro w9 hSw
          try dsimp only at hSw
          go_simp
        try simp only [qpu]
        refine wpAnyH_done (by kernel_rfl) ?_ _
        refine NoPanic.normal ?_
        go_wp2_with fail
        have hR2 : R = (Ft.tick s q.nw).1 := by rw [← HR.out]; unfold Ac.go; simp [hq3, hq6, hq9]
        subst hR2
        go_ret
        exact ⟨rfl, ⟨ld23, Xx23, Dx23, nXD, (by first | exact gd | exact .inl rfl)⟩, bx23⟩


    | true =>
      obtain ⟨Wm24, hWm24⟩ : ∃ W, w.alloc (.cells q.v 59) = W := ⟨_, rfl⟩
      have bm24 := but_al b hWm24
      have Xm24 := X.al hWm24
      have Dm24 := D.al hWm24
      have Am24 := blk_nw hWm24
      have gA : (fun k => k = tb ∨ k = mb ∨ k = rb) w.heap.size ∨ w.heap.size ≤ w.heap.size := .inr b.size
      have nXA : tb ≠ w.heap.size ∧ mb ≠ w.heap.size := by have := X.lt; omega
      have nDA : rb ≠ w.heap.size ∧ ld ≠ w.heap.size := by have := D.lt; omega
      have c25 := Am24.cell 0 (.int .i64 q.kd) rfl
      go_wp2_with fail
      clear c25
      obtain ⟨Wdq26, hWdq26⟩ : ∃ W, Wm24.drew = W := ⟨_, rfl⟩
      have Xdq26 := hWdq26 ▸ Xm24.drew
      have Ddq26 := hWdq26 ▸ Dm24.drew
      have Adq26 := hWdq26 ▸ Am24.drew
      have bdq26 := hWdq26 ▸ bm24.drew
      refine wp_region_noPanic ?_
      refine wp_region_held_drew (S := fun w' => Blk w' w.heap.size 59 q.v) (by kernel_rfl) (by rw [hWdq26]; exact Adq26) (fun hHeld => ?_)
      rw [hWdq26] at hHeld ⊢
      refine qtk (i := 0) (oi := { dst := some 29, op := Op.move (.tmp 0), type := 50, pos := "law.go:52", after := #[], guard := none }) (v := (.pointer (some ⟨tb, 0, none⟩))) hHeld ?_ ?_
      · intro w9 hSw
        try dsimp only at hSw
        go_simp
      try simp only [qpu]
      refine qtk (i := 1) (oi := { dst := some 30, op := Op.fieldAddr 59 (.tmp 5) 2, type := 0, pos := "law.go:52", after := #[], guard := none }) (v := (.pointer (some ⟨w.heap.size, 2, none⟩))) hHeld ?_ ?_
      · intro w9 hSw
        try dsimp only at hSw
        go_simp
      try simp only [qpu]
      refine qtk (i := 2) (oi := { dst := some 31, op := Op.fieldAddr 33 (.tmp 30) 0, type := 0, pos := "law.go:52", after := #[{ on := 1, ground := Ground.data }], guard := none }) (v := (.pointer (some ⟨w.heap.size, 2, none⟩))) hHeld ?_ ?_
      · intro w9 hSw
        try dsimp only at hSw
        go_simp
      try simp only [qpu]
      refine qty (i := 3) (oi := { dst := some 32, op := Op.load 26 (.tmp 31), type := 26, pos := "law.go:52", after := #[{ on := 2, ground := Ground.data }], guard := none }) (v := (.agg q.f.w.v)) (yieldsIf_sub_w (by kernel_rfl) _ _ rfl w.heap.size 2 _ (by rfl) _ q.f.w.v (fun _ hSw => hSw) (by rfl) Try.underlying26 (by kernel_rfl)) hHeld ?_
      try simp only [qpu]
      refine qtk (i := 5) (oi := { dst := some 34, op := Op.move (.tmp 1), type := 61, pos := "law.go:52", after := #[], guard := none }) (v := (.pointer (some ⟨rb, 0, none⟩))) hHeld ?_ ?_
      · intro w9 hSw
        try dsimp only at hSw
        go_simp
      try simp only [qpu]
      refine qtk (i := 6) (oi := { dst := some 35, op := Op.fieldAddr 59 (.tmp 5) 2, type := 0, pos := "law.go:52", after := #[], guard := none }) (v := (.pointer (some ⟨w.heap.size, 2, none⟩))) hHeld ?_ ?_
      · intro w9 hSw
        try dsimp only at hSw
        go_simp
      try simp only [qpu]
      refine qtk (i := 7) (oi := { dst := some 36, op := Op.fieldAddr 33 (.tmp 35) 0, type := 0, pos := "law.go:52", after := #[{ on := 6, ground := Ground.data }], guard := none }) (v := (.pointer (some ⟨w.heap.size, 2, none⟩))) hHeld ?_ ?_
      · intro w9 hSw
        try dsimp only at hSw
        go_simp
      try simp only [qpu]
      refine qty (i := 8) (oi := { dst := some 37, op := Op.load 26 (.tmp 36), type := 26, pos := "law.go:52", after := #[{ on := 7, ground := Ground.data }], guard := none }) (v := (.agg q.f.w.v)) (yieldsIf_sub_w (by kernel_rfl) _ _ rfl w.heap.size 2 _ (by rfl) _ q.f.w.v (fun _ hSw => hSw) (by rfl) Try.underlying26 (by kernel_rfl)) hHeld ?_
      try simp only [qpu]
      refine wpAnyH_ready (rs := [4]) (by kernel_rfl) (by simp) ?_
      refine AllReadyH.cons (o := { dst := some 33, op := Op.call { callee := Callee.value (.func 29), args := #[.tmp 29, .tmp 32], argTypes := #[50, 26] }, type := 4, pos := "law.go:52", after := #[{ on := 0, ground := Ground.data }, { on := 3, ground := Ground.data }], guard := none }) rfl (fun K hK => ?_) AllReadyH.nil
      go_simp
      refine Calls.mono (dropX tb mb s q.f.w _ Xdq26 (by first | exact hok.f.w | assumption)) ?_
      rintro e Wx27 ⟨rfl, Xx27, bb⟩
      have Ax27 := Adq26.but bb (by have := nXA; omega)
      have Dx27 := Ddq26.but bb (by have := nXD; omega) (by have := nXD; omega)
      have bx27 := bdq26.trans bb (fun k hk e => e.imp id .inl)
      clear bb
      refine hK.out _ _ (by exact Ax27) (fun hHeld => ?_)
      clear hK K
      try simp only [qpu]
      refine wpAnyH_ready (rs := [9]) (by kernel_rfl) (by simp) ?_
      refine AllReadyH.cons (o := { dst := some 38, op := Op.call { callee := Callee.value (.func 48), args := #[.tmp 34, .tmp 37], argTypes := #[61, 26] }, type := 4, pos := "law.go:52", after := #[{ on := 5, ground := Ground.data }, { on := 8, ground := Ground.data }, { on := 4, ground := Ground.chain }], guard := none }) rfl (fun K hK => ?_) AllReadyH.nil
      go_simp
      refine Calls.mono (rdropFX rb ld s q.f.w _ Dx27) ?_
      rintro e Wx28 ⟨ld28, rfl, Dx28, hdx28, bb⟩
      have Ax28 := Ax27.but bb (by have := nDA; omega)
      have Xx28 := Xx27.but bb (by have := nXD; omega) (by have := nXD; omega)
      have nXD : ((tb ≠ rb ∧ mb ≠ rb) ∧ (tb ≠ ld28 ∧ mb ≠ ld28)) := by have h9 := nXD; have h8 := Xx27.lt; rcases hdx28 with h | h <;> omega
      have nDA : rb ≠ w.heap.size ∧ ld28 ≠ w.heap.size := by have h8 := Ax27.lt; have h9 := nDA; rcases hdx28 with h | h <;> omega
      have gd : ld28 = ld ∨ w.heap.size ≤ ld28 := by have h9 := bx27.size; have h8 := gd; rcases hdx28 with h | h <;> omega
      have bx28 := bx27.trans bb (fun k hk e => .inr (.inr e))
      clear bb
      refine hK.out _ _ (by exact Ax28) (fun hHeld => ?_)
      clear hK K
      try simp only [qpu]
      refine qtk (i := 10) (oi := { dst := some 39, op := Op.binOp BinOp.eql 4 (.tmp 33) (.tmp 38) 4, type := 4, pos := "law.go:52", after := #[{ on := 4, ground := Ground.data }, { on := 9, ground := Ground.data }], guard := none }) (v := (.bool true)) hHeld ?_ ?_
      · intro w9 hSw
        try dsimp only at hSw
        go_simp
      try simp only [qpu]
      refine qtk (i := 11) (oi := { dst := some 6, op := Op.assign (.tmp 39), type := 4, pos := "law.go:52", after := #[{ on := 10, ground := Ground.data }, { on := 9, ground := Ground.chain }, { on := 0, ground := Ground.phase }, { on := 1, ground := Ground.phase }, { on := 2, ground := Ground.phase }, { on := 3, ground := Ground.phase }, { on := 4, ground := Ground.phase }, { on := 5, ground := Ground.phase }, { on := 6, ground := Ground.phase }, { on := 7, ground := Ground.phase }, { on := 8, ground := Ground.phase }, { on := 9, ground := Ground.phase }, { on := 10, ground := Ground.phase }], guard := none }) (v := (.bool true)) hHeld ?_ ?_
      · intro w9 hSw
        try dsimp only at hSw
        go_simp
      try simp only [qpu]
      refine wpAnyH_done (by kernel_rfl) ?_ _
      refine NoPanic.normal ?_
      go_wp2_with fail
      have hR2 : R = (Ft.drop s q.f.w).1 := by rw [← HR.out]; unfold Ac.go; simp [hq3, hq6]
      subst hR2
      go_ret
      exact ⟨rfl, ⟨ld28, Xx28, Dx28, nXD, (by first | exact gd | exact .inl rfl)⟩, bx28⟩


  | true =>
    obtain ⟨Wm29, hWm29⟩ : ∃ W, w.alloc (.cells q.v 59) = W := ⟨_, rfl⟩
    have bm29 := but_al b hWm29
    have Xm29 := X.al hWm29
    have Dm29 := D.al hWm29
    have Am29 := blk_nw hWm29
    have gA : (fun k => k = tb ∨ k = mb ∨ k = rb) w.heap.size ∨ w.heap.size ≤ w.heap.size := .inr b.size
    have nXA : tb ≠ w.heap.size ∧ mb ≠ w.heap.size := by have := X.lt; omega
    have nDA : rb ≠ w.heap.size ∧ ld ≠ w.heap.size := by have := D.lt; omega
    have c30 := Am29.cell 0 (.int .i64 q.kd) rfl
    go_wp2_with fail
    clear c30
    obtain ⟨Wdq31, hWdq31⟩ : ∃ W, Wm29.drew = W := ⟨_, rfl⟩
    have Xdq31 := hWdq31 ▸ Xm29.drew
    have Ddq31 := hWdq31 ▸ Dm29.drew
    have Adq31 := hWdq31 ▸ Am29.drew
    have bdq31 := hWdq31 ▸ bm29.drew
    refine wp_region_noPanic ?_
    refine wp_region_held_drew (S := fun w' => Blk w' w.heap.size 59 q.v) (by kernel_rfl) (by rw [hWdq31]; exact Adq31) (fun hHeld => ?_)
    rw [hWdq31] at hHeld ⊢
    refine qtk (i := 0) (oi := { dst := some 18, op := Op.move (.tmp 0), type := 50, pos := "law.go:50", after := #[], guard := none }) (v := (.pointer (some ⟨tb, 0, none⟩))) hHeld ?_ ?_
    · intro w9 hSw
      try dsimp only at hSw
      go_simp
    try simp only [qpu]
    refine qtk (i := 1) (oi := { dst := some 19, op := Op.fieldAddr 59 (.tmp 5) 2, type := 0, pos := "law.go:50", after := #[], guard := none }) (v := (.pointer (some ⟨w.heap.size, 2, none⟩))) hHeld ?_ ?_
    · intro w9 hSw
      try dsimp only at hSw
      go_simp
    try simp only [qpu]
    refine qty (i := 2) (oi := { dst := some 20, op := Op.load 33 (.tmp 19), type := 33, pos := "law.go:50", after := #[{ on := 1, ground := Ground.data }], guard := none }) (v := (.agg q.f.v)) (yieldsIf_sub_w (by kernel_rfl) _ _ rfl w.heap.size 2 _ (by rfl) _ q.f.v (fun _ hSw => hSw) (by rfl) Try.underlying33 (by kernel_rfl)) hHeld ?_
    try simp only [qpu]
    refine qtk (i := 4) (oi := { dst := some 22, op := Op.move (.tmp 1), type := 61, pos := "law.go:50", after := #[], guard := none }) (v := (.pointer (some ⟨rb, 0, none⟩))) hHeld ?_ ?_
    · intro w9 hSw
      try dsimp only at hSw
      go_simp
    try simp only [qpu]
    refine qtk (i := 5) (oi := { dst := some 23, op := Op.fieldAddr 59 (.tmp 5) 2, type := 0, pos := "law.go:50", after := #[], guard := none }) (v := (.pointer (some ⟨w.heap.size, 2, none⟩))) hHeld ?_ ?_
    · intro w9 hSw
      try dsimp only at hSw
      go_simp
    try simp only [qpu]
    refine qty (i := 6) (oi := { dst := some 24, op := Op.load 33 (.tmp 23), type := 33, pos := "law.go:50", after := #[{ on := 5, ground := Ground.data }], guard := none }) (v := (.agg q.f.v)) (yieldsIf_sub_w (by kernel_rfl) _ _ rfl w.heap.size 2 _ (by rfl) _ q.f.v (fun _ hSw => hSw) (by rfl) Try.underlying33 (by kernel_rfl)) hHeld ?_
    try simp only [qpu]
    refine wpAnyH_ready (rs := [3]) (by kernel_rfl) (by simp) ?_
    refine AllReadyH.cons (o := { dst := some 21, op := Op.call { callee := Callee.value (.func 25), args := #[.tmp 18, .tmp 20], argTypes := #[50, 33] }, type := 37, pos := "law.go:50", after := #[{ on := 0, ground := Ground.data }, { on := 2, ground := Ground.data }], guard := none }) rfl (fun K hK => ?_) AllReadyH.nil
    go_simp
    refine Calls.mono (putX tb mb s q.f _ Xdq31 (by first | exact hok.f.w | assumption)) ?_
    rintro e Wx32 ⟨rfl, Xx32, bb⟩
    have Ax32 := Adq31.but bb (by have := nXA; omega)
    have Dx32 := Ddq31.but bb (by have := nXD; omega) (by have := nXD; omega)
    have bx32 := bdq31.trans bb (fun k hk e => e.imp id .inl)
    clear bb
    refine hK.out _ _ (by exact Ax32) (fun hHeld => ?_)
    clear hK K
    try simp only [qpu]
    refine wpAnyH_ready (rs := [7]) (by kernel_rfl) (by simp) ?_
    refine AllReadyH.cons (o := { dst := some 25, op := Op.call { callee := Callee.value (.func 47), args := #[.tmp 22, .tmp 24], argTypes := #[61, 33] }, type := 3, pos := "law.go:50", after := #[{ on := 4, ground := Ground.data }, { on := 6, ground := Ground.data }, { on := 3, ground := Ground.chain }], guard := none }) rfl (fun K hK => ?_) AllReadyH.nil
    go_simp
    refine Calls.mono (rputFX rb ld s q.f _ Dx32 (by first | exact hok.f.w | assumption)) ?_
    rintro e Wx33 ⟨ld33, rfl, Dx33, hdx33, bb⟩
    have Ax33 := Ax32.but bb (by have := nDA; omega)
    have Xx33 := Xx32.but bb (by have := nXD; omega) (by have := nXD; omega)
    have nXD : ((tb ≠ rb ∧ mb ≠ rb) ∧ (tb ≠ ld33 ∧ mb ≠ ld33)) := by have h9 := nXD; have h8 := Xx32.lt; rcases hdx33 with h | h <;> omega
    have nDA : rb ≠ w.heap.size ∧ ld33 ≠ w.heap.size := by have h8 := Ax32.lt; have h9 := nDA; rcases hdx33 with h | h <;> omega
    have gd : ld33 = ld ∨ w.heap.size ≤ ld33 := by have h9 := bx32.size; have h8 := gd; rcases hdx33 with h | h <;> omega
    have bx33 := bx32.trans bb (fun k hk e => .inr (.inr e))
    clear bb
    refine hK.out _ _ (by exact Ax33) (fun hHeld => ?_)
    clear hK K
    try simp only [qpu]
    refine qtk (i := 8) (oi := { dst := some 26, op := Op.binOp BinOp.eql 3 (.tmp 21) (.tmp 25) 3, type := 4, pos := "law.go:50", after := #[{ on := 3, ground := Ground.data }, { on := 7, ground := Ground.data }], guard := none }) (v := (.bool true)) hHeld ?_ ?_
    · intro w9 hSw
      try dsimp only at hSw
      go_simp
    try simp only [qpu]
    refine qtk (i := 9) (oi := { dst := some 6, op := Op.assign (.tmp 26), type := 4, pos := "law.go:50", after := #[{ on := 8, ground := Ground.data }, { on := 7, ground := Ground.chain }, { on := 0, ground := Ground.phase }, { on := 1, ground := Ground.phase }, { on := 2, ground := Ground.phase }, { on := 3, ground := Ground.phase }, { on := 4, ground := Ground.phase }, { on := 5, ground := Ground.phase }, { on := 6, ground := Ground.phase }, { on := 7, ground := Ground.phase }, { on := 8, ground := Ground.phase }], guard := none }) (v := (.bool true)) hHeld ?_ ?_
    · intro w9 hSw
      try dsimp only at hSw
      go_simp
    try simp only [qpu]
    refine wpAnyH_done (by kernel_rfl) ?_ _
    refine NoPanic.normal ?_
    go_wp2_with fail
    have hR2 : R = (Ft.put s q.f).1 := by rw [← HR.out]; unfold Ac.go; simp [hq3]
    subst hR2
    go_ret
    exact ⟨rfl, ⟨ld33, Xx33, Dx33, nXD, (by first | exact gd | exact .inl rfl)⟩, bx33⟩
end Go.Proofs.Ytmjjdbkipagkbaa
