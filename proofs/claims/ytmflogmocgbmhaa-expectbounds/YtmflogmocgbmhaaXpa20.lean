/- Texts joined: XpK -/
import Derived.Test.YtmflogmocgbmhaaXpa18
import Derived.Test.YtmflogmocgbmhaaXpa19
namespace Go.Proofs.Ytmflogmocgbmhaa
open Go.RowKit
set_option linter.unusedVariables false
set_option linter.unusedSimpArgs false
theorem cells_drop {W : World} {b k m : Nat} {cs sub : Array Value} (h : CellsAt W b k cs) (hs : ∀ j v, sub[j]? = some v → cs[m + j]? = some v) : CellsAt W b (k + m) sub := ⟨h.1, fun j v hj => by
  have := h.2 (m + j) v (hs j v hj)
  rwa [Nat.add_assoc]⟩
theorem OwnW.cellQ {w : World} {B lb c k : Nat} {l : List Wt} {q : Wt} (h : OwnW w B (some ⟨lb, 0, none⟩) c l) (hq : l[k]? = some q) : CellsAt w lb (k * 22) q.v := by
  obtain ⟨b, off, ha, hc⟩ := (h.row fun _ _ => trivial).cells k q hq
  simp only [Option.some.injEq, Addr.mk.injEq] at ha
  obtain ⟨rfl, rfl, _⟩ := ha
  rwa [Nat.zero_add] at hc
theorem OwnW.cellM {w : World} {B lb c k : Nat} {l : List Wt} {q : Wt} (h : OwnW w B (some ⟨lb, 0, none⟩) c l) (hq : l[k]? = some q) : CellsAt w lb (k * 22 + 10) q.m.v :=
  cells_drop (h.cellQ hq) (fun j v hj => by
    have hj' : j < 10 := (Array.getElem?_eq_some_iff.1 hj).1
    rw [← hj]
    match j, hj' with
    | 0, _ => rfl
    | 1, _ => rfl
    | 2, _ => rfl
    | 3, _ => rfl
    | 4, _ => rfl
    | 5, _ => rfl
    | 6, _ => rfl
    | 7, _ => rfl
    | 8, _ => rfl
    | 9, _ => rfl)
theorem run_storeVar_one {W : World} {g k : Nat} {t ty : TypeId} {cur : Array Value} (v : Value) (hv : v.cells = #[v]) (h1 : v.oneCell' = true) (h : Blk W g t cur) (hi : (Try.prog.info? ty).map (·.size) = some 1) (hl : k + 1 ≤ cur.size) :
    (storeVar ty ⟨g, k, none⟩ v).run Try.prog W = .ok () (W.setRow g (setMany cur k [v])) := by
  have := run_storeCells_off g k t [v] 0 cur W h (by simpa using hl) (by simpa using h1)
  cases hq : Try.prog.info? ty with
  | none => simp [hq] at hi
  | some i =>
    have hs : i.size = 1 := by simpa [hq] using hi
    simp [storeVar, sizeOf, typeInfo, hq, hv, hs, this]
theorem step_store_one {ops : Array Oper} {o : Oper} {ac : Act} {K : Act → World → Prop} {Q : Exit → Act → World → Prop} {Z : Prop} {w : World} (hgd : o.guard = none) (ty : TypeId) (p x : Operand) (ho : o.op = Op.store ty p x) (g k : Nat) (t : TypeId) (v : Value) (cur new : Array Value)
    (hp : ac.eval p = .pointer (some ⟨g, k, none⟩)) (hx : ac.eval x = v) (hv : v.cells = #[v]) (h1 : v.oneCell' = true) (hb : Blk w g t cur) (hi : (Try.prog.info? ty).map (·.size) = some 1) (hl : k + 1 ≤ cur.size) (hn : setMany cur k [v] = new) (h : K (ac.put o.dst undef) (w.setRow g new)) :
    if Region.wanted o (yielded ops ac.tmps) = true then Oper.wp Try.prog o ac w K Q else Z := by
  have hw : Region.wanted o (yielded ops ac.tmps) = true := by simp [Region.wanted, hgd]
  rw [if_pos hw]
  subst hn
  unfold Oper.wp execOp
  simp only [ho, hp, hx, Instr.storeAt, Instr.sureAddr, Sem.run_bind, Sem.run_pure, Result.andThen_ok, run_storeVar_one v hv h1 hb hi hl]
  exact h
theorem run_appW2 (w : World) (ty : TypeId) (a : Option Addr) (c : Nat) (xs : List Wt) (hown : OwnW w 0 a c xs) (g0 cc : Nat) (t0 : TypeId) (y : Wt) (hy : Blk w g0 t0 y.v) (hn : xs.length + 1 ≤ 1000001) :
    ∃ g c' w', (Builtin.append_ #[39, 39] ty #[.slice a xs.length c, .slice (some ⟨g0, 0, none⟩) 1 cc]).run Try.prog w = .ok (.slice (some ⟨g, 0, none⟩) (xs.length + 1) c') w' ∧ OwnW w' 0 (some ⟨g, 0, none⟩) c' (xs ++ [y]) ∧ w.grownBy w' (a.map (·.block)) ∧ (a.map (·.block) = some g ∨ g = w.heap.size) := by
  obtain ⟨i0, hi, hz0, hz1, hz2⟩ := info_parts info_want
  obtain ⟨g, cap, w', h1, h2, h3, h4, h5⟩ := run_append_lies (P := Try.prog) w 39 ty 0 28 i0 _ 22 176 Try.underlying39 hi hz0 hz1 hz2 rfl (by decide) (.slice a xs.length c) xs.length (pcW xs) hown ⟨g0, 0, none⟩ 1 cc y.v.toList (by simp) (World.news_of_block hy) (wtv_one y) (by decide) (by unfold maxLen; omega) (by omega) (Nat.zero_le _) _ rfl
  rw [slice_blkW] at h3 h4
  refine ⟨g, cap, w', h1, ?_, h3, h4⟩
  show w'.ownsRow 0 28 22 _ (xs ++ [y]).length (pcW (xs ++ [y]))
  have e : pcW (xs ++ [y]) = pcW xs ++ y.v.toList := by simp [pcW]
  rw [List.length_append, e]
  exact h2
set_option maxRecDepth 100000 in
set_option maxHeartbeats 4000000 in
theorem putat_xp (tb lb : Nat) (s : Xt) (c k : Nat) (q f : Wt) (w : World) (T : Blk w tb 61 (tabW s (some ⟨lb, 0, none⟩) c)) (O : OwnW w 0 (some ⟨lb, 0, none⟩) c s.L) (nTO : tb ≠ lb) (hq0 : s.L[k]? = some q) (hll : s.L.length ≤ 1000000) :
    Calls Try.prog 46 #[.pointer (some ⟨tb, 0, none⟩), .int .i64 (k : Int), .agg f.v] w fun e w' => e = .returned (.int .i64 (if q.m.eqB f.m then ((0, s.L.set k f) : Int × List Wt) else (17, s.L)).1) ∧ Blk w' tb 61 (tabW s (some ⟨lb, 0, none⟩) c) ∧ OwnW w' 0 (some ⟨lb, 0, none⟩) c (if q.m.eqB f.m then ((0, s.L.set k f) : Int × List Wt) else (17, s.L)).2 ∧ But (fun k => k = lb) w w' := by
  have HQ : Hid (s.L[k]? = some q) := hq0
  have hkl := (List.getElem?_eq_some_iff.1 hq0).1
  have ik0 : (0 : Int) ≤ (k : Int) := by omega
  have ik1 : (k : Int) < (s.L.length : Int) := by omega
  have nOT : ∀ y : Addr, some ⟨lb, 0, none⟩ = some y → y.block ≠ tb := fun y hy => by cases hy; exact fun e => nTO e.symm
  have hlb := O.lt_size _ rfl
  clear hq0
  obtain ⟨R, hR⟩ : ∃ R, (if q.m.eqB f.m then ((0, s.L.set k f) : Int × List Wt) else (17, s.L)) = R := ⟨_, rfl⟩
  have HR : Hid ((if q.m.eqB f.m then ((0, s.L.set k f) : Int × List Wt) else (17, s.L)) = R) := hR
  try rw [hR]
  clear hR
  have b := But.refl (fun k => k = lb) w
  go_enter Try.func46, Try.ntmps46
  obtain ⟨Wm1, hWm1⟩ : ∃ W, w.alloc (.cells f.v 28) = W := ⟨_, rfl⟩
  have bm1 := but_al b hWm1
  have Tm1 := T.al hWm1
  have Om1 := O.al hWm1
  have Am1 := blk_nw hWm1
  have gA : (fun k => k = lb) w.heap.size ∨ w.heap.size ≤ w.heap.size := .inr b.size
  have nTA : tb ≠ w.heap.size := by have := T.lt; omega
  have nAT : w.heap.size ≠ tb := fun e => nTA e.symm
  have nOA : ∀ y : Addr, some ⟨lb, 0, none⟩ = some y → y.block ≠ w.heap.size := fun y hy => by have := O.lt_size y hy; omega
  have nAO : w.heap.size ≠ lb := by have h9 : lb < _ := O.lt_size _ rfl; omega
  go_wp2_with fail
  obtain ⟨Wdq2, hWdq2⟩ : ∃ W, Wm1.drew = W := ⟨_, rfl⟩
  have Tdq2 := hWdq2 ▸ Tm1.drew
  have Odq2 := hWdq2 ▸ Om1.drew
  have Adq2 := hWdq2 ▸ Am1.drew
  have bdq2 := hWdq2 ▸ bm1.drew
  refine wp_region_noPanic ?_
  refine wp_region_held_drew (S := fun w' => Blk w' tb 61 (tabW s (some ⟨lb, 0, none⟩) c) ∧ OwnW w' 0 (some ⟨lb, 0, none⟩) c s.L ∧ Blk w' w.heap.size 28 f.v) (by kernel_rfl) (by rw [hWdq2]; exact ⟨Tdq2, Odq2, Adq2⟩) (fun hHeld => ?_)
  rw [hWdq2] at hHeld ⊢
  refine qtk (i := 0) (oi := { dst := some 7, op := Op.move (.tmp 0), type := 35, pos := "table.go:65", after := #[], guard := none }) (v := (.pointer (some ⟨tb, 0, none⟩))) hHeld ?_ ?_
  · intro w9 hSw
    try dsimp only at hSw
    go_simp
  try simp only [qpu]
  refine qtk (i := 1) (oi := { dst := some 8, op := Op.nilCheck (.tmp 7), type := 0, pos := "table.go:65", after := #[{ on := 0, ground := Ground.data }], guard := none }) (v := (.pointer (some ⟨tb, 0, none⟩))) hHeld ?_ ?_
  · intro w9 hSw
    try dsimp only at hSw
    go_simp
  try simp only [qpu]
  refine qtk (i := 2) (oi := { dst := some 9, op := Op.fieldAddr 61 (.tmp 8) 4, type := 0, pos := "table.go:65", after := #[{ on := 1, ground := Ground.data }], guard := none }) (v := (.pointer (some ⟨tb, 4, none⟩))) hHeld ?_ ?_
  · intro w9 hSw
    try dsimp only at hSw
    go_simp
  try simp only [qpu]
  refine qtk (i := 3) (oi := { dst := some 10, op := Op.load 39 (.tmp 9), type := 39, pos := "table.go:65", after := #[{ on := 2, ground := Ground.data }], guard := none }) (v := (.slice (some ⟨lb, 0, none⟩) s.L.length c)) hHeld ?_ ?_
  · intro w9 hSw
    try dsimp only at hSw
    have hcc := hSw.1.cell 4 (.slice (some ⟨lb, 0, none⟩) s.L.length c) rfl
    go_simp
  try simp only [qpu]
  refine qtk (i := 4) (oi := { dst := some 11, op := Op.move (.tmp 1), type := 3, pos := "table.go:65", after := #[], guard := none }) (v := (.int .i64 (k : Int))) hHeld ?_ ?_
  · intro w9 hSw
    try dsimp only at hSw
    go_simp
  try simp only [qpu]
  refine qtk (i := 5) (oi := { dst := some 12, op := Op.indexAddr 39 (.tmp 10) (.tmp 11), type := 0, pos := "table.go:65", after := #[{ on := 3, ground := Ground.data }, { on := 4, ground := Ground.data }], guard := none }) (v := (.pointer (some ⟨lb, k * 22, none⟩))) hHeld ?_ ?_
  · intro w9 hSw
    try dsimp only at hSw
    go_simp
  try simp only [qpu]
  refine qtk (i := 6) (oi := { dst := some 13, op := Op.fieldAddr 28 (.tmp 12) 1, type := 0, pos := "table.go:65", after := #[{ on := 5, ground := Ground.data }], guard := none }) (v := (.pointer (some ⟨lb, k * 22 + 10, none⟩))) hHeld ?_ ?_
  · intro w9 hSw
    try dsimp only at hSw
    go_simp
  try simp only [qpu]
  refine qty (i := 7) (oi := { dst := some 14, op := Op.load 26 (.tmp 13), type := 26, pos := "table.go:65", after := #[{ on := 6, ground := Ground.data }], guard := none }) (v := (.agg q.m.v)) (yieldsIf_at (by kernel_rfl) _ _ rfl lb (k * 22 + 10) (by rfl) _ (fun _ hSw => OwnW.cellM hSw.2.1 HQ.out) Try.underlying26 (by kernel_rfl)) hHeld ?_
  try simp only [qpu]
  refine qtk (i := 8) (oi := { dst := some 15, op := Op.fieldAddr 28 (.tmp 5) 1, type := 0, pos := "table.go:65", after := #[], guard := none }) (v := (.pointer (some ⟨w.heap.size, 10, none⟩))) hHeld ?_ ?_
  · intro w9 hSw
    try dsimp only at hSw
    go_simp
  try simp only [qpu]
  refine qty (i := 9) (oi := { dst := some 16, op := Op.load 26 (.tmp 15), type := 26, pos := "table.go:65", after := #[{ on := 8, ground := Ground.data }], guard := none }) (v := (.agg f.m.v)) (yieldsIf_sub_w (by kernel_rfl) _ _ rfl w.heap.size 10 _ (by rfl) _ f.m.v (fun _ hSw => hSw.2.2) (by rfl) Try.underlying26 (by kernel_rfl)) hHeld ?_
  try simp only [qpu]
  refine qtk (i := 10) (oi := { dst := some 17, op := Op.binOp BinOp.neq 26 (.tmp 14) (.tmp 16) 26, type := 4, pos := "table.go:65", after := #[{ on := 7, ground := Ground.data }, { on := 9, ground := Ground.data }], guard := none }) (v := (.bool (!(Wy.eqB q.m f.m)))) hHeld ?_ ?_
  · intro w9 hSw
    try dsimp only at hSw
    have hcc := neq_way q.m f.m
    go_simp
  try simp only [qpu]
  refine wpAnyH_done (by kernel_rfl) ?_ _
  refine NoPanic.normal ?_
  cases hq3 : (Wy.eqB q.m f.m) with
  | false =>
    go_wp2_with fail
    have hR2 : R = (((17, s.L) : Int × List Wt)) := by rw [← HR.out]; simp [hq3]
    subst hR2
    go_ret
    exact ⟨rfl, Tdq2, Odq2, bdq2⟩

  | true =>
    go_wp2_with fail
    obtain ⟨Wdq4, hWdq4⟩ : ∃ W, Wdq2.drew = W := ⟨_, rfl⟩
    have Tdq4 := hWdq4 ▸ Tdq2.drew
    have Odq4 := hWdq4 ▸ Odq2.drew
    have Adq4 := hWdq4 ▸ Adq2.drew
    have bdq4 := hWdq4 ▸ bdq2.drew
    refine wp_region_noPanic ?_
    refine wp_region_held_drew (S := fun w' => Blk w' tb 61 (tabW s (some ⟨lb, 0, none⟩) c) ∧ Blk w' w.heap.size 28 f.v) (by kernel_rfl) (by rw [hWdq4]; exact ⟨Tdq4, Adq4⟩) (fun hHeld => ?_)
    rw [hWdq4] at hHeld ⊢
    refine qtk (i := 0) (oi := { dst := some 18, op := Op.move (.tmp 0), type := 35, pos := "table.go:68", after := #[], guard := none }) (v := (.pointer (some ⟨tb, 0, none⟩))) hHeld ?_ ?_
    · intro w9 hSw
      try dsimp only at hSw
      go_simp
    try simp only [qpu]
    refine qtk (i := 1) (oi := { dst := some 19, op := Op.nilCheck (.tmp 18), type := 0, pos := "table.go:68", after := #[{ on := 0, ground := Ground.data }], guard := none }) (v := (.pointer (some ⟨tb, 0, none⟩))) hHeld ?_ ?_
    · intro w9 hSw
      try dsimp only at hSw
      go_simp
    try simp only [qpu]
    refine qtk (i := 2) (oi := { dst := some 20, op := Op.fieldAddr 61 (.tmp 19) 4, type := 0, pos := "table.go:68", after := #[{ on := 1, ground := Ground.data }], guard := none }) (v := (.pointer (some ⟨tb, 4, none⟩))) hHeld ?_ ?_
    · intro w9 hSw
      try dsimp only at hSw
      go_simp
    try simp only [qpu]
    refine qtk (i := 3) (oi := { dst := some 21, op := Op.load 39 (.tmp 20), type := 39, pos := "table.go:68", after := #[{ on := 2, ground := Ground.data }], guard := none }) (v := (.slice (some ⟨lb, 0, none⟩) s.L.length c)) hHeld ?_ ?_
    · intro w9 hSw
      try dsimp only at hSw
      have hcc := hSw.1.cell 4 (.slice (some ⟨lb, 0, none⟩) s.L.length c) rfl
      go_simp
    try simp only [qpu]
    refine qtk (i := 4) (oi := { dst := some 22, op := Op.move (.tmp 1), type := 3, pos := "table.go:68", after := #[], guard := none }) (v := (.int .i64 (k : Int))) hHeld ?_ ?_
    · intro w9 hSw
      try dsimp only at hSw
      go_simp
    try simp only [qpu]
    refine qty (i := 5) (oi := { dst := some 23, op := Op.load 28 (.tmp 5), type := 28, pos := "table.go:68", after := #[], guard := none }) (v := (.agg f.v)) (yieldsIf_blk_w (by kernel_rfl) _ _ rfl w.heap.size (by rfl) _ (fun _ hSw => hSw.2) Try.underlying28 (by kernel_rfl)) hHeld ?_
    try simp only [qpu]
    refine qtk (i := 6) (oi := { dst := some 24, op := Op.indexAddr 39 (.tmp 21) (.tmp 22), type := 0, pos := "table.go:68", after := #[{ on := 3, ground := Ground.data }, { on := 4, ground := Ground.data }, { on := 0, ground := Ground.phase }, { on := 1, ground := Ground.phase }, { on := 2, ground := Ground.phase }, { on := 3, ground := Ground.phase }, { on := 4, ground := Ground.phase }, { on := 5, ground := Ground.phase }], guard := none }) (v := (.pointer (some ⟨lb, k * 22, none⟩))) hHeld ?_ ?_
    · intro w9 hSw
      try dsimp only at hSw
      go_simp
    try simp only [qpu]
    refine wpAnyH_ready (rs := [7]) (by kernel_rfl) (by simp) ?_
    refine AllReadyH.cons (o := { dst := none, op := Op.store 28 (.tmp 24) (.tmp 23), type := 0, pos := "table.go:68", after := #[{ on := 6, ground := Ground.data }, { on := 5, ground := Ground.data }, { on := 0, ground := Ground.phase }, { on := 1, ground := Ground.phase }, { on := 2, ground := Ground.phase }, { on := 3, ground := Ground.phase }, { on := 4, ground := Ground.phase }, { on := 5, ground := Ground.phase }], guard := none }) rfl (fun K hK => ?_) AllReadyH.nil
    obtain ⟨crx5, hbx5, hszx5, _, Ox5q⟩ := Odq4.put k f (by have := (List.getElem?_eq_some_iff.1 HQ.out).1; exact this)
    have hszx5' : k * 22 + f.v.size ≤ crx5.size := hszx5
    refine step_store_off rfl _ _ _ rfl lb (k * 22) _ f.v crx5 _ (by rfl) (by rfl) hbx5 (by kernel_rfl) hszx5' (by kernel_rfl) rfl ?_
    obtain ⟨Wx5, hWx5⟩ : ∃ W, Wdq4.setRow lb (setMany crx5 (k * 22) f.v.toList) = W := ⟨_, rfl⟩
    have Ox5 : OwnW Wx5 0 (some ⟨lb, 0, none⟩) c (s.L.set k f) := hWx5 ▸ Ox5q
    rw [hWx5]
    have Tx5 := hWx5 ▸ Tdq4.other nTO (setMany crx5 (k * 22) f.v.toList)
    have Ax5 := hWx5 ▸ Adq4.other nAO (setMany crx5 (k * 22) f.v.toList)
    have bx5 := hWx5 ▸ bdq4.setRow lb (.inl rfl) (setMany crx5 (k * 22) f.v.toList)
    clear Ox5q hbx5 hszx5
    refine hK.out _ _ (by exact ⟨Tx5, Ax5⟩) (fun hHeld => ?_)
    clear hK K
    try simp only [qpu]
    refine wpAnyH_done (by kernel_rfl) ?_ _
    refine NoPanic.normal ?_
    go_wp2_with fail
    have hR2 : R = (((0, s.L.set k f) : Int × List Wt)) := by rw [← HR.out]; simp [hq3]
    subst hR2
    go_ret
    exact ⟨rfl, Tx5, Ox5, bx5⟩
end Go.Proofs.Ytmflogmocgbmhaa
