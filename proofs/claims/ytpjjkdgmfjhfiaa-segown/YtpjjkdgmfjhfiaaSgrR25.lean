/- Texts joined: SgW -/
import Derived.Test.YtpjjkdgmfjhfiaaSgrR22
namespace Go.Proofs.Ytpjjkdgmfjhfiaa
abbrev sgrR25o0 : Oper := { dst := some 3, op := Op.assign (.const (.int .i64 6)), type := 3, pos := "build.go:51", after := #[{ on := 10, ground := Ground.chain }, { on := 0, ground := Ground.phase }, { on := 1, ground := Ground.phase }, { on := 2, ground := Ground.phase }, { on := 3, ground := Ground.phase }, { on := 4, ground := Ground.phase }, { on := 5, ground := Ground.phase }, { on := 6, ground := Ground.phase }, { on := 7, ground := Ground.phase }, { on := 8, ground := Ground.phase }, { on := 9, ground := Ground.phase }, { on := 10, ground := Ground.phase }], guard := none }
abbrev sgrR25o1 : Oper := { dst := some 2, op := Op.assign (.tmp 44), type := 28, pos := "build.go:51", after := #[{ on := 9, ground := Ground.data }, { on := 9, ground := Ground.chain }, { on := 0, ground := Ground.phase }, { on := 1, ground := Ground.phase }, { on := 2, ground := Ground.phase }, { on := 3, ground := Ground.phase }, { on := 4, ground := Ground.phase }, { on := 5, ground := Ground.phase }, { on := 6, ground := Ground.phase }, { on := 7, ground := Ground.phase }, { on := 8, ground := Ground.phase }, { on := 9, ground := Ground.phase }], guard := none }
abbrev sgrR25o2 : Oper := { dst := some 42, op := Op.call { callee := Callee.value (.func 26), args := #[.tmp 37, .tmp 41], argTypes := #[28, 3] }, type := 28, pos := "build.go:51", after := #[{ on := 2, ground := Ground.data }, { on := 6, ground := Ground.data }, { on := 2, ground := Ground.chain }], guard := none }
abbrev sgrR25o3 : Oper := { dst := some 44, op := Op.call { callee := Callee.builtin Builtin.append, args := #[.tmp 42, .tmp 43], argTypes := #[28, 28] }, type := 28, pos := "build.go:51", after := #[{ on := 7, ground := Ground.data }, { on := 8, ground := Ground.data }, { on := 7, ground := Ground.chain }], guard := none }
abbrev sgrR25o4 : Oper := { dst := some 43, op := Op.buildSlice 28 2 #[(0, .const (.int .u8 0)), (1, .const (.int .u8 0))], type := 28, pos := "build.go:51", after := #[], guard := none }
abbrev sgrR25o7 : Oper := { dst := some 37, op := Op.call { callee := Callee.value (.func 63), args := #[.tmp 36], argTypes := #[26] }, type := 28, pos := "build.go:51", after := #[{ on := 1, ground := Ground.data }], guard := none }
end Go.Proofs.Ytpjjkdgmfjhfiaa
namespace Go.Proofs.Ytpjjkdgmfjhfiaa
open Go.RowKit
set_option linter.unusedVariables false
set_option linter.unusedSimpArgs false
/-- A struct that lies within another one. -/
theorem load_sub {W : World} {g : Nat} {t ty : TypeId} {cs : Array Value} (h : Blk W g t cs) (k : Nat) (sub : Array Value) (hs : (cs.toList.drop k).take sub.size = sub.toList) {fs : _} (hu : Try.prog.underlying ty = some (.struct fs)) (hi : (Try.prog.info? ty).map (·.size) = some sub.size) :
    (loadVar ty ⟨g, k, none⟩).run Try.prog W = .ok (.agg sub) W := by
  have hl : (loadCells ⟨g, k, none⟩ sub.toList.length).run Try.prog W = .ok sub.toList.toArray W :=
    run_loadCells_list (P := Try.prog) W ⟨g, k, none⟩ sub.toList (fun j v hv => by
      have hadd : (⟨g, k, none⟩ : Addr).add j = ⟨g, k + j, none⟩ := Go.WideShapes.add_plain ..
      rw [hadd]
      refine h.cell (k + j) v ?_
      rw [← hs] at hv
      rw [List.getElem?_take] at hv
      split at hv
      · rw [List.getElem?_drop] at hv
        simpa using hv
      · cases hv)
  cases hq : Try.prog.info? ty with
  | none => simp [hq] at hi
  | some i =>
    have hs' : i.size = sub.size := by simpa [hq] using hi
    have hagg : (isAgg ty).run Try.prog W = .ok true W := by
      unfold isAgg
      rw [Sem.run_bind, run_underlying hu W]
      rfl
    simp only [Array.length_toList, Array.toArray_toList] at hl
    simp [loadVar, Sem.run_bind, hagg, sizeOf, typeInfo, hq, hs', hl]
theorem yieldsIf_sub {ops : Array Oper} {S : World → Prop} {o : Oper} {ac : Act} (hgd : o.guard = none) (ty : TypeId) (p : Operand) (ho : o.op = Op.load ty p) (g k : Nat) (t : TypeId) (hp : ac.eval p = .pointer (some ⟨g, k, none⟩)) (cs sub : Array Value)
    (hS : ∀ w, S w → Blk w g t cs) (hs : (cs.toList.drop k).take sub.size = sub.toList) {fs : _} (hu : Try.prog.underlying ty = some (.struct fs)) (hi : (Try.prog.info? ty).map (·.size) = some sub.size) : YieldsIf Try.prog ops S o (.agg sub) ac := by
  refine .inl ⟨by simp [Region.wanted, hgd], fun w hw => ?_⟩
  have hl := load_sub (hS w hw) k sub hs hu hi
  simp [execOp, ho, hp, Instr.loadAt, Instr.sureAddr, hl, Result.andThen]
theorem wpList_load_sub {ops : Array Oper} {rest : List Oper} {o : Oper} {ac : Act} {w : World} {Q : Exit → Act → World → Prop} (hgd : o.guard = none) (ty : TypeId) (p : Operand) (ho : o.op = Op.load ty p) (g k : Nat) (t : TypeId) (hp : ac.eval p = .pointer (some ⟨g, k, none⟩)) (cs sub : Array Value)
    (hb : Blk w g t cs) (hs : (cs.toList.drop k).take sub.size = sub.toList) {fs : _} (hu : Try.prog.underlying ty = some (.struct fs)) (hi : (Try.prog.info? ty).map (·.size) = some sub.size) (h : wpList Try.prog ops Q rest (ac.put o.dst (.agg sub)) w) : wpList Try.prog ops Q (o :: rest) ac w := by
  refine wpList_plain hgd fun K hK => ?_
  have hl := load_sub hb k sub hs hu hi
  unfold Oper.wp
  simp [execOp, ho, hp, Instr.loadAt, Instr.sureAddr, hl, Result.andThen]
  exact hK _ _ h
theorem bytes_tcp (p : Int) : M.Bytes [80, p % 256] := by
  intro x hx
  simp at hx
  rcases hx with rfl | rfl <;> omega
theorem bytes_icmp (p q : Int) : M.Bytes [p % 256, q % 256, 0, 0] := by
  intro x hx
  simp at hx
  rcases hx with rfl | rfl | rfl <;> omega
theorem bytes_00 : M.Bytes [0, 0] := by
  intro x hx
  simp at hx
  subst hx
  omega
theorem bytes_0000 : M.Bytes [0, 0, 0, 0] := by
  intro x hx
  simp at hx
  subst hx
  omega
set_option maxRecDepth 100000 in
set_option maxHeartbeats 4000000 in
theorem written_tcp (x : Sg) (a : Option Addr) (c : Nat) (w : World) (hsq : 0 ≤ x.sq ∧ x.sq ≤ 4294967295) (hak : 0 ≤ x.ak ∧ x.ak ≤ 4294967295) (hdl : x.data.length ≤ 140737488355328) (h6 : x.t.pr = 6) :
    Calls Try.prog 41 #[.agg (sRc x.t.fam x.t.pr x.t.s.fam x.t.s.hi x.t.s.lo x.t.d.fam x.t.d.hi x.t.d.lo x.t.sp x.t.dp x.fl x.sq x.ak x.wn x.ty x.cd x.er x.inn.fam x.inn.pr x.inn.s.fam x.inn.s.hi x.inn.s.lo x.inn.d.fam x.inn.d.hi x.inn.d.lo x.inn.sp x.inn.dp a x.data.length c)] w fun e w' => ∃ a' c', e = .returned (.tuple #[.slice a' (headB x).length c', .int .i64 (placeB x : Nat)]) ∧ Fresh w w' a' c' (headB x) := by
  obtain ⟨W1, hW1⟩ : ∃ W1, w.alloc (.cells (sRc x.t.fam x.t.pr x.t.s.fam x.t.s.hi x.t.s.lo x.t.d.fam x.t.d.hi x.t.d.lo x.t.sp x.t.dp x.fl x.sq x.ak x.wn x.ty x.cd x.er x.inn.fam x.inn.pr x.inn.s.fam x.inn.s.hi x.inn.s.lo x.inn.d.fam x.inn.d.hi x.inn.d.lo x.inn.sp x.inn.dp a x.data.length c) 38) = W1 := ⟨_, rfl⟩
  have b1 := bel_nw hW1
  have B1 := blk_nw hW1
  have g1 : w.heap.size < W1.heap.size := B1.lt
  have d1 := B1.cell 1 (.int .i64 x.t.pr) rfl
  have KP : Hid _ := portBytes_any x
  have e6 : (x.t.pr == 6) = true := by simpa using h6
  have eP : placeB x = 16 := by unfold placeB; rw [if_pos h6]
  have eH : headB x = put16 (put32 (put32 (portB x) x.sq) x.ak ++ [80, x.fl % 256]) x.wn ++ [0, 0, 0, 0] := by unfold headB; rw [if_pos h6]
  rw [eP, eH]
  obtain ⟨L0, h0⟩ : ∃ L, portB x = L := ⟨_, rfl⟩
  have l0 : L0.length = 4 := by rw [← h0]; simp [portB, put16]
  rw [h0] at KP ⊢
  obtain ⟨L1, h1⟩ : ∃ L, put32 L0 x.sq = L := ⟨_, rfl⟩
  have l1 : L1.length = 8 := by rw [← h1]; simp [put32, l0]
  obtain ⟨L2, h2⟩ : ∃ L, put32 L1 x.ak = L := ⟨_, rfl⟩
  have l2 : L2.length = 12 := by rw [← h2]; simp [put32, l1]
  obtain ⟨L3, h3⟩ : ∃ L, L2 ++ [80, x.fl % 256] = L := ⟨_, rfl⟩
  have l3 : L3.length = 14 := by rw [← h3]; simp [l2]
  obtain ⟨L4, h4⟩ : ∃ L, put16 L3 x.wn = L := ⟨_, rfl⟩
  have l4 : L4.length = 16 := by rw [← h4]; simp [put16, l3]
  obtain ⟨L5, h5⟩ : ∃ L, L4 ++ [0, 0, 0, 0] = L := ⟨_, rfl⟩
  have l5 : L5.length = 20 := by rw [← h5]; simp [l4]
  rw [h1, h2, h3, h4, h5]
  have K1 : Hid (∀ W a c, Row W a L0 → (a = none → c = 0) → Calls Try.prog 27 #[.slice a 4 c, .int .u32 x.sq] W fun e w' => ∃ a' c', e = .returned (.slice a' L1.length c') ∧ Fresh W w' a' c' L1) := fun W a c hr hn => by
    have := put32_any a c L0 x.sq W hr hn (by omega) hsq
    rw [h1, l0] at this
    exact this
  have K2 : Hid (∀ W a c, Row W a L1 → (a = none → c = 0) → Calls Try.prog 27 #[.slice a L1.length c, .int .u32 x.ak] W fun e w' => ∃ a' c', e = .returned (.slice a' L2.length c') ∧ Fresh W w' a' c' L2) := fun W a c hr hn => by
    have := put32_any a c L1 x.ak W hr hn (by omega) hak
    rw [h2] at this
    exact this
  have K3 : Hid (∀ W a c, Row W a L3 → (a = none → c = 0) → Calls Try.prog 26 #[.slice a L3.length c, .int .i64 x.wn] W fun e w' => ∃ a' c', e = .returned (.slice a' L4.length c') ∧ Fresh W w' a' c' L4) := fun W a c hr hn => by
    have := put16_any a c L3 x.wn W hr hn (by omega)
    rw [h4] at this
    exact this
  have HL3 : Hid (L2 ++ [80, x.fl % 256] = L3) := h3
  have HL5 : Hid (L4 ++ [0, 0, 0, 0] = L5) := h5
  have wfl := wrapU8 x.fl
  have l3' : L3.length ≤ 14 := by omega
  have l5' : L5.length ≤ 20 := by omega
  clear h0 h1 h2 h3 h4 h5 l0 l1 l2 l3 l4 l5 eP eH h6
  go_enter Try.func41, Try.ntmps41
  go_wp2_with fail
  refine wp_region_noPanic ?_
  refine wp_region_held_drew (S := fun w' => Blk w' w.heap.size 38 (sRc x.t.fam x.t.pr x.t.s.fam x.t.s.hi x.t.s.lo x.t.d.fam x.t.d.hi x.t.d.lo x.t.sp x.t.dp x.fl x.sq x.ak x.wn x.ty x.cd x.er x.inn.fam x.inn.pr x.inn.s.fam x.inn.s.hi x.inn.s.lo x.inn.d.fam x.inn.d.hi x.inn.d.lo x.inn.sp x.inn.dp a x.data.length c) ∧ w'.cell? ⟨w.heap.size, 11, none⟩ = some (.int .u32 x.sq) ∧ w'.cell? ⟨w.heap.size, 12, none⟩ = some (.int .u32 x.ak)) (by kernel_rfl) (by exact ⟨B1.drew, B1.drew.cell 11 _ rfl, B1.drew.cell 12 _ rfl⟩) (fun hHeld => ?_)
  refine tk (i := 0) (oi := { dst := some 12, op := Op.fieldAddr 38 (.tmp 1) 0, type := 0, pos := "build.go:47", after := #[], guard := none }) (v := (.pointer (some ⟨w.heap.size, 0, none⟩))) hHeld ?_ ?_
  · intro w9 hSw
    try dsimp only at hSw
    go_simp
  try simp only [pu]
  refine wpAnyH_take (i := 1) (oi := { dst := some 13, op := Op.load 26 (.tmp 12), type := 26, pos := "build.go:47", after := #[{ on := 0, ground := Ground.data }], guard := none }) (v := (.agg (sRb x.t.fam x.t.pr x.t.s.fam x.t.s.hi x.t.s.lo x.t.d.fam x.t.d.hi x.t.d.lo x.t.sp x.t.dp))) rfl (by kernel_rfl) (by kernel_rfl) (by kernel_rfl) (fun _ _ _ h => h) (yieldsIf_sub rfl _ _ rfl w.heap.size 0 38 (by rfl) _ _ (fun _ hSw => hSw.1) (by rfl) Try.underlying26 (by kernel_rfl)) hHeld ?_
  try simp only [pu]
  refine tk (i := 3) (oi := { dst := some 15, op := Op.fieldAddr 38 (.tmp 1) 2, type := 0, pos := "build.go:47", after := #[], guard := none }) (v := (.pointer (some ⟨w.heap.size, 11, none⟩))) hHeld ?_ ?_
  · intro w9 hSw
    try dsimp only at hSw
    go_simp
  try simp only [pu]
  refine tk (i := 4) (oi := { dst := some 16, op := Op.load 33 (.tmp 15), type := 33, pos := "build.go:47", after := #[{ on := 3, ground := Ground.data }], guard := none }) (v := (.int .u32 x.sq)) hHeld ?_ ?_
  · intro w9 hSw
    try dsimp only at hSw
    go_simp
  try simp only [pu]
  refine tk (i := 6) (oi := { dst := some 18, op := Op.fieldAddr 38 (.tmp 1) 3, type := 0, pos := "build.go:47", after := #[], guard := none }) (v := (.pointer (some ⟨w.heap.size, 12, none⟩))) hHeld ?_ ?_
  · intro w9 hSw
    try dsimp only at hSw
    go_simp
  try simp only [pu]
  refine tk (i := 7) (oi := { dst := some 19, op := Op.load 33 (.tmp 18), type := 33, pos := "build.go:47", after := #[{ on := 6, ground := Ground.data }], guard := none }) (v := (.int .u32 x.ak)) hHeld ?_ ?_
  · intro w9 hSw
    try dsimp only at hSw
    go_simp
  try simp only [pu]
  refine wpAnyH_ready (rs := [2]) (by kernel_rfl) (by simp) ?_
  refine AllReadyH.cons (o := { dst := some 14, op := Op.call { callee := Callee.value (.func 63), args := #[.tmp 13], argTypes := #[26] }, type := 28, pos := "build.go:47", after := #[{ on := 1, ground := Ground.data }], guard := none }) rfl (fun K hK => ?_) AllReadyH.nil
  go_simp
  refine Calls.mono (KP.out _) ?_
  rintro e W2 ⟨a2, c2, rfl, f2⟩
  have B2 := B1.drew.kept f2.below
  have b2 : Below w.heap.size w W2 := b1.drew.trans (f2.below.mono b1.drew.size)
  refine hK.out _ _ ?_ (fun hHeld => ?_)
  · exact ⟨B2, B2.cell 11 _ rfl, B2.cell 12 _ rfl⟩
  clear hK K
  try simp only [pu]
  refine wpAnyH_ready (rs := [5]) (by kernel_rfl) (by simp) ?_
  refine AllReadyH.cons (o := { dst := some 17, op := Op.call { callee := Callee.value (.func 27), args := #[.tmp 14, .tmp 16], argTypes := #[28, 33] }, type := 28, pos := "build.go:47", after := #[{ on := 2, ground := Ground.data }, { on := 4, ground := Ground.data }, { on := 2, ground := Ground.chain }], guard := none }) rfl (fun K hK => ?_) AllReadyH.nil
  go_simp
  refine Calls.mono (K1.out _ _ _ f2.row f2.nil) ?_
  rintro e W3 ⟨a3, c3, rfl, f3⟩
  have B3 := B2.kept f3.below
  have b3 := bel_tr b2 f3.below
  refine hK.out _ _ ?_ (fun hHeld => ?_)
  · exact ⟨B3, B3.cell 11 _ rfl, B3.cell 12 _ rfl⟩
  clear hK K
  try simp only [pu]
  refine wpAnyH_ready (rs := [8]) (by kernel_rfl) (by simp) ?_
  refine AllReadyH.cons (o := { dst := some 20, op := Op.call { callee := Callee.value (.func 27), args := #[.tmp 17, .tmp 19], argTypes := #[28, 33] }, type := 28, pos := "build.go:47", after := #[{ on := 5, ground := Ground.data }, { on := 7, ground := Ground.data }, { on := 5, ground := Ground.chain }], guard := none }) rfl (fun K hK => ?_) AllReadyH.nil
  go_simp
  refine Calls.mono (K2.out _ _ _ f3.row f3.nil) ?_
  rintro e W4 ⟨a4, c4, rfl, f4⟩
  have B4 := B3.kept f4.below
  have b4 := bel_tr b3 f4.below
  refine hK.out _ _ ?_ (fun hHeld => ?_)
  · exact ⟨B4, B4.cell 11 _ rfl, B4.cell 12 _ rfl⟩
  clear hK K
  try simp only [pu]
  refine tk (i := 9) (oi := { dst := some 4, op := Op.assign (.tmp 20), type := 28, pos := "build.go:47", after := #[{ on := 8, ground := Ground.data }, { on := 8, ground := Ground.chain }, { on := 0, ground := Ground.phase }, { on := 1, ground := Ground.phase }, { on := 2, ground := Ground.phase }, { on := 3, ground := Ground.phase }, { on := 4, ground := Ground.phase }, { on := 5, ground := Ground.phase }, { on := 6, ground := Ground.phase }, { on := 7, ground := Ground.phase }, { on := 8, ground := Ground.phase }], guard := none }) (v := (.slice a4 L2.length c4)) hHeld ?_ ?_
  · intro w9 hSw
    try dsimp only at hSw
    go_simp
  try simp only [pu]
  refine wpAnyH_done (by kernel_rfl) ?_ _
  refine NoPanic.normal ?_
  have s3 : W1.heap.size ≤ W3.heap.size := Nat.le_trans (Nat.le_trans (show W1.heap.size ≤ W1.drew.heap.size from Nat.le_refl _) f2.below.size) f3.below.size
  have s4 : W1.heap.size ≤ W4.heap.size := Nat.le_trans s3 f4.below.size
  clear KP K1 K2 f2 f3 B2 B3 hHeld
  go_wp2_with fail
  refine wp_region_noPanic ?_
  refine wp_region_held_drew (S := fun w' => Blk w' w.heap.size 38 (sRc x.t.fam x.t.pr x.t.s.fam x.t.s.hi x.t.s.lo x.t.d.fam x.t.d.hi x.t.d.lo x.t.sp x.t.dp x.fl x.sq x.ak x.wn x.ty x.cd x.er x.inn.fam x.inn.pr x.inn.s.fam x.inn.s.hi x.inn.s.lo x.inn.d.fam x.inn.d.hi x.inn.d.lo x.inn.sp x.inn.dp a x.data.length c) ∧ w'.cell? ⟨w.heap.size, 10, none⟩ = some (.int .i64 x.fl) ∧ w'.cell? ⟨w.heap.size, 13, none⟩ = some (.int .i64 x.wn)) (by kernel_rfl) (by exact ⟨B4.drew, B4.drew.cell 10 _ rfl, B4.drew.cell 13 _ rfl⟩) (fun hHeld => ?_)
  refine tk (i := 0) (oi := { dst := some 21, op := Op.move (.tmp 4), type := 28, pos := "build.go:48", after := #[], guard := none }) (v := (.slice a4 L2.length c4)) hHeld ?_ ?_
  · intro w9 hSw
    try dsimp only at hSw
    go_simp
  try simp only [pu]
  refine tk (i := 1) (oi := { dst := some 22, op := Op.fieldAddr 38 (.tmp 1) 1, type := 0, pos := "build.go:48", after := #[], guard := none }) (v := (.pointer (some ⟨w.heap.size, 10, none⟩))) hHeld ?_ ?_
  · intro w9 hSw
    try dsimp only at hSw
    go_simp
  try simp only [pu]
  refine tk (i := 2) (oi := { dst := some 23, op := Op.load 3 (.tmp 22), type := 3, pos := "build.go:48", after := #[{ on := 1, ground := Ground.data }], guard := none }) (v := (.int .i64 x.fl)) hHeld ?_ ?_
  · intro w9 hSw
    try dsimp only at hSw
    go_simp
  try simp only [pu]
  refine tk (i := 3) (oi := { dst := some 24, op := Op.convert 3 5 (.tmp 23), type := 5, pos := "build.go:48", after := #[{ on := 2, ground := Ground.data }], guard := none }) (v := (.int .u8 (x.fl % 256))) hHeld ?_ ?_
  · intro w9 hSw
    try dsimp only at hSw
    go_simp
  try simp only [pu]
  refine tk (i := 6) (oi := { dst := some 27, op := Op.fieldAddr 38 (.tmp 1) 4, type := 0, pos := "build.go:48", after := #[], guard := none }) (v := (.pointer (some ⟨w.heap.size, 13, none⟩))) hHeld ?_ ?_
  · intro w9 hSw
    try dsimp only at hSw
    go_simp
  try simp only [pu]
  refine tk (i := 7) (oi := { dst := some 28, op := Op.load 3 (.tmp 27), type := 3, pos := "build.go:48", after := #[{ on := 6, ground := Ground.data }], guard := none }) (v := (.int .i64 x.wn)) hHeld ?_ ?_
  · intro w9 hSw
    try dsimp only at hSw
    go_simp
  try simp only [pu]
  refine wpAnyH_ready (rs := [4]) (by kernel_rfl) (by simp) ?_
  refine AllReadyH.cons (o := { dst := some 25, op := Op.buildSlice 28 2 #[(0, .const (.int .u8 80)), (1, .tmp 24)], type := 28, pos := "build.go:48", after := #[{ on := 3, ground := Ground.data }], guard := none }) rfl (fun K hK => ?_) AllReadyH.nil
  go_simp
  have B5 := B4.drew.alloc (.cells #[.int .u8 80, .int .u8 (x.fl % 256)] 5)
  have b5 := b4.drew.alloc b4.drew.size (.cells #[.int .u8 80, .int .u8 (x.fl % 256)] 5)
  have O5 := Owns.alloc (owns_le (B' := W1.heap.size) s3 (f4.owns.below ((Below.refl _ _).drew))) (.cells #[.int .u8 80, .int .u8 (x.fl % 256)] 5)
  have s5 : W1.heap.size ≤ (W4.drew.alloc (.cells #[.int .u8 80, .int .u8 (x.fl % 256)] 5)).heap.size := by
    have : W4.drew.heap.size = W4.heap.size := rfl
    simp only [World.size_alloc]
    omega
  have r5 := row_at W4.drew 5 [80, x.fl % 256] W4.drew.heap.size rfl (by simp) (bytes_tcp x.fl)
  refine hK.out _ _ ?_ (fun hHeld => ?_)
  · exact ⟨B5, B5.cell 10 _ rfl, B5.cell 13 _ rfl⟩
  clear hK K
  try simp only [pu]
  refine wpAnyH_ready (rs := [5]) (by kernel_rfl) (by simp) ?_
  refine AllReadyH.cons (o := { dst := some 26, op := Op.call { callee := Callee.builtin Builtin.append, args := #[.tmp 21, .tmp 25], argTypes := #[28, 28] }, type := 28, pos := "build.go:48", after := #[{ on := 0, ground := Ground.data }, { on := 4, ground := Ground.data }], guard := none }) rfl (fun K hK => ?_) AllReadyH.nil
  refine step_app2 _ rfl _ _ rfl W1.heap.size _ L2 rfl O5 f4.row.bytes _ 2 2 [80, x.fl % 256] (by rfl) rfl r5 (fun hh => by cases hh) L3 HL3.out (by omega) s5 ?_
  intro a6 c6 W6 O6 rm6 nl6 r6 bb
  have b6 : Below w.heap.size w W6 := b5.trans (bb.mono b1.size)
  have B6 := B5.below bb g1
  have s6 : W1.heap.size ≤ W6.heap.size := Nat.le_trans s5 bb.size
  refine hK.out _ _ ?_ (fun hHeld => ?_)
  · exact ⟨B6, B6.cell 10 _ rfl, B6.cell 13 _ rfl⟩
  clear hK K
  try simp only [pu]
  refine wpAnyH_ready (rs := [8]) (by kernel_rfl) (by simp) ?_
  refine AllReadyH.cons (o := { dst := some 29, op := Op.call { callee := Callee.value (.func 26), args := #[.tmp 26, .tmp 28], argTypes := #[28, 3] }, type := 28, pos := "build.go:48", after := #[{ on := 5, ground := Ground.data }, { on := 7, ground := Ground.data }, { on := 5, ground := Ground.chain }], guard := none }) rfl (fun K hK => ?_) AllReadyH.nil
  go_simp
  refine Calls.mono (K3.out _ _ _ r6 nl6) ?_
  rintro e W7 ⟨a7, c7, rfl, f7⟩
  have B7 := B6.kept f7.below
  have b7 := bel_tr b6 f7.below
  refine hK.out _ _ ?_ (fun hHeld => ?_)
  · exact ⟨B7, B7.cell 10 _ rfl, B7.cell 13 _ rfl⟩
  clear hK K
  try simp only [pu]
  refine tk (i := 9) (oi := { dst := some 4, op := Op.assign (.tmp 29), type := 28, pos := "build.go:48", after := #[{ on := 8, ground := Ground.data }, { on := 8, ground := Ground.chain }, { on := 0, ground := Ground.phase }, { on := 1, ground := Ground.phase }, { on := 2, ground := Ground.phase }, { on := 3, ground := Ground.phase }, { on := 4, ground := Ground.phase }, { on := 5, ground := Ground.phase }, { on := 6, ground := Ground.phase }, { on := 7, ground := Ground.phase }, { on := 8, ground := Ground.phase }], guard := none }) (v := (.slice a7 L4.length c7)) hHeld ?_ ?_
  · intro w9 hSw
    try dsimp only at hSw
    go_simp
  try simp only [pu]
  refine wpAnyH_done (by kernel_rfl) ?_ _
  refine NoPanic.normal ?_
  have OW := owns_le b6.size f7.owns
  have rb := f7.row.bytes
  clear K3 f7 f4 B4 B5 B6 B7 hHeld r6 O5 O6 r5 HL3
  go_wp2_with (at_builtin; refine wpList_app2 _ rfl _ _ rfl w.heap.size _ L4 rfl (OW.alloc _) rb _ 4 [0, 0, 0, 0] rfl ?row (fun hh => by cases hh) L5 HL5.out ?c1 ?c2 ?_)
  case row => exact row_at W7 5 [0, 0, 0, 0] W7.heap.size rfl (by simp) bytes_0000
  case c1 => omega
  case c2 => exact Nat.le_trans b7.size (by simp)
  intro a8 c8 W8 o8 rm8 nl8 r8 bb _
  have b8 : Below w.heap.size w W8 := (b7.alloc b7.size _).trans bb
  go_wp2
  go_ret2
  exact ⟨a8, c8, rfl, o8, rm8, nl8, r8, b8⟩
set_option maxRecDepth 100000 in
set_option maxHeartbeats 4000000 in
theorem written_udp (x : Sg) (a : Option Addr) (c : Nat) (w : World) (hsq : 0 ≤ x.sq ∧ x.sq ≤ 4294967295) (hak : 0 ≤ x.ak ∧ x.ak ≤ 4294967295) (hdl : x.data.length ≤ 140737488355328) (h6 : ¬ x.t.pr = 6) (h17 : x.t.pr = 17) :
    Calls Try.prog 41 #[.agg (sRc x.t.fam x.t.pr x.t.s.fam x.t.s.hi x.t.s.lo x.t.d.fam x.t.d.hi x.t.d.lo x.t.sp x.t.dp x.fl x.sq x.ak x.wn x.ty x.cd x.er x.inn.fam x.inn.pr x.inn.s.fam x.inn.s.hi x.inn.s.lo x.inn.d.fam x.inn.d.hi x.inn.d.lo x.inn.sp x.inn.dp a x.data.length c)] w fun e w' => ∃ a' c', e = .returned (.tuple #[.slice a' (headB x).length c', .int .i64 (placeB x : Nat)]) ∧ Fresh w w' a' c' (headB x) := by
  obtain ⟨W1, hW1⟩ : ∃ W1, w.alloc (.cells (sRc x.t.fam x.t.pr x.t.s.fam x.t.s.hi x.t.s.lo x.t.d.fam x.t.d.hi x.t.d.lo x.t.sp x.t.dp x.fl x.sq x.ak x.wn x.ty x.cd x.er x.inn.fam x.inn.pr x.inn.s.fam x.inn.s.hi x.inn.s.lo x.inn.d.fam x.inn.d.hi x.inn.d.lo x.inn.sp x.inn.dp a x.data.length c) 38) = W1 := ⟨_, rfl⟩
  have b1 := bel_nw hW1
  have B1 := blk_nw hW1
  have g1 : w.heap.size < W1.heap.size := B1.lt
  have d1 := B1.cell 1 (.int .i64 x.t.pr) rfl
  have KP : Hid _ := portBytes_any x
  have d27 := B1.cell 27 (.slice a x.data.length c) rfl
  have HC : Hid (∀ W, Blk W w.heap.size 38 (sRc x.t.fam x.t.pr x.t.s.fam x.t.s.hi x.t.s.lo x.t.d.fam x.t.d.hi x.t.d.lo x.t.sp x.t.dp x.fl x.sq x.ak x.wn x.ty x.cd x.er x.inn.fam x.inn.pr x.inn.s.fam x.inn.s.hi x.inn.s.lo x.inn.d.fam x.inn.d.hi x.inn.d.lo x.inn.sp x.inn.dp a x.data.length c) → W.cell? ⟨w.heap.size, 27, none⟩ = some (.slice a x.data.length c)) := fun W hW => hW.cell 27 _ rfl
  have e6 : (x.t.pr == 6) = false := by simpa using h6
  have e17 : (x.t.pr == 17) = true := by simpa using h17
  have eP : placeB x = 6 := by unfold placeB; rw [if_neg h6, if_pos h17]
  have eH : headB x = put16 (portB x) (8 + x.data.length) ++ [0, 0] := by unfold headB; rw [if_neg h6, if_pos h17]
  rw [eP, eH]
  obtain ⟨L0, h0⟩ : ∃ L, portB x = L := ⟨_, rfl⟩
  have l0 : L0.length = 4 := by rw [← h0]; simp [portB, put16]
  rw [h0] at KP ⊢
  have w8 : IntKind.i64.wrap (8 + (x.data.length : Int)) = 8 + (x.data.length : Int) := wraps_i64 _ (by omega) (by omega)
  obtain ⟨L1, h1⟩ : ∃ L, put16 L0 (8 + (x.data.length : Int)) = L := ⟨_, rfl⟩
  have l1 : L1.length = 6 := by rw [← h1]; simp [put16, l0]
  obtain ⟨L2, h2⟩ : ∃ L, L1 ++ [0, 0] = L := ⟨_, rfl⟩
  have l2 : L2.length = 8 := by rw [← h2]; simp [l1]
  rw [h1, h2]
  have K1 : Hid (∀ W a c, Row W a L0 → (a = none → c = 0) → Calls Try.prog 26 #[.slice a 4 c, .int .i64 (8 + (x.data.length : Int))] W fun e w' => ∃ a' c', e = .returned (.slice a' L1.length c') ∧ Fresh W w' a' c' L1) := fun W a c hr hn => by
    have := put16_any a c L0 (8 + (x.data.length : Int)) W hr hn (by omega)
    rw [h1, l0] at this
    exact this
  have HL2 : Hid (L1 ++ [0, 0] = L2) := h2
  have l2' : L2.length ≤ 8 := by omega
  have s0 : W1.heap.size ≤ W1.drew.heap.size := Nat.le_refl _
  clear h0 h1 h2 l0 l1 l2 eP eH h6 h17
  go_enter Try.func41, Try.ntmps41
  go_wp2_with fail
  refine wp_region_noPanic ?_
  refine wp_region_held_drew (S := fun w' => Blk w' w.heap.size 38 (sRc x.t.fam x.t.pr x.t.s.fam x.t.s.hi x.t.s.lo x.t.d.fam x.t.d.hi x.t.d.lo x.t.sp x.t.dp x.fl x.sq x.ak x.wn x.ty x.cd x.er x.inn.fam x.inn.pr x.inn.s.fam x.inn.s.hi x.inn.s.lo x.inn.d.fam x.inn.d.hi x.inn.d.lo x.inn.sp x.inn.dp a x.data.length c) ∧ w'.cell? ⟨w.heap.size, 27, none⟩ = some (.slice a x.data.length c)) (by kernel_rfl) (by exact ⟨B1.drew, d27⟩) (fun hHeld => ?_)
  refine tk (i := 0) (oi := { dst := some 35, op := Op.fieldAddr 38 (.tmp 1) 0, type := 0, pos := "build.go:51", after := #[], guard := none }) (v := (.pointer (some ⟨w.heap.size, 0, none⟩))) hHeld ?_ ?_
  · intro w9 hSw
    try dsimp only at hSw
    go_simp
  try simp only [pu]
  refine wpAnyH_take (i := 1) (oi := { dst := some 36, op := Op.load 26 (.tmp 35), type := 26, pos := "build.go:51", after := #[{ on := 0, ground := Ground.data }], guard := none }) (v := (.agg (sRb x.t.fam x.t.pr x.t.s.fam x.t.s.hi x.t.s.lo x.t.d.fam x.t.d.hi x.t.d.lo x.t.sp x.t.dp))) rfl (by kernel_rfl) (by kernel_rfl) (by kernel_rfl) (fun _ _ _ h => h) (yieldsIf_sub rfl _ _ rfl w.heap.size 0 38 (by rfl) _ _ (fun _ hSw => hSw.1) (by rfl) Try.underlying26 (by kernel_rfl)) hHeld ?_
  try simp only [pu]
  refine tk (i := 3) (oi := { dst := some 38, op := Op.fieldAddr 38 (.tmp 1) 9, type := 0, pos := "build.go:51", after := #[], guard := none }) (v := (.pointer (some ⟨w.heap.size, 27, none⟩))) hHeld ?_ ?_
  · intro w9 hSw
    try dsimp only at hSw
    go_simp
  try simp only [pu]
  refine tk (i := 4) (oi := { dst := some 39, op := Op.load 28 (.tmp 38), type := 28, pos := "build.go:51", after := #[{ on := 3, ground := Ground.data }], guard := none }) (v := (.slice a x.data.length c)) hHeld ?_ ?_
  · intro w9 hSw
    try dsimp only at hSw
    go_simp
  try simp only [pu]
  refine tk (i := 5) (oi := { dst := some 40, op := Op.call { callee := Callee.builtin Builtin.len, args := #[.tmp 39], argTypes := #[28] }, type := 3, pos := "build.go:51", after := #[{ on := 4, ground := Ground.data }], guard := none }) (v := (.int .i64 (x.data.length : Int))) hHeld ?_ ?_
  · intro w9 hSw
    try dsimp only at hSw
    go_simp
  try simp only [pu]
  refine tk (i := 6) (oi := { dst := some 41, op := Op.binOp BinOp.add 3 (.const (.int .i64 8)) (.tmp 40) 3, type := 3, pos := "build.go:51", after := #[{ on := 5, ground := Ground.data }], guard := none }) (v := (.int .i64 (8 + (x.data.length : Int)))) hHeld ?_ ?_
  · intro w9 hSw
    try dsimp only at hSw
    go_simp
  try simp only [pu]
  have B1x := B1.drew
  have b1x := b1.drew
  obtain ⟨W1x, hW1x⟩ : ∃ W, W1.drew = W := ⟨_, rfl⟩
  rw [hW1x] at B1x b1x s0 ⊢
  clear hW1x
  refine wpAnyH_ready (rs := [2, 8]) (by kernel_rfl) (by simp) ?_
  refine (AllReadyH.cons (o := sgrR25o7) rfl (fun K hK => ?_) (AllReadyH.cons (o := sgrR25o4) rfl (fun K hK => ?_) AllReadyH.nil))
  · go_simp
    refine Calls.mono (KP.out _) ?_
    rintro e W2 ⟨a2, c2, rfl, f2⟩
    have B2 := B1x.kept f2.below
    have b2 := bel_tr b1x f2.below
    have s2 : W1.heap.size ≤ W2.heap.size := Nat.le_trans s0 f2.below.size
    refine hK.out _ _ (by exact ⟨B2, HC.out _ B2⟩) (fun hHeld => ?_)
    clear hK K
    try simp only [pu]
    refine wpAnyH_ready (rs := [7, 8]) (by kernel_rfl) (by simp) ?_
    refine (AllReadyH.cons (o := sgrR25o2) rfl (fun K hK => ?_) (AllReadyH.cons (o := sgrR25o4) rfl (fun K hK => ?_) AllReadyH.nil))
    · go_simp
      refine Calls.mono (K1.out _ _ _ f2.row f2.nil) ?_
      rintro e W3 ⟨a3, c3, rfl, f3⟩
      have B3 := B2.kept f3.below
      have b3 := bel_tr b2 f3.below
      have s3 : W1.heap.size ≤ W3.heap.size := Nat.le_trans s2 f3.below.size
      have O3 := owns_le (B' := W1.heap.size) s2 f3.owns
      have y3 := f3.row.bytes
      refine hK.out _ _ (by exact ⟨B3, HC.out _ B3⟩) (fun hHeld => ?_)
      clear hK K
      try simp only [pu]
      refine wpAnyH_ready (rs := [8]) (by kernel_rfl) (by simp) ?_
      refine AllReadyH.cons (o := sgrR25o4) rfl (fun K hK => ?_) AllReadyH.nil
      obtain ⟨W4, hA⟩ : ∃ W, W3.alloc (.cells #[.int .u8 0, .int .u8 0] 5) = W := ⟨_, rfl⟩
      have b4 : Below w.heap.size w W4 := by rw [← hA]; exact b3.alloc b3.size _
      have B4 := B3.alloc (.cells #[.int .u8 0, .int .u8 0] 5)
      have q4 := row_at W3 5 [0, 0] W3.heap.size rfl (by simp) bytes_00
      have s4 : W1.heap.size ≤ W4.heap.size := by rw [← hA]; simp only [World.size_alloc]; omega
      have al4 : Below W3.heap.size W3 W4 := by rw [← hA]; exact (Below.refl _ _).alloc (Nat.le_refl _) _
      have O4 := O3.alloc (.cells #[.int .u8 0, .int .u8 0] 5)
      rw [hA] at O4
      go_simp
      replace q4 : Row W4 (some ⟨W3.heap.size, 0, none⟩) [0, 0] := by rw [← hA]; exact q4
      rw [hA] at B4
      obtain ⟨G, hG⟩ : ∃ G, W3.heap.size = G := ⟨_, rfl⟩
      rw [hG] at q4 ⊢
      refine hK.out _ _ (by exact ⟨B4, HC.out _ B4⟩) (fun hHeld => ?_)
      clear hK K hG hA
      try simp only [pu]
      refine wpAnyH_ready (rs := [9]) (by kernel_rfl) (by simp) ?_
      refine AllReadyH.cons (o := sgrR25o3) rfl (fun K hK => ?_) AllReadyH.nil
      refine step_app2 _ rfl _ _ rfl W1.heap.size _ L1 rfl O4 y3 _ 2 2 [0, 0] (by rfl) rfl q4 (fun hh => by cases hh) L2 HL2.out (by omega) s4 ?_
      intro a9 c9 W9 O9 rm9 nl9 r9 bb
      have b9 : Below w.heap.size w W9 := b4.trans (bb.mono b1.size)
      have B9 := B4.below bb g1
      refine hK.out _ _ (by exact ⟨B9, HC.out _ B9⟩) (fun hHeld => ?_)
      clear hK K
      try simp only [pu]
      refine tk (i := 10) (oi := sgrR25o1) (v := (.slice a9 L2.length c9)) hHeld ?_ ?_
      · intro w9 hSw
        try dsimp only at hSw
        go_simp
      try simp only [pu]
      refine tk (i := 11) (oi := sgrR25o0) (v := (.int .i64 6)) hHeld ?_ ?_
      · intro w9 hSw
        try dsimp only at hSw
        go_simp
      try simp only [pu]
      refine wpAnyH_done (by kernel_rfl) ?_ _
      refine NoPanic.normal ?_
      go_wp2
      go_ret2
      exact ⟨a9, c9, rfl, owns_le b1.size O9, rm9, nl9, r9, b9⟩
    · obtain ⟨W3, hA⟩ : ∃ W, W2.alloc (.cells #[.int .u8 0, .int .u8 0] 5) = W := ⟨_, rfl⟩
      have b3 : Below w.heap.size w W3 := by rw [← hA]; exact b2.alloc b2.size _
      have B3 := B2.alloc (.cells #[.int .u8 0, .int .u8 0] 5)
      have q3 := row_at W2 5 [0, 0] W2.heap.size rfl (by simp) bytes_00
      have s3 : W1.heap.size ≤ W3.heap.size := by rw [← hA]; simp only [World.size_alloc]; omega
      have al3 : Below W2.heap.size W2 W3 := by rw [← hA]; exact (Below.refl _ _).alloc (Nat.le_refl _) _
      go_simp
      replace q3 : Row W3 (some ⟨W2.heap.size, 0, none⟩) [0, 0] := by rw [← hA]; exact q3
      rw [hA] at B3
      obtain ⟨G, hG⟩ : ∃ G, W2.heap.size = G := ⟨_, rfl⟩
      rw [hG] at q3 ⊢
      refine hK.out _ _ (by exact ⟨B3, HC.out _ B3⟩) (fun hHeld => ?_)
      clear hK K hG hA
      try simp only [pu]
      refine wpAnyH_ready (rs := [7]) (by kernel_rfl) (by simp) ?_
      refine AllReadyH.cons (o := sgrR25o2) rfl (fun K hK => ?_) AllReadyH.nil
      go_simp
      refine Calls.mono (K1.out _ _ _ (f2.row.below al3) f2.nil) ?_
      rintro e W4 ⟨a4, c4, rfl, f4⟩
      have B4 := B3.kept f4.below
      have b4 := bel_tr b3 f4.below
      have s4 : W1.heap.size ≤ W4.heap.size := Nat.le_trans s3 f4.below.size
      have O4 := owns_le (B' := W1.heap.size) s3 f4.owns
      have y4 := f4.row.bytes
      have q4 := q3.below f4.below
      refine hK.out _ _ (by exact ⟨B4, HC.out _ B4⟩) (fun hHeld => ?_)
      clear hK K
      try simp only [pu]
      refine wpAnyH_ready (rs := [9]) (by kernel_rfl) (by simp) ?_
      refine AllReadyH.cons (o := sgrR25o3) rfl (fun K hK => ?_) AllReadyH.nil
      refine step_app2 _ rfl _ _ rfl W1.heap.size _ L1 rfl O4 y4 _ 2 2 [0, 0] (by rfl) rfl q4 (fun hh => by cases hh) L2 HL2.out (by omega) s4 ?_
      intro a9 c9 W9 O9 rm9 nl9 r9 bb
      have b9 : Below w.heap.size w W9 := b4.trans (bb.mono b1.size)
      have B9 := B4.below bb g1
      refine hK.out _ _ (by exact ⟨B9, HC.out _ B9⟩) (fun hHeld => ?_)
      clear hK K
      try simp only [pu]
      refine tk (i := 10) (oi := sgrR25o1) (v := (.slice a9 L2.length c9)) hHeld ?_ ?_
      · intro w9 hSw
        try dsimp only at hSw
        go_simp
      try simp only [pu]
      refine tk (i := 11) (oi := sgrR25o0) (v := (.int .i64 6)) hHeld ?_ ?_
      · intro w9 hSw
        try dsimp only at hSw
        go_simp
      try simp only [pu]
      refine wpAnyH_done (by kernel_rfl) ?_ _
      refine NoPanic.normal ?_
      go_wp2
      go_ret2
      exact ⟨a9, c9, rfl, owns_le b1.size O9, rm9, nl9, r9, b9⟩
  · obtain ⟨W2, hA⟩ : ∃ W, W1x.alloc (.cells #[.int .u8 0, .int .u8 0] 5) = W := ⟨_, rfl⟩
    have b2 : Below w.heap.size w W2 := by rw [← hA]; exact b1x.alloc b1x.size _
    have B2 := B1x.alloc (.cells #[.int .u8 0, .int .u8 0] 5)
    have q2 := row_at W1x 5 [0, 0] W1x.heap.size rfl (by simp) bytes_00
    have s2 : W1.heap.size ≤ W2.heap.size := by rw [← hA]; simp only [World.size_alloc]; omega
    have al2 : Below W1x.heap.size W1x W2 := by rw [← hA]; exact (Below.refl _ _).alloc (Nat.le_refl _) _
    go_simp
    replace q2 : Row W2 (some ⟨W1x.heap.size, 0, none⟩) [0, 0] := by rw [← hA]; exact q2
    rw [hA] at B2
    obtain ⟨G, hG⟩ : ∃ G, W1x.heap.size = G := ⟨_, rfl⟩
    rw [hG] at q2 ⊢
    refine hK.out _ _ (by exact ⟨B2, HC.out _ B2⟩) (fun hHeld => ?_)
    clear hK K hG hA
    try simp only [pu]
    refine wpAnyH_ready (rs := [2]) (by kernel_rfl) (by simp) ?_
    refine AllReadyH.cons (o := sgrR25o7) rfl (fun K hK => ?_) AllReadyH.nil
    go_simp
    refine Calls.mono (KP.out _) ?_
    rintro e W3 ⟨a3, c3, rfl, f3⟩
    have B3 := B2.kept f3.below
    have b3 := bel_tr b2 f3.below
    have s3 : W1.heap.size ≤ W3.heap.size := Nat.le_trans s2 f3.below.size
    have q3 := q2.below f3.below
    refine hK.out _ _ (by exact ⟨B3, HC.out _ B3⟩) (fun hHeld => ?_)
    clear hK K
    try simp only [pu]
    refine wpAnyH_ready (rs := [7]) (by kernel_rfl) (by simp) ?_
    refine AllReadyH.cons (o := sgrR25o2) rfl (fun K hK => ?_) AllReadyH.nil
    go_simp
    refine Calls.mono (K1.out _ _ _ f3.row f3.nil) ?_
    rintro e W4 ⟨a4, c4, rfl, f4⟩
    have B4 := B3.kept f4.below
    have b4 := bel_tr b3 f4.below
    have s4 : W1.heap.size ≤ W4.heap.size := Nat.le_trans s3 f4.below.size
    have O4 := owns_le (B' := W1.heap.size) s3 f4.owns
    have y4 := f4.row.bytes
    have q4 := q3.below f4.below
    refine hK.out _ _ (by exact ⟨B4, HC.out _ B4⟩) (fun hHeld => ?_)
    clear hK K
    try simp only [pu]
    refine wpAnyH_ready (rs := [9]) (by kernel_rfl) (by simp) ?_
    refine AllReadyH.cons (o := sgrR25o3) rfl (fun K hK => ?_) AllReadyH.nil
    refine step_app2 _ rfl _ _ rfl W1.heap.size _ L1 rfl O4 y4 _ 2 2 [0, 0] (by rfl) rfl q4 (fun hh => by cases hh) L2 HL2.out (by omega) s4 ?_
    intro a9 c9 W9 O9 rm9 nl9 r9 bb
    have b9 : Below w.heap.size w W9 := b4.trans (bb.mono b1.size)
    have B9 := B4.below bb g1
    refine hK.out _ _ (by exact ⟨B9, HC.out _ B9⟩) (fun hHeld => ?_)
    clear hK K
    try simp only [pu]
    refine tk (i := 10) (oi := sgrR25o1) (v := (.slice a9 L2.length c9)) hHeld ?_ ?_
    · intro w9 hSw
      try dsimp only at hSw
      go_simp
    try simp only [pu]
    refine tk (i := 11) (oi := sgrR25o0) (v := (.int .i64 6)) hHeld ?_ ?_
    · intro w9 hSw
      try dsimp only at hSw
      go_simp
    try simp only [pu]
    refine wpAnyH_done (by kernel_rfl) ?_ _
    refine NoPanic.normal ?_
    go_wp2
    go_ret2
    exact ⟨a9, c9, rfl, owns_le b1.size O9, rm9, nl9, r9, b9⟩
set_option maxRecDepth 100000 in
set_option maxHeartbeats 4000000 in
theorem written_echo (x : Sg) (a : Option Addr) (c : Nat) (w : World) (hsq : 0 ≤ x.sq ∧ x.sq ≤ 4294967295) (hak : 0 ≤ x.ak ∧ x.ak ≤ 4294967295) (hdl : x.data.length ≤ 140737488355328) (h6 : ¬ x.t.pr = 6) (h17 : ¬ x.t.pr = 17) (he : isEcho x.t.fam x.ty = true) :
    Calls Try.prog 41 #[.agg (sRc x.t.fam x.t.pr x.t.s.fam x.t.s.hi x.t.s.lo x.t.d.fam x.t.d.hi x.t.d.lo x.t.sp x.t.dp x.fl x.sq x.ak x.wn x.ty x.cd x.er x.inn.fam x.inn.pr x.inn.s.fam x.inn.s.hi x.inn.s.lo x.inn.d.fam x.inn.d.hi x.inn.d.lo x.inn.sp x.inn.dp a x.data.length c)] w fun e w' => ∃ a' c', e = .returned (.tuple #[.slice a' (headB x).length c', .int .i64 (placeB x : Nat)]) ∧ Fresh w w' a' c' (headB x) := by
  obtain ⟨W1, hW1⟩ : ∃ W1, w.alloc (.cells (sRc x.t.fam x.t.pr x.t.s.fam x.t.s.hi x.t.s.lo x.t.d.fam x.t.d.hi x.t.d.lo x.t.sp x.t.dp x.fl x.sq x.ak x.wn x.ty x.cd x.er x.inn.fam x.inn.pr x.inn.s.fam x.inn.s.hi x.inn.s.lo x.inn.d.fam x.inn.d.hi x.inn.d.lo x.inn.sp x.inn.dp a x.data.length c) 38) = W1 := ⟨_, rfl⟩
  have b1 := bel_nw hW1
  have B1 := blk_nw hW1
  have g1 : w.heap.size < W1.heap.size := B1.lt
  have d1 := B1.cell 1 (.int .i64 x.t.pr) rfl
  have KP : Hid _ := portBytes_any x
  have d0 := B1.cell 0 (.int .i64 x.t.fam) rfl
  have d8 := B1.cell 8 (.int .i64 x.t.sp) rfl
  have d14 := B1.cell 14 (.int .i64 x.ty) rfl
  have d15 := B1.cell 15 (.int .i64 x.cd) rfl
  have e6 : (x.t.pr == 6) = false := by simpa using h6
  have e17 : (x.t.pr == 17) = false := by simpa using h17
  have eP : placeB x = 2 := by unfold placeB; rw [if_neg h6, if_neg h17]
  have eH : headB x = put16 [x.ty % 256, x.cd % 256, 0, 0] x.t.sp ++ [0, 0] := by unfold headB; rw [if_neg h6, if_neg h17, he]; rfl
  rw [eP, eH]
  obtain ⟨L1, h1⟩ : ∃ L, put16 [x.ty % 256, x.cd % 256, 0, 0] x.t.sp = L := ⟨_, rfl⟩
  have l1 : L1.length = 6 := by rw [← h1]; simp [put16]
  obtain ⟨L2, h2⟩ : ∃ L, L1 ++ [0, 0] = L := ⟨_, rfl⟩
  have l2 : L2.length = 8 := by rw [← h2]; simp [l1]
  rw [h1, h2]
  have K1 : Hid (∀ W a c, Row W a [x.ty % 256, x.cd % 256, 0, 0] → (a = none → c = 0) → Calls Try.prog 26 #[.slice a 4 c, .int .i64 x.t.sp] W fun e w' => ∃ a' c', e = .returned (.slice a' L1.length c') ∧ Fresh W w' a' c' L1) := fun W a c hr hn => by
    have := put16_any a c [x.ty % 256, x.cd % 256, 0, 0] x.t.sp W hr hn (by simp)
    rw [h1] at this
    exact this
  have KE : Hid (∀ W, Calls Try.prog 64 #[.int .i64 x.t.fam, .int .i64 x.ty] W fun e w' => e = .returned (.bool true) ∧ w' = W) := fun W => by
    have := isEcho_any x.t.fam x.ty W
    rw [he] at this
    exact this
  have HL2 : Hid (L1 ++ [0, 0] = L2) := h2
  have l2' : L2.length ≤ 8 := by omega
  have wty := wrapU8 x.ty
  have wcd := wrapU8 x.cd
  clear h1 h2 l1 l2 eP eH h6 h17 he KP
  go_enter Try.func41, Try.ntmps41
  go_wp2_with fail
  refine Calls.mono (KE.out _) ?_
  rintro e W2 ⟨rfl, hW2⟩
  rw [hW2]
  clear hW2 W2 KE
  go_wp2_with fail
  refine Calls.mono (K1.out _ _ _ (row_at W1 5 [x.ty % 256, x.cd % 256, 0, 0] W1.heap.size rfl (by simp) (bytes_icmp x.ty x.cd)) (fun hh => by cases hh)) ?_
  rintro e W7 ⟨a7, c7, rfl, f7⟩
  have bx := b1.alloc b1.size (.cells #[.int .u8 (x.ty % 256), .int .u8 (x.cd % 256), .int .u8 0, .int .u8 0] 5)
  have b7 := bel_tr bx f7.below
  have OW := owns_le bx.size f7.owns
  have rb := f7.row.bytes
  clear K1 f7 bx B1 d0 d8 d14 d15 d1 hW1
  go_wp2_with (at_builtin; refine wpList_app2 _ rfl _ _ rfl w.heap.size _ L1 rfl (OW.alloc _) rb _ 2 [0, 0] rfl ?row (fun hh => by cases hh) L2 HL2.out ?c1 ?c2 ?_)
  case row => exact row_at W7 5 [0, 0] W7.heap.size rfl (by simp) bytes_00
  case c1 => omega
  case c2 => exact Nat.le_trans b7.size (by simp)
  intro a8 c8 W8 o8 rm8 nl8 r8 bb _
  have b8 : Below w.heap.size w W8 := (b7.alloc b7.size _).trans bb
  go_wp2
  go_ret2
  exact ⟨a8, c8, rfl, o8, rm8, nl8, r8, b8⟩
set_option maxRecDepth 100000 in
set_option maxHeartbeats 4000000 in
theorem written_mute (x : Sg) (a : Option Addr) (c : Nat) (w : World) (hsq : 0 ≤ x.sq ∧ x.sq ≤ 4294967295) (hak : 0 ≤ x.ak ∧ x.ak ≤ 4294967295) (hdl : x.data.length ≤ 140737488355328) (h6 : ¬ x.t.pr = 6) (h17 : ¬ x.t.pr = 17) (he : isEcho x.t.fam x.ty = false) :
    Calls Try.prog 41 #[.agg (sRc x.t.fam x.t.pr x.t.s.fam x.t.s.hi x.t.s.lo x.t.d.fam x.t.d.hi x.t.d.lo x.t.sp x.t.dp x.fl x.sq x.ak x.wn x.ty x.cd x.er x.inn.fam x.inn.pr x.inn.s.fam x.inn.s.hi x.inn.s.lo x.inn.d.fam x.inn.d.hi x.inn.d.lo x.inn.sp x.inn.dp a x.data.length c)] w fun e w' => ∃ a' c', e = .returned (.tuple #[.slice a' (headB x).length c', .int .i64 (placeB x : Nat)]) ∧ Fresh w w' a' c' (headB x) := by
  obtain ⟨W1, hW1⟩ : ∃ W1, w.alloc (.cells (sRc x.t.fam x.t.pr x.t.s.fam x.t.s.hi x.t.s.lo x.t.d.fam x.t.d.hi x.t.d.lo x.t.sp x.t.dp x.fl x.sq x.ak x.wn x.ty x.cd x.er x.inn.fam x.inn.pr x.inn.s.fam x.inn.s.hi x.inn.s.lo x.inn.d.fam x.inn.d.hi x.inn.d.lo x.inn.sp x.inn.dp a x.data.length c) 38) = W1 := ⟨_, rfl⟩
  have b1 := bel_nw hW1
  have B1 := blk_nw hW1
  have g1 : w.heap.size < W1.heap.size := B1.lt
  have d1 := B1.cell 1 (.int .i64 x.t.pr) rfl
  have KP : Hid _ := portBytes_any x
  have d0 := B1.cell 0 (.int .i64 x.t.fam) rfl
  have d8 := B1.cell 8 (.int .i64 x.t.sp) rfl
  have d14 := B1.cell 14 (.int .i64 x.ty) rfl
  have d15 := B1.cell 15 (.int .i64 x.cd) rfl
  have e6 : (x.t.pr == 6) = false := by simpa using h6
  have e17 : (x.t.pr == 17) = false := by simpa using h17
  have eP : placeB x = 2 := by unfold placeB; rw [if_neg h6, if_neg h17]
  have eH : headB x = put16 [x.ty % 256, x.cd % 256, 0, 0] 0 ++ [0, 0] := by unfold headB; rw [if_neg h6, if_neg h17, he]; rfl
  rw [eP, eH]
  obtain ⟨L1, h1⟩ : ∃ L, put16 [x.ty % 256, x.cd % 256, 0, 0] 0 = L := ⟨_, rfl⟩
  have l1 : L1.length = 6 := by rw [← h1]; simp [put16]
  obtain ⟨L2, h2⟩ : ∃ L, L1 ++ [0, 0] = L := ⟨_, rfl⟩
  have l2 : L2.length = 8 := by rw [← h2]; simp [l1]
  rw [h1, h2]
  have K1 : Hid (∀ W a c, Row W a [x.ty % 256, x.cd % 256, 0, 0] → (a = none → c = 0) → Calls Try.prog 26 #[.slice a 4 c, .int .i64 0] W fun e w' => ∃ a' c', e = .returned (.slice a' L1.length c') ∧ Fresh W w' a' c' L1) := fun W a c hr hn => by
    have := put16_any a c [x.ty % 256, x.cd % 256, 0, 0] 0 W hr hn (by simp)
    rw [h1] at this
    exact this
  have KE : Hid (∀ W, Calls Try.prog 64 #[.int .i64 x.t.fam, .int .i64 x.ty] W fun e w' => e = .returned (.bool false) ∧ w' = W) := fun W => by
    have := isEcho_any x.t.fam x.ty W
    rw [he] at this
    exact this
  have HL2 : Hid (L1 ++ [0, 0] = L2) := h2
  have l2' : L2.length ≤ 8 := by omega
  have wty := wrapU8 x.ty
  have wcd := wrapU8 x.cd
  clear h1 h2 l1 l2 eP eH h6 h17 he KP
  go_enter Try.func41, Try.ntmps41
  go_wp2_with fail
  refine Calls.mono (KE.out _) ?_
  rintro e W2 ⟨rfl, hW2⟩
  rw [hW2]
  clear hW2 W2 KE
  go_wp2_with fail
  refine Calls.mono (K1.out _ _ _ (row_at W1 5 [x.ty % 256, x.cd % 256, 0, 0] W1.heap.size rfl (by simp) (bytes_icmp x.ty x.cd)) (fun hh => by cases hh)) ?_
  rintro e W7 ⟨a7, c7, rfl, f7⟩
  have bx := b1.alloc b1.size (.cells #[.int .u8 (x.ty % 256), .int .u8 (x.cd % 256), .int .u8 0, .int .u8 0] 5)
  have b7 := bel_tr bx f7.below
  have OW := owns_le bx.size f7.owns
  have rb := f7.row.bytes
  clear K1 f7 bx B1 d0 d8 d14 d15 d1 hW1
  go_wp2_with (at_builtin; refine wpList_app2 _ rfl _ _ rfl w.heap.size _ L1 rfl (OW.alloc _) rb _ 2 [0, 0] rfl ?row (fun hh => by cases hh) L2 HL2.out ?c1 ?c2 ?_)
  case row => exact row_at W7 5 [0, 0] W7.heap.size rfl (by simp) bytes_00
  case c1 => omega
  case c2 => exact Nat.le_trans b7.size (by simp)
  intro a8 c8 W8 o8 rm8 nl8 r8 bb _
  have b8 : Below w.heap.size w W8 := (b7.alloc b7.size _).trans bb
  go_wp2
  go_ret2
  exact ⟨a8, c8, rfl, o8, rm8, nl8, r8, b8⟩
theorem written_any (x : Sg) (a : Option Addr) (c : Nat) (w : World) (hsq : 0 ≤ x.sq ∧ x.sq ≤ 4294967295) (hak : 0 ≤ x.ak ∧ x.ak ≤ 4294967295) (hdl : x.data.length ≤ 140737488355328) :
    Calls Try.prog 41 #[.agg (sRc x.t.fam x.t.pr x.t.s.fam x.t.s.hi x.t.s.lo x.t.d.fam x.t.d.hi x.t.d.lo x.t.sp x.t.dp x.fl x.sq x.ak x.wn x.ty x.cd x.er x.inn.fam x.inn.pr x.inn.s.fam x.inn.s.hi x.inn.s.lo x.inn.d.fam x.inn.d.hi x.inn.d.lo x.inn.sp x.inn.dp a x.data.length c)] w fun e w' => ∃ a' c', e = .returned (.tuple #[.slice a' (headB x).length c', .int .i64 (placeB x : Nat)]) ∧ Fresh w w' a' c' (headB x) := by
  by_cases h6 : x.t.pr = 6
  · exact written_tcp x a c w hsq hak hdl h6
  by_cases h17 : x.t.pr = 17
  · exact written_udp x a c w hsq hak hdl h6 h17
  cases he : isEcho x.t.fam x.ty with
  | true => exact written_echo x a c w hsq hak hdl h6 h17 he
  | false => exact written_mute x a c w hsq hak hdl h6 h17 he
end Go.Proofs.Ytpjjkdgmfjhfiaa
