/- Texts joined: FgS FgW FgX -/
import Derived.Test.YtkeeidfpgfdldaaFpz7
import Derived.BigQuiet
namespace Go.Proofs.Ytkeeidfpgfdldaa
open Go.RowKit Go.Maps Go.WideMaps
set_option linter.unusedVariables false
set_option linter.unusedSimpArgs false
theorem look2_G {w : World} {b n : Nat} {D : DataW Value} (h : OwnsG w b n D) {key : Value} {kl : Lit} (hk : keyOf Try.prog 72 key = some kl) {v : Value} (hv : D.atKey kl (.held (.agg zeroG.v)) = .held v) :
  (Instr.lookup 62 (.map (some b)) key true).run Try.prog w = .ok (.tuple #[v, .bool (Maps.has D kl)]) w := by
 obtain ⟨v', h1, h2⟩ := look_G h hk
 have e : v' = v := by
  have := h2.symm.trans hv
  injection this
 rw [← e]; exact h1
theorem yieldsIf_look2 {ops : Array Oper} {S : World → Prop} {o : Oper} {ac : Act} (hgd : o.guard = none) (m x : Operand) (ho : o.op = Op.lookup 62 m x true) (b n : Nat) (D : DataW Value) (key : Value) (kl : Lit) (hm : ac.eval m = .map (some b)) (hx : ac.eval x = key)
  (hS : ∀ w, S w → OwnsG w b n D) (hk : keyOf Try.prog 72 key = some kl) (v : Value) (hv : D.atKey kl (.held (.agg zeroG.v)) = .held v) : YieldsIf Try.prog ops S o (.tuple #[v, .bool (Maps.has D kl)]) ac := by
 refine .inl ⟨by simp [Region.wanted, hgd], fun w hw => ?_⟩
 have hl := look2_G (hS w hw) hk hv
 simp [execOp, ho, hm, hx, hl, Result.andThen]
theorem step_update {ops : Array Oper} {o : Oper} {ac : Act} {K : Act → World → Prop} {Q : Exit → Act → World → Prop} {Z : Prop} {w : World} (hgd : o.guard = none) (m x y : Operand) (ho : o.op = Op.mapUpdate 62 m x y)
  (b n : Nat) (D : DataW Value) (key val : Value) (kl : Lit) (hm : ac.eval m = .map (some b)) (hx : ac.eval x = key) (hy : ac.eval y = val) (hS : OwnsG w b n D) (hn : n < maxLen) (hk : keyOf Try.prog 72 key = some kl)
  (h : ∀ w', OwnsG w' b (n + 1) (D.put kl (.held val)) → w.mapTurned w' b → K (ac.put o.dst undef) w') :
  if Region.wanted o (yielded ops ac.tmps) = true then Oper.wp Try.prog o ac w K Q else Z := by
 have hw : Region.wanted o (yielded ops ac.tmps) = true := by simp [Region.wanted, hgd]
 rw [if_pos hw]
 obtain ⟨w', h1, h2, h3⟩ := store_G (val := val) hS hn hk
 unfold Oper.wp execOp
 simp only [ho, Sem.run_bind, Sem.run_pure, Result.andThen_ok, hm, hx, hy, h1]
 exact h w' h2 h3
end Go.Proofs.Ytkeeidfpgfdldaa
namespace Go.Proofs.Ytkeeidfpgfdldaa
open Go.RowKit
set_option linter.unusedVariables false
set_option linter.unusedSimpArgs false
theorem blk_drewN {W : World} {g : Nat} {t : TypeId} {cs : Array Value} (h : Blk W g t cs) (k : Nat) : Blk (W.drewN k) g t cs := by
 unfold Blk at h ⊢
 rw [← h]; simp
theorem ownsG_drewN {W : World} {mb n : Nat} {D : DataW Value} (h : OwnsG W mb n D) (k : Nat) : OwnsG (W.drewN k) mb n D := by
 obtain ⟨es, ck, h1, h2⟩ := h
 exact ⟨es, ck, by rw [← h1]; simp, h2⟩
set_option maxRecDepth 100000 in
set_option maxHeartbeats 4000000 in
theorem take_full (tb mb n : Nat) (most room life now by_ : Int) (D : DataW Value) (g : Gm) (kl : Lit) (NV : Array Value) (f sf sh sl df dh dl pr ho : Int) (fg : Bool) (id of : Int) (mo : Bool) (xa : Option Addr) (xc : Nat) (X : List Int) (da : Option Addr) (dc : Nat) (dat : List Int) (w : World) (hb : Blk w tb 64 #[.bool true, .int .i64 most, .int .i64 room, .int .i64 life, .int .i64 now, .int .i64 by_, .map (some mb)]) (hm : OwnsG w mb n D) (hk : keyOf Try.prog 72 (.agg NV) = some kl) (hv : D.atKey kl (.held (.agg zeroG.v)) = .held (.agg g.v)) (hNs : NV.size = 8) (hN1 : NV.all (·.oneCell') = true)
  (hN : ∀ W, Calls Try.prog 44 #[.agg #[.int .i64 f, .int .i64 sf, .int .u64 sh, .int .u64 sl, .int .i64 df, .int .u64 dh, .int .u64 dl, .int .i64 pr, .int .i64 ho, .bool fg, .int .u32 id, .int .i64 of, .bool mo, .slice xa X.length xc, .slice da dat.length dc]] W fun e w' => e = .returned (.agg NV) ∧ Below W.heap.size W w') (hd : g.dead = false) (hg : GmR w g) (hn : GmN g) (h0 : 0 ≤ of) (h1 : of ≤ 65528) (hl : dat.length ≤ 65535) (hcl : clashB g of mo dat.length = false) (hs0 : 0 ≤ by_) (hs2 : by_ ≤ 1048576) (hr0 : 0 ≤ room) (hr2 : room ≤ 1048576) (hne : tb ≠ mb) (hfl : (Maps.has D kl = false ∧ most ≤ Maps.size D) ∨ (room - by_ < dat.length ∧ (Maps.has D kl = false → (Maps.size D : Int) < most))) :
  Calls Try.prog 34 #[.pointer (some ⟨tb, 0, none⟩), .agg #[.int .i64 f, .int .i64 sf, .int .u64 sh, .int .u64 sl, .int .i64 df, .int .u64 dh, .int .u64 dl, .int .i64 pr, .int .i64 ho, .bool fg, .int .u32 id, .int .i64 of, .bool mo, .slice xa X.length xc, .slice da dat.length dc]] w fun e w' => e = .returned (.tuple #[.agg #[.int .i64 0, .int .i64 0, .int .u64 0, .int .u64 0, .int .i64 0, .int .u64 0, .int .u64 0, .int .i64 0, .int .i64 0, .bool false, .int .u32 0, .int .i64 0, .bool false, .slice none 0 0, .slice none 0 0], .int .i64 12]) ∧ Below w.heap.size w w' := by
 obtain ⟨W1, hW1⟩ : ∃ W, w.alloc (.cells #[.int .i64 f, .int .i64 sf, .int .u64 sh, .int .u64 sl, .int .i64 df, .int .u64 dh, .int .u64 dl, .int .i64 pr, .int .i64 ho, .bool fg, .int .u32 id, .int .i64 of, .bool mo, .slice xa X.length xc, .slice da dat.length dc] 42) = W := ⟨_, rfl⟩
 obtain ⟨W2, hW2⟩ : ∃ W, W1.alloc (.cells #[.int .i64 0, .int .i64 0, .int .u64 0, .int .u64 0, .int .i64 0, .int .u64 0, .int .u64 0, .int .i64 0, .int .i64 0, .bool false, .int .u32 0, .int .i64 0, .bool false, .slice none 0 0, .slice none 0 0] 42) = W := ⟨_, rfl⟩
 have hTB := hb
 have hMB := hm
 have b1 := bel_nw hW1
 have b2 := bel_al b1 hW2
 have B1 := blk_nw hW1
 have B2 := B1.al hW2
 have R2 := blk_nw hW2
 have T2 := (hb.al hW1).al hW2
 have M2 : OwnsG W2 mb n D := by rw [← hW2, ← hW1]; exact (hm.alloc _).alloc _
 have n1 : w.heap.size < W1.heap.size := B1.lt
 have HV : Hid (D.atKey kl (.held (.agg zeroG.v)) = .held (.agg g.v)) := hv
 have HK : Hid (keyOf Try.prog 72 (.agg NV) = some kl) := hk
 have KN : Hid _ := hN
 have tlt : tb < w.heap.size := hb.lt
 have mlt : mb < w.heap.size := hm.lt
 clear b1 B1 hb hm hv hk hN
 go_enter Try.func34, Try.ntmps34
 go_wp2_with (refine wpList_load_row rfl _ _ rfl w.heap.size (by rfl) _ _ _ _ B2 Try.underlying42 rfl (by kernel_rfl) ?_)
 refine Calls.mono (KN.out _) ?_
 rintro e W3 ⟨rfl, k3⟩
 have B3 := B2.kept k3
 have R3 := R2.kept k3
 have T3 := T2.kept k3
 have M3 : OwnsG W3 mb n D := by
  obtain ⟨es, ck, h1, h2⟩ := M2
  exact ⟨es, ck, (k3.block mb (Array.getElem?_eq_some_iff.1 h1).1).trans h1, h2⟩
 have b3 := bel_tr b2 k3
 clear KN B2 R2 T2 M2 b2 k3
 obtain ⟨W4, hW4⟩ : ∃ W, W3.alloc (.cells #[.int .i64 0, .int .u64 0, .int .u64 0, .int .i64 0, .int .u64 0, .int .u64 0, .int .i64 0, .int .u32 0] 72) = W := ⟨_, rfl⟩
 have N4 := blk_nw hW4
 have B4 := B3.al hW4
 have R4 := R3.al hW4
 have T4 := T3.al hW4
 have M4 : OwnsG W4 mb n D := by rw [← hW4]; exact M3.alloc _
 have b4 := bel_al b3 hW4
 have l3 : W1.heap.size < W3.heap.size := R3.lt
 have t3 : tb < W3.heap.size := T3.lt
 have m3 : mb < W3.heap.size := M3.lt
 obtain ⟨W5, hW5⟩ : ∃ W, W4.setRow W3.heap.size NV = W := ⟨_, rfl⟩
 have N5 : Blk W5 W3.heap.size 72 NV := by rw [← hW5]; exact N4.set _
 have B5 : Blk W5 w.heap.size 42 #[.int .i64 f, .int .i64 sf, .int .u64 sh, .int .u64 sl, .int .i64 df, .int .u64 dh, .int .u64 dl, .int .i64 pr, .int .i64 ho, .bool fg, .int .u32 id, .int .i64 of, .bool mo, .slice xa X.length xc, .slice da dat.length dc] := by rw [← hW5]; exact B4.other (by omega) _
 have R5 : Blk W5 W1.heap.size 42 #[.int .i64 0, .int .i64 0, .int .u64 0, .int .u64 0, .int .i64 0, .int .u64 0, .int .u64 0, .int .i64 0, .int .i64 0, .bool false, .int .u32 0, .int .i64 0, .bool false, .slice none 0 0, .slice none 0 0] := by rw [← hW5]; exact R4.other (by omega) _
 have T5 : Blk W5 tb 64 #[.bool true, .int .i64 most, .int .i64 room, .int .i64 life, .int .i64 now, .int .i64 by_, .map (some mb)] := by rw [← hW5]; exact T4.other (by omega) _
 have M5 : OwnsG W5 mb n D := by
  rw [← hW5]
  obtain ⟨es, ck, h1, h2⟩ := M4
  exact ⟨es, ck, (setRow_heap_ne W4 W3.heap.size mb NV (by omega)).trans h1, h2⟩
 have b5 : Below w.heap.size w W5 := by rw [← hW5]; exact below_setRow b4 (by omega) _
 have HW5 : Hid _ := hW5
 clear hW5 B3 R3 T3 M3 B4 R4 T4 M4 b3 b4
 go_wp2_with (refine wpList_store_row rfl _ _ _ rfl W3.heap.size NV (by rfl) (by rfl) _ _ N4 (by rw [hNs]; kernel_rfl) (by simp [hNs]) hN1 ?_; rw [HW5.out])
 have Nd := N5.drew
 have Bd := B5.drew
 have Rd := R5.drew
 have Td := T5.drew
 have Md : OwnsG W5.drew mb n D := M5.drew
 have bd := b5.drew
 have c6 := Td.cell 6 (.map (some mb)) rfl
 refine wp_region_noPanic ?_
 refine wp_region_held_drew (S := fun w' => Blk w' W3.heap.size 72 NV ∧ w'.cell? ⟨tb, 6, none⟩ = some (.map (some mb)) ∧ OwnsG w' mb n D) (by kernel_rfl) (by exact ⟨Nd, c6, Md⟩) (fun hHeld => ?_)
 generalize W5.drew = V1 at Nd Bd Rd Td Md bd c6 hHeld ⊢
 clear N5 B5 R5 T5 M5 b5
 refine qtk (i := 0) (oi := { dst := some 12, op := Op.move (.tmp 0), type := 25, pos := "frag.go:111", after := #[], guard := none }) (v := (.pointer (some ⟨tb, 0, none⟩))) hHeld ?_ ?_
 ·intro w9 hSw
  try dsimp only at hSw
  go_simp
 try simp only [qpu]
 refine qtk (i := 1) (oi := { dst := some 13, op := Op.nilCheck (.tmp 12), type := 0, pos := "frag.go:111", after := #[{ on := 0, ground := Ground.data }], guard := none }) (v := (.pointer (some ⟨tb, 0, none⟩))) hHeld ?_ ?_
 ·intro w9 hSw
  try dsimp only at hSw
  go_simp
 try simp only [qpu]
 refine qtk (i := 2) (oi := { dst := some 14, op := Op.fieldAddr 64 (.tmp 13) 6, type := 0, pos := "frag.go:111", after := #[{ on := 1, ground := Ground.data }], guard := none }) (v := (.pointer (some ⟨tb, 6, none⟩))) hHeld ?_ ?_
 ·intro w9 hSw
  try dsimp only at hSw
  go_simp
 try simp only [qpu]
 refine qtk (i := 3) (oi := { dst := some 15, op := Op.load 62 (.tmp 14), type := 62, pos := "frag.go:111", after := #[{ on := 2, ground := Ground.data }], guard := none }) (v := (.map (some mb))) hHeld ?_ ?_
 ·intro w9 hSw
  try dsimp only at hSw
  have q9 := hSw.2.1
  go_simp
 try simp only [qpu]
 refine qty (i := 4) (oi := { dst := some 16, op := Op.load 72 (.tmp 6), type := 72, pos := "frag.go:111", after := #[], guard := none }) (v := (.agg NV)) (yieldsIf_blk rfl _ _ rfl W3.heap.size (by rfl) _ (fun _ hSw => hSw.1) Try.underlying72 (by rw [hNs]; kernel_rfl)) hHeld ?_
 try simp only [qpu]
 refine qty (i := 5) (oi := { dst := some 17, op := Op.lookup 62 (.tmp 15) (.tmp 16) true, type := 92, pos := "frag.go:111", after := #[{ on := 3, ground := Ground.data }, { on := 4, ground := Ground.data }], guard := none }) (v := (.tuple #[.agg g.v, .bool (Maps.has D kl)])) (yieldsIf_look2 rfl _ _ rfl mb n D _ kl (by rfl) (by rfl) (fun _ hSw => hSw.2.2) HK.out _ HV.out) hHeld ?_
 try simp only [qpu]
 refine qtk (i := 6) (oi := { dst := some 11, op := Op.move (.tmp 17), type := 92, pos := "frag.go:111", after := #[{ on := 5, ground := Ground.data }], guard := none }) (v := (.tuple #[.agg g.v, .bool (Maps.has D kl)])) hHeld ?_ ?_
 ·intro w9 hSw
  try dsimp only at hSw
  go_simp
 try simp only [qpu]
 refine qtk (i := 7) (oi := { dst := some 18, op := Op.extract (.tmp 11) 0, type := 75, pos := "frag.go:111", after := #[{ on := 6, ground := Ground.data }], guard := none }) (v := (.agg g.v)) hHeld ?_ ?_
 ·intro w9 hSw
  try dsimp only at hSw
  go_simp
 try simp only [qpu]
 refine qtk (i := 8) (oi := { dst := some 19, op := Op.extract (.tmp 11) 1, type := 4, pos := "frag.go:111", after := #[{ on := 6, ground := Ground.data }, { on := 10, ground := Ground.gcOnly Departure.lateStores }], guard := none }) (v := (.bool (Maps.has D kl))) hHeld ?_ ?_
 ·intro w9 hSw
  try dsimp only at hSw
  go_simp
 try simp only [qpu]
 obtain ⟨V2, hV2⟩ : ∃ W, V1.alloc (.cells #[.int .i64 0, .bool false, .int .i64 0, .int .i64 0, .int .u64 0, .int .u64 0, .int .i64 0, .int .u64 0, .int .u64 0, .int .i64 0, .int .i64 0, .bool false, .int .u32 0, .int .i64 0, .bool false, .slice none 0 0, .slice none 0 0, .slice none 0 0, .int .i64 0, .int .i64 0, .bool false] 75) = W := ⟨_, rfl⟩
 have Z2 := blk_nw hV2
 have N2 := Nd.al hV2
 have B2 := Bd.al hV2
 have R2 := Rd.al hV2
 have T2 := Td.al hV2
 have M2 : OwnsG V2 mb n D := by rw [← hV2]; exact Md.alloc _
 have b2 := bel_al bd hV2
 have ln : W3.heap.size < V1.heap.size := Nd.lt
 have lr : W1.heap.size < V1.heap.size := Rd.lt
 have lb : w.heap.size < V1.heap.size := Bd.lt
 have lt : tb < V1.heap.size := Td.lt
 have lm : mb < V1.heap.size := Md.lt
 have HV2 : Hid _ := hV2
 have G6 := Z2.set g.v
 have N6 := N2.other (show W3.heap.size ≠ V1.heap.size by omega) g.v
 have B6 := B2.other (show w.heap.size ≠ V1.heap.size by omega) g.v
 have R6 := R2.other (show W1.heap.size ≠ V1.heap.size by omega) g.v
 have T6 := T2.other (show tb ≠ V1.heap.size by omega) g.v
 have M6 : OwnsG (V2.setRow V1.heap.size g.v) mb n D := by
  obtain ⟨es, ck, h1, h2⟩ := M2
  exact ⟨es, ck, (setRow_heap_ne V2 V1.heap.size mb g.v (by omega)).trans h1, h2⟩
 have b6 := below_setRow b2 (show w.heap.size ≤ V1.heap.size by omega) g.v
 refine wpAnyH_ready (rs := [9]) (by kernel_rfl) (by simp) ?_
 refine AllReadyH.cons (o := { dst := some 7, op := Op.alloc 75, type := 0, pos := "frag.go:111", after := #[], guard := none }) rfl (fun K hK => ?_) AllReadyH.nil
 go_simp
 try rw [show V1.alloc _ = V2 from HV2.out]
 refine hK.out _ _ (by exact ⟨N2, T2.cell 6 (.map (some mb)) rfl, M2⟩) (fun hHeld => ?_)
 clear hK K
 try simp only [qpu]
 refine wpAnyH_ready (rs := [10]) (by kernel_rfl) (by simp) ?_
 refine AllReadyH.cons (o := { dst := none, op := Op.store 75 (.tmp 7) (.tmp 18), type := 0, pos := "frag.go:111", after := #[{ on := 9, ground := Ground.data }, { on := 7, ground := Ground.data }, { on := 0, ground := Ground.phase }, { on := 1, ground := Ground.phase }, { on := 2, ground := Ground.phase }, { on := 3, ground := Ground.phase }, { on := 4, ground := Ground.phase }, { on := 5, ground := Ground.phase }, { on := 6, ground := Ground.phase }, { on := 7, ground := Ground.phase }, { on := 8, ground := Ground.textOnly Departure.lateStores }, { on := 9, ground := Ground.phase }], guard := none }) rfl (fun K hK => ?_) AllReadyH.nil
 refine step_store_blk rfl _ _ _ rfl V1.heap.size g.v _ (by rfl) (by rfl) Z2 (by kernel_rfl) (by rfl) (by kernel_rfl) ?_
 refine hK.out _ _ (by exact ⟨N6, T6.cell 6 (.map (some mb)) rfl, M6⟩) (fun hHeld => ?_)
 clear hK K
 try simp only [qpu]
 refine qtk (i := 11) (oi := { dst := some 8, op := Op.assign (.tmp 19), type := 4, pos := "frag.go:111", after := #[{ on := 8, ground := Ground.data }, { on := 10, ground := Ground.chain }, { on := 0, ground := Ground.phase }, { on := 1, ground := Ground.phase }, { on := 2, ground := Ground.phase }, { on := 3, ground := Ground.phase }, { on := 4, ground := Ground.phase }, { on := 5, ground := Ground.phase }, { on := 6, ground := Ground.phase }, { on := 7, ground := Ground.phase }, { on := 8, ground := Ground.phase }, { on := 9, ground := Ground.phase }, { on := 10, ground := Ground.phase }], guard := none }) (v := (.bool (Maps.has D kl))) hHeld ?_ ?_
 ·intro w9 hSw
  try dsimp only at hSw
  go_simp
 try simp only [qpu]
 refine wpAnyH_done (by kernel_rfl) ?_ _
 refine NoPanic.normal ?_
 generalize V2.setRow V1.heap.size g.v = V6 at G6 N6 B6 R6 T6 M6 b6 ⊢
 clear hHeld Z2 N2 B2 R2 T2 M2 b2 hV2 HV2 Nd Bd Rd Td Md bd c6 N4
 have e1 := G6.cell 1 (.bool false) (by rw [← hd]; rfl)
 have KC : Hid _ := clashes_any g f sf sh sl df dh dl pr ho fg id of mo xa xc X da dc dat V6 (hg.below b6) hn h0 h1 hl
 rw [hcl] at KC
 go_wp2_with (first
  | (refine wpList_load_row rfl _ _ rfl V1.heap.size (by rfl) _ _ _ _ G6 Try.underlying75 rfl (by kernel_rfl) ?_)
  | (refine wpList_load_row rfl _ _ rfl w.heap.size (by rfl) _ _ _ _ B6 Try.underlying42 rfl (by kernel_rfl) ?_))
 refine Calls.mono KC.out ?_
 rintro e W7 ⟨rfl, j7⟩
 have G7 := G6.kept j7
 have N7 := N6.kept j7
 have R7 := R6.kept j7
 have T7 := T6.kept j7
 have B7 := B6.kept j7
 have M7 : OwnsG W7 mb n D := by
  obtain ⟨es, ck, h1, h2⟩ := M6
  exact ⟨es, ck, (j7.block mb (Array.getElem?_eq_some_iff.1 h1).1).trans h1, h2⟩
 have b7 := bel_tr b6 j7
 clear KC G6 N6 R6 T6 M6 b6 j7 e1 B6
 go_wp2_with fail
 have q1 := T7.cell 1 (.int .i64 most) rfl
 have q2 := T7.cell 2 (.int .i64 room) rfl
 have q5 := T7.cell 5 (.int .i64 by_) rfl
 have q6 := T7.cell 6 (.map (some mb)) rfl
 have qd := B7.cell 14 (.slice da dat.length dc) rfl
 have Mn : ∀ k, OwnsG (W7.drewN k) mb n D := ownsG_drewN M7
 have hlen := fun k => len_G (Mn k) 3
 clear hg hn hTB hMB
 generalize Maps.has D kl = hs at hfl ⊢
 generalize (Maps.size D : Int) = sz at hfl hlen ⊢
 have h3 : (hs = false ∧ most ≤ sz) ∨ (hs = false ∧ decide (most ≤ sz) = false ∧ room - by_ < dat.length) ∨ (hs = true ∧ room - by_ < dat.length) := by
  by_cases hz : most ≤ sz
  ·cases hs
   ·exact .inl ⟨rfl, hz⟩
   ·rcases hfl with h | h
    ·exact absurd h.1 (by simp)
    ·exact .inr (.inr ⟨rfl, h.1⟩)
  ·rcases hfl with h | h
   ·exact absurd h.2 hz
   ·cases hs
    ·exact .inr (.inl ⟨rfl, by simpa using hz, h.1⟩)
    ·exact .inr (.inr ⟨rfl, h.1⟩)
 clear hfl
 rcases h3 with ⟨rfl, hz⟩ | ⟨rfl, hz', hroom⟩ | ⟨rfl, hroom⟩
 all_goals
  go_quiet (fail)
  have R8 := blk_drewN R7 nq
  have b8 := below_drewN b7 nq
  clear hlen Mn q1 q2 q5 q6 qd T7 B7 M7 N7 G7 R7 b7
  generalize W7.drewN nq = W8 at R8 b8 ⊢
  have hbz : (Instr.build 42 #[]).run Try.prog W8 = .ok (.agg #[.int .i64 0, .int .i64 0, .int .u64 0, .int .u64 0, .int .i64 0, .int .u64 0, .int .u64 0, .int .i64 0, .int .i64 0, .bool false, .int .u32 0, .int .i64 0, .bool false, .slice none 0 0, .slice none 0 0]) W8 := by kernel_rfl
  have Rf := R8.set #[.int .i64 0, .int .i64 0, .int .u64 0, .int .u64 0, .int .i64 0, .int .u64 0, .int .u64 0, .int .i64 0, .int .i64 0, .bool false, .int .u32 0, .int .i64 0, .bool false, .slice none 0 0, .slice none 0 0]
  have bf := below_setRow b8 (Nat.le_of_lt n1) #[.int .i64 0, .int .i64 0, .int .u64 0, .int .u64 0, .int .i64 0, .int .u64 0, .int .u64 0, .int .i64 0, .int .i64 0, .bool false, .int .u32 0, .int .i64 0, .bool false, .slice none 0 0, .slice none 0 0]
  go_wp2_with (first
   | (refine wpList_buildF _ rfl _ _ rfl _ (by rfl) _ hbz ?_)
   | (refine wpList_store_row rfl _ _ _ rfl W1.heap.size #[.int .i64 0, .int .i64 0, .int .u64 0, .int .u64 0, .int .i64 0, .int .u64 0, .int .u64 0, .int .i64 0, .int .i64 0, .bool false, .int .u32 0, .int .i64 0, .bool false, .slice none 0 0, .slice none 0 0] (by rfl) (by rfl) _ _ R8 (by kernel_rfl) (by rfl) (by kernel_rfl) ?_))
  exact ret_cell_tmp (k := 4) (j := 5) Try.f34 (by kernel_rfl) Rf Try.underlying42 (by kernel_rfl) (by rfl) (by rfl) rfl ⟨rfl, bf⟩
/-- All of a datagram's memory is below B. -/
structure GmL (g : Gm) (B : Nat) : Prop where
 ps : ∀ p ∈ g.ps, ∀ x, p.da = some x → x.block < B
 xs : ∀ x, g.hd.xa = some x → x.block < B
theorem GmL.at_ {g : Gm} {B : Nat} (h : GmL g B) {C gg : Nat} (hC : B ≤ C) (hg : B ≤ gg) : GmB g C gg :=
 ⟨fun p hp x hx => ⟨Nat.lt_of_lt_of_le (h.ps p hp x hx) hC, by have := h.ps p hp x hx; omega⟩, fun x hx => ⟨Nat.lt_of_lt_of_le (h.xs x hx) hC, by have := h.xs x hx; omega⟩⟩
/-- A datagram's bytes and its list lie apart from F. -/
structure GmO (g : Gm) (F : Nat → Prop) : Prop where
 ps : ∀ p ∈ g.ps, Off F p.da
 xs : Off F g.hd.xa
theorem GmR.but {F : Nat → Prop} {w w' : World} {g : Gm} (h : GmR w g) (k : But F w w') (o : GmO g F) (hp : Off F g.pa) : GmR w' g :=
 ⟨ownsRow_block h.row (fun x hx => k.block x.block (ownsRow_lt h.row x hx) (hp x hx)), fun p hp => ⟨(h.each p hp).1.but k (o.ps p hp), (h.each p hp).2⟩, h.exts.but k o.xs, h.few⟩
/-- A datagram with another time. -/
abbrev Gm.at_ (g : Gm) (t : Int) : Gm := { g with ends := t }
theorem GmR.at_ {w : World} {g : Gm} (h : GmR w g) (t : Int) : GmR w (g.at_ t) := ⟨h.row, h.each, h.exts, h.few⟩
theorem GmN.at_ {g : Gm} (h : GmN g) (t : Int) : GmN (g.at_ t) := ⟨h.off, h.size, h.reach⟩
theorem GmA.at_ {g : Gm} (h : GmA g) (t : Int) : GmA (g.at_ t) := ⟨h.ps, h.xs⟩
theorem GmL.time {g : Gm} {B : Nat} (h : GmL g B) (t : Int) : GmL (g.at_ t) B := ⟨h.ps, h.xs⟩
/-- The pieces' row is no map. -/
theorem ownsRow_map {w : World} {B n : Nat} {t : TypeId} {s : Nat} {a : Option Addr} {c : Nat} {xs : List Value} (h : w.ownsRow B t s (.slice a n c) n xs) {mb k : Nat} {D : DataW Value} (hm : OwnsG w mb k D) : ∀ x, a = some x → x.block ≠ mb := fun x hx e => by
 obtain ⟨es, ck, hb, _⟩ := hm
 rcases h.2 with ⟨h3, _⟩ | ⟨g', cap, cur, h3, _, h5, _⟩
 ·simp only [Value.slice.injEq] at h3
  rw [h3.1] at hx; cases hx
 ·simp only [Value.slice.injEq] at h3
  rw [h3.1] at hx; cases hx
  subst e
  have := h5.symm.trans hb
  simp at this
theorem ownsG_but {F : Nat → Prop} {w w' : World} {mb n : Nat} {D : DataW Value} (h : OwnsG w mb n D) (k : But F w w') (hn : ¬ F mb) : OwnsG w' mb n D := by
 have hl := h.lt
 obtain ⟨es, ck, h1, h2⟩ := h
 exact ⟨es, ck, (k.block mb hl hn).trans h1, h2⟩
/-- The header behind a fragment at the place of. -/
def HdOf (B C : Nat) (h0 h : Hd) (f sf sh sl df dh dl pr ho of : Int) (X : List Int) : Prop :=
 (of = 0 ∧ ∃ ax cx, h = ⟨f, ⟨sf, sh, sl⟩, ⟨df, dh, dl⟩, pr, ho, ax, cx, X⟩ ∧ New B ax ∧ ∀ x, ax = some x → x.block < C) ∨ (¬ of = 0 ∧ h = h0)
theorem HdOf.mono {B C B' C' : Nat} {h0 h : Hd} {f sf sh sl df dh dl pr ho of : Int} {X : List Int} (k : HdOf B C h0 h f sf sh sl df dh dl pr ho of X) (hB : B' ≤ B) (hC : C ≤ C') : HdOf B' C' h0 h f sf sh sl df dh dl pr ho of X := by
 rcases k with ⟨h1, ax, cx, h2, h3, h4⟩ | k
 ·exact .inl ⟨h1, ax, cx, h2, fun x hx => Nat.le_trans hB (h3 x hx), fun x hx => Nat.lt_of_lt_of_le (h4 x hx) hC⟩
 ·exact .inr k
theorem New.mono {B B' : Nat} {a : Option Addr} (h : New B a) (hB : B' ≤ B) : New B' a := fun x hx => Nat.le_trans hB (h x hx)
theorem gmo_more {g : Gm} {t of : Int} {mo : Bool} {h : Hd} {gx cx c4 B C : Nat} {a4 : Option Addr} {dat X : List Int} {f sf sh sl df dh dl pr ho : Int} {F : Nat → Prop} (hO : GmO g F) (HH : HdOf B C g.hd h f sf sh sl df dh dl pr ho of X) (na : New B a4) (hF : ∀ k, B ≤ k → ¬ F k) :
  GmO ((g.at_ t).more h gx cx ⟨of, a4, c4, dat⟩ mo) F := by
 refine ⟨fun p hp x hx => ?_, fun x hx => ?_⟩
 ·rcases List.mem_append.1 hp with hp | hp
  ·exact hO.ps p hp x hx
  ·obtain rfl := List.mem_singleton.1 hp
   exact hF _ (na x hx)
 ·rcases HH with ⟨_, ax, cx, rfl, h3, _⟩ | ⟨_, rfl⟩
  ·exact hF _ (h3 x hx)
  ·exact hO.xs x hx
theorem GmO.or {g : Gm} {F : Nat → Prop} {B c : Nat} (h : GmO g F) (hL : GmL g B) (hc : B ≤ c) : GmO g (fun k => F k ∨ k = c) := by
 refine ⟨fun p hp x hx hF => ?_, fun x hx hF => ?_⟩
 ·rcases hF with hF | hF
  ·exact h.ps p hp x hx hF
  ·have := hL.ps p hp x hx
   omega
 ·rcases hF with hF | hF
  ·exact h.xs x hx hF
  ·have := hL.xs x hx
   omega
theorem add_any (gg : Nat) (g : Gm) (f sf sh sl df dh dl pr ho : Int) (fg : Bool) (id of : Int) (mo : Bool) (xa : Option Addr) (xc : Nat) (X : List Int) (da : Option Addr) (dc : Nat) (dat : List Int) (w : World)
  (hb : Blk w gg 75 g.v) (hg : GmR w g) (ha : GmA g) (hB : GmB g w.heap.size gg) (hN : GmN g) (hfew : g.ps.length + 1 ≤ 65535) (h0 : 0 ≤ of) (h1 : of ≤ 65528) (hl : dat.length ≤ 65535) (hdat : Row w da dat) (hnil : da = none → dc = 0) (hoff : ∀ x, da = some x → x.block ≠ gg) (hx : RowI w xa X) (hxn : xa = none → xc = 0) :
  Calls Try.prog 46 #[.pointer (some ⟨gg, 0, none⟩), .agg #[.int .i64 f, .int .i64 sf, .int .u64 sh, .int .u64 sl, .int .i64 df, .int .u64 dh, .int .u64 dl, .int .i64 pr, .int .i64 ho, .bool fg, .int .u32 id, .int .i64 of, .bool mo, .slice xa X.length xc, .slice da dat.length dc]] w fun e w' => e = .returned (.tuple #[]) ∧ ∃ h gx cx a4 c4,
   HdOf w.heap.size w'.heap.size g.hd h f sf sh sl df dh dl pr ho of X ∧ Blk w' gg 75 (g.more h gx cx ⟨of, a4, c4, dat⟩ mo).v ∧ GmR w' (g.more h gx cx ⟨of, a4, c4, dat⟩ mo) ∧ GmA (g.more h gx cx ⟨of, a4, c4, dat⟩ mo) ∧ New w.heap.size a4 ∧ ((∃ x, g.pa = some x ∧ x.block = gx) ∨ w.heap.size ≤ gx) ∧ But (addF gg g.pa) w w' := by
 by_cases hof : of = 0
 ·subst hof
  refine (add_first gg g f sf sh sl df dh dl pr ho fg id mo xa xc X da dc dat w hb hg ha hB hN hfew hl hdat hnil hoff hx hxn).mono ?_
  rintro e w' ⟨rfl, ax, cx0, gx, cx, a4, c4, r1, r2, r3, r4, r5, r6, r7⟩
  exact ⟨rfl, _, gx, cx, a4, c4, .inl ⟨rfl, ax, cx0, rfl, r5.1, r5.2⟩, r1, r2, r3, r4, r6, r7⟩
 ·refine (add_more gg g f sf sh sl df dh dl pr ho fg id of mo xa xc X da dc dat w hof hb hg ha hB hN hfew h0 h1 hl hdat hnil).mono ?_
  rintro e w' ⟨rfl, gx, cx, a4, c4, r1, r2, r3, r4, r6, r7⟩
  exact ⟨rfl, _, gx, cx, a4, c4, .inr ⟨hof, rfl⟩, r1, r2, r3, r4, r6, r7⟩
end Go.Proofs.Ytkeeidfpgfdldaa
