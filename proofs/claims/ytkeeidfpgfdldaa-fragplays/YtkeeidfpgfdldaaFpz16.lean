/- Texts joined: FgV -/
import Derived.Test.YtkeeidfpgfdldaaFpz8
namespace Go.Proofs.Ytkeeidfpgfdldaa
open Go.RowKit
set_option linter.unusedVariables false
set_option linter.unusedSimpArgs false
set_option maxRecDepth 100000 in
set_option maxHeartbeats 4000000 in
theorem take_over (tb mb n : Nat) (most room life now by_ : Int) (D : DataW Value) (g : Gm) (kl : Lit) (NV : Array Value) (f sf sh sl df dh dl pr ho : Int) (fg : Bool) (id of : Int) (mo : Bool) (xa : Option Addr) (xc : Nat) (X : List Int) (da : Option Addr) (dc : Nat) (dat : List Int) (w : World) (hb : Blk w tb 64 #[.bool true, .int .i64 most, .int .i64 room, .int .i64 life, .int .i64 now, .int .i64 by_, .map (some mb)]) (hm : OwnsG w mb n D) (hk : keyOf Try.prog 72 (.agg NV) = some kl) (hv : D.atKey kl (.held (.agg zeroG.v)) = .held (.agg g.v)) (hNs : NV.size = 8) (hN1 : NV.all (·.oneCell') = true)
  (hN : ∀ W, Calls Try.prog 44 #[.agg #[.int .i64 f, .int .i64 sf, .int .u64 sh, .int .u64 sl, .int .i64 df, .int .u64 dh, .int .u64 dl, .int .i64 pr, .int .i64 ho, .bool fg, .int .u32 id, .int .i64 of, .bool mo, .slice xa X.length xc, .slice da dat.length dc]] W fun e w' => e = .returned (.agg NV) ∧ Below W.heap.size W w') (hd : g.dead = false) (hg : GmR w g) (hn : GmN g) (h0 : 0 ≤ of) (h1 : of ≤ 65528) (hl : dat.length ≤ 65535) (hcl : clashB g of mo dat.length = true) (hs1 : g.size ≤ by_) (hs2 : by_ ≤ 1048576) (hne : tb ≠ mb) (hnl : n < maxLen) :
  Calls Try.prog 34 #[.pointer (some ⟨tb, 0, none⟩), .agg #[.int .i64 f, .int .i64 sf, .int .u64 sh, .int .u64 sl, .int .i64 df, .int .u64 dh, .int .u64 dl, .int .i64 pr, .int .i64 ho, .bool fg, .int .u32 id, .int .i64 of, .bool mo, .slice xa X.length xc, .slice da dat.length dc]] w fun e w' => e = .returned (.tuple #[.agg #[.int .i64 0, .int .i64 0, .int .u64 0, .int .u64 0, .int .i64 0, .int .u64 0, .int .u64 0, .int .i64 0, .int .i64 0, .bool false, .int .u32 0, .int .i64 0, .bool false, .slice none 0 0, .slice none 0 0], .int .i64 11]) ∧ Blk w' tb 64 #[.bool true, .int .i64 most, .int .i64 room, .int .i64 life, .int .i64 now, .int .i64 (by_ - g.size), .map (some mb)] ∧ OwnsG w' mb (n + 1) ((D.del kl).put kl (.held (.agg #[.int .i64 g.ends, .bool true, .int .i64 0, .int .i64 0, .int .u64 0, .int .u64 0, .int .i64 0, .int .u64 0, .int .u64 0, .int .i64 0, .int .i64 0, .bool false, .int .u32 0, .int .i64 0, .bool false, .slice none 0 0, .slice none 0 0, .slice none 0 0, .int .i64 0, .int .i64 0, .bool false]))) ∧ But (fun k => k = tb ∨ k = mb) w w' := by
 obtain ⟨W1, hW1⟩ : ∃ W, w.alloc (.cells #[.int .i64 f, .int .i64 sf, .int .u64 sh, .int .u64 sl, .int .i64 df, .int .u64 dh, .int .u64 dl, .int .i64 pr, .int .i64 ho, .bool fg, .int .u32 id, .int .i64 of, .bool mo, .slice xa X.length xc, .slice da dat.length dc] 42) = W := ⟨_, rfl⟩
 obtain ⟨W2, hW2⟩ : ∃ W, W1.alloc (.cells #[.int .i64 0, .int .i64 0, .int .u64 0, .int .u64 0, .int .i64 0, .int .u64 0, .int .u64 0, .int .i64 0, .int .i64 0, .bool false, .int .u32 0, .int .i64 0, .bool false, .slice none 0 0, .slice none 0 0] 42) = W := ⟨_, rfl⟩
 have b1 := bel_nw hW1
 have b2 := bel_al b1 hW2
 have B1 := blk_nw hW1
 have B2 := B1.al hW2
 have R2 := blk_nw hW2
 have T2 := (hb.al hW1).al hW2
 have M2 : OwnsG W2 mb n D := by rw [← hW2, ← hW1]; exact (hm.alloc _).alloc _
 have n1 : w.heap.size < W1.heap.size := B1.lt
 have HV : Hid (D.atKey kl (.held (.agg zeroG.v)) = .held (.agg g.v)) := hv
 have HK : Hid (keyOf Try.prog 72 (.agg NV) = some kl) := hk
 have KN : Hid _ := hN
 have tlt : tb < w.heap.size := hb.lt
 have mlt : mb < w.heap.size := hm.lt
 clear b1 B1 hb hm hv hk hN
 go_enter Try.func34, Try.ntmps34
 go_wp2_with (refine wpList_load_row rfl _ _ rfl w.heap.size (by rfl) _ _ _ _ B2 Try.underlying42 rfl (by kernel_rfl) ?_)
 refine Calls.mono (KN.out _) ?_
 rintro e W3 ⟨rfl, k3⟩
 have B3 := B2.kept k3
 have R3 := R2.kept k3
 have T3 := T2.kept k3
 have M3 : OwnsG W3 mb n D := by
  obtain ⟨es, ck, h1, h2⟩ := M2
  exact ⟨es, ck, (k3.block mb (Array.getElem?_eq_some_iff.1 h1).1).trans h1, h2⟩
 have b3 := bel_tr b2 k3
 clear KN B2 R2 T2 M2 b2 k3
 obtain ⟨W4, hW4⟩ : ∃ W, W3.alloc (.cells #[.int .i64 0, .int .u64 0, .int .u64 0, .int .i64 0, .int .u64 0, .int .u64 0, .int .i64 0, .int .u32 0] 72) = W := ⟨_, rfl⟩
 have N4 := blk_nw hW4
 have B4 := B3.al hW4
 have R4 := R3.al hW4
 have T4 := T3.al hW4
 have M4 : OwnsG W4 mb n D := by rw [← hW4]; exact M3.alloc _
 have b4 := bel_al b3 hW4
 have l3 : W1.heap.size < W3.heap.size := R3.lt
 have t3 : tb < W3.heap.size := T3.lt
 have m3 : mb < W3.heap.size := M3.lt
 obtain ⟨W5, hW5⟩ : ∃ W, W4.setRow W3.heap.size NV = W := ⟨_, rfl⟩
 have N5 : Blk W5 W3.heap.size 72 NV := by rw [← hW5]; exact N4.set _
 have B5 : Blk W5 w.heap.size 42 #[.int .i64 f, .int .i64 sf, .int .u64 sh, .int .u64 sl, .int .i64 df, .int .u64 dh, .int .u64 dl, .int .i64 pr, .int .i64 ho, .bool fg, .int .u32 id, .int .i64 of, .bool mo, .slice xa X.length xc, .slice da dat.length dc] := by rw [← hW5]; exact B4.other (by omega) _
 have R5 : Blk W5 W1.heap.size 42 #[.int .i64 0, .int .i64 0, .int .u64 0, .int .u64 0, .int .i64 0, .int .u64 0, .int .u64 0, .int .i64 0, .int .i64 0, .bool false, .int .u32 0, .int .i64 0, .bool false, .slice none 0 0, .slice none 0 0] := by rw [← hW5]; exact R4.other (by omega) _
 have T5 : Blk W5 tb 64 #[.bool true, .int .i64 most, .int .i64 room, .int .i64 life, .int .i64 now, .int .i64 by_, .map (some mb)] := by rw [← hW5]; exact T4.other (by omega) _
 have M5 : OwnsG W5 mb n D := by
  rw [← hW5]
  obtain ⟨es, ck, h1, h2⟩ := M4
  exact ⟨es, ck, (setRow_heap_ne W4 W3.heap.size mb NV (by omega)).trans h1, h2⟩
 have b5 : Below w.heap.size w W5 := by rw [← hW5]; exact below_setRow b4 (by omega) _
 have HW5 : Hid _ := hW5
 clear hW5 B3 R3 T3 M3 B4 R4 T4 M4 b3 b4
 go_wp2_with (refine wpList_store_row rfl _ _ _ rfl W3.heap.size NV (by rfl) (by rfl) _ _ N4 (by rw [hNs]; kernel_rfl) (by simp [hNs]) hN1 ?_; rw [HW5.out])
 have Nd := N5.drew
 have Bd := B5.drew
 have Rd := R5.drew
 have Td := T5.drew
 have Md : OwnsG W5.drew mb n D := M5.drew
 have bd := b5.drew
 have c6 := Td.cell 6 (.map (some mb)) rfl
 refine wp_region_noPanic ?_
 refine wp_region_held_drew (S := fun w' => Blk w' W3.heap.size 72 NV ∧ w'.cell? ⟨tb, 6, none⟩ = some (.map (some mb)) ∧ OwnsG w' mb n D) (by kernel_rfl) (by exact ⟨Nd, c6, Md⟩) (fun hHeld => ?_)
 generalize W5.drew = V1 at Nd Bd Rd Td Md bd c6 hHeld ⊢
 clear N5 B5 R5 T5 M5 b5
 refine qtk (i := 0) (oi := { dst := some 12, op := Op.move (.tmp 0), type := 25, pos := "frag.go:111", after := #[], guard := none }) (v := (.pointer (some ⟨tb, 0, none⟩))) hHeld ?_ ?_
 ·intro w9 hSw
  try dsimp only at hSw
  go_simp
 try simp only [qpu]
 refine qtk (i := 1) (oi := { dst := some 13, op := Op.nilCheck (.tmp 12), type := 0, pos := "frag.go:111", after := #[{ on := 0, ground := Ground.data }], guard := none }) (v := (.pointer (some ⟨tb, 0, none⟩))) hHeld ?_ ?_
 ·intro w9 hSw
  try dsimp only at hSw
  go_simp
 try simp only [qpu]
 refine qtk (i := 2) (oi := { dst := some 14, op := Op.fieldAddr 64 (.tmp 13) 6, type := 0, pos := "frag.go:111", after := #[{ on := 1, ground := Ground.data }], guard := none }) (v := (.pointer (some ⟨tb, 6, none⟩))) hHeld ?_ ?_
 ·intro w9 hSw
  try dsimp only at hSw
  go_simp
 try simp only [qpu]
 refine qtk (i := 3) (oi := { dst := some 15, op := Op.load 62 (.tmp 14), type := 62, pos := "frag.go:111", after := #[{ on := 2, ground := Ground.data }], guard := none }) (v := (.map (some mb))) hHeld ?_ ?_
 ·intro w9 hSw
  try dsimp only at hSw
  have q9 := hSw.2.1
  go_simp
 try simp only [qpu]
 refine qty (i := 4) (oi := { dst := some 16, op := Op.load 72 (.tmp 6), type := 72, pos := "frag.go:111", after := #[], guard := none }) (v := (.agg NV)) (yieldsIf_blk rfl _ _ rfl W3.heap.size (by rfl) _ (fun _ hSw => hSw.1) Try.underlying72 (by rw [hNs]; kernel_rfl)) hHeld ?_
 try simp only [qpu]
 refine qty (i := 5) (oi := { dst := some 17, op := Op.lookup 62 (.tmp 15) (.tmp 16) true, type := 92, pos := "frag.go:111", after := #[{ on := 3, ground := Ground.data }, { on := 4, ground := Ground.data }], guard := none }) (v := (.tuple #[.agg g.v, .bool (Maps.has D kl)])) (yieldsIf_look2 rfl _ _ rfl mb n D _ kl (by rfl) (by rfl) (fun _ hSw => hSw.2.2) HK.out _ HV.out) hHeld ?_
 try simp only [qpu]
 refine qtk (i := 6) (oi := { dst := some 11, op := Op.move (.tmp 17), type := 92, pos := "frag.go:111", after := #[{ on := 5, ground := Ground.data }], guard := none }) (v := (.tuple #[.agg g.v, .bool (Maps.has D kl)])) hHeld ?_ ?_
 ·intro w9 hSw
  try dsimp only at hSw
  go_simp
 try simp only [qpu]
 refine qtk (i := 7) (oi := { dst := some 18, op := Op.extract (.tmp 11) 0, type := 75, pos := "frag.go:111", after := #[{ on := 6, ground := Ground.data }], guard := none }) (v := (.agg g.v)) hHeld ?_ ?_
 ·intro w9 hSw
  try dsimp only at hSw
  go_simp
 try simp only [qpu]
 refine qtk (i := 8) (oi := { dst := some 19, op := Op.extract (.tmp 11) 1, type := 4, pos := "frag.go:111", after := #[{ on := 6, ground := Ground.data }, { on := 10, ground := Ground.gcOnly Departure.lateStores }], guard := none }) (v := (.bool (Maps.has D kl))) hHeld ?_ ?_
 ·intro w9 hSw
  try dsimp only at hSw
  go_simp
 try simp only [qpu]
 obtain ⟨V2, hV2⟩ : ∃ W, V1.alloc (.cells #[.int .i64 0, .bool false, .int .i64 0, .int .i64 0, .int .u64 0, .int .u64 0, .int .i64 0, .int .u64 0, .int .u64 0, .int .i64 0, .int .i64 0, .bool false, .int .u32 0, .int .i64 0, .bool false, .slice none 0 0, .slice none 0 0, .slice none 0 0, .int .i64 0, .int .i64 0, .bool false] 75) = W := ⟨_, rfl⟩
 have Z2 := blk_nw hV2
 have N2 := Nd.al hV2
 have B2 := Bd.al hV2
 have R2 := Rd.al hV2
 have T2 := Td.al hV2
 have M2 : OwnsG V2 mb n D := by rw [← hV2]; exact Md.alloc _
 have b2 := bel_al bd hV2
 have ln : W3.heap.size < V1.heap.size := Nd.lt
 have lr : W1.heap.size < V1.heap.size := Rd.lt
 have lb : w.heap.size < V1.heap.size := Bd.lt
 have lt : tb < V1.heap.size := Td.lt
 have lm : mb < V1.heap.size := Md.lt
 have HV2 : Hid _ := hV2
 have G6 := Z2.set g.v
 have N6 := N2.other (show W3.heap.size ≠ V1.heap.size by omega) g.v
 have B6 := B2.other (show w.heap.size ≠ V1.heap.size by omega) g.v
 have R6 := R2.other (show W1.heap.size ≠ V1.heap.size by omega) g.v
 have T6 := T2.other (show tb ≠ V1.heap.size by omega) g.v
 have M6 : OwnsG (V2.setRow V1.heap.size g.v) mb n D := by
  obtain ⟨es, ck, h1, h2⟩ := M2
  exact ⟨es, ck, (setRow_heap_ne V2 V1.heap.size mb g.v (by omega)).trans h1, h2⟩
 have b6 := below_setRow b2 (show w.heap.size ≤ V1.heap.size by omega) g.v
 refine wpAnyH_ready (rs := [9]) (by kernel_rfl) (by simp) ?_
 refine AllReadyH.cons (o := { dst := some 7, op := Op.alloc 75, type := 0, pos := "frag.go:111", after := #[], guard := none }) rfl (fun K hK => ?_) AllReadyH.nil
 go_simp
 try rw [show V1.alloc _ = V2 from HV2.out]
 refine hK.out _ _ (by exact ⟨N2, T2.cell 6 (.map (some mb)) rfl, M2⟩) (fun hHeld => ?_)
 clear hK K
 try simp only [qpu]
 refine wpAnyH_ready (rs := [10]) (by kernel_rfl) (by simp) ?_
 refine AllReadyH.cons (o := { dst := none, op := Op.store 75 (.tmp 7) (.tmp 18), type := 0, pos := "frag.go:111", after := #[{ on := 9, ground := Ground.data }, { on := 7, ground := Ground.data }, { on := 0, ground := Ground.phase }, { on := 1, ground := Ground.phase }, { on := 2, ground := Ground.phase }, { on := 3, ground := Ground.phase }, { on := 4, ground := Ground.phase }, { on := 5, ground := Ground.phase }, { on := 6, ground := Ground.phase }, { on := 7, ground := Ground.phase }, { on := 8, ground := Ground.textOnly Departure.lateStores }, { on := 9, ground := Ground.phase }], guard := none }) rfl (fun K hK => ?_) AllReadyH.nil
 refine step_store_blk rfl _ _ _ rfl V1.heap.size g.v _ (by rfl) (by rfl) Z2 (by kernel_rfl) (by rfl) (by kernel_rfl) ?_
 refine hK.out _ _ (by exact ⟨N6, T6.cell 6 (.map (some mb)) rfl, M6⟩) (fun hHeld => ?_)
 clear hK K
 try simp only [qpu]
 refine qtk (i := 11) (oi := { dst := some 8, op := Op.assign (.tmp 19), type := 4, pos := "frag.go:111", after := #[{ on := 8, ground := Ground.data }, { on := 10, ground := Ground.chain }, { on := 0, ground := Ground.phase }, { on := 1, ground := Ground.phase }, { on := 2, ground := Ground.phase }, { on := 3, ground := Ground.phase }, { on := 4, ground := Ground.phase }, { on := 5, ground := Ground.phase }, { on := 6, ground := Ground.phase }, { on := 7, ground := Ground.phase }, { on := 8, ground := Ground.phase }, { on := 9, ground := Ground.phase }, { on := 10, ground := Ground.phase }], guard := none }) (v := (.bool (Maps.has D kl))) hHeld ?_ ?_
 ·intro w9 hSw
  try dsimp only at hSw
  go_simp
 try simp only [qpu]
 refine wpAnyH_done (by kernel_rfl) ?_ _
 refine NoPanic.normal ?_
 generalize V2.setRow V1.heap.size g.v = V6 at G6 N6 B6 R6 T6 M6 b6 ⊢
 clear hHeld Z2 N2 B2 R2 T2 M2 b2 hV2 HV2 Nd Bd Rd Td Md bd c6 N4
 have e1 := G6.cell 1 (.bool false) (by rw [← hd]; rfl)
 have hgs := hn.size.1
 have KC : Hid _ := clashes_any g f sf sh sl df dh dl pr ho fg id of mo xa xc X da dc dat V6 (hg.below b6) hn h0 h1 hl
 rw [hcl] at KC
 clear hg hn
 go_wp2_with (first
  | (refine wpList_load_row rfl _ _ rfl V1.heap.size (by rfl) _ _ _ _ G6 Try.underlying75 rfl (by kernel_rfl) ?_)
  | (refine wpList_load_row rfl _ _ rfl w.heap.size (by rfl) _ _ _ _ B6 Try.underlying42 rfl (by kernel_rfl) ?_))
 refine Calls.mono KC.out ?_
 rintro e W7 ⟨rfl, j7⟩
 have G7 := G6.kept j7
 have N7 := N6.kept j7
 have R7 := R6.kept j7
 have T7 := T6.kept j7
 have M7 : OwnsG W7 mb n D := by
  obtain ⟨es, ck, h1, h2⟩ := M6
  exact ⟨es, ck, (j7.block mb (Array.getElem?_eq_some_iff.1 h1).1).trans h1, h2⟩
 have b7 := bel_tr b6 j7
 have KD : Hid _ := drop_any tb mb n most room life now by_ D g kl NV hNs W7 T7 M7 HK.out HV.out hgs hs1 hs2 hne
 clear KC G6 N6 R6 T6 M6 b6 j7 e1 B6
 go_wp2_with (refine wpList_load_row rfl _ _ rfl W3.heap.size (by rfl) _ _ _ _ N7 Try.underlying72 rfl (by rw [hNs]; kernel_rfl) ?_)
 refine Calls.mono KD.out ?_
 rintro e W8 ⟨rfl, T8, M8, f8⟩
 have G8 := G7.but f8 (by omega)
 have N8 := N7.but f8 (by omega)
 have R8 := R7.but f8 (by omega)
 have b8 : But (fun k => k = tb ∨ k = mb) w W8 := (But.of_below b7 _).trans f8 (fun _ _ h => h)
 clear KD G7 N7 R7 T7 M7 b7 f8
 go_wp2_with fail
 have Gd := G8.drew
 have Nd := N8.drew
 have Rd := R8.drew
 have Td := T8.drew
 have Md : OwnsG W8.drew mb n (D.del kl) := M8.drew
 have bd := b8.below (Below.refl _ W8).drew
 have c6 := Td.cell 6 (.map (some mb)) rfl
 refine wp_region_noPanic ?_
 refine wp_region_held_drew (S := fun w' => Blk w' W3.heap.size 72 NV ∧ w'.cell? ⟨tb, 6, none⟩ = some (.map (some mb)) ∧ Blk w' V1.heap.size 75 g.v) (by kernel_rfl) (by exact ⟨Nd, c6, Gd⟩) (fun hHeld => ?_)
 generalize W8.drew = V8 at Nd Gd Rd Td Md bd c6 hHeld ⊢
 clear G8 N8 R8 T8 M8 b8
 refine qtk (i := 0) (oi := { dst := some 31, op := Op.move (.tmp 0), type := 25, pos := "frag.go:117", after := #[], guard := none }) (v := (.pointer (some ⟨tb, 0, none⟩))) hHeld ?_ ?_
 ·intro w9 hSw
  try dsimp only at hSw
  go_simp
 try simp only [qpu]
 refine qtk (i := 1) (oi := { dst := some 32, op := Op.nilCheck (.tmp 31), type := 0, pos := "frag.go:117", after := #[{ on := 0, ground := Ground.data }], guard := none }) (v := (.pointer (some ⟨tb, 0, none⟩))) hHeld ?_ ?_
 ·intro w9 hSw
  try dsimp only at hSw
  go_simp
 try simp only [qpu]
 refine qtk (i := 2) (oi := { dst := some 33, op := Op.fieldAddr 64 (.tmp 32) 6, type := 0, pos := "frag.go:117", after := #[{ on := 1, ground := Ground.data }], guard := none }) (v := (.pointer (some ⟨tb, 6, none⟩))) hHeld ?_ ?_
 ·intro w9 hSw
  try dsimp only at hSw
  go_simp
 try simp only [qpu]
 refine qtk (i := 3) (oi := { dst := some 34, op := Op.load 62 (.tmp 33), type := 62, pos := "frag.go:117", after := #[{ on := 2, ground := Ground.data }], guard := none }) (v := (.map (some mb))) hHeld ?_ ?_
 ·intro w9 hSw
  try dsimp only at hSw
  have q9 := hSw.2.1
  go_simp
 try simp only [qpu]
 refine qty (i := 4) (oi := { dst := some 35, op := Op.load 72 (.tmp 6), type := 72, pos := "frag.go:117", after := #[], guard := none }) (v := (.agg NV)) (yieldsIf_blk rfl _ _ rfl W3.heap.size (by rfl) _ (fun _ hSw => hSw.1) Try.underlying72 (by rw [hNs]; kernel_rfl)) hHeld ?_
 try simp only [qpu]
 refine qtk (i := 5) (oi := { dst := some 36, op := Op.fieldAddr 75 (.tmp 7) 0, type := 0, pos := "frag.go:117", after := #[], guard := none }) (v := (.pointer (some ⟨V1.heap.size, 0, none⟩))) hHeld ?_ ?_
 ·intro w9 hSw
  try dsimp only at hSw
  go_simp
 try simp only [qpu]
 refine qtk (i := 6) (oi := { dst := some 37, op := Op.load 3 (.tmp 36), type := 3, pos := "frag.go:117", after := #[{ on := 5, ground := Ground.data }], guard := none }) (v := (.int .i64 g.ends)) hHeld ?_ ?_
 ·intro w9 hSw
  try dsimp only at hSw
  have q9 := hSw.2.2.cell 0 (.int .i64 g.ends) rfl
  go_simp
 try simp only [qpu]
 refine qty (i := 7) (oi := { dst := some 38, op := Op.build 75 #[(0, .tmp 37), (1, .const (.bool true))], type := 75, pos := "frag.go:117", after := #[{ on := 6, ground := Ground.data }], guard := none }) (v := (.agg #[.int .i64 g.ends, .bool true, .int .i64 0, .int .i64 0, .int .u64 0, .int .u64 0, .int .i64 0, .int .u64 0, .int .u64 0, .int .i64 0, .int .i64 0, .bool false, .int .u32 0, .int .i64 0, .bool false, .slice none 0 0, .slice none 0 0, .slice none 0 0, .int .i64 0, .int .i64 0, .bool false])) (yieldsIf_build rfl _ _ rfl #[(0, .int .i64 g.ends), (1, .bool true)] (by kernel_rfl) _ (fun w9 => by kernel_rfl)) hHeld ?_
 try simp only [qpu]
 refine wpAnyH_ready (rs := [8]) (by kernel_rfl) (by simp) ?_
 refine AllReadyH.cons (o := { dst := none, op := Op.mapUpdate 62 (.tmp 34) (.tmp 35) (.tmp 38), type := 0, pos := "frag.go:117", after := #[{ on := 3, ground := Ground.data }, { on := 4, ground := Ground.data }, { on := 7, ground := Ground.data }, { on := 0, ground := Ground.phase }, { on := 1, ground := Ground.phase }, { on := 2, ground := Ground.phase }, { on := 3, ground := Ground.phase }, { on := 4, ground := Ground.phase }, { on := 5, ground := Ground.phase }, { on := 6, ground := Ground.phase }, { on := 7, ground := Ground.phase }], guard := none }) rfl (fun K hK => ?_) AllReadyH.nil
 refine step_update rfl _ _ _ rfl mb n _ _ _ kl (by rfl) (by rfl) (by rfl) Md hnl HK.out ?_
 intro W9 M9 u9
 have T9 := Td.turned u9 hne
 have N9 := Nd.turned u9 (by omega)
 have G9 := Gd.turned u9 (by omega)
 have R9 := Rd.turned u9 (by omega)
 have b9 := bd.turned u9 (.inl (.inr rfl))
 refine hK.out _ _ (by exact ⟨N9, T9.cell 6 (.map (some mb)) rfl, G9⟩) (fun hHeld => ?_)
 clear hK K hHeld
 try simp only [qpu]
 refine wpAnyH_done (by kernel_rfl) ?_ _
 refine NoPanic.normal ?_
 have hbz : (Instr.build 42 #[]).run Try.prog W9 = .ok (.agg #[.int .i64 0, .int .i64 0, .int .u64 0, .int .u64 0, .int .i64 0, .int .u64 0, .int .u64 0, .int .i64 0, .int .i64 0, .bool false, .int .u32 0, .int .i64 0, .bool false, .slice none 0 0, .slice none 0 0]) W9 := by kernel_rfl
 have Rf := R9.set #[.int .i64 0, .int .i64 0, .int .u64 0, .int .u64 0, .int .i64 0, .int .u64 0, .int .u64 0, .int .i64 0, .int .i64 0, .bool false, .int .u32 0, .int .i64 0, .bool false, .slice none 0 0, .slice none 0 0]
 have Tf := T9.other (show tb ≠ W1.heap.size by omega) #[.int .i64 0, .int .i64 0, .int .u64 0, .int .u64 0, .int .i64 0, .int .u64 0, .int .u64 0, .int .i64 0, .int .i64 0, .bool false, .int .u32 0, .int .i64 0, .bool false, .slice none 0 0, .slice none 0 0]
 have Mf : OwnsG (W9.setRow W1.heap.size #[.int .i64 0, .int .i64 0, .int .u64 0, .int .u64 0, .int .i64 0, .int .u64 0, .int .u64 0, .int .i64 0, .int .i64 0, .bool false, .int .u32 0, .int .i64 0, .bool false, .slice none 0 0, .slice none 0 0]) mb (n + 1) ((D.del kl).put kl (.held (.agg #[.int .i64 g.ends, .bool true, .int .i64 0, .int .i64 0, .int .u64 0, .int .u64 0, .int .i64 0, .int .u64 0, .int .u64 0, .int .i64 0, .int .i64 0, .bool false, .int .u32 0, .int .i64 0, .bool false, .slice none 0 0, .slice none 0 0, .slice none 0 0, .int .i64 0, .int .i64 0, .bool false]))) := by
  obtain ⟨es, ck, h1, h2⟩ := M9
  exact ⟨es, ck, (setRow_heap_ne W9 W1.heap.size mb #[.int .i64 0, .int .i64 0, .int .u64 0, .int .u64 0, .int .i64 0, .int .u64 0, .int .u64 0, .int .i64 0, .int .i64 0, .bool false, .int .u32 0, .int .i64 0, .bool false, .slice none 0 0, .slice none 0 0] (by omega)).trans h1, h2⟩
 have bf := b9.setRow W1.heap.size (.inr (by omega)) #[.int .i64 0, .int .i64 0, .int .u64 0, .int .u64 0, .int .i64 0, .int .u64 0, .int .u64 0, .int .i64 0, .int .i64 0, .bool false, .int .u32 0, .int .i64 0, .bool false, .slice none 0 0, .slice none 0 0]
 go_wp2_with (first
  | (refine wpList_buildF _ rfl _ _ rfl _ (by rfl) _ hbz ?_)
  | (refine wpList_store_row rfl _ _ _ rfl W1.heap.size #[.int .i64 0, .int .i64 0, .int .u64 0, .int .u64 0, .int .i64 0, .int .u64 0, .int .u64 0, .int .i64 0, .int .i64 0, .bool false, .int .u32 0, .int .i64 0, .bool false, .slice none 0 0, .slice none 0 0] (by rfl) (by rfl) _ _ R9 (by kernel_rfl) (by rfl) (by kernel_rfl) ?_))
 exact ret_cell_tmp (k := 4) (j := 5) Try.f34 (by kernel_rfl) Rf Try.underlying42 (by kernel_rfl) (by rfl) (by rfl) rfl ⟨rfl, Tf, Mf, bf⟩
end Go.Proofs.Ytkeeidfpgfdldaa
