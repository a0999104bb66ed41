/- Texts joined: FgZ -/
import Derived.Test.YtkeeidfpgfdldaaFpz8
import Derived.BigQuiet
import Derived.BigRegion
namespace Go.Proofs.Ytkeeidfpgfdldaa
open Go.RowKit
set_option linter.unusedVariables false
set_option linter.unusedSimpArgs false
set_option maxRecDepth 100000 in
set_option maxHeartbeats 4000000 in
theorem take_whole (tb mb n : Nat) (most room life now by_ : Int) (D : DataW Value) (g : Gm) (kl : Lit) (NV : Array Value) (f sf sh sl df dh dl pr ho : Int) (fg : Bool) (id of : Int) (mo : Bool) (xa : Option Addr) (xc : Nat) (X : List Int) (da : Option Addr) (dc : Nat) (dat : List Int) (w : World) (hb : Blk w tb 64 #[.bool true, .int .i64 most, .int .i64 room, .int .i64 life, .int .i64 now, .int .i64 by_, .map (some mb)]) (hm : OwnsG w mb n D) (hk : keyOf Try.prog 72 (.agg NV) = some kl) (hv : D.atKey kl (.held (.agg zeroG.v)) = .held (.agg g.v)) (hNs : NV.size = 8) (hN1 : NV.all (·.oneCell') = true)
  (hN : ∀ W, Calls Try.prog 44 #[.agg #[.int .i64 f, .int .i64 sf, .int .u64 sh, .int .u64 sl, .int .i64 df, .int .u64 dh, .int .u64 dl, .int .i64 pr, .int .i64 ho, .bool fg, .int .u32 id, .int .i64 of, .bool mo, .slice xa X.length xc, .slice da dat.length dc]] W fun e w' => e = .returned (.agg NV) ∧ Below W.heap.size W w') (hd : g.dead = false) (hg : GmR w g) (hn : GmN g) (h0 : 0 ≤ of) (h1 : of ≤ 65528) (hl : dat.length ≤ 65535) (hcl : clashB g of mo dat.length = false) (hs0 : 0 ≤ by_) (hs2 : by_ ≤ 1048576) (hr0 : 0 ≤ room) (hr2 : room ≤ 1048576) (hne : tb ≠ mb) (t : Int) (ht : t = if Maps.has D kl then g.ends else now + life) (hw0 : 0 ≤ now) (hw1 : 0 ≤ life) (hw2 : now + life ≤ 4611686018427387904) (hroom : dat.length ≤ room - by_) (hmost : Maps.has D kl = false → (Maps.size D : Int) < most) (ha : GmA g) (hL : GmL g w.heap.size) (hO : GmO g (fun k => k = tb ∨ k = mb)) (hfew : g.ps.length + 1 ≤ 65535) (hdat : Row w da dat) (hnil : da = none → dc = 0) (hdl : ∀ x, da = some x → x.block < w.heap.size) (hx : RowI w xa X) (hxn : xa = none → xc = 0)
  (hwh : ((g.last || !mo) && (g.size + dat.length == (if g.reach < of + dat.length then of + dat.length else g.reach))) = true) (N : Nat) (hr : (if g.reach < of + dat.length then of + dat.length else g.reach) = (N : Int)) (hNb : N ≤ 65535) (hfit : ∀ p ∈ g.ps, 0 ≤ p.off ∧ p.off.toNat + p.data.length ≤ N) (hfo : of.toNat + dat.length ≤ N) (hs1 : g.size ≤ by_) :
  Calls Try.prog 34 #[.pointer (some ⟨tb, 0, none⟩), .agg #[.int .i64 f, .int .i64 sf, .int .u64 sh, .int .u64 sl, .int .i64 df, .int .u64 dh, .int .u64 dl, .int .i64 pr, .int .i64 ho, .bool fg, .int .u32 id, .int .i64 of, .bool mo, .slice xa X.length xc, .slice da dat.length dc]] w fun e w' => ∃ h a4 c4 gd, e = .returned (.tuple #[.agg #[.int .i64 h.fam, .int .i64 h.s.fam, .int .u64 h.s.hi, .int .u64 h.s.lo, .int .i64 h.d.fam, .int .u64 h.d.hi, .int .u64 h.d.lo, .int .i64 h.pr, .int .i64 h.ho, .bool false, .int .u32 0, .int .i64 0, .bool false, .slice h.xa h.X.length h.xc, .slice (some ⟨gd, 0, none⟩) N N], .int .i64 0]) ∧ HdOf w.heap.size w'.heap.size g.hd h f sf sh sl df dh dl pr ho of X ∧ Blk w' tb 64 #[.bool true, .int .i64 most, .int .i64 room, .int .i64 life, .int .i64 now, .int .i64 (by_ - g.size), .map (some mb)] ∧ OwnsG w' mb n (D.del kl) ∧ RowI w' h.xa h.X ∧ w'.heap[gd]? = some (.cells ((paste (List.replicate N 0) (g.ps ++ [⟨of, a4, c4, dat⟩])).map (Value.int .u8)).toArray 5 (0, 0)) ∧ w.heap.size ≤ gd ∧ But (fun k => (k = tb ∨ k = mb) ∨ ∃ x, g.pa = some x ∧ x.block = k) w w' := by
 obtain ⟨W1, hW1⟩ : ∃ W, w.alloc (.cells #[.int .i64 f, .int .i64 sf, .int .u64 sh, .int .u64 sl, .int .i64 df, .int .u64 dh, .int .u64 dl, .int .i64 pr, .int .i64 ho, .bool fg, .int .u32 id, .int .i64 of, .bool mo, .slice xa X.length xc, .slice da dat.length dc] 42) = W := ⟨_, rfl⟩
 obtain ⟨W2, hW2⟩ : ∃ W, W1.alloc (.cells #[.int .i64 0, .int .i64 0, .int .u64 0, .int .u64 0, .int .i64 0, .int .u64 0, .int .u64 0, .int .i64 0, .int .i64 0, .bool false, .int .u32 0, .int .i64 0, .bool false, .slice none 0 0, .slice none 0 0] 42) = W := ⟨_, rfl⟩
 have hTB := hb
 have hMB := hm
 have b1 := bel_nw hW1
 have b2 := bel_al b1 hW2
 have B1 := blk_nw hW1
 have B2 := B1.al hW2
 have R2 := blk_nw hW2
 have T2 := (hb.al hW1).al hW2
 have M2 : OwnsG W2 mb n D := by rw [← hW2, ← hW1]; exact (hm.alloc _).alloc _
 have n1 : w.heap.size < W1.heap.size := B1.lt
 have HV : Hid (D.atKey kl (.held (.agg zeroG.v)) = .held (.agg g.v)) := hv
 have HK : Hid (keyOf Try.prog 72 (.agg NV) = some kl) := hk
 have KN : Hid _ := hN
 have tlt : tb < w.heap.size := hb.lt
 have mlt : mb < w.heap.size := hm.lt
 clear b1 B1 hb hm hv hk hN
 go_enter Try.func34, Try.ntmps34
 go_wp2_with (refine wpList_load_row rfl _ _ rfl w.heap.size (by rfl) _ _ _ _ B2 Try.underlying42 rfl (by kernel_rfl) ?_)
 refine Calls.mono (KN.out _) ?_
 rintro e W3 ⟨rfl, k3⟩
 have B3 := B2.kept k3
 have R3 := R2.kept k3
 have T3 := T2.kept k3
 have M3 : OwnsG W3 mb n D := by
  obtain ⟨es, ck, h1, h2⟩ := M2
  exact ⟨es, ck, (k3.block mb (Array.getElem?_eq_some_iff.1 h1).1).trans h1, h2⟩
 have b3 := bel_tr b2 k3
 clear KN B2 R2 T2 M2 b2 k3
 obtain ⟨W4, hW4⟩ : ∃ W, W3.alloc (.cells #[.int .i64 0, .int .u64 0, .int .u64 0, .int .i64 0, .int .u64 0, .int .u64 0, .int .i64 0, .int .u32 0] 72) = W := ⟨_, rfl⟩
 have N4 := blk_nw hW4
 have B4 := B3.al hW4
 have R4 := R3.al hW4
 have T4 := T3.al hW4
 have M4 : OwnsG W4 mb n D := by rw [← hW4]; exact M3.alloc _
 have b4 := bel_al b3 hW4
 have l3 : W1.heap.size < W3.heap.size := R3.lt
 have t3 : tb < W3.heap.size := T3.lt
 have m3 : mb < W3.heap.size := M3.lt
 obtain ⟨W5, hW5⟩ : ∃ W, W4.setRow W3.heap.size NV = W := ⟨_, rfl⟩
 have N5 : Blk W5 W3.heap.size 72 NV := by rw [← hW5]; exact N4.set _
 have B5 : Blk W5 w.heap.size 42 #[.int .i64 f, .int .i64 sf, .int .u64 sh, .int .u64 sl, .int .i64 df, .int .u64 dh, .int .u64 dl, .int .i64 pr, .int .i64 ho, .bool fg, .int .u32 id, .int .i64 of, .bool mo, .slice xa X.length xc, .slice da dat.length dc] := by rw [← hW5]; exact B4.other (by omega) _
 have R5 : Blk W5 W1.heap.size 42 #[.int .i64 0, .int .i64 0, .int .u64 0, .int .u64 0, .int .i64 0, .int .u64 0, .int .u64 0, .int .i64 0, .int .i64 0, .bool false, .int .u32 0, .int .i64 0, .bool false, .slice none 0 0, .slice none 0 0] := by rw [← hW5]; exact R4.other (by omega) _
 have T5 : Blk W5 tb 64 #[.bool true, .int .i64 most, .int .i64 room, .int .i64 life, .int .i64 now, .int .i64 by_, .map (some mb)] := by rw [← hW5]; exact T4.other (by omega) _
 have M5 : OwnsG W5 mb n D := by
  rw [← hW5]
  obtain ⟨es, ck, h1, h2⟩ := M4
  exact ⟨es, ck, (setRow_heap_ne W4 W3.heap.size mb NV (by omega)).trans h1, h2⟩
 have b5 : Below w.heap.size w W5 := by rw [← hW5]; exact below_setRow b4 (by omega) _
 have HW5 : Hid _ := hW5
 clear hW5 B3 R3 T3 M3 B4 R4 T4 M4 b3 b4
 go_wp2_with (refine wpList_store_row rfl _ _ _ rfl W3.heap.size NV (by rfl) (by rfl) _ _ N4 (by rw [hNs]; kernel_rfl) (by simp [hNs]) hN1 ?_; rw [HW5.out])
 have Nd := N5.drew
 have Bd := B5.drew
 have Rd := R5.drew
 have Td := T5.drew
 have Md : OwnsG W5.drew mb n D := M5.drew
 have bd := b5.drew
 have c6 := Td.cell 6 (.map (some mb)) rfl
 refine wp_region_noPanic ?_
 refine wp_region_held_drew (S := fun w' => Blk w' W3.heap.size 72 NV ∧ w'.cell? ⟨tb, 6, none⟩ = some (.map (some mb)) ∧ OwnsG w' mb n D) (by kernel_rfl) (by exact ⟨Nd, c6, Md⟩) (fun hHeld => ?_)
 generalize W5.drew = V1 at Nd Bd Rd Td Md bd c6 hHeld ⊢
 clear N5 B5 R5 T5 M5 b5
 refine qtk (i := 0) (oi := { dst := some 12, op := Op.move (.tmp 0), type := 25, pos := "frag.go:111", after := #[], guard := none }) (v := (.pointer (some ⟨tb, 0, none⟩))) hHeld ?_ ?_
 ·intro w9 hSw
  try dsimp only at hSw
  go_simp
 try simp only [qpu]
 refine qtk (i := 1) (oi := { dst := some 13, op := Op.nilCheck (.tmp 12), type := 0, pos := "frag.go:111", after := #[{ on := 0, ground := Ground.data }], guard := none }) (v := (.pointer (some ⟨tb, 0, none⟩))) hHeld ?_ ?_
 ·intro w9 hSw
  try dsimp only at hSw
  go_simp
 try simp only [qpu]
 refine qtk (i := 2) (oi := { dst := some 14, op := Op.fieldAddr 64 (.tmp 13) 6, type := 0, pos := "frag.go:111", after := #[{ on := 1, ground := Ground.data }], guard := none }) (v := (.pointer (some ⟨tb, 6, none⟩))) hHeld ?_ ?_
 ·intro w9 hSw
  try dsimp only at hSw
  go_simp
 try simp only [qpu]
 refine qtk (i := 3) (oi := { dst := some 15, op := Op.load 62 (.tmp 14), type := 62, pos := "frag.go:111", after := #[{ on := 2, ground := Ground.data }], guard := none }) (v := (.map (some mb))) hHeld ?_ ?_
 ·intro w9 hSw
  try dsimp only at hSw
  have q9 := hSw.2.1
  go_simp
 try simp only [qpu]
 refine qty (i := 4) (oi := { dst := some 16, op := Op.load 72 (.tmp 6), type := 72, pos := "frag.go:111", after := #[], guard := none }) (v := (.agg NV)) (yieldsIf_blk rfl _ _ rfl W3.heap.size (by rfl) _ (fun _ hSw => hSw.1) Try.underlying72 (by rw [hNs]; kernel_rfl)) hHeld ?_
 try simp only [qpu]
 refine qty (i := 5) (oi := { dst := some 17, op := Op.lookup 62 (.tmp 15) (.tmp 16) true, type := 92, pos := "frag.go:111", after := #[{ on := 3, ground := Ground.data }, { on := 4, ground := Ground.data }], guard := none }) (v := (.tuple #[.agg g.v, .bool (Maps.has D kl)])) (yieldsIf_look2 rfl _ _ rfl mb n D _ kl (by rfl) (by rfl) (fun _ hSw => hSw.2.2) HK.out _ HV.out) hHeld ?_
 try simp only [qpu]
 refine qtk (i := 6) (oi := { dst := some 11, op := Op.move (.tmp 17), type := 92, pos := "frag.go:111", after := #[{ on := 5, ground := Ground.data }], guard := none }) (v := (.tuple #[.agg g.v, .bool (Maps.has D kl)])) hHeld ?_ ?_
 ·intro w9 hSw
  try dsimp only at hSw
  go_simp
 try simp only [qpu]
 refine qtk (i := 7) (oi := { dst := some 18, op := Op.extract (.tmp 11) 0, type := 75, pos := "frag.go:111", after := #[{ on := 6, ground := Ground.data }], guard := none }) (v := (.agg g.v)) hHeld ?_ ?_
 ·intro w9 hSw
  try dsimp only at hSw
  go_simp
 try simp only [qpu]
 refine qtk (i := 8) (oi := { dst := some 19, op := Op.extract (.tmp 11) 1, type := 4, pos := "frag.go:111", after := #[{ on := 6, ground := Ground.data }, { on := 10, ground := Ground.gcOnly Departure.lateStores }], guard := none }) (v := (.bool (Maps.has D kl))) hHeld ?_ ?_
 ·intro w9 hSw
  try dsimp only at hSw
  go_simp
 try simp only [qpu]
 obtain ⟨V2, hV2⟩ : ∃ W, V1.alloc (.cells #[.int .i64 0, .bool false, .int .i64 0, .int .i64 0, .int .u64 0, .int .u64 0, .int .i64 0, .int .u64 0, .int .u64 0, .int .i64 0, .int .i64 0, .bool false, .int .u32 0, .int .i64 0, .bool false, .slice none 0 0, .slice none 0 0, .slice none 0 0, .int .i64 0, .int .i64 0, .bool false] 75) = W := ⟨_, rfl⟩
 have Z2 := blk_nw hV2
 have N2 := Nd.al hV2
 have B2 := Bd.al hV2
 have R2 := Rd.al hV2
 have T2 := Td.al hV2
 have M2 : OwnsG V2 mb n D := by rw [← hV2]; exact Md.alloc _
 have b2 := bel_al bd hV2
 have ln : W3.heap.size < V1.heap.size := Nd.lt
 have lr : W1.heap.size < V1.heap.size := Rd.lt
 have lb : w.heap.size < V1.heap.size := Bd.lt
 have lt : tb < V1.heap.size := Td.lt
 have lm : mb < V1.heap.size := Md.lt
 have HV2 : Hid _ := hV2
 have G6 := Z2.set g.v
 have N6 := N2.other (show W3.heap.size ≠ V1.heap.size by omega) g.v
 have B6 := B2.other (show w.heap.size ≠ V1.heap.size by omega) g.v
 have R6 := R2.other (show W1.heap.size ≠ V1.heap.size by omega) g.v
 have T6 := T2.other (show tb ≠ V1.heap.size by omega) g.v
 have M6 : OwnsG (V2.setRow V1.heap.size g.v) mb n D := by
  obtain ⟨es, ck, h1, h2⟩ := M2
  exact ⟨es, ck, (setRow_heap_ne V2 V1.heap.size mb g.v (by omega)).trans h1, h2⟩
 have b6 := below_setRow b2 (show w.heap.size ≤ V1.heap.size by omega) g.v
 refine wpAnyH_ready (rs := [9]) (by kernel_rfl) (by simp) ?_
 refine AllReadyH.cons (o := { dst := some 7, op := Op.alloc 75, type := 0, pos := "frag.go:111", after := #[], guard := none }) rfl (fun K hK => ?_) AllReadyH.nil
 go_simp
 try rw [show V1.alloc _ = V2 from HV2.out]
 refine hK.out _ _ (by exact ⟨N2, T2.cell 6 (.map (some mb)) rfl, M2⟩) (fun hHeld => ?_)
 clear hK K
 try simp only [qpu]
 refine wpAnyH_ready (rs := [10]) (by kernel_rfl) (by simp) ?_
 refine AllReadyH.cons (o := { dst := none, op := Op.store 75 (.tmp 7) (.tmp 18), type := 0, pos := "frag.go:111", after := #[{ on := 9, ground := Ground.data }, { on := 7, ground := Ground.data }, { on := 0, ground := Ground.phase }, { on := 1, ground := Ground.phase }, { on := 2, ground := Ground.phase }, { on := 3, ground := Ground.phase }, { on := 4, ground := Ground.phase }, { on := 5, ground := Ground.phase }, { on := 6, ground := Ground.phase }, { on := 7, ground := Ground.phase }, { on := 8, ground := Ground.textOnly Departure.lateStores }, { on := 9, ground := Ground.phase }], guard := none }) rfl (fun K hK => ?_) AllReadyH.nil
 refine step_store_blk rfl _ _ _ rfl V1.heap.size g.v _ (by rfl) (by rfl) Z2 (by kernel_rfl) (by rfl) (by kernel_rfl) ?_
 refine hK.out _ _ (by exact ⟨N6, T6.cell 6 (.map (some mb)) rfl, M6⟩) (fun hHeld => ?_)
 clear hK K
 try simp only [qpu]
 refine qtk (i := 11) (oi := { dst := some 8, op := Op.assign (.tmp 19), type := 4, pos := "frag.go:111", after := #[{ on := 8, ground := Ground.data }, { on := 10, ground := Ground.chain }, { on := 0, ground := Ground.phase }, { on := 1, ground := Ground.phase }, { on := 2, ground := Ground.phase }, { on := 3, ground := Ground.phase }, { on := 4, ground := Ground.phase }, { on := 5, ground := Ground.phase }, { on := 6, ground := Ground.phase }, { on := 7, ground := Ground.phase }, { on := 8, ground := Ground.phase }, { on := 9, ground := Ground.phase }, { on := 10, ground := Ground.phase }], guard := none }) (v := (.bool (Maps.has D kl))) hHeld ?_ ?_
 ·intro w9 hSw
  try dsimp only at hSw
  go_simp
 try simp only [qpu]
 refine wpAnyH_done (by kernel_rfl) ?_ _
 refine NoPanic.normal ?_
 generalize V2.setRow V1.heap.size g.v = V6 at G6 N6 B6 R6 T6 M6 b6 ⊢
 clear hHeld Z2 N2 B2 R2 T2 M2 b2 hV2 HV2 Nd Bd Rd Td Md bd c6 N4
 have e1 := G6.cell 1 (.bool false) (by rw [← hd]; rfl)
 have KC : Hid _ := clashes_any g f sf sh sl df dh dl pr ho fg id of mo xa xc X da dc dat V6 (hg.below b6) hn h0 h1 hl
 rw [hcl] at KC
 go_wp2_with (first
  | (refine wpList_load_row rfl _ _ rfl V1.heap.size (by rfl) _ _ _ _ G6 Try.underlying75 rfl (by kernel_rfl) ?_)
  | (refine wpList_load_row rfl _ _ rfl w.heap.size (by rfl) _ _ _ _ B6 Try.underlying42 rfl (by kernel_rfl) ?_))
 refine Calls.mono KC.out ?_
 rintro e W7 ⟨rfl, j7⟩
 have G7 := G6.kept j7
 have N7 := N6.kept j7
 have R7 := R6.kept j7
 have T7 := T6.kept j7
 have B7 := B6.kept j7
 have M7 : OwnsG W7 mb n D := by
  obtain ⟨es, ck, h1, h2⟩ := M6
  exact ⟨es, ck, (j7.block mb (Array.getElem?_eq_some_iff.1 h1).1).trans h1, h2⟩
 have b7 := bel_tr b6 j7
 clear KC G6 N6 R6 T6 M6 b6 j7 e1 B6
 go_wp2_with fail
 have q1 := T7.cell 1 (.int .i64 most) rfl
 have q2 := T7.cell 2 (.int .i64 room) rfl
 have q5 := T7.cell 5 (.int .i64 by_) rfl
 have q6 := T7.cell 6 (.map (some mb)) rfl
 have qd := B7.cell 14 (.slice da dat.length dc) rfl
 have Mn : ∀ k, OwnsG (W7.drewN k) mb n D := ownsG_drewN M7
 have hlen := fun k => len_G (Mn k) 3
 generalize Maps.has D kl = hs at ht hmost ⊢
 generalize (Maps.size D : Int) = sz at hmost hlen ⊢
 have h3 : (hs = false ∧ decide (most ≤ sz) = false ∧ t = now + life) ∨ (hs = true ∧ t = g.ends) := by
  cases hs
  ·have := hmost rfl
   exact .inl ⟨rfl, by simp; omega, by simpa using ht⟩
  ·exact .inr ⟨rfl, by simpa using ht⟩
 have hpt := ownsRow_ne hg.row hTB (by decide)
 have hpm := ownsRow_map hg.row hMB
 have hpl := ownsRow_lt hg.row
 clear ht hmost hTB hMB
 rcases h3 with ⟨rfl, hz, ht⟩ | ⟨rfl, ht⟩
 all_goals
  go_quiet (fail)
  have R8 := blk_drewN R7 nq
  have T8 := blk_drewN T7 nq
  have B8 := blk_drewN B7 nq
  have G8 := blk_drewN G7 nq
  have N8 := blk_drewN N7 nq
  have M8 := ownsG_drewN M7 nq
  have b8 := below_drewN b7 nq
  clear hlen Mn q1 q2 q5 q6 qd T7 B7 M7 N7 G7 R7 b7
  generalize W7.drewN nq = W8 at R8 T8 B8 G8 N8 M8 b8 ⊢
 case' inl =>
  have q3 := T8.drew.cell 3 (.int .i64 life) rfl
  have q4 := T8.drew.cell 4 (.int .i64 now) rfl
  have q0 := G8.drew.cell 0 (.int .i64 g.ends) rfl
  have z0 := G8.drew.frozen 0
  go_wp2_with fail
  go_region
  have f9 : But (fun k => k = V1.heap.size) W8 ((W8.setCell ⟨V1.heap.size, 0, none⟩ (.int .i64 (now + life))).drew) := ((But.refl (fun k => k = V1.heap.size) W8).setCell V1.heap.size 0 (.inl rfl) _).below (Below.refl _ _).drew
  have G9 : Blk ((W8.setCell ⟨V1.heap.size, 0, none⟩ (.int .i64 (now + life))).drew) V1.heap.size 75 (g.at_ t).v := by rw [ht]; exact (G8.put 0 _).drew
  have R9 := R8.but f9 (by omega)
  have T9 := T8.but f9 (by omega)
  have B9 := B8.but f9 (by omega)
  have N9 := N8.but f9 (by omega)
  have M9 := ownsG_but M8 f9 (by omega)
  have b9 := b8.trans (f9.to_below (B := w.heap.size) b8.size (by intro k hk; omega))
  clear q3 q4 q0 z0 f9 R8 T8 B8 N8 M8 b8 G8
  generalize (W8.setCell ⟨V1.heap.size, 0, none⟩ (.int .i64 (now + life))).drew = W9 at R9 T9 B9 N9 M9 b9 G9 ⊢
  clear hz ht
 case' inr =>
  have G9 : Blk W8 V1.heap.size 75 (g.at_ t).v := by rw [ht]; exact G8
  have R9 := R8
  have T9 := T8
  have B9 := B8
  have N9 := N8
  have M9 := M8
  have b9 := b8
  clear R8 T8 B8 N8 M8 b8 G8 ht
  obtain ⟨W9, hW9⟩ : ∃ W, W = W8 := ⟨_, rfl⟩
  subst hW9
 all_goals
  have l9 : V1.heap.size < W9.heap.size := G9.lt
  have KA : Hid _ := add_any V1.heap.size (g.at_ t) f sf sh sl df dh dl pr ho fg id of mo xa xc X da dc dat W9 G9 ((hg.below b9).at_ t) (ha.at_ t) ((hL.time t).at_ (by omega) (by omega)) (hn.at_ t) hfew h0 h1 hl (hdat.below b9) hnil (fun x hx => by have := hdl x hx; show x.block ≠ V1.heap.size; omega) (hx.below b9) hxn
  have hF : ∀ k, k < V1.heap.size → w.heap.size ≤ k → ¬ addF V1.heap.size (g.at_ t).pa k := by
   intro k hk hk' h
   rcases h with h | ⟨x, hx, h⟩
   ·omega
   ·have := hpl x hx
    omega
  have hFt : ¬ addF V1.heap.size (g.at_ t).pa tb := by
   rintro (h | ⟨x, hx, h⟩)
   ·omega
   ·exact hpt x hx h
  have hFm : ¬ addF V1.heap.size (g.at_ t).pa mb := by
   rintro (h | ⟨x, hx, h⟩)
   ·omega
   ·exact hpm x hx h
  go_wp2_with (refine wpList_load_row rfl _ _ rfl w.heap.size (by rfl) _ _ _ _ B9 Try.underlying42 rfl (by kernel_rfl) ?_)
  refine Calls.mono KA.out ?_
  rintro e W10 ⟨rfl, h, gx, cx, a4, c4, HH, Ga, ga, aa, na, ata, fa⟩
  have Ra := R9.but fa (hF _ (by omega) (by omega))
  have Ta := T9.but fa hFt
  have Ba := B9.but fa (hF _ (by omega) (by omega))
  have Na := N9.but fa (hF _ (by omega) (by omega))
  have Ma := ownsG_but M9 fa hFm
  have ba : But (fun k => ∃ x, g.pa = some x ∧ x.block = k) w W10 := (But.of_below b9 _).trans fa (by
   rintro k hk (h | h)
   ·omega
   ·exact h)
  clear KA hF hFt hFm G9 R9 T9 B9 N9 M9 b9 fa
  have KW : Hid (Calls Try.prog 47 #[.agg ((g.at_ t).more h gx cx ⟨of, a4, c4, dat⟩ mo).v] W10 fun e w' => e = .returned (.bool true) ∧ Below W10.heap.size W10 w') := by
   have k := fwhole_any ((g.at_ t).more h gx cx ⟨of, a4, c4, dat⟩ mo) W10
   rw [show (((g.at_ t).more h gx cx ⟨of, a4, c4, dat⟩ mo).last && (((g.at_ t).more h gx cx ⟨of, a4, c4, dat⟩ mo).size == ((g.at_ t).more h gx cx ⟨of, a4, c4, dat⟩ mo).reach)) = true from hwh] at k
   exact k
  obtain ⟨g', hg'⟩ : ∃ g', ((g.at_ t).more h gx cx ⟨of, a4, c4, dat⟩ mo) = g' := ⟨_, rfl⟩
  rw [hg'] at Ga ga aa KW
  have hS' : g'.size = g.size + dat.length := by rw [← hg']
  go_wp2_with (refine wpList_load_row rfl _ _ rfl V1.heap.size (by rfl) _ _ _ _ Ga Try.underlying75 rfl (by kernel_rfl) ?_)
  refine Calls.mono KW.out ?_
  rintro e W11 ⟨rfl, j11⟩
  have s11 : W10.heap.size ≤ W11.heap.size := j11.size
  have Ga := Ga.kept j11
  have Na := Na.kept j11
  have Ra := Ra.kept j11
  have Ta := Ta.kept j11
  have Ba := Ba.kept j11
  have Ma := ownsG_but Ma (But.of_below j11 (fun _ => False)) (fun x => x)
  have ga := ga.below j11
  have ba := ba.below j11
  clear KW j11
 all_goals
  have KD : Hid _ := drop_any tb mb n most room life now by_ D g kl NV hNs W11 Ta Ma HK.out HV.out hn.size.1 hs1 hs2 hne
  go_wp2_with (refine wpList_load_row rfl _ _ rfl W3.heap.size (by rfl) _ _ _ _ Na Try.underlying72 rfl (by rw [hNs]; kernel_rfl) ?_)
  refine Calls.mono KD.out ?_
  rintro e W12 ⟨rfl, T12, M12, f12⟩
  have G12 := Ga.but f12 (by omega)
  have R12 := Ra.but f12 (by omega)
  have lw : W1.heap.size < W12.heap.size := R12.lt
  have op : Off (fun k => k = tb ∨ k = mb) g'.pa := by
   rw [← hg']
   intro x hx hF
   cases hx
   have hF : gx = tb ∨ gx = mb := hF
   rcases ata with ⟨y, hy, e⟩ | h
   ·have h1 := hpt y hy
    have h2 := hpm y hy
    omega
   ·omega
  have g12 : GmR W12 g' := by
   refine ga.but f12 ?_ op
   rw [← hg']
   exact gmo_more hO HH na (by intro k hk hF; omega)
  have KG : Hid _ := fdata_any g' N W12 g12 (by rw [← hg']; exact hr) hNb (by
   rw [← hg']
   intro p hp
   rcases List.mem_append.1 hp with hp | hp
   ·exact hfit p hp
   ·obtain rfl := List.mem_singleton.1 hp
    exact ⟨h0, hfo⟩)
  clear KD Ga Na Ra Ta Ma Ba ga
  go_wp2_with (refine wpList_load_row rfl _ _ rfl V1.heap.size (by rfl) _ _ _ _ G12 Try.underlying75 rfl (by kernel_rfl) ?_)
  refine Calls.mono KG.out ?_
  rintro e W13 ⟨gd, rfl, hD, ld, j13⟩
  have R13 := R12.kept j13
  have T13 := T12.kept j13
  have M13 := ownsG_but M12 (But.of_below j13 (fun _ => False)) (fun x => x)
  have x13 := g12.exts.below j13
  have f13 : But (fun k => k = tb ∨ k = mb) W11 W13 := f12.below j13
  clear KG G12 R12 T12 M12 g12 f12 j13
  have Rf := R13.set #[.int .i64 g'.hd.fam, .int .i64 g'.hd.s.fam, .int .u64 g'.hd.s.hi, .int .u64 g'.hd.s.lo, .int .i64 g'.hd.d.fam, .int .u64 g'.hd.d.hi, .int .u64 g'.hd.d.lo, .int .i64 g'.hd.pr, .int .i64 g'.hd.ho, .bool false, .int .u32 0, .int .i64 0, .bool false, .slice g'.hd.xa g'.hd.X.length g'.hd.xc, .slice (some ⟨gd, 0, none⟩) N N]
  have Tf := T13.other (show tb ≠ W1.heap.size by omega) #[.int .i64 g'.hd.fam, .int .i64 g'.hd.s.fam, .int .u64 g'.hd.s.hi, .int .u64 g'.hd.s.lo, .int .i64 g'.hd.d.fam, .int .u64 g'.hd.d.hi, .int .u64 g'.hd.d.lo, .int .i64 g'.hd.pr, .int .i64 g'.hd.ho, .bool false, .int .u32 0, .int .i64 0, .bool false, .slice g'.hd.xa g'.hd.X.length g'.hd.xc, .slice (some ⟨gd, 0, none⟩) N N]
  have e14 := (But.refl (fun k => k = W1.heap.size) W13).setRow W1.heap.size (.inl rfl) #[.int .i64 g'.hd.fam, .int .i64 g'.hd.s.fam, .int .u64 g'.hd.s.hi, .int .u64 g'.hd.s.lo, .int .i64 g'.hd.d.fam, .int .u64 g'.hd.d.hi, .int .u64 g'.hd.d.lo, .int .i64 g'.hd.pr, .int .i64 g'.hd.ho, .bool false, .int .u32 0, .int .i64 0, .bool false, .slice g'.hd.xa g'.hd.X.length g'.hd.xc, .slice (some ⟨gd, 0, none⟩) N N]
  have Mf := ownsG_but M13 e14 (by omega)
  have Df := (setRow_heap_ne W13 W1.heap.size gd #[.int .i64 g'.hd.fam, .int .i64 g'.hd.s.fam, .int .u64 g'.hd.s.hi, .int .u64 g'.hd.s.lo, .int .i64 g'.hd.d.fam, .int .u64 g'.hd.d.hi, .int .u64 g'.hd.d.lo, .int .i64 g'.hd.pr, .int .i64 g'.hd.ho, .bool false, .int .u32 0, .int .i64 0, .bool false, .slice g'.hd.xa g'.hd.X.length g'.hd.xc, .slice (some ⟨gd, 0, none⟩) N N] (by omega)).trans hD
  have ff : But (fun k => (k = tb ∨ k = mb) ∨ k = W1.heap.size) W11 (W13.setRow W1.heap.size #[.int .i64 g'.hd.fam, .int .i64 g'.hd.s.fam, .int .u64 g'.hd.s.hi, .int .u64 g'.hd.s.lo, .int .i64 g'.hd.d.fam, .int .u64 g'.hd.d.hi, .int .u64 g'.hd.d.lo, .int .i64 g'.hd.pr, .int .i64 g'.hd.ho, .bool false, .int .u32 0, .int .i64 0, .bool false, .slice g'.hd.xa g'.hd.X.length g'.hd.xc, .slice (some ⟨gd, 0, none⟩) N N]) := ((But.refl (fun k => (k = tb ∨ k = mb) ∨ k = W1.heap.size) W11).trans f13 (fun _ _ h => .inl h)).setRow W1.heap.size (.inl (.inr rfl)) _
  have xf : RowI (W13.setRow W1.heap.size #[.int .i64 g'.hd.fam, .int .i64 g'.hd.s.fam, .int .u64 g'.hd.s.hi, .int .u64 g'.hd.s.lo, .int .i64 g'.hd.d.fam, .int .u64 g'.hd.d.hi, .int .u64 g'.hd.d.lo, .int .i64 g'.hd.pr, .int .i64 g'.hd.ho, .bool false, .int .u32 0, .int .i64 0, .bool false, .slice g'.hd.xa g'.hd.X.length g'.hd.xc, .slice (some ⟨gd, 0, none⟩) N N]) g'.hd.xa g'.hd.X := by
   refine x13.but e14 ?_
   have o := (gmo_more (t := t) (mo := mo) (gx := gx) (cx := cx) (c4 := c4) (dat := dat) (hO.or hL (show w.heap.size ≤ W1.heap.size by omega)) HH na (by intro k hk hF; omega)).xs
   rw [hg'] at o
   intro x hx hF
   exact o x hx (.inr hF)
  have bf : But (fun k => (k = tb ∨ k = mb) ∨ ∃ x, g.pa = some x ∧ x.block = k) w (W13.setRow W1.heap.size #[.int .i64 g'.hd.fam, .int .i64 g'.hd.s.fam, .int .u64 g'.hd.s.hi, .int .u64 g'.hd.s.lo, .int .i64 g'.hd.d.fam, .int .u64 g'.hd.d.hi, .int .u64 g'.hd.d.lo, .int .i64 g'.hd.pr, .int .i64 g'.hd.ho, .bool false, .int .u32 0, .int .i64 0, .bool false, .slice g'.hd.xa g'.hd.X.length g'.hd.xc, .slice (some ⟨gd, 0, none⟩) N N]) := by
   refine ((But.refl (fun k => (k = tb ∨ k = mb) ∨ ∃ x, g.pa = some x ∧ x.block = k) w).trans ba (fun _ _ h => .inr h)).trans ff ?_
   rintro k hk (h | h)
   ·exact .inl h
   ·omega
  have hf := HH.mono (B' := w.heap.size) (C' := (W13.setRow W1.heap.size #[.int .i64 g'.hd.fam, .int .i64 g'.hd.s.fam, .int .u64 g'.hd.s.hi, .int .u64 g'.hd.s.lo, .int .i64 g'.hd.d.fam, .int .u64 g'.hd.d.hi, .int .u64 g'.hd.d.lo, .int .i64 g'.hd.pr, .int .i64 g'.hd.ho, .bool false, .int .u32 0, .int .i64 0, .bool false, .slice g'.hd.xa g'.hd.X.length g'.hd.xc, .slice (some ⟨gd, 0, none⟩) N N]).heap.size) (by omega) (Nat.le_trans s11 ff.size)
  have lf : w.heap.size ≤ gd := by omega
  have eh : Hid (g'.hd = h) := by show g'.hd = h; rw [← hg']
  have ep : Hid (g'.ps = g.ps ++ [⟨of, a4, c4, dat⟩]) := by show g'.ps = _; rw [← hg']
  clear HH na ata f13 ff hg' hS' x13 aa hD e14 op hO
  go_wp2_with (refine wpList_store_row rfl _ _ _ rfl W1.heap.size #[.int .i64 g'.hd.fam, .int .i64 g'.hd.s.fam, .int .u64 g'.hd.s.hi, .int .u64 g'.hd.s.lo, .int .i64 g'.hd.d.fam, .int .u64 g'.hd.d.hi, .int .u64 g'.hd.d.lo, .int .i64 g'.hd.pr, .int .i64 g'.hd.ho, .bool false, .int .u32 0, .int .i64 0, .bool false, .slice g'.hd.xa g'.hd.X.length g'.hd.xc, .slice (some ⟨gd, 0, none⟩) N N] (by rfl) (by rfl) _ _ R13 (by kernel_rfl) (by rfl) (by kernel_rfl) ?_)
  refine ret_cell_tmp (k := 4) (j := 5) Try.f34 (by kernel_rfl) Rf Try.underlying42 (by kernel_rfl) (by rfl) (by rfl) rfl ?_
  have ep := ep.out
  have eh := eh.out
  subst eh
  rw [ep] at Df
  exact ⟨g'.hd, a4, c4, gd, rfl, hf, Tf, Mf, xf, Df, lf, bf⟩
end Go.Proofs.Ytkeeidfpgfdldaa
