/- Texts joined: FgK -/
import Derived.Test.YtkeeidfpgfdldaaFpz3
namespace Go.Proofs.Ytkeeidfpgfdldaa
abbrev fpz4o6 : Oper := { dst := some 35, op := Op.buildSlice 73 1 #[(0, .tmp 34)], type := 73, pos := "gram.go:44", after := #[{ on := 10, ground := Ground.data }], guard := none }
abbrev fpz4o7 : Oper := { dst := some 28, op := Op.load 73 (.tmp 27), type := 73, pos := "gram.go:44", after := #[{ on := 3, ground := Ground.data }], guard := none }
abbrev fpz4o8 : Oper := { dst := some 33, op := Op.call { callee := Callee.value (.func 32), args := #[.tmp 32], argTypes := #[40] }, type := 40, pos := "gram.go:44", after := #[{ on := 8, ground := Ground.data }], guard := none }
abbrev fpz4o11 : Oper := { dst := some 34, op := Op.build 117 #[(0, .tmp 30), (1, .tmp 33)], type := 117, pos := "gram.go:44", after := #[{ on := 6, ground := Ground.data }, { on := 9, ground := Ground.data }], guard := none }
end Go.Proofs.Ytkeeidfpgfdldaa
namespace Go.Proofs.Ytkeeidfpgfdldaa
open Go.RowKit
set_option linter.unusedVariables false
set_option linter.unusedSimpArgs false
set_option maxRecDepth 100000 in
set_option maxHeartbeats 4000000 in
theorem add_n (gg n : Nat) (cs : Array Value) (pa : Option Addr) (pc : Nat) (xs : List Value) (sz rch : Int) (lst : Bool) (f sf sh sl df dh dl pr ho : Int) (fg : Bool) (id of : Int) (mo : Bool) (xa : Option Addr) (xc : Nat) (X : List Int) (da : Option Addr) (dc : Nat) (dat : List Int) (w : World) (hof : ¬ of = 0)
  (hb : Blk w gg 75 cs) (hz : cs.size = 21) (c17 : cs[17]? = some (.slice pa n pc)) (c18 : cs[18]? = some (.int .i64 sz)) (c19 : cs[19]? = some (.int .i64 rch)) (c20 : cs[20]? = some (.bool lst))
  (hrow : w.ownsRow 0 117 2 (.slice pa n pc) n xs) (hn : n ≤ 65535) (hs0 : 0 ≤ sz) (hs1 : sz ≤ 1048576) (hr0 : 0 ≤ rch) (hr1 : rch ≤ 65535) (h0 : 0 ≤ of) (h1 : of ≤ 65528) (hl : dat.length ≤ 65535) (hdat : Row w da dat) (hnil : da = none → dc = 0) :
  Calls Try.prog 46 #[.pointer (some ⟨gg, 0, none⟩), .agg #[.int .i64 f, .int .i64 sf, .int .u64 sh, .int .u64 sl, .int .i64 df, .int .u64 dh, .int .u64 dl, .int .i64 pr, .int .i64 ho, .bool fg, .int .u32 id, .int .i64 of, .bool mo, .slice xa X.length xc, .slice da dat.length dc]] w fun e w' => e = .returned (.tuple #[]) ∧ ∃ gx cx a4 c4, Aft w w' gg pa n xs of dat ((((cs.setIfInBounds 17 (.slice (some ⟨gx, 0, none⟩) (n + 1) cx)).setIfInBounds 18 (.int .i64 (sz + dat.length))).setIfInBounds 19 (.int .i64 (if rch < of + dat.length then of + dat.length else rch))).setIfInBounds 20 (.bool (lst || !mo))) gx cx a4 c4 := by
 obtain ⟨SZ, hSZ⟩ : ∃ x, sz + (dat.length : Int) = x := ⟨_, rfl⟩
 have wS : IntKind.i64.wrap SZ = SZ := wraps_i64 _ (by omega) (by omega)
 obtain ⟨EN, hEN⟩ : ∃ x, of + (dat.length : Int) = x := ⟨_, rfl⟩
 have wE : IntKind.i64.wrap EN = EN := wraps_i64 _ (by omega) (by omega)
 obtain ⟨RC, hRC⟩ : ∃ x, (if rch < EN then EN else rch) = x := ⟨_, rfl⟩
 have gne : gg ≠ w.heap.size := fun h => by have := hb.lt; omega
 have pne : Hid (∀ x, pa = some x → x.block ≠ w.heap.size) := fun x hx h => by have := ownsRow_lt hrow x hx; omega
 obtain ⟨i0, hi, hz0, hz1, hz2⟩ := info_parts info_pieceF
 obtain ⟨W1, hW1⟩ : ∃ W, w.alloc (.cells #[.int .i64 f, .int .i64 sf, .int .u64 sh, .int .u64 sl, .int .i64 df, .int .u64 dh, .int .u64 dl, .int .i64 pr, .int .i64 ho, .bool fg, .int .u32 id, .int .i64 of, .bool mo, .slice xa X.length xc, .slice da dat.length dc] 42) = W := ⟨_, rfl⟩
 have k1 := bel_nw hW1
 have Bp := blk_nw hW1
 have Bg := hb.al hW1
 have e17 := Bg.cell 17 _ c17
 have d11 := Bp.cell 11 (.int .i64 of) rfl
 have hrow1 := ownsRow_below hrow k1
 have hdat1 := hdat.below k1
 have bW : But (addF gg pa) w W1 := But.of_below k1 _
 clear hrow hdat hb
 go_enter Try.func46, Try.ntmps46
 go_wp2_with fail
 have Gd := Bg.drew
 have Pd := Bp.drew
 have ed : W1.drew.cell? ⟨gg, 17, none⟩ = some (.slice pa n pc) := e17
 have rd := hrow1
 have dd : Row W1.drew da dat := hdat1.drewN 1
 have bd : But (addF gg pa) w W1.drew := bW.below (Below.refl _ _).drew
 refine wp_region_noPanic ?_
 refine wp_region_held_drew (S := fun w' => Blk w' w.heap.size 42 #[.int .i64 f, .int .i64 sf, .int .u64 sh, .int .u64 sl, .int .i64 df, .int .u64 dh, .int .u64 dl, .int .i64 pr, .int .i64 ho, .bool fg, .int .u32 id, .int .i64 of, .bool mo, .slice xa X.length xc, .slice da dat.length dc]) (by kernel_rfl) (by exact Pd) (fun hHeld => ?_)
 obtain ⟨Wd, hWd⟩ : ∃ W, W1.drew = W := ⟨_, rfl⟩
 have rd : Wd.ownsRow 0 117 2 (.slice pa n pc) n xs := by rw [← hWd]; exact hrow1
 rw [hWd] at Gd Pd ed dd bd hHeld ⊢
 clear hWd Bg Bp e17 hrow1 hdat1 bW
 refine qtk (i := 0) (oi := { dst := some 24, op := Op.move (.tmp 0), type := 120, pos := "gram.go:44", after := #[], guard := none }) (v := (.pointer (some ⟨gg, 0, none⟩))) hHeld ?_ ?_
 ·intro w9 hSw
  try dsimp only at hSw
  go_simp
 try simp only [qpu]
 refine qtk (i := 1) (oi := { dst := some 25, op := Op.move (.tmp 0), type := 120, pos := "gram.go:44", after := #[], guard := none }) (v := (.pointer (some ⟨gg, 0, none⟩))) hHeld ?_ ?_
 ·intro w9 hSw
  try dsimp only at hSw
  go_simp
 try simp only [qpu]
 refine qtk (i := 2) (oi := { dst := some 26, op := Op.nilCheck (.tmp 25), type := 0, pos := "gram.go:44", after := #[{ on := 1, ground := Ground.data }], guard := none }) (v := (.pointer (some ⟨gg, 0, none⟩))) hHeld ?_ ?_
 ·intro w9 hSw
  try dsimp only at hSw
  go_simp
 try simp only [qpu]
 refine qtk (i := 3) (oi := { dst := some 27, op := Op.fieldAddr 75 (.tmp 26) 3, type := 0, pos := "gram.go:44", after := #[{ on := 2, ground := Ground.data }], guard := none }) (v := (.pointer (some ⟨gg, 17, none⟩))) hHeld ?_ ?_
 ·intro w9 hSw
  try dsimp only at hSw
  go_simp
 try simp only [qpu]
 refine qtk (i := 5) (oi := { dst := some 29, op := Op.fieldAddr 42 (.tmp 3) 7, type := 0, pos := "gram.go:44", after := #[], guard := none }) (v := (.pointer (some ⟨w.heap.size, 11, none⟩))) hHeld ?_ ?_
 ·intro w9 hSw
  try dsimp only at hSw
  go_simp
 try simp only [qpu]
 refine qtk (i := 6) (oi := { dst := some 30, op := Op.load 3 (.tmp 29), type := 3, pos := "gram.go:44", after := #[{ on := 5, ground := Ground.data }], guard := none }) (v := (.int .i64 of)) hHeld ?_ ?_
 ·intro w9 hSw
  try dsimp only at hSw
  have q9 := hSw.cell 11 (.int .i64 of) rfl
  go_simp
 try simp only [qpu]
 refine qtk (i := 7) (oi := { dst := some 31, op := Op.fieldAddr 42 (.tmp 3) 10, type := 0, pos := "gram.go:44", after := #[], guard := none }) (v := (.pointer (some ⟨w.heap.size, 14, none⟩))) hHeld ?_ ?_
 ·intro w9 hSw
  try dsimp only at hSw
  go_simp
 try simp only [qpu]
 refine qtk (i := 8) (oi := { dst := some 32, op := Op.load 40 (.tmp 31), type := 40, pos := "gram.go:44", after := #[{ on := 7, ground := Ground.data }], guard := none }) (v := (.slice da dat.length dc)) hHeld ?_ ?_
 ·intro w9 hSw
  try dsimp only at hSw
  have q9 := hSw.cell 14 (.slice da dat.length dc) rfl
  go_simp
 try simp only [qpu]
 refine wpAnyH_ready (rs := [4, 9]) (by kernel_rfl) (by simp) ?_
 refine (AllReadyH.cons (o := fpz4o7) rfl (fun K hK => ?A) (AllReadyH.cons (o := fpz4o8) rfl (fun K hK => ?B) AllReadyH.nil))
 case' A =>
  go_simp
  refine hK.out _ _ (by first | exact P5 | exact P4 | exact Pd) (fun hHeld => ?_)
  clear hK K
  try simp only [qpu]
  refine wpAnyH_ready (rs := [9]) (by kernel_rfl) (by simp) ?_
  refine (AllReadyH.cons (o := fpz4o8) rfl (fun K hK => ?E) AllReadyH.nil)
  go_simp
  refine Calls.mono (clone_any da dc dat Wd dd hnil) ?_
  rintro e W4 ⟨a4, c4, rfl, f4⟩
  have G4 := Gd.kept f4.below
  have P4 := Pd.kept f4.below
  have e4 := kept f4.below ed
  have r4 := ownsRow_below rd f4.below
  have b4 := bd.below f4.below
  refine hK.out _ _ P4 (fun hHeld => ?_)
  clear hK K
  try simp only [qpu]
  refine qty (i := 10) (oi := fpz4o11) (v := (.agg #[.int .i64 of, .slice a4 dat.length c4])) (yieldsIf_build rfl _ _ rfl #[(0, .int .i64 of), (1, .slice a4 dat.length c4)] (by kernel_rfl) _ (fun w9 => by kernel_rfl)) hHeld ?_
  try simp only [qpu]
  refine wpAnyH_ready (rs := [11]) (by kernel_rfl) (by simp) ?_
  refine (AllReadyH.cons (o := fpz4o6) rfl (fun K hK => ?F) AllReadyH.nil)
  go_simp
  have G5 := G4.alloc (.cells #[.int .i64 of, .slice a4 dat.length c4] 117)
  have P5 := P4.alloc (.cells #[.int .i64 of, .slice a4 dat.length c4] 117)
  have e5 := kept ((Below.refl _ _).alloc (Nat.le_refl _) (.cells #[.int .i64 of, .slice a4 dat.length c4] 117)) e4
  refine hK.out _ _ (by exact P5) (fun hHeld => ?_)
  clear hK K
  try simp only [qpu]
 case' B =>
  go_simp
  refine Calls.mono (clone_any da dc dat Wd dd hnil) ?_
  rintro e W4 ⟨a4, c4, rfl, f4⟩
  have G4 := Gd.kept f4.below
  have P4 := Pd.kept f4.below
  have e4 := kept f4.below ed
  have r4 := ownsRow_below rd f4.below
  have b4 := bd.below f4.below
  refine hK.out _ _ P4 (fun hHeld => ?_)
  clear hK K
  try simp only [qpu]
  refine qty (i := 10) (oi := fpz4o11) (v := (.agg #[.int .i64 of, .slice a4 dat.length c4])) (yieldsIf_build rfl _ _ rfl #[(0, .int .i64 of), (1, .slice a4 dat.length c4)] (by kernel_rfl) _ (fun w9 => by kernel_rfl)) hHeld ?_
  try simp only [qpu]
  refine wpAnyH_ready (rs := [4, 11]) (by kernel_rfl) (by simp) ?_
  refine (AllReadyH.cons (o := fpz4o7) rfl (fun K hK => ?C) (AllReadyH.cons (o := fpz4o6) rfl (fun K hK => ?D) AllReadyH.nil))
  case' C =>
   go_simp
   refine hK.out _ _ (by first | exact P5 | exact P4 | exact Pd) (fun hHeld => ?_)
   clear hK K
   try simp only [qpu]
   refine wpAnyH_ready (rs := [11]) (by kernel_rfl) (by simp) ?_
   refine (AllReadyH.cons (o := fpz4o6) rfl (fun K hK => ?G) AllReadyH.nil)
   go_simp
   have G5 := G4.alloc (.cells #[.int .i64 of, .slice a4 dat.length c4] 117)
   have P5 := P4.alloc (.cells #[.int .i64 of, .slice a4 dat.length c4] 117)
   have e5 := kept ((Below.refl _ _).alloc (Nat.le_refl _) (.cells #[.int .i64 of, .slice a4 dat.length c4] 117)) e4
   refine hK.out _ _ (by exact P5) (fun hHeld => ?_)
   clear hK K
   try simp only [qpu]
  case' D =>
   go_simp
   have G5 := G4.alloc (.cells #[.int .i64 of, .slice a4 dat.length c4] 117)
   have P5 := P4.alloc (.cells #[.int .i64 of, .slice a4 dat.length c4] 117)
   have e5 := kept ((Below.refl _ _).alloc (Nat.le_refl _) (.cells #[.int .i64 of, .slice a4 dat.length c4] 117)) e4
   refine hK.out _ _ (by exact P5) (fun hHeld => ?_)
   clear hK K
   try simp only [qpu]
   refine wpAnyH_ready (rs := [4]) (by kernel_rfl) (by simp) ?_
   refine (AllReadyH.cons (o := fpz4o7) rfl (fun K hK => ?H) AllReadyH.nil)
   go_simp
   refine hK.out _ _ (by first | exact P5 | exact P4 | exact Pd) (fun hHeld => ?_)
   clear hK K
   try simp only [qpu]
 all_goals
  obtain ⟨W5, hW5⟩ : ∃ W, W4.alloc (.cells #[.int .i64 of, .slice a4 dat.length c4] 117) = W := ⟨_, rfl⟩
  have N5 := blk_nw hW5
  have k5 := bel_nw hW5
  have r5 := ownsRow_below r4 k5
  rw [hW5] at G5 P5 e5 hHeld ⊢
  have F4 := f4.row.below k5
  have b5 := b4.below k5
  refine wpAnyH_ready (rs := [12]) (by kernel_rfl) (by simp) ?_
  refine AllReadyH.cons (o := { dst := some 36, op := Op.call { callee := Callee.builtin Builtin.append, args := #[.tmp 28, .tmp 35], argTypes := #[73, 73] }, type := 73, pos := "gram.go:44", after := #[{ on := 4, ground := Ground.data }, { on := 11, ground := Ground.data }, { on := 9, ground := Ground.chain }], guard := none }) rfl (fun K hK => ?_) AllReadyH.nil
  refine step_append_lies _ rfl (.tmp 28) (.tmp 35) 73 rfl 0 117 i0 (.agg #[.int .i64 0, .slice none 0 0]) 2 32 Try.underlying73 hi hz0 hz1 hz2 rfl (by decide) (.slice pa n pc) n xs (by rfl) r5 ⟨W4.heap.size, 0, none⟩ 1 1 [.int .i64 of, .slice a4 dat.length c4] (by rfl) rfl (World.news_of_block N5) (by simp [Value.oneCell']) (by decide) (by unfold maxLen; omega) (by omega) (Nat.zero_le _) W5.heap.size rfl ?_
  intro gx cx W6 r6 g6 at6 lt6
  refine hK.out _ _ ?_ (fun hHeld => ?_)
  ·exact P5.but (But.refl (addF gg pa) W5 |>.grown g6 (fun m hm => .inl (.inr (by
    rw [ownBlock_of r5] at hm
    cases pa with
    | none => cases hm
    | some x => simp at hm; exact ⟨x, rfl, hm⟩)))) (fun hh => by
     rcases hh with hh | ⟨x, h1, h2⟩
     ·exact gne hh.symm
     ·exact pne.out x h1 h2)
  clear hK K
  try simp only [qpu]
  refine qtk (i := 13) (oi := { dst := some 37, op := Op.nilCheck (.tmp 24), type := 0, pos := "gram.go:44", after := #[{ on := 0, ground := Ground.data }, { on := 0, ground := Ground.phase }, { on := 1, ground := Ground.phase }, { on := 2, ground := Ground.phase }, { on := 3, ground := Ground.phase }, { on := 4, ground := Ground.phase }, { on := 5, ground := Ground.phase }, { on := 6, ground := Ground.phase }, { on := 7, ground := Ground.phase }, { on := 8, ground := Ground.phase }, { on := 9, ground := Ground.phase }, { on := 10, ground := Ground.phase }, { on := 11, ground := Ground.phase }, { on := 12, ground := Ground.phase }], guard := none }) (v := (.pointer (some ⟨gg, 0, none⟩))) hHeld ?_ ?_
  ·intro w9 hSw
   try dsimp only at hSw
   go_simp
  try simp only [qpu]
  refine qtk (i := 14) (oi := { dst := some 38, op := Op.fieldAddr 75 (.tmp 37) 3, type := 0, pos := "gram.go:44", after := #[{ on := 13, ground := Ground.data }, { on := 0, ground := Ground.phase }, { on := 1, ground := Ground.phase }, { on := 2, ground := Ground.phase }, { on := 3, ground := Ground.phase }, { on := 4, ground := Ground.phase }, { on := 5, ground := Ground.phase }, { on := 6, ground := Ground.phase }, { on := 7, ground := Ground.phase }, { on := 8, ground := Ground.phase }, { on := 9, ground := Ground.phase }, { on := 10, ground := Ground.phase }, { on := 11, ground := Ground.phase }, { on := 12, ground := Ground.phase }], guard := none }) (v := (.pointer (some ⟨gg, 17, none⟩))) hHeld ?_ ?_
  ·intro w9 hSw
   try dsimp only at hSw
   go_simp
  try simp only [qpu]
  have A6 := aft_app bd f4 k5 k5.size rd r5 G5 Gd.lt r6 g6 at6
  have P6 : Blk W6 w.heap.size 42 #[.int .i64 f, .int .i64 sf, .int .u64 sh, .int .u64 sl, .int .i64 df, .int .u64 dh, .int .u64 dl, .int .i64 pr, .int .i64 ho, .bool fg, .int .u32 id, .int .i64 of, .bool mo, .slice xa X.length xc, .slice da dat.length dc] := hHeld
  have e6 := A6.blk.cell 17 _ c17
  have z6 := A6.blk.frozen 17
  have A7 := A6.put 17 (.slice (some ⟨gx, 0, none⟩) (n + 1) cx)
  have P7 := P6.put_other A6.blk (fun h => gne h.symm) 17 (.slice (some ⟨gx, 0, none⟩) (n + 1) cx)
  clear bd f4 k5 rd r5 G5 Gd r6 g6 at6 A6 Pd P4 P5 G4 b4 b5 r4 N5 F4 e4 e5 ed lt6
  refine wpAnyH_ready (rs := [15]) (by kernel_rfl) (by simp) ?_
  refine AllReadyH.cons (o := { dst := none, op := Op.store 73 (.tmp 38) (.tmp 36), type := 0, pos := "gram.go:44", after := #[{ on := 14, ground := Ground.data }, { on := 12, ground := Ground.data }, { on := 12, ground := Ground.chain }, { on := 0, ground := Ground.phase }, { on := 1, ground := Ground.phase }, { on := 2, ground := Ground.phase }, { on := 3, ground := Ground.phase }, { on := 4, ground := Ground.phase }, { on := 5, ground := Ground.phase }, { on := 6, ground := Ground.phase }, { on := 7, ground := Ground.phase }, { on := 8, ground := Ground.phase }, { on := 9, ground := Ground.phase }, { on := 10, ground := Ground.phase }, { on := 11, ground := Ground.phase }, { on := 12, ground := Ground.phase }], guard := none }) rfl (fun K hK => ?_) AllReadyH.nil
  go_simp
  refine hK.out _ _ (by exact P7) (fun hHeld => ?_)
  clear hK K hHeld
  try simp only [qpu]
  refine wpAnyH_done (by kernel_rfl) ?_ _
  refine NoPanic.normal ?_
  generalize W6.setCell _ _ = W7 at A7 P7 ⊢
  clear P6 e6 z6
  go_wp2_with fail
  have A8' := A7.drew
  have P8' := P7.drew
  refine wp_region_noPanic ?_
  refine wp_region_held_drew (S := fun w' => Blk w' w.heap.size 42 #[.int .i64 f, .int .i64 sf, .int .u64 sh, .int .u64 sl, .int .i64 df, .int .u64 dh, .int .u64 dl, .int .i64 pr, .int .i64 ho, .bool fg, .int .u32 id, .int .i64 of, .bool mo, .slice xa X.length xc, .slice da dat.length dc]) (by kernel_rfl) (by exact P8') (fun hHeld => ?_)
  generalize W7.drew = V8 at A8' P8' hHeld ⊢
  have e8 := A8'.blk.cell 18 (.int .i64 sz) (by simp [Array.getElem?_setIfInBounds, c18])
  have z8 := A8'.blk.frozen 18
  clear A7 P7
  refine qtk (i := 0) (oi := { dst := some 39, op := Op.move (.tmp 0), type := 120, pos := "gram.go:45", after := #[], guard := none }) (v := (.pointer (some ⟨gg, 0, none⟩))) hHeld ?_ ?_
  ·intro w9 hSw
   try dsimp only at hSw
   go_simp
  try simp only [qpu]
  refine qtk (i := 1) (oi := { dst := some 40, op := Op.nilCheck (.tmp 39), type := 0, pos := "gram.go:45", after := #[{ on := 0, ground := Ground.data }], guard := none }) (v := (.pointer (some ⟨gg, 0, none⟩))) hHeld ?_ ?_
  ·intro w9 hSw
   try dsimp only at hSw
   go_simp
  try simp only [qpu]
  refine qtk (i := 2) (oi := { dst := some 41, op := Op.fieldAddr 75 (.tmp 40) 4, type := 0, pos := "gram.go:45", after := #[{ on := 1, ground := Ground.data }], guard := none }) (v := (.pointer (some ⟨gg, 18, none⟩))) hHeld ?_ ?_
  ·intro w9 hSw
   try dsimp only at hSw
   go_simp
  try simp only [qpu]
  refine qtk (i := 4) (oi := { dst := some 43, op := Op.fieldAddr 42 (.tmp 3) 10, type := 0, pos := "gram.go:45", after := #[], guard := none }) (v := (.pointer (some ⟨w.heap.size, 14, none⟩))) hHeld ?_ ?_
  ·intro w9 hSw
   try dsimp only at hSw
   go_simp
  try simp only [qpu]
  refine qtk (i := 5) (oi := { dst := some 44, op := Op.load 40 (.tmp 43), type := 40, pos := "gram.go:45", after := #[{ on := 4, ground := Ground.data }], guard := none }) (v := (.slice da dat.length dc)) hHeld ?_ ?_
  ·intro w9 hSw
   try dsimp only at hSw
   have q9 := hSw.cell 14 (.slice da dat.length dc) rfl
   go_simp
  try simp only [qpu]
  refine qtk (i := 6) (oi := { dst := some 45, op := Op.call { callee := Callee.builtin Builtin.len, args := #[.tmp 44], argTypes := #[40] }, type := 3, pos := "gram.go:45", after := #[{ on := 5, ground := Ground.data }], guard := none }) (v := (.int .i64 (dat.length : Int))) hHeld ?_ ?_
  ·intro w9 hSw
   try dsimp only at hSw
   go_simp
  try simp only [qpu]
  refine wpAnyH_ready (rs := [3]) (by kernel_rfl) (by simp) ?_
  refine AllReadyH.cons (o := { dst := some 42, op := Op.load 3 (.tmp 41), type := 3, pos := "gram.go:45", after := #[{ on := 2, ground := Ground.data }], guard := none }) rfl (fun K hK => ?_) AllReadyH.nil
  go_simp
  refine hK.out _ _ (by exact P8') (fun hHeld => ?_)
  clear hK K
  try simp only [qpu]
  refine qtk (i := 7) (oi := { dst := some 46, op := Op.binOp BinOp.add 3 (.tmp 42) (.tmp 45) 3, type := 3, pos := "gram.go:45", after := #[{ on := 3, ground := Ground.data }, { on := 6, ground := Ground.data }], guard := none }) (v := (.int .i64 SZ)) hHeld ?_ ?_
  ·intro w9 hSw
   try dsimp only at hSw
   go_simp
  try simp only [qpu]
  refine qtk (i := 8) (oi := { dst := some 47, op := Op.nilCheck (.tmp 39), type := 0, pos := "gram.go:45", after := #[{ on := 0, ground := Ground.data }, { on := 0, ground := Ground.phase }, { on := 1, ground := Ground.phase }, { on := 2, ground := Ground.phase }, { on := 3, ground := Ground.phase }, { on := 4, ground := Ground.phase }, { on := 5, ground := Ground.phase }, { on := 6, ground := Ground.phase }, { on := 7, ground := Ground.phase }], guard := none }) (v := (.pointer (some ⟨gg, 0, none⟩))) hHeld ?_ ?_
  ·intro w9 hSw
   try dsimp only at hSw
   go_simp
  try simp only [qpu]
  refine qtk (i := 9) (oi := { dst := some 48, op := Op.fieldAddr 75 (.tmp 47) 4, type := 0, pos := "gram.go:45", after := #[{ on := 8, ground := Ground.data }, { on := 0, ground := Ground.phase }, { on := 1, ground := Ground.phase }, { on := 2, ground := Ground.phase }, { on := 3, ground := Ground.phase }, { on := 4, ground := Ground.phase }, { on := 5, ground := Ground.phase }, { on := 6, ground := Ground.phase }, { on := 7, ground := Ground.phase }], guard := none }) (v := (.pointer (some ⟨gg, 18, none⟩))) hHeld ?_ ?_
  ·intro w9 hSw
   try dsimp only at hSw
   go_simp
  try simp only [qpu]
  have A9 := A8'.put 18 (.int .i64 SZ)
  have P9 := P8'.put_other A8'.blk (fun h => gne h.symm) 18 (.int .i64 SZ)
  clear A8'
  refine wpAnyH_ready (rs := [10]) (by kernel_rfl) (by simp) ?_
  refine AllReadyH.cons (o := { dst := none, op := Op.store 3 (.tmp 48) (.tmp 46), type := 0, pos := "gram.go:45", after := #[{ on := 9, ground := Ground.data }, { on := 7, ground := Ground.data }, { on := 0, ground := Ground.phase }, { on := 1, ground := Ground.phase }, { on := 2, ground := Ground.phase }, { on := 3, ground := Ground.phase }, { on := 4, ground := Ground.phase }, { on := 5, ground := Ground.phase }, { on := 6, ground := Ground.phase }, { on := 7, ground := Ground.phase }], guard := none }) rfl (fun K hK => ?_) AllReadyH.nil
  go_simp
  refine hK.out _ _ (by exact P9) (fun hHeld => ?_)
  clear hK K hHeld
  try simp only [qpu]
  refine wpAnyH_done (by kernel_rfl) ?_ _
  refine NoPanic.normal ?_
  generalize World.setCell _ _ _ = W9 at A9 P9 ⊢
  clear P8' e8 z8
  go_wp2_with fail
  have AA' := A9.drew
  have PA' := P9.drew
  refine wp_region_noPanic ?_
  refine wp_region_held_drew (S := fun w' => Blk w' w.heap.size 42 #[.int .i64 f, .int .i64 sf, .int .u64 sh, .int .u64 sl, .int .i64 df, .int .u64 dh, .int .u64 dl, .int .i64 pr, .int .i64 ho, .bool fg, .int .u32 id, .int .i64 of, .bool mo, .slice xa X.length xc, .slice da dat.length dc]) (by kernel_rfl) (by exact PA') (fun hHeld => ?_)
  generalize W9.drew = VA at AA' PA' hHeld ⊢
  have eA := AA'.blk.cell 19 (.int .i64 rch) (by simp [Array.getElem?_setIfInBounds, c19])
  have zA := AA'.blk.frozen 19
  clear A9 P9
  refine qtk (i := 0) (oi := { dst := some 49, op := Op.move (.tmp 0), type := 120, pos := "gram.go:46", after := #[], guard := none }) (v := (.pointer (some ⟨gg, 0, none⟩))) hHeld ?_ ?_
  ·intro w9 hSw
   try dsimp only at hSw
   go_simp
  try simp only [qpu]
  refine qtk (i := 1) (oi := { dst := some 50, op := Op.move (.tmp 0), type := 120, pos := "gram.go:46", after := #[], guard := none }) (v := (.pointer (some ⟨gg, 0, none⟩))) hHeld ?_ ?_
  ·intro w9 hSw
   try dsimp only at hSw
   go_simp
  try simp only [qpu]
  refine qtk (i := 2) (oi := { dst := some 51, op := Op.nilCheck (.tmp 50), type := 0, pos := "gram.go:46", after := #[{ on := 1, ground := Ground.data }], guard := none }) (v := (.pointer (some ⟨gg, 0, none⟩))) hHeld ?_ ?_
  ·intro w9 hSw
   try dsimp only at hSw
   go_simp
  try simp only [qpu]
  refine qtk (i := 3) (oi := { dst := some 52, op := Op.fieldAddr 75 (.tmp 51) 5, type := 0, pos := "gram.go:46", after := #[{ on := 2, ground := Ground.data }], guard := none }) (v := (.pointer (some ⟨gg, 19, none⟩))) hHeld ?_ ?_
  ·intro w9 hSw
   try dsimp only at hSw
   go_simp
  try simp only [qpu]
  refine qtk (i := 5) (oi := { dst := some 54, op := Op.fieldAddr 42 (.tmp 3) 7, type := 0, pos := "gram.go:46", after := #[], guard := none }) (v := (.pointer (some ⟨w.heap.size, 11, none⟩))) hHeld ?_ ?_
  ·intro w9 hSw
   try dsimp only at hSw
   go_simp
  try simp only [qpu]
  refine qtk (i := 6) (oi := { dst := some 55, op := Op.load 3 (.tmp 54), type := 3, pos := "gram.go:46", after := #[{ on := 5, ground := Ground.data }], guard := none }) (v := (.int .i64 of)) hHeld ?_ ?_
  ·intro w9 hSw
   try dsimp only at hSw
   have q9 := hSw.cell 11 (.int .i64 of) rfl
   go_simp
  try simp only [qpu]
  refine qtk (i := 7) (oi := { dst := some 56, op := Op.fieldAddr 42 (.tmp 3) 10, type := 0, pos := "gram.go:46", after := #[], guard := none }) (v := (.pointer (some ⟨w.heap.size, 14, none⟩))) hHeld ?_ ?_
  ·intro w9 hSw
   try dsimp only at hSw
   go_simp
  try simp only [qpu]
  refine qtk (i := 8) (oi := { dst := some 57, op := Op.load 40 (.tmp 56), type := 40, pos := "gram.go:46", after := #[{ on := 7, ground := Ground.data }], guard := none }) (v := (.slice da dat.length dc)) hHeld ?_ ?_
  ·intro w9 hSw
   try dsimp only at hSw
   have q9 := hSw.cell 14 (.slice da dat.length dc) rfl
   go_simp
  try simp only [qpu]
  refine qtk (i := 9) (oi := { dst := some 58, op := Op.call { callee := Callee.builtin Builtin.len, args := #[.tmp 57], argTypes := #[40] }, type := 3, pos := "gram.go:46", after := #[{ on := 8, ground := Ground.data }], guard := none }) (v := (.int .i64 (dat.length : Int))) hHeld ?_ ?_
  ·intro w9 hSw
   try dsimp only at hSw
   go_simp
  try simp only [qpu]
  refine qtk (i := 10) (oi := { dst := some 59, op := Op.binOp BinOp.add 3 (.tmp 55) (.tmp 58) 3, type := 3, pos := "gram.go:46", after := #[{ on := 6, ground := Ground.data }, { on := 9, ground := Ground.data }], guard := none }) (v := (.int .i64 EN)) hHeld ?_ ?_
  ·intro w9 hSw
   try dsimp only at hSw
   go_simp
  try simp only [qpu]
  refine wpAnyH_ready (rs := [4]) (by kernel_rfl) (by simp) ?_
  refine AllReadyH.cons (o := { dst := some 53, op := Op.load 3 (.tmp 52), type := 3, pos := "gram.go:46", after := #[{ on := 3, ground := Ground.data }], guard := none }) rfl (fun K hK => ?_) AllReadyH.nil
  go_simp
  refine hK.out _ _ (by exact PA') (fun hHeld => ?_)
  clear hK K
  try simp only [qpu]
  refine qtk (i := 11) (oi := { dst := some 60, op := Op.call { callee := Callee.builtin Builtin.max, args := #[.tmp 53, .tmp 59], argTypes := #[3, 3] }, type := 3, pos := "gram.go:46", after := #[{ on := 4, ground := Ground.data }, { on := 10, ground := Ground.data }], guard := none }) (v := (.int .i64 RC)) hHeld ?_ ?_
  ·intro w9 hSw
   try dsimp only at hSw
   go_simp
  try simp only [qpu]
  refine qtk (i := 12) (oi := { dst := some 61, op := Op.nilCheck (.tmp 49), type := 0, pos := "gram.go:46", after := #[{ on := 0, ground := Ground.data }, { on := 0, ground := Ground.phase }, { on := 1, ground := Ground.phase }, { on := 2, ground := Ground.phase }, { on := 3, ground := Ground.phase }, { on := 4, ground := Ground.phase }, { on := 5, ground := Ground.phase }, { on := 6, ground := Ground.phase }, { on := 7, ground := Ground.phase }, { on := 8, ground := Ground.phase }, { on := 9, ground := Ground.phase }, { on := 10, ground := Ground.phase }, { on := 11, ground := Ground.phase }], guard := none }) (v := (.pointer (some ⟨gg, 0, none⟩))) hHeld ?_ ?_
  ·intro w9 hSw
   try dsimp only at hSw
   go_simp
  try simp only [qpu]
  refine qtk (i := 13) (oi := { dst := some 62, op := Op.fieldAddr 75 (.tmp 61) 5, type := 0, pos := "gram.go:46", after := #[{ on := 12, ground := Ground.data }, { on := 0, ground := Ground.phase }, { on := 1, ground := Ground.phase }, { on := 2, ground := Ground.phase }, { on := 3, ground := Ground.phase }, { on := 4, ground := Ground.phase }, { on := 5, ground := Ground.phase }, { on := 6, ground := Ground.phase }, { on := 7, ground := Ground.phase }, { on := 8, ground := Ground.phase }, { on := 9, ground := Ground.phase }, { on := 10, ground := Ground.phase }, { on := 11, ground := Ground.phase }], guard := none }) (v := (.pointer (some ⟨gg, 19, none⟩))) hHeld ?_ ?_
  ·intro w9 hSw
   try dsimp only at hSw
   go_simp
  try simp only [qpu]
  have AB := AA'.put 19 (.int .i64 RC)
  have PB := PA'.put_other AA'.blk (fun h => gne h.symm) 19 (.int .i64 RC)
  clear AA'
  refine wpAnyH_ready (rs := [14]) (by kernel_rfl) (by simp) ?_
  refine AllReadyH.cons (o := { dst := none, op := Op.store 3 (.tmp 62) (.tmp 60), type := 0, pos := "gram.go:46", after := #[{ on := 13, ground := Ground.data }, { on := 11, ground := Ground.data }, { on := 0, ground := Ground.phase }, { on := 1, ground := Ground.phase }, { on := 2, ground := Ground.phase }, { on := 3, ground := Ground.phase }, { on := 4, ground := Ground.phase }, { on := 5, ground := Ground.phase }, { on := 6, ground := Ground.phase }, { on := 7, ground := Ground.phase }, { on := 8, ground := Ground.phase }, { on := 9, ground := Ground.phase }, { on := 10, ground := Ground.phase }, { on := 11, ground := Ground.phase }], guard := none }) rfl (fun K hK => ?_) AllReadyH.nil
  go_simp
  refine hK.out _ _ (by exact PB) (fun hHeld => ?_)
  clear hK K hHeld
  try simp only [qpu]
  refine wpAnyH_done (by kernel_rfl) ?_ _
  refine NoPanic.normal ?_
  generalize World.setCell _ _ _ = WB at AB PB ⊢
  clear PA' eA zA
  have eB := AB.blk.cell 20 (.bool lst) (by simp [Array.getElem?_setIfInBounds, c20])
  have zB := AB.blk.frozen 20
  have dB := PB.cell 12 (.bool mo) rfl
  have AC := AB.put 20 (.bool (lst || !mo))
  clear AB PB
  cases lst <;> (go_wp2; all_goals go_end0; all_goals exact ⟨rfl, gx, cx, a4, c4, by first | exact AC | (rw [hEN, hSZ, hRC]; exact AC)⟩)
end Go.Proofs.Ytkeeidfpgfdldaa
