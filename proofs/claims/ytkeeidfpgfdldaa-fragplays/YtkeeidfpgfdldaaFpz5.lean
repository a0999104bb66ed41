/- Texts joined: FgL -/
import Derived.Test.YtkeeidfpgfdldaaFpz3
namespace Go.Proofs.Ytkeeidfpgfdldaa
abbrev fpz5o9 : Oper := { dst := some 35, op := Op.buildSlice 73 1 #[(0, .tmp 34)], type := 73, pos := "gram.go:44", after := #[{ on := 10, ground := Ground.data }], guard := none }
abbrev fpz5o10 : Oper := { dst := some 28, op := Op.load 73 (.tmp 27), type := 73, pos := "gram.go:44", after := #[{ on := 3, ground := Ground.data }], guard := none }
abbrev fpz5o11 : Oper := { dst := some 33, op := Op.call { callee := Callee.value (.func 32), args := #[.tmp 32], argTypes := #[40] }, type := 40, pos := "gram.go:44", after := #[{ on := 8, ground := Ground.data }], guard := none }
abbrev fpz5o14 : Oper := { dst := some 34, op := Op.build 117 #[(0, .tmp 30), (1, .tmp 33)], type := 117, pos := "gram.go:44", after := #[{ on := 6, ground := Ground.data }, { on := 9, ground := Ground.data }], guard := none }
end Go.Proofs.Ytkeeidfpgfdldaa
namespace Go.Proofs.Ytkeeidfpgfdldaa
open Go.RowKit
set_option linter.unusedVariables false
set_option linter.unusedSimpArgs false
theorem setMany_get : ∀ (vs : List Value) (cs : Array Value) (j k : Nat), j + vs.length ≤ k → (setMany cs j vs)[k]? = cs[k]?
 | [], _, _, _, _ => rfl
 | v :: vs, cs, j, k, h => by
  simp only [List.length_cons] at h
  rw [setMany, setMany_get vs _ _ _ (by omega), Array.getElem?_setIfInBounds_ne (by omega)]
set_option maxRecDepth 100000 in
set_option maxHeartbeats 4000000 in
theorem add_0 (gg n : Nat) (cs : Array Value) (pa : Option Addr) (pc : Nat) (xs : List Value) (sz rch : Int) (lst : Bool) (f sf sh sl df dh dl pr ho : Int) (fg : Bool) (id : Int) (mo : Bool) (xa : Option Addr) (xc : Nat) (X : List Int) (da : Option Addr) (dc : Nat) (dat : List Int) (w : World)
  (hb : Blk w gg 75 cs) (hz : cs.size = 21) (c17 : cs[17]? = some (.slice pa n pc)) (c18 : cs[18]? = some (.int .i64 sz)) (c19 : cs[19]? = some (.int .i64 rch)) (c20 : cs[20]? = some (.bool lst))
  (hrow : w.ownsRow 0 117 2 (.slice pa n pc) n xs) (hn : n ≤ 65535) (hs0 : 0 ≤ sz) (hs1 : sz ≤ 1048576) (hr0 : 0 ≤ rch) (hr1 : rch ≤ 65535) (hl : dat.length ≤ 65535) (hdat : Row w da dat) (hnil : da = none → dc = 0) (hoff : ∀ x, da = some x → x.block ≠ gg) (hx : RowI w xa X) (hxn : xa = none → xc = 0) :
  Calls Try.prog 46 #[.pointer (some ⟨gg, 0, none⟩), .agg #[.int .i64 f, .int .i64 sf, .int .u64 sh, .int .u64 sl, .int .i64 df, .int .u64 dh, .int .u64 dl, .int .i64 pr, .int .i64 ho, .bool fg, .int .u32 id, .int .i64 0, .bool mo, .slice xa X.length xc, .slice da dat.length dc]] w fun e w' => e = .returned (.tuple #[]) ∧ ∃ Wx ax cx0, But (addF gg pa) w Wx ∧ RowI Wx ax X ∧ New w.heap.size ax ∧ (∀ x, ax = some x → x.block < Wx.heap.size) ∧ ∃ gx cx a4 c4, Aft Wx w' gg pa n xs 0 dat (((((setMany cs 2 [.int .i64 f, .int .i64 sf, .int .u64 sh, .int .u64 sl, .int .i64 df, .int .u64 dh, .int .u64 dl, .int .i64 pr, .int .i64 ho, .bool false, .int .u32 0, .int .i64 0, .bool false, .slice ax X.length cx0, .slice none 0 0]).setIfInBounds 17 (.slice (some ⟨gx, 0, none⟩) (n + 1) cx)).setIfInBounds 18 (.int .i64 (sz + dat.length))).setIfInBounds 19 (.int .i64 (if rch < dat.length then dat.length else rch))).setIfInBounds 20 (.bool (lst || !mo))) gx cx a4 c4 := by
 obtain ⟨P, HP⟩ : ∃ P : World → Prop, Hid (∀ w', P w' ↔ ∃ Wx ax cx0, But (addF gg pa) w Wx ∧ RowI Wx ax X ∧ New w.heap.size ax ∧ (∀ x, ax = some x → x.block < Wx.heap.size) ∧ ∃ gx cx a4 c4, Aft Wx w' gg pa n xs 0 dat (((((setMany cs 2 [.int .i64 f, .int .i64 sf, .int .u64 sh, .int .u64 sl, .int .i64 df, .int .u64 dh, .int .u64 dl, .int .i64 pr, .int .i64 ho, .bool false, .int .u32 0, .int .i64 0, .bool false, .slice ax X.length cx0, .slice none 0 0]).setIfInBounds 17 (.slice (some ⟨gx, 0, none⟩) (n + 1) cx)).setIfInBounds 18 (.int .i64 (sz + dat.length))).setIfInBounds 19 (.int .i64 (if rch < dat.length then dat.length else rch))).setIfInBounds 20 (.bool (lst || !mo))) gx cx a4 c4) := ⟨_, fun w' => Iff.rfl⟩
 refine Calls.mono (?_ : Calls Try.prog 46 #[.pointer (some ⟨gg, 0, none⟩), .agg #[.int .i64 f, .int .i64 sf, .int .u64 sh, .int .u64 sl, .int .i64 df, .int .u64 dh, .int .u64 dl, .int .i64 pr, .int .i64 ho, .bool fg, .int .u32 id, .int .i64 0, .bool mo, .slice xa X.length xc, .slice da dat.length dc]] w fun e w' => e = .returned (.tuple #[]) ∧ P w') (fun e w' h => ⟨h.1, (HP.out w').1 h.2⟩)
 obtain ⟨SZ, hSZ⟩ : ∃ x, sz + (dat.length : Int) = x := ⟨_, rfl⟩
 have wS : IntKind.i64.wrap SZ = SZ := wraps_i64 _ (by omega) (by omega)
 have wE : IntKind.i64.wrap (dat.length : Int) = (dat.length : Int) := wraps_i64 _ (by omega) (by omega)
 obtain ⟨RC, hRC⟩ : ∃ x, (if rch < (dat.length : Int) then (dat.length : Int) else rch) = x := ⟨_, rfl⟩
 have gne : gg ≠ w.heap.size := fun h => by have := hb.lt; omega
 have pne : Hid (∀ x, pa = some x → x.block ≠ w.heap.size) := fun x hx h => by have := ownsRow_lt hrow x hx; omega
 obtain ⟨i0, hi, hz0, hz1, hz2⟩ := info_parts info_pieceF
 obtain ⟨W1, hW1⟩ : ∃ W, w.alloc (.cells #[.int .i64 f, .int .i64 sf, .int .u64 sh, .int .u64 sl, .int .i64 df, .int .u64 dh, .int .u64 dl, .int .i64 pr, .int .i64 ho, .bool fg, .int .u32 id, .int .i64 0, .bool mo, .slice xa X.length xc, .slice da dat.length dc] 42) = W := ⟨_, rfl⟩
 have k1 := bel_nw hW1
 have Bp := blk_nw hW1
 have Bg := hb.al hW1
 have d11 := Bp.cell 11 (.int .i64 0) rfl
 have bg : gg < w.heap.size := hb.lt
 have KX : Hid (∀ W, Below w.heap.size w W → Calls Try.prog 31 #[.slice xa X.length xc] W fun e w' => ∃ a' c', e = .returned (.slice a' X.length c') ∧ OwnsI w' W.heap.size (.slice a' X.length c') X ∧ Below W.heap.size W w') := fun W hW => cloneI_any xa xc X W (hx.below hW) hxn
 have HR : Hid (∀ W, Below w.heap.size w W → W.ownsRow 0 117 2 (.slice pa n pc) n xs) := fun W hW => ownsRow_below hrow hW
 have HD : Hid (∀ W, Below w.heap.size w W → Row W da dat) := fun W hW => hdat.below hW
 have PN : Hid (∀ x, pa = some x → x.block ≠ gg) := ownsRow_ne hrow hb (by decide)
 have HO : Hid (∀ x, da = some x → x.block ≠ gg) := hoff
 have HXS : Hid (X.length ≤ 17592186044416) := hx.small
 clear hrow hdat hb hx hoff hxn
 go_enter Try.func46, Try.ntmps46
 go_wp2_with fail
 have Pd := Bp.drew
 have Gd := Bg.drew
 have kd := k1.drew
 refine wp_region_noPanic ?_
 refine wp_region_held_drew (S := fun w' => Blk w' w.heap.size 42 #[.int .i64 f, .int .i64 sf, .int .u64 sh, .int .u64 sl, .int .i64 df, .int .u64 dh, .int .u64 dl, .int .i64 pr, .int .i64 ho, .bool fg, .int .u32 id, .int .i64 0, .bool mo, .slice xa X.length xc, .slice da dat.length dc]) (by kernel_rfl) (by exact Pd) (fun hHeld => ?_)
 generalize W1.drew = V1 at Pd Gd kd hHeld ⊢
 refine qtk (i := 0) (oi := { dst := some 7, op := Op.move (.tmp 0), type := 120, pos := "gram.go:42", after := #[], guard := none }) (v := (.pointer (some ⟨gg, 0, none⟩))) hHeld ?_ ?_
 ·intro w9 hSw
  try dsimp only at hSw
  go_simp
 try simp only [qpu]
 refine qtk (i := 1) (oi := { dst := some 8, op := Op.fieldAddr 42 (.tmp 3) 0, type := 0, pos := "gram.go:42", after := #[], guard := none }) (v := (.pointer (some ⟨w.heap.size, 0, none⟩))) hHeld ?_ ?_
 ·intro w9 hSw
  try dsimp only at hSw
  go_simp
 try simp only [qpu]
 refine qtk (i := 2) (oi := { dst := some 9, op := Op.load 3 (.tmp 8), type := 3, pos := "gram.go:42", after := #[{ on := 1, ground := Ground.data }], guard := none }) (v := (.int .i64 f)) hHeld ?_ ?_
 ·intro w9 hSw
  try dsimp only at hSw
  have q9 := hSw.cell 0 (.int .i64 f) rfl
  go_simp
 try simp only [qpu]
 refine qtk (i := 3) (oi := { dst := some 10, op := Op.fieldAddr 42 (.tmp 3) 1, type := 0, pos := "gram.go:42", after := #[], guard := none }) (v := (.pointer (some ⟨w.heap.size, 1, none⟩))) hHeld ?_ ?_
 ·intro w9 hSw
  try dsimp only at hSw
  go_simp
 try simp only [qpu]
 refine qty (i := 4) (oi := { dst := some 11, op := Op.load 37 (.tmp 10), type := 37, pos := "gram.go:42", after := #[{ on := 3, ground := Ground.data }], guard := none }) (v := (.agg #[.int .i64 sf, .int .u64 sh, .int .u64 sl])) (yieldsIf_sub rfl _ _ rfl w.heap.size 1 42 (by rfl) _ _ (fun _ hSw => hSw) (by rfl) Try.underlying37 (by kernel_rfl)) hHeld ?_
 try simp only [qpu]
 refine qtk (i := 5) (oi := { dst := some 12, op := Op.fieldAddr 42 (.tmp 3) 2, type := 0, pos := "gram.go:42", after := #[], guard := none }) (v := (.pointer (some ⟨w.heap.size, 4, none⟩))) hHeld ?_ ?_
 ·intro w9 hSw
  try dsimp only at hSw
  go_simp
 try simp only [qpu]
 refine qty (i := 6) (oi := { dst := some 13, op := Op.load 37 (.tmp 12), type := 37, pos := "gram.go:42", after := #[{ on := 5, ground := Ground.data }], guard := none }) (v := (.agg #[.int .i64 df, .int .u64 dh, .int .u64 dl])) (yieldsIf_sub rfl _ _ rfl w.heap.size 4 42 (by rfl) _ _ (fun _ hSw => hSw) (by rfl) Try.underlying37 (by kernel_rfl)) hHeld ?_
 try simp only [qpu]
 refine qtk (i := 7) (oi := { dst := some 14, op := Op.fieldAddr 42 (.tmp 3) 3, type := 0, pos := "gram.go:42", after := #[], guard := none }) (v := (.pointer (some ⟨w.heap.size, 7, none⟩))) hHeld ?_ ?_
 ·intro w9 hSw
  try dsimp only at hSw
  go_simp
 try simp only [qpu]
 refine qtk (i := 8) (oi := { dst := some 15, op := Op.load 3 (.tmp 14), type := 3, pos := "gram.go:42", after := #[{ on := 7, ground := Ground.data }], guard := none }) (v := (.int .i64 pr)) hHeld ?_ ?_
 ·intro w9 hSw
  try dsimp only at hSw
  have q9 := hSw.cell 7 (.int .i64 pr) rfl
  go_simp
 try simp only [qpu]
 refine qtk (i := 9) (oi := { dst := some 16, op := Op.fieldAddr 42 (.tmp 3) 4, type := 0, pos := "gram.go:42", after := #[], guard := none }) (v := (.pointer (some ⟨w.heap.size, 8, none⟩))) hHeld ?_ ?_
 ·intro w9 hSw
  try dsimp only at hSw
  go_simp
 try simp only [qpu]
 refine qtk (i := 10) (oi := { dst := some 17, op := Op.load 3 (.tmp 16), type := 3, pos := "gram.go:42", after := #[{ on := 9, ground := Ground.data }], guard := none }) (v := (.int .i64 ho)) hHeld ?_ ?_
 ·intro w9 hSw
  try dsimp only at hSw
  have q9 := hSw.cell 8 (.int .i64 ho) rfl
  go_simp
 try simp only [qpu]
 refine qtk (i := 11) (oi := { dst := some 18, op := Op.fieldAddr 42 (.tmp 3) 9, type := 0, pos := "gram.go:42", after := #[], guard := none }) (v := (.pointer (some ⟨w.heap.size, 13, none⟩))) hHeld ?_ ?_
 ·intro w9 hSw
  try dsimp only at hSw
  go_simp
 try simp only [qpu]
 refine qtk (i := 12) (oi := { dst := some 19, op := Op.load 39 (.tmp 18), type := 39, pos := "gram.go:42", after := #[{ on := 11, ground := Ground.data }], guard := none }) (v := (.slice xa X.length xc)) hHeld ?_ ?_
 ·intro w9 hSw
  try dsimp only at hSw
  have q9 := hSw.cell 13 (.slice xa X.length xc) rfl
  go_simp
 try simp only [qpu]
 refine wpAnyH_ready (rs := [13]) (by kernel_rfl) (by simp) ?_
 refine AllReadyH.cons (o := { dst := some 20, op := Op.call { callee := Callee.value (.func 31), args := #[.tmp 19], argTypes := #[39] }, type := 39, pos := "gram.go:42", after := #[{ on := 12, ground := Ground.data }], guard := none }) rfl (fun K hK => ?_) AllReadyH.nil
 go_simp
 refine Calls.mono (KX.out _ kd) ?_
 rintro e V2 ⟨ax, cx0, rfl, ox, kx⟩
 have P2 := Pd.kept kx
 have G2 := Gd.kept kx
 have k2 := bel_tr kd kx
 refine hK.out _ _ ?_ (fun hHeld => ?_)
 ·exact P2
 clear hK K
 try simp only [qpu]
 refine qty (i := 14) (oi := { dst := some 21, op := Op.build 42 #[(0, .tmp 9), (1, .tmp 11), (2, .tmp 13), (3, .tmp 15), (4, .tmp 17), (9, .tmp 20)], type := 42, pos := "gram.go:42", after := #[{ on := 2, ground := Ground.data }, { on := 4, ground := Ground.data }, { on := 6, ground := Ground.data }, { on := 8, ground := Ground.data }, { on := 10, ground := Ground.data }, { on := 13, ground := Ground.data }], guard := none }) (v := (.agg #[.int .i64 f, .int .i64 sf, .int .u64 sh, .int .u64 sl, .int .i64 df, .int .u64 dh, .int .u64 dl, .int .i64 pr, .int .i64 ho, .bool false, .int .u32 0, .int .i64 0, .bool false, .slice ax X.length cx0, .slice none 0 0])) (yieldsIf_build rfl _ _ rfl #[(0, .int .i64 f), (1, .agg #[.int .i64 sf, .int .u64 sh, .int .u64 sl]), (2, .agg #[.int .i64 df, .int .u64 dh, .int .u64 dl]), (3, .int .i64 pr), (4, .int .i64 ho), (9, .slice ax X.length cx0)] (by kernel_rfl) _ (fun w9 => by kernel_rfl)) hHeld ?_
 try simp only [qpu]
 refine qtk (i := 15) (oi := { dst := some 22, op := Op.nilCheck (.tmp 7), type := 0, pos := "gram.go:42", after := #[{ on := 0, ground := Ground.data }, { on := 0, ground := Ground.phase }, { on := 1, ground := Ground.phase }, { on := 2, ground := Ground.phase }, { on := 3, ground := Ground.phase }, { on := 4, ground := Ground.phase }, { on := 5, ground := Ground.phase }, { on := 6, ground := Ground.phase }, { on := 7, ground := Ground.phase }, { on := 8, ground := Ground.phase }, { on := 9, ground := Ground.phase }, { on := 10, ground := Ground.phase }, { on := 11, ground := Ground.phase }, { on := 12, ground := Ground.phase }, { on := 13, ground := Ground.phase }, { on := 14, ground := Ground.phase }], guard := none }) (v := (.pointer (some ⟨gg, 0, none⟩))) hHeld ?_ ?_
 ·intro w9 hSw
  try dsimp only at hSw
  go_simp
 try simp only [qpu]
 refine qtk (i := 16) (oi := { dst := some 23, op := Op.fieldAddr 75 (.tmp 22) 2, type := 0, pos := "gram.go:42", after := #[{ on := 15, ground := Ground.data }, { on := 0, ground := Ground.phase }, { on := 1, ground := Ground.phase }, { on := 2, ground := Ground.phase }, { on := 3, ground := Ground.phase }, { on := 4, ground := Ground.phase }, { on := 5, ground := Ground.phase }, { on := 6, ground := Ground.phase }, { on := 7, ground := Ground.phase }, { on := 8, ground := Ground.phase }, { on := 9, ground := Ground.phase }, { on := 10, ground := Ground.phase }, { on := 11, ground := Ground.phase }, { on := 12, ground := Ground.phase }, { on := 13, ground := Ground.phase }, { on := 14, ground := Ground.phase }], guard := none }) (v := (.pointer (some ⟨gg, 2, none⟩))) hHeld ?_ ?_
 ·intro w9 hSw
  try dsimp only at hSw
  go_simp
 try simp only [qpu]
 have P3 := P2.other (fun h => gne h.symm) (setMany cs 2 [.int .i64 f, .int .i64 sf, .int .u64 sh, .int .u64 sl, .int .i64 df, .int .u64 dh, .int .u64 dl, .int .i64 pr, .int .i64 ho, .bool false, .int .u32 0, .int .i64 0, .bool false, .slice ax X.length cx0, .slice none 0 0])
 have G3 := G2.set (setMany cs 2 [.int .i64 f, .int .i64 sf, .int .u64 sh, .int .u64 sl, .int .i64 df, .int .u64 dh, .int .u64 dl, .int .i64 pr, .int .i64 ho, .bool false, .int .u32 0, .int .i64 0, .bool false, .slice ax X.length cx0, .slice none 0 0])
 have bs : But (fun k => k = gg) V2 (V2.setRow gg (setMany cs 2 [.int .i64 f, .int .i64 sf, .int .u64 sh, .int .u64 sl, .int .i64 df, .int .u64 dh, .int .u64 dl, .int .i64 pr, .int .i64 ho, .bool false, .int .u32 0, .int .i64 0, .bool false, .slice ax X.length cx0, .slice none 0 0])) := (But.refl (fun k => k = gg) V2).setRow gg (.inl rfl) _
 refine wpAnyH_ready (rs := [17]) (by kernel_rfl) (by simp) ?_
 refine AllReadyH.cons (o := { dst := none, op := Op.store 42 (.tmp 23) (.tmp 21), type := 0, pos := "gram.go:42", after := #[{ on := 16, ground := Ground.data }, { on := 14, ground := Ground.data }, { on := 13, ground := Ground.chain }, { on := 0, ground := Ground.phase }, { on := 1, ground := Ground.phase }, { on := 2, ground := Ground.phase }, { on := 3, ground := Ground.phase }, { on := 4, ground := Ground.phase }, { on := 5, ground := Ground.phase }, { on := 6, ground := Ground.phase }, { on := 7, ground := Ground.phase }, { on := 8, ground := Ground.phase }, { on := 9, ground := Ground.phase }, { on := 10, ground := Ground.phase }, { on := 11, ground := Ground.phase }, { on := 12, ground := Ground.phase }, { on := 13, ground := Ground.phase }, { on := 14, ground := Ground.phase }], guard := none }) rfl (fun K hK => ?_) AllReadyH.nil
 refine step_store_off rfl _ _ _ rfl gg 2 75 #[.int .i64 f, .int .i64 sf, .int .u64 sh, .int .u64 sl, .int .i64 df, .int .u64 dh, .int .u64 dl, .int .i64 pr, .int .i64 ho, .bool false, .int .u32 0, .int .i64 0, .bool false, .slice ax X.length cx0, .slice none 0 0] cs (setMany cs 2 [.int .i64 f, .int .i64 sf, .int .u64 sh, .int .u64 sl, .int .i64 df, .int .u64 dh, .int .u64 dl, .int .i64 pr, .int .i64 ho, .bool false, .int .u32 0, .int .i64 0, .bool false, .slice ax X.length cx0, .slice none 0 0]) (by rfl) (by rfl) G2 (by kernel_rfl) (show 2 + 15 ≤ cs.size by omega) (by kernel_rfl) rfl ?_
 refine hK.out _ _ (by exact P3) (fun hHeld => ?_)
 clear hK K hHeld
 try simp only [qpu]
 refine wpAnyH_done (by kernel_rfl) ?_ _
 refine NoPanic.normal ?_
 have hrow1 : (V2.setRow gg (setMany cs 2 [.int .i64 f, .int .i64 sf, .int .u64 sh, .int .u64 sl, .int .i64 df, .int .u64 dh, .int .u64 dl, .int .i64 pr, .int .i64 ho, .bool false, .int .u32 0, .int .i64 0, .bool false, .slice ax X.length cx0, .slice none 0 0])).ownsRow 0 117 2 (.slice pa n pc) n xs := ownsRow_block (HR.out _ k2) (fun x hx => setRow_heap_ne V2 gg x.block _ (PN.out x hx))
 have hdat1 : Row (V2.setRow gg (setMany cs 2 [.int .i64 f, .int .i64 sf, .int .u64 sh, .int .u64 sl, .int .i64 df, .int .u64 dh, .int .u64 dl, .int .i64 pr, .int .i64 ho, .bool false, .int .u32 0, .int .i64 0, .bool false, .slice ax X.length cx0, .slice none 0 0])) da dat := (HD.out _ k2).but bs (fun x hx e => HO.out x hx e)
 obtain ⟨nx, ltx⟩ := ownsI_new_of ox
 have hgx : gg < V1.heap.size := Gd.lt
 have rx : RowI (V2.setRow gg (setMany cs 2 [.int .i64 f, .int .i64 sf, .int .u64 sh, .int .u64 sl, .int .i64 df, .int .u64 dh, .int .u64 dl, .int .i64 pr, .int .i64 ho, .bool false, .int .u32 0, .int .i64 0, .bool false, .slice ax X.length cx0, .slice none 0 0])) ax X := (ox.row HXS.out).but bs (fun x hx e => by have := nx x hx; omega)
 have bx : But (addF gg pa) w (V2.setRow gg (setMany cs 2 [.int .i64 f, .int .i64 sf, .int .u64 sh, .int .u64 sl, .int .i64 df, .int .u64 dh, .int .u64 dl, .int .i64 pr, .int .i64 ho, .bool false, .int .u32 0, .int .i64 0, .bool false, .slice ax X.length cx0, .slice none 0 0])) := (But.of_below k2 _).setRow gg (.inl (.inl rfl)) _
 have nw : New w.heap.size ax := fun x hx => Nat.le_trans kd.size (nx x hx)
 have ls : ∀ x, ax = some x → x.block < (V2.setRow gg (setMany cs 2 [.int .i64 f, .int .i64 sf, .int .u64 sh, .int .u64 sl, .int .i64 df, .int .u64 dh, .int .u64 dl, .int .i64 pr, .int .i64 ho, .bool false, .int .u32 0, .int .i64 0, .bool false, .slice ax X.length cx0, .slice none 0 0])).heap.size := fun x hx => Nat.lt_of_lt_of_le (ltx x hx) bs.size
 have q17 : (setMany cs 2 [.int .i64 f, .int .i64 sf, .int .u64 sh, .int .u64 sl, .int .i64 df, .int .u64 dh, .int .u64 dl, .int .i64 pr, .int .i64 ho, .bool false, .int .u32 0, .int .i64 0, .bool false, .slice ax X.length cx0, .slice none 0 0])[17]? = some (.slice pa n pc) := by rw [setMany_get _ _ _ _ (by simp)]; exact c17
 have q18 : (setMany cs 2 [.int .i64 f, .int .i64 sf, .int .u64 sh, .int .u64 sl, .int .i64 df, .int .u64 dh, .int .u64 dl, .int .i64 pr, .int .i64 ho, .bool false, .int .u32 0, .int .i64 0, .bool false, .slice ax X.length cx0, .slice none 0 0])[18]? = some (.int .i64 sz) := by rw [setMany_get _ _ _ _ (by simp)]; exact c18
 have q19 : (setMany cs 2 [.int .i64 f, .int .i64 sf, .int .u64 sh, .int .u64 sl, .int .i64 df, .int .u64 dh, .int .u64 dl, .int .i64 pr, .int .i64 ho, .bool false, .int .u32 0, .int .i64 0, .bool false, .slice ax X.length cx0, .slice none 0 0])[19]? = some (.int .i64 rch) := by rw [setMany_get _ _ _ _ (by simp)]; exact c19
 have q20 : (setMany cs 2 [.int .i64 f, .int .i64 sf, .int .u64 sh, .int .u64 sl, .int .i64 df, .int .u64 dh, .int .u64 dl, .int .i64 pr, .int .i64 ho, .bool false, .int .u32 0, .int .i64 0, .bool false, .slice ax X.length cx0, .slice none 0 0])[20]? = some (.bool lst) := by rw [setMany_get _ _ _ _ (by simp)]; exact c20
 have FIN : Hid (∀ Q : World → Prop, (∀ Wx, Q Wx) → Q w) := fun Q h => h w
 obtain ⟨cs2, hcs2⟩ : ∃ x, (setMany cs 2 [.int .i64 f, .int .i64 sf, .int .u64 sh, .int .u64 sl, .int .i64 df, .int .u64 dh, .int .u64 dl, .int .i64 pr, .int .i64 ho, .bool false, .int .u32 0, .int .i64 0, .bool false, .slice ax X.length cx0, .slice none 0 0]) = x := ⟨_, rfl⟩
 rw [hcs2] at q17 q18 q19 q20 P3 G3 hrow1 hdat1 rx bx ls ⊢
 obtain ⟨Wx, hWx⟩ : ∃ x, V2.setRow gg cs2 = x := ⟨_, rfl⟩
 rw [hWx] at P3 G3 hrow1 hdat1 rx bx ls ⊢
 have HC : Hid ((setMany cs 2 [.int .i64 f, .int .i64 sf, .int .u64 sh, .int .u64 sl, .int .i64 df, .int .u64 dh, .int .u64 dl, .int .i64 pr, .int .i64 ho, .bool false, .int .u32 0, .int .i64 0, .bool false, .slice ax X.length cx0, .slice none 0 0]) = cs2) := hcs2
 clear hcs2
 have HX : Hid (But (addF gg pa) w Wx ∧ RowI Wx ax X ∧ New w.heap.size ax ∧ ∀ x, ax = some x → x.block < Wx.heap.size) := ⟨bx, rx, nw, ls⟩
 have bW : But (addF gg pa) Wx Wx := But.refl _ _
 have Bp2 := P3
 have Bg2 := G3
 clear Bp Bg
 have Bp := Bp2
 have Bg := Bg2
 have e17 := Bg.cell 17 _ q17
 clear Bp2 Bg2 P3 G3 bx rx nw ls nx ltx hWx bs FIN ox kx Pd Gd kd P2 G2 k2 KX HR HD PN HO k1 d11 HXS
 go_wp2_with fail
 have Gd := Bg.drew
 have Pd := Bp.drew
 have ed : Wx.drew.cell? ⟨gg, 17, none⟩ = some (.slice pa n pc) := e17
 have rd := hrow1
 have dd : Row Wx.drew da dat := hdat1.drewN 1
 have bd : But (addF gg pa) Wx Wx.drew := bW.below (Below.refl _ _).drew
 refine wp_region_noPanic ?_
 refine wp_region_held_drew (S := fun w' => Blk w' w.heap.size 42 #[.int .i64 f, .int .i64 sf, .int .u64 sh, .int .u64 sl, .int .i64 df, .int .u64 dh, .int .u64 dl, .int .i64 pr, .int .i64 ho, .bool fg, .int .u32 id, .int .i64 0, .bool mo, .slice xa X.length xc, .slice da dat.length dc]) (by kernel_rfl) (by exact Pd) (fun hHeld => ?_)
 obtain ⟨Wd, hWd⟩ : ∃ W, Wx.drew = W := ⟨_, rfl⟩
 have rd : Wd.ownsRow 0 117 2 (.slice pa n pc) n xs := by rw [← hWd]; exact hrow1
 rw [hWd] at Gd Pd ed dd bd hHeld ⊢
 clear hWd Bg Bp e17 hrow1 hdat1 bW
 refine qtk (i := 0) (oi := { dst := some 24, op := Op.move (.tmp 0), type := 120, pos := "gram.go:44", after := #[], guard := none }) (v := (.pointer (some ⟨gg, 0, none⟩))) hHeld ?_ ?_
 ·intro w9 hSw
  try dsimp only at hSw
  go_simp
 try simp only [qpu]
 refine qtk (i := 1) (oi := { dst := some 25, op := Op.move (.tmp 0), type := 120, pos := "gram.go:44", after := #[], guard := none }) (v := (.pointer (some ⟨gg, 0, none⟩))) hHeld ?_ ?_
 ·intro w9 hSw
  try dsimp only at hSw
  go_simp
 try simp only [qpu]
 refine qtk (i := 2) (oi := { dst := some 26, op := Op.nilCheck (.tmp 25), type := 0, pos := "gram.go:44", after := #[{ on := 1, ground := Ground.data }], guard := none }) (v := (.pointer (some ⟨gg, 0, none⟩))) hHeld ?_ ?_
 ·intro w9 hSw
  try dsimp only at hSw
  go_simp
 try simp only [qpu]
 refine qtk (i := 3) (oi := { dst := some 27, op := Op.fieldAddr 75 (.tmp 26) 3, type := 0, pos := "gram.go:44", after := #[{ on := 2, ground := Ground.data }], guard := none }) (v := (.pointer (some ⟨gg, 17, none⟩))) hHeld ?_ ?_
 ·intro w9 hSw
  try dsimp only at hSw
  go_simp
 try simp only [qpu]
 refine qtk (i := 5) (oi := { dst := some 29, op := Op.fieldAddr 42 (.tmp 3) 7, type := 0, pos := "gram.go:44", after := #[], guard := none }) (v := (.pointer (some ⟨w.heap.size, 11, none⟩))) hHeld ?_ ?_
 ·intro w9 hSw
  try dsimp only at hSw
  go_simp
 try simp only [qpu]
 refine qtk (i := 6) (oi := { dst := some 30, op := Op.load 3 (.tmp 29), type := 3, pos := "gram.go:44", after := #[{ on := 5, ground := Ground.data }], guard := none }) (v := (.int .i64 0)) hHeld ?_ ?_
 ·intro w9 hSw
  try dsimp only at hSw
  have q9 := hSw.cell 11 (.int .i64 0) rfl
  go_simp
 try simp only [qpu]
 refine qtk (i := 7) (oi := { dst := some 31, op := Op.fieldAddr 42 (.tmp 3) 10, type := 0, pos := "gram.go:44", after := #[], guard := none }) (v := (.pointer (some ⟨w.heap.size, 14, none⟩))) hHeld ?_ ?_
 ·intro w9 hSw
  try dsimp only at hSw
  go_simp
 try simp only [qpu]
 refine qtk (i := 8) (oi := { dst := some 32, op := Op.load 40 (.tmp 31), type := 40, pos := "gram.go:44", after := #[{ on := 7, ground := Ground.data }], guard := none }) (v := (.slice da dat.length dc)) hHeld ?_ ?_
 ·intro w9 hSw
  try dsimp only at hSw
  have q9 := hSw.cell 14 (.slice da dat.length dc) rfl
  go_simp
 try simp only [qpu]
 refine wpAnyH_ready (rs := [4, 9]) (by kernel_rfl) (by simp) ?_
 refine (AllReadyH.cons (o := fpz5o10) rfl (fun K hK => ?A) (AllReadyH.cons (o := fpz5o11) rfl (fun K hK => ?B) AllReadyH.nil))
 case' A =>
  go_simp
  refine hK.out _ _ (by first | exact P5 | exact P4 | exact Pd) (fun hHeld => ?_)
  clear hK K
  try simp only [qpu]
  refine wpAnyH_ready (rs := [9]) (by kernel_rfl) (by simp) ?_
  refine (AllReadyH.cons (o := fpz5o11) rfl (fun K hK => ?E) AllReadyH.nil)
  go_simp
  refine Calls.mono (clone_any da dc dat Wd dd hnil) ?_
  rintro e W4 ⟨a4, c4, rfl, f4⟩
  have G4 := Gd.kept f4.below
  have P4 := Pd.kept f4.below
  have e4 := kept f4.below ed
  have r4 := ownsRow_below rd f4.below
  have b4 := bd.below f4.below
  refine hK.out _ _ P4 (fun hHeld => ?_)
  clear hK K
  try simp only [qpu]
  refine qty (i := 10) (oi := fpz5o14) (v := (.agg #[.int .i64 0, .slice a4 dat.length c4])) (yieldsIf_build rfl _ _ rfl #[(0, .int .i64 0), (1, .slice a4 dat.length c4)] (by kernel_rfl) _ (fun w9 => by kernel_rfl)) hHeld ?_
  try simp only [qpu]
  refine wpAnyH_ready (rs := [11]) (by kernel_rfl) (by simp) ?_
  refine (AllReadyH.cons (o := fpz5o9) rfl (fun K hK => ?F) AllReadyH.nil)
  go_simp
  have G5 := G4.alloc (.cells #[.int .i64 0, .slice a4 dat.length c4] 117)
  have P5 := P4.alloc (.cells #[.int .i64 0, .slice a4 dat.length c4] 117)
  have e5 := kept ((Below.refl _ _).alloc (Nat.le_refl _) (.cells #[.int .i64 0, .slice a4 dat.length c4] 117)) e4
  refine hK.out _ _ (by exact P5) (fun hHeld => ?_)
  clear hK K
  try simp only [qpu]
 case' B =>
  go_simp
  refine Calls.mono (clone_any da dc dat Wd dd hnil) ?_
  rintro e W4 ⟨a4, c4, rfl, f4⟩
  have G4 := Gd.kept f4.below
  have P4 := Pd.kept f4.below
  have e4 := kept f4.below ed
  have r4 := ownsRow_below rd f4.below
  have b4 := bd.below f4.below
  refine hK.out _ _ P4 (fun hHeld => ?_)
  clear hK K
  try simp only [qpu]
  refine qty (i := 10) (oi := fpz5o14) (v := (.agg #[.int .i64 0, .slice a4 dat.length c4])) (yieldsIf_build rfl _ _ rfl #[(0, .int .i64 0), (1, .slice a4 dat.length c4)] (by kernel_rfl) _ (fun w9 => by kernel_rfl)) hHeld ?_
  try simp only [qpu]
  refine wpAnyH_ready (rs := [4, 11]) (by kernel_rfl) (by simp) ?_
  refine (AllReadyH.cons (o := fpz5o10) rfl (fun K hK => ?C) (AllReadyH.cons (o := fpz5o9) rfl (fun K hK => ?D) AllReadyH.nil))
  case' C =>
   go_simp
   refine hK.out _ _ (by first | exact P5 | exact P4 | exact Pd) (fun hHeld => ?_)
   clear hK K
   try simp only [qpu]
   refine wpAnyH_ready (rs := [11]) (by kernel_rfl) (by simp) ?_
   refine (AllReadyH.cons (o := fpz5o9) rfl (fun K hK => ?G) AllReadyH.nil)
   go_simp
   have G5 := G4.alloc (.cells #[.int .i64 0, .slice a4 dat.length c4] 117)
   have P5 := P4.alloc (.cells #[.int .i64 0, .slice a4 dat.length c4] 117)
   have e5 := kept ((Below.refl _ _).alloc (Nat.le_refl _) (.cells #[.int .i64 0, .slice a4 dat.length c4] 117)) e4
   refine hK.out _ _ (by exact P5) (fun hHeld => ?_)
   clear hK K
   try simp only [qpu]
  case' D =>
   go_simp
   have G5 := G4.alloc (.cells #[.int .i64 0, .slice a4 dat.length c4] 117)
   have P5 := P4.alloc (.cells #[.int .i64 0, .slice a4 dat.length c4] 117)
   have e5 := kept ((Below.refl _ _).alloc (Nat.le_refl _) (.cells #[.int .i64 0, .slice a4 dat.length c4] 117)) e4
   refine hK.out _ _ (by exact P5) (fun hHeld => ?_)
   clear hK K
   try simp only [qpu]
   refine wpAnyH_ready (rs := [4]) (by kernel_rfl) (by simp) ?_
   refine (AllReadyH.cons (o := fpz5o10) rfl (fun K hK => ?H) AllReadyH.nil)
   go_simp
   refine hK.out _ _ (by first | exact P5 | exact P4 | exact Pd) (fun hHeld => ?_)
   clear hK K
   try simp only [qpu]
 all_goals
  obtain ⟨W5, hW5⟩ : ∃ W, W4.alloc (.cells #[.int .i64 0, .slice a4 dat.length c4] 117) = W := ⟨_, rfl⟩
  have N5 := blk_nw hW5
  have k5 := bel_nw hW5
  have r5 := ownsRow_below r4 k5
  rw [hW5] at G5 P5 e5 hHeld ⊢
  have F4 := f4.row.below k5
  have b5 := b4.below k5
  refine wpAnyH_ready (rs := [12]) (by kernel_rfl) (by simp) ?_
  refine AllReadyH.cons (o := { dst := some 36, op := Op.call { callee := Callee.builtin Builtin.append, args := #[.tmp 28, .tmp 35], argTypes := #[73, 73] }, type := 73, pos := "gram.go:44", after := #[{ on := 4, ground := Ground.data }, { on := 11, ground := Ground.data }, { on := 9, ground := Ground.chain }], guard := none }) rfl (fun K hK => ?_) AllReadyH.nil
  refine step_append_lies _ rfl (.tmp 28) (.tmp 35) 73 rfl 0 117 i0 (.agg #[.int .i64 0, .slice none 0 0]) 2 32 Try.underlying73 hi hz0 hz1 hz2 rfl (by decide) (.slice pa n pc) n xs (by rfl) r5 ⟨W4.heap.size, 0, none⟩ 1 1 [.int .i64 0, .slice a4 dat.length c4] (by rfl) rfl (World.news_of_block N5) (by simp [Value.oneCell']) (by decide) (by unfold maxLen; omega) (by omega) (Nat.zero_le _) W5.heap.size rfl ?_
  intro gx cx W6 r6 g6 at6 lt6
  refine hK.out _ _ ?_ (fun hHeld => ?_)
  ·exact P5.but (But.refl (addF gg pa) W5 |>.grown g6 (fun m hm => .inl (.inr (by
    rw [ownBlock_of r5] at hm
    cases pa with
    | none => cases hm
    | some x => simp at hm; exact ⟨x, rfl, hm⟩)))) (fun hh => by
     rcases hh with hh | ⟨x, h1, h2⟩
     ·exact gne hh.symm
     ·exact pne.out x h1 h2)
  clear hK K
  try simp only [qpu]
  refine qtk (i := 13) (oi := { dst := some 37, op := Op.nilCheck (.tmp 24), type := 0, pos := "gram.go:44", after := #[{ on := 0, ground := Ground.data }, { on := 0, ground := Ground.phase }, { on := 1, ground := Ground.phase }, { on := 2, ground := Ground.phase }, { on := 3, ground := Ground.phase }, { on := 4, ground := Ground.phase }, { on := 5, ground := Ground.phase }, { on := 6, ground := Ground.phase }, { on := 7, ground := Ground.phase }, { on := 8, ground := Ground.phase }, { on := 9, ground := Ground.phase }, { on := 10, ground := Ground.phase }, { on := 11, ground := Ground.phase }, { on := 12, ground := Ground.phase }], guard := none }) (v := (.pointer (some ⟨gg, 0, none⟩))) hHeld ?_ ?_
  ·intro w9 hSw
   try dsimp only at hSw
   go_simp
  try simp only [qpu]
  refine qtk (i := 14) (oi := { dst := some 38, op := Op.fieldAddr 75 (.tmp 37) 3, type := 0, pos := "gram.go:44", after := #[{ on := 13, ground := Ground.data }, { on := 0, ground := Ground.phase }, { on := 1, ground := Ground.phase }, { on := 2, ground := Ground.phase }, { on := 3, ground := Ground.phase }, { on := 4, ground := Ground.phase }, { on := 5, ground := Ground.phase }, { on := 6, ground := Ground.phase }, { on := 7, ground := Ground.phase }, { on := 8, ground := Ground.phase }, { on := 9, ground := Ground.phase }, { on := 10, ground := Ground.phase }, { on := 11, ground := Ground.phase }, { on := 12, ground := Ground.phase }], guard := none }) (v := (.pointer (some ⟨gg, 17, none⟩))) hHeld ?_ ?_
  ·intro w9 hSw
   try dsimp only at hSw
   go_simp
  try simp only [qpu]
  have A6 := aft_app bd f4 k5 k5.size rd r5 G5 Gd.lt r6 g6 at6
  have P6 : Blk W6 w.heap.size 42 #[.int .i64 f, .int .i64 sf, .int .u64 sh, .int .u64 sl, .int .i64 df, .int .u64 dh, .int .u64 dl, .int .i64 pr, .int .i64 ho, .bool fg, .int .u32 id, .int .i64 0, .bool mo, .slice xa X.length xc, .slice da dat.length dc] := hHeld
  have e6 := A6.blk.cell 17 _ q17
  have z6 := A6.blk.frozen 17
  have A7 := A6.put 17 (.slice (some ⟨gx, 0, none⟩) (n + 1) cx)
  have P7 := P6.put_other A6.blk (fun h => gne h.symm) 17 (.slice (some ⟨gx, 0, none⟩) (n + 1) cx)
  clear bd f4 k5 rd r5 G5 Gd r6 g6 at6 A6 Pd P4 P5 G4 b4 b5 r4 N5 F4 e4 e5 ed lt6
  refine wpAnyH_ready (rs := [15]) (by kernel_rfl) (by simp) ?_
  refine AllReadyH.cons (o := { dst := none, op := Op.store 73 (.tmp 38) (.tmp 36), type := 0, pos := "gram.go:44", after := #[{ on := 14, ground := Ground.data }, { on := 12, ground := Ground.data }, { on := 12, ground := Ground.chain }, { on := 0, ground := Ground.phase }, { on := 1, ground := Ground.phase }, { on := 2, ground := Ground.phase }, { on := 3, ground := Ground.phase }, { on := 4, ground := Ground.phase }, { on := 5, ground := Ground.phase }, { on := 6, ground := Ground.phase }, { on := 7, ground := Ground.phase }, { on := 8, ground := Ground.phase }, { on := 9, ground := Ground.phase }, { on := 10, ground := Ground.phase }, { on := 11, ground := Ground.phase }, { on := 12, ground := Ground.phase }], guard := none }) rfl (fun K hK => ?_) AllReadyH.nil
  go_simp
  refine hK.out _ _ (by exact P7) (fun hHeld => ?_)
  clear hK K hHeld
  try simp only [qpu]
  refine wpAnyH_done (by kernel_rfl) ?_ _
  refine NoPanic.normal ?_
  generalize W6.setCell _ _ = W7 at A7 P7 ⊢
  clear P6 e6 z6
  go_wp2_with fail
  have A8' := A7.drew
  have P8' := P7.drew
  refine wp_region_noPanic ?_
  refine wp_region_held_drew (S := fun w' => Blk w' w.heap.size 42 #[.int .i64 f, .int .i64 sf, .int .u64 sh, .int .u64 sl, .int .i64 df, .int .u64 dh, .int .u64 dl, .int .i64 pr, .int .i64 ho, .bool fg, .int .u32 id, .int .i64 0, .bool mo, .slice xa X.length xc, .slice da dat.length dc]) (by kernel_rfl) (by exact P8') (fun hHeld => ?_)
  generalize W7.drew = V8 at A8' P8' hHeld ⊢
  have e8 := A8'.blk.cell 18 (.int .i64 sz) (by simp [Array.getElem?_setIfInBounds, q18])
  have z8 := A8'.blk.frozen 18
  clear A7 P7
  refine qtk (i := 0) (oi := { dst := some 39, op := Op.move (.tmp 0), type := 120, pos := "gram.go:45", after := #[], guard := none }) (v := (.pointer (some ⟨gg, 0, none⟩))) hHeld ?_ ?_
  ·intro w9 hSw
   try dsimp only at hSw
   go_simp
  try simp only [qpu]
  refine qtk (i := 1) (oi := { dst := some 40, op := Op.nilCheck (.tmp 39), type := 0, pos := "gram.go:45", after := #[{ on := 0, ground := Ground.data }], guard := none }) (v := (.pointer (some ⟨gg, 0, none⟩))) hHeld ?_ ?_
  ·intro w9 hSw
   try dsimp only at hSw
   go_simp
  try simp only [qpu]
  refine qtk (i := 2) (oi := { dst := some 41, op := Op.fieldAddr 75 (.tmp 40) 4, type := 0, pos := "gram.go:45", after := #[{ on := 1, ground := Ground.data }], guard := none }) (v := (.pointer (some ⟨gg, 18, none⟩))) hHeld ?_ ?_
  ·intro w9 hSw
   try dsimp only at hSw
   go_simp
  try simp only [qpu]
  refine qtk (i := 4) (oi := { dst := some 43, op := Op.fieldAddr 42 (.tmp 3) 10, type := 0, pos := "gram.go:45", after := #[], guard := none }) (v := (.pointer (some ⟨w.heap.size, 14, none⟩))) hHeld ?_ ?_
  ·intro w9 hSw
   try dsimp only at hSw
   go_simp
  try simp only [qpu]
  refine qtk (i := 5) (oi := { dst := some 44, op := Op.load 40 (.tmp 43), type := 40, pos := "gram.go:45", after := #[{ on := 4, ground := Ground.data }], guard := none }) (v := (.slice da dat.length dc)) hHeld ?_ ?_
  ·intro w9 hSw
   try dsimp only at hSw
   have q9 := hSw.cell 14 (.slice da dat.length dc) rfl
   go_simp
  try simp only [qpu]
  refine qtk (i := 6) (oi := { dst := some 45, op := Op.call { callee := Callee.builtin Builtin.len, args := #[.tmp 44], argTypes := #[40] }, type := 3, pos := "gram.go:45", after := #[{ on := 5, ground := Ground.data }], guard := none }) (v := (.int .i64 (dat.length : Int))) hHeld ?_ ?_
  ·intro w9 hSw
   try dsimp only at hSw
   go_simp
  try simp only [qpu]
  refine wpAnyH_ready (rs := [3]) (by kernel_rfl) (by simp) ?_
  refine AllReadyH.cons (o := { dst := some 42, op := Op.load 3 (.tmp 41), type := 3, pos := "gram.go:45", after := #[{ on := 2, ground := Ground.data }], guard := none }) rfl (fun K hK => ?_) AllReadyH.nil
  go_simp
  refine hK.out _ _ (by exact P8') (fun hHeld => ?_)
  clear hK K
  try simp only [qpu]
  refine qtk (i := 7) (oi := { dst := some 46, op := Op.binOp BinOp.add 3 (.tmp 42) (.tmp 45) 3, type := 3, pos := "gram.go:45", after := #[{ on := 3, ground := Ground.data }, { on := 6, ground := Ground.data }], guard := none }) (v := (.int .i64 SZ)) hHeld ?_ ?_
  ·intro w9 hSw
   try dsimp only at hSw
   go_simp
  try simp only [qpu]
  refine qtk (i := 8) (oi := { dst := some 47, op := Op.nilCheck (.tmp 39), type := 0, pos := "gram.go:45", after := #[{ on := 0, ground := Ground.data }, { on := 0, ground := Ground.phase }, { on := 1, ground := Ground.phase }, { on := 2, ground := Ground.phase }, { on := 3, ground := Ground.phase }, { on := 4, ground := Ground.phase }, { on := 5, ground := Ground.phase }, { on := 6, ground := Ground.phase }, { on := 7, ground := Ground.phase }], guard := none }) (v := (.pointer (some ⟨gg, 0, none⟩))) hHeld ?_ ?_
  ·intro w9 hSw
   try dsimp only at hSw
   go_simp
  try simp only [qpu]
  refine qtk (i := 9) (oi := { dst := some 48, op := Op.fieldAddr 75 (.tmp 47) 4, type := 0, pos := "gram.go:45", after := #[{ on := 8, ground := Ground.data }, { on := 0, ground := Ground.phase }, { on := 1, ground := Ground.phase }, { on := 2, ground := Ground.phase }, { on := 3, ground := Ground.phase }, { on := 4, ground := Ground.phase }, { on := 5, ground := Ground.phase }, { on := 6, ground := Ground.phase }, { on := 7, ground := Ground.phase }], guard := none }) (v := (.pointer (some ⟨gg, 18, none⟩))) hHeld ?_ ?_
  ·intro w9 hSw
   try dsimp only at hSw
   go_simp
  try simp only [qpu]
  have A9 := A8'.put 18 (.int .i64 SZ)
  have P9 := P8'.put_other A8'.blk (fun h => gne h.symm) 18 (.int .i64 SZ)
  clear A8'
  refine wpAnyH_ready (rs := [10]) (by kernel_rfl) (by simp) ?_
  refine AllReadyH.cons (o := { dst := none, op := Op.store 3 (.tmp 48) (.tmp 46), type := 0, pos := "gram.go:45", after := #[{ on := 9, ground := Ground.data }, { on := 7, ground := Ground.data }, { on := 0, ground := Ground.phase }, { on := 1, ground := Ground.phase }, { on := 2, ground := Ground.phase }, { on := 3, ground := Ground.phase }, { on := 4, ground := Ground.phase }, { on := 5, ground := Ground.phase }, { on := 6, ground := Ground.phase }, { on := 7, ground := Ground.phase }], guard := none }) rfl (fun K hK => ?_) AllReadyH.nil
  go_simp
  refine hK.out _ _ (by exact P9) (fun hHeld => ?_)
  clear hK K hHeld
  try simp only [qpu]
  refine wpAnyH_done (by kernel_rfl) ?_ _
  refine NoPanic.normal ?_
  generalize World.setCell _ _ _ = W9 at A9 P9 ⊢
  clear P8' e8 z8
  go_wp2_with fail
  have AA' := A9.drew
  have PA' := P9.drew
  refine wp_region_noPanic ?_
  refine wp_region_held_drew (S := fun w' => Blk w' w.heap.size 42 #[.int .i64 f, .int .i64 sf, .int .u64 sh, .int .u64 sl, .int .i64 df, .int .u64 dh, .int .u64 dl, .int .i64 pr, .int .i64 ho, .bool fg, .int .u32 id, .int .i64 0, .bool mo, .slice xa X.length xc, .slice da dat.length dc]) (by kernel_rfl) (by exact PA') (fun hHeld => ?_)
  generalize W9.drew = VA at AA' PA' hHeld ⊢
  have eA := AA'.blk.cell 19 (.int .i64 rch) (by simp [Array.getElem?_setIfInBounds, q19])
  have zA := AA'.blk.frozen 19
  clear A9 P9
  refine qtk (i := 0) (oi := { dst := some 49, op := Op.move (.tmp 0), type := 120, pos := "gram.go:46", after := #[], guard := none }) (v := (.pointer (some ⟨gg, 0, none⟩))) hHeld ?_ ?_
  ·intro w9 hSw
   try dsimp only at hSw
   go_simp
  try simp only [qpu]
  refine qtk (i := 1) (oi := { dst := some 50, op := Op.move (.tmp 0), type := 120, pos := "gram.go:46", after := #[], guard := none }) (v := (.pointer (some ⟨gg, 0, none⟩))) hHeld ?_ ?_
  ·intro w9 hSw
   try dsimp only at hSw
   go_simp
  try simp only [qpu]
  refine qtk (i := 2) (oi := { dst := some 51, op := Op.nilCheck (.tmp 50), type := 0, pos := "gram.go:46", after := #[{ on := 1, ground := Ground.data }], guard := none }) (v := (.pointer (some ⟨gg, 0, none⟩))) hHeld ?_ ?_
  ·intro w9 hSw
   try dsimp only at hSw
   go_simp
  try simp only [qpu]
  refine qtk (i := 3) (oi := { dst := some 52, op := Op.fieldAddr 75 (.tmp 51) 5, type := 0, pos := "gram.go:46", after := #[{ on := 2, ground := Ground.data }], guard := none }) (v := (.pointer (some ⟨gg, 19, none⟩))) hHeld ?_ ?_
  ·intro w9 hSw
   try dsimp only at hSw
   go_simp
  try simp only [qpu]
  refine qtk (i := 5) (oi := { dst := some 54, op := Op.fieldAddr 42 (.tmp 3) 7, type := 0, pos := "gram.go:46", after := #[], guard := none }) (v := (.pointer (some ⟨w.heap.size, 11, none⟩))) hHeld ?_ ?_
  ·intro w9 hSw
   try dsimp only at hSw
   go_simp
  try simp only [qpu]
  refine qtk (i := 6) (oi := { dst := some 55, op := Op.load 3 (.tmp 54), type := 3, pos := "gram.go:46", after := #[{ on := 5, ground := Ground.data }], guard := none }) (v := (.int .i64 0)) hHeld ?_ ?_
  ·intro w9 hSw
   try dsimp only at hSw
   have q9 := hSw.cell 11 (.int .i64 0) rfl
   go_simp
  try simp only [qpu]
  refine qtk (i := 7) (oi := { dst := some 56, op := Op.fieldAddr 42 (.tmp 3) 10, type := 0, pos := "gram.go:46", after := #[], guard := none }) (v := (.pointer (some ⟨w.heap.size, 14, none⟩))) hHeld ?_ ?_
  ·intro w9 hSw
   try dsimp only at hSw
   go_simp
  try simp only [qpu]
  refine qtk (i := 8) (oi := { dst := some 57, op := Op.load 40 (.tmp 56), type := 40, pos := "gram.go:46", after := #[{ on := 7, ground := Ground.data }], guard := none }) (v := (.slice da dat.length dc)) hHeld ?_ ?_
  ·intro w9 hSw
   try dsimp only at hSw
   have q9 := hSw.cell 14 (.slice da dat.length dc) rfl
   go_simp
  try simp only [qpu]
  refine qtk (i := 9) (oi := { dst := some 58, op := Op.call { callee := Callee.builtin Builtin.len, args := #[.tmp 57], argTypes := #[40] }, type := 3, pos := "gram.go:46", after := #[{ on := 8, ground := Ground.data }], guard := none }) (v := (.int .i64 (dat.length : Int))) hHeld ?_ ?_
  ·intro w9 hSw
   try dsimp only at hSw
   go_simp
  try simp only [qpu]
  refine qtk (i := 10) (oi := { dst := some 59, op := Op.binOp BinOp.add 3 (.tmp 55) (.tmp 58) 3, type := 3, pos := "gram.go:46", after := #[{ on := 6, ground := Ground.data }, { on := 9, ground := Ground.data }], guard := none }) (v := (.int .i64 (dat.length : Int))) hHeld ?_ ?_
  ·intro w9 hSw
   try dsimp only at hSw
   go_simp
  try simp only [qpu]
  refine wpAnyH_ready (rs := [4]) (by kernel_rfl) (by simp) ?_
  refine AllReadyH.cons (o := { dst := some 53, op := Op.load 3 (.tmp 52), type := 3, pos := "gram.go:46", after := #[{ on := 3, ground := Ground.data }], guard := none }) rfl (fun K hK => ?_) AllReadyH.nil
  go_simp
  refine hK.out _ _ (by exact PA') (fun hHeld => ?_)
  clear hK K
  try simp only [qpu]
  refine qtk (i := 11) (oi := { dst := some 60, op := Op.call { callee := Callee.builtin Builtin.max, args := #[.tmp 53, .tmp 59], argTypes := #[3, 3] }, type := 3, pos := "gram.go:46", after := #[{ on := 4, ground := Ground.data }, { on := 10, ground := Ground.data }], guard := none }) (v := (.int .i64 RC)) hHeld ?_ ?_
  ·intro w9 hSw
   try dsimp only at hSw
   go_simp
  try simp only [qpu]
  refine qtk (i := 12) (oi := { dst := some 61, op := Op.nilCheck (.tmp 49), type := 0, pos := "gram.go:46", after := #[{ on := 0, ground := Ground.data }, { on := 0, ground := Ground.phase }, { on := 1, ground := Ground.phase }, { on := 2, ground := Ground.phase }, { on := 3, ground := Ground.phase }, { on := 4, ground := Ground.phase }, { on := 5, ground := Ground.phase }, { on := 6, ground := Ground.phase }, { on := 7, ground := Ground.phase }, { on := 8, ground := Ground.phase }, { on := 9, ground := Ground.phase }, { on := 10, ground := Ground.phase }, { on := 11, ground := Ground.phase }], guard := none }) (v := (.pointer (some ⟨gg, 0, none⟩))) hHeld ?_ ?_
  ·intro w9 hSw
   try dsimp only at hSw
   go_simp
  try simp only [qpu]
  refine qtk (i := 13) (oi := { dst := some 62, op := Op.fieldAddr 75 (.tmp 61) 5, type := 0, pos := "gram.go:46", after := #[{ on := 12, ground := Ground.data }, { on := 0, ground := Ground.phase }, { on := 1, ground := Ground.phase }, { on := 2, ground := Ground.phase }, { on := 3, ground := Ground.phase }, { on := 4, ground := Ground.phase }, { on := 5, ground := Ground.phase }, { on := 6, ground := Ground.phase }, { on := 7, ground := Ground.phase }, { on := 8, ground := Ground.phase }, { on := 9, ground := Ground.phase }, { on := 10, ground := Ground.phase }, { on := 11, ground := Ground.phase }], guard := none }) (v := (.pointer (some ⟨gg, 19, none⟩))) hHeld ?_ ?_
  ·intro w9 hSw
   try dsimp only at hSw
   go_simp
  try simp only [qpu]
  have AB := AA'.put 19 (.int .i64 RC)
  have PB := PA'.put_other AA'.blk (fun h => gne h.symm) 19 (.int .i64 RC)
  clear AA'
  refine wpAnyH_ready (rs := [14]) (by kernel_rfl) (by simp) ?_
  refine AllReadyH.cons (o := { dst := none, op := Op.store 3 (.tmp 62) (.tmp 60), type := 0, pos := "gram.go:46", after := #[{ on := 13, ground := Ground.data }, { on := 11, ground := Ground.data }, { on := 0, ground := Ground.phase }, { on := 1, ground := Ground.phase }, { on := 2, ground := Ground.phase }, { on := 3, ground := Ground.phase }, { on := 4, ground := Ground.phase }, { on := 5, ground := Ground.phase }, { on := 6, ground := Ground.phase }, { on := 7, ground := Ground.phase }, { on := 8, ground := Ground.phase }, { on := 9, ground := Ground.phase }, { on := 10, ground := Ground.phase }, { on := 11, ground := Ground.phase }], guard := none }) rfl (fun K hK => ?_) AllReadyH.nil
  go_simp
  refine hK.out _ _ (by exact PB) (fun hHeld => ?_)
  clear hK K hHeld
  try simp only [qpu]
  refine wpAnyH_done (by kernel_rfl) ?_ _
  refine NoPanic.normal ?_
  generalize World.setCell _ _ _ = WB at AB PB ⊢
  clear PA' eA zA
  have eB := AB.blk.cell 20 (.bool lst) (by simp [Array.getElem?_setIfInBounds, q20])
  have zB := AB.blk.frozen 20
  have dB := PB.cell 12 (.bool mo) rfl
  have AC := AB.put 20 (.bool (lst || !mo))
  clear AB PB
  cases lst <;> (go_wp2; all_goals go_end0; all_goals exact ⟨rfl, (HP.out _).2 ⟨Wx, ax, cx0, HX.out.1, HX.out.2.1, HX.out.2.2.1, HX.out.2.2.2, gx, cx, a4, c4, by rw [HC.out, hSZ, hRC]; exact AC⟩⟩)
end Go.Proofs.Ytkeeidfpgfdldaa
