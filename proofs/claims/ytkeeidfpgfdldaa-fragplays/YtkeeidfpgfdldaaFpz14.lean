/- Texts joined: FhB FhC FgE FhD -/
import Derived.Test.YtkeeidfpgfdldaaFpz11
import Derived.Test.YtkeeidfpgfdldaaFpz12
import Derived.Test.YtkeeidfpgfdldaaFpz13
namespace Go.Proofs.Ytkeeidfpgfdldaa
open Go.RowKit
set_option linter.unusedVariables false
set_option linter.unusedSimpArgs false
set_option maxRecDepth 100000 in
set_option maxHeartbeats 4000000 in
theorem piece_any (of : Int) (mo : Bool) (da : Option Addr) (dn dc : Nat) (w : World) :
  Calls Try.prog 25 #[.int .i64 of, .bool mo, .slice da dn dc] w fun e w' => e = .returned (.agg #[.int .i64 4, .int .i64 4, .int .u64 0, .int .u64 1, .int .i64 4, .int .u64 0, .int .u64 2, .int .i64 17, .int .i64 5, .bool true, .int .u32 9, .int .i64 of, .bool mo, .slice none 0 0, .slice da dn dc]) ∧ Below w.heap.size w w' := by
 obtain ⟨W1, hW1⟩ : ∃ W, w.alloc (.cells #[.int .i64 0, .int .i64 0, .int .u64 0, .int .u64 0, .int .i64 0, .int .u64 0, .int .u64 0, .int .i64 0, .int .i64 0, .bool false, .int .u32 0, .int .i64 0, .bool false, .slice none 0 0, .slice none 0 0] 42) = W := ⟨_, rfl⟩
 have R1 := blk_nw hW1
 have b1 := bel_nw hW1
 have h1 : (Instr.build 37 #[(0, .int .i64 4), (2, .int .u64 1)]).run Try.prog W1 = .ok (.agg #[.int .i64 4, .int .u64 0, .int .u64 1]) W1 := by kernel_rfl
 have h2 : (Instr.build 37 #[(0, .int .i64 4), (2, .int .u64 2)]).run Try.prog W1 = .ok (.agg #[.int .i64 4, .int .u64 0, .int .u64 2]) W1 := by kernel_rfl
 have h3 : (Instr.build 42 #[(0, .int .i64 4), (1, .agg #[.int .i64 4, .int .u64 0, .int .u64 1]), (2, .agg #[.int .i64 4, .int .u64 0, .int .u64 2]), (3, .int .i64 17), (4, .int .i64 5), (5, .bool true), (6, .int .u32 9), (7, .int .i64 of), (8, .bool mo), (10, .slice da dn dc)]).run Try.prog W1 = .ok (.agg #[.int .i64 4, .int .i64 4, .int .u64 0, .int .u64 1, .int .i64 4, .int .u64 0, .int .u64 2, .int .i64 17, .int .i64 5, .bool true, .int .u32 9, .int .i64 of, .bool mo, .slice none 0 0, .slice da dn dc]) W1 := by kernel_rfl
 have Rf := R1.set #[.int .i64 4, .int .i64 4, .int .u64 0, .int .u64 1, .int .i64 4, .int .u64 0, .int .u64 2, .int .i64 17, .int .i64 5, .bool true, .int .u32 9, .int .i64 of, .bool mo, .slice none 0 0, .slice da dn dc]
 have bf := below_setRow b1 (Nat.le_refl _) #[.int .i64 4, .int .i64 4, .int .u64 0, .int .u64 1, .int .i64 4, .int .u64 0, .int .u64 2, .int .i64 17, .int .i64 5, .bool true, .int .u32 9, .int .i64 of, .bool mo, .slice none 0 0, .slice da dn dc]
 go_enter Try.func25, Try.ntmps25
 go_wp2_with (first
  | (refine wpList_buildF _ rfl _ _ rfl _ (by rfl) _ h1 ?_)
  | (refine wpList_buildF _ rfl _ _ rfl _ (by rfl) _ h2 ?_)
  | (refine wpList_buildF _ rfl _ _ rfl _ (by first | rfl | kernel_rfl) _ h3 ?_)
  | (refine wpList_store_row rfl _ _ _ rfl w.heap.size #[.int .i64 4, .int .i64 4, .int .u64 0, .int .u64 1, .int .i64 4, .int .u64 0, .int .u64 2, .int .i64 17, .int .i64 5, .bool true, .int .u32 9, .int .i64 of, .bool mo, .slice none 0 0, .slice da dn dc] (by rfl) (by rfl) _ _ R1 (by kernel_rfl) (by rfl) (by kernel_rfl) ?_))
 exact ret_cell (k := 6) Try.f25 (by kernel_rfl) Rf Try.underlying42 (by kernel_rfl) (by rfl) rfl ⟨rfl, bf⟩
/-- The law's own name, as a key. -/
abbrev KN : Lit := .string (keyBytes [.int .i64 4, .int .u64 0, .int .u64 1, .int .i64 4, .int .u64 0, .int .u64 2, .int .i64 17, .int .u32 9])
theorem key_own : keyOf Try.prog 72 (.agg #[.int .i64 4, .int .u64 0, .int .u64 1, .int .i64 4, .int .u64 0, .int .u64 2, .int .i64 17, .int .u32 9]) = some KN :=
 key_name 4 0 1 4 0 2 17 9 (by decide) (by decide) (by decide) (by decide) (by decide) (by decide) (by decide) (by decide)
theorem rowI_nil (w : World) (a : Option Addr) : RowI w a [] := ⟨by simp, fun h => absurd h (by simp)⟩
theorem gmr_zero (w : World) : GmR w zeroG := ⟨⟨rfl, .inl ⟨rfl, rfl⟩⟩, by simp, rowI_nil w none, by simp⟩
theorem gmn_zero : GmN zeroG := ⟨by simp, by simp, by simp⟩
theorem gma_zero : GmA zeroG := ⟨by simp, by simp⟩
theorem gml_zero (B : Nat) : GmL zeroG B := ⟨by simp, by simp⟩
theorem gmo_zero (F : Nat → Prop) : GmO zeroG F := ⟨by simp, fun x hx => by simp at hx⟩
theorem clash_one : clashB zeroG 8 false 2 = false := by decide
theorem wrong_one : wrongF 4 ⟨4, 0, 1⟩ ⟨4, 0, 2⟩ 8 false 2 = 0 := by decide
theorem wrong_two : wrongF 4 ⟨4, 0, 1⟩ ⟨4, 0, 2⟩ 0 true 8 = 0 := by decide
theorem clash_two (t : Int) (h : Hd) (gx cx c4 : Nat) (a4 : Option Addr) : clashB ((zeroG.at_ t).more h gx cx ⟨8, a4, c4, [9, 10]⟩ false) 0 true 8 = false := by simp [clashB, shareB]
/-- The first fragment waits. -/
structure Wt (w : World) (tb mb : Nat) (g : Gm) : Prop where
 tab : Blk w tb 64 #[.bool true, .int .i64 4, .int .i64 100, .int .i64 10, .int .i64 0, .int .i64 2, .map (some mb)]
 map : OwnsG w mb 1 ((DataW.map []).put KN (.held (.agg g.v)))
 row : GmR w g
 apart : GmA g
 lies : GmL g w.heap.size
 off : GmO g (fun k => k = tb ∨ k = mb)
set_option maxRecDepth 100000 in
set_option maxHeartbeats 4000000 in
theorem put_one (tb mb : Nat) (da : Option Addr) (dc : Nat) (w : World) (hb : Blk w tb 64 #[.bool true, .int .i64 4, .int .i64 100, .int .i64 10, .int .i64 0, .int .i64 0, .map (some mb)]) (hm : OwnsG w mb 0 (.map [])) (hne : tb ≠ mb) (hdat : Row w da [9, 10]) (hnil : da = none → dc = 0) (hdl : ∀ x, da = some x → x.block < w.heap.size) :
  Calls Try.prog 17 #[.pointer (some ⟨tb, 0, none⟩), .agg #[.int .i64 4, .int .i64 4, .int .u64 0, .int .u64 1, .int .i64 4, .int .u64 0, .int .u64 2, .int .i64 17, .int .i64 5, .bool true, .int .u32 9, .int .i64 8, .bool false, .slice none 0 0, .slice da 2 dc]] w fun e w' => e = .returned (.tuple #[.agg #[.int .i64 0, .int .i64 0, .int .u64 0, .int .u64 0, .int .i64 0, .int .u64 0, .int .u64 0, .int .i64 0, .int .i64 0, .bool false, .int .u32 0, .int .i64 0, .bool false, .slice none 0 0, .slice none 0 0], .int .i64 19]) ∧ But (fun k => k = tb ∨ k = mb) w w' ∧ ∃ gx cx a4 c4, w.heap.size ≤ gx ∧ Wt w' tb mb ((zeroG.at_ 10).more zeroG.hd gx cx ⟨8, a4, c4, [9, 10]⟩ false) := by
 have tl := hb.lt
 have ml := hm.lt
 refine (put_take tb 4 4 0 1 4 0 2 17 5 true 9 8 false none 0 [] da dc [9, 10] w (hb.cell 0 (.bool true) rfl) (by simp) rfl wrong_one
  (fun W RV c W' => RV = #[.int .i64 0, .int .i64 0, .int .u64 0, .int .u64 0, .int .i64 0, .int .u64 0, .int .u64 0, .int .i64 0, .int .i64 0, .bool false, .int .u32 0, .int .i64 0, .bool false, .slice none 0 0, .slice none 0 0] ∧ c = 19 ∧ ∃ h gx cx a4 c4, HdOf W.heap.size W'.heap.size zeroG.hd h 4 4 0 1 4 0 2 17 5 8 [] ∧ Blk W' tb 64 #[.bool true, .int .i64 4, .int .i64 100, .int .i64 10, .int .i64 0, .int .i64 2, .map (some mb)] ∧ OwnsG W' mb 1 ((DataW.map []).put KN (.held (.agg ((zeroG.at_ 10).more h gx cx ⟨8, a4, c4, [9, 10]⟩ false).v))) ∧ GmR W' ((zeroG.at_ 10).more h gx cx ⟨8, a4, c4, [9, 10]⟩ false) ∧ GmA ((zeroG.at_ 10).more h gx cx ⟨8, a4, c4, [9, 10]⟩ false) ∧ New W.heap.size a4 ∧ W.heap.size ≤ gx ∧ But (fun k => k = tb ∨ k = mb) W W') ?_ ?_).mono ?_
 ·intro W b
  have B := hb.kept b
  have M := ownsG_but hm (But.of_below b (fun _ => False)) (fun x => x)
  refine (take_wait tb mb 0 4 100 10 0 0 (.map []) zeroG KN _ 4 4 0 1 4 0 2 17 5 true 9 8 false none 0 [] da dc [9, 10] W B M key_own rfl rfl (by kernel_rfl) (fun W => nameOf_4 4 4 0 1 4 0 2 17 5 true 9 8 false none 0 [] da dc [9, 10] W (by decide)) rfl (gmr_zero W) gmn_zero (by decide) (by decide) (by decide) clash_one (by decide) (by decide) (by decide) (by decide) hne 10 (by decide) (by decide) (by decide) (by decide) (by decide) (by decide) gma_zero (gml_zero _) (gmo_zero _) (by decide) (hdat.below b) hnil (fun x hx => Nat.lt_of_lt_of_le (hdl x hx) b.size) (rowI_nil W none) (by simp) (by decide) (by decide)).mono ?_
  rintro e w' ⟨rfl, h, gx, cx, a4, c4, r1, r2, r3, r4, r5, r6, r7, r8⟩
  refine ⟨_, 19, rfl, rfl, by kernel_rfl, rfl, rfl, h, gx, cx, a4, c4, r1, r2, r3, r4, r5, r6, ?_, ?_⟩
  ·rcases r7 with ⟨x, hx, _⟩ | r7
   ·cases hx
   ·exact r7
  ·refine (But.refl _ W).trans r8 ?_
   rintro k hk (h | ⟨x, hx, _⟩)
   ·exact h
   ·cases hx
 ·rintro W RV c W' b ⟨_, _, h, gx, cx, a4, c4, _, _, _, _, _, _, _, r8⟩
  refine (But.refl _ W).trans r8 ?_
  rintro k hk (h | h) <;> omega
 ·rintro e w' ⟨RV, c, W, W', g, rfl, b, lg, gl, R, ⟨rfl, rfl, h, gx, cx, a4, c4, r1, r2, r3, r4, r5, r6, r7, r8⟩, rfl⟩
  rcases r1 with ⟨h8, _⟩ | ⟨_, rfl⟩
  ·exact absurd h8 (by decide)
  have e1 := (But.refl (fun k => k = g) W').setRow g (.inl rfl) #[.int .i64 0, .int .i64 0, .int .u64 0, .int .u64 0, .int .i64 0, .int .u64 0, .int .u64 0, .int .i64 0, .int .i64 0, .bool false, .int .u32 0, .int .i64 0, .bool false, .slice none 0 0, .slice none 0 0]
  have ew : But (fun k => k = tb ∨ k = mb) w (W'.setRow g #[.int .i64 0, .int .i64 0, .int .u64 0, .int .u64 0, .int .i64 0, .int .u64 0, .int .u64 0, .int .i64 0, .int .i64 0, .bool false, .int .u32 0, .int .i64 0, .bool false, .slice none 0 0, .slice none 0 0]) := by
   refine ((But.of_below b (fun k => k = tb ∨ k = mb)).trans r8 (fun _ _ h => h)).setRow g (.inr lg) _
  have go : GmO ((zeroG.at_ 10).more zeroG.hd gx cx ⟨8, a4, c4, [9, 10]⟩ false) (fun k => (k = tb ∨ k = mb) ∨ k = g) := ⟨fun p hp x hx hF => by
   obtain rfl : p = ⟨8, a4, c4, [9, 10]⟩ := by simpa using hp
   have := r6 x hx
   have := b.size
   omega, fun x hx => by simp at hx⟩
  have bs := b.size
  refine ⟨rfl, ew, gx, cx, a4, c4, by omega, r2.other (by omega) _, ownsG_but r3 e1 (by omega), ?_, r5, ?_, ?_⟩
  ·refine r4.but e1 ⟨fun p hp x hx hF => go.ps p hp x hx (.inr hF), fun x hx => by simp at hx⟩ (fun x hx hF => ?_)
   cases hx
   have hF : gx = g := hF
   omega
  ·refine ⟨fun p hp x hx => ?_, fun x hx => by simp at hx⟩
   obtain rfl : p = ⟨8, a4, c4, [9, 10]⟩ := by simpa using hp
   obtain ⟨bb, off, hbb, hc⟩ := (r4.each ⟨8, a4, c4, [9, 10]⟩ (by simp)).1.cells (by simp)
   have hl := World.block_lt_of_cell? _ _ (hc 0 (by simp))
   have : a4 = some x := hx
   have hbb : a4 = some ⟨bb, off, none⟩ := hbb
   rw [hbb] at this
   cases this
   exact Nat.lt_of_lt_of_le hl e1.size
  ·exact ⟨fun p hp x hx hF => go.ps p hp x hx (.inl hF), fun x hx hF => go.xs x hx (.inl hF)⟩
theorem isMap_nil : Maps.IsMap (DataW.map ([] : List _) : DataW Value) := ⟨_, rfl⟩
theorem keyLit_own : WideAt.IsKeyLit KN := by simp [WideAt.IsKeyLit]
theorem gmn_one (gx cx c4 : Nat) (a4 : Option Addr) : GmN ((zeroG.at_ 10).more zeroG.hd gx cx ⟨8, a4, c4, [9, 10]⟩ false) := by
 refine ⟨fun p hp => ?_, ?_, ?_⟩
 ·obtain rfl : p = ⟨8, a4, c4, [9, 10]⟩ := by simpa using hp
  simp
 ·simp
 ·simp
set_option maxRecDepth 100000 in
set_option maxHeartbeats 4000000 in
theorem put_two (tb mb gx cx c4 : Nat) (a4 : Option Addr) (da : Option Addr) (dc : Nat) (w : World) (H : Wt w tb mb ((zeroG.at_ 10).more zeroG.hd gx cx ⟨8, a4, c4, [9, 10]⟩ false)) (hne : tb ≠ mb) (hdat : Row w da [1, 2, 3, 4, 5, 6, 7, 8]) (hnil : da = none → dc = 0) (hdl : ∀ x, da = some x → x.block < w.heap.size) :
  Calls Try.prog 17 #[.pointer (some ⟨tb, 0, none⟩), .agg #[.int .i64 4, .int .i64 4, .int .u64 0, .int .u64 1, .int .i64 4, .int .u64 0, .int .u64 2, .int .i64 17, .int .i64 5, .bool true, .int .u32 9, .int .i64 0, .bool true, .slice none 0 0, .slice da 8 dc]] w fun e w' => ∃ (h : Hd) (gd : Nat), e = .returned (.tuple #[.agg #[.int .i64 h.fam, .int .i64 h.s.fam, .int .u64 h.s.hi, .int .u64 h.s.lo, .int .i64 h.d.fam, .int .u64 h.d.hi, .int .u64 h.d.lo, .int .i64 h.pr, .int .i64 h.ho, .bool false, .int .u32 0, .int .i64 0, .bool false, .slice h.xa h.X.length h.xc, .slice (some ⟨gd, 0, none⟩) 10 10], .int .i64 0]) ∧ But (fun k => (k = tb ∨ k = mb) ∨ k = gx) w w' ∧ Blk w' tb 64 #[.bool true, .int .i64 4, .int .i64 100, .int .i64 10, .int .i64 0, .int .i64 (2 - ((zeroG.at_ 10).more zeroG.hd gx cx ⟨8, a4, c4, [9, 10]⟩ false).size), .map (some mb)] ∧ OwnsG w' mb 1 (((DataW.map []).put KN (.held (.agg ((zeroG.at_ 10).more zeroG.hd gx cx ⟨8, a4, c4, [9, 10]⟩ false).v))).del KN) ∧ w'.heap[gd]? = some (.cells (([1, 2, 3, 4, 5, 6, 7, 8, 9, 10] : List Int).map (Value.int .u8)).toArray 5 (0, 0)) := by
 have tl := H.tab.lt
 have ml := H.map.lt
 have gl := ownsRow_lt H.row.row ⟨gx, 0, none⟩ rfl
 refine (put_take tb 4 4 0 1 4 0 2 17 5 true 9 0 true none 0 [] da dc [1, 2, 3, 4, 5, 6, 7, 8] w (H.tab.cell 0 (.bool true) rfl) (by simp) rfl wrong_two
  (fun W RV c W' => ∃ (h : Hd) (gd : Nat), RV = #[.int .i64 h.fam, .int .i64 h.s.fam, .int .u64 h.s.hi, .int .u64 h.s.lo, .int .i64 h.d.fam, .int .u64 h.d.hi, .int .u64 h.d.lo, .int .i64 h.pr, .int .i64 h.ho, .bool false, .int .u32 0, .int .i64 0, .bool false, .slice h.xa h.X.length h.xc, .slice (some ⟨gd, 0, none⟩) 10 10] ∧ c = 0 ∧ Blk W' tb 64 #[.bool true, .int .i64 4, .int .i64 100, .int .i64 10, .int .i64 0, .int .i64 (2 - ((zeroG.at_ 10).more zeroG.hd gx cx ⟨8, a4, c4, [9, 10]⟩ false).size), .map (some mb)] ∧ OwnsG W' mb 1 (((DataW.map []).put KN (.held (.agg ((zeroG.at_ 10).more zeroG.hd gx cx ⟨8, a4, c4, [9, 10]⟩ false).v))).del KN) ∧ W'.heap[gd]? = some (.cells (([1, 2, 3, 4, 5, 6, 7, 8, 9, 10] : List Int).map (Value.int .u8)).toArray 5 (0, 0)) ∧ W.heap.size ≤ gd ∧ But (fun k => (k = tb ∨ k = mb) ∨ k = gx) W W') ?_ ?_).mono ?_
 ·intro W b
  have B := H.tab.kept b
  have M := ownsG_but H.map (But.of_below b (fun _ => False)) (fun x => x)
  refine (take_whole tb mb 1 4 100 10 0 2 _ ((zeroG.at_ 10).more zeroG.hd gx cx ⟨8, a4, c4, [9, 10]⟩ false) KN _ 4 4 0 1 4 0 2 17 5 true 9 0 true none 0 [] da dc [1, 2, 3, 4, 5, 6, 7, 8] W B M key_own (Maps.atKey_put_same isMap_nil keyLit_own _ _) rfl (by kernel_rfl) (fun W => nameOf_4 4 4 0 1 4 0 2 17 5 true 9 0 true none 0 [] da dc [1, 2, 3, 4, 5, 6, 7, 8] W (by decide)) rfl (H.row.below b) (gmn_one gx cx c4 a4) (by decide) (by decide) (by decide) (clash_two _ _ _ _ _ _) (by decide) (by decide) (by decide) (by decide) hne 10 (by split <;> rfl) (by decide) (by decide) (by decide) (by decide) (fun h => by rw [Maps.has_put_same isMap_nil keyLit_own] at h; cases h) H.apart ⟨fun p hp x hx => Nat.lt_of_lt_of_le (H.lies.ps p hp x hx) b.size, fun x hx => Nat.lt_of_lt_of_le (H.lies.xs x hx) b.size⟩ H.off (by simp) (hdat.below b) hnil (fun x hx => Nat.lt_of_lt_of_le (hdl x hx) b.size) (rowI_nil W none) (by simp) (by rfl) 10 (by rfl) (by decide) (fun p hp => by
   obtain rfl : p = ⟨8, a4, c4, [9, 10]⟩ := by simpa using hp
   simp) (by decide) (by simp)).mono ?_
  rintro e w' ⟨h, a5, c5, gd, rfl, r1, r2, r3, r4, r5, r6, r7⟩
  refine ⟨_, 0, rfl, rfl, by kernel_rfl, h, gd, rfl, rfl, r2, r3, ?_, r6, ?_⟩
  ·rw [r5]; rfl
  ·refine (But.refl _ W).trans r7 ?_
   rintro k hk (h | ⟨x, hx, e⟩)
   ·exact .inl h
   ·cases hx
    exact .inr e.symm
 ·rintro W RV c W' b ⟨h, gd, _, _, _, _, _, _, r8⟩
  refine (But.refl _ W).trans r8 ?_
  rintro k hk ((h | h) | h)
  ·omega
  ·omega
  ·have : gx < w.heap.size := gl
   omega
 ·rintro e w' ⟨RV, c, W, W', g, rfl, b, lg, gg, R, ⟨h, gd, rfl, rfl, r2, r3, r4, r6, r8⟩, rfl⟩
  have e1 := (But.refl (fun k => k = g) W').setRow g (.inl rfl) #[.int .i64 h.fam, .int .i64 h.s.fam, .int .u64 h.s.hi, .int .u64 h.s.lo, .int .i64 h.d.fam, .int .u64 h.d.hi, .int .u64 h.d.lo, .int .i64 h.pr, .int .i64 h.ho, .bool false, .int .u32 0, .int .i64 0, .bool false, .slice h.xa h.X.length h.xc, .slice (some ⟨gd, 0, none⟩) 10 10]
  refine ⟨h, gd, rfl, ((But.of_below b (fun k => (k = tb ∨ k = mb) ∨ k = gx)).trans r8 (fun _ _ h => h)).setRow g (.inr lg) _, r2.other (by omega) _, ownsG_but r3 e1 (by omega), (setRow_heap_ne W' g gd _ (by omega)).trans r4⟩
set_option maxRecDepth 100000 in
set_option maxHeartbeats 4000000 in
theorem new_n0 (gr by_ lf : Int) (w : World) (h0 : gr < 0) :
  Calls Try.prog 12 #[.int .i64 gr, .int .i64 by_, .int .i64 lf] w fun e w' => e = .returned (.tuple #[.pointer none, .int .i64 1]) ∧ w' = w := by
 go_enter Try.func12, Try.ntmps12
 go_wp2
 go_ret2
 exact ⟨rfl, rfl⟩
set_option maxRecDepth 100000 in
set_option maxHeartbeats 4000000 in
theorem new_n1 (gr by_ lf : Int) (w : World) (h0 : ¬ gr < 0) (h1 : gr > 256) :
  Calls Try.prog 12 #[.int .i64 gr, .int .i64 by_, .int .i64 lf] w fun e w' => e = .returned (.tuple #[.pointer none, .int .i64 1]) ∧ w' = w := by
 go_enter Try.func12, Try.ntmps12
 go_wp2
 go_ret2
 exact ⟨rfl, rfl⟩
set_option maxRecDepth 100000 in
set_option maxHeartbeats 4000000 in
theorem new_n2 (gr by_ lf : Int) (w : World) (h0 : ¬ gr < 0) (h1 : ¬ gr > 256) (h2 : by_ < 0) :
  Calls Try.prog 12 #[.int .i64 gr, .int .i64 by_, .int .i64 lf] w fun e w' => e = .returned (.tuple #[.pointer none, .int .i64 1]) ∧ w' = w := by
 go_enter Try.func12, Try.ntmps12
 go_wp2
 go_ret2
 exact ⟨rfl, rfl⟩
set_option maxRecDepth 100000 in
set_option maxHeartbeats 4000000 in
theorem new_n3 (gr by_ lf : Int) (w : World) (h0 : ¬ gr < 0) (h1 : ¬ gr > 256) (h2 : ¬ by_ < 0) (h3 : by_ > 1048576) :
  Calls Try.prog 12 #[.int .i64 gr, .int .i64 by_, .int .i64 lf] w fun e w' => e = .returned (.tuple #[.pointer none, .int .i64 1]) ∧ w' = w := by
 go_enter Try.func12, Try.ntmps12
 go_wp2
 go_ret2
 exact ⟨rfl, rfl⟩
set_option maxRecDepth 100000 in
set_option maxHeartbeats 4000000 in
theorem new_n4 (gr by_ lf : Int) (w : World) (h0 : ¬ gr < 0) (h1 : ¬ gr > 256) (h2 : ¬ by_ < 0) (h3 : ¬ by_ > 1048576) (h4 : lf < 1) :
  Calls Try.prog 12 #[.int .i64 gr, .int .i64 by_, .int .i64 lf] w fun e w' => e = .returned (.tuple #[.pointer none, .int .i64 1]) ∧ w' = w := by
 go_enter Try.func12, Try.ntmps12
 go_wp2
 go_ret2
 exact ⟨rfl, rfl⟩
set_option maxRecDepth 100000 in
set_option maxHeartbeats 4000000 in
theorem new_n5 (gr by_ lf : Int) (w : World) (h0 : ¬ gr < 0) (h1 : ¬ gr > 256) (h2 : ¬ by_ < 0) (h3 : ¬ by_ > 1048576) (h4 : ¬ lf < 1) (h5 : lf > 1099511627776) :
  Calls Try.prog 12 #[.int .i64 gr, .int .i64 by_, .int .i64 lf] w fun e w' => e = .returned (.tuple #[.pointer none, .int .i64 1]) ∧ w' = w := by
 go_enter Try.func12, Try.ntmps12
 go_wp2
 go_ret2
 exact ⟨rfl, rfl⟩
set_option maxRecDepth 100000 in
set_option maxHeartbeats 4000000 in
theorem new_y (gr by_ lf : Int) (w : World) (h0 : ¬ gr < 0) (h1 : ¬ gr > 256) (h2 : ¬ by_ < 0) (h3 : ¬ by_ > 1048576) (h4 : ¬ lf < 1) (h5 : ¬ lf > 1099511627776) :
  Calls Try.prog 12 #[.int .i64 gr, .int .i64 by_, .int .i64 lf] w fun e w' => e = .returned (.tuple #[.pointer (some ⟨w.heap.size + 1, 0, none⟩), .int .i64 0]) ∧ w' = (w.alloc (.map #[] 0)).alloc (.cells #[.bool true, .int .i64 gr, .int .i64 by_, .int .i64 lf, .int .i64 0, .int .i64 0, .map (some w.heap.size)] 64) := by
 have hmm := @run_makeMap Try.prog
 obtain ⟨W1, hW1⟩ : ∃ W, w.alloc (.map #[] 0) = W := ⟨_, rfl⟩
 have z1 : W1.heap.size = w.heap.size + 1 := by rw [← hW1]; simp
 have hb : (Instr.build 64 #[(0, .bool true), (1, .int .i64 gr), (2, .int .i64 by_), (3, .int .i64 lf), (6, .map (some w.heap.size))]).run Try.prog W1 = .ok (.agg #[.bool true, .int .i64 gr, .int .i64 by_, .int .i64 lf, .int .i64 0, .int .i64 0, .map (some w.heap.size)]) W1 := by kernel_rfl
 go_enter Try.func12, Try.ntmps12
 go_wp2_with (refine wpList_buildF _ rfl _ _ rfl _ (by rfl) _ hb ?_)
 go_ret2
 exact ⟨rfl, rfl⟩
theorem row_blk {w : World} {g : Nat} {l : List Int} (h : Blk w g 5 (l.map (Value.int .u8)).toArray) (hl : l.length ≤ 140737488355328) (hb : M.Bytes l) : Row w (some ⟨g, 0, none⟩) l :=
 ⟨hl, hb, fun _ => ⟨g, 0, rfl, fun i hi => by
  rw [Nat.zero_add]
  exact h.cell i _ (by simp [hi])⟩⟩
theorem Wt.below {w w' : World} {tb mb : Nat} {g : Gm} (H : Wt w tb mb g) (k : Below w.heap.size w w') : Wt w' tb mb g :=
 ⟨H.tab.kept k, ownsG_but H.map (But.of_below k (fun _ => False)) (fun x => x), H.row.below k, H.apart, ⟨fun p hp x hx => Nat.lt_of_lt_of_le (H.lies.ps p hp x hx) k.size, fun x hx => Nat.lt_of_lt_of_le (H.lies.xs x hx) k.size⟩, H.off⟩
theorem none_left (v : DataW Value) : Maps.size (((DataW.map []).put KN v).del KN) = 0 := by rfl
set_option maxRecDepth 100000 in
set_option maxHeartbeats 4000000 in
theorem falive_any (w : World) : Calls Try.prog 14 #[] w fun e w' => e = .returned (.bool true) ∧ Below w.heap.size w w' := by
 have K1 : Hid _ := new_y 4 100 10 w (by decide) (by decide) (by decide) (by decide) (by decide) (by decide)
 go_enter Try.func14, Try.ntmps14
 go_wp2_with fail
 refine Calls.mono K1.out ?_
 rintro e W1 ⟨rfl, h1⟩
 have b1 : Below w.heap.size w W1 := by rw [h1]; exact ((Below.refl _ _).alloc (Nat.le_refl _) _).alloc (by simp) _
 have T1 : Blk W1 (w.heap.size + 1) 64 #[.bool true, .int .i64 4, .int .i64 100, .int .i64 10, .int .i64 0, .int .i64 0, .map (some w.heap.size)] := by
  rw [h1]
  have := blk_new (w.alloc (.map #[] 0)) #[.bool true, .int .i64 4, .int .i64 100, .int .i64 10, .int .i64 0, .int .i64 0, .map (some w.heap.size)] 64
  simpa using this
 have M1 : OwnsG W1 w.heap.size 0 (.map []) := by rw [h1]; exact (ownsG_new w).alloc _
 clear K1 h1
 have s1 : w.heap.size + 1 < W1.heap.size := T1.lt
 go_wp2_with fail
 obtain ⟨W2, hW2⟩ : ∃ W, W1.alloc (.cells #[.int .u8 9, .int .u8 10] 5) = W := ⟨_, rfl⟩
 rw [hW2]
 have k2 := bel_nw hW2
 have d2 := row_blk (l := [9, 10]) (blk_nw hW2) (by simp) (by intro x hx; simp at hx; omega)
 have s2 : W1.heap.size < W2.heap.size := (blk_nw hW2).lt
 refine Calls.mono (piece_any 8 false (some ⟨W1.heap.size, 0, none⟩) 2 2 W2) ?_
 rintro e W3 ⟨rfl, j3⟩
 have k3 := bel_tr k2 j3
 have T3 := T1.kept k3
 have M3 := ownsG_but M1 (But.of_below k3 (fun _ => False)) (fun x => x)
 have d3 := d2.below j3
 have s3 := j3.size
 clear hW2 k2 d2 T1 M1
 have KP : Hid _ := put_one (w.heap.size + 1) w.heap.size (some ⟨W1.heap.size, 0, none⟩) 2 W3 T3 M3 (by omega) d3 (by simp) (fun x hx => by cases hx; show W1.heap.size < W3.heap.size; omega)
 go_wp2_with fail
 refine Calls.mono KP.out ?_
 rintro e W4 ⟨rfl, f4, gx, cx, a4, c4, lx, H4⟩
 have s4 := f4.size
 have b4 : Below w.heap.size w W4 := b1.trans ((But.trans (But.of_below k3 (fun k => k = w.heap.size + 1 ∨ k = w.heap.size)) f4 (fun _ _ h => h)).to_below (B := w.heap.size) (by omega) (by intro k hk; omega))
 clear KP T3 M3 d3 j3 k3 f4 b1
 obtain ⟨W5, hW5⟩ : ∃ W, W4.alloc (.cells #[.int .i64 0, .int .i64 0, .int .u64 0, .int .u64 0, .int .i64 0, .int .u64 0, .int .u64 0, .int .i64 0, .int .i64 0, .bool false, .int .u32 0, .int .i64 0, .bool false, .slice none 0 0, .slice none 0 0] 42) = W := ⟨_, rfl⟩
 have R5 := blk_nw hW5
 have k5 := below_setRow (bel_nw hW5) (Nat.le_refl _) #[.int .i64 0, .int .i64 0, .int .u64 0, .int .u64 0, .int .i64 0, .int .u64 0, .int .u64 0, .int .i64 0, .int .i64 0, .bool false, .int .u32 0, .int .i64 0, .bool false, .slice none 0 0, .slice none 0 0]
 go_wp2_with (first
  | (refine wpList_store_row rfl _ _ _ rfl W4.heap.size #[.int .i64 0, .int .i64 0, .int .u64 0, .int .u64 0, .int .i64 0, .int .u64 0, .int .u64 0, .int .i64 0, .int .i64 0, .bool false, .int .u32 0, .int .i64 0, .bool false, .slice none 0 0, .slice none 0 0] (by rfl) (by rfl) _ _ R5 (by kernel_rfl) (by rfl) (by kernel_rfl) ?_))
 obtain ⟨W6, hW6⟩ : ∃ W, W5.setRow W4.heap.size #[.int .i64 0, .int .i64 0, .int .u64 0, .int .u64 0, .int .i64 0, .int .u64 0, .int .u64 0, .int .i64 0, .int .i64 0, .bool false, .int .u32 0, .int .i64 0, .bool false, .slice none 0 0, .slice none 0 0] = W := ⟨_, rfl⟩
 have z6 : W6.heap.size = W5.heap.size := by rw [← hW6]; simp [World.setRow]
 rw [hW6] at k5
 obtain ⟨W7, hW7⟩ : ∃ W, W6.alloc (.cells #[.int .u8 1, .int .u8 2, .int .u8 3, .int .u8 4, .int .u8 5, .int .u8 6, .int .u8 7, .int .u8 8] 5) = W := ⟨_, rfl⟩
 rw [hW6, hW7, ← z6]
 have k7 := bel_nw hW7
 have d7 := row_blk (l := [1, 2, 3, 4, 5, 6, 7, 8]) (blk_nw hW7) (by simp) (by intro x hx; simp at hx; omega)
 have s7 : W6.heap.size < W7.heap.size := (blk_nw hW7).lt
 have s6 := k5.size
 refine Calls.mono (piece_any 0 true (some ⟨W6.heap.size, 0, none⟩) 8 8 W7) ?_
 rintro e W8 ⟨rfl, j8⟩
 have k8 := bel_tr (bel_tr k5 k7) j8
 have H8 := H4.below k8
 have d8 := d7.below j8
 have s8 := j8.size
 have b8 := b4.trans (k8.mono (show w.heap.size ≤ W4.heap.size by omega))
 have KP : Hid _ := put_two (w.heap.size + 1) w.heap.size gx cx c4 a4 (some ⟨W6.heap.size, 0, none⟩) 8 W8 H8 (by omega) d8 (by simp) (fun x hx => by cases hx; show W6.heap.size < W8.heap.size; omega)
 clear hW5 R5 k5 hW6 hW7 k7 d7 d8 j8 k8 H4 H8 b4 z6
 go_wp2_with fail
 refine Calls.mono KP.out ?_
 rintro e W9 ⟨h, gd, rfl, f9, T9, M9, D9⟩
 have b9 : Below w.heap.size w W9 := b8.trans (f9.to_below (B := w.heap.size) (by omega) (by intro k hk; omega))
 have lg : gd < W9.heap.size := (Array.getElem?_eq_some_iff.1 D9).1
 have lT := T9.lt
 have lM := M9.lt
 clear KP f9 b8
 obtain ⟨W10, hW10⟩ : ∃ W, W9.alloc (.cells #[.int .i64 0, .int .i64 0, .int .u64 0, .int .u64 0, .int .i64 0, .int .u64 0, .int .u64 0, .int .i64 0, .int .i64 0, .bool false, .int .u32 0, .int .i64 0, .bool false, .slice none 0 0, .slice none 0 0] 42) = W := ⟨_, rfl⟩
 have R10 := blk_nw hW10
 have k10 := below_setRow (bel_nw hW10) (Nat.le_refl _) #[.int .i64 h.fam, .int .i64 h.s.fam, .int .u64 h.s.hi, .int .u64 h.s.lo, .int .i64 h.d.fam, .int .u64 h.d.hi, .int .u64 h.d.lo, .int .i64 h.pr, .int .i64 h.ho, .bool false, .int .u32 0, .int .i64 0, .bool false, .slice h.xa h.X.length h.xc, .slice (some ⟨gd, 0, none⟩) 10 10]
 have b11 := bel_tr b9 k10
 have R11 := R10.set #[.int .i64 h.fam, .int .i64 h.s.fam, .int .u64 h.s.hi, .int .u64 h.s.lo, .int .i64 h.d.fam, .int .u64 h.d.hi, .int .u64 h.d.lo, .int .i64 h.pr, .int .i64 h.ho, .bool false, .int .u32 0, .int .i64 0, .bool false, .slice h.xa h.X.length h.xc, .slice (some ⟨gd, 0, none⟩) 10 10]
 have T11 := T9.kept k10
 have M11 := ownsG_but M9 (But.of_below k10 (fun _ => False)) (fun x => x)
 have D11 : (W10.setRow W9.heap.size #[.int .i64 h.fam, .int .i64 h.s.fam, .int .u64 h.s.hi, .int .u64 h.s.lo, .int .i64 h.d.fam, .int .u64 h.d.hi, .int .u64 h.d.lo, .int .i64 h.pr, .int .i64 h.ho, .bool false, .int .u32 0, .int .i64 0, .bool false, .slice h.xa h.X.length h.xc, .slice (some ⟨gd, 0, none⟩) 10 10]).cell? ⟨gd, 9, none⟩ = some (.int .u8 10) := Blk.cell (t := 5) ((k10.block gd lg).trans D9) 9 _ rfl
 have q14 := R11.cell 14 (.slice (some ⟨gd, 0, none⟩) 10 10) rfl
 have KG : Hid _ := fGrams_at (w.heap.size + 1) w.heap.size 1 _ _ (T11.cell 0 (.bool true) rfl) (T11.cell 6 (.map (some w.heap.size)) rfl) M11
 rw [none_left] at KG
 clear T9 M9 D9 b9 k10 T11 M11 R11
 obtain ⟨W11, hW11⟩ : ∃ W, W10.setRow W9.heap.size #[.int .i64 h.fam, .int .i64 h.s.fam, .int .u64 h.s.hi, .int .u64 h.s.lo, .int .i64 h.d.fam, .int .u64 h.d.hi, .int .u64 h.d.lo, .int .i64 h.pr, .int .i64 h.ho, .bool false, .int .u32 0, .int .i64 0, .bool false, .slice h.xa h.X.length h.xc, .slice (some ⟨gd, 0, none⟩) 10 10] = W := ⟨_, rfl⟩
 rw [hW11] at D11 q14 KG b11
 have HW : Hid _ := hW11
 clear hW11
 go_wp2_with (refine wpList_store_row rfl _ _ _ rfl W9.heap.size #[.int .i64 h.fam, .int .i64 h.s.fam, .int .u64 h.s.hi, .int .u64 h.s.lo, .int .i64 h.d.fam, .int .u64 h.d.hi, .int .u64 h.d.lo, .int .i64 h.pr, .int .i64 h.ho, .bool false, .int .u32 0, .int .i64 0, .bool false, .slice h.xa h.X.length h.xc, .slice (some ⟨gd, 0, none⟩) 10 10] (by rfl) (by rfl) _ _ R10 (by kernel_rfl) (by rfl) (by kernel_rfl) ?_; rw [HW.out])
 refine Calls.mono KG.out ?_
 rintro e w' ⟨rfl, rfl⟩
 clear KG HW
 go_wp2
 go_ret
 exact ⟨rfl, b11⟩
end Go.Proofs.Ytkeeidfpgfdldaa
