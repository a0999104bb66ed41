/- Texts joined: FhB -/
import Derived.Test.YtebdpiedgjdjeaaFga31
import Derived.Test.YtebdpiedgjdjeaaFga32
import Derived.Test.YtebdpiedgjdjeaaFga33
import Derived.Test.YtebdpiedgjdjeaaFga34
namespace Go.Proofs.Ytebdpiedgjdjeaa
open Go.RowKit
set_option linter.unusedVariables false
set_option linter.unusedSimpArgs false
set_option maxRecDepth 100000 in
set_option maxHeartbeats 4000000 in
theorem piece_any (of : Int) (mo : Bool) (da : Option Addr) (dn dc : Nat) (w : World) :
    Calls Try.prog 25 #[.int .i64 of, .bool mo, .slice da dn dc] w fun e w' => e = .returned (.agg #[.int .i64 4, .int .i64 4, .int .u64 0, .int .u64 1, .int .i64 4, .int .u64 0, .int .u64 2, .int .i64 17, .int .i64 5, .bool true, .int .u32 9, .int .i64 of, .bool mo, .slice none 0 0, .slice da dn dc]) ∧ Below w.heap.size w w' := by
  obtain ⟨W1, hW1⟩ : ∃ W, w.alloc (.cells #[.int .i64 0, .int .i64 0, .int .u64 0, .int .u64 0, .int .i64 0, .int .u64 0, .int .u64 0, .int .i64 0, .int .i64 0, .bool false, .int .u32 0, .int .i64 0, .bool false, .slice none 0 0, .slice none 0 0] 42) = W := ⟨_, rfl⟩
  have R1 := blk_nw hW1
  have b1 := bel_nw hW1
  have h1 : (Instr.build 37 #[(0, .int .i64 4), (2, .int .u64 1)]).run Try.prog W1 = .ok (.agg #[.int .i64 4, .int .u64 0, .int .u64 1]) W1 := by kernel_rfl
  have h2 : (Instr.build 37 #[(0, .int .i64 4), (2, .int .u64 2)]).run Try.prog W1 = .ok (.agg #[.int .i64 4, .int .u64 0, .int .u64 2]) W1 := by kernel_rfl
  have h3 : (Instr.build 42 #[(0, .int .i64 4), (1, .agg #[.int .i64 4, .int .u64 0, .int .u64 1]), (2, .agg #[.int .i64 4, .int .u64 0, .int .u64 2]), (3, .int .i64 17), (4, .int .i64 5), (5, .bool true), (6, .int .u32 9), (7, .int .i64 of), (8, .bool mo), (10, .slice da dn dc)]).run Try.prog W1 = .ok (.agg #[.int .i64 4, .int .i64 4, .int .u64 0, .int .u64 1, .int .i64 4, .int .u64 0, .int .u64 2, .int .i64 17, .int .i64 5, .bool true, .int .u32 9, .int .i64 of, .bool mo, .slice none 0 0, .slice da dn dc]) W1 := by kernel_rfl
  have Rf := R1.set #[.int .i64 4, .int .i64 4, .int .u64 0, .int .u64 1, .int .i64 4, .int .u64 0, .int .u64 2, .int .i64 17, .int .i64 5, .bool true, .int .u32 9, .int .i64 of, .bool mo, .slice none 0 0, .slice da dn dc]
  have bf := below_setRow b1 (Nat.le_refl _) #[.int .i64 4, .int .i64 4, .int .u64 0, .int .u64 1, .int .i64 4, .int .u64 0, .int .u64 2, .int .i64 17, .int .i64 5, .bool true, .int .u32 9, .int .i64 of, .bool mo, .slice none 0 0, .slice da dn dc]
  go_enter Try.func25, Try.ntmps25
  go_wp2_with (first
    | (refine wpList_buildF _ rfl _ _ rfl _ (by rfl) _ h1 ?_)
    | (refine wpList_buildF _ rfl _ _ rfl _ (by rfl) _ h2 ?_)
    | (refine wpList_buildF _ rfl _ _ rfl _ (by first | rfl | kernel_rfl) _ h3 ?_)
    | (refine wpList_store_row rfl _ _ _ rfl w.heap.size #[.int .i64 4, .int .i64 4, .int .u64 0, .int .u64 1, .int .i64 4, .int .u64 0, .int .u64 2, .int .i64 17, .int .i64 5, .bool true, .int .u32 9, .int .i64 of, .bool mo, .slice none 0 0, .slice da dn dc] (by rfl) (by rfl) _ _ R1 (by kernel_rfl) (by rfl) (by kernel_rfl) ?_))
  exact ret_cell (k := 6) Try.f25 (by kernel_rfl) Rf Try.underlying42 (by kernel_rfl) (by rfl) rfl ⟨rfl, bf⟩
/-- The law's own name, as a key. -/
abbrev KN : Lit := .string (keyBytes [.int .i64 4, .int .u64 0, .int .u64 1, .int .i64 4, .int .u64 0, .int .u64 2, .int .i64 17, .int .u32 9])
theorem key_own : keyOf Try.prog 72 (.agg #[.int .i64 4, .int .u64 0, .int .u64 1, .int .i64 4, .int .u64 0, .int .u64 2, .int .i64 17, .int .u32 9]) = some KN :=
  key_name 4 0 1 4 0 2 17 9 (by decide) (by decide) (by decide) (by decide) (by decide) (by decide) (by decide) (by decide)
theorem rowI_nil (w : World) (a : Option Addr) : RowI w a [] := ⟨by simp, fun h => absurd h (by simp)⟩
theorem gmr_zero (w : World) : GmR w zeroG := ⟨⟨rfl, .inl ⟨rfl, rfl⟩⟩, by simp, rowI_nil w none, by simp⟩
theorem gmn_zero : GmN zeroG := ⟨by simp, by simp, by simp⟩
theorem gma_zero : GmA zeroG := ⟨by simp, by simp⟩
theorem gml_zero (B : Nat) : GmL zeroG B := ⟨by simp, by simp⟩
theorem gmo_zero (F : Nat → Prop) : GmO zeroG F := ⟨by simp, fun x hx => by simp at hx⟩
theorem clash_one : clashB zeroG 8 false 2 = false := by decide
theorem wrong_one : wrongF 4 ⟨4, 0, 1⟩ ⟨4, 0, 2⟩ 8 false 2 = 0 := by decide
theorem wrong_two : wrongF 4 ⟨4, 0, 1⟩ ⟨4, 0, 2⟩ 0 true 8 = 0 := by decide
theorem clash_two (t : Int) (h : Hd) (gx cx c4 : Nat) (a4 : Option Addr) : clashB ((zeroG.at_ t).more h gx cx ⟨8, a4, c4, [9, 10]⟩ false) 0 true 8 = false := by simp [clashB, shareB]
/-- The first fragment waits. -/
structure Wt (w : World) (tb mb : Nat) (g : Gm) : Prop where
  tab : Blk w tb 64 #[.bool true, .int .i64 4, .int .i64 100, .int .i64 10, .int .i64 0, .int .i64 2, .map (some mb)]
  map : OwnsG w mb 1 ((DataW.map []).put KN (.held (.agg g.v)))
  row : GmR w g
  apart : GmA g
  lies : GmL g w.heap.size
  off : GmO g (fun k => k = tb ∨ k = mb)
set_option maxRecDepth 100000 in
set_option maxHeartbeats 4000000 in
theorem put_one (tb mb : Nat) (da : Option Addr) (dc : Nat) (w : World) (hb : Blk w tb 64 #[.bool true, .int .i64 4, .int .i64 100, .int .i64 10, .int .i64 0, .int .i64 0, .map (some mb)]) (hm : OwnsG w mb 0 (.map [])) (hne : tb ≠ mb) (hdat : Row w da [9, 10]) (hnil : da = none → dc = 0) (hdl : ∀ x, da = some x → x.block < w.heap.size) :
    Calls Try.prog 17 #[.pointer (some ⟨tb, 0, none⟩), .agg #[.int .i64 4, .int .i64 4, .int .u64 0, .int .u64 1, .int .i64 4, .int .u64 0, .int .u64 2, .int .i64 17, .int .i64 5, .bool true, .int .u32 9, .int .i64 8, .bool false, .slice none 0 0, .slice da 2 dc]] w fun e w' => e = .returned (.tuple #[.agg #[.int .i64 0, .int .i64 0, .int .u64 0, .int .u64 0, .int .i64 0, .int .u64 0, .int .u64 0, .int .i64 0, .int .i64 0, .bool false, .int .u32 0, .int .i64 0, .bool false, .slice none 0 0, .slice none 0 0], .int .i64 19]) ∧ But (fun k => k = tb ∨ k = mb) w w' ∧ ∃ gx cx a4 c4, w.heap.size ≤ gx ∧ Wt w' tb mb ((zeroG.at_ 10).more zeroG.hd gx cx ⟨8, a4, c4, [9, 10]⟩ false) := by
  have tl := hb.lt
  have ml := hm.lt
  refine (put_take tb 4 4 0 1 4 0 2 17 5 true 9 8 false none 0 [] da dc [9, 10] w (hb.cell 0 (.bool true) rfl) (by simp) rfl wrong_one
    (fun W RV c W' => RV = #[.int .i64 0, .int .i64 0, .int .u64 0, .int .u64 0, .int .i64 0, .int .u64 0, .int .u64 0, .int .i64 0, .int .i64 0, .bool false, .int .u32 0, .int .i64 0, .bool false, .slice none 0 0, .slice none 0 0] ∧ c = 19 ∧ ∃ h gx cx a4 c4, HdOf W.heap.size W'.heap.size zeroG.hd h 4 4 0 1 4 0 2 17 5 8 [] ∧ Blk W' tb 64 #[.bool true, .int .i64 4, .int .i64 100, .int .i64 10, .int .i64 0, .int .i64 2, .map (some mb)] ∧ OwnsG W' mb 1 ((DataW.map []).put KN (.held (.agg ((zeroG.at_ 10).more h gx cx ⟨8, a4, c4, [9, 10]⟩ false).v))) ∧ GmR W' ((zeroG.at_ 10).more h gx cx ⟨8, a4, c4, [9, 10]⟩ false) ∧ GmA ((zeroG.at_ 10).more h gx cx ⟨8, a4, c4, [9, 10]⟩ false) ∧ New W.heap.size a4 ∧ W.heap.size ≤ gx ∧ But (fun k => k = tb ∨ k = mb) W W') ?_ ?_).mono ?_
  · intro W b
    have B := hb.kept b
    have M := ownsG_but hm (But.of_below b (fun _ => False)) (fun x => x)
    refine (take_wait tb mb 0 4 100 10 0 0 (.map []) zeroG KN _ 4 4 0 1 4 0 2 17 5 true 9 8 false none 0 [] da dc [9, 10] W B M key_own rfl rfl (by kernel_rfl) (fun W => nameOf_4 4 4 0 1 4 0 2 17 5 true 9 8 false none 0 [] da dc [9, 10] W (by decide)) rfl (gmr_zero W) gmn_zero (by decide) (by decide) (by decide) clash_one (by decide) (by decide) (by decide) (by decide) hne 10 (by decide) (by decide) (by decide) (by decide) (by decide) (by decide) gma_zero (gml_zero _) (gmo_zero _) (by decide) (hdat.below b) hnil (fun x hx => Nat.lt_of_lt_of_le (hdl x hx) b.size) (rowI_nil W none) (by simp) (by decide) (by decide)).mono ?_
    rintro e w' ⟨rfl, h, gx, cx, a4, c4, r1, r2, r3, r4, r5, r6, r7, r8⟩
    refine ⟨_, 19, rfl, rfl, by kernel_rfl, rfl, rfl, h, gx, cx, a4, c4, r1, r2, r3, r4, r5, r6, ?_, ?_⟩
    · rcases r7 with ⟨x, hx, _⟩ | r7
      · cases hx
      · exact r7
    · refine (But.refl _ W).trans r8 ?_
      rintro k hk (h | ⟨x, hx, _⟩)
      · exact h
      · cases hx
  · rintro W RV c W' b ⟨_, _, h, gx, cx, a4, c4, _, _, _, _, _, _, _, r8⟩
    refine (But.refl _ W).trans r8 ?_
    rintro k hk (h | h) <;> omega
  · rintro e w' ⟨RV, c, W, W', g, rfl, b, lg, gl, R, ⟨rfl, rfl, h, gx, cx, a4, c4, r1, r2, r3, r4, r5, r6, r7, r8⟩, rfl⟩
    rcases r1 with ⟨h8, _⟩ | ⟨_, rfl⟩
    · exact absurd h8 (by decide)
    have e1 := (But.refl (fun k => k = g) W').setRow g (.inl rfl) #[.int .i64 0, .int .i64 0, .int .u64 0, .int .u64 0, .int .i64 0, .int .u64 0, .int .u64 0, .int .i64 0, .int .i64 0, .bool false, .int .u32 0, .int .i64 0, .bool false, .slice none 0 0, .slice none 0 0]
    have ew : But (fun k => k = tb ∨ k = mb) w (W'.setRow g #[.int .i64 0, .int .i64 0, .int .u64 0, .int .u64 0, .int .i64 0, .int .u64 0, .int .u64 0, .int .i64 0, .int .i64 0, .bool false, .int .u32 0, .int .i64 0, .bool false, .slice none 0 0, .slice none 0 0]) := by
      refine ((But.of_below b (fun k => k = tb ∨ k = mb)).trans r8 (fun _ _ h => h)).setRow g (.inr lg) _
    have go : GmO ((zeroG.at_ 10).more zeroG.hd gx cx ⟨8, a4, c4, [9, 10]⟩ false) (fun k => (k = tb ∨ k = mb) ∨ k = g) := ⟨fun p hp x hx hF => by
      obtain rfl : p = ⟨8, a4, c4, [9, 10]⟩ := by simpa using hp
      have := r6 x hx
      have := b.size
      omega, fun x hx => by simp at hx⟩
    have bs := b.size
    refine ⟨rfl, ew, gx, cx, a4, c4, by omega, r2.other (by omega) _, ownsG_but r3 e1 (by omega), ?_, r5, ?_, ?_⟩
    · refine r4.but e1 ⟨fun p hp x hx hF => go.ps p hp x hx (.inr hF), fun x hx => by simp at hx⟩ (fun x hx hF => ?_)
      cases hx
      have hF : gx = g := hF
      omega
    · refine ⟨fun p hp x hx => ?_, fun x hx => by simp at hx⟩
      obtain rfl : p = ⟨8, a4, c4, [9, 10]⟩ := by simpa using hp
      obtain ⟨bb, off, hbb, hc⟩ := (r4.each ⟨8, a4, c4, [9, 10]⟩ (by simp)).1.cells (by simp)
      have hl := World.block_lt_of_cell? _ _ (hc 0 (by simp))
      have : a4 = some x := hx
      have hbb : a4 = some ⟨bb, off, none⟩ := hbb
      rw [hbb] at this
      cases this
      exact Nat.lt_of_lt_of_le hl e1.size
    · exact ⟨fun p hp x hx hF => go.ps p hp x hx (.inl hF), fun x hx hF => go.xs x hx (.inl hF)⟩
end Go.Proofs.Ytebdpiedgjdjeaa
