/- Texts joined: FhC -/
import Derived.Test.YtebdpiedgjdjeaaFga35
namespace Go.Proofs.Ytebdpiedgjdjeaa
open Go.RowKit
set_option linter.unusedVariables false
set_option linter.unusedSimpArgs false
theorem isMap_nil : Maps.IsMap (DataW.map ([] : List _) : DataW Value) := ⟨_, rfl⟩
theorem keyLit_own : WideAt.IsKeyLit KN := by simp [WideAt.IsKeyLit]
theorem gmn_one (gx cx c4 : Nat) (a4 : Option Addr) : GmN ((zeroG.at_ 10).more zeroG.hd gx cx ⟨8, a4, c4, [9, 10]⟩ false) := by
  refine ⟨fun p hp => ?_, ?_, ?_⟩
  · obtain rfl : p = ⟨8, a4, c4, [9, 10]⟩ := by simpa using hp
    simp
  · simp
  · simp
set_option maxRecDepth 100000 in
set_option maxHeartbeats 4000000 in
theorem put_two (tb mb gx cx c4 : Nat) (a4 : Option Addr) (da : Option Addr) (dc : Nat) (w : World) (H : Wt w tb mb ((zeroG.at_ 10).more zeroG.hd gx cx ⟨8, a4, c4, [9, 10]⟩ false)) (hne : tb ≠ mb) (hdat : Row w da [1, 2, 3, 4, 5, 6, 7, 8]) (hnil : da = none → dc = 0) (hdl : ∀ x, da = some x → x.block < w.heap.size) :
    Calls Try.prog 17 #[.pointer (some ⟨tb, 0, none⟩), .agg #[.int .i64 4, .int .i64 4, .int .u64 0, .int .u64 1, .int .i64 4, .int .u64 0, .int .u64 2, .int .i64 17, .int .i64 5, .bool true, .int .u32 9, .int .i64 0, .bool true, .slice none 0 0, .slice da 8 dc]] w fun e w' => ∃ (h : Hd) (gd : Nat), e = .returned (.tuple #[.agg #[.int .i64 h.fam, .int .i64 h.s.fam, .int .u64 h.s.hi, .int .u64 h.s.lo, .int .i64 h.d.fam, .int .u64 h.d.hi, .int .u64 h.d.lo, .int .i64 h.pr, .int .i64 h.ho, .bool false, .int .u32 0, .int .i64 0, .bool false, .slice h.xa h.X.length h.xc, .slice (some ⟨gd, 0, none⟩) 10 10], .int .i64 0]) ∧ But (fun k => (k = tb ∨ k = mb) ∨ k = gx) w w' ∧ Blk w' tb 64 #[.bool true, .int .i64 4, .int .i64 100, .int .i64 10, .int .i64 0, .int .i64 (2 - ((zeroG.at_ 10).more zeroG.hd gx cx ⟨8, a4, c4, [9, 10]⟩ false).size), .map (some mb)] ∧ OwnsG w' mb 1 (((DataW.map []).put KN (.held (.agg ((zeroG.at_ 10).more zeroG.hd gx cx ⟨8, a4, c4, [9, 10]⟩ false).v))).del KN) ∧ w'.heap[gd]? = some (.cells (([1, 2, 3, 4, 5, 6, 7, 8, 9, 10] : List Int).map (Value.int .u8)).toArray 5 (0, 0)) := by
  have tl := H.tab.lt
  have ml := H.map.lt
  have gl := ownsRow_lt H.row.row ⟨gx, 0, none⟩ rfl
  refine (put_take tb 4 4 0 1 4 0 2 17 5 true 9 0 true none 0 [] da dc [1, 2, 3, 4, 5, 6, 7, 8] w (H.tab.cell 0 (.bool true) rfl) (by simp) rfl wrong_two
    (fun W RV c W' => ∃ (h : Hd) (gd : Nat), RV = #[.int .i64 h.fam, .int .i64 h.s.fam, .int .u64 h.s.hi, .int .u64 h.s.lo, .int .i64 h.d.fam, .int .u64 h.d.hi, .int .u64 h.d.lo, .int .i64 h.pr, .int .i64 h.ho, .bool false, .int .u32 0, .int .i64 0, .bool false, .slice h.xa h.X.length h.xc, .slice (some ⟨gd, 0, none⟩) 10 10] ∧ c = 0 ∧ Blk W' tb 64 #[.bool true, .int .i64 4, .int .i64 100, .int .i64 10, .int .i64 0, .int .i64 (2 - ((zeroG.at_ 10).more zeroG.hd gx cx ⟨8, a4, c4, [9, 10]⟩ false).size), .map (some mb)] ∧ OwnsG W' mb 1 (((DataW.map []).put KN (.held (.agg ((zeroG.at_ 10).more zeroG.hd gx cx ⟨8, a4, c4, [9, 10]⟩ false).v))).del KN) ∧ W'.heap[gd]? = some (.cells (([1, 2, 3, 4, 5, 6, 7, 8, 9, 10] : List Int).map (Value.int .u8)).toArray 5 (0, 0)) ∧ W.heap.size ≤ gd ∧ But (fun k => (k = tb ∨ k = mb) ∨ k = gx) W W') ?_ ?_).mono ?_
  · intro W b
    have B := H.tab.kept b
    have M := ownsG_but H.map (But.of_below b (fun _ => False)) (fun x => x)
    refine (take_whole tb mb 1 4 100 10 0 2 _ ((zeroG.at_ 10).more zeroG.hd gx cx ⟨8, a4, c4, [9, 10]⟩ false) KN _ 4 4 0 1 4 0 2 17 5 true 9 0 true none 0 [] da dc [1, 2, 3, 4, 5, 6, 7, 8] W B M key_own (Maps.atKey_put_same isMap_nil keyLit_own _ _) rfl (by kernel_rfl) (fun W => nameOf_4 4 4 0 1 4 0 2 17 5 true 9 0 true none 0 [] da dc [1, 2, 3, 4, 5, 6, 7, 8] W (by decide)) rfl (H.row.below b) (gmn_one gx cx c4 a4) (by decide) (by decide) (by decide) (clash_two _ _ _ _ _ _) (by decide) (by decide) (by decide) (by decide) hne 10 (by split <;> rfl) (by decide) (by decide) (by decide) (by decide) (fun h => by rw [Maps.has_put_same isMap_nil keyLit_own] at h; cases h) H.apart ⟨fun p hp x hx => Nat.lt_of_lt_of_le (H.lies.ps p hp x hx) b.size, fun x hx => Nat.lt_of_lt_of_le (H.lies.xs x hx) b.size⟩ H.off (by simp) (hdat.below b) hnil (fun x hx => Nat.lt_of_lt_of_le (hdl x hx) b.size) (rowI_nil W none) (by simp) (by rfl) 10 (by rfl) (by decide) (fun p hp => by
      obtain rfl : p = ⟨8, a4, c4, [9, 10]⟩ := by simpa using hp
      simp) (by decide) (by simp)).mono ?_
    rintro e w' ⟨h, a5, c5, gd, rfl, r1, r2, r3, r4, r5, r6, r7⟩
    refine ⟨_, 0, rfl, rfl, by kernel_rfl, h, gd, rfl, rfl, r2, r3, ?_, r6, ?_⟩
    · rw [r5]; rfl
    · refine (But.refl _ W).trans r7 ?_
      rintro k hk (h | ⟨x, hx, e⟩)
      · exact .inl h
      · cases hx
        exact .inr e.symm
  · rintro W RV c W' b ⟨h, gd, _, _, _, _, _, _, r8⟩
    refine (But.refl _ W).trans r8 ?_
    rintro k hk ((h | h) | h)
    · omega
    · omega
    · have : gx < w.heap.size := gl
      omega
  · rintro e w' ⟨RV, c, W, W', g, rfl, b, lg, gg, R, ⟨h, gd, rfl, rfl, r2, r3, r4, r6, r8⟩, rfl⟩
    have e1 := (But.refl (fun k => k = g) W').setRow g (.inl rfl) #[.int .i64 h.fam, .int .i64 h.s.fam, .int .u64 h.s.hi, .int .u64 h.s.lo, .int .i64 h.d.fam, .int .u64 h.d.hi, .int .u64 h.d.lo, .int .i64 h.pr, .int .i64 h.ho, .bool false, .int .u32 0, .int .i64 0, .bool false, .slice h.xa h.X.length h.xc, .slice (some ⟨gd, 0, none⟩) 10 10]
    refine ⟨h, gd, rfl, ((But.of_below b (fun k => (k = tb ∨ k = mb) ∨ k = gx)).trans r8 (fun _ _ h => h)).setRow g (.inr lg) _, r2.other (by omega) _, ownsG_but r3 e1 (by omega), (setRow_heap_ne W' g gd _ (by omega)).trans r4⟩
end Go.Proofs.Ytebdpiedgjdjeaa
