/- Texts joined: FhD -/
import Derived.Test.YtebdpiedgjdjeaaFga36
import Derived.Test.YtebdpiedgjdjeaaFga37
namespace Go.Proofs.Ytebdpiedgjdjeaa
open Go.RowKit
set_option linter.unusedVariables false
set_option linter.unusedSimpArgs false
theorem row_blk {w : World} {g : Nat} {l : List Int} (h : Blk w g 5 (l.map (Value.int .u8)).toArray) (hl : l.length ≤ 140737488355328) (hb : M.Bytes l) : Row w (some ⟨g, 0, none⟩) l :=
  ⟨hl, hb, fun _ => ⟨g, 0, rfl, fun i hi => by
    rw [Nat.zero_add]
    exact h.cell i _ (by simp [hi])⟩⟩
theorem Wt.below {w w' : World} {tb mb : Nat} {g : Gm} (H : Wt w tb mb g) (k : Below w.heap.size w w') : Wt w' tb mb g :=
  ⟨H.tab.kept k, ownsG_but H.map (But.of_below k (fun _ => False)) (fun x => x), H.row.below k, H.apart, ⟨fun p hp x hx => Nat.lt_of_lt_of_le (H.lies.ps p hp x hx) k.size, fun x hx => Nat.lt_of_lt_of_le (H.lies.xs x hx) k.size⟩, H.off⟩
theorem none_left (v : DataW Value) : Maps.size (((DataW.map []).put KN v).del KN) = 0 := by rfl
set_option maxRecDepth 100000 in
set_option maxHeartbeats 4000000 in
theorem falive_any (w : World) : Calls Try.prog 14 #[] w fun e w' => e = .returned (.bool true) ∧ Below w.heap.size w w' := by
  have K1 : Hid _ := new_y 4 100 10 w (by decide) (by decide) (by decide) (by decide) (by decide) (by decide)
  go_enter Try.func14, Try.ntmps14
  go_wp2_with fail
  refine Calls.mono K1.out ?_
  rintro e W1 ⟨rfl, h1⟩
  have b1 : Below w.heap.size w W1 := by rw [h1]; exact ((Below.refl _ _).alloc (Nat.le_refl _) _).alloc (by simp) _
  have T1 : Blk W1 (w.heap.size + 1) 64 #[.bool true, .int .i64 4, .int .i64 100, .int .i64 10, .int .i64 0, .int .i64 0, .map (some w.heap.size)] := by
    rw [h1]
    have := blk_new (w.alloc (.map #[] 0)) #[.bool true, .int .i64 4, .int .i64 100, .int .i64 10, .int .i64 0, .int .i64 0, .map (some w.heap.size)] 64
    simpa using this
  have M1 : OwnsG W1 w.heap.size 0 (.map []) := by rw [h1]; exact (ownsG_new w).alloc _
  clear K1 h1
  have s1 : w.heap.size + 1 < W1.heap.size := T1.lt
  go_wp2_with fail
  obtain ⟨W2, hW2⟩ : ∃ W, W1.alloc (.cells #[.int .u8 9, .int .u8 10] 5) = W := ⟨_, rfl⟩
  rw [hW2]
  have k2 := bel_nw hW2
  have d2 := row_blk (l := [9, 10]) (blk_nw hW2) (by simp) (by intro x hx; simp at hx; omega)
  have s2 : W1.heap.size < W2.heap.size := (blk_nw hW2).lt
  refine Calls.mono (piece_any 8 false (some ⟨W1.heap.size, 0, none⟩) 2 2 W2) ?_
  rintro e W3 ⟨rfl, j3⟩
  have k3 := bel_tr k2 j3
  have T3 := T1.kept k3
  have M3 := ownsG_but M1 (But.of_below k3 (fun _ => False)) (fun x => x)
  have d3 := d2.below j3
  have s3 := j3.size
  clear hW2 k2 d2 T1 M1
  have KP : Hid _ := put_one (w.heap.size + 1) w.heap.size (some ⟨W1.heap.size, 0, none⟩) 2 W3 T3 M3 (by omega) d3 (by simp) (fun x hx => by cases hx; show W1.heap.size < W3.heap.size; omega)
  go_wp2_with fail
  refine Calls.mono KP.out ?_
  rintro e W4 ⟨rfl, f4, gx, cx, a4, c4, lx, H4⟩
  have s4 := f4.size
  have b4 : Below w.heap.size w W4 := b1.trans ((But.trans (But.of_below k3 (fun k => k = w.heap.size + 1 ∨ k = w.heap.size)) f4 (fun _ _ h => h)).to_below (B := w.heap.size) (by omega) (by intro k hk; omega))
  clear KP T3 M3 d3 j3 k3 f4 b1
  obtain ⟨W5, hW5⟩ : ∃ W, W4.alloc (.cells #[.int .i64 0, .int .i64 0, .int .u64 0, .int .u64 0, .int .i64 0, .int .u64 0, .int .u64 0, .int .i64 0, .int .i64 0, .bool false, .int .u32 0, .int .i64 0, .bool false, .slice none 0 0, .slice none 0 0] 42) = W := ⟨_, rfl⟩
  have R5 := blk_nw hW5
  have k5 := below_setRow (bel_nw hW5) (Nat.le_refl _) #[.int .i64 0, .int .i64 0, .int .u64 0, .int .u64 0, .int .i64 0, .int .u64 0, .int .u64 0, .int .i64 0, .int .i64 0, .bool false, .int .u32 0, .int .i64 0, .bool false, .slice none 0 0, .slice none 0 0]
  go_wp2_with (first
    | (refine wpList_store_row rfl _ _ _ rfl W4.heap.size #[.int .i64 0, .int .i64 0, .int .u64 0, .int .u64 0, .int .i64 0, .int .u64 0, .int .u64 0, .int .i64 0, .int .i64 0, .bool false, .int .u32 0, .int .i64 0, .bool false, .slice none 0 0, .slice none 0 0] (by rfl) (by rfl) _ _ R5 (by kernel_rfl) (by rfl) (by kernel_rfl) ?_))
  obtain ⟨W6, hW6⟩ : ∃ W, W5.setRow W4.heap.size #[.int .i64 0, .int .i64 0, .int .u64 0, .int .u64 0, .int .i64 0, .int .u64 0, .int .u64 0, .int .i64 0, .int .i64 0, .bool false, .int .u32 0, .int .i64 0, .bool false, .slice none 0 0, .slice none 0 0] = W := ⟨_, rfl⟩
  have z6 : W6.heap.size = W5.heap.size := by rw [← hW6]; simp [World.setRow]
  rw [hW6] at k5
  obtain ⟨W7, hW7⟩ : ∃ W, W6.alloc (.cells #[.int .u8 1, .int .u8 2, .int .u8 3, .int .u8 4, .int .u8 5, .int .u8 6, .int .u8 7, .int .u8 8] 5) = W := ⟨_, rfl⟩
  rw [hW6, hW7, ← z6]
  have k7 := bel_nw hW7
  have d7 := row_blk (l := [1, 2, 3, 4, 5, 6, 7, 8]) (blk_nw hW7) (by simp) (by intro x hx; simp at hx; omega)
  have s7 : W6.heap.size < W7.heap.size := (blk_nw hW7).lt
  have s6 := k5.size
  refine Calls.mono (piece_any 0 true (some ⟨W6.heap.size, 0, none⟩) 8 8 W7) ?_
  rintro e W8 ⟨rfl, j8⟩
  have k8 := bel_tr (bel_tr k5 k7) j8
  have H8 := H4.below k8
  have d8 := d7.below j8
  have s8 := j8.size
  have b8 := b4.trans (k8.mono (show w.heap.size ≤ W4.heap.size by omega))
  have KP : Hid _ := put_two (w.heap.size + 1) w.heap.size gx cx c4 a4 (some ⟨W6.heap.size, 0, none⟩) 8 W8 H8 (by omega) d8 (by simp) (fun x hx => by cases hx; show W6.heap.size < W8.heap.size; omega)
  clear hW5 R5 k5 hW6 hW7 k7 d7 d8 j8 k8 H4 H8 b4 z6
  go_wp2_with fail
  refine Calls.mono KP.out ?_
  rintro e W9 ⟨h, gd, rfl, f9, T9, M9, D9⟩
  have b9 : Below w.heap.size w W9 := b8.trans (f9.to_below (B := w.heap.size) (by omega) (by intro k hk; omega))
  have lg : gd < W9.heap.size := (Array.getElem?_eq_some_iff.1 D9).1
  have lT := T9.lt
  have lM := M9.lt
  clear KP f9 b8
  obtain ⟨W10, hW10⟩ : ∃ W, W9.alloc (.cells #[.int .i64 0, .int .i64 0, .int .u64 0, .int .u64 0, .int .i64 0, .int .u64 0, .int .u64 0, .int .i64 0, .int .i64 0, .bool false, .int .u32 0, .int .i64 0, .bool false, .slice none 0 0, .slice none 0 0] 42) = W := ⟨_, rfl⟩
  have R10 := blk_nw hW10
  have k10 := below_setRow (bel_nw hW10) (Nat.le_refl _) #[.int .i64 h.fam, .int .i64 h.s.fam, .int .u64 h.s.hi, .int .u64 h.s.lo, .int .i64 h.d.fam, .int .u64 h.d.hi, .int .u64 h.d.lo, .int .i64 h.pr, .int .i64 h.ho, .bool false, .int .u32 0, .int .i64 0, .bool false, .slice h.xa h.X.length h.xc, .slice (some ⟨gd, 0, none⟩) 10 10]
  have b11 := bel_tr b9 k10
  have R11 := R10.set #[.int .i64 h.fam, .int .i64 h.s.fam, .int .u64 h.s.hi, .int .u64 h.s.lo, .int .i64 h.d.fam, .int .u64 h.d.hi, .int .u64 h.d.lo, .int .i64 h.pr, .int .i64 h.ho, .bool false, .int .u32 0, .int .i64 0, .bool false, .slice h.xa h.X.length h.xc, .slice (some ⟨gd, 0, none⟩) 10 10]
  have T11 := T9.kept k10
  have M11 := ownsG_but M9 (But.of_below k10 (fun _ => False)) (fun x => x)
  have D11 : (W10.setRow W9.heap.size #[.int .i64 h.fam, .int .i64 h.s.fam, .int .u64 h.s.hi, .int .u64 h.s.lo, .int .i64 h.d.fam, .int .u64 h.d.hi, .int .u64 h.d.lo, .int .i64 h.pr, .int .i64 h.ho, .bool false, .int .u32 0, .int .i64 0, .bool false, .slice h.xa h.X.length h.xc, .slice (some ⟨gd, 0, none⟩) 10 10]).cell? ⟨gd, 9, none⟩ = some (.int .u8 10) := Blk.cell (t := 5) ((k10.block gd lg).trans D9) 9 _ rfl
  have q14 := R11.cell 14 (.slice (some ⟨gd, 0, none⟩) 10 10) rfl
  have KG : Hid _ := fGrams_at (w.heap.size + 1) w.heap.size 1 _ _ (T11.cell 0 (.bool true) rfl) (T11.cell 6 (.map (some w.heap.size)) rfl) M11
  rw [none_left] at KG
  clear T9 M9 D9 b9 k10 T11 M11 R11
  obtain ⟨W11, hW11⟩ : ∃ W, W10.setRow W9.heap.size #[.int .i64 h.fam, .int .i64 h.s.fam, .int .u64 h.s.hi, .int .u64 h.s.lo, .int .i64 h.d.fam, .int .u64 h.d.hi, .int .u64 h.d.lo, .int .i64 h.pr, .int .i64 h.ho, .bool false, .int .u32 0, .int .i64 0, .bool false, .slice h.xa h.X.length h.xc, .slice (some ⟨gd, 0, none⟩) 10 10] = W := ⟨_, rfl⟩
  rw [hW11] at D11 q14 KG b11
  have HW : Hid _ := hW11
  clear hW11
  go_wp2_with (refine wpList_store_row rfl _ _ _ rfl W9.heap.size #[.int .i64 h.fam, .int .i64 h.s.fam, .int .u64 h.s.hi, .int .u64 h.s.lo, .int .i64 h.d.fam, .int .u64 h.d.hi, .int .u64 h.d.lo, .int .i64 h.pr, .int .i64 h.ho, .bool false, .int .u32 0, .int .i64 0, .bool false, .slice h.xa h.X.length h.xc, .slice (some ⟨gd, 0, none⟩) 10 10] (by rfl) (by rfl) _ _ R10 (by kernel_rfl) (by rfl) (by kernel_rfl) ?_; rw [HW.out])
  refine Calls.mono KG.out ?_
  rintro e w' ⟨rfl, rfl⟩
  clear KG HW
  go_wp2
  go_ret
  exact ⟨rfl, b11⟩
end Go.Proofs.Ytebdpiedgjdjeaa
