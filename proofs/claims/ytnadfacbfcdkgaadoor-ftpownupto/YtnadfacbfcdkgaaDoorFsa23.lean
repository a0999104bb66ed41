/- Texts joined: FtpSizesWalk -/
import Derived.Test.YtnadfacbfcdkgaaDoorFsa22
namespace Go.Proofs.YtnadfacbfcdkgaaDoor
open Go.RowKit
set_option linter.unusedVariables false
set_option linter.unusedSimpArgs false
/-- Bytes in a block of one's own, marked or not. -/
structure Bs (g : Nat) (b : List UInt8) (W : World) : Prop where
  ex : ∃ cs fr, W.heap[g]? = some (.cells cs 5 fr) ∧ b.length ≤ fr.1 ∧ ∀ j (h : j < b.length), cs[j]? = some (.int .u8 ((b[j].toNat : Nat) : Int))
theorem Bs.lt {g : Nat} {b : List UInt8} {W : World} (h : Bs g b W) : g < W.heap.size := by obtain ⟨cs, fr, h1, _⟩ := h.ex; exact (Array.getElem?_eq_some_iff.1 h1).1
theorem Bs.kept {g : Nat} {b : List UInt8} {W W' : World} (h : Bs g b W) (hb : Below W.heap.size W W') : Bs g b W' := by
  have := h.lt
  obtain ⟨cs, fr, h1, h2, h3⟩ := h.ex
  exact ⟨cs, fr, (hb.block g this).trans h1, h2, h3⟩
theorem Bs.al {g : Nat} {b : List UInt8} {W W' : World} {o : Obj} (h : Bs g b W) (e : W.alloc o = W') : Bs g b W' := h.kept (bel_nw e)
theorem Bs.drew {g : Nat} {b : List UInt8} {W : World} (h : Bs g b W) : Bs g b W.drew := ⟨h.ex⟩
theorem Bs.other {k : Nat} {b : List UInt8} {W : World} (h : Bs k b W) {g : Nat} (hn : k ≠ g) (cs : Array Value) : Bs k b (W.setRow g cs) := by
  obtain ⟨c, fr, h1, h2, h3⟩ := h.ex
  exact ⟨c, fr, (setRow_heap_ne W g k cs hn).trans h1, h2, h3⟩
theorem Bs.cell {g : Nat} {b : List UInt8} {W : World} (h : Bs g b W) (j : Nat) (hj : j < b.length) : W.cell? ⟨g, j, none⟩ = some (.int .u8 ((b[j].toNat : Nat) : Int)) := by
  obtain ⟨cs, fr, h1, h2, h3⟩ := h.ex
  exact (cell_of_row W g j cs 5 fr h1).trans (h3 j hj)
theorem Bs.free {g : Nat} {b : List UInt8} {W : World} (h : Bs g b W) (j : Nat) (hj : j < b.length) : W.frozen? ⟨g, j, none⟩ = false := by
  obtain ⟨cs, fr, h1, h2, h3⟩ := h.ex
  simp [World.frozen?, h1]
  omega
theorem Bs.set {g : Nat} {b : List UInt8} {W : World} (h : Bs g b W) (j : Nat) (hj : j < b.length) (x : UInt8) : Bs g (b.set j x) (W.setCell ⟨g, j, none⟩ (.int .u8 ((x.toNat : Nat) : Int))) := by
  obtain ⟨cs, fr, h1, h2, h3⟩ := h.ex
  rw [setCell_eq_setRow W g j cs 5 fr _ h1]
  refine ⟨_, fr, setRow_heap W g cs _ 5 fr h1, by simpa using h2, fun i hi => ?_⟩
  have hcs : ∀ i, i < b.length → i < cs.size := fun i hi => (Array.getElem?_eq_some_iff.1 (h3 i hi)).1
  simp only [List.length_set] at hi
  rw [Array.getElem?_setIfInBounds]
  by_cases e : j = i
  · subst e
    rw [if_pos rfl, if_pos (hcs j hj)]
    simp
  · rw [if_neg e, h3 i hi]
    simp [List.getElem_set_ne e]
theorem Bs.str {g : Nat} {b : List UInt8} {W : World} (h : Bs g b W) (c : Nat) : (convert 22 9 (.slice (some ⟨g, 0, none⟩) b.length c)).run Tryd.prog W = .ok (.string ⟨b.toArray⟩) W :=
  run_convert_bytes_back W 22 9 5 ⟨g, 0, none⟩ c b Tryd.underlying22 Tryd.underlying5 Tryd.underlying9 (fun j hj => by
    have e : (⟨g, 0, none⟩ : Addr).add j = ⟨g, j, none⟩ := by unfold Addr.add; split <;> simp_all
    rw [e]
    exact h.cell j hj)
theorem bs_new (w : World) (s : ByteArray) (c : Nat) (hc : s.size ≤ c) (fr : Nat × Nat) (hfr : s.size ≤ fr.1) : Bs w.heap.size s.data.toList (w.drew.alloc (.cells (bytesRow s c) 5 fr)) := by
  have es : s.data.toList.length = s.size := Array.length_toList
  refine ⟨bytesRow s c, fr, ?_, by omega, fun j hj => ?_⟩
  · have : (w.drew.alloc (.cells (bytesRow s c) 5 fr)).heap[w.drew.heap.size]? = some (.cells (bytesRow s c) 5 fr) := heap_alloc_last _ _
    exact this
  · unfold bytesRow
    have hj' : j < s.data.size := by simpa using hj
    rw [Array.getElem?_append_left (by simpa using hj'), Array.getElem?_map, Array.getElem?_eq_getElem hj']
    simp
theorem xor32 : ∀ n : Fin 256, bits .xor .u8 (n.val : Int) 32 = (((UInt8.ofNat n.val ^^^ 32).toNat : Nat) : Int) := by decide +kernel
theorem xor_byte (c : UInt8) : bits .xor .u8 ((c.toNat : Nat) : Int) 32 = (((c ^^^ 32).toNat : Nat) : Int) := by
  have := xor32 ⟨c.toNat, c.toNat_lt⟩
  simpa using this
theorem set_up {b : List UInt8} {j : Nat} (hj : j < b.length) (h : (97 ≤ b[j].toNat ∧ b[j].toNat ≤ 122) ∨ (65 ≤ b[j].toNat ∧ b[j].toNat ≤ 90)) : (b.set j (b[j] ^^^ 32)).map upB = b.map upB := by
  refine List.ext_getElem (by simp) fun i h1 h2 => ?_
  simp only [List.getElem_map, List.getElem_set]
  split
  · next e => subst e; exact up_xor _ h
  · rfl
/-- What the loop keeps. -/
structure Fl4 (l b : List UInt8) : Prop where
  len : b.length = l.length
  rest : b.drop 4 = l.drop 4
  up : b.map upB = l.map upB
theorem Fl4.set {l b : List UInt8} (h : Fl4 l b) {j : Nat} (h4 : j < 4) (hj : j < b.length) (hu : (97 ≤ b[j].toNat ∧ b[j].toNat ≤ 122) ∨ (65 ≤ b[j].toNat ∧ b[j].toNat ≤ 90)) : Fl4 l (b.set j (b[j] ^^^ 32)) :=
  ⟨by simp [h.len], by rw [List.drop_set, if_pos h4]; exact h.rest, (set_up hj hu).trans h.up⟩
theorem Fl4.same {l b : List UInt8} (h : Fl4 l b) (fam : Int) : plF fam 0 b = plF fam 0 l :=
  pl_sizes fam b l h.len (by have := congrArg (List.drop 1) h.rest; simpa using this) (by rw [List.map_take, List.map_take, h.up])
set_option maxRecDepth 100000 in
set_option maxHeartbeats 4000000 in
theorem ftpSizes_walk (fam : Int) (s : ByteArray) (x : Int) (w : World) (m : Int) (hm : w.cell? ⟨0, 0, none⟩ = some (.int .i64 m)) :
    Calls Tryd.prog 7 #[.int .i64 fam, .string s, .int .u8 x] w fun e w' => e = .returned (.bool true) ∧ Below w.heap.size w w' := by
  have es : s.data.toList.length = s.size := Array.length_toList
  have M : Mx m w := ⟨hm⟩
  obtain ⟨R, hR⟩ : ∃ R, true = R := ⟨_, rfl⟩
  have HR : Hid (true = R) := hR
  rw [hR]
  clear hR hm
  by_cases h4 : s.size < 4
  · go_enter Tryd.func7, Tryd.ntmps7
    go_wp2_with fail
    refine Calls.mono (alive_ft m _ M) ?_
    rintro e W ⟨rfl, bb⟩
    go_wp2
    go_ret
    exact ⟨retB_fw (by rw [← HR.out]), bb⟩
  have hcv : (convert 9 22 (.string s)).run Tryd.prog w = .ok (.slice (some ⟨w.heap.size, 0, none⟩) s.size (grownCap w s.size 0 5)) (w.drew.alloc (.cells (bytesRow s (grownCap w s.size 0 5)) 5 ((bytesRow s (grownCap w s.size 0 5)).size, (bytesRow s (grownCap w s.size 0 5)).size + 1))) := run_bytes_of_string w 9 22 5 s Tryd.underlying9 Tryd.underlying22 Tryd.underlying5
  obtain ⟨cp, hcp⟩ : ∃ cp, grownCap w s.size 0 5 = cp := ⟨_, rfl⟩
  have hcs : s.size ≤ cp := by rw [← hcp]; exact grownCap_ge w s.size 0 5
  rw [hcp] at hcv
  obtain ⟨W1, hW1⟩ : ∃ W, w.drew.alloc (.cells (bytesRow s cp) 5 ((bytesRow s cp).size, (bytesRow s cp).size + 1)) = W := ⟨_, rfl⟩
  have hbs : (bytesRow s cp).size = cp := by unfold bytesRow; simp; omega
  have B1 : Bs w.heap.size s.data.toList W1 := by rw [← hW1]; exact bs_new w s cp hcs _ (by show s.size ≤ (bytesRow s cp).size; omega)
  rw [hW1] at hcv
  have b1 : Below w.heap.size w W1 := by rw [← hW1]; exact (Below.refl _ _).drew.alloc (Nat.le_refl _) _
  have M1 : Mx m W1 := M.kept b1
  have z1 : w.heap.size < W1.heap.size := B1.lt
  have nMg : 0 ≠ w.heap.size := fun e => by have := M.lt; omega
  obtain ⟨g, hg⟩ : ∃ g, w.heap.size = g := ⟨_, rfl⟩
  have HG : Hid (w.heap.size = g) := hg
  rw [hg] at hcv B1 b1 z1 nMg
  obtain ⟨l, hl⟩ : ∃ l, s.data.toList = l := ⟨_, rfl⟩
  rw [hl] at es B1
  have HSE : Hid (s = ⟨l.toArray⟩) := by show s = _; rw [← hl]
  have HS : Hid (s.size = l.length) := es.symm
  clear hl es
  have F1 : Fl4 l l := ⟨rfl, rfl, rfl⟩
  obtain ⟨⟨P0, k0⟩, hP0⟩ : ∃ p, askT (plF fam 0 l) = p := ⟨_, rfl⟩
  have K0 : Hid (∀ W, Mx m W → Calls Tryd.prog 14 #[.int .i64 fam, .int .i64 0, .string ⟨List.toArray l⟩] W fun e w' => e = .returned (.tuple #[.agg P0.v, .bool k0]) ∧ Below W.heap.size W w') := fun W hW => by have h := place_any fam 0 l m W hW; rw [hP0] at h; exact h
  have PL : Hid (∀ b, Fl4 l b → ∀ W, Mx m W → Calls Tryd.prog 14 #[.int .i64 fam, .int .i64 0, .string ⟨b.toArray⟩] W fun e w' => e = .returned (.tuple #[.agg P0.v, .bool k0]) ∧ Below W.heap.size W w') := fun b hb W hW => by
    have h := place_any fam 0 b m W hW
    rw [hb.same fam, hP0] at h
    exact h
  have hh4 : ¬ ((s.size : Int) < 4) := by omega
  clear hcp hbs hW1 hP0 hcs M K0
  go_enter Tryd.func7, Tryd.ntmps7
  go_wp2
  clear hcv
  clear hg
  go_loopw [19] (fun i w' => ∃ (k : Nat) (b : List UInt8), i = .int .i64 k ∧ k ≤ 4 ∧ Bs g b w' ∧ Fl4 l b ∧ Below g W1 w' ∧ Mx m w') (fun i _ => 4 - (intOf i).toNat)
  case atStart => exact ⟨0, l, rfl, by omega, B1, F1, Below.refl _ _, M1⟩
  case round =>
    obtain ⟨k, b, rfl, hk, hB, hF, hbel, hM⟩ := hrel
    by_cases hk4 : k < 4
    · have hkb : k < b.length := by have := HS.out; rw [hF.len]; omega
      have hc := hB.cell k hkb
      have hf := hB.free k hkb
      have hS := hB.set k hkb (b[k] ^^^ 32)
      have hx := xor_byte b[k]
      have hFl := fun hu => hF.set hk4 hkb hu
      obtain ⟨c, hcc⟩ : ∃ c, b[k].toNat = c := ⟨_, rfl⟩
      obtain ⟨y, hyy⟩ : ∃ y, (b[k] ^^^ 32).toNat = y := ⟨_, rfl⟩
      rw [hcc] at hc hx hFl
      rw [hyy] at hS hx
      obtain ⟨b', hb'⟩ : ∃ b', b.set k (b[k] ^^^ 32) = b' := ⟨_, rfl⟩
      rw [hb'] at hS hFl
      have hy8 : y < 256 := by rw [← hyy]; exact (b[k] ^^^ 32).toNat_lt
      have hMs : Mx m (wr.setCell ⟨g, k, none⟩ (.int .u8 (y : Int))) := ⟨((But.refl (fun j => j = g) wr).setCell g k (.inl rfl) _).cell nMg hM.h⟩
      have hbs : Below g W1 (wr.setCell ⟨g, k, none⟩ (.int .u8 (y : Int))) := hbel.setCell (Nat.le_refl _) _
      clear hcc hyy hb' hkb
      have hk' : k = 0 ∨ k = 1 ∨ k = 2 ∨ k = 3 := by omega
      clear HS HSE PL HR hk hk4 B1 b1 z1 M1 F1
      rcases hk' with rfl | rfl | rfl | rfl
      all_goals go_wp2
      all_goals first
        | exact ⟨⟨_, b, int_eq (by omega : (0 : Int) + 1 = ((1 : Nat) : Int)), by omega, hB, hF, hbel, hM⟩, by simp [intOf]⟩
        | exact ⟨⟨_, b, int_eq (by omega : (1 : Int) + 1 = ((2 : Nat) : Int)), by omega, hB, hF, hbel, hM⟩, by simp [intOf]⟩
        | exact ⟨⟨_, b, int_eq (by omega : (2 : Int) + 1 = ((3 : Nat) : Int)), by omega, hB, hF, hbel, hM⟩, by simp [intOf]⟩
        | exact ⟨⟨_, b, int_eq (by omega : (3 : Int) + 1 = ((4 : Nat) : Int)), by omega, hB, hF, hbel, hM⟩, by simp [intOf]⟩
        | exact ⟨⟨_, b', int_eq (by omega : (0 : Int) + 1 = ((1 : Nat) : Int)), by omega, hS, hFl (by omega), hbs, hMs⟩, by simp [intOf]⟩
        | exact ⟨⟨_, b', int_eq (by omega : (1 : Int) + 1 = ((2 : Nat) : Int)), by omega, hS, hFl (by omega), hbs, hMs⟩, by simp [intOf]⟩
        | exact ⟨⟨_, b', int_eq (by omega : (2 : Int) + 1 = ((3 : Nat) : Int)), by omega, hS, hFl (by omega), hbs, hMs⟩, by simp [intOf]⟩
        | exact ⟨⟨_, b', int_eq (by omega : (3 : Int) + 1 = ((4 : Nat) : Int)), by omega, hS, hFl (by omega), hbs, hMs⟩, by simp [intOf]⟩
        | trace_state
    · have e4 : k = 4 := by omega
      subst e4
      have PLs : Hid (∀ W, Mx m W → Calls Tryd.prog 14 #[.int .i64 fam, .int .i64 0, .string s] W fun e w' => e = .returned (.tuple #[.agg P0.v, .bool k0]) ∧ Below W.heap.size W w') := fun W hW => by have h := PL.out l F1 W hW; rwa [← HSE.out] at h
      have PLb : Hid (∀ W, Mx m W → Calls Tryd.prog 14 #[.int .i64 fam, .int .i64 0, .string ⟨b.toArray⟩] W fun e w' => e = .returned (.tuple #[.agg P0.v, .bool k0]) ∧ Below W.heap.size W w') := fun W hW => PL.out b hF W hW
      have HLB : Hid (s.size = b.length) := by show _ = _; rw [HS.out, hF.len]
      have hg := HG.out
      have be : Below w.heap.size w wr := by rw [hg]; exact b1.trans (hbel.mono (by omega))
      obtain ⟨We, hWe⟩ : ∃ We, wr = We := ⟨_, rfl⟩
      rw [hWe] at be hB hM ⊢
      have Ce := hB
      have Me := hM
      clear hB hM hbel hWe PL hF F1 B1 b1 M1 hg hk hk4 z1
      go_wp2_with fail
      refine Calls.mono (PLs.out _ Me) ?_
      rintro e Wm1 ⟨rfl, bb⟩
      have Mm1 := Me.kept bb
      have Cm1 := Ce.kept bb
      have bm1 := bel_tr be bb
      clear bb
      clear Me Ce be
      obtain ⟨Wm2, hWm2⟩ : ∃ W, Wm1.alloc (.cells #[.int .i64 0, .int .i64 0, .int .u64 0, .int .u64 0, .int .i64 0] 32) = W := ⟨_, rfl⟩
      have bm2 := bel_al bm1 hWm2
      have Mm2 := Mm1.al hWm2
      have Cm2 := Cm1.al hWm2
      have Am2 := blk_nw hWm2
      have gA : w.heap.size ≤ Wm1.heap.size := bm1.size
      have nMA : 0 ≠ Wm1.heap.size := fun e => by have := Mm1.lt; omega
      have nCA : g ≠ Wm1.heap.size := fun e => by have := Cm1.lt; omega
      obtain ⟨Wm3, hWm3⟩ : ∃ W, Wm2.setRow Wm1.heap.size P0.v = W := ⟨_, rfl⟩
      have Am3 : Blk Wm3 Wm1.heap.size 32 P0.v := hWm3 ▸ Am2.set P0.v
      have Mm3 := hWm3 ▸ Mm2.other nMA P0.v
      have Cm3 := hWm3 ▸ Cm2.other nCA P0.v
      have bm3 := hWm3 ▸ below_setRow bm2 gA P0.v
      rename_i Kr hkr Kc hkc
      have HK : Hid _ := hkr
      clear hkr
      go_wp2_with (guard_target =~ wpList _ _ _ ({ dst := none, op := Op.store _ _ _, type := _, pos := _, after := _, guard := none } :: _) _ _; refine wpList_store_row rfl _ _ _ rfl Wm1.heap.size P0.v (by rfl) (by rfl) _ _ Am2 (by kernel_rfl) (by rfl) (by kernel_rfl) ?_; rw [hWm3])
      refine HK.out _ _ ?_
      clear HK
      have hcv4 : (convert 22 9 (.slice (some ⟨g, 0, none⟩) s.size cp)).run Tryd.prog Wm3 = .ok (.string ⟨b.toArray⟩) Wm3 := by rw [HLB.out]; exact Cm3.str cp
      go_wp2_with fail
      refine Calls.mono (PLb.out _ Mm3) ?_
      rintro e Wm4 ⟨rfl, bb⟩
      have Mm4 := Mm3.kept bb
      have Cm4 := Cm3.kept bb
      have Am4 := Am3.kept bb
      have bm4 := bel_tr bm3 bb
      clear bb
      clear Mm3 Cm3 Am3 bm3
      obtain ⟨Wm5, hWm5⟩ : ∃ W, Wm4.alloc (.cells #[.int .i64 0, .int .i64 0, .int .u64 0, .int .u64 0, .int .i64 0] 32) = W := ⟨_, rfl⟩
      have bm5 := bel_al bm4 hWm5
      have Mm5 := Mm4.al hWm5
      have Cm5 := Cm4.al hWm5
      have Am5 := Am4.al hWm5
      have Bm5 := blk_nw hWm5
      have gB : w.heap.size ≤ Wm4.heap.size := bm4.size
      have nMB : 0 ≠ Wm4.heap.size := fun e => by have := Mm4.lt; omega
      have nCB : g ≠ Wm4.heap.size := fun e => by have := Cm4.lt; omega
      have nAB : Wm1.heap.size ≠ Wm4.heap.size := by have := Am4.lt; omega
      have nBA : Wm4.heap.size ≠ Wm1.heap.size := fun e => nAB e.symm
      obtain ⟨Wm6, hWm6⟩ : ∃ W, Wm5.setRow Wm4.heap.size P0.v = W := ⟨_, rfl⟩
      have Bm6 : Blk Wm6 Wm4.heap.size 32 P0.v := hWm6 ▸ Bm5.set P0.v
      have Mm6 := hWm6 ▸ Mm5.other nMB P0.v
      have Cm6 := hWm6 ▸ Cm5.other nCB P0.v
      have Am6 := hWm6 ▸ Am5.other nAB P0.v
      have bm6 := hWm6 ▸ below_setRow bm5 gB P0.v
      rename_i Kr hkr Kc hkc
      have HK : Hid _ := hkr
      clear hkr
      go_wp2_with (guard_target =~ wpList _ _ _ ({ dst := none, op := Op.store _ _ _, type := _, pos := _, after := _, guard := none } :: _) _ _; refine wpList_store_row rfl _ _ _ rfl Wm4.heap.size P0.v (by rfl) (by rfl) _ _ Bm5 (by kernel_rfl) (by rfl) (by kernel_rfl) ?_; rw [hWm6])
      refine HK.out _ _ ?_
      clear HK
      go_wp2_with (first | (refine wpList_load_blk_w (by rfl) _ _ rfl Wm1.heap.size (by rfl) _ Am6 Tryd.underlying32 (by kernel_rfl) ?_) | (refine wpList_load_blk_w (by rfl) _ _ rfl Wm4.heap.size (by rfl) _ Bm6 Tryd.underlying32 (by kernel_rfl) ?_))
      refine Calls.mono (alive_ft m _ Mm6) ?_
      rintro e Wm7 ⟨rfl, bb⟩
      have Mm7 := Mm6.kept bb
      have Cm7 := Cm6.kept bb
      have Am7 := Am6.kept bb
      have Bm7 := Bm6.kept bb
      have bm7 := bel_tr bm6 bb
      clear bb
      clear Mm6 Cm6 Am6 Bm6 bm6
      go_wp2_with fail
      go_ret
      exact ⟨retB_fw (by rw [← HR.out]), bm7⟩
end Go.Proofs.YtnadfacbfcdkgaaDoor
