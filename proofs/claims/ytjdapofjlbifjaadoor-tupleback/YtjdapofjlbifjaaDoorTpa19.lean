/- Texts joined: Txt -/
import Derived.Test.YtjdapofjlbifjaaDoorTpa17
import Derived.Test.YtjdapofjlbifjaaDoorTpa18
import Derived.Test.YtjdapofjlbifjaaDoorShelf
import Derived.Deep.RegionHeld3
namespace Go.Proofs.YtjdapofjlbifjaaDoor
open Go.RowKit
set_option linter.unusedVariables false
set_option linter.unusedSimpArgs false
/-- The number of the two bytes at a place. -/
def word (b : List Int) (i : Nat) : Nat := (256 * b.getD (2 * i) 0 + b.getD (2 * i + 1) 0).toNat
/-- The words of sixteen bytes. -/
def words (b : List Int) : List ByteArray := (List.range 8).map fun i => strOfNums (hexL (word b i))
/-- Words with a colon between. -/
def joinW (xs : List ByteArray) : List UInt8 := Lib.join (xs.map (·.data.toList)) [58]
def text6 (b : List Int) : List UInt8 :=
  if (lz (words b)).2 < 2 then joinW (words b)
  else joinW ((words b).take (lz (words b)).1) ++ [58, 58] ++ joinW ((words b).drop ((lz (words b)).1 + (lz (words b)).2))
theorem add_mk (l m : List UInt8) : ByteArray.mk l.toArray ++ ByteArray.mk m.toArray = ByteArray.mk (l ++ m).toArray := by
  apply ByteArray.ext
  simp
theorem lzGo_bd : ∀ (zs : List Bool) (i a n r : Nat), a + n ≤ i → r ≤ i → (lzGo zs i a n r).1 + (lzGo zs i a n r).2 ≤ i + zs.length
  | [], i, a, n, r, h, _ => by simpa [lzGo] using h
  | z :: zs, i, a, n, r, h, hr => by
    unfold lzGo
    simp only [List.length_cons]
    split
    · split
      · have := lzGo_bd zs (i + 1) (i + 1 - (r + 1)) (r + 1) (r + 1) (by omega) (by omega); omega
      · have := lzGo_bd zs (i + 1) a n (r + 1) (by omega) (by omega); omega
    · have := lzGo_bd zs (i + 1) a n 0 (by omega) (by omega); omega
theorem lz_bd (xs : List ByteArray) : (lz xs).1 + (lz xs).2 ≤ xs.length := by
  have := lzGo_bd (xs.map isZero) 0 0 0 0 (by omega) (by omega)
  simpa [lz] using this
theorem strOf_length (l : List Int) : (strOfNums l).data.toList.length = l.length := by simp [strOfNums]
theorem words_le (b : List Int) : ∀ x ∈ words b, x.data.toList.length ≤ 4 := fun x hx => by
  obtain ⟨i, _, rfl⟩ := List.mem_map.1 hx
  rw [strOf_length, hexL_length]
  unfold nd
  repeat' split
  all_goals omega
theorem joinTail_le (xs : List (List UInt8)) (h : ∀ x ∈ xs, x.length ≤ 4) : (Lib.joinTail [58] xs).length ≤ 5 * xs.length := by
  induction xs with
  | nil => simp [Lib.joinTail]
  | cons x xs ih =>
    have h1 := h x (List.mem_cons_self ..)
    have h2 := ih (fun y hy => h y (List.mem_cons_of_mem _ hy))
    simp only [Lib.joinTail, List.map_cons, List.flatten_cons, List.length_append, List.length_cons, List.length_nil] at h2 ⊢
    omega
theorem join_le (xs : List ByteArray) (h : ∀ x ∈ xs, x.data.toList.length ≤ 4) : (Lib.join (xs.map (·.data.toList)) [58]).length ≤ 5 * xs.length := by
  cases xs with
  | nil => simp [Lib.join]
  | cons x xs =>
    rw [List.map_cons, Lib.join_cons, List.length_append, List.length_cons]
    have h1 := h x (List.mem_cons_self ..)
    have h2 := joinTail_le (xs.map (·.data.toList)) (fun y hy => by
      obtain ⟨z, hz, rfl⟩ := List.mem_map.1 hy
      exact h z (List.mem_cons_of_mem _ hz))
    rw [List.length_map] at h2
    omega
set_option maxRecDepth 100000 in
set_option maxHeartbeats 2000000 in
theorem text6_any (a : Option Addr) (c : Nat) (b : List Int) (w : World) (hr : Row w a b) (h16 : b.length = 16) (ht : w.cell? ⟨3, 15, none⟩ = some (.int .u8 4)) :
    Calls Tryd.prog 51 #[.slice a b.length c] w fun e w' => e = .returned (.string ⟨(text6 b).toArray⟩) ∧ Below w.heap.size w w' := by
  obtain ⟨bk, off, rfl, hcb⟩ := hr.cells (by omega)
  have hby := hr.bytes
  have hbk : bk < w.heap.size := World.block_lt_of_cell? w _ (hcb 0 (by omega))
  have L16 : Hid (b.length = 16) := h16
  have hq : ((b.length : Int)).tdiv 2 = 8 := by rw [h16]; rfl
  clear h16
  obtain ⟨i9, hi9, hz9, hs9, hb9⟩ := info_parts (show (Tryd.prog.info? 9).map (fun i => (i.zero, i.size, i.bytes)) = some (some (.string ByteArray.empty), 1, 16) by kernel_rfl)
  have hmk : ∀ W, (Instr.makeSlice 68 (.int .i64 8) (.int .i64 8)).run Tryd.prog W = .ok (.slice (some ⟨W.heap.size, 0, none⟩) 8 8) (W.alloc (.cells (madeCells #[Value.string ByteArray.empty] 8) 9)) := fun W => by
    have hr := run_make (P := Tryd.prog) W 68 9 i9 (.string ByteArray.empty) Tryd.underlying68 hi9 hz9 .i64 .i64 8 8 (by omega) (Int.le_refl _) (by rw [hb9]; omega) (by omega)
    rw [hs9, Nat.mul_one] at hr
    exact hr
  obtain ⟨Z, hZ⟩ : ∃ Z, madeCells #[Value.string ByteArray.empty] 8 = Z := ⟨_, rfl⟩
  rw [hZ] at hmk
  have ZC : Hid (∀ i, i < 8 → Z[i]? = some (.string ByteArray.empty)) := fun i hi => by
    rw [← hZ]
    simp [madeCells, hi, Nat.mod_one]
  clear hZ
  go_enter Tryd.func51, Tryd.ntmps51
  go_wp2
  generalize hg : w.heap.size = g at *
  have HG : Hid (w.heap.size = g) := hg
  have b0 : Below g w (w.alloc (.cells Z 9)) := by rw [← hg]; exact (Below.refl _ _).alloc (Nat.le_refl _) _
  have s0 : g + 1 ≤ (w.alloc (.cells Z 9)).heap.size := by rw [← hg]; simp
  have k0 : ∀ i, i < 8 → (w.alloc (.cells Z 9)).cell? ⟨g, i, none⟩ = some (.string ByteArray.empty) := fun i hi => by
    rw [← hg, World.cell?_alloc_new]; exact ZC.out i hi
  have f0 : ∀ i, (w.alloc (.cells Z 9)).frozen? ⟨g, i, none⟩ = false := fun i => by rw [← hg]; simp
  generalize w.alloc (.cells Z 9) = w0 at *
  have h5 : 3 < g := by rw [← hg]; exact World.block_lt_of_cell? w _ ht
  have hne : bk ≠ g := by omega
  have hne' : g ≠ bk := by omega
  clear hg hmk ZC hi9 hz9 hs9 hb9
  go_loopw [13] (fun i w' => ∃ (k : Nat) (X : Nat → ByteArray), k ≤ 8 ∧ i = .int .i64 k ∧ (∀ i, i < 8 → w'.cell? ⟨g, i, none⟩ = some (.string (X i))) ∧ (∀ i, w'.frozen? ⟨g, i, none⟩ = false) ∧ Below g w w' ∧ g + 1 ≤ w'.heap.size ∧ Hid (∀ i, i < k → X i = strOfNums (hexL (word b i)))) (fun i _ => 8 - (intOf i).toNat)
  case atStart => exact ⟨0, fun _ => ByteArray.empty, by omega, rfl, k0, f0, b0, s0, fun i hi => by omega⟩
  case round =>
    obtain ⟨k, X, hk, rfl, hX, hF, bel, hsz, hr⟩ := hrel
    by_cases hlt : k < 8
    · have ilt : (k : Int) < 8 := by omega
      have hl1 : 2 * k < b.length := by rw [L16.out]; omega
      have hl2 : 2 * k + 1 < b.length := by rw [L16.out]; omega
      have hx := hby.get (2 * k)
      have hy := hby.get (2 * k + 1)
      have hU : (word b k : Int) = 256 * b.getD (2 * k) 0 + b.getD (2 * k + 1) 0 := by unfold word; omega
      have c1 : wr.cell? ⟨bk, off + 2 * k, none⟩ = some (.int .u8 (b.getD (2 * k) 0)) := (bel.cell (p := ⟨bk, off + 2 * k, none⟩) hbk).trans (hcb _ hl1)
      have c2 : wr.cell? ⟨bk, off + (2 * k + 1), none⟩ = some (.int .u8 (b.getD (2 * k + 1) 0)) := (bel.cell (p := ⟨bk, off + (2 * k + 1), none⟩) hbk).trans (hcb _ hl2)
      have c5 : wr.cell? ⟨3, 15, none⟩ = some (.int .u8 4) := (bel.cell (p := ⟨3, 15, none⟩) h5).trans ht
      have cg := hX k hlt
      have fg := hF k
      have HX : Hid (∀ i, i < 8 → wr.cell? ⟨g, i, none⟩ = some (.string (X i))) := hX
      have HF : Hid (∀ i, wr.frozen? ⟨g, i, none⟩ = false) := hF
      have HC : Hid (∀ i, i < b.length → w.cell? ⟨bk, off + i, none⟩ = some (.int .u8 (b.getD i 0))) := hcb
      generalize hxx : b.getD (2 * k) 0 = x at *
      generalize hyy : b.getD (2 * k + 1) 0 = y at *
      obtain ⟨U, hUU⟩ : ∃ U, word b k = U := ⟨_, rfl⟩
      rw [hUU] at hU
      have HU : Hid (word b k = U) := hUU
      clear hxx hyy hUU hX hF hcb k0 f0 b0 s0
      have hor : bits .or .i64 (x * 256) y = (U : Int) := by rw [hU]; exact i64_or8 x y hx.1 hx.2 hy.1 hy.2
      have hU16 : U < 65536 := by omega
      clear hU
      have w1 : IntKind.i64.wrap (2 * (k : Int)) = ((2 * k : Nat) : Int) := by rw [IntKind.wrap_i64]; omega
      have w2 : IntKind.i64.wrap (((2 * k : Nat) : Int) + 1) = ((2 * k + 1 : Nat) : Int) := by rw [IntKind.wrap_i64]; omega
      have w3 : IntKind.i64.wrap (x * 256) = x * 256 := by rw [IntKind.wrap_i64]; omega
      have wx : IntKind.i64.wrap x = x := by rw [IntKind.wrap_i64]; omega
      have wy : IntKind.i64.wrap y = y := by rw [IntKind.wrap_i64]; omega
      have i1 : ((2 * k : Nat) : Int) < (b.length : Int) := by omega
      have i2 : ((2 * k + 1 : Nat) : Int) < (b.length : Int) := by omega
      have hf : ∀ W, Below wr.heap.size wr W → Calls Tryd.prog 58 #[.int .i64 (U : Int), .int .i64 16] W fun e w' => e = .returned (.string (strOfNums (hexL U))) ∧
          w'.cell? ⟨bk, off + 2 * k, none⟩ = some (.int .u8 x) ∧ w'.cell? ⟨bk, off + (2 * k + 1), none⟩ = some (.int .u8 y) ∧ w'.cell? ⟨g, k, none⟩ = some (.string (X k)) ∧ w'.frozen? ⟨g, k, none⟩ = false ∧ Below wr.heap.size wr w' := fun W hW => by
        refine (format16 U W hU16 (kept hW c5)).mono ?_
        rintro e w' ⟨rfl, hb⟩
        have hb' : Below wr.heap.size wr w' := hW.trans (hb.mono hW.size)
        exact ⟨rfl, kept hb' c1, kept hb' c2, kept hb' cg, (hb'.frozen (p := ⟨g, k, none⟩) (by show g < _; omega)).trans fg, hb'⟩
      generalize 2 * k = p at *
      generalize p + 1 = q at *
      go_wp2
      go_region_held3 (fun w' => w'.cell? ⟨bk, off + p, none⟩ = some (.int .u8 x) ∧ w'.cell? ⟨bk, off + q, none⟩ = some (.int .u8 y)) (go_keep) (first
        | (go_at_call 58; refine (hf _ (Below.refl _ _).drew).mono ?_; rintro e w4 ⟨rfl, q1, q2, q3, q4, b4⟩))
      all_goals go_wp2
      have hUU := HU.out
      refine ⟨⟨k + 1, fun i => if i = k then strOfNums (hexL U) else X i, by omega, int_eq (by omega), ?_, ?_, ?_, ?_, ?_⟩, by simp [intOf]; omega⟩
      · intro i hi
        by_cases hik : i = k
        · subst hik
          rw [put_same q3]
          simp
        · rw [put_other (by simp <;> omega)]
          simp only [if_neg hik]
          exact kept b4 (HX.out i hi)
      · intro i
        simp only [World.frozen?_setCell]
        exact (b4.frozen (p := ⟨g, i, none⟩) (by show g < _; omega)).trans (HF.out i)
      · exact (bel.trans (b4.mono (by omega))).setCell (by simp) _
      · have := b4.size; simp; omega
      · intro i hi
        show (if i = k then _ else _) = _
        by_cases hik : i = k
        · rw [if_pos hik, hik, hUU]
        · rw [if_neg hik]
          exact hr.out i (by omega)
    · have ek : k = 8 := by omega
      subst ek
      have hwl : (words b).length = 8 := by simp [words]
      have hcw : ∀ (i : Nat) (h : i < (words b).length), wr.cell? ⟨g, i, none⟩ = some (.string ((words b)[i]'h)) := fun i h => by
        have hi : i < 8 := by omega
        rw [hX i hi, hr.out i hi]
        simp [words]
      have hlz := lz_any g 8 (words b) wr (by omega) hcw
      have hbd := lz_bd (words b)
      rw [hwl] at hlz hbd
      have hT : text6 b = if (lz (words b)).2 < 2 then joinW (words b) else joinW ((words b).take (lz (words b)).1) ++ [58, 58] ++ joinW ((words b).drop ((lz (words b)).1 + (lz (words b)).2)) := rfl
      have hw4 : ∀ x ∈ words b, x.data.toList.length ≤ 4 := words_le b
      generalize words b = ws at *
      generalize lz ws = AM at *
      obtain ⟨A, M⟩ := AM
      simp only at hlz hbd hT
      have HT : Hid (text6 b = if M < 2 then joinW ws else joinW (ws.take A) ++ [58, 58] ++ joinW (ws.drop (A + M))) := hT
      have HW : Hid (ws.length = 8) := hwl
      have hgz : g < wr.heap.size := by omega
      have jn : ∀ (o cc : Nat) (xs : List ByteArray) (W : World), (∀ (j : Nat) x, xs[j]? = some x → ws[o + j]? = some x) → xs.length ≤ cc → Below wr.heap.size wr W →
          Calls Tryd.prog 57 #[.slice (some ⟨g, o, none⟩) xs.length cc, .string (ByteArray.mk #[58])] W fun e w' => e = .returned (.string ⟨(joinW xs).toArray⟩) ∧ Below wr.heap.size wr w' := fun o cc xs W hsub hcc hW => by
        have hl8 : xs.length ≤ 8 := by
          rcases Nat.lt_or_ge 8 xs.length with h | h
          · have := hsub 8 _ (List.getElem?_eq_getElem h)
            have := (List.getElem?_eq_some_iff.1 this).1
            omega
          · exact h
        have hle : (Lib.join (xs.map (·.data.toList)) [58]).length ≤ 140737488355328 := by
          have := join_le xs (fun x hx => by
            obtain ⟨j, hj⟩ := List.getElem?_of_mem hx
            exact hw4 x (List.mem_of_getElem? (hsub j x hj)))
          omega
        refine (Tryd.strings_Join g o cc xs (ByteArray.mk #[58]) W (fun j x hj => ?_) (by have := hW.size; omega) (by omega) hcc hle).mono ?_
        · have h1 := hsub j x hj
          obtain ⟨h2, h3⟩ := List.getElem?_eq_some_iff.1 h1
          have := kept hW (hcw (o + j) h2)
          rw [h3] at this
          exact this
        · rintro e w' ⟨rfl, hb⟩
          exact ⟨rfl, hW.trans (hb.mono hW.size)⟩
      have ilt : ¬ ((8 : Nat) : Int) < 8 := by omega
      have bz := bel.size
      rw [show w.heap.size = g from HG.out] at bz
      by_cases h2 : M < 2
      · have h2' : (M : Int) < 2 := by omega
        have j1 := jn 0 8 ws wr (fun j x h => by rw [Nat.zero_add]; exact h) (by omega) (Below.refl _ _)
        rw [HW.out] at j1
        clear hT hwl jn hX hF
        go_wp2_with (first
          | (go_at_call 59; refine hlz.mono ?_; rintro e w' ⟨rfl, rfl⟩)
          | (go_at_call 57; refine j1.mono ?_; rintro e w' ⟨rfl, b5⟩))
        go_ret
        rw [HT.out, if_pos h2]
        exact ⟨rfl, by rw [HG.out]; exact bel.trans (b5.mono (by omega))⟩
      · have h2' : ¬ (M : Int) < 2 := by omega
        have hA8 : A ≤ 8 := by omega
        have jt : ∀ W, Below wr.heap.size wr W → Calls Tryd.prog 57 #[.slice (some ⟨g, 0, none⟩) A 8, .string (ByteArray.mk #[58])] W fun e w' => e = .returned (.string ⟨(joinW (ws.take A)).toArray⟩) ∧ Below wr.heap.size wr w' := fun W hW => by
          have := jn 0 8 (ws.take A) W (fun j x h => by
            rw [Nat.zero_add]
            rw [List.getElem?_take] at h
            split at h
            · exact h
            · cases h) (by simp; omega) hW
          rwa [show (ws.take A).length = A by rw [List.length_take, HW.out]; omega] at this
        obtain ⟨D, hD⟩ : ∃ D, A + M = D := ⟨_, rfl⟩
        have iD : (A : Int) + (M : Int) = (D : Int) := by omega
        have hD8 : D ≤ 8 := by omega
        have iD8 : (D : Int) ≤ 8 := by omega
        have iA8 : (A : Int) ≤ 8 := by omega
        obtain ⟨o, hO⟩ : ∃ o : Nat, (if 8 = D then (⟨g, 0, none⟩ : Addr) else (⟨g, 0, none⟩ : Addr).add D) = ⟨g, o, none⟩ := by
          split
          · exact ⟨0, rfl⟩
          · exact ⟨0 + D, Go.WideShapes.add_plain ..⟩
        have jd : ∀ W, Below wr.heap.size wr W → Calls Tryd.prog 57 #[.slice (some ⟨g, o, none⟩) (8 - D) (8 - D), .string (ByteArray.mk #[58])] W fun e w' => e = .returned (.string ⟨(joinW (ws.drop D)).toArray⟩) ∧ Below wr.heap.size wr w' := fun W hW => by
          have hl : (ws.drop D).length = 8 - D := by rw [List.length_drop, HW.out]
          by_cases h8 : 8 = D
          · have := jn o (8 - D) (ws.drop D) W (fun j x h => by
              have := (List.getElem?_eq_some_iff.1 h).1
              omega) (by omega) hW
            rwa [hl] at this
          · rw [if_neg h8, Go.WideShapes.add_plain] at hO
            have e : 0 + D = o := by simpa using hO
            have := jn o (8 - D) (ws.drop D) W (fun j x h => by
              rw [List.getElem?_drop] at h
              rw [← e, Nat.zero_add]
              exact h) (by omega) hW
            rwa [hl] at this
        rw [hD] at HT
        clear hT hwl jn hX hF hcw
        go_wp2_with (go_at_call 59; refine hlz.mono ?_; rintro e w' ⟨rfl, rfl⟩)
        have wD : IntKind.i64.wrap ((A : Int) + (M : Int)) = (D : Int) := by rw [iD, IntKind.wrap_i64]; omega
        have hsl : ∀ W, (Instr.slice 68 (.slice (some ⟨g, 0, none⟩) 8 8) (some (.int .i64 (D : Int))) none none).run Tryd.prog W = .ok (.slice (some ⟨g, o, none⟩) (8 - D) (8 - D)) W := fun W => by
          have hel : Tryd.prog.elem 68 = 9 := by kernel_rfl
          rw [run_slice_l W 68 (some ⟨g, 0, none⟩) 8 8 (by rw [hel]; exact Tryd.underlying68) .i64 (D : Int) (by omega) (by omega), hel]
          have hso : (sizeOf 9).run Tryd.prog W = .ok 1 W := by kernel_rfl
          rw [hso]
          simp only [Result.andThen_ok, sliced, Int.toNat_natCast, Nat.mul_one]
          congr 2
          split
          · next h => rw [if_pos h] at hO; rw [hO]
          · next h => rw [if_neg h] at hO; simp only [Option.map_some, hO]
        have q1 := join_le (ws.take A) (fun x hx => hw4 x (List.mem_of_mem_take hx))
        have q2 := join_le (ws.drop D) (fun x hx => hw4 x (List.mem_of_mem_drop hx))
        have q3 : (ws.take A).length ≤ 8 := by rw [List.length_take, HW.out]; omega
        have q4 : (ws.drop D).length ≤ 8 := by rw [List.length_drop, HW.out]; omega
        have a1 : ∀ W, (Op.stringOp .add (ByteArray.mk (joinW (ws.take A)).toArray) (ByteArray.mk #[58, 58])).run Tryd.prog W = .ok (.string (ByteArray.mk (joinW (ws.take A) ++ [58, 58]).toArray)) W := fun W => by
          rw [run_string_add_sum W _ _ (by show (joinW (ws.take A)).toArray.size + 2 ≤ _; simp only [List.size_toArray]; unfold joinW; omega)]
          congr 2
        have a2 : ∀ W, (Op.stringOp .add (ByteArray.mk (joinW (ws.take A) ++ [58, 58]).toArray) (ByteArray.mk (joinW (ws.drop D)).toArray)).run Tryd.prog W = .ok (.string (ByteArray.mk (joinW (ws.take A) ++ [58, 58] ++ joinW (ws.drop D)).toArray)) W := fun W => by
          rw [run_string_add_sum W _ _ (by show (joinW (ws.take A) ++ [58, 58]).toArray.size + (joinW (ws.drop D)).toArray.size ≤ _; simp only [List.size_toArray, List.length_append]; unfold joinW; simp only [List.length_cons, List.length_nil]; omega)]
          congr 2
        generalize e1 : ByteArray.mk (joinW (ws.take A)).toArray = s1 at jt a1
        generalize e3 : ByteArray.mk (joinW (ws.take A) ++ [58, 58]).toArray = s3 at a1 a2
        generalize e2 : ByteArray.mk (joinW (ws.drop D)).toArray = s2 at jd a2
        generalize e4 : ByteArray.mk (joinW (ws.take A) ++ [58, 58] ++ joinW (ws.drop D)).toArray = s4 at a2
        have E4 : Hid (ByteArray.mk (joinW (ws.take A) ++ [58, 58] ++ joinW (ws.drop D)).toArray = s4) := e4
        clear e1 e2 e3 e4 q1 q2 q3 q4 hD hsl
        have iA0 : (0 : Int) ≤ (A : Int) := by omega
        by_cases h8 : 8 = D
        · rw [if_pos h8] at hO
          have ho : 0 = o := by simpa using hO
          subst ho
          subst h8
          simp only [Nat.sub_self] at jd
          replace iD : (A : Int) + (M : Int) = 8 := by omega
          replace wD : IntKind.i64.wrap ((A : Int) + (M : Int)) = 8 := by rw [iD]; decide
          clear hO iD8 hD8 iD
          go_region_held3 (fun w'' => True) (go_keep) (first
            | (go_at_call 57; (with_reducible show Calls _ _ #[Value.slice _ A _, _] _ _); refine (jt _ (by first | exact (Below.refl _ _).drew | exact b5)).mono ?_; rintro e w4 ⟨rfl, b4⟩)
            | (go_at_call 57; (with_reducible show Calls _ _ #[Value.slice _ 0 _, _] _ _); refine (jd _ (by first | exact (Below.refl _ _).drew | exact b4)).mono ?_; rintro e w5 ⟨rfl, b5⟩))
          all_goals go_wp2
          all_goals go_ret
          all_goals rw [HT.out, if_neg h2, E4.out]
          all_goals (refine ⟨rfl, ?_⟩; rw [HG.out])
          all_goals first | exact bel.trans (b5.mono (by omega)) | exact bel.trans (b4.mono (by omega))
        · rw [if_neg h8, Go.WideShapes.add_plain] at hO
          have ho : D = o := by simpa using hO
          subst ho
          have iD0 : (0 : Int) ≤ (D : Int) := by omega
          clear hO iD
          go_region_held3 (fun w'' => True) (go_keep) (first
            | (go_at_call 57; (with_reducible show Calls _ _ #[Value.slice _ A _, _] _ _); refine (jt _ (by first | exact (Below.refl _ _).drew | exact b5)).mono ?_; rintro e w4 ⟨rfl, b4⟩)
            | (go_at_call 57; (with_reducible show Calls _ _ #[Value.slice _ (8 - D) _, _] _ _); refine (jd _ (by first | exact (Below.refl _ _).drew | exact b4)).mono ?_; rintro e w5 ⟨rfl, b5⟩))
          all_goals go_wp2
          all_goals go_ret
          all_goals rw [HT.out, if_neg h2, E4.out]
          all_goals (refine ⟨rfl, ?_⟩; rw [HG.out])
          all_goals first | exact bel.trans (b5.mono (by omega)) | exact bel.trans (b4.mono (by omega))
end Go.Proofs.YtjdapofjlbifjaaDoor
