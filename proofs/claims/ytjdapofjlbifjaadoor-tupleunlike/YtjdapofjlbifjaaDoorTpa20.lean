/- Texts joined: Tx4 -/
import Derived.Test.YtjdapofjlbifjaaDoorTpa19
import Derived.Lib.SmallJoins
import Derived.Lib.AppendIntMem
import Derived.Deep.DeepCutAuto
namespace Go.Proofs.YtjdapofjlbifjaaDoor
open Go.RowKit Go.Sort
set_option linter.unusedVariables false
set_option linter.unusedSimpArgs false
def dec (x : Int) : ByteArray := ⟨(Lib.itoa x).toArray⟩
def words4 (b : List Int) : List ByteArray := b.map dec
def text4 (b : List Int) : List UInt8 := Lib.join ((words4 b).map (·.data.toList)) [46]
theorem dec_le (x : Int) (h0 : 0 ≤ x) (h1 : x ≤ 255) : (dec x).data.toList.length ≤ 4 := by
  obtain ⟨u, rfl⟩ := Int.eq_ofNat_of_zero_le h0
  show (Lib.itoa (u : Int)).toArray.toList.length ≤ 4
  rw [Lib.itoa_nonneg, List.toList_toArray, Lib.decDigits_length]
  by_cases h : u < 10
  · rw [Lib.nDigits_small h]; omega
  · rw [Lib.nDigits_big h]
    by_cases h' : u / 10 < 10
    · rw [Lib.nDigits_small h']; omega
    · rw [Lib.nDigits_big h', Lib.nDigits_small (by omega)]; omega
theorem tail_dot (xs : List (List UInt8)) (h : ∀ x ∈ xs, x.length ≤ 4) : (Lib.joinTail [46] xs).length ≤ 5 * xs.length := by
  induction xs with
  | nil => simp [Lib.joinTail]
  | cons x xs ih =>
    have h1 := h x (List.mem_cons_self ..)
    have h2 := ih (fun y hy => h y (List.mem_cons_of_mem _ hy))
    simp only [Lib.joinTail, List.map_cons, List.flatten_cons, List.length_append, List.length_cons, List.length_nil] at h2 ⊢
    omega
theorem join_dot (xs : List ByteArray) (h : ∀ x ∈ xs, x.data.toList.length ≤ 4) : (Lib.join (xs.map (·.data.toList)) [46]).length ≤ 5 * xs.length := by
  cases xs with
  | nil => simp [Lib.join]
  | cons x xs =>
    rw [List.map_cons, Lib.join_cons, List.length_append, List.length_cons]
    have h1 := h x (List.mem_cons_self ..)
    have h2 := tail_dot (xs.map (·.data.toList)) (fun y hy => by
      obtain ⟨z, hz, rfl⟩ := List.mem_map.1 hy
      exact h z (List.mem_cons_of_mem _ hz))
    rw [List.length_map] at h2
    omega
set_option maxRecDepth 100000 in
set_option maxHeartbeats 2000000 in
theorem text4_any (a : Option Addr) (c : Nat) (b : List Int) (w : World) (hr : Row w a b) (h4 : b.length = 4) (htab : Lib.TabIs Tryd.prog w "internal/strconv.uint64pow10" .u64 Lib.pow10Tab) :
    Calls Tryd.prog 50 #[.slice a b.length c] w fun e w' => e = .returned (.string ⟨(text4 b).toArray⟩) ∧ Below w.heap.size w w' := by
  obtain ⟨bk, off, rfl, hcb⟩ := hr.cells (by omega)
  have hby := hr.bytes
  have hbk : bk < w.heap.size := World.block_lt_of_cell? w _ (hcb 0 (by omega))
  have L4 : Hid (b.length = 4) := h4
  have hl4 : ((b.length : Int)) = 4 := by rw [h4]; rfl
  have gp : Tryd.prog.globalNamed "internal/strconv.uint64pow10" = some 0 := by kernel_rfl
  clear h4
  obtain ⟨i9, hi9, hz9, hs9, hb9⟩ := info_parts (show (Tryd.prog.info? 9).map (fun i => (i.zero, i.size, i.bytes)) = some (some (.string ByteArray.empty), 1, 16) by kernel_rfl)
  have hmk : ∀ W, (Instr.makeSlice 68 (.int .i64 4) (.int .i64 4)).run Tryd.prog W = .ok (.slice (some ⟨W.heap.size, 0, none⟩) 4 4) (W.alloc (.cells (madeCells #[Value.string ByteArray.empty] 4) 9)) := fun W => by
    have hr := run_make (P := Tryd.prog) W 68 9 i9 (.string ByteArray.empty) Tryd.underlying68 hi9 hz9 .i64 .i64 4 4 (by omega) (Int.le_refl _) (by rw [hb9]; omega) (by omega)
    rw [hs9, Nat.mul_one] at hr
    exact hr
  obtain ⟨Z, hZ⟩ : ∃ Z, madeCells #[Value.string ByteArray.empty] 4 = Z := ⟨_, rfl⟩
  rw [hZ] at hmk
  have ZC : Hid (∀ i, i < 4 → Z[i]? = some (.string ByteArray.empty)) := fun i hi => by
    rw [← hZ]
    simp [madeCells, hi, Nat.mod_one]
  clear hZ
  go_enter Tryd.func50, Tryd.ntmps50
  go_wp2
  generalize hg : w.heap.size = g at *
  have HG : Hid (w.heap.size = g) := hg
  have b0 : Below g w (w.alloc (.cells Z 9)) := by rw [← hg]; exact (Below.refl _ _).alloc (Nat.le_refl _) _
  have s0 : g + 1 ≤ (w.alloc (.cells Z 9)).heap.size := by rw [← hg]; simp
  have k0 : ∀ i, i < 4 → (w.alloc (.cells Z 9)).cell? ⟨g, i, none⟩ = some (.string ByteArray.empty) := fun i hi => by
    rw [← hg, World.cell?_alloc_new]; exact ZC.out i hi
  have f0 : ∀ i, (w.alloc (.cells Z 9)).frozen? ⟨g, i, none⟩ = false := fun i => by rw [← hg]; simp
  generalize w.alloc (.cells Z 9) = w0 at *
  clear hg hmk ZC hi9 hz9 hs9 hb9 hl4
  go_loopw [11] (fun i w' => ∃ (k : Nat) (X : Nat → ByteArray), k ≤ 4 ∧ i = .int .i64 k ∧ (∀ i, i < 4 → w'.cell? ⟨g, i, none⟩ = some (.string (X i))) ∧ (∀ i, w'.frozen? ⟨g, i, none⟩ = false) ∧ Below g w w' ∧ g + 1 ≤ w'.heap.size ∧ Hid (∀ i, i < k → X i = dec (b.getD i 0))) (fun i _ => 4 - (intOf i).toNat)
  case atStart => exact ⟨0, fun _ => ByteArray.empty, by omega, rfl, k0, f0, b0, s0, fun i hi => by omega⟩
  case round =>
    obtain ⟨k, X, hk, rfl, hX, hF, bel, hsz, hr⟩ := hrel
    by_cases hlt : k < 4
    · have ilt : (k : Int) < 4 := by omega
      have hl1 : k < b.length := by rw [L4.out]; exact hlt
      have i1 : (k : Int) < (b.length : Int) := by omega
      have hx := hby.get k
      have c1 : wr.cell? ⟨bk, off + k, none⟩ = some (.int .u8 (b.getD k 0)) := (bel.cell (p := ⟨bk, off + k, none⟩) hbk).trans (hcb _ hl1)
      have cg := hX k hlt
      have fg := hF k
      have HX : Hid (∀ i, i < 4 → wr.cell? ⟨g, i, none⟩ = some (.string (X i))) := hX
      have HF : Hid (∀ i, wr.frozen? ⟨g, i, none⟩ = false) := hF
      have tab : Lib.TabIs Tryd.prog wr "internal/strconv.uint64pow10" .u64 Lib.pow10Tab := Go.Joins.tab_stays gp htab bel (by rw [HG.out]; exact Nat.le_refl _)
      obtain ⟨x, hxx⟩ : ∃ x, b.getD k 0 = x := ⟨_, rfl⟩
      rw [hxx] at c1 hx
      have HXX : Hid (b.getD k 0 = x) := hxx
      clear hxx hX hF hcb k0 f0 b0 s0
      have hf : ∀ W, Below wr.heap.size wr W → Calls Tryd.prog 43 #[.int .i64 x] W fun e w' => e = .returned (.string (dec x)) ∧
          w'.cell? ⟨g, k, none⟩ = some (.string (X k)) ∧ w'.frozen? ⟨g, k, none⟩ = false ∧ Below wr.heap.size wr w' := fun W hW => by
        refine (Tryd.strconv_Itoa x (by omega) (by omega) W (Go.Joins.tab_stays gp tab hW (Nat.le_refl _))).mono ?_
        rintro e w' ⟨rfl, n, os, rfl⟩
        have hb' : Below wr.heap.size wr (grow (W.drewN n) os) := hW.trans (Lib.below_grow _ W hW.size n os)
        exact ⟨rfl, kept hb' cg, (hb'.frozen (p := ⟨g, k, none⟩) (by show g < _; omega)).trans fg, hb'⟩
      go_wp2_with (go_at_call 43; refine (hf _ (Below.refl _ _)).mono ?_; rintro e w4 ⟨rfl, q3, q4, b4⟩)
      refine ⟨⟨k + 1, fun i => if i = k then dec x else X i, by omega, int_eq (by omega), ?_, ?_, ?_, ?_, ?_⟩, by simp [intOf]; omega⟩
      · intro i hi
        by_cases hik : i = k
        · subst hik
          rw [put_same q3]
          simp
        · rw [put_other (by simp <;> omega)]
          simp only [if_neg hik]
          exact kept b4 (HX.out i hi)
      · intro i
        simp only [World.frozen?_setCell]
        exact (b4.frozen (p := ⟨g, i, none⟩) (by show g < _; omega)).trans (HF.out i)
      · exact (bel.trans (b4.mono (by omega))).setCell (by simp) _
      · have := b4.size; simp; omega
      · intro i hi
        show (if i = k then _ else _) = _
        by_cases hik : i = k
        · rw [if_pos hik, hik, HXX.out]
        · rw [if_neg hik]
          exact hr.out i (by omega)
    · have ek : k = 4 := by omega
      subst ek
      have hlen := L4.out
      have hw4 : (words4 b).length = 4 := by simp [words4]; exact hlen
      have hcw : ∀ (j : Nat) x, (words4 b)[j]? = some x → wr.cell? ⟨g, 0 + j, none⟩ = some (.string x) := fun j x hj => by
        obtain ⟨h1, h2⟩ := List.getElem?_eq_some_iff.1 hj
        have hj4 : j < 4 := by omega
        rw [Nat.zero_add, hX j hj4, hr.out j hj4, ← h2]
        have hjb : j < b.length := by omega
        simp [words4, hjb]
      have hle : (Lib.join ((words4 b).map (·.data.toList)) [46]).length ≤ 140737488355328 := by
        have := join_dot (words4 b) (fun x hx => by
          obtain ⟨y, hy, rfl⟩ := List.mem_map.1 hx
          have := hby y hy
          exact dec_le y this.1 this.2)
        omega
      have j1 := Tryd.strings_Join g 0 4 (words4 b) (ByteArray.mk #[46]) wr hcw (by omega) (by omega) (by omega) hle
      rw [hw4] at j1
      have ilt : ¬ ((4 : Nat) : Int) < 4 := by omega
      have bz := bel.size
      clear hX hF hlen hw4
      go_wp2_with (go_at_call 57; refine j1.mono ?_; rintro e w' ⟨rfl, b5⟩)
      go_ret
      exact ⟨rfl, by rw [HG.out]; exact bel.trans (b5.mono (by omega))⟩
/-- The text of an address. -/
def Ad.text (a : Ad) : List UInt8 := if a.right then (if a.fam = 4 then text4 a.bytes else text6 a.bytes) else []
theorem bytes_len (a : Ad) : a.bytes.length = if a.right then (if a.fam = 4 then 4 else 16) else 0 := by
  unfold Ad.bytes
  split
  · exact bytesGo_length _ _ _
  · rfl
set_option maxHeartbeats 400000 in
theorem text_any (f h l : Int) (w : World) (ho : Ad.ok ⟨f, h, l⟩) (ht : w.cell? ⟨3, 15, none⟩ = some (.int .u8 4)) (htab : Lib.TabIs Tryd.prog w "internal/strconv.uint64pow10" .u64 Lib.pow10Tab) :
    Calls Tryd.prog 42 #[.agg #[.int .i64 f, .int .u64 h, .int .u64 l]] w fun e w' => e = .returned (.string ⟨(Ad.text ⟨f, h, l⟩).toArray⟩) ∧ Below w.heap.size w w' := by
  have gp : Tryd.prog.globalNamed "internal/strconv.uint64pow10" = some 0 := by kernel_rfl
  have hb := fun w => bytes_any f h l w ho
  have L := bytes_len ⟨f, h, l⟩
  have hT : Ad.text ⟨f, h, l⟩ = if Ad.right ⟨f, h, l⟩ then (if f = 4 then text4 (Ad.bytes ⟨f, h, l⟩) else text6 (Ad.bytes ⟨f, h, l⟩)) else [] := rfl
  obtain ⟨T, hTT⟩ : ∃ T, Ad.text ⟨f, h, l⟩ = T := ⟨_, rfl⟩
  rw [hTT] at hT ⊢
  generalize Ad.bytes ⟨f, h, l⟩ = b at *
  generalize Ad.right ⟨f, h, l⟩ = R at *
  simp only at L
  have HL : Hid _ := L
  have HT : Hid _ := hT
  clear L hT hTT ho
  go_enter Tryd.func42, Tryd.ntmps42
  go_wp2_with fail
  refine (hb _).mono ?_
  rintro e w1 ⟨a, c, rfl, f1⟩
  have b1 := f1.below
  have r1 := f1.row
  have bw : Below w.heap.size w w1 := ((Below.refl _ _).alloc (Nat.le_refl _) _).trans (b1.mono (by simp))
  have z1 := bw.size
  clear hb f1 b1
  cases R with
  | false =>
    have L0 : b.length = 0 := by simpa using HL.out
    have T0 : T = [] := by simpa using HT.out
    have h4 : ((b.length : Int) == 4) = false := by rw [L0]; rfl
    have h16 : ((b.length : Int) == 16) = false := by rw [L0]; rfl
    subst T0
    clear L0 HL HT
    go_wp2
    go_ret
    exact ⟨rfl, bw⟩
  | true =>
    by_cases hf : f = 4
    · have L4 : b.length = 4 := by have := HL.out; simpa [hf] using this
      have T0 : T = text4 b := by have := HT.out; simpa [hf] using this
      have h4 : ((b.length : Int) == 4) = true := by rw [L4]; rfl
      have t4 := text4_any a c b w1 r1 L4 (Go.Joins.tab_stays gp htab bw (Nat.le_refl _))
      subst T0
      clear L4 HL HT hf
      go_wp2_with (go_at_call 50; refine t4.mono ?_; rintro e w' ⟨rfl, b2⟩)
      go_ret
      exact ⟨rfl, bw.trans (b2.mono z1)⟩
    · have L4 : b.length = 16 := by have := HL.out; simpa [hf] using this
      have T0 : T = text6 b := by have := HT.out; simpa [hf] using this
      have h4 : ((b.length : Int) == 4) = false := by rw [L4]; rfl
      have h16 : ((b.length : Int) == 16) = true := by rw [L4]; rfl
      have t6 := text6_any a c b w1 r1 L4 (kept bw ht)
      subst T0
      clear L4 HL HT hf
      go_wp2_with (go_at_call 51; refine t6.mono ?_; rintro e w' ⟨rfl, b2⟩)
      go_ret
      exact ⟨rfl, bw.trans (b2.mono z1)⟩
end Go.Proofs.YtjdapofjlbifjaaDoor
