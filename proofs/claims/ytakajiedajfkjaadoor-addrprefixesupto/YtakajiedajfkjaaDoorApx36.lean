/- Texts joined: AtO -/
import Derived.Test.YtakajiedajfkjaaDoorApx18
import Derived.Test.YtakajiedajfkjaaDoorApx35
namespace Go.Proofs.YtakajiedajfkjaaDoor
open Go.RowKit Go.Sort
set_option linter.unusedVariables false
set_option linter.unusedSimpArgs false
theorem text_len2 {a : Ad} (ho : a.ok) : a.text.length ≤ 1000 := by
  unfold Ad.text
  split
  · next hr =>
    have hl := bytes_len a
    rw [if_pos hr] at hl
    have hb : M.Bytes a.bytes := by unfold Ad.bytes; rw [if_pos hr]; exact bytesGo_bytes _ _ _
    split
    · next hf =>
      rw [if_pos hf] at hl
      have := join_dot (words4 a.bytes) (fun x hx => by
        obtain ⟨y, hy, rfl⟩ := List.mem_map.1 hx
        exact dec_le y (hb y hy).1 (hb y hy).2)
      have e : (words4 a.bytes).length = 4 := by simp [words4, hl]
      unfold text4
      omega
    · next hf =>
      rw [if_neg hf] at hl
      have e : (words a.bytes).length = 8 := by simp [words]
      have hw := words_le a.bytes
      unfold text6
      split
      · have := join_le (words a.bytes) hw
        unfold joinW
        omega
      · have h1 := join_le ((words a.bytes).take (lz (words a.bytes)).1) (fun x hx => hw x (List.mem_of_mem_take hx))
        have h2 := join_le ((words a.bytes).drop ((lz (words a.bytes)).1 + (lz (words a.bytes)).2)) (fun x hx => hw x (List.mem_of_mem_drop hx))
        have h3 : ((words a.bytes).take (lz (words a.bytes)).1).length ≤ 8 := by rw [List.length_take]; omega
        have h4 : ((words a.bytes).drop ((lz (words a.bytes)).1 + (lz (words a.bytes)).2)).length ≤ 8 := by rw [List.length_drop]; omega
        unfold joinW
        simp only [List.length_append, List.length_cons, List.length_nil]
        omega
  · simp
theorem add_lists2 (x y : List UInt8) (hx : x.length ≤ 100000) (hy : y.length ≤ 100000) (w : World) : (Op.stringOp .add (ByteArray.mk x.toArray) (ByteArray.mk y.toArray)).run Tryd.prog w = .ok (.string (ByteArray.mk (x ++ y).toArray)) w :=
  run_string_add_lists w x y (by omega) (by omega)
/-- A prefix's text. -/
def Ad.ptext (a : Ad) (b : Int) : List UInt8 := if a.rightPrefix b = true then a.text ++ [47] ++ Lib.itoa b else []
set_option maxRecDepth 100000 in
set_option maxHeartbeats 2000000 in
theorem ptext_any (f h l b : Int) (w : World) (ho : Ad.ok ⟨f, h, l⟩) (ht : w.cell? ⟨5, 15, none⟩ = some (.int .u8 4)) (htab : Lib.TabIs Tryd.prog w "internal/strconv.uint64pow10" .u64 Lib.pow10Tab) :
    Calls Tryd.prog 29 #[.agg #[.int .i64 f, .int .u64 h, .int .u64 l, .int .i64 b]] w fun e w' => e = .returned (.string ⟨(Ad.ptext ⟨f, h, l⟩ b).toArray⟩) ∧ Below w.heap.size w w' := by
  have hr := fun w => rightPrefix_any f h l b w ho
  obtain ⟨T, hT⟩ : ∃ T, Ad.ptext ⟨f, h, l⟩ b = T := ⟨_, rfl⟩
  rw [hT]
  have HT : Hid ((if Ad.rightPrefix ⟨f, h, l⟩ b = true then Ad.text ⟨f, h, l⟩ ++ [47] ++ Lib.itoa b else []) = T) := hT
  have hfit : Hid (Ad.rightPrefix ⟨f, h, l⟩ b = true → 0 ≤ b ∧ b ≤ 128) := fun hh => by
    have h1 := fits_of2 hh
    have h2 := width_cases ⟨f, h, l⟩
    omega
  have hlen := text_len2 ho
  have ktx := fun w ht htab => text_any f h l w ho ht htab
  have gp : Tryd.prog.globalNamed "internal/strconv.uint64pow10" = some 1 := by kernel_rfl
  generalize Ad.text ⟨f, h, l⟩ = X at *
  generalize Ad.rightPrefix ⟨f, h, l⟩ b = R at *
  clear hT ho
  obtain ⟨W0, hW0⟩ : ∃ W0, w.alloc (.cells #[.int .i64 f, .int .u64 h, .int .u64 l, .int .i64 b] 26) = W0 := ⟨_, rfl⟩
  have A0 : W0.cell? ⟨w.heap.size, 0, none⟩ = some (.int .i64 f) := by rw [← hW0]; simp
  have A1 : W0.cell? ⟨w.heap.size, 1, none⟩ = some (.int .u64 h) := by rw [← hW0]; simp
  have A2 : W0.cell? ⟨w.heap.size, 2, none⟩ = some (.int .u64 l) := by rw [← hW0]; simp
  have A3 : W0.cell? ⟨w.heap.size, 3, none⟩ = some (.int .i64 b) := by rw [← hW0]; simp
  have B0 : Below w.heap.size w W0 := by rw [← hW0]; exact (Below.refl _ _).alloc (Nat.le_refl _) _
  have z0 := B0.size
  go_enter Tryd.func29, Tryd.ntmps29
  go_wp2_with fail
  clear hW0
  refine (hr _).mono ?_
  rintro e w1 ⟨rfl, b1⟩
  have z1 := b1.size
  have B1 : Below w.heap.size w w1 := B0.trans (b1.mono z0)
  replace A0 := kept b1 A0; replace A1 := kept b1 A1; replace A2 := kept b1 A2; replace A3 := kept b1 A3
  clear hr b1 B0
  cases R with
  | false =>
    obtain rfl : T = [] := by have := HT.out; simpa using this.symm
    clear HT hfit
    go_wp2
    go_ret
    exact ⟨rfl, B1⟩
  | true =>
    obtain ⟨hb0, hb1⟩ := hfit.out rfl
    have hT' : Hid (X ++ [47] ++ Lib.itoa b = T) := by have := HT.out; rw [if_pos rfl] at this; exact this
    obtain ⟨bn, rfl⟩ := Int.eq_ofNat_of_zero_le hb0
    have hil := dec_len (bn : Int) (by omega) (by omega)
    have hadd1 : ∀ W, (Op.stringOp .add (ByteArray.mk X.toArray) (ByteArray.mk #[47])).run Tryd.prog W = .ok (.string (ByteArray.mk (X ++ [47]).toArray)) W := add_lists X [47] (by omega) (by simp)
    have hadd2 := add_lists2 (X ++ [47]) (Lib.itoa (bn : Int)) (by simp; omega) (by omega)
    have kT : ∀ W', Below w1.heap.size w1 W' → Calls Tryd.prog 25 #[.agg #[.int .i64 f, .int .u64 h, .int .u64 l]] W' fun e w' => e = .returned (.string (ByteArray.mk X.toArray)) ∧ w'.cell? ⟨w.heap.size, 0, none⟩ = some (.int .i64 f) ∧ w'.cell? ⟨w.heap.size, 1, none⟩ = some (.int .u64 h) ∧ w'.cell? ⟨w.heap.size, 2, none⟩ = some (.int .u64 l) ∧ w'.cell? ⟨w.heap.size, 3, none⟩ = some (.int .i64 (bn : Int)) ∧ Below w1.heap.size w1 w' := fun W' hW => by
      have hw : Below w.heap.size w W' := B1.trans (hW.mono B1.size)
      refine (ktx W' (kept hw ht) (Go.Joins.tab_stays gp htab hw (Nat.le_refl _))).mono ?_
      rintro e w' ⟨rfl, hb⟩
      have hb' : Below w1.heap.size w1 w' := hW.trans (hb.mono hW.size)
      exact ⟨rfl, kept hb' A0, kept hb' A1, kept hb' A2, kept hb' A3, hb'⟩
    have kD : ∀ W', Below w1.heap.size w1 W' → Calls Tryd.prog 48 #[.int .i64 (bn : Int)] W' fun e w' => e = .returned (.string (ByteArray.mk (Lib.itoa (bn : Int)).toArray)) ∧ w'.cell? ⟨w.heap.size, 0, none⟩ = some (.int .i64 f) ∧ w'.cell? ⟨w.heap.size, 1, none⟩ = some (.int .u64 h) ∧ w'.cell? ⟨w.heap.size, 2, none⟩ = some (.int .u64 l) ∧ w'.cell? ⟨w.heap.size, 3, none⟩ = some (.int .i64 (bn : Int)) ∧ Below w1.heap.size w1 w' := fun W' hW => by
      have hw : Below w.heap.size w W' := B1.trans (hW.mono B1.size)
      refine (Tryd.strconv_Itoa (bn : Int) (by omega) (by omega) W' (Go.Joins.tab_stays gp htab hw (Nat.le_refl _))).mono ?_
      rintro e w' ⟨rfl, n, os, rfl⟩
      have hb' : Below w1.heap.size w1 (grow (W'.drewN n) os) := hW.trans (Lib.below_grow _ W' hW.size n os)
      exact ⟨rfl, kept hb' A0, kept hb' A1, kept hb' A2, kept hb' A3, hb'⟩
    clear ktx ht htab
    rw [hT'.out] at hadd2
    generalize Lib.itoa (bn : Int) = d at *
    generalize X ++ [47] = X1 at *
    clear HT hfit hT' hlen hil
    go_wp2
    go_region_held3 (fun w'' => w''.cell? ⟨w.heap.size, 0, none⟩ = some (.int .i64 f) ∧ w''.cell? ⟨w.heap.size, 1, none⟩ = some (.int .u64 h) ∧ w''.cell? ⟨w.heap.size, 2, none⟩ = some (.int .u64 l) ∧ w''.cell? ⟨w.heap.size, 3, none⟩ = some (.int .i64 (bn : Int))) (go_keep) (first
      | (go_at_call 25; refine (kT _ (Below.refl _ _).drew).mono ?_; rintro e w8 ⟨rfl, q0, q1, q2, q3, b8⟩)
      | (go_at_call 48; refine (kD _ b8).mono ?_; rintro e w9 ⟨rfl, r0, r1, r2, r3, b9⟩))
    all_goals go_wp2
    all_goals go_ret
    all_goals exact ⟨rfl, B1.trans (b9.mono B1.size)⟩
set_option maxRecDepth 100000 in
set_option maxHeartbeats 2000000 in
theorem rptext_any (f h l b : Int) (w : World) (ho : Ad.ok ⟨f, h, l⟩) :
    Calls Tryd.prog 30 #[.agg #[.int .i64 f, .int .u64 h, .int .u64 l, .int .i64 b]] w fun e w' => e = .returned (.string ⟨(Ad.ptext ⟨f, h, l⟩ b).toArray⟩) ∧ Below w.heap.size w w' := by
  have hr := fun w => rrightPrefix_any f h l b w ho
  obtain ⟨T, hT⟩ : ∃ T, Ad.ptext ⟨f, h, l⟩ b = T := ⟨_, rfl⟩
  rw [hT]
  have HT : Hid ((if Ad.rightPrefix ⟨f, h, l⟩ b = true then Ad.text ⟨f, h, l⟩ ++ [47] ++ Lib.itoa b else []) = T) := hT
  have hfit : Hid (Ad.rightPrefix ⟨f, h, l⟩ b = true → 0 ≤ b ∧ b ≤ 128) := fun hh => by
    have h1 := fits_of2 hh
    have h2 := width_cases ⟨f, h, l⟩
    omega
  have hlen := text_len2 ho
  have ktx := fun w => rtext_any f h l w ho
  generalize Ad.text ⟨f, h, l⟩ = X at *
  generalize Ad.rightPrefix ⟨f, h, l⟩ b = R at *
  clear hT ho
  obtain ⟨W0, hW0⟩ : ∃ W0, w.alloc (.cells #[.int .i64 f, .int .u64 h, .int .u64 l, .int .i64 b] 26) = W0 := ⟨_, rfl⟩
  have A0 : W0.cell? ⟨w.heap.size, 0, none⟩ = some (.int .i64 f) := by rw [← hW0]; simp
  have A1 : W0.cell? ⟨w.heap.size, 1, none⟩ = some (.int .u64 h) := by rw [← hW0]; simp
  have A2 : W0.cell? ⟨w.heap.size, 2, none⟩ = some (.int .u64 l) := by rw [← hW0]; simp
  have A3 : W0.cell? ⟨w.heap.size, 3, none⟩ = some (.int .i64 b) := by rw [← hW0]; simp
  have B0 : Below w.heap.size w W0 := by rw [← hW0]; exact (Below.refl _ _).alloc (Nat.le_refl _) _
  have z0 := B0.size
  go_enter Tryd.func30, Tryd.ntmps30
  go_wp2_with fail
  clear hW0
  refine (hr _).mono ?_
  rintro e w1 ⟨rfl, b1⟩
  have z1 := b1.size
  have B1 : Below w.heap.size w w1 := B0.trans (b1.mono z0)
  replace A0 := kept b1 A0; replace A1 := kept b1 A1; replace A2 := kept b1 A2; replace A3 := kept b1 A3
  clear hr b1 B0
  cases R with
  | false =>
    obtain rfl : T = [] := by have := HT.out; simpa using this.symm
    clear HT hfit
    go_wp2
    go_ret
    exact ⟨rfl, B1⟩
  | true =>
    obtain ⟨hb0, hb1⟩ := hfit.out rfl
    have hT' : Hid (X ++ [47] ++ Lib.itoa b = T) := by have := HT.out; rw [if_pos rfl] at this; exact this
    obtain ⟨bn, rfl⟩ := Int.eq_ofNat_of_zero_le hb0
    have hil := dec_len (bn : Int) (by omega) (by omega)
    have hadd1 : ∀ W, (Op.stringOp .add (ByteArray.mk X.toArray) (ByteArray.mk #[47])).run Tryd.prog W = .ok (.string (ByteArray.mk (X ++ [47]).toArray)) W := add_lists X [47] (by omega) (by simp)
    have hadd2 := add_lists2 (X ++ [47]) (Lib.itoa (bn : Int)) (by simp; omega) (by omega)
    have kT : ∀ W', Below w1.heap.size w1 W' → Calls Tryd.prog 26 #[.agg #[.int .i64 f, .int .u64 h, .int .u64 l]] W' fun e w' => e = .returned (.string (ByteArray.mk X.toArray)) ∧ w'.cell? ⟨w.heap.size, 0, none⟩ = some (.int .i64 f) ∧ w'.cell? ⟨w.heap.size, 1, none⟩ = some (.int .u64 h) ∧ w'.cell? ⟨w.heap.size, 2, none⟩ = some (.int .u64 l) ∧ w'.cell? ⟨w.heap.size, 3, none⟩ = some (.int .i64 (bn : Int)) ∧ Below w1.heap.size w1 w' := fun W' hW => by
      refine (ktx W').mono ?_
      rintro e w' ⟨rfl, hb⟩
      have hb' : Below w1.heap.size w1 w' := hW.trans (hb.mono hW.size)
      exact ⟨rfl, kept hb' A0, kept hb' A1, kept hb' A2, kept hb' A3, hb'⟩
    have kD : ∀ W', Below w1.heap.size w1 W' → Calls Tryd.prog 45 #[.int .i64 (bn : Int), .int .i64 10] W' fun e w' => e = .returned (.string (ByteArray.mk (Lib.itoa (bn : Int)).toArray)) ∧ w'.cell? ⟨w.heap.size, 0, none⟩ = some (.int .i64 f) ∧ w'.cell? ⟨w.heap.size, 1, none⟩ = some (.int .u64 h) ∧ w'.cell? ⟨w.heap.size, 2, none⟩ = some (.int .u64 l) ∧ w'.cell? ⟨w.heap.size, 3, none⟩ = some (.int .i64 (bn : Int)) ∧ Below w1.heap.size w1 w' := fun W' hW => by
      have hdg := rdigits10_any bn W' (by omega)
      rw [dg10 40 bn [] (by show bn < 2 ^ 40; omega) (by omega), List.append_nil, ← Lib.itoa_nonneg] at hdg
      refine hdg.mono ?_
      rintro e w' ⟨rfl, n, rfl⟩
      have hb' : Below w1.heap.size w1 (W'.drewN n) := below_drewN hW n
      exact ⟨rfl, kept hb' A0, kept hb' A1, kept hb' A2, kept hb' A3, hb'⟩
    clear ktx
    rw [hT'.out] at hadd2
    generalize Lib.itoa (bn : Int) = d at *
    generalize X ++ [47] = X1 at *
    clear HT hfit hT' hlen hil
    go_wp2
    go_region_held3 (fun w'' => w''.cell? ⟨w.heap.size, 0, none⟩ = some (.int .i64 f) ∧ w''.cell? ⟨w.heap.size, 1, none⟩ = some (.int .u64 h) ∧ w''.cell? ⟨w.heap.size, 2, none⟩ = some (.int .u64 l) ∧ w''.cell? ⟨w.heap.size, 3, none⟩ = some (.int .i64 (bn : Int))) (go_keep) (first
      | (go_at_call 26; refine (kT _ (Below.refl _ _).drew).mono ?_; rintro e w8 ⟨rfl, q0, q1, q2, q3, b8⟩)
      | (go_at_call 45; refine (kD _ b8).mono ?_; rintro e w9 ⟨rfl, r0, r1, r2, r3, b9⟩))
    all_goals go_wp2
    all_goals go_ret
    all_goals exact ⟨rfl, B1.trans (b9.mono B1.size)⟩
end Go.Proofs.YtakajiedajfkjaaDoor
