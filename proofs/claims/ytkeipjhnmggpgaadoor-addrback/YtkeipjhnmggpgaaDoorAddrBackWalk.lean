/- The law AddrBack returns true. -/
import Derived.Test.YtkeipjhnmggpgaaDoorAlv
import Derived.Test.YtkeipjhnmggpgaaDoorRd6
import Derived.Deep.RegionHeld3
import Derived.Deep.DeepCutAuto
namespace Go.Proofs.YtkeipjhnmggpgaaDoor
open Go.RowKit
set_option linter.unusedVariables false
set_option linter.unusedSimpArgs false

theorem text_len {a : Ad} (ho : a.ok) : a.text.length ≤ 1000 := by
  unfold Ad.text
  split
  · next hr =>
    have hl := bytes_len a
    rw [if_pos hr] at hl
    have hb : M.Bytes a.bytes := by unfold Ad.bytes; rw [if_pos hr]; exact bytesGo_bytes _ _ _
    split
    · next hf =>
      rw [if_pos hf] at hl
      have := join_dot (words4 a.bytes) (fun x hx => by
        obtain ⟨y, hy, rfl⟩ := List.mem_map.1 hx
        exact dec_le y (hb y hy).1 (hb y hy).2)
      have e : (words4 a.bytes).length = 4 := by simp [words4, hl]
      unfold text4
      omega
    · next hf =>
      rw [if_neg hf] at hl
      have e : (words a.bytes).length = 8 := by simp [words]
      have hw := words_le a.bytes
      unfold text6
      split
      · have := join_le (words a.bytes) hw
        unfold joinW
        omega
      · have h1 := join_le ((words a.bytes).take (lz (words a.bytes)).1) (fun x hx => hw x (List.mem_of_mem_take hx))
        have h2 := join_le ((words a.bytes).drop ((lz (words a.bytes)).1 + (lz (words a.bytes)).2)) (fun x hx => hw x (List.mem_of_mem_drop hx))
        have h3 : ((words a.bytes).take (lz (words a.bytes)).1).length ≤ 8 := by rw [List.length_take]; omega
        have h4 : ((words a.bytes).drop ((lz (words a.bytes)).1 + (lz (words a.bytes)).2)).length ≤ 8 := by rw [List.length_drop]; omega
        unfold joinW
        simp only [List.length_append, List.length_cons, List.length_nil]
        omega
  · simp

set_option maxRecDepth 100000 in
set_option maxHeartbeats 4000000 in
theorem addrBack_walk (f h l f' h' l' : Int) (w : World) (m : Int) (hoa : Ad.ok ⟨f, h, l⟩) (hob : Ad.ok ⟨f', h', l'⟩) (hm : w.cell? ⟨0, 0, none⟩ = some (.int .i64 m)) (ht : w.cell? ⟨5, 15, none⟩ = some (.int .u8 4))
    (htab : Lib.TabIs Tryd.prog w "internal/strconv.uint64pow10" .u64 Lib.pow10Tab) :
    Calls Tryd.prog 7 #[.agg #[.int .i64 f, .int .u64 h, .int .u64 l], .agg #[.int .i64 f', .int .u64 h', .int .u64 l']] w fun e w' => e = .returned (.bool true) ∧ Below w.heap.size w w' := by
  have gp : Tryd.prog.globalNamed "internal/strconv.uint64pow10" = some 1 := by kernel_rfl
  have kra := right_any f h l
  have krb := right_any f' h' l'
  have b0 : Below w.heap.size w ((w.alloc (.cells #[.int .i64 f, .int .u64 h, .int .u64 l] 24)).alloc (.cells #[.int .i64 f', .int .u64 h', .int .u64 l'] 24)) := ((Below.refl _ _).alloc (Nat.le_refl _) _).alloc (by simp) _
  have fin : ∀ (W : World), Below w.heap.size w W → w.heap.size ≤ W.heap.size → Calls Tryd.prog 17 #[] W fun e w' => e = .returned (.bool true) ∧ Below w.heap.size w w' := fun W h1 h2 =>
    (alive_any W m (kept h1 hm) (kept h1 ht)).mono (by rintro e w' ⟨rfl, hb⟩; exact ⟨rfl, h1.trans (hb.mono h2)⟩)
  have b1 : Below w.heap.size w (((w.alloc (.cells #[.int .i64 f, .int .u64 h, .int .u64 l] 24)).alloc (.cells #[.int .i64 f', .int .u64 h', .int .u64 l'] 24)).alloc (.cells #[.int .i64 f, .int .u64 h, .int .u64 l] 24)) := b0.alloc (by simp; omega) _
  have b2 : Below w.heap.size w ((((w.alloc (.cells #[.int .i64 f, .int .u64 h, .int .u64 l] 24)).alloc (.cells #[.int .i64 f', .int .u64 h', .int .u64 l'] 24)).alloc (.cells #[.int .i64 f, .int .u64 h, .int .u64 l] 24)).alloc (.cells #[.int .i64 f', .int .u64 h', .int .u64 l'] 24)) := b1.alloc (by simp; omega) _
  cases hra : Ad.right ⟨f, h, l⟩ with
  | false =>
    rw [hra] at kra
    go_enter Tryd.func7, Tryd.ntmps7
    go_wp2_with (first
      | (go_at_call 9; refine (kra _).mono ?_; rintro e w' ⟨rfl, rfl⟩)
      | (go_at_call 17; refine (fin _ b1 (by simp; omega)).mono ?_; rintro e w9 ⟨rfl, b9⟩))
    go_ret
    exact ⟨rfl, b9⟩
  | true =>
    rw [hra] at kra
    cases hrb : Ad.right ⟨f', h', l'⟩ with
    | false =>
      rw [hrb] at krb
      go_enter Tryd.func7, Tryd.ntmps7
      go_wp2_with fail
      refine (kra _).mono ?_
      rintro e w1 ⟨rfl, rfl⟩
      go_wp2_with fail
      refine (krb _).mono ?_
      rintro e w1 ⟨rfl, rfl⟩
      go_wp2_with fail
      refine (fin _ b2 (by simp; omega)).mono ?_
      rintro e w9 ⟨rfl, b9⟩
      go_wp2
      go_ret
      exact ⟨rfl, b9⟩
    | true =>
      rw [hrb] at krb
      have pt := parse_text hoa hra
      have fb := from_bytes hoa hra
      have un : Hid (¬ (⟨f, h, l⟩ : Ad) = ⟨f', h', l'⟩ → ¬ Ad.text ⟨f, h, l⟩ = Ad.text ⟨f', h', l'⟩) := fun hne he => hne (text_unlike hoa hob hra hrb he)
      have tl := text_len hoa
      have eq12 : Hid ((⟨f, h, l⟩ : Ad) = ⟨f', h', l'⟩ → Ad.text ⟨f, h, l⟩ = Ad.text ⟨f', h', l'⟩) := fun e => by rw [e]
      have kTa := fun W ht htab => text_any f h l W hoa ht htab
      have kTb := fun W ht htab => text_any f' h' l' W hob ht htab
      have kPa : ∀ W, W.cell? ⟨0, 0, none⟩ = some (.int .i64 m) → Calls Tryd.prog 25 #[.string ⟨(Ad.text ⟨f, h, l⟩).toArray⟩] W fun e w' => e = .returned (.tuple #[.agg #[.int .i64 f, .int .u64 h, .int .u64 l], .int .i64 0]) ∧ Below W.heap.size W w' := fun W hm => by
        have := parse_any ⟨(Ad.text ⟨f, h, l⟩).toArray⟩ W m (by show (Ad.text ⟨f, h, l⟩).toArray.size < _; simp; omega) hm
        rw [show (ByteArray.mk (Ad.text ⟨f, h, l⟩).toArray).data.toList = Ad.text ⟨f, h, l⟩ from rfl, pt] at this
        exact this
      have kB := fun W => bytes_any f h l W hoa
      have TE : Hid (∀ s t : List UInt8, ((ByteArray.mk s.toArray).toList == (ByteArray.mk t.toArray).toList) = decide (s = t)) := fun s t => by
        rw [ByteArray.toList_eq, ByteArray.toList_eq]
        show (s == t) = _
        by_cases hst : s = t <;> simp [hst]
      generalize Ad.text ⟨f, h, l⟩ = T1 at *
      generalize Ad.text ⟨f', h', l'⟩ = T2 at *
      generalize Ad.bytes ⟨f, h, l⟩ = bs at *
      clear pt hra hrb tl fin b0 b1
      go_enter Tryd.func7, Tryd.ntmps7
      go_wp2_with fail
      refine (kra _).mono ?_
      rintro e w1 ⟨rfl, rfl⟩
      go_wp2_with fail
      refine (krb _).mono ?_
      rintro e w1 ⟨rfl, rfl⟩
      go_wp2_with fail
      have A0 : ((((w.alloc (.cells #[.int .i64 f, .int .u64 h, .int .u64 l] 24)).alloc (.cells #[.int .i64 f', .int .u64 h', .int .u64 l'] 24)).alloc (.cells #[.int .i64 f, .int .u64 h, .int .u64 l] 24)).alloc (.cells #[.int .i64 f', .int .u64 h', .int .u64 l'] 24)).cell? ⟨w.heap.size, 0, none⟩ = some (.int .i64 f) := by simp [go_sem]
      have A1 : ((((w.alloc (.cells #[.int .i64 f, .int .u64 h, .int .u64 l] 24)).alloc (.cells #[.int .i64 f', .int .u64 h', .int .u64 l'] 24)).alloc (.cells #[.int .i64 f, .int .u64 h, .int .u64 l] 24)).alloc (.cells #[.int .i64 f', .int .u64 h', .int .u64 l'] 24)).cell? ⟨w.heap.size, 1, none⟩ = some (.int .u64 h) := by simp [go_sem]
      have A2 : ((((w.alloc (.cells #[.int .i64 f, .int .u64 h, .int .u64 l] 24)).alloc (.cells #[.int .i64 f', .int .u64 h', .int .u64 l'] 24)).alloc (.cells #[.int .i64 f, .int .u64 h, .int .u64 l] 24)).alloc (.cells #[.int .i64 f', .int .u64 h', .int .u64 l'] 24)).cell? ⟨w.heap.size, 2, none⟩ = some (.int .u64 l) := by simp [go_sem]
      have B0 : ((((w.alloc (.cells #[.int .i64 f, .int .u64 h, .int .u64 l] 24)).alloc (.cells #[.int .i64 f', .int .u64 h', .int .u64 l'] 24)).alloc (.cells #[.int .i64 f, .int .u64 h, .int .u64 l] 24)).alloc (.cells #[.int .i64 f', .int .u64 h', .int .u64 l'] 24)).cell? ⟨w.heap.size + 1, 0, none⟩ = some (.int .i64 f') := by simp [go_sem]
      have B1 : ((((w.alloc (.cells #[.int .i64 f, .int .u64 h, .int .u64 l] 24)).alloc (.cells #[.int .i64 f', .int .u64 h', .int .u64 l'] 24)).alloc (.cells #[.int .i64 f, .int .u64 h, .int .u64 l] 24)).alloc (.cells #[.int .i64 f', .int .u64 h', .int .u64 l'] 24)).cell? ⟨w.heap.size + 1, 1, none⟩ = some (.int .u64 h') := by simp [go_sem]
      have B2 : ((((w.alloc (.cells #[.int .i64 f, .int .u64 h, .int .u64 l] 24)).alloc (.cells #[.int .i64 f', .int .u64 h', .int .u64 l'] 24)).alloc (.cells #[.int .i64 f, .int .u64 h, .int .u64 l] 24)).alloc (.cells #[.int .i64 f', .int .u64 h', .int .u64 l'] 24)).cell? ⟨w.heap.size + 1, 2, none⟩ = some (.int .u64 l') := by simp [go_sem]
      have z2 : w.heap.size ≤ ((((w.alloc (.cells #[.int .i64 f, .int .u64 h, .int .u64 l] 24)).alloc (.cells #[.int .i64 f', .int .u64 h', .int .u64 l'] 24)).alloc (.cells #[.int .i64 f, .int .u64 h, .int .u64 l] 24)).alloc (.cells #[.int .i64 f', .int .u64 h', .int .u64 l'] 24)).heap.size := by simp; omega
      generalize (((w.alloc (.cells #[.int .i64 f, .int .u64 h, .int .u64 l] 24)).alloc (.cells #[.int .i64 f', .int .u64 h', .int .u64 l'] 24)).alloc (.cells #[.int .i64 f, .int .u64 h, .int .u64 l] 24)).alloc (.cells #[.int .i64 f', .int .u64 h', .int .u64 l'] 24) = w2 at *
      generalize hg : w.heap.size = g at *
      have HG : Hid (w.heap.size = g) := hg
      have tabs : ∀ W, Below g w W → Lib.TabIs Tryd.prog W "internal/strconv.uint64pow10" .u64 Lib.pow10Tab := fun W hb => Go.Joins.tab_stays gp htab hb (by rw [hg]; exact Nat.le_refl _)
      have cells : ∀ W, Below g w W → W.cell? ⟨0, 0, none⟩ = some (.int .i64 m) ∧ W.cell? ⟨5, 15, none⟩ = some (.int .u8 4) := fun W hb => by
        rw [← hg] at hb
        exact ⟨kept hb hm, kept hb ht⟩
      clear hg kra krb
      refine (kTa w2 (cells _ b2).2 (tabs _ b2)).mono ?_
      rintro e w3 ⟨rfl, b3⟩
      have C3 : Below g w w3 := b2.trans (b3.mono z2)
      have z3 : g ≤ w3.heap.size := by have := b3.size; omega
      go_wp2_with fail
      refine (kPa w3 (cells _ C3).1).mono ?_
      rintro e w4 ⟨rfl, b4⟩
      have D := (b3.trans (b4.mono b3.size)).alloc (by have := b3.size; have := b4.size; omega) (.cells #[.int .i64 f, .int .u64 h, .int .u64 l] 24)
      replace A0 := kept D A0; replace A1 := kept D A1; replace A2 := kept D A2; replace B0 := kept D B0; replace B1 := kept D B1; replace B2 := kept D B2
      have X0 : (w4.alloc (.cells #[.int .i64 f, .int .u64 h, .int .u64 l] 24)).cell? ⟨w4.heap.size, 0, none⟩ = some (.int .i64 f) := by simp
      have X1 : (w4.alloc (.cells #[.int .i64 f, .int .u64 h, .int .u64 l] 24)).cell? ⟨w4.heap.size, 1, none⟩ = some (.int .u64 h) := by simp
      have X2 : (w4.alloc (.cells #[.int .i64 f, .int .u64 h, .int .u64 l] 24)).cell? ⟨w4.heap.size, 2, none⟩ = some (.int .u64 l) := by simp
      have C4 : Below g w (w4.alloc (.cells #[.int .i64 f, .int .u64 h, .int .u64 l] 24)) := (C3.trans (b4.mono z3)).alloc (by have := b4.size; omega) _
      have z4 : g ≤ (w4.alloc (.cells #[.int .i64 f, .int .u64 h, .int .u64 l] 24)).heap.size := by have := b4.size; simp; omega
      clear D b3 b4 C3 z3 b2 z2
      go_wp2_with fail
      generalize w4.alloc (.cells #[.int .i64 f, .int .u64 h, .int .u64 l] 24) = w5 at *
      generalize w4.heap.size = gx at *
      refine (kB w5).mono ?_
      rintro e w6 ⟨a6, c6, rfl, f6⟩
      have b6 := f6.below
      have r6 := f6.row
      have kF := from_any a6 c6 bs w6 r6
      rw [fb] at kF
      clear f6
      go_wp2_with fail
      refine kF.mono ?_
      rintro e w7 ⟨rfl, b7⟩
      have D := (b6.trans (b7.mono b6.size)).alloc (by have := b6.size; have := b7.size; omega) (.cells #[.int .i64 f, .int .u64 h, .int .u64 l] 24)
      replace A0 := kept D A0; replace A1 := kept D A1; replace A2 := kept D A2; replace B0 := kept D B0; replace B1 := kept D B1; replace B2 := kept D B2; replace X0 := kept D X0; replace X1 := kept D X1; replace X2 := kept D X2
      have Y0 : (w7.alloc (.cells #[.int .i64 f, .int .u64 h, .int .u64 l] 24)).cell? ⟨w7.heap.size, 0, none⟩ = some (.int .i64 f) := by simp
      have Y1 : (w7.alloc (.cells #[.int .i64 f, .int .u64 h, .int .u64 l] 24)).cell? ⟨w7.heap.size, 1, none⟩ = some (.int .u64 h) := by simp
      have Y2 : (w7.alloc (.cells #[.int .i64 f, .int .u64 h, .int .u64 l] 24)).cell? ⟨w7.heap.size, 2, none⟩ = some (.int .u64 l) := by simp
      have B7 : Below g w (w7.alloc (.cells #[.int .i64 f, .int .u64 h, .int .u64 l] 24)) := C4.trans (D.mono z4)
      have z7 : g ≤ (w7.alloc (.cells #[.int .i64 f, .int .u64 h, .int .u64 l] 24)).heap.size := by have := b6.size; have := b7.size; simp; omega
      clear D b6 b7 C4 z4 r6 kF kB kPa
      go_upto_region 5 with (fail)
      generalize w7.alloc (.cells #[.int .i64 f, .int .u64 h, .int .u64 l] 24) = w7' at *
      generalize w7.heap.size = gy at *
      have kA' : ∀ W', Below w7'.heap.size w7' W' → Calls Tryd.prog 17 #[] W' fun e w' => e = .returned (.bool true) ∧ w'.cell? ⟨g, 0, none⟩ = some (.int .i64 f) ∧ w'.cell? ⟨g, 1, none⟩ = some (.int .u64 h) ∧ w'.cell? ⟨g, 2, none⟩ = some (.int .u64 l) ∧ w'.cell? ⟨g + 1, 0, none⟩ = some (.int .i64 f') ∧ w'.cell? ⟨g + 1, 1, none⟩ = some (.int .u64 h') ∧ w'.cell? ⟨g + 1, 2, none⟩ = some (.int .u64 l') ∧ w'.cell? ⟨gx, 0, none⟩ = some (.int .i64 f) ∧ w'.cell? ⟨gx, 1, none⟩ = some (.int .u64 h) ∧ w'.cell? ⟨gx, 2, none⟩ = some (.int .u64 l) ∧ w'.cell? ⟨gy, 0, none⟩ = some (.int .i64 f) ∧ w'.cell? ⟨gy, 1, none⟩ = some (.int .u64 h) ∧ w'.cell? ⟨gy, 2, none⟩ = some (.int .u64 l) ∧ Below w7'.heap.size w7' w' := fun W' hW => by
        have c := cells _ (B7.trans (hW.mono z7))
        refine (alive_any W' m c.1 c.2).mono ?_
        rintro e w' ⟨rfl, hb⟩
        have hb' : Below w7'.heap.size w7' w' := hW.trans (hb.mono hW.size)
        exact ⟨rfl, kept hb' A0, kept hb' A1, kept hb' A2, kept hb' B0, kept hb' B1, kept hb' B2, kept hb' X0, kept hb' X1, kept hb' X2, kept hb' Y0, kept hb' Y1, kept hb' Y2, hb'⟩
      have kT1 : ∀ W', Below w7'.heap.size w7' W' → Calls Tryd.prog 27 #[.agg #[.int .i64 f, .int .u64 h, .int .u64 l]] W' fun e w' => e = .returned (.string ⟨T1.toArray⟩) ∧ w'.cell? ⟨g, 0, none⟩ = some (.int .i64 f) ∧ w'.cell? ⟨g, 1, none⟩ = some (.int .u64 h) ∧ w'.cell? ⟨g, 2, none⟩ = some (.int .u64 l) ∧ w'.cell? ⟨g + 1, 0, none⟩ = some (.int .i64 f') ∧ w'.cell? ⟨g + 1, 1, none⟩ = some (.int .u64 h') ∧ w'.cell? ⟨g + 1, 2, none⟩ = some (.int .u64 l') ∧ w'.cell? ⟨gx, 0, none⟩ = some (.int .i64 f) ∧ w'.cell? ⟨gx, 1, none⟩ = some (.int .u64 h) ∧ w'.cell? ⟨gx, 2, none⟩ = some (.int .u64 l) ∧ w'.cell? ⟨gy, 0, none⟩ = some (.int .i64 f) ∧ w'.cell? ⟨gy, 1, none⟩ = some (.int .u64 h) ∧ w'.cell? ⟨gy, 2, none⟩ = some (.int .u64 l) ∧ Below w7'.heap.size w7' w' := fun W' hW => by
        have c := cells _ (B7.trans (hW.mono z7))
        refine (kTa W' c.2 (tabs _ (B7.trans (hW.mono z7)))).mono ?_
        rintro e w' ⟨rfl, hb⟩
        have hb' : Below w7'.heap.size w7' w' := hW.trans (hb.mono hW.size)
        exact ⟨rfl, kept hb' A0, kept hb' A1, kept hb' A2, kept hb' B0, kept hb' B1, kept hb' B2, kept hb' X0, kept hb' X1, kept hb' X2, kept hb' Y0, kept hb' Y1, kept hb' Y2, hb'⟩
      have kT2 : ∀ W', Below w7'.heap.size w7' W' → Calls Tryd.prog 27 #[.agg #[.int .i64 f', .int .u64 h', .int .u64 l']] W' fun e w' => e = .returned (.string ⟨T2.toArray⟩) ∧ w'.cell? ⟨g, 0, none⟩ = some (.int .i64 f) ∧ w'.cell? ⟨g, 1, none⟩ = some (.int .u64 h) ∧ w'.cell? ⟨g, 2, none⟩ = some (.int .u64 l) ∧ w'.cell? ⟨g + 1, 0, none⟩ = some (.int .i64 f') ∧ w'.cell? ⟨g + 1, 1, none⟩ = some (.int .u64 h') ∧ w'.cell? ⟨g + 1, 2, none⟩ = some (.int .u64 l') ∧ w'.cell? ⟨gx, 0, none⟩ = some (.int .i64 f) ∧ w'.cell? ⟨gx, 1, none⟩ = some (.int .u64 h) ∧ w'.cell? ⟨gx, 2, none⟩ = some (.int .u64 l) ∧ w'.cell? ⟨gy, 0, none⟩ = some (.int .i64 f) ∧ w'.cell? ⟨gy, 1, none⟩ = some (.int .u64 h) ∧ w'.cell? ⟨gy, 2, none⟩ = some (.int .u64 l) ∧ Below w7'.heap.size w7' w' := fun W' hW => by
        have c := cells _ (B7.trans (hW.mono z7))
        refine (kTb W' c.2 (tabs _ (B7.trans (hW.mono z7)))).mono ?_
        rintro e w' ⟨rfl, hb⟩
        have hb' : Below w7'.heap.size w7' w' := hW.trans (hb.mono hW.size)
        exact ⟨rfl, kept hb' A0, kept hb' A1, kept hb' A2, kept hb' B0, kept hb' B1, kept hb' B2, kept hb' X0, kept hb' X1, kept hb' X2, kept hb' Y0, kept hb' Y1, kept hb' Y2, hb'⟩
      have te := TE.out T1 T2
      clear TE kTa kTb tabs cells fb
      by_cases e1 : f = f'
      · subst e1
        by_cases e2 : h = h'
        · subst e2
          by_cases e3 : l = l'
          · subst e3
            rw [eq12.out rfl] at te
            simp only [decide_true] at te
            have eqT := eq12.out rfl
            subst eqT
            clear un eq12
            go_wp2
            go_region_held3 (fun w'' => w''.cell? ⟨g, 0, none⟩ = some (.int .i64 f) ∧ w''.cell? ⟨g, 1, none⟩ = some (.int .u64 h) ∧ w''.cell? ⟨g, 2, none⟩ = some (.int .u64 l) ∧ w''.cell? ⟨g + 1, 0, none⟩ = some (.int .i64 f) ∧ w''.cell? ⟨g + 1, 1, none⟩ = some (.int .u64 h) ∧ w''.cell? ⟨g + 1, 2, none⟩ = some (.int .u64 l) ∧ w''.cell? ⟨gx, 0, none⟩ = some (.int .i64 f) ∧ w''.cell? ⟨gx, 1, none⟩ = some (.int .u64 h) ∧ w''.cell? ⟨gx, 2, none⟩ = some (.int .u64 l) ∧ w''.cell? ⟨gy, 0, none⟩ = some (.int .i64 f) ∧ w''.cell? ⟨gy, 1, none⟩ = some (.int .u64 h) ∧ w''.cell? ⟨gy, 2, none⟩ = some (.int .u64 l)) (go_keep) (first
              | (go_at_call 27; (with_reducible show Calls _ _ _ (World.drew _) _); refine (kT1 _ (Below.refl _ _).drew).mono ?_; rintro e w8 ⟨rfl, q0, q1, q2, q3, q4, q5, q6, q7, q8, q9, q10, q11, b8⟩)
              | (go_at_call 27; refine (kT2 _ b8).mono ?_; rintro e w9 ⟨rfl, r0, r1, r2, r3, r4, r5, r6, r7, r8, r9, r10, r11, b9⟩)
              | (go_at_call 17; refine (kA' _ b9).mono ?_; rintro e w10 ⟨rfl, s0, s1, s2, s3, s4, s5, s6, s7, s8, s9, s10, s11, b10⟩))
            all_goals go_wp2
            all_goals go_ret
            all_goals exact ⟨rfl, by rw [HG.out]; exact B7.trans (b10.mono z7)⟩
          · have hne := un.out (by intro e; simp at e; exact e3 e)
            rw [decide_eq_false hne] at te
            clear un eq12 hne
            generalize ByteArray.mk T1.toArray = s1 at kT1 te
            generalize ByteArray.mk T2.toArray = s2 at kT2 te
            go_wp2
            go_region_held3 (fun w'' => w''.cell? ⟨g, 0, none⟩ = some (.int .i64 f) ∧ w''.cell? ⟨g, 1, none⟩ = some (.int .u64 h) ∧ w''.cell? ⟨g, 2, none⟩ = some (.int .u64 l) ∧ w''.cell? ⟨g + 1, 0, none⟩ = some (.int .i64 f) ∧ w''.cell? ⟨g + 1, 1, none⟩ = some (.int .u64 h) ∧ w''.cell? ⟨g + 1, 2, none⟩ = some (.int .u64 l') ∧ w''.cell? ⟨gx, 0, none⟩ = some (.int .i64 f) ∧ w''.cell? ⟨gx, 1, none⟩ = some (.int .u64 h) ∧ w''.cell? ⟨gx, 2, none⟩ = some (.int .u64 l) ∧ w''.cell? ⟨gy, 0, none⟩ = some (.int .i64 f) ∧ w''.cell? ⟨gy, 1, none⟩ = some (.int .u64 h) ∧ w''.cell? ⟨gy, 2, none⟩ = some (.int .u64 l)) (go_keep) (first
              | (go_at_call 27; (with_reducible show Calls _ _ _ (World.drew _) _); refine (kT1 _ (Below.refl _ _).drew).mono ?_; rintro e w8 ⟨rfl, q0, q1, q2, q3, q4, q5, q6, q7, q8, q9, q10, q11, b8⟩)
              | (go_at_call 27; refine (kT2 _ b8).mono ?_; rintro e w9 ⟨rfl, r0, r1, r2, r3, r4, r5, r6, r7, r8, r9, r10, r11, b9⟩)
              | (go_at_call 17; refine (kA' _ b9).mono ?_; rintro e w10 ⟨rfl, s0, s1, s2, s3, s4, s5, s6, s7, s8, s9, s10, s11, b10⟩))
            all_goals go_wp2
            all_goals go_ret
            all_goals exact ⟨rfl, by rw [HG.out]; exact B7.trans (b10.mono z7)⟩
        · have hne := un.out (by intro e; simp at e; exact e2 e.1)
          rw [decide_eq_false hne] at te
          clear un eq12 hne
          generalize ByteArray.mk T1.toArray = s1 at kT1 te
          generalize ByteArray.mk T2.toArray = s2 at kT2 te
          go_wp2
          go_region_held3 (fun w'' => w''.cell? ⟨g, 0, none⟩ = some (.int .i64 f) ∧ w''.cell? ⟨g, 1, none⟩ = some (.int .u64 h) ∧ w''.cell? ⟨g, 2, none⟩ = some (.int .u64 l) ∧ w''.cell? ⟨g + 1, 0, none⟩ = some (.int .i64 f) ∧ w''.cell? ⟨g + 1, 1, none⟩ = some (.int .u64 h') ∧ w''.cell? ⟨g + 1, 2, none⟩ = some (.int .u64 l') ∧ w''.cell? ⟨gx, 0, none⟩ = some (.int .i64 f) ∧ w''.cell? ⟨gx, 1, none⟩ = some (.int .u64 h) ∧ w''.cell? ⟨gx, 2, none⟩ = some (.int .u64 l) ∧ w''.cell? ⟨gy, 0, none⟩ = some (.int .i64 f) ∧ w''.cell? ⟨gy, 1, none⟩ = some (.int .u64 h) ∧ w''.cell? ⟨gy, 2, none⟩ = some (.int .u64 l)) (go_keep) (first
            | (go_at_call 27; (with_reducible show Calls _ _ _ (World.drew _) _); refine (kT1 _ (Below.refl _ _).drew).mono ?_; rintro e w8 ⟨rfl, q0, q1, q2, q3, q4, q5, q6, q7, q8, q9, q10, q11, b8⟩)
            | (go_at_call 27; refine (kT2 _ b8).mono ?_; rintro e w9 ⟨rfl, r0, r1, r2, r3, r4, r5, r6, r7, r8, r9, r10, r11, b9⟩)
            | (go_at_call 17; refine (kA' _ b9).mono ?_; rintro e w10 ⟨rfl, s0, s1, s2, s3, s4, s5, s6, s7, s8, s9, s10, s11, b10⟩))
          all_goals go_wp2
          all_goals go_ret
          all_goals exact ⟨rfl, by rw [HG.out]; exact B7.trans (b10.mono z7)⟩
      · have hne := un.out (by intro e; simp at e; exact e1 e.1)
        rw [decide_eq_false hne] at te
        clear un eq12 hne
        generalize ByteArray.mk T1.toArray = s1 at kT1 te
        generalize ByteArray.mk T2.toArray = s2 at kT2 te
        go_wp2
        go_region_held3 (fun w'' => w''.cell? ⟨g, 0, none⟩ = some (.int .i64 f) ∧ w''.cell? ⟨g, 1, none⟩ = some (.int .u64 h) ∧ w''.cell? ⟨g, 2, none⟩ = some (.int .u64 l) ∧ w''.cell? ⟨g + 1, 0, none⟩ = some (.int .i64 f') ∧ w''.cell? ⟨g + 1, 1, none⟩ = some (.int .u64 h') ∧ w''.cell? ⟨g + 1, 2, none⟩ = some (.int .u64 l') ∧ w''.cell? ⟨gx, 0, none⟩ = some (.int .i64 f) ∧ w''.cell? ⟨gx, 1, none⟩ = some (.int .u64 h) ∧ w''.cell? ⟨gx, 2, none⟩ = some (.int .u64 l) ∧ w''.cell? ⟨gy, 0, none⟩ = some (.int .i64 f) ∧ w''.cell? ⟨gy, 1, none⟩ = some (.int .u64 h) ∧ w''.cell? ⟨gy, 2, none⟩ = some (.int .u64 l)) (go_keep) (first
          | (go_at_call 27; (with_reducible show Calls _ _ _ (World.drew _) _); refine (kT1 _ (Below.refl _ _).drew).mono ?_; rintro e w8 ⟨rfl, q0, q1, q2, q3, q4, q5, q6, q7, q8, q9, q10, q11, b8⟩)
          | (go_at_call 27; refine (kT2 _ b8).mono ?_; rintro e w9 ⟨rfl, r0, r1, r2, r3, r4, r5, r6, r7, r8, r9, r10, r11, b9⟩)
          | (go_at_call 17; refine (kA' _ b9).mono ?_; rintro e w10 ⟨rfl, s0, s1, s2, s3, s4, s5, s6, s7, s8, s9, s10, s11, b10⟩))
        all_goals go_wp2
        all_goals go_ret
        all_goals exact ⟨rfl, by rw [HG.out]; exact B7.trans (b10.mono z7)⟩
end Go.Proofs.YtkeipjhnmggpgaaDoor
