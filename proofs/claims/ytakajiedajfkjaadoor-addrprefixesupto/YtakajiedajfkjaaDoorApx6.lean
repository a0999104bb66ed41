/- Texts joined: Zer Frm -/
import Derived.Test.YtakajiedajfkjaaDoorApx4
import Derived.Deep.QuietTactic
import Derived.BigQuiet
namespace Go.Proofs.YtakajiedajfkjaaDoor
open Go.RowKit
set_option linter.unusedVariables false
set_option linter.unusedSimpArgs false
theorem zeroCells_u8 (m : Nat) : Builtin.zeroCells (Value.int .u8 0).cells m = (List.replicate m (Value.int .u8 0)).toArray := by
  apply Array.ext'
  simp [Builtin.zeroCells, Value.cells]
  apply List.ext_getElem
  · simp
  · intro i h1 h2
    simp [Nat.mod_one]
theorem run_append_zeros (w : World) (ty : TypeId) (base : Nat) (v : Value) (l : List Int) (m : Nat) (hown : Owns w base v l) (hm : l.length + m ≤ 1048576) (hbase : base ≤ w.heap.size) :
    ∃ v' w', (Builtin.append_ #[33, 3] ty #[v, .int .i64 m]).run Tryd.prog w = .ok v' w' ∧ Owns w' base v' (l ++ List.replicate m 0) ∧ w.grownBy w' v.ownBlock := by
  obtain ⟨i, hi, hz, hsz, hby⟩ := info_parts info_u8
  have ht := Tryd.underlying33
  have hu := Tryd.underlying3
  have hwr : IntKind.i64.wrap (m : Int) = m := by rw [IntKind.wrap_i64]; omega
  have hlt : ¬ (m : Int) < 0 := by omega
  have hw0 : IntKind.i64.wrap 0 = 0 := by decide
  have hbig : ¬ (281474976710656 : Int) < (m : Int) := by omega
  have hs : (l ++ List.replicate m (0 : Int)).map (Value.int .u8) = l.map (Value.int .u8) ++ List.replicate m (Value.int .u8 0) := by simp
  have hlen : (l.map (Value.int .u8) ++ List.replicate m (Value.int .u8 0)).length = l.length + m := by simp
  have own : Owns w base v l := hown
  unfold Owns at hown ⊢
  simp only [hs, List.length_append, List.length_replicate]
  have grown : ∀ (old : Nat), ∀ (row : Option Nat),
      (w.drew.alloc (.cells ((l.map (Value.int .u8)).toArray ++ (List.replicate m (Value.int .u8 0)).toArray ++ (List.replicate (grownCap w (l.length + m) old 5 - (l.length + m)) (Value.int .u8 0)).toArray) 5)).ownsRow base 5 1
        (.slice (some ⟨w.heap.size, 0, none⟩) (l.length + m) (grownCap w (l.length + m) old 5)) (l.length + m) (l.map (Value.int .u8) ++ List.replicate m (Value.int .u8 0)) ∧
      w.grownBy (w.drew.alloc (.cells ((l.map (Value.int .u8)).toArray ++ (List.replicate m (Value.int .u8 0)).toArray ++ (List.replicate (grownCap w (l.length + m) old 5 - (l.length + m)) (Value.int .u8 0)).toArray) 5)) row := by
    intro old row
    have hge := grownCap_ge w (l.length + m) old 5
    have hcm : grownCap w (l.length + m) old 5 ≤ maxLen := grownCap_le_maxLen w (l.length + m) old 5 (by unfold maxLen; omega)
    refine ⟨⟨by simp, .inr ⟨w.heap.size, _, _, rfl, hbase, heap_alloc_new w.drew _, hge, hcm, ?_, ?_⟩⟩, ⟨rfl, rfl, rfl, by simp, fun k hk _ => (World.grownBy_alloc w.drew _ none).block k hk (by simp)⟩⟩
    · simp; omega
    · simp only [Array.toList_append, List.append_assoc, Nat.mul_one]
      rw [← List.append_assoc, ← hlen]
      exact List.take_left
  rcases hown.2 with ⟨rfl, hl0⟩ | ⟨g, cap, cur, rfl, hbg, hg, hnc, hcm, hcs, htake⟩
  · have hl : l = [] := by cases l with | nil => rfl | cons _ _ => simp at hl0
    subst hl
    by_cases hm0 : m = 0
    · subst hm0
      refine ⟨.slice none 0 0, w, ?_, World.ownsRow_nil w base 5 1, ⟨rfl, rfl, rfl, Nat.le_refl _, fun _ _ _ => rfl⟩⟩
      simp [Builtin.append_, run_underlying ht, run_underlying hu, sizeOf, typeInfo, asIntOf, hi, hsz, hby, asInt, hwr, hw0]
    · have hgr := grown 0 (Value.ownBlock (.slice none 0 0))
      simp only [List.length_nil, Nat.zero_add, List.map_nil, List.nil_append] at hgr ⊢
      refine ⟨_, _, ?_, hgr.1, hgr.2⟩
      have hn : ¬ (m ≤ 0) := by omega
      have h63' : ¬ (9223372036854775807 < (m : Int)) := by omega
      have h48' : ¬ (281474976710656 < Builtin.nextslicecap m 0) := by rw [nextslicecap_zero (by omega)]; simp only [List.length_nil] at hm; omega
      simp [Builtin.append_, run_underlying ht, run_underlying hu, sizeOf, typeInfo, asIntOf, zeroValue, hi, hz, hsz, hby, asInt, hwr, hlt, hbig, hn, hm0, h63', h48', Question.forced, run_firstCells_none, newRow, grownCap, zeroCells_u8]
  · by_cases hroom : l.length + m ≤ cap
    · have hst := run_storeCells_at Tryd.prog g l.length 5 (List.replicate m (Value.int .u8 0)) 0 cur w hg (by simp; omega) (by intro u hu; rw [List.eq_of_mem_replicate hu]; rfl)
      simp only [Nat.add_zero] at hst
      refine ⟨_, _, ?_, ⟨by simp, .inr ⟨g, cap, _, rfl, hbg, setRow_heap w g cur (cur.toList.take l.length ++ List.replicate m (Value.int .u8 0) ++ cur.toList.drop (l.length + m)).toArray 5 _ hg, hroom, hcm, ?_, ?_⟩⟩, ⟨rfl, rfl, rfl, by simp, fun k _ hk => setRow_other w g k _ (fun e => hk (by simp [Value.ownBlock, e]))⟩⟩
      · by_cases hm0 : m = 0
        · subst hm0
          simp only [List.replicate_zero] at hst
          simp [Builtin.append_, run_underlying ht, run_underlying hu, sizeOf, typeInfo, asIntOf, hi, hsz, hby, asInt, hwr, hw0, hroom, Addr.add_lit, hst]
          intro hh
          omega
        · simp [Builtin.append_, run_underlying ht, run_underlying hu, sizeOf, typeInfo, asIntOf, zeroValue, hi, hz, hsz, hby, asInt, hwr, hlt, hbig, hm0, hroom, Addr.add_lit, zeroCells_u8, hst]
      · simp; omega
      · simp only [Nat.mul_one] at htake ⊢
        rw [htake, ← hlen]
        exact List.take_left
    · have holds : ∀ j u, (l.map (Value.int .u8))[j]? = some u → w.cell? ((⟨g, 0, none⟩ : Addr).add j) = some u := World.ownsRow.cells (g := g) hown rfl
      have hgr := grown cap (Value.ownBlock (.slice (some ⟨g, 0, none⟩) l.length cap))
      refine ⟨_, _, ?_, hgr.1, hgr.2⟩
      have h63' : ¬ (9223372036854775807 < ((l.length : Int) + (m : Int))) := by omega
      have hfit := growslice_fits (need := l.length + m) (old := cap) (bytes := 1) (by omega) (by omega)
      have h48' : ¬ (281474976710656 < Builtin.nextslicecap (l.length + m) cap) := by omega
      have hm0 : ¬ m = 0 := by omega
      have hfo := run_firstCells_some (P := Tryd.prog) w.drew 1 l.length ⟨g, 0, none⟩ l.length cap (l.map (Value.int .u8)) (by simp) (by simpa using holds)
      simp [Builtin.append_, run_underlying ht, run_underlying hu, sizeOf, typeInfo, asIntOf, zeroValue, hi, hz, hsz, hby, asInt, hwr, hlt, hbig, hroom, hm0, h63', h48', Question.forced, hfo, newRow, grownCap, zeroCells_u8]
/-- Bytes taken in, the highest first. -/
def fromGo : List Int → Int → Int → Int × Int
  | [], h, l => (h, l)
  | x :: xs, h, l => fromGo xs (h * 256 % 18446744073709551616 + l / 72057594037927936) (l * 256 % 18446744073709551616 + x)
def fromB (b : List Int) : Ad × Int :=
  if b.length = 4 then (⟨4, (fromGo b 0 0).1, (fromGo b 0 0).2⟩, 0) else if b.length = 16 then (⟨6, (fromGo b 0 0).1, (fromGo b 0 0).2⟩, 0) else (⟨0, 0, 0⟩, 1)
theorem wraps_u64 (n : Int) (h₀ : 0 ≤ n) (h₁ : n < 2 ^ 64) : IntKind.u64.wrap n = n := by rw [IntKind.wrap_u64]; omega
theorem or_low (x y : Int) (hy0 : 0 ≤ y) (hy1 : y < 256) : bits .or .u64 (IntKind.u64.wrap (x * 256)) y = x * 256 % 18446744073709551616 + y := by
  rw [IntKind.wrap_u64]
  exact bits_join .u64 64 (by decide) wraps_u64 8 _ y (by omega) (by omega) (by omega) hy0 (by omega) (by omega)
set_option maxHeartbeats 1000000 in
theorem from_any (a : Option Addr) (c : Nat) (b : List Int) (w : World) (hb : Row w a b) :
    Calls Tryd.prog 16 #[.slice a b.length c] w fun e w' =>
      e = .returned (.tuple #[(fromB b).1.v, .int .i64 (fromB b).2]) ∧ Below w.heap.size w w' := by
  have hsm := hb.small
  obtain ⟨F, T, hF⟩ : ∃ F T, (F, T) = fromGo b 0 0 := ⟨_, _, rfl⟩
  have go : ∀ (f : Int), (f = 4 ∧ b.length = 4) ∨ (f = 6 ∧ b.length = 16) → fromB b = (⟨f, F, T⟩, 0) := by
    rintro f (⟨rfl, h⟩ | ⟨rfl, h⟩)
    · rw [fromB, if_pos h, ← hF]
    · rw [fromB, if_neg (by omega), if_pos h, ← hF]
  have HF : Hid (fromGo b 0 0 = (F, T)) := hF.symm
  clear hF
  by_cases h4 : b.length = 4
  · rw [go 4 (.inl ⟨rfl, h4⟩)]
    have L4 : Hid (b.length = 4) := h4
    have h4a : ((b.length : Int) == 4) = true := by simp [L4.out]
    clear h4 go
    go_enter Tryd.func16, Tryd.ntmps16
    go_wp2
    go_loopw [18] (fun i w' => ∃ (k : Nat) (h l : Int), k ≤ b.length ∧ i = .int .i64 k ∧ (0 ≤ h ∧ h ≤ 18446744073709551615) ∧ (0 ≤ l ∧ l ≤ 18446744073709551615) ∧ Hid (fromGo (b.drop k) h l = (F, T)) ∧
        w' = (w.alloc (.cells #[.int .i64 0, .int .u64 0, .int .u64 0] 24)).alloc (.cells #[.int .i64 4, .int .u64 h, .int .u64 l] 24)) (fun i _ => b.length - (intOf i).toNat)
    case atStart => exact ⟨0, 0, 0, Nat.zero_le _, rfl, by omega, by omega, HF, rfl⟩
    case round =>
      obtain ⟨k, h, l, hk, rfl, hh, hl, hr, rfl⟩ := hrel
      by_cases hlt : k < b.length
      · obtain ⟨bk, off, rfl, hc⟩ := hb.cells (by omega)
        have eg : b.getD k 0 = b[k] := by simp [hlt]
        have hcell := hc k hlt
        have hbl : bk < w.heap.size := World.block_lt_of_cell? w _ hcell
        have hne1 : bk ≠ w.heap.size := by omega
        have hne2 : bk ≠ w.heap.size + 1 := by omega
        have hx := hb.bytes.get k
        have hr1 := hr.out
        rw [List.drop_eq_getElem_cons hlt] at hr1
        rw [eg] at hcell hx
        clear eg hc
        generalize b[k] = x at hcell hx hr1
        have e1 := or_low h (l / 72057594037927936) (by omega) (by omega)
        have e2 := or_low l x (by omega) (by omega)
        have ilt : (k : Int) < (b.length : Int) := by omega
        have HQ : Hid (fromGo (b.drop (k + 1)) (h * 256 % 18446744073709551616 + l / 72057594037927936) (l * 256 % 18446744073709551616 + x) = (F, T)) := hr1
        clear hr hr1
        go_wp2
        exact ⟨⟨k + 1, _, _, by omega, int_eq (by omega), by omega, by omega, HQ, rfl⟩, by simp [intOf]; omega⟩
      · have ilt : ¬ (k : Int) < (b.length : Int) := by omega
        have e : (h, l) = (F, T) := by
          rw [← hr.out, List.drop_eq_nil_of_le (by omega)]; rfl
        injection e with e1 e2
        subst e1
        subst e2
        go_wp2
        exact bodyPost_ret (v := .tuple #[.agg #[.int .i64 4, .int .u64 h, .int .u64 l], .int .i64 0]) (by simp [results, Tryd.results16, go_sem]) rfl ⟨rfl, ((Below.refl _ _).alloc (Nat.le_refl _) _).alloc (by simp) _⟩
  · by_cases h16 : b.length = 16
    · rw [go 6 (.inr ⟨rfl, h16⟩)]
      have L4 : Hid (b.length = 16) := h16
      have h4a : ((b.length : Int) == 4) = false := by simp [L4.out]
      have h16a : ((b.length : Int) == 16) = true := by simp [L4.out]
      clear h4 h16 go
      go_enter Tryd.func16, Tryd.ntmps16
      go_wp2
      go_loopw [18] (fun i w' => ∃ (k : Nat) (h l : Int), k ≤ b.length ∧ i = .int .i64 k ∧ (0 ≤ h ∧ h ≤ 18446744073709551615) ∧ (0 ≤ l ∧ l ≤ 18446744073709551615) ∧ Hid (fromGo (b.drop k) h l = (F, T)) ∧
          w' = (w.alloc (.cells #[.int .i64 0, .int .u64 0, .int .u64 0] 24)).alloc (.cells #[.int .i64 6, .int .u64 h, .int .u64 l] 24)) (fun i _ => b.length - (intOf i).toNat)
      case atStart => exact ⟨0, 0, 0, Nat.zero_le _, rfl, by omega, by omega, HF, rfl⟩
      case round =>
        obtain ⟨k, h, l, hk, rfl, hh, hl, hr, rfl⟩ := hrel
        by_cases hlt : k < b.length
        · obtain ⟨bk, off, rfl, hc⟩ := hb.cells (by omega)
          have eg : b.getD k 0 = b[k] := by simp [hlt]
          have hcell := hc k hlt
          have hbl : bk < w.heap.size := World.block_lt_of_cell? w _ hcell
          have hne1 : bk ≠ w.heap.size := by omega
          have hne2 : bk ≠ w.heap.size + 1 := by omega
          have hx := hb.bytes.get k
          have hr1 := hr.out
          rw [List.drop_eq_getElem_cons hlt] at hr1
          rw [eg] at hcell hx
          clear eg hc
          generalize b[k] = x at hcell hx hr1
          have e1 := or_low h (l / 72057594037927936) (by omega) (by omega)
          have e2 := or_low l x (by omega) (by omega)
          have ilt : (k : Int) < (b.length : Int) := by omega
          have HQ : Hid (fromGo (b.drop (k + 1)) (h * 256 % 18446744073709551616 + l / 72057594037927936) (l * 256 % 18446744073709551616 + x) = (F, T)) := hr1
          clear hr hr1
          go_wp2
          exact ⟨⟨k + 1, _, _, by omega, int_eq (by omega), by omega, by omega, HQ, rfl⟩, by simp [intOf]; omega⟩
        · have ilt : ¬ (k : Int) < (b.length : Int) := by omega
          have e : (h, l) = (F, T) := by
            rw [← hr.out, List.drop_eq_nil_of_le (by omega)]; rfl
          injection e with e1 e2
          subst e1
          subst e2
          go_wp2
          exact bodyPost_ret (v := .tuple #[.agg #[.int .i64 6, .int .u64 h, .int .u64 l], .int .i64 0]) (by simp [results, Tryd.results16, go_sem]) rfl ⟨rfl, ((Below.refl _ _).alloc (Nat.le_refl _) _).alloc (by simp) _⟩
    · have e : fromB b = (⟨0, 0, 0⟩, 1) := by rw [fromB, if_neg h4, if_neg h16]
      rw [e]
      have h4a : ((b.length : Int) == 4) = false := by simp; omega
      have h16a : ((b.length : Int) == 16) = false := by simp; omega
      clear e go HF h4 h16
      go_enter Tryd.func16, Tryd.ntmps16
      go_wp2
      exact bodyPost_ret (v := .tuple #[.agg #[.int .i64 0, .int .u64 0, .int .u64 0], .int .i64 1]) (by simp [results, Tryd.results16, go_sem]) rfl ⟨rfl, ((Below.refl _ _).alloc (Nat.le_refl _) _).alloc (by simp) _⟩
end Go.Proofs.YtakajiedajfkjaaDoor
