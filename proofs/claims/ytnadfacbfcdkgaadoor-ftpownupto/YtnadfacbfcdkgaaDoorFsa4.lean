/- Texts joined: Zer -/
import Derived.Test.YtnadfacbfcdkgaaDoorFsa2
namespace Go.Proofs.YtnadfacbfcdkgaaDoor
open Go.RowKit
set_option linter.unusedVariables false
set_option linter.unusedSimpArgs false
theorem zeroCells_u8 (m : Nat) : Builtin.zeroCells (Value.int .u8 0).cells m = (List.replicate m (Value.int .u8 0)).toArray := by
  apply Array.ext'
  simp [Builtin.zeroCells, Value.cells]
  apply List.ext_getElem
  · simp
  · intro i h1 h2
    simp [Nat.mod_one]
theorem run_append_zeros (w : World) (ty : TypeId) (base : Nat) (v : Value) (l : List Int) (m : Nat) (hown : Owns w base v l) (hm : l.length + m ≤ 1048576) (hbase : base ≤ w.heap.size) :
    ∃ v' w', (Builtin.append_ #[22, 3] ty #[v, .int .i64 m]).run Tryd.prog w = .ok v' w' ∧ Owns w' base v' (l ++ List.replicate m 0) ∧ w.grownBy w' v.ownBlock := by
  obtain ⟨i, hi, hz, hsz, hby⟩ := info_parts info_u8
  have ht := Tryd.underlying22
  have hu := Tryd.underlying3
  have hwr : IntKind.i64.wrap (m : Int) = m := by rw [IntKind.wrap_i64]; omega
  have hlt : ¬ (m : Int) < 0 := by omega
  have hw0 : IntKind.i64.wrap 0 = 0 := by decide
  have hbig : ¬ (281474976710656 : Int) < (m : Int) := by omega
  have hs : (l ++ List.replicate m (0 : Int)).map (Value.int .u8) = l.map (Value.int .u8) ++ List.replicate m (Value.int .u8 0) := by simp
  have hlen : (l.map (Value.int .u8) ++ List.replicate m (Value.int .u8 0)).length = l.length + m := by simp
  have own : Owns w base v l := hown
  unfold Owns at hown ⊢
  simp only [hs, List.length_append, List.length_replicate]
  have grown : ∀ (old : Nat), ∀ (row : Option Nat),
      (w.drew.alloc (.cells ((l.map (Value.int .u8)).toArray ++ (List.replicate m (Value.int .u8 0)).toArray ++ (List.replicate (grownCap w (l.length + m) old 5 - (l.length + m)) (Value.int .u8 0)).toArray) 5)).ownsRow base 5 1
        (.slice (some ⟨w.heap.size, 0, none⟩) (l.length + m) (grownCap w (l.length + m) old 5)) (l.length + m) (l.map (Value.int .u8) ++ List.replicate m (Value.int .u8 0)) ∧
      w.grownBy (w.drew.alloc (.cells ((l.map (Value.int .u8)).toArray ++ (List.replicate m (Value.int .u8 0)).toArray ++ (List.replicate (grownCap w (l.length + m) old 5 - (l.length + m)) (Value.int .u8 0)).toArray) 5)) row := by
    intro old row
    have hge := grownCap_ge w (l.length + m) old 5
    have hcm : grownCap w (l.length + m) old 5 ≤ maxLen := grownCap_le_maxLen w (l.length + m) old 5 (by unfold maxLen; omega)
    refine ⟨⟨by simp, .inr ⟨w.heap.size, _, _, rfl, hbase, heap_alloc_new w.drew _, hge, hcm, ?_, ?_⟩⟩, ⟨rfl, rfl, rfl, by simp, fun k hk _ => (World.grownBy_alloc w.drew _ none).block k hk (by simp)⟩⟩
    · simp; omega
    · simp only [Array.toList_append, List.append_assoc, Nat.mul_one]
      rw [← List.append_assoc, ← hlen]
      exact List.take_left
  rcases hown.2 with ⟨rfl, hl0⟩ | ⟨g, cap, cur, rfl, hbg, hg, hnc, hcm, hcs, htake⟩
  · have hl : l = [] := by cases l with | nil => rfl | cons _ _ => simp at hl0
    subst hl
    by_cases hm0 : m = 0
    · subst hm0
      refine ⟨.slice none 0 0, w, ?_, World.ownsRow_nil w base 5 1, ⟨rfl, rfl, rfl, Nat.le_refl _, fun _ _ _ => rfl⟩⟩
      simp [Builtin.append_, run_underlying ht, run_underlying hu, sizeOf, typeInfo, asIntOf, hi, hsz, hby, asInt, hwr, hw0]
    · have hgr := grown 0 (Value.ownBlock (.slice none 0 0))
      simp only [List.length_nil, Nat.zero_add, List.map_nil, List.nil_append] at hgr ⊢
      refine ⟨_, _, ?_, hgr.1, hgr.2⟩
      have hn : ¬ (m ≤ 0) := by omega
      have h63' : ¬ (9223372036854775807 < (m : Int)) := by omega
      have h48' : ¬ (281474976710656 < Builtin.nextslicecap m 0) := by rw [nextslicecap_zero (by omega)]; simp only [List.length_nil] at hm; omega
      simp [Builtin.append_, run_underlying ht, run_underlying hu, sizeOf, typeInfo, asIntOf, zeroValue, hi, hz, hsz, hby, asInt, hwr, hlt, hbig, hn, hm0, h63', h48', Question.forced, run_firstCells_none, newRow, grownCap, zeroCells_u8]
  · by_cases hroom : l.length + m ≤ cap
    · have hst := run_storeCells_at Tryd.prog g l.length 5 (List.replicate m (Value.int .u8 0)) 0 cur w hg (by simp; omega) (by intro u hu; rw [List.eq_of_mem_replicate hu]; rfl)
      simp only [Nat.add_zero] at hst
      refine ⟨_, _, ?_, ⟨by simp, .inr ⟨g, cap, _, rfl, hbg, setRow_heap w g cur (cur.toList.take l.length ++ List.replicate m (Value.int .u8 0) ++ cur.toList.drop (l.length + m)).toArray 5 _ hg, hroom, hcm, ?_, ?_⟩⟩, ⟨rfl, rfl, rfl, by simp, fun k _ hk => setRow_other w g k _ (fun e => hk (by simp [Value.ownBlock, e]))⟩⟩
      · by_cases hm0 : m = 0
        · subst hm0
          simp only [List.replicate_zero] at hst
          simp [Builtin.append_, run_underlying ht, run_underlying hu, sizeOf, typeInfo, asIntOf, hi, hsz, hby, asInt, hwr, hw0, hroom, Addr.add_lit, hst]
          intro hh
          omega
        · simp [Builtin.append_, run_underlying ht, run_underlying hu, sizeOf, typeInfo, asIntOf, zeroValue, hi, hz, hsz, hby, asInt, hwr, hlt, hbig, hm0, hroom, Addr.add_lit, zeroCells_u8, hst]
      · simp; omega
      · simp only [Nat.mul_one] at htake ⊢
        rw [htake, ← hlen]
        exact List.take_left
    · have holds : ∀ j u, (l.map (Value.int .u8))[j]? = some u → w.cell? ((⟨g, 0, none⟩ : Addr).add j) = some u := World.ownsRow.cells (g := g) hown rfl
      have hgr := grown cap (Value.ownBlock (.slice (some ⟨g, 0, none⟩) l.length cap))
      refine ⟨_, _, ?_, hgr.1, hgr.2⟩
      have h63' : ¬ (9223372036854775807 < ((l.length : Int) + (m : Int))) := by omega
      have hfit := growslice_fits (need := l.length + m) (old := cap) (bytes := 1) (by omega) (by omega)
      have h48' : ¬ (281474976710656 < Builtin.nextslicecap (l.length + m) cap) := by omega
      have hm0 : ¬ m = 0 := by omega
      have hfo := run_firstCells_some (P := Tryd.prog) w.drew 1 l.length ⟨g, 0, none⟩ l.length cap (l.map (Value.int .u8)) (by simp) (by simpa using holds)
      simp [Builtin.append_, run_underlying ht, run_underlying hu, sizeOf, typeInfo, asIntOf, zeroValue, hi, hz, hsz, hby, asInt, hwr, hlt, hbig, hroom, hm0, h63', h48', Question.forced, hfo, newRow, grownCap, zeroCells_u8]
end Go.Proofs.YtnadfacbfcdkgaaDoor
