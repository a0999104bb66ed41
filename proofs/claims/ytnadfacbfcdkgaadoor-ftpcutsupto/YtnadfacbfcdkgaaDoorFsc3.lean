/- Texts joined: FtR -/
import Derived.Test.YtnadfacbfcdkgaaDoorFsa0
import Derived.Test.YtnadfacbfcdkgaaDoorFsa1
import Derived.Test.YtnadfacbfcdkgaaDoorFsa2
import Derived.Test.YtnadfacbfcdkgaaDoorFsa3
import Derived.Test.YtnadfacbfcdkgaaDoorFsa4
import Derived.Test.YtnadfacbfcdkgaaDoorFsa5
import Derived.Test.YtnadfacbfcdkgaaDoorFsa6
import Derived.Test.YtnadfacbfcdkgaaDoorFsa7
import Derived.Test.YtnadfacbfcdkgaaDoorFsa8
import Derived.Test.YtnadfacbfcdkgaaDoorFsa9
import Derived.Test.YtnadfacbfcdkgaaDoorFsa10
import Derived.Test.YtnadfacbfcdkgaaDoorFsa11
import Derived.Test.YtnadfacbfcdkgaaDoorFsa12
import Derived.Test.YtnadfacbfcdkgaaDoorFsa13
import Derived.Test.YtnadfacbfcdkgaaDoorFsa14
import Derived.Test.YtnadfacbfcdkgaaDoorFsa15
import Derived.Test.YtnadfacbfcdkgaaDoorFsa16
import Derived.Test.YtnadfacbfcdkgaaDoorFsa17
import Derived.Test.YtnadfacbfcdkgaaDoorFsa18
import Derived.Test.YtnadfacbfcdkgaaDoorFsa19
import Derived.Test.YtnadfacbfcdkgaaDoorFsa20
import Derived.Test.YtnadfacbfcdkgaaDoorFsa21
import Derived.Test.YtnadfacbfcdkgaaDoorFsa22
import Derived.Test.YtnadfacbfcdkgaaDoorFsa23
import Derived.Test.YtnadfacbfcdkgaaDoorFsa24
import Derived.Test.YtnadfacbfcdkgaaDoorFsa25
import Derived.Test.YtnadfacbfcdkgaaDoorFsa26
import Derived.Test.YtnadfacbfcdkgaaDoorFsa27
import Derived.Test.YtnadfacbfcdkgaaDoorFsa28
import Derived.Test.YtnadfacbfcdkgaaDoorFsa29
import Derived.Test.YtnadfacbfcdkgaaDoorFsa30
import Derived.Test.YtnadfacbfcdkgaaDoorFsa31
import Derived.Test.YtnadfacbfcdkgaaDoorFsa32
import Derived.Test.YtnadfacbfcdkgaaDoorFsa33
import Derived.Test.YtnadfacbfcdkgaaDoorFsa34
import Derived.Test.YtnadfacbfcdkgaaDoorFsa35
import Derived.Test.YtnadfacbfcdkgaaDoorFsa36
import Derived.Test.YtnadfacbfcdkgaaDoorFsa37
import Derived.Test.YtnadfacbfcdkgaaDoorFsa38
import Derived.Test.YtnadfacbfcdkgaaDoorFsa39
import Derived.Test.YtnadfacbfcdkgaaDoorFsc2
import Derived.Lib.SlBytesConst
import Derived.Deep.WholeRow
import Derived.BigRegion
import Derived.Deep.RegionHeld3
import Derived.Laws.BytesArg
import Derived.Laws.MakeOwn
import Derived.Deep.QuietTactic
import Derived.BigQuiet
import Derived.Test.YtnadfacbfcdkgaaDoorRows
import Derived.WalkKit
import Derived.Laws.BitsAllLaws
import Derived.Laws.BitsLemmas
import Derived.Laws.Bits128
import Derived.Laws.AppendOwn
import Derived.Laws.AppendOwnNone
import Derived.Laws.OwnMore
import Derived.OwnWalk
import Derived.KernelRfl
import Derived.Below
import Derived.Deep.Draws
import Derived.Laws.World
import Derived.Laws.Shifts
import Derived.Laws.ShiftsVarLaws
import Derived.Laws.StructEq
import Derived.Deep.RegionWith
import Derived.Deep.DeepCutAuto
import Derived.Lib.OthersKept
import Derived.Lib.DecodeN
import Derived.Deep.Onto
import Derived.WalkSmall
import Derived.Test.YtnadfacbfcdkgaaDoorShelf
import Derived.Lib.Split
import Derived.Laws.Runes
import Derived.Laws.RangeString
import Derived.Laws.RangeAny
import Derived.LoopTactic
import Derived.Lib.SmallJoins
import Derived.Lib.AppendIntMem
import Derived.Lib.Join
import Derived.Deep.AppendLies
import Derived.RegionTactic
namespace Go.Proofs.YtnadfacbfcdkgaaDoor
open Go.RowKit
set_option linter.unusedVariables false
set_option linter.unusedSimpArgs false
/-- A list that lies in a row and is only read. -/
structure RowA (w : World) (a : Option Addr) (c : Nat) (L : List As) : Prop where
  row : RowN 5 As.v (fun _ _ => True) w a L
  lt : ∀ y : Addr, a = some y → y.block < w.heap.size
  le : L.length ≤ c
  nil : a = none → c = 0
theorem RowA.but {F : Nat → Prop} {w w' : World} {a : Option Addr} {c : Nat} {L : List As} (h : RowA w a c L) (b : But F w w') (hn : ∀ y : Addr, a = some y → ¬ F y.block) : RowA w' a c L :=
  ⟨⟨fun _ _ => trivial, fun i q hi => by
    obtain ⟨p, o, e, hc⟩ := h.row.cells i q hi
    exact ⟨p, o, e, Nat.lt_of_lt_of_le hc.1 b.size, fun j v hj => b.cell (hn _ e) (hc.2 j v hj)⟩⟩, fun y hy => Nat.lt_of_lt_of_le (h.lt y hy) b.size, h.le, h.nil⟩
theorem RowA.kept {w w' : World} {a : Option Addr} {c : Nat} {L : List As} (h : RowA w a c L) (b : Below w.heap.size w w') : RowA w' a c L := h.but (But.of_below b (fun _ => False)) (fun _ _ x => x)
theorem RowA.drew {w : World} {a : Option Addr} {c : Nat} {L : List As} (h : RowA w a c L) : RowA w.drew a c L := h.kept (Below.refl _ _).drew
/-- append(v, x...) of many. -/
theorem run_appAss (w : World) (ty : TypeId) (B : Nat) (a : Option Addr) (c : Nat) (xs : List As) (hown : OwnAs w B a c xs) (b : Option Addr) (cc : Nat) (l : List As) (hrow : RowA w b cc l)
    (hsum : xs.length + l.length ≤ 3000000) (hbase : B ≤ w.heap.size) :
    ∃ a' c' w', (Builtin.append_ #[37, 37] ty #[.slice a xs.length c, .slice b l.length cc]).run Tryd.prog w = .ok (.slice a' (xs ++ l).length c') w' ∧ OwnAs w' B a' c' (xs ++ l) ∧ w.grownBy w' (a.map (·.block)) := by
  obtain ⟨i0, hi, hz0, hz1, hz2⟩ := info_parts info_as5
  cases b with
  | none =>
    have hl : l = [] := by
      cases l with
      | nil => rfl
      | cons y l => obtain ⟨b, off, hh, _⟩ := hrow.row.cells 0 y rfl; cases hh
    subst hl
    have := run_append_owned_none (P := Tryd.prog) (w := w) B 37 ty 32 i0 5 Tryd.underlying37 hi (.slice a xs.length c) xs.length (pcAs xs) hown
    rw [hrow.nil rfl]
    refine ⟨a, c, w, ?_, by simpa using hown, World.grownBy.refl _ _⟩
    simpa using this
  | some ad =>
    obtain ⟨v', w', h1, h2, h3, _⟩ := run_append_own (P := Tryd.prog) w B 37 ty 32 i0 (.agg zasV) 5 40 Tryd.underlying37 hi hz0 hz1 hz2 rfl (by decide) (.slice a xs.length c) xs.length (pcAs xs) hown ad l.length cc (pcAs l) (fl_len _ 5 asv_len l) (by
      intro j u hj
      have hjl : j < l.length * 5 := by
        have := (List.getElem?_eq_some_iff.1 hj).1
        rwa [fl_len _ 5 asv_len l] at this
      have hq : j / 5 < l.length := (Nat.div_lt_iff_lt_mul (by decide)).2 hjl
      obtain ⟨q, hq'⟩ : ∃ q, l[j / 5]? = some q := ⟨_, List.getElem?_eq_getElem hq⟩
      obtain ⟨b, off, hh, hc⟩ := hrow.row.cells (j / 5) q hq'
      cases hh
      have e : j / 5 * 5 + j % 5 = j := by omega
      have h1 := fl_get (fun q : As => q.v.toList) 5 asv_len l (j / 5) (j % 5) q hq' (Nat.mod_lt _ (by decide))
      rw [e] at h1
      have h2 : q.v.toList[j % 5]? = some u := by rw [← h1]; exact hj
      have h3 := hc.2 (j % 5) u (by simpa using h2)
      rw [show (⟨b, off, none⟩ : Addr).add j = ⟨b, off + j, none⟩ from Go.WideShapes.add_plain ..]
      rw [show off + j = off + j / 5 * 5 + j % 5 by omega]
      exact h3) (by
      intro u hu
      obtain ⟨q, _, hq⟩ := List.mem_flatMap.1 hu
      exact asv_one q u hq) (by unfold maxLen; omega) (by omega) hbase
    have h4 : w'.ownsRow B 32 5 v' (xs ++ l).length (pcAs (xs ++ l)) := by
      have e : pcAs (xs ++ l) = pcAs xs ++ pcAs l := by simp [pcAs]
      rw [List.length_append, e]
      exact h2
    obtain ⟨a', c', rfl⟩ : ∃ a' c', v' = .slice a' (xs ++ l).length c' := by
      rcases h4.2 with ⟨h5, h6⟩ | ⟨g, cap, cur, h5, _⟩
      · exact ⟨none, 0, by rw [h5, h6]⟩
      · exact ⟨_, cap, h5⟩
    rw [slice_blkL] at h3
    exact ⟨a', c', w', h1, h4, h3⟩
theorem OwnAs.rowA {w : World} {B : Nat} {a : Option Addr} {c : Nat} {l : List As} (h : OwnAs w B a c l) : RowA w a c l := ⟨h.rowN, h.lt_size, h.le, fun e => by
  subst e
  obtain ⟨h1, h2⟩ := h
  rcases h2 with ⟨h3, h4⟩ | ⟨g', cap, cur, h3, h4, _⟩
  · simp only [Value.slice.injEq] at h3; exact h3.2.2
  · cases h3⟩
theorem run_upB (p o n c k : Nat) (hk : k ≤ c) (w : World) : (Instr.sliceAt 22 (.slice (some ⟨p, o, none⟩) n c) none (some (.int .i64 (k : Int))) none).run Tryd.prog w = .ok (.slice (some ⟨p, o, none⟩) k c) w := by
  have hu : Tryd.prog.underlying 22 = some (.slice (Tryd.prog.elem 22)) := by kernel_rfl
  have hs : (sizeOf (Tryd.prog.elem 22)).run Tryd.prog w = .ok 1 w := by kernel_rfl
  rw [run_sliceAt_slice _ _ _ _ _ _ hu, run_slice_h _ _ _ _ _ hu .i64 (k : Int) (by omega) (by omega), hs]
  show Result.ok _ _ = _
  unfold sliced
  simp [Go.WideShapes.add_plain]
theorem run_frB (p o n c k : Nat) (hk : k ≤ n) (w : World) : (Instr.sliceAt 22 (.slice (some ⟨p, o, none⟩) n c) (some (.int .i64 (k : Int))) none none).run Tryd.prog w = .ok (.slice (subA p o c k) (n - k) (c - k)) w := by
  have hu : Tryd.prog.underlying 22 = some (.slice (Tryd.prog.elem 22)) := by kernel_rfl
  have hs : (sizeOf (Tryd.prog.elem 22)).run Tryd.prog w = .ok 1 w := by kernel_rfl
  rw [run_sliceAt_slice _ _ _ _ _ _ hu, run_slice_l _ _ _ _ _ hu .i64 (k : Int) (by omega) (by omega), hs]
  show Result.ok _ _ = _
  unfold sliced subA
  simp only [Int.toNat_natCast]
  by_cases h : c = k
  · rw [if_pos h, if_pos h]
  · rw [if_neg h, if_neg h]
    show Result.ok (Value.slice (some ((⟨p, o, none⟩ : Addr).add (k * 1))) (n - k) (c - k)) w = _
    rw [Go.WideShapes.add_plain, Nat.mul_one]
theorem lnN_next (T : List (List UInt8)) (k : Nat) (x : List UInt8) (h : T[k]? = some x) : lnN (T.take (k + 1)) = lnN (T.take k) + (x.length + 2) := by
  unfold lnN
  rw [List.take_add_one, h, List.map_append, List.sum_append]
  simp
end Go.Proofs.YtnadfacbfcdkgaaDoor
