/- Texts joined: FtC -/
import Derived.Test.YtnadfacbfcdkgaaDoorFsa13
import Derived.Test.YtnadfacbfcdkgaaDoorFsa14
import Derived.Test.YtnadfacbfcdkgaaDoorFsa15
namespace Go.Proofs.YtnadfacbfcdkgaaDoor
open Go.RowKit
set_option linter.unusedVariables false
set_option linter.unusedSimpArgs false
/-- The variable that says how long a text may be that is looked through at once. -/
structure Mx (m : Int) (w : World) : Prop where
  h : w.cell? ⟨0, 0, none⟩ = some (.int .i64 m)
theorem Mx.lt {m : Int} {w : World} (h : Mx m w) : 0 < w.heap.size := World.block_lt_of_cell? w _ h.h
theorem Mx.kept {m : Int} {w w' : World} (h : Mx m w) (hb : Below w.heap.size w w') : Mx m w' := ⟨Go.Proofs.YtnadfacbfcdkgaaDoor.kept hb h.h⟩
theorem Mx.al {m : Int} {w w' : World} {o : Obj} (h : Mx m w) (e : w.alloc o = w') : Mx m w' := h.kept (bel_nw e)
theorem Mx.drew {m : Int} {w : World} (h : Mx m w) : Mx m w.drew := ⟨h.h⟩
theorem Mx.other {m : Int} {w : World} (h : Mx m w) {g : Nat} (hn : 0 ≠ g) (cs : Array Value) : Mx m (w.setRow g cs) :=
  ⟨((But.refl (fun k => k = g) w).setRow g (.inl rfl) cs).cell hn h.h⟩
theorem beh_len (h l : List UInt8) : ((behF h l).getD []).length ≤ l.length := by
  unfold behF
  split <;> simp
theorem wth_len (l : List UInt8) : (wthF l).length ≤ l.length := by
  unfold wthF
  have h1 := cut_sizes l [40]
  have h2 := cut_sizes (Lib.cut l [40]).2.1 [41]
  split
  · omega
  · simp
theorem fld_len (l : List UInt8) : (fldF l).1.length ≤ l.length ∧ (fldF l).2.1.length ≤ l.length ∧ (fldF l).2.2.length ≤ l.length := by
  cases l with
  | nil => simp [fldF]
  | cons d t =>
    rw [fldF_cons]
    split
    · have hs := spl_sub d (d :: t)
      generalize spl d (d :: t) = L at *
      unfold fld5
      split
      · split
        · exact ⟨hs _ (by simp), hs _ (by simp), hs _ (by simp)⟩
        · simp
      · simp
    · simp
theorem number_l (l : List UInt8) (most : Nat) (w : World) (hl : l.length < 4294967281) (hm : most ≤ 100000) :
    Calls Tryd.prog 40 #[.string ⟨l.toArray⟩, .int .i64 most] w fun e w' => e = .returned (.tuple #[.int .i64 (num most l).1, .bool (num most l).2]) ∧ Below w.heap.size w w' := number_ft ⟨l.toArray⟩ most w (by show l.toArray.size ≤ _; simp; omega) hm
theorem within_l (l : List UInt8) (m : Int) (w : World) (hl : l.length < 4294967281) (hm : Mx m w) :
    Calls Tryd.prog 32 #[.string ⟨l.toArray⟩] w fun e w' => e = .returned (.string ⟨(wthF l).toArray⟩) ∧ Below w.heap.size w w' := within_ft ⟨l.toArray⟩ m w (by show l.toArray.size < _; simp; omega) hm.h
theorem behind_l (h l : List UInt8) (w : World) (hh : ∀ c ∈ h, c.toNat < 128) (hs : h.length ≤ 100) (hl : l.length < 4294967281) :
    Calls Tryd.prog 29 #[.string ⟨h.toArray⟩, .string ⟨l.toArray⟩] w fun e w' => e = .returned (.tuple #[.string ⟨((behF h l).getD []).toArray⟩, .bool (behF h l).isSome]) ∧ Below w.heap.size w w' := behind_ft ⟨h.toArray⟩ ⟨l.toArray⟩ w hh (by show h.toArray.size ≤ _; simp; omega) (by show l.toArray.size ≤ _; simp; omega)
theorem parse_l (l : List UInt8) (m : Int) (w : World) (hl : l.length < 4294967281) (hm : Mx m w) :
    Calls Tryd.prog 45 #[.string ⟨l.toArray⟩] w fun e w' => e = .returned (.tuple #[(parseB l).1.v, .int .i64 (parseB l).2]) ∧ Below w.heap.size w w' := parse_any ⟨l.toArray⟩ w m (by show l.toArray.size < _; simp; omega) hm.h
theorem spl_six (l : List UInt8) : (if (Lib.splitK [44] 0 (min 7 (l.length + 1) - 1) l).length = 6 then qsGo (Lib.splitK [44] 0 (min 7 (l.length + 1) - 1) l) [] else none) = if (spl 44 l).length = 6 then qsGo (spl 44 l) [] else none := by
  have hl := spl_len 44 l
  by_cases h : (spl 44 l).length ≤ (min 7 (l.length + 1) - 1) + 1
  · rw [splitK_spl 44 _ l h]
  · have := (splitK_long 44 (min 7 (l.length + 1) - 1) l (by omega)).1
    rw [if_neg (by omega), if_neg (by omega)]
theorem six_eq (l : List UInt8) : sixF l = match (if (spl 44 l).length = 6 then qsGo (spl 44 l) [] else none) with | some b => placeF (fromB (b.take 4)).1 (b.getD 4 0 * 256 + b.getD 5 0) true | none => none := by
  unfold sixF
  split <;> rfl
end Go.Proofs.YtnadfacbfcdkgaaDoor
