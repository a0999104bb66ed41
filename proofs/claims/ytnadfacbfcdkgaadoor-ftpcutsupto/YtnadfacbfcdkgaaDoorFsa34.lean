/- Texts joined: FtK Args ArgU -/
import Derived.Test.YtnadfacbfcdkgaaDoorFsa31
import Derived.Test.YtnadfacbfcdkgaaDoorFsa32
import Derived.Test.YtnadfacbfcdkgaaDoorFsa33
import Derived.ProofKit
import Derived.OpenShut
import Derived.SizedLaws
import Derived.Deep.Matrix
import Derived.Test.YtnadfacbfcdkgaaDoorRows
namespace Go.Proofs.YtnadfacbfcdkgaaDoor
open Go.RowKit
set_option linter.unusedVariables false
set_option linter.unusedSimpArgs false
theorem rplace_ft (fam side : Int) (s : ByteArray) (w : World) :
    Calls Tryd.prog 15 #[.int .i64 fam, .int .i64 side, .string s] w fun e w' => e = .returned (.tuple #[.agg (askT (plF fam side s.data.toList)).1.v, .bool (askT (plF fam side s.data.toList)).2]) ∧ Below w.heap.size w w' := by
  rw [← dpl_eq]
  have es : s.data.toList.length = s.size := Array.length_toList
  by_cases h : 5 ≤ s.size ∧ s.size ≤ 512 ∧ (fam = 4 ∨ fam = 6)
  · obtain ⟨h5, h512, hf⟩ := h
    by_cases h0 : side = 0
    · subst h0
      rcases hf with rfl | rfl
      · exact rplace_04 s w h5 h512
      · exact rplace_06 s w h5 h512
    · by_cases h1 : side = 1
      · subst h1
        rcases hf with rfl | rfl
        · exact rplace_14 s w h5 h512
        · exact rplace_16 s w h5 h512
      · exact rplace_xx fam side s w h5 h512 hf h0 h1
  · have e : dplF fam side s.data.toList = none := by unfold dplF; rw [if_pos (by omega)]
    rw [e]
    exact rplace_bad fam side s w (by omega)
end Go.Proofs.YtnadfacbfcdkgaaDoor
namespace Go.Proofs.YtnadfacbfcdkgaaDoor
open Go.ChangeShapes Go.WideShapes Go.ChangeAt Go.RowKit
set_option linter.unusedVariables false
theorem bytes_of_wf {zs : List Int} (h : ∀ n ∈ zs, (Lit.int .u8 n).wf = true) : M.Bytes zs := fun x hx => by
  have := h x hx
  simpa [Lit.wf, IntKind.min, IntKind.max, IntKind.signed, IntKind.bits] using this
theorem row_of_ints {w : World} {x : Addr} {len : Nat} {zs : List Int} (hr : zs.length ≤ 140737488351232)
    (hc : ∀ i, i < zs.length → w.cell? (x.add i) = some (.int .u8 (zs.getD i 0))) (hw : ∀ n ∈ zs, (Lit.int .u8 n).wf = true) : Row w (some x) (zs.take len) := by
  have hle : (zs.take len).length ≤ zs.length := List.length_take_le' _ _
  refine ⟨by omega, (bytes_of_wf hw).take len, fun hp => ?_⟩
  obtain ⟨b, off, rfl, hc'⟩ := ints_at hc (by omega)
  refine ⟨b, off, rfl, fun i hi => ?_⟩
  rw [hc' i (by omega)]
  have : i < len := by simp at hi; omega
  simp [this]
theorem row_nil (w : World) (a : Option Addr) : Row w a [] := ⟨by simp, M.Bytes.nil, fun h => by simp at h⟩
end Go.Proofs.YtnadfacbfcdkgaaDoor
namespace Go.Proofs.YtnadfacbfcdkgaaDoor
open Go.ChangeShapes Go.WideShapes Go.ChangeAt Go.RowKit
set_option linter.unusedVariables false
set_option linter.unusedSimpArgs false
theorem bulk_lits {H : Type} : ∀ zs : List Int, Rows.uptoBulkAll (lits (H := H) .u8 zs) = zs.length
  | [] => by simp [lits, Rows.uptoBulkAll]
  | z :: zs => by
    have := bulk_lits (H := H) zs
    simp only [lits, List.map_cons, Rows.uptoBulkAll, Rows.uptoBulk, List.length_cons] at this ⊢
    omega
theorem open_upto {H : Type} {enc : TypeId × Value → H} {W : World} {base : Nat} {v : Value} {d : DataW H} {p : List MemPlace}
    (hv : Value.okWide Tryd.prog W .any base 22 v) (h : DataW.Trod enc Tryd.prog W 0 (fun _ => true) true 22 v d p)
    (hsz : ∀ n ∈ d.weights Tryd.prog 22, n ≤ reachBytes) :
    ∃ (a : Option Addr) (cap : Nat) (l : List Int), v = .slice a l.length cap ∧ l.length ≤ cap ∧ cap ≤ 140737488351232 ∧ (a = none → cap = 0) ∧ Row W a l ∧ l.length ≤ Rows.uptoBulk d := by
  have hbe : Tryd.prog.bytesOf 5 = 1 := by kernel_rfl
  obtain ⟨a0, len0, cap0, rfl⟩ := okWide_slice Tryd.underlying22 hv
  obtain ⟨fuel, hf⟩ := h
  rcases open_ints Tryd.underlying22 Tryd.underlying5 (by kernel_rfl) hf with ⟨hcs, _⟩ | ⟨x, l, c, zs, hcs, _, hl, hm, hz, hx, hcell, hwz⟩
  · simp [Value.cells] at hcs
    obtain ⟨rfl, rfl, rfl⟩ := hcs
    exact ⟨none, 0, [], rfl, Nat.le_refl _, by omega, fun _ => rfl, row_nil _ _, by simp⟩
  · simp [Value.cells] at hcs
    obtain ⟨rfl, rfl, rfl⟩ := hcs
    simp only [if_true] at hz
    simp only [Prod.mk.injEq] at hx
    obtain ⟨rfl, _⟩ := hx
    have hn := hsz ((lits .u8 (zs.take len0)).length + (lits (H := H) .u8 (zs.drop len0)).length) (by simp only [DataW.weights, Tryd.underlying22, hbe, Nat.mul_one]; exact List.mem_cons_self ..)
    simp only [lits, List.length_map, List.length_take, List.length_drop, reachBytes] at hn
    have e1 : len0 = (zs.take len0).length := by simp; omega
    refine ⟨some x, cap0, zs.take len0, by rw [← e1], by omega, by omega, fun h => (by cases h), row_of_ints (by omega) hcell hwz, ?_⟩
    have := bulk_lits (H := H) (zs.take len0)
    simp only [Rows.uptoBulk]
    omega
end Go.Proofs.YtnadfacbfcdkgaaDoor
