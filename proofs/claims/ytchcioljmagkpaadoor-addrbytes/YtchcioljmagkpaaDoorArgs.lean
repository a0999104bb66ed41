/- How arguments that are slices of bytes, or slices of such, are read: as rows of bytes, each within the form's reach. -/
import Derived.Test.YtchcioljmagkpaaDoorMem
import Derived.ProofKit
import Derived.OpenShut
import Derived.SizedLaws
import Derived.Deep.Matrix
namespace Go.Proofs.YtchcioljmagkpaaDoor
open Go.ChangeShapes Go.WideShapes Go.ChangeAt Go.RowKit
set_option linter.unusedVariables false

theorem bytes_of_wf {zs : List Int} (h : ∀ n ∈ zs, (Lit.int .u8 n).wf = true) : M.Bytes zs := fun x hx => by
  have := h x hx
  simpa [Lit.wf, IntKind.min, IntKind.max, IntKind.signed, IntKind.bits] using this

theorem row_of_ints {w : World} {x : Addr} {len : Nat} {zs : List Int} (hr : zs.length ≤ 140737488351232)
    (hc : ∀ i, i < zs.length → w.cell? (x.add i) = some (.int .u8 (zs.getD i 0))) (hw : ∀ n ∈ zs, (Lit.int .u8 n).wf = true) : Row w (some x) (zs.take len) := by
  have hle : (zs.take len).length ≤ zs.length := List.length_take_le' _ _
  refine ⟨by omega, (bytes_of_wf hw).take len, fun hp => ?_⟩
  obtain ⟨b, off, rfl, hc'⟩ := ints_at hc (by omega)
  refine ⟨b, off, rfl, fun i hi => ?_⟩
  rw [hc' i (by omega)]
  have : i < len := by simp at hi; omega
  simp [this]
theorem row_nil (w : World) (a : Option Addr) : Row w a [] := ⟨by simp, M.Bytes.nil, fun h => by simp at h⟩

/-- A slice of bytes that came in. -/
theorem open_bytes {H : Type} {enc : TypeId × Value → H} {P : Program} {W : World} {base : Nat} {t e : TypeId} {v : Value} {d : DataW H} {p : List MemPlace} (ht : P.underlying t = some (.slice e)) (he : P.underlying e = some (.int .u8)) (hc : P.cellsOf e = 1) (hbe : P.bytesOf e = 1)
    (hv : Value.okWide P W .any base t v) (h : DataW.Trod enc P W 0 (fun _ => true) true t v d p)
    (hsz : ∀ n ∈ d.weights P t, n ≤ reachBytes) :
    ∃ (a : Option Addr) (cap : Nat) (l : List Int), v = .slice a l.length cap ∧ l.length ≤ cap ∧ cap ≤ 140737488351232 ∧ (a = none → cap = 0) ∧ Row W a l := by
  obtain ⟨a0, len0, cap0, rfl⟩ := okWide_slice ht hv
  obtain ⟨fuel, hf⟩ := h
  rcases open_ints ht he hc hf with ⟨hcs, _⟩ | ⟨x, l, c, zs, hcs, _, hl, hm, hz, hx, hcell, hwz⟩
  · simp [Value.cells] at hcs
    obtain ⟨rfl, rfl, rfl⟩ := hcs
    exact ⟨none, 0, [], rfl, Nat.le_refl _, by omega, fun _ => rfl, row_nil _ _⟩
  · simp [Value.cells] at hcs
    obtain ⟨rfl, rfl, rfl⟩ := hcs
    simp only [if_true] at hz
    simp only [Prod.mk.injEq] at hx
    obtain ⟨rfl, _⟩ := hx
    have hn := hsz ((lits .u8 (zs.take len0)).length + (lits (H := H) .u8 (zs.drop len0)).length) (by simp only [DataW.weights, ht, hbe, Nat.mul_one]; exact List.mem_cons_self ..)
    simp only [lits, List.length_map, List.length_take, List.length_drop, reachBytes] at hn
    have e1 : len0 = (zs.take len0).length := by simp; omega
    refine ⟨some x, cap0, zs.take len0, by rw [← e1], by omega, by omega, fun h => (by cases h), row_of_ints (by omega) hcell hwz⟩

theorem weightsAll_mem {H : Type} {P : Program} {e : TypeId} {n : Nat} : ∀ {ds : List (DataW H)} {d : DataW H}, d ∈ ds → n ∈ d.weights P e → n ∈ DataW.weightsAll P e ds
  | d0 :: ds, d, hd, hn => by
    rw [DataW.weightsAll, List.mem_append]
    rcases List.mem_cons.1 hd with rfl | hd
    · exact Or.inl hn
    · exact Or.inr (weightsAll_mem hd hn)

/-- A slice of slices of bytes that came in. -/
theorem open_parts {H : Type} {enc : TypeId × Value → H} {P : Program} {W : World} {base : Nat} {t e q : TypeId} {v : Value} {d : DataW H} {p : List MemPlace} (ht : P.underlying t = some (.slice e)) (he : P.underlying e = some (.slice q)) (hq : P.underlying q = some (.int .u8)) (ce : P.cellsOf e = 1) (cq : P.cellsOf q = 1) (be : P.bytesOf e = 24) (bq : P.bytesOf q = 1)
    (hv : Value.okWide P W .any base t v) (h : DataW.Trod enc P W 0 (fun _ => true) true t v d p)
    (hsz : ∀ n ∈ d.weights P t, n ≤ reachBytes) :
    ∃ (a : Option Addr) (cap : Nat) (ls : List (List Int)), v = .slice a ls.length cap ∧ ls.length ≤ cap ∧ cap ≤ 5864062014634 ∧ Rowss W a ls := by
  obtain ⟨a0, len0, cap0, rfl⟩ := okWide_slice ht hv
  obtain ⟨fuel, hf⟩ := h
  rcases Go.Deep.open_int_rows ht he hq ce cq hf with ⟨hcs, _⟩ | ⟨x, len, cap, A, L, C, Z, hcs, _, hl, hm, hx, hrow⟩
  · simp [Value.cells] at hcs
    obtain ⟨rfl, rfl, rfl⟩ := hcs
    exact ⟨none, 0, [], rfl, Nat.le_refl _, by omega, by simp, fun h => by simp at h⟩
  · simp [Value.cells] at hcs
    obtain ⟨rfl, rfl, rfl⟩ := hcs
    simp only [Prod.mk.injEq] at hx
    obtain ⟨rfl, _⟩ := hx
    have hn := hsz _ (by simp only [DataW.weights, ht]; exact List.mem_cons_self ..)
    simp only [List.length_map, List.length_range, reachBytes, be] at hn
    let ls : List (List Int) := (List.range len0).map fun r => (Z r).take (L r)
    have hls : ls.length = len0 := by simp [ls]
    have hget : ∀ i, i < len0 → ls.getD i [] = (Z i).take (L i) := fun i hi => by simp [ls, hi]
    refine ⟨some x, cap0, ls, by rw [hls], by omega, by omega, by omega, fun hp => ?_⟩
    have hspot : ∃ b off, x = ⟨b, off, none⟩ := by
      obtain ⟨b, off, spot⟩ := x
      have := (hrow 0 (by omega)).1
      have hs : spot = none := by simpa [Addr.add] using World.cell?_spot this
      exact ⟨b, off, by rw [hs]⟩
    obtain ⟨b, off, rfl⟩ := hspot
    refine ⟨b, off, rfl, fun i hi => ?_⟩
    rw [hls] at hi
    obtain ⟨h1, h2, h3, h4, h5, h6, h7⟩ := hrow i (by omega)
    rw [Go.WideShapes.add_plain] at h1
    have e1 : ((Z i).take (L i)).length = L i := by simp; omega
    rw [hget i hi, e1]
    refine ⟨A i, C i, h1, ?_⟩
    cases ha : A i with
    | none =>
      have : C i = 0 := h6 ha
      have e2 : (Z i).take (L i) = [] := by rw [show L i = 0 by omega]; rfl
      rw [e2]; exact row_nil _ _
    | some a' =>
      have hw := hsz ((L i + (C i - L i)) * 1) (by
        simp only [DataW.weights, ht]
        refine List.mem_cons_of_mem _ (List.mem_append_left _ (weightsAll_mem (d := Go.Deep.intRow .u8 (A i) (L i) (Z i)) (List.mem_map.2 ⟨i, List.mem_range.2 hi, rfl⟩) ?_))
        rw [ha]
        simp [Go.Deep.intRow, DataW.weights, he, bq, lits, h4]
        left; omega)
      simp only [reachBytes] at hw
      exact row_of_ints (by omega) (fun c hc => (h7 a' ha).2 c (by omega)) h5
end Go.Proofs.YtchcioljmagkpaaDoor
