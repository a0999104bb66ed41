/- Arguments that came in: slices of ints, of bytes, of acts. -/
import Derived.Test.YtfcpjenlckkloaaWhR
import Derived.OpenShut
import Derived.ChangeSlices
import Derived.Deep.Slices
import Derived.Deep.Strs
import Derived.SizedLaws
namespace Go.Proofs.Ytfcpjenlckkloaa
open Go.RowKit Go.ChangeShapes Go.WideShapes
set_option linter.unusedVariables false
set_option linter.unusedSimpArgs false

theorem in64_of {x : Int} (h : (Lit.int .i64 x).wf = true) : In64 x := by
  have : -9223372036854775808 ≤ x ∧ x ≤ 9223372036854775807 := by simpa [Lit.wf, IntKind.min, IntKind.max, IntKind.signed, IntKind.bits] using h
  exact this
/-- A slice of ints that came in. -/
theorem open_ints {H : Type} {enc : TypeId × Value → H} {W : World} {base : Nat} {v : Value} {d : DataW H} {p : List MemPlace}
    (hv : Value.okWide Try.prog W .any base 39 v) (h : DataW.Trod enc Try.prog W 0 (fun _ => true) true 39 v d p) (hsz : ∀ n ∈ d.weights Try.prog 39, n ≤ reachBytes) :
    ∃ (a : Option Addr) (cap : Nat) (l : List Int), v = .slice a l.length cap ∧ l.length ≤ cap ∧ cap ≤ 17592186043904 ∧ (RowI W a l ∧ (∀ x ∈ l, In64 x) ∧ (a = none → cap = 0)) := by
  obtain ⟨a0, len0, cap0, rfl⟩ := okWide_slice Try.underlying39 hv
  obtain ⟨fuel, hf⟩ := h
  rcases ChangeShapes.open_ints Try.underlying39 Try.underlying3 (by kernel_rfl) hf with ⟨hcs, _⟩ | ⟨x, l, c, zs, hcs, _, hl, hm, hz, hx, hcell, hwz⟩
  · simp [Value.cells] at hcs
    obtain ⟨rfl, rfl, rfl⟩ := hcs
    exact ⟨none, 0, [], rfl, Nat.le_refl _, by omega, ⟨by simp, fun h => by simp at h⟩, by simp, fun _ => rfl⟩
  · simp [Value.cells] at hcs
    obtain ⟨rfl, rfl, rfl⟩ := hcs
    simp only [if_true] at hz
    simp only [Prod.mk.injEq] at hx
    obtain ⟨rfl, _⟩ := hx
    have hbe : Program.bytesOf Try.prog 3 = 8 := by kernel_rfl
    have hn := hsz (((lits .i64 (zs.take len0)).length + (lits (H := H) .i64 (zs.drop len0)).length) * 8) (by simp only [DataW.weights, Try.underlying39, hbe]; exact List.mem_cons_self ..)
    simp only [lits, List.length_map, List.length_take, List.length_drop, reachBytes] at hn
    have e1 : len0 = (zs.take len0).length := by simp; omega
    refine ⟨some x, cap0, zs.take len0, by rw [← e1], by omega, by omega, ⟨by omega, fun hp => ?_⟩, fun y hy => in64_of (hwz y (List.mem_of_mem_take hy)), fun h => (by cases h)⟩
    obtain ⟨b, off, rfl, hc'⟩ := ints_at hcell (by omega)
    refine ⟨b, off, rfl, fun i hi => ?_⟩
    rw [hc' i (by omega)]
    have : i < len0 := by omega
    simp [this]
/-- A slice of bytes, as it is read. -/
structure RowU (w : World) (a : Option Addr) (l : List Int) : Prop where
  bytes : ∀ x ∈ l, 0 ≤ x ∧ x ≤ 255
  cells : ∀ i, i < l.length → ∃ b off, a = some ⟨b, off, none⟩ ∧ w.cell? ⟨b, off + i, none⟩ = some (.int .u8 (l.getD i 0))
theorem open_u8s {H : Type} {enc : TypeId × Value → H} {W : World} {base : Nat} {v : Value} {d : DataW H} {p : List MemPlace}
    (hv : Value.okWide Try.prog W .any base 46 v) (h : DataW.Trod enc Try.prog W 0 (fun _ => true) true 46 v d p) (hsz : ∀ n ∈ d.weights Try.prog 46, n ≤ reachBytes) :
    ∃ (a : Option Addr) (cap : Nat) (l : List Int), v = .slice a l.length cap ∧ l.length ≤ cap ∧ cap ≤ 140737488355328 ∧ RowU W a l := by
  obtain ⟨a0, len0, cap0, rfl⟩ := okWide_slice Try.underlying46 hv
  obtain ⟨fuel, hf⟩ := h
  rcases ChangeShapes.open_ints Try.underlying46 Try.underlying5 (by kernel_rfl) hf with ⟨hcs, _⟩ | ⟨x, l, c, zs, hcs, _, hl, hm, hz, hx, hcell, hwz⟩
  · simp [Value.cells] at hcs
    obtain ⟨rfl, rfl, rfl⟩ := hcs
    exact ⟨none, 0, [], rfl, Nat.le_refl _, by omega, by simp, fun i h => by simp at h⟩
  · simp [Value.cells] at hcs
    obtain ⟨rfl, rfl, rfl⟩ := hcs
    simp only [if_true] at hz
    simp only [Prod.mk.injEq] at hx
    obtain ⟨rfl, _⟩ := hx
    have hbe : Program.bytesOf Try.prog 5 = 1 := by kernel_rfl
    have hn := hsz (((lits .u8 (zs.take len0)).length + (lits (H := H) .u8 (zs.drop len0)).length) * 1) (by simp only [DataW.weights, Try.underlying46, hbe]; exact List.mem_cons_self ..)
    simp only [lits, List.length_map, List.length_take, List.length_drop, reachBytes] at hn
    have e1 : len0 = (zs.take len0).length := by simp; omega
    refine ⟨some x, cap0, zs.take len0, by rw [← e1], by omega, by omega, fun y hy => ?_, fun i hi => ?_⟩
    · have := hwz y (List.mem_of_mem_take hy)
      simpa [Lit.wf, IntKind.min, IntKind.max, IntKind.signed, IntKind.bits] using this
    · obtain ⟨b, off, rfl, hc'⟩ := ints_at hcell (by omega)
      refine ⟨b, off, rfl, ?_⟩
      rw [hc' i (by omega)]
      have : i < len0 := by omega
      simp [this]
/-- A call of a script. -/
structure Ac where
  kind : Int
  id : Int
  at_ : Int
theorem list_of {α : Type} {P : Nat → α → Prop} : ∀ m, (∀ i, i < m → ∃ q, P i q) → ∃ l : List α, l.length = m ∧ ∀ (i : Nat) (q : α), l[i]? = some q → P i q
  | 0, _ => ⟨[], rfl, fun i q h => by simp at h⟩
  | m + 1, h => by
    obtain ⟨l, h1, h2⟩ := list_of m (fun i hi => h i (by omega))
    obtain ⟨q, hq⟩ := h m (by omega)
    refine ⟨l ++ [q], by simp [h1], fun i q' hi => ?_⟩
    rcases Nat.lt_or_ge i m with x | x
    · rw [List.getElem?_append_left (by omega)] at hi
      exact h2 i q' hi
    · have hl := (List.getElem?_eq_some_iff.1 hi).1
      simp [h1] at hl
      have : i = m := by omega
      subst this
      rw [List.getElem?_append_right (by omega)] at hi
      simp [h1] at hi
      rw [← hi]
      exact hq
/-- A slice of acts, as it is read. -/
structure RowA (w : World) (a : Option Addr) (l : List Ac) : Prop where
  ok : ∀ q ∈ l, In64 q.kind ∧ In64 q.id ∧ In64 q.at_
  cells : ∀ (i : Nat) (q : Ac), l[i]? = some q → ∃ b off, a = some ⟨b, off, none⟩ ∧ b < w.heap.size ∧ w.cell? ⟨b, off + i * 3, none⟩ = some (.int .i64 q.kind) ∧ w.cell? ⟨b, off + i * 3 + 1, none⟩ = some (.int .i64 q.id) ∧ w.cell? ⟨b, off + i * 3 + 2, none⟩ = some (.int .i64 q.at_)
theorem RowA.below {w w' : World} {a : Option Addr} {l : List Ac} (h : RowA w a l) (hb : Below w.heap.size w w') : RowA w' a l :=
  ⟨h.ok, fun i q hq => by
    obtain ⟨b, off, ha, hl, h0, h1, h2⟩ := h.cells i q hq
    exact ⟨b, off, ha, Nat.lt_of_lt_of_le hl hb.size, (hb.cell hl).trans h0, (hb.cell hl).trans h1, (hb.cell hl).trans h2⟩⟩
theorem open_acts {H : Type} {enc : TypeId × Value → H} {W : World} {base : Nat} {v : Value} {d : DataW H} {p : List MemPlace}
    (hv : Value.okWide Try.prog W .any base 22 v) (h : DataW.Trod enc Try.prog W 0 (fun _ => true) true 22 v d p) (hsz : ∀ n ∈ d.weights Try.prog 22, n ≤ reachBytes) :
    ∃ (a : Option Addr) (cap : Nat) (l : List Ac), v = .slice a l.length cap ∧ l.length ≤ cap ∧ cap ≤ 17592186044416 ∧ RowA W a l := by
  obtain ⟨a0, len0, cap0, rfl⟩ := okWide_slice Try.underlying22 hv
  obtain ⟨fuel, hf⟩ := h
  rcases Deep.open_slice Try.underlying22 hf with ⟨hcs, _⟩ | ⟨x, l, c, m, n, D, Pl, hcs, _, hl, hm, hmm, hx, hcell⟩
  · simp [Value.cells] at hcs
    obtain ⟨rfl, rfl, rfl⟩ := hcs
    exact ⟨none, 0, [], rfl, Nat.le_refl _, by omega, by simp, fun i q h => by simp at h⟩
  · simp [Value.cells] at hcs
    obtain ⟨rfl, rfl, rfl⟩ := hcs
    simp only [if_true] at hmm
    subst hmm
    simp only [Prod.mk.injEq] at hx
    obtain ⟨rfl, _⟩ := hx
    have hbe : Program.bytesOf Try.prog 34 = 24 := by kernel_rfl
    have hce : Program.cellsOf Try.prog 34 = 3 := by kernel_rfl
    have hci : Program.cellsOf Try.prog 3 = 1 := by kernel_rfl
    have hn := hsz ((((List.range len0).map D).length + ((List.range (m - len0)).map fun j => D (len0 + j)).length) * 24) (by simp only [DataW.weights, Try.underlying22, hbe]; exact List.mem_cons_self ..)
    simp only [List.length_map, List.length_range, reachBytes] at hn
    have each : ∀ i, i < m → ∃ q : Ac, (In64 q.kind ∧ In64 q.id ∧ In64 q.at_) ∧ W.cell? ((x.add (i * 3)).add 0) = some (.int .i64 q.kind) ∧ W.cell? ((x.add (i * 3)).add 1) = some (.int .i64 q.id) ∧ W.cell? ((x.add (i * 3)).add 2) = some (.int .i64 q.at_) := by
      intro i hi
      obtain ⟨cs', h1, h2⟩ := hcell i hi
      rw [hce] at h1
      obtain ⟨_, hlen, hc⟩ := World.cells?_some h1
      obtain ⟨y0, y1, y2, n', _, _, g0, g1, g2⟩ := Deep.trod_struct3 Try.underlying34 h2
      match cs', hlen with
      | [u0, u1, u2], _ =>
        obtain ⟨k0, e0, _, w0⟩ := DataW.trod_int Try.underlying3 g0
        obtain ⟨k1, e1, _, w1⟩ := DataW.trod_int Try.underlying3 g1
        obtain ⟨k2, e2, _, w2⟩ := DataW.trod_int Try.underlying3 g2
        simp [hci] at e0 e1 e2
        subst e0 e1 e2
        refine ⟨⟨k0, k1, k2⟩, ⟨in64_of w0, in64_of w1, in64_of w2⟩, by simpa using hc 0 (by omega), by simpa using hc 1 (by omega), by simpa using hc 2 (by omega)⟩
    obtain ⟨l, hl1, hl2⟩ := list_of m each
    have e1 : len0 = (l.take len0).length := by simp; omega
    refine ⟨some x, m, l.take len0, by rw [← e1], by omega, by omega, fun q hq => ?_, fun i q hq => ?_⟩
    · obtain ⟨i, hi⟩ := List.mem_iff_getElem?.1 (List.mem_of_mem_take hq)
      exact (hl2 i q hi).1
    · rw [List.getElem?_take] at hq
      split at hq
      · obtain ⟨_, c0, c1, c2⟩ := hl2 i q hq
        obtain ⟨b, off, spot⟩ := x
        have hil : i < l.length := (List.getElem?_eq_some_iff.1 hq).1
        obtain ⟨q0, hq0⟩ : ∃ q0, l[0]? = some q0 := ⟨_, List.getElem?_eq_getElem (by omega)⟩
        have hspot : spot = none := by simpa [Addr.add] using World.cell?_spot (hl2 0 q0 hq0).2.1
        subst hspot
        rw [Go.WideShapes.add_plain, Go.WideShapes.add_plain] at c0 c1 c2
        exact ⟨b, off, rfl, World.block_lt_of_cell? W _ c0, c0, c1, c2⟩
      · cases hq
end Go.Proofs.Ytfcpjenlckkloaa
