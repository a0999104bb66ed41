/- Texts joined: Ip6E Arg6 Arg8 -/
import Derived.Test.YtebdpiedgjdjeaaFga8
import Derived.Deep.RegionHeld3
namespace Go.Proofs.Ytebdpiedgjdjeaa
open Go.RowKit
set_option linter.unusedVariables false
set_option linter.unusedSimpArgs false
/-- A slice of ints, as it is read. -/
structure RowI (w : World) (a : Option Addr) (l : List Int) : Prop where
  small : l.length ≤ 17592186044416
  cells : 0 < l.length → ∃ b off, a = some ⟨b, off, none⟩ ∧ ∀ i, i < l.length → w.cell? ⟨b, off + i, none⟩ = some (.int .i64 (l.getD i 0))
theorem RowI.below {w w' : World} {a : Option Addr} {l : List Int} (h : RowI w a l) (hb : Below w.heap.size w w') : RowI w' a l :=
  ⟨h.small, fun hl => by
    obtain ⟨b, off, ha, hc⟩ := h.cells hl
    exact ⟨b, off, ha, fun i hi => (hb.cell (World.block_lt_of_cell? w _ (hc i hi))).trans (hc i hi)⟩⟩
theorem RowI.drewN {w : World} {a : Option Addr} {l : List Int} (h : RowI w a l) (n : Nat) : RowI (w.drewN n) a l := h.below (below_drewN (Below.refl _ _) n)
theorem RowI.alloc {w : World} {a : Option Addr} {l : List Int} (h : RowI w a l) (o : Obj) : RowI (w.alloc o) a l := h.below ((Below.refl _ _).alloc (Nat.le_refl _) o)
theorem RowI.none (w : World) (a : Option Addr) : RowI w a [] := ⟨by simp, fun h => by simp at h⟩
theorem OwnsI.row {w : World} {B : Nat} {a : Option Addr} {c : Nat} {l : List Int} (h : OwnsI w B (.slice a l.length c) l) (hs : l.length ≤ 17592186044416) : RowI w a l := by
  refine ⟨hs, fun hp => ?_⟩
  have h0 := h
  obtain ⟨h1, h2⟩ := h
  rcases h2 with ⟨h3, h4⟩ | ⟨g, cap, cur, h3, h4, h5, h6, h7, h8, h9⟩
  · omega
  · simp only [Value.slice.injEq] at h3
    obtain ⟨rfl, _, rfl⟩ := h3
    refine ⟨g, 0, rfl, fun i hi => ?_⟩
    have hc := World.ownsRow.cellAt (e := 3) (size := 1) h0 i (by omega)
    rw [Nat.zero_add, hc]
    simp [hi]
theorem OwnsI.below {w w' : World} {B : Nat} {v : Value} {l : List Int} (h : OwnsI w B v l) (hb : Below w.heap.size w w') : OwnsI w' B v l := by
  obtain ⟨h1, h2⟩ := h
  refine ⟨h1, ?_⟩
  rcases h2 with h2 | ⟨g, cap, cur, h3, h4, h5, h6⟩
  · exact .inl h2
  · exact .inr ⟨g, cap, cur, h3, h4, (hb.block g (Array.getElem?_eq_some_iff.1 h5).1).trans h5, h6⟩
theorem OwnsI.le {w : World} {B B' : Nat} {v : Value} {l : List Int} (h : B' ≤ B) (o : OwnsI w B v l) : OwnsI w B' v l := by
  obtain ⟨h1, h2⟩ := o
  refine ⟨h1, ?_⟩
  rcases h2 with h2 | ⟨g, cap, cur, h3, h4, h5⟩
  · exact .inl h2
  · exact .inr ⟨g, cap, cur, h3, Nat.le_trans h h4, h5⟩
set_option maxRecDepth 100000 in
theorem eq_nil (a : Option Addr) (n c : Nat) (w : World) : (binOp .eql 40 (.slice a n c) (.slice none 0 0)).run Try.prog w = .ok (.bool a.isNone) w := by
  cases a <;> rfl
set_option maxHeartbeats 1000000 in
theorem clone_any (a : Option Addr) (c : Nat) (l : List Int) (w : World) (h : Row w a l) (hnil : a = none → c = 0) :
    Calls Try.prog 32 #[.slice a l.length c] w fun e w' => ∃ a' c', e = .returned (.slice a' l.length c') ∧ Fresh w w' a' c' l := by
  cases a with
  | none =>
    have hl : l = [] := by
      cases l with
      | nil => rfl
      | cons y l => obtain ⟨b, off, hh, _⟩ := h.cells (by simp); cases hh
    subst hl
    have hc0 := hnil rfl
    subst hc0
    have hq := eq_nil none 0 0 w
    go_enter Try.func32, Try.ntmps32
    go_wp2
    go_ret
    exact ⟨none, 0, rfl, Owns.nil _ _, Nat.le_refl _, fun _ => rfl, h, Below.refl _ _⟩
  | some x =>
    have o1 : Owns (w.alloc (.cells #[] 5)) w.heap.size (.slice (some ⟨w.heap.size, 0, none⟩) 0 0) [] := owns_new (l := []) (Nat.le_refl _) (by simp) (World.heap_new w _)
    have b1 : Below w.heap.size w (w.alloc (.cells #[] 5)) := (Below.refl _ _).alloc (Nat.le_refl _) _
    have r1 := h.alloc (.cells #[] 5)
    have hs := h.small
    have hq := eq_nil (some x) l.length c w
    go_enter Try.func32, Try.ntmps32
    go_wp2_with (at_builtin; refine wpList_app2 _ rfl _ _ rfl w.heap.size _ [] rfl o1 (M.Bytes.of (by decide)) _ c l rfl r1 (fun e => by cases e) l (List.nil_append l) (by omega) (by simp) ?_)
    intro a4 c4 w4 o4 hc4 hn4 r4 b4 _
    go_wp2
    go_ret
    exact ⟨a4, c4, rfl, o4, hc4, hn4, r4, b1.trans b4⟩
/-- What Walk answers. -/
def wS (nx : Int) (l : List Int) : St := if (wend (st0 nx l true)).1 = 0 then (wend (st0 nx l true)).2 else st0 0 [] true
def wE (nx : Int) (l : List Int) : Int := (wend (st0 nx l true)).1
end Go.Proofs.Ytebdpiedgjdjeaa
namespace Go.Proofs.Ytebdpiedgjdjeaa
open Go.ChangeShapes Go.WideShapes Go.ChangeAt Go.RowKit
set_option linter.unusedVariables false
set_option linter.unusedSimpArgs false
set_option linter.constructorNameAsVariable false
set_option maxRecDepth 100000
theorem rowI_of_ints {w : World} {x : Addr} {len : Nat} {zs : List Int} (hr : zs.length ≤ 17592186044416)
    (hc : ∀ i, i < zs.length → w.cell? (x.add i) = some (.int .i64 (zs.getD i 0))) : RowI w (some x) (zs.take len) := by
  have hle : (zs.take len).length ≤ zs.length := List.length_take_le' _ _
  refine ⟨by omega, fun hp => ?_⟩
  obtain ⟨b, off, rfl, hc'⟩ := ints_at hc (by omega)
  refine ⟨b, off, rfl, fun i hi => ?_⟩
  rw [hc' i (by omega)]
  have : i < len := by simp at hi; omega
  simp [this]
theorem ints_cells6 {H : Type} {enc : TypeId × Value → H} {W : World} {fuel : Nat} {cs : List Value} {y : DataW H × List MemPlace} (hf : DataW.trod enc Try.prog W 0 (fun _ => true) true fuel 39 cs = some y)
    (hsz : ∀ n ∈ y.1.weights Try.prog 39, n ≤ reachBytes) :
    ∃ (a : Option Addr) (cap : Nat) (l : List Int), cs = [.slice a l.length cap] ∧ l.length ≤ cap ∧ (a = none → cap = 0) ∧ RowI W a l := by
  have hbe : Try.prog.bytesOf 3 = 8 := by kernel_rfl
  rcases open_ints Try.underlying39 Try.underlying3 (by kernel_rfl) hf with ⟨hcs, _⟩ | ⟨x, l, c, zs, hcs, _, hl, hm, hz, hx, hcell, hwz⟩
  · exact ⟨none, 0, [], hcs, Nat.le_refl _, fun _ => rfl, ⟨by simp, fun h => by simp at h⟩⟩
  · simp only [if_true] at hz
    subst hx
    have hn := hsz (((lits .i64 (zs.take l)).length + (lits (H := H) .i64 (zs.drop l)).length) * 8) (by simp only [DataW.weights, Try.underlying39, hbe]; exact List.mem_cons_self ..)
    simp only [lits, List.length_map, List.length_take, List.length_drop, reachBytes] at hn
    have e1 : l = (zs.take l).length := by simp; omega
    exact ⟨some x, c, zs.take l, by rw [← e1]; exact hcs, by omega, fun h => (by cases h), rowI_of_ints (by omega) hcell⟩
end Go.Proofs.Ytebdpiedgjdjeaa
namespace Go.Proofs.Ytebdpiedgjdjeaa
open Go.RowKit Go.ChangeShapes Go.WideShapes Go.ChangeAt
set_option linter.unusedVariables false
set_option linter.unusedSimpArgs false
theorem lst15 {cs : List Value} (h : cs.length = 15) : ∃ v0 v1 v2 v3 v4 v5 v6 v7 v8 v9 v10 v11 v12 v13 v14, cs = [v0, v1, v2, v3, v4, v5, v6, v7, v8, v9, v10, v11, v12, v13, v14] := by
  match cs, h with
  | [v0, v1, v2, v3, v4, v5, v6, v7, v8, v9, v10, v11, v12, v13, v14], _ => exact ⟨v0, v1, v2, v3, v4, v5, v6, v7, v8, v9, v10, v11, v12, v13, v14, rfl⟩
end Go.Proofs.Ytebdpiedgjdjeaa
