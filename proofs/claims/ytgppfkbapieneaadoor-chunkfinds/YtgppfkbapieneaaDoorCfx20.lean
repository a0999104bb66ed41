/- Texts joined: CkJ -/
import Derived.Test.YtgppfkbapieneaaDoorCfx19
import Derived.Test.YtgppfkbapieneaaDoorShelf
import Derived.Sort.OwnSortedInts
namespace Go.Proofs.YtgppfkbapieneaaDoor
open Go.RowKit
set_option linter.unusedVariables false
set_option linter.unusedSimpArgs false
abbrev encP (p : Pt) : List Value := p.v.toList
theorem ord_less (x y : Pt) : ltOf ordP x y = x.less y := by
  unfold ltOf ordP
  cases h : x.less y
  · cases h' : y.less x <;> simp
  · simp
theorem less_tt {x y : Pt} : x.less y = true ↔ x.a < y.a ∨ x.a = y.a ∧ (x.b < y.b ∨ x.b = y.b ∧ x.c < y.c) := by
  simp only [Pt.less, Bool.or_eq_true, Bool.and_eq_true, decide_eq_true_eq, beq_iff_eq]
theorem less_ff {x y : Pt} : x.less y = false ↔ ¬ (x.a < y.a ∨ x.a = y.a ∧ (x.b < y.b ∨ x.b = y.b ∧ x.c < y.c)) := by
  rw [← less_tt]
  simp
theorem swoP : Sort.SWO (ltOf ordP) where
  irrefl x := by rw [ord_less, less_ff]; omega
  trans x y z h1 h2 := by rw [ord_less, less_tt] at *; omega
  ntrans x y z h1 h2 := by rw [ord_less, less_ff] at *; omega
instance : Inhabited Pt := ⟨pt0⟩
theorem flat_get (d : Array Pt) (i j : Nat) (hi : i < d.size) (hj : j < 3) : (Sort.flatK encP 3 d)[i * 3 + j]! = (d[i]!).v[j]! := by
  rw [Sort.get_flatK _ _ _ _ (by omega), show (i * 3 + j) / 3 = i by omega, show (i * 3 + j) % 3 = j by omega]
  simp [encP]
theorem heap_sortedP {w : World} {g n : Nat} {os : Array Obj} {cur : Array Value} {e : TypeId} (d : Array Pt) (hb : Blk w g e cur) :
    Blk (sortWorldK encP 3 w g 0 n d os) g e (Sort.putCells id 0 (Sort.flatK encP 3 d) cur) := by
  have hb' : w.heap[g]? = some (.cells cur e (0, 0)) := hb
  have hg : g < w.heap.size := hb.lt
  show (Sort.grow (Sort.putRow id (Sort.ahead w n) g 0 (Sort.flatK encP 3 d)) os).heap[g]? = _
  rw [Sort.heap_grow_old _ _ (by simpa using hg)]
  simp [Sort.putRow, Sort.mapBlock, Sort.ahead, Array.getElem?_modify, hb', Sort.onCells]
theorem grownBy_sortedP {w : World} {g n : Nat} {os : Array Obj} (d : Array Pt) : w.grownBy (sortWorldK encP 3 w g 0 n d os) (some g) := by
  show w.grownBy (Sort.grow (Sort.putRow id (Sort.ahead w n) g 0 (Sort.flatK encP 3 d)) os) (some g)
  refine ⟨rfl, rfl, rfl, by simp, fun k hk hne => ?_⟩
  rw [Sort.heap_grow_old _ _ (by simpa using hk)]
  have : g ≠ k := fun e => hne (by rw [e])
  simp [Sort.putRow, Sort.mapBlock, Sort.ahead, Array.getElem?_modify, this]
theorem cmpL (blk off size : Nat) (w : World) : CmpLays Tryd.prog 45 #[] encP 3 ordP blk off size w := fun m os dk hk x y => by
  have := order_any x y (sortWorldK encP 3 w blk off m dk os)
  exact this
theorem sort_pts (W : World) (B g c : Nat) (l : List Pt) (h : OwnP W B (some ⟨g, 0, none⟩) c l) (hB : B ≤ W.heap.size) (hok : ∀ p ∈ l, p.ok) (hll : l.length ≤ 1048576) :
    Calls Tryd.prog 63 #[.slice (some ⟨g, 0, none⟩) l.length c, .func (.func 45) #[] #[]] W fun e w' => e = .returned (.tuple #[]) ∧ ∃ l' : List Pt, l'.Perm l ∧ (l'.Pairwise fun p q => p.n ≤ q.n) ∧ OwnP w' B (some ⟨g, 0, none⟩) c l' ∧ Below B W w' := by
  obtain ⟨cur, hb, hs, hBg, hlc, hcm, hel⟩ := h.blk
  have hH : Sort.HoldsK encP 3 W g 0 l.toArray := fun t ht => by
    rw [Sort.size_flatK] at ht
    have hi : t / 3 < l.length := by simp at ht; omega
    have hq : l[t / 3]? = some l[t / 3] := List.getElem?_eq_getElem hi
    have h1 := hel (t / 3) _ (t % 3) hq (by omega)
    rw [show t / 3 * 3 + t % 3 = t by omega] at h1
    have h2 := flat_get l.toArray (t / 3) (t % 3) (by simpa using hi) (by omega)
    rw [show t / 3 * 3 + t % 3 = t by omega] at h2
    rw [Nat.zero_add, h2]
    have e1 : l.toArray[t / 3]! = l[t / 3] := by rw [getElem!_pos _ _ (by simpa using hi)]; simp
    rw [e1]
    refine ⟨?_, hb.frozen t⟩
    refine hb.cell t _ ?_
    rw [h1]
    rw [getElem!_pos _ _ (by show t % 3 < 3; omega)]
    exact Array.getElem?_eq_getElem _
  have K := Tryd.slices_SortFunc_Pt encP (fun _ => rfl) ptv_one ordP swoP 45 #[] g 0 c l.toArray W Tryd.call45 (cmpL g 0 _ W) hH hb.lt (by simp; omega)
  rw [show l.toArray.size = l.length by simp] at K
  refine Calls.mono K ?_
  rintro e w' ⟨rfl, d', n, os, hp, hso, rfl⟩
  have hsz : d'.size = l.length := by simpa using hp.1
  have hperm : d'.toList.Perm l := by
    have h2 := hp.2.2
    have e1 : d'.extract 0 l.length = d' := by rw [← hsz]; simp
    have e2 : l.toArray.extract 0 l.length = l.toArray := by simp
    rw [e1, e2] at h2
    simpa using h2
  refine ⟨rfl, d'.toList, hperm, ?_, ?_, ?_⟩
  · rw [List.pairwise_iff_getElem]
    intro i j hi hj hij
    have hi' : i < d'.size := by simpa using hi
    have hj' : j < d'.size := by simpa using hj
    have := hso i j (Nat.zero_le _) hij (by omega)
    rw [ord_less, getElem!_pos d' i hi', getElem!_pos d' j hj'] at this
    have o1 := hok _ (hperm.mem_iff.1 (by simp : d'[i] ∈ d'.toList))
    have o2 := hok _ (hperm.mem_iff.1 (by simp : d'[j] ∈ d'.toList))
    have h3 := Pt.less_iff o2 o1
    simp only [Array.getElem_toList]
    rw [this] at h3
    have : ¬ d'[j].n < d'[i].n := fun x => by simpa using h3.2 x
    omega
  · refine OwnP.mk' (heap_sortedP d' hb) (by simp [Sort.putCells, hs]) hBg (by simpa [hsz] using hlc) hcm (fun i q j hi hj => ?_)
    have hi' : i < d'.size := by simpa using (List.getElem?_eq_some_iff.1 hi).1
    have hq : d'[i]! = q := by
      rw [getElem!_pos d' i hi']
      have := (List.getElem?_eq_some_iff.1 hi).2
      simpa using this
    have hF := flat_get d' i j hi' hj
    have hlt : i * 3 + j < cur.size := by omega
    have hlt' : i * 3 + j < 0 + (Sort.flatK encP 3 d').size := by rw [Sort.size_flatK]; omega
    rw [hq] at hF
    have : (Sort.putCells id 0 (Sort.flatK encP 3 d') cur)[i * 3 + j]? = some (Sort.flatK encP 3 d')[i * 3 + j]! := by
      unfold Sort.putCells
      rw [Array.getElem?_mapIdx, Array.getElem?_eq_getElem hlt]
      simp only [Option.map_some, id]
      rw [if_pos ⟨Nat.zero_le _, hlt'⟩, Nat.sub_zero]
    rw [this, hF, getElem!_pos _ _ (by show j < 3; exact hj)]
    exact (Array.getElem?_eq_getElem _).symm
  · exact (Below.refl _ _).grown (grownBy_sortedP d') hB (fun k hk => by cases hk; exact hBg)
end Go.Proofs.YtgppfkbapieneaaDoor
