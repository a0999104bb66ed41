/- Texts joined: Args CkZ RfM -/
import Derived.Test.YtcoldgpnkdallaaDoorRxa0
import Derived.Test.YtcoldgpnkdallaaDoorRxa1
import Derived.Test.YtcoldgpnkdallaaDoorRxa2
import Derived.Test.YtcoldgpnkdallaaDoorRxa3
import Derived.Test.YtcoldgpnkdallaaDoorRxa4
import Derived.Test.YtcoldgpnkdallaaDoorRxa5
import Derived.Test.YtcoldgpnkdallaaDoorRxa6
import Derived.Test.YtcoldgpnkdallaaDoorRxa7
import Derived.Test.YtcoldgpnkdallaaDoorRxa8
import Derived.Test.YtcoldgpnkdallaaDoorRxa9
import Derived.Test.YtcoldgpnkdallaaDoorRxa10
import Derived.Test.YtcoldgpnkdallaaDoorRxa11
import Derived.Test.YtcoldgpnkdallaaDoorRxa12
import Derived.Test.YtcoldgpnkdallaaDoorRxa13
import Derived.Test.YtcoldgpnkdallaaDoorRxa14
import Derived.Test.YtcoldgpnkdallaaDoorRxa15
import Derived.Test.YtcoldgpnkdallaaDoorRxa16
import Derived.Test.YtcoldgpnkdallaaDoorRxa17
import Derived.Test.YtcoldgpnkdallaaDoorRxa18
import Derived.Test.YtcoldgpnkdallaaDoorRxa19
import Derived.Test.YtcoldgpnkdallaaDoorRxa20
import Derived.Test.YtcoldgpnkdallaaDoorRxa21
import Derived.Test.YtcoldgpnkdallaaDoorRxa22
import Derived.Test.YtcoldgpnkdallaaDoorRxa23
import Derived.Test.YtcoldgpnkdallaaDoorRxa24
import Derived.Test.YtcoldgpnkdallaaDoorRxa25
import Derived.Test.YtcoldgpnkdallaaDoorRxa26
import Derived.Test.YtcoldgpnkdallaaDoorRxa27
import Derived.Test.YtcoldgpnkdallaaDoorRxa28
import Derived.Test.YtcoldgpnkdallaaDoorRxa29
import Derived.Test.YtcoldgpnkdallaaDoorRxa30
import Derived.Test.YtcoldgpnkdallaaDoorRxa31
import Derived.Test.YtcoldgpnkdallaaDoorRxa32
import Derived.Test.YtcoldgpnkdallaaDoorRxa33
import Derived.Test.YtcoldgpnkdallaaDoorRxa34
import Derived.Test.YtcoldgpnkdallaaDoorRxa35
import Derived.Test.YtcoldgpnkdallaaDoorRxa36
import Derived.Test.YtcoldgpnkdallaaDoorRxa37
import Derived.Test.YtcoldgpnkdallaaDoorRxa39
import Derived.Test.YtcoldgpnkdallaaDoorRxa41
import Derived.Test.YtcoldgpnkdallaaDoorRxc3
import Derived.ProofKit
import Derived.OpenShut
import Derived.SizedLaws
import Derived.Deep.Matrix
import Derived.Below
import Derived.Deep.Draws
import Derived.Laws.World
import Derived.Test.YtcoldgpnkdallaaDoorRows
import Derived.WalkKit
import Derived.Laws.BitsAllLaws
import Derived.Laws.BitsLemmas
import Derived.Laws.Bits128
import Derived.Lib.SmallJoins
import Derived.Deep.DeepHandedRow
import Derived.Deep.Slices
import Derived.Deep.Strs
import Derived.ChangeSame
import Derived.Deep.QuietTactic
import Derived.BigQuiet
import Derived.BigRegion
import Derived.Deep.RegionWith
import Derived.Deep.RegionHeld3
import Derived.Deep.AppendLies
import Derived.Test.YtcoldgpnkdallaaDoorShelf
import Derived.Sort.OwnSortedInts
import Derived.Deep.WholeRow
import Derived.Laws.BytesArg
import Derived.Laws.MakeOwn
import Derived.Laws.AppendOwn
import Derived.Laws.AppendOwnNone
import Derived.Laws.OwnMore
import Derived.OwnWalk
import Derived.KernelRfl
import Derived.Laws.Shifts
import Derived.Laws.ShiftsVarLaws
import Derived.Laws.StructEq
import Derived.Deep.DeepCutAuto
import Derived.Sort.Grow
import Derived.RegionTactic
import Derived.Lib.LaidTab
namespace Go.Proofs.YtcoldgpnkdallaaDoor
open Go.ChangeShapes Go.WideShapes Go.ChangeAt Go.RowKit
set_option linter.unusedVariables false
theorem weightsAll_mem {H : Type} {P : Program} {e : TypeId} {n : Nat} : ∀ {ds : List (DataW H)} {d : DataW H}, d ∈ ds → n ∈ d.weights P e → n ∈ DataW.weightsAll P e ds
  | d0 :: ds, d, hd, hn => by
    rw [DataW.weightsAll, List.mem_append]
    rcases List.mem_cons.1 hd with rfl | hd
    · exact Or.inl hn
    · exact Or.inr (weightsAll_mem hd hn)
end Go.Proofs.YtcoldgpnkdallaaDoor
namespace Go.Proofs.YtcoldgpnkdallaaDoor
open Go.RowKit Go.ChangeShapes Go.WideShapes Go.ChangeAt
set_option linter.unusedVariables false
set_option linter.unusedSimpArgs false
set_option linter.constructorNameAsVariable false
set_option maxRecDepth 100000 in
theorem pts_open {H : Type} {enc : TypeId × Value → H} {W : World} {fuel : Nat} {cs : List Value} {y : DataW H × List MemPlace} (hlen : cs.length = 1)
    (hf : DataW.trod enc Tryd.prog W 0 (fun _ => true) true fuel 61 cs = some y) (hsz : ∀ n ∈ y.1.weights Tryd.prog 61, n ≤ reachBytes) :
    ∃ (a : Option Addr) (cap : Nat) (l : List Pt), cs = [.slice a l.length cap] ∧ l.length ≤ 17592186044416 ∧ RowP W a l := by
  rcases Deep.open_slice Tryd.underlying61 hf with ⟨hcs, _⟩ | ⟨x, len0, c, m, n, D, Pl, hcs, _, hl, hm, hmm, hx, hcell⟩
  · exact ⟨none, 0, [], hcs, by simp, by simp, fun i q h => by simp at h⟩
  · simp only [if_true] at hmm
    subst hmm
    obtain ⟨y1, y2⟩ := y
    simp only [Prod.mk.injEq] at hx
    obtain ⟨rfl, _⟩ := hx
    have hbe : Program.bytesOf Tryd.prog 91 = 24 := by kernel_rfl
    have hce : Program.cellsOf Tryd.prog 91 = 3 := by kernel_rfl
    have hn := hsz ((((List.range len0).map D).length + ((List.range (m - len0)).map fun j => D (len0 + j)).length) * 24) (by simp only [DataW.weights, Tryd.underlying61, hbe]; exact List.mem_cons_self ..)
    simp only [List.length_map, List.length_range, reachBytes] at hn
    have each : ∀ i, i < len0 → ∃ q : Pt, q.ok ∧ ∀ j v, q.v[j]? = some v → W.cell? ((x.add (i * 3)).add j) = some v := by
      intro i hi
      obtain ⟨cs', h1, h2⟩ := hcell i (by omega)
      rw [hce] at h1
      obtain ⟨_, hlen, hc⟩ := World.cells?_some h1
      obtain ⟨qa, qb, qc, e, hq, _⟩ := pt_cells h2
      refine ⟨⟨qa, qb, qc⟩, hq, fun j v hj => ?_⟩
      have hj' : j < 3 := by
        have := (Array.getElem?_eq_some_iff.1 hj).1
        simpa using this
      have h3 := hc j (by omega)
      rw [h3, e]
      have : (Pt.v ⟨qa, qb, qc⟩).toList[j]? = some v := by simpa using hj
      exact this
    obtain ⟨l, hl1, hl2⟩ := list_of len0 each
    refine ⟨some x, m, l, by rw [hl1]; exact hcs, by omega, fun q hq => ?_, fun i q hq => ?_⟩
    · obtain ⟨i, hi⟩ := List.mem_iff_getElem?.1 hq
      exact (hl2 i q hi).1
    · obtain ⟨_, c0⟩ := hl2 i q hq
      obtain ⟨b, off, spot⟩ := x
      have hil : i < l.length := (List.getElem?_eq_some_iff.1 hq).1
      obtain ⟨q0, hq0⟩ : ∃ q0, l[0]? = some q0 := ⟨_, List.getElem?_eq_getElem (by omega)⟩
      have hspot : spot = none := by simpa [Addr.add] using World.cell?_spot ((hl2 0 q0 hq0).2 0 _ rfl)
      subst hspot
      refine ⟨b, off, rfl, ?_, fun j v hj => ?_⟩
      · have := c0 0 _ rfl
        rw [Go.WideShapes.add_plain, Go.WideShapes.add_plain] at this
        exact World.block_lt_of_cell? W _ this
      · have := c0 j v hj
        rw [Go.WideShapes.add_plain, Go.WideShapes.add_plain] at this
        exact this
theorem ints_put {W : World} {x : Addr} {z : List Int} {n : Nat} (hn : n ≤ z.length) (hc : ∀ i, i < n → W.cell? (x.add i) = some (.int .i64 (z.getD i 0))) (hs : n ≤ 17592186044416) : RowI W (some x) (z.take n) := by
  have e1 : (z.take n).length = n := by simp; omega
  refine ⟨by omega, fun hp => ?_⟩
  rw [e1] at hp ⊢
  obtain ⟨b, off, spot⟩ := x
  have hspot : spot = none := by simpa [Addr.add] using World.cell?_spot (hc 0 hp)
  subst hspot
  refine ⟨b, off, rfl, fun i hi => ?_⟩
  have := hc i hi
  rw [Go.WideShapes.add_plain] at this
  rw [this]
  simp [hi]
set_option maxRecDepth 100000 in
theorem ints_open {H : Type} {enc : TypeId × Value → H} {W : World} {fuel : Nat} {cs : List Value} {y : DataW H × List MemPlace}
    (hf : DataW.trod enc Tryd.prog W 0 (fun _ => true) true fuel 25 cs = some y) (hsz : ∀ n ∈ y.1.weights Tryd.prog 25, n ≤ reachBytes) :
    ∃ (a : Option Addr) (cap : Nat) (l : List Int), cs = [.slice a l.length cap] ∧ RowI W a l := by
  rcases ChangeShapes.open_ints Tryd.underlying25 Tryd.underlying3 (by kernel_rfl) hf with ⟨hcs, _⟩ | ⟨x, l, c, zs, hcs, _, hl, hm, hz, hx, hcell, hwz⟩
  · exact ⟨none, 0, [], hcs, ⟨by simp, fun h => by simp at h⟩⟩
  · simp only [if_true] at hz
    obtain ⟨y1, y2⟩ := y
    simp only [Prod.mk.injEq] at hx
    obtain ⟨rfl, _⟩ := hx
    have hbe : Program.bytesOf Tryd.prog 3 = 8 := by kernel_rfl
    have hn := hsz (((lits .i64 (zs.take l)).length + (lits (H := H) .i64 (zs.drop l)).length) * 8) (by simp only [DataW.weights, Tryd.underlying25, hbe]; exact List.mem_cons_self ..)
    simp only [lits, List.length_map, List.length_take, List.length_drop, reachBytes] at hn
    have e1 : (zs.take l).length = l := by simp; omega
    exact ⟨some x, c, zs.take l, by rw [e1]; exact hcs, ints_put (by omega) (fun i hi => hcell i (by omega)) (by omega)⟩
set_option maxRecDepth 100000 in
theorem sets_open {H : Type} {enc : TypeId × Value → H} {W : World} {fuel : Nat} {cs : List Value} {y : DataW H × List MemPlace}
    (hf : DataW.trod enc Tryd.prog W 0 (fun _ => true) true fuel 45 cs = some y) (hsz : ∀ n ∈ y.1.weights Tryd.prog 45, n ≤ reachBytes) :
    ∃ (a : Option Addr) (cap : Nat) (S : List (List Int)), cs = [.slice a S.length cap] ∧ RowS W a S := by
  rcases Go.Deep.open_int_rows Tryd.underlying45 Tryd.underlying25 Tryd.underlying3 (by kernel_rfl) (by kernel_rfl) hf with ⟨hcs, _⟩ | ⟨x, len, cap, A, L, C, Z, hcs, _, hl, hm, hx, hrow⟩
  · exact ⟨none, 0, [], hcs, ⟨by simp, fun i s h => by simp at h⟩⟩
  · obtain ⟨y1, y2⟩ := y
    simp only [Prod.mk.injEq] at hx
    obtain ⟨rfl, _⟩ := hx
    have hbe : Program.bytesOf Tryd.prog 25 = 24 := by kernel_rfl
    have hbi : Program.bytesOf Tryd.prog 3 = 8 := by kernel_rfl
    have hn := hsz _ (by simp only [DataW.weights, Tryd.underlying45]; exact List.mem_cons_self ..)
    simp only [List.length_map, List.length_range, reachBytes, hbe] at hn
    obtain ⟨S, hS⟩ : ∃ S : List (List Int), S = (List.range len).map fun r => (Z r).take (L r) := ⟨_, rfl⟩
    have hls : S.length = len := by rw [hS]; simp
    have hget : ∀ i s, S[i]? = some s → i < len ∧ s = (Z i).take (L i) := fun i s hi => by
      have h1 := (List.getElem?_eq_some_iff.1 hi).1
      rw [hls] at h1
      refine ⟨h1, ?_⟩
      rw [hS] at hi
      simp [h1] at hi
      exact hi.symm
    refine ⟨some x, cap, S, by rw [hls]; exact hcs, by omega, fun i s hs => ?_⟩
    obtain ⟨hi, rfl⟩ := hget i s hs
    obtain ⟨h1, h2, h3, h4, h5, h6, h7⟩ := hrow i (by omega)
    obtain ⟨b, off, spot⟩ := x
    have hspot : spot = none := by simpa [Addr.add] using World.cell?_spot (hrow 0 (by omega)).1
    subst hspot
    rw [Go.WideShapes.add_plain] at h1
    have e1 : ((Z i).take (L i)).length = L i := by simp; omega
    refine ⟨b, off, A i, C i, rfl, by rw [e1]; exact h1, ?_⟩
    cases ha : A i with
    | none =>
      have : C i = 0 := h6 ha
      have e2 : (Z i).take (L i) = [] := by rw [show L i = 0 by omega]; rfl
      rw [e2]
      exact ⟨by simp, fun h => by simp at h⟩
    | some a' =>
      have hw := hsz ((L i + (C i - L i)) * 8) (by
        simp only [DataW.weights, Tryd.underlying45]
        refine List.mem_cons_of_mem _ (List.mem_append_left _ (weightsAll_mem (d := Go.Deep.intRow .i64 (A i) (L i) (Z i)) (List.mem_map.2 ⟨i, List.mem_range.2 hi, rfl⟩) ?_))
        rw [ha]
        simp [Go.Deep.intRow, DataW.weights, Tryd.underlying25, hbi, lits, h4]
        left; omega)
      simp only [reachBytes] at hw
      exact ints_put (by omega) (fun c hc => (h7 a' ha).2 c (by omega)) (by omega)
set_option maxRecDepth 100000 in
theorem chunk_cells {H : Type} {enc : TypeId × Value → H} {W : World} {fuel : Nat} {cs : List Value} {y : DataW H × List MemPlace}
    (hf : DataW.trod enc Tryd.prog W 0 (fun _ => true) true fuel 63 cs = some y) (hsz : ∀ n ∈ y.1.weights Tryd.prog 63, n ≤ reachBytes) : ∃ x : ChR, cs = x.v.toList ∧ x.ok W := by
  obtain ⟨y0, y1, y2, k, hy, hl, h0, h1, h2⟩ := Go.Deep.trod_struct3 Tryd.underlying63 hf
  have cc : Tryd.prog.cellsOf 63 = 3 := by kernel_rfl
  have cP : Tryd.prog.cellsOf 61 = 1 := by kernel_rfl
  have cI : Tryd.prog.cellsOf 25 = 1 := by kernel_rfl
  have cS : Tryd.prog.cellsOf 45 = 1 := by kernel_rfl
  rw [cc] at hl
  obtain ⟨v0, v1, v2, rfl⟩ := lst3 hl
  simp only [cP, cI, cS, List.drop_zero, List.drop_succ_cons, List.take_succ_cons, List.take_zero] at h0 h1 h2
  obtain ⟨y_1, y_2⟩ := y
  simp only [Prod.mk.injEq] at hy
  obtain ⟨rfl, _⟩ := hy
  obtain ⟨a1, c1, L, e0, hs, r0⟩ := pts_open rfl h0 (fun n hn => hsz n (by
    simp only [DataW.weights, Tryd.underlying63]
    exact DataW.weights_mem_each (j := 0) (t := 61) rfl rfl n hn))
  obtain ⟨a2, c2, K, e1, r1⟩ := ints_open h1 (fun n hn => hsz n (by
    simp only [DataW.weights, Tryd.underlying63]
    exact DataW.weights_mem_each (j := 1) (t := 25) rfl rfl n hn))
  obtain ⟨a3, c3, S, e2, r2⟩ := sets_open h2 (fun n hn => hsz n (by
    simp only [DataW.weights, Tryd.underlying63]
    exact DataW.weights_mem_each (j := 2) (t := 45) rfl rfl n hn))
  obtain rfl := one_val e0
  obtain rfl := one_val e1
  obtain rfl := one_val e2
  exact ⟨⟨a1, c1, a2, c2, a3, c3, L, K, S⟩, rfl, hs, r0, r1, r2⟩
set_option maxRecDepth 100000 in
theorem cross_cells {H : Type} {enc : TypeId × Value → H} {W : World} {fuel : Nat} {cs : List Value} {y : DataW H × List MemPlace}
    (hf : DataW.trod enc Tryd.prog W 0 (fun _ => true) true fuel 47 cs = some y) (hsz : ∀ n ∈ y.1.weights Tryd.prog 47, n ≤ reachBytes) : ∃ x : CrR, cs = x.v.toList ∧ x.ok W := by
  obtain ⟨y0, y1, y2, k, hy, hl, h0, h1, h2⟩ := Go.Deep.trod_struct3 Tryd.underlying47 hf
  have cc : Tryd.prog.cellsOf 47 = 3 := by kernel_rfl
  have cP : Tryd.prog.cellsOf 3 = 1 := by kernel_rfl
  have cI : Tryd.prog.cellsOf 25 = 1 := by kernel_rfl
  have cS : Tryd.prog.cellsOf 45 = 1 := by kernel_rfl
  rw [cc] at hl
  obtain ⟨v0, v1, v2, rfl⟩ := lst3 hl
  simp only [cP, cI, cS, List.drop_zero, List.drop_succ_cons, List.take_succ_cons, List.take_zero] at h0 h1 h2
  obtain ⟨y_1, y_2⟩ := y
  simp only [Prod.mk.injEq] at hy
  obtain ⟨rfl, _⟩ := hy
  obtain ⟨f, e0, q0, w0⟩ := DataW.trod_int Tryd.underlying3 h0
  obtain ⟨a2, c2, K, e1, r1⟩ := ints_open h1 (fun n hn => hsz n (by
    simp only [DataW.weights, Tryd.underlying47]
    exact DataW.weights_mem_each (j := 1) (t := 25) rfl rfl n hn))
  obtain ⟨a3, c3, S, e2, r2⟩ := sets_open h2 (fun n hn => hsz n (by
    simp only [DataW.weights, Tryd.underlying47]
    exact DataW.weights_mem_each (j := 2) (t := 45) rfl rfl n hn))
  obtain rfl := one_val e0
  obtain rfl := one_val e1
  obtain rfl := one_val e2
  exact ⟨⟨f, a2, c2, a3, c3, K, S⟩, rfl, r1, r2⟩
theorem three_open {α : Type} {v : α → Array Value} (hv : ∀ x, (v x).size = 3) {ok : World → α → Prop} {W : World} {x : Addr} {len0 : Nat} (each : ∀ i, i < len0 → ∃ q : α, ok W q ∧ ∀ j u, (v q)[j]? = some u → W.cell? ((x.add (i * 3)).add j) = some u) : ∃ l : List α, l.length = len0 ∧ RowN 3 v ok W (some x) l := by
  obtain ⟨l, hl1, hl2⟩ := list_of len0 each
  refine ⟨l, hl1, fun q hq => ?_, fun i q hq => ?_⟩
  · obtain ⟨i, hi⟩ := List.mem_iff_getElem?.1 hq
    exact (hl2 i q hi).1
  · obtain ⟨_, c0⟩ := hl2 i q hq
    obtain ⟨b, off, spot⟩ := x
    have hil : i < l.length := (List.getElem?_eq_some_iff.1 hq).1
    obtain ⟨q0, hq0⟩ : ∃ q0, l[0]? = some q0 := ⟨_, List.getElem?_eq_getElem (by omega)⟩
    have g0 : ∀ q : α, (v q)[0]? = some ((v q)[0]'(by rw [hv]; omega)) := fun q => Array.getElem?_eq_getElem _
    have hspot : spot = none := by simpa [Addr.add] using World.cell?_spot ((hl2 0 q0 hq0).2 0 _ (g0 q0))
    subst hspot
    refine ⟨b, off, rfl, ?_, fun j u hj => ?_⟩
    · have := c0 0 _ (g0 q)
      rw [Go.WideShapes.add_plain, Go.WideShapes.add_plain] at this
      exact World.block_lt_of_cell? W _ this
    · have := c0 j u hj
      rw [Go.WideShapes.add_plain, Go.WideShapes.add_plain] at this
      exact this
set_option maxRecDepth 100000 in
theorem chunks_open {H : Type} {enc : TypeId × Value → H} {W : World} {fuel : Nat} {cs : List Value} {y : DataW H × List MemPlace}
    (hf : DataW.trod enc Tryd.prog W 0 (fun _ => true) true fuel 23 cs = some y) (hsz : ∀ n ∈ y.1.weights Tryd.prog 23, n ≤ reachBytes) :
    ∃ (a : Option Addr) (cap : Nat) (l : List ChR), cs = [.slice a l.length cap] ∧ l.length ≤ 17592186044416 ∧ RowD W a l := by
  rcases Deep.open_slice Tryd.underlying23 hf with ⟨hcs, _⟩ | ⟨x, len0, c, m, n, D, Pl, hcs, _, hl, hm, hmm, hx, hcell⟩
  · exact ⟨none, 0, [], hcs, by simp, fun q hq => (by cases hq), fun i q h => (by simp at h)⟩
  · simp only [if_true] at hmm
    subst hmm
    obtain ⟨y1, y2⟩ := y
    simp only [Prod.mk.injEq] at hx
    obtain ⟨rfl, _⟩ := hx
    have hbe : Program.bytesOf Tryd.prog 63 = 72 := by kernel_rfl
    have hce : Program.cellsOf Tryd.prog 63 = 3 := by kernel_rfl
    have hn := hsz ((((List.range len0).map D).length + ((List.range (m - len0)).map fun j => D (len0 + j)).length) * 72) (by simp only [DataW.weights, Tryd.underlying23, hbe]; exact List.mem_cons_self ..)
    simp only [List.length_map, List.length_range, reachBytes] at hn
    have each : ∀ i, i < len0 → ∃ q : ChR, q.ok W ∧ ∀ j u, q.v[j]? = some u → W.cell? ((x.add (i * 3)).add j) = some u := by
      intro i hi
      obtain ⟨cs', h1, h2⟩ := hcell i (by omega)
      rw [hce] at h1
      obtain ⟨_, hlen, hc⟩ := World.cells?_some h1
      obtain ⟨q, e, hq⟩ := chunk_cells h2 (fun n hn => hsz n (by
        simp only [DataW.weights, Tryd.underlying23]
        exact List.mem_cons_of_mem _ (List.mem_append_left _ (weightsAll_mem (d := D i) (List.mem_map.2 ⟨i, List.mem_range.2 hi, rfl⟩) hn))))
      refine ⟨q, hq, fun j u hj => ?_⟩
      have hj' : j < 3 := (Array.getElem?_eq_some_iff.1 hj).1
      have h3 := hc j (by omega)
      rw [h3, e]
      simpa using hj
    obtain ⟨l, hl1, hl2⟩ := three_open (v := ChR.v) (fun _ => rfl) (ok := ChR.ok) each
    exact ⟨some x, m, l, by rw [hl1]; exact hcs, by omega, hl2⟩
set_option maxRecDepth 100000 in
theorem crosses_open {H : Type} {enc : TypeId × Value → H} {W : World} {fuel : Nat} {cs : List Value} {y : DataW H × List MemPlace}
    (hf : DataW.trod enc Tryd.prog W 0 (fun _ => true) true fuel 24 cs = some y) (hsz : ∀ n ∈ y.1.weights Tryd.prog 24, n ≤ reachBytes) :
    ∃ (a : Option Addr) (cap : Nat) (l : List CrR), cs = [.slice a l.length cap] ∧ l.length ≤ 17592186044416 ∧ RowX W a l := by
  rcases Deep.open_slice Tryd.underlying24 hf with ⟨hcs, _⟩ | ⟨x, len0, c, m, n, D, Pl, hcs, _, hl, hm, hmm, hx, hcell⟩
  · exact ⟨none, 0, [], hcs, by simp, fun q hq => (by cases hq), fun i q h => (by simp at h)⟩
  · simp only [if_true] at hmm
    subst hmm
    obtain ⟨y1, y2⟩ := y
    simp only [Prod.mk.injEq] at hx
    obtain ⟨rfl, _⟩ := hx
    have hbe : Program.bytesOf Tryd.prog 47 = 56 := by kernel_rfl
    have hce : Program.cellsOf Tryd.prog 47 = 3 := by kernel_rfl
    have hn := hsz ((((List.range len0).map D).length + ((List.range (m - len0)).map fun j => D (len0 + j)).length) * 56) (by simp only [DataW.weights, Tryd.underlying24, hbe]; exact List.mem_cons_self ..)
    simp only [List.length_map, List.length_range, reachBytes] at hn
    have each : ∀ i, i < len0 → ∃ q : CrR, q.ok W ∧ ∀ j u, q.v[j]? = some u → W.cell? ((x.add (i * 3)).add j) = some u := by
      intro i hi
      obtain ⟨cs', h1, h2⟩ := hcell i (by omega)
      rw [hce] at h1
      obtain ⟨_, hlen, hc⟩ := World.cells?_some h1
      obtain ⟨q, e, hq⟩ := cross_cells h2 (fun n hn => hsz n (by
        simp only [DataW.weights, Tryd.underlying24]
        exact List.mem_cons_of_mem _ (List.mem_append_left _ (weightsAll_mem (d := D i) (List.mem_map.2 ⟨i, List.mem_range.2 hi, rfl⟩) hn))))
      refine ⟨q, hq, fun j u hj => ?_⟩
      have hj' : j < 3 := (Array.getElem?_eq_some_iff.1 hj).1
      have h3 := hc j (by omega)
      rw [h3, e]
      simpa using hj
    obtain ⟨l, hl1, hl2⟩ := three_open (v := CrR.v) (fun _ => rfl) (ok := CrR.ok) each
    exact ⟨some x, m, l, by rw [hl1]; exact hcs, by omega, hl2⟩
set_option maxRecDepth 100000 in
theorem open_tables {H : Type} {enc : TypeId × Value → H} {W : World} {base : Nat} {v : Value} {d : DataW H} {p : List MemPlace}
    (hv : Value.okWide Tryd.prog W .any base 27 v) (h : DataW.Trod enc Tryd.prog W 0 (fun _ => true) true 27 v d p) (hsz : ∀ n ∈ d.weights Tryd.prog 27, n ≤ reachBytes) :
    ∃ t : TR, v = .agg t.v ∧ t.ok W := by
  obtain ⟨cs, rfl, _⟩ := okWide_struct Tryd.underlying27 hv
  obtain ⟨fuel, hf⟩ := h
  obtain ⟨y0, y1, y2, k, hy, hl, h0, h1, h2⟩ := Go.Deep.trod_struct3 Tryd.underlying27 hf
  have cc : Tryd.prog.cellsOf 27 = 3 := by kernel_rfl
  have cP : Tryd.prog.cellsOf 23 = 1 := by kernel_rfl
  have cI : Tryd.prog.cellsOf 25 = 1 := by kernel_rfl
  have cS : Tryd.prog.cellsOf 24 = 1 := by kernel_rfl
  rw [cc] at hl
  simp only [Value.cells] at hl h0 h1 h2
  obtain ⟨v0, v1, v2, e⟩ := lst3 hl
  rw [e] at h0 h1 h2
  simp only [cP, cI, cS, List.drop_zero, List.drop_succ_cons, List.take_succ_cons, List.take_zero] at h0 h1 h2
  simp only [Prod.mk.injEq] at hy
  obtain ⟨rfl, _⟩ := hy
  obtain ⟨a1, c1, D, e0, hs0, r0⟩ := chunks_open h0 (fun n hn => hsz n (by
    simp only [DataW.weights, Tryd.underlying27]
    exact DataW.weights_mem_each (j := 0) (t := 23) rfl rfl n hn))
  obtain ⟨a2, c2, X, e1, hs1, r1⟩ := crosses_open h1 (fun n hn => hsz n (by
    simp only [DataW.weights, Tryd.underlying27]
    exact DataW.weights_mem_each (j := 1) (t := 24) rfl rfl n hn))
  obtain ⟨a3, c3, F, e2, r2⟩ := ints_open h2 (fun n hn => hsz n (by
    simp only [DataW.weights, Tryd.underlying27]
    exact DataW.weights_mem_each (j := 2) (t := 25) rfl rfl n hn))
  obtain rfl := one_val e0
  obtain rfl := one_val e1
  obtain rfl := one_val e2
  refine ⟨⟨a1, c1, D, a2, c2, X, a3, c3, F⟩, ?_, hs0, hs1, r0, r1, r2⟩
  congr 1
  exact Array.ext' e
end Go.Proofs.YtcoldgpnkdallaaDoor
