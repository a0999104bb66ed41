/- Texts joined: LkV -/
import Derived.Test.YtmfgjicfdjjihaaGreatDoorLxa0
import Derived.Test.YtmfgjicfdjjihaaGreatDoorLxa1
import Derived.Test.YtmfgjicfdjjihaaGreatDoorLxa2
import Derived.Test.YtmfgjicfdjjihaaGreatDoorLxa3
import Derived.Test.YtmfgjicfdjjihaaGreatDoorLxa4
import Derived.Test.YtmfgjicfdjjihaaGreatDoorLxa5
import Derived.Test.YtmfgjicfdjjihaaGreatDoorLxa6
import Derived.Test.YtmfgjicfdjjihaaGreatDoorLxa7
import Derived.Test.YtmfgjicfdjjihaaGreatDoorLxa8
import Derived.Test.YtmfgjicfdjjihaaGreatDoorLxa9
import Derived.Test.YtmfgjicfdjjihaaGreatDoorLxa10
import Derived.Test.YtmfgjicfdjjihaaGreatDoorLxa11
import Derived.Test.YtmfgjicfdjjihaaGreatDoorLxa12
import Derived.Test.YtmfgjicfdjjihaaGreatDoorLxa13
import Derived.Test.YtmfgjicfdjjihaaGreatDoorLxa14
import Derived.Test.YtmfgjicfdjjihaaGreatDoorLxa15
import Derived.Test.YtmfgjicfdjjihaaGreatDoorLxa16
import Derived.Test.YtmfgjicfdjjihaaGreatDoorLxa17
import Derived.Test.YtmfgjicfdjjihaaGreatDoorLxa18
import Derived.Test.YtmfgjicfdjjihaaGreatDoorLxa19
import Derived.Test.YtmfgjicfdjjihaaGreatDoorLxa20
import Derived.Test.YtmfgjicfdjjihaaGreatDoorLxa21
import Derived.Test.YtmfgjicfdjjihaaGreatDoorLxa22
import Derived.Test.YtmfgjicfdjjihaaGreatDoorLxa23
import Derived.Test.YtmfgjicfdjjihaaGreatDoorLxa24
import Derived.Test.YtmfgjicfdjjihaaGreatDoorLxa25
import Derived.Test.YtmfgjicfdjjihaaGreatDoorLxa26
import Derived.Test.YtmfgjicfdjjihaaGreatDoorLxa27
import Derived.Test.YtmfgjicfdjjihaaGreatDoorLxa28
import Derived.Test.YtmfgjicfdjjihaaGreatDoorLxa29
import Derived.Test.YtmfgjicfdjjihaaGreatDoorLxa30
import Derived.Test.YtmfgjicfdjjihaaGreatDoorLxa31
import Derived.Test.YtmfgjicfdjjihaaGreatDoorLxa32
import Derived.Test.YtmfgjicfdjjihaaGreatDoorLxa33
import Derived.Test.YtmfgjicfdjjihaaGreatDoorLxa34
import Derived.Test.YtmfgjicfdjjihaaGreatDoorLxa35
import Derived.Test.YtmfgjicfdjjihaaGreatDoorLxa36
import Derived.Test.YtmfgjicfdjjihaaGreatDoorLxa37
import Derived.Test.YtmfgjicfdjjihaaGreatDoorLxa38
import Derived.Test.YtmfgjicfdjjihaaGreatDoorLxa39
import Derived.Test.YtmfgjicfdjjihaaGreatDoorLxa40
import Derived.Test.YtmfgjicfdjjihaaGreatDoorLxa41
import Derived.Test.YtmfgjicfdjjihaaGreatDoorLxa42
import Derived.ProofKit
import Derived.OpenShut
import Derived.SizedLaws
import Derived.Deep.Matrix
import Derived.Below
import Derived.Deep.Draws
import Derived.Laws.World
import Derived.Test.YtmfgjicfdjjihaaGreatDoorRows
import Derived.WalkKit
import Derived.Laws.BitsAllLaws
import Derived.Laws.BitsLemmas
import Derived.Laws.Bits128
import Derived.Lib.SmallJoins
import Derived.Deep.DeepHandedRow
import Derived.Deep.Slices
import Derived.Deep.Strs
import Derived.ChangeSame
import Derived.Deep.WholeRow
import Derived.BigRegion
import Derived.Deep.RegionHeld3
import Derived.Laws.BytesArg
import Derived.Laws.MakeOwn
import Derived.Deep.QuietTactic
import Derived.BigQuiet
import Derived.Laws.AppendOwn
import Derived.Laws.AppendOwnNone
import Derived.Laws.OwnMore
import Derived.OwnWalk
import Derived.KernelRfl
import Derived.Laws.Shifts
import Derived.Laws.ShiftsVarLaws
import Derived.Laws.StructEq
import Derived.Deep.RegionWith
import Derived.Deep.DeepCutAuto
import Derived.RegionTactic
namespace Go.Proofs.YtmfgjicfdjjihaaGreatDoor
open Go.RowKit Go.ChangeShapes Go.WideShapes Go.ChangeAt
set_option linter.unusedVariables false
set_option linter.unusedSimpArgs false
set_option linter.constructorNameAsVariable false
/-- An act of the script. -/
structure Ac where
 sw : Bool
 bd : Bool
 ra : Option Addr
 rc : Nat
 R : List Rl
 k : Ky
abbrev Ac.v (x : Ac) : Array Value := #[.bool x.sw, .bool x.bd, .slice x.ra x.R.length x.rc, .int .i64 x.k.fr, .int .i64 x.k.tz, .int .i64 x.k.s.fam, .int .u64 x.k.s.hi, .int .u64 x.k.s.lo, .int .i64 x.k.d.fam, .int .u64 x.k.d.hi, .int .u64 x.k.d.lo, .int .i64 x.k.pr, .int .i64 x.k.sp, .int .i64 x.k.dp]
structure Ac.ok (w : World) (x : Ac) : Prop where
 r : RowR w x.ra x.R
 k : x.k.ok
theorem Ac.ok.low {w w' : World} {x : Ac} (h : x.ok w) (hb : Below w.heap.size w w') : x.ok w' := ⟨h.r.low hb, h.k⟩
abbrev RowA (w : World) (a : Option Addr) (l : List Ac) : Prop := RowN 14 Ac.v Ac.ok w a l
theorem RowA.low {w w' : World} {a : Option Addr} {l : List Ac} (h : RowA w a l) (hb : Below w.heap.size w w') : RowA w' a l := RowN.below (ok := Ac.ok) (fun {_ _ _} h b => h.low b) h hb
theorem many_open {α : Type} {K : Nat} (hK : 0 < K) {v : α → Array Value} (hv : ∀ x, (v x).size = K) {ok : World → α → Prop} {W : World} {x : Addr} {len0 : Nat} (each : ∀ i, i < len0 → ∃ q : α, ok W q ∧ ∀ j u, (v q)[j]? = some u → W.cell? ((x.add (i * K)).add j) = some u) : ∃ l : List α, l.length = len0 ∧ RowN K v ok W (some x) l := by
 obtain ⟨l, hl1, hl2⟩ := list_of len0 each
 refine ⟨l, hl1, fun q hq => ?_, fun i q hq => ?_⟩
 ·obtain ⟨i, hi⟩ := List.mem_iff_getElem?.1 hq
  exact (hl2 i q hi).1
 ·obtain ⟨_, c0⟩ := hl2 i q hq
  obtain ⟨b, off, spot⟩ := x
  have hil : i < l.length := (List.getElem?_eq_some_iff.1 hq).1
  obtain ⟨q0, hq0⟩ : ∃ q0, l[0]? = some q0 := ⟨_, List.getElem?_eq_getElem (by omega)⟩
  have g0 : ∀ q : α, (v q)[0]? = some ((v q)[0]'(by rw [hv]; omega)) := fun q => Array.getElem?_eq_getElem _
  have hspot : spot = none := by simpa [Addr.add] using World.cell?_spot ((hl2 0 q0 hq0).2 0 _ (g0 q0))
  subst hspot
  refine ⟨b, off, rfl, ?_, fun j u hj => ?_⟩
  ·have := c0 0 _ (g0 q)
   rw [Go.WideShapes.add_plain, Go.WideShapes.add_plain] at this
   exact World.block_lt_of_cell? W _ this
  ·have := c0 j u hj
   rw [Go.WideShapes.add_plain, Go.WideShapes.add_plain] at this
   exact this
set_option maxRecDepth 100000 in
theorem rules_open {H : Type} {enc : TypeId × Value → H} {W : World} {fuel : Nat} {cs : List Value} {y : DataW H × List MemPlace}
  (hf : DataW.trod enc Tryz.prog W 0 (fun _ => true) true fuel 40 cs = some y) :
  ∃ (a : Option Addr) (cap : Nat) (l : List Rl), cs = [.slice a l.length cap] ∧ RowR W a l := by
 rcases Deep.open_slice Tryz.underlying40 hf with ⟨hcs, _⟩ | ⟨x, len0, c, m, n, D, Pl, hcs, _, hl, hm, hmm, hx, hcell⟩
 ·exact ⟨none, 0, [], hcs, fun q hq => (by cases hq), fun i q h => (by simp at h)⟩
 ·simp only [if_true] at hmm
  subst hmm
  have hce : Program.cellsOf Tryz.prog 82 = 17 := by kernel_rfl
  have each : ∀ i, i < len0 → ∃ q : Rl, q.ok ∧ ∀ j u, q.v[j]? = some u → W.cell? ((x.add (i * 17)).add j) = some u := by
   intro i hi
   obtain ⟨cs', h1, h2⟩ := hcell i (by omega)
   rw [hce] at h1
   obtain ⟨_, hlen, hc⟩ := World.cells?_some h1
   obtain ⟨q, e, hq⟩ := rule_cells h2
   refine ⟨q, hq, fun j u hj => ?_⟩
   have hj' : j < 17 := (Array.getElem?_eq_some_iff.1 hj).1
   have h3 := hc j (by omega)
   rw [h3, e]
   simpa using hj
  obtain ⟨l, hl1, hl2⟩ := many_open (by decide : 0 < 17) (v := Rl.v) (fun _ => rfl) (ok := fun _ q => q.ok) each
  exact ⟨some x, m, l, by rw [hl1]; exact hcs, hl2⟩
theorem ls14 {cs : List Value} (h : cs.length = 14) : ∃ v0 v1 v2 v3 v4 v5 v6 v7 v8 v9 v10 v11 v12 v13, cs = [v0, v1, v2, v3, v4, v5, v6, v7, v8, v9, v10, v11, v12, v13] := by
 match cs, h with
 | [v0, v1, v2, v3, v4, v5, v6, v7, v8, v9, v10, v11, v12, v13], _ => exact ⟨v0, v1, v2, v3, v4, v5, v6, v7, v8, v9, v10, v11, v12, v13, rfl⟩
set_option maxRecDepth 100000 in
theorem act_cells {H : Type} {enc : TypeId × Value → H} {W : World} {fuel : Nat} {cs : List Value} {y : DataW H × List MemPlace} (hf0 : DataW.trod enc Tryz.prog W 0 (fun _ => true) true fuel 53 cs = some y) :
  ∃ q : Ac, cs = q.v.toList ∧ q.ok W := by
 have cc : Tryz.prog.cellsOf 53 = 14 := by kernel_rfl
 have cB : Tryz.prog.cellsOf 4 = 1 := by kernel_rfl
 have cR : Tryz.prog.cellsOf 40 = 1 := by kernel_rfl
 have cK : Tryz.prog.cellsOf 33 = 11 := by kernel_rfl
 obtain ⟨xs, n, _, hx, hl, hlen, hf⟩ := DataW.trod_struct Tryz.underlying53 hf0
 obtain ⟨v0, v1, v2, v3, v4, v5, v6, v7, v8, v9, v10, v11, v12, v13, rfl⟩ := ls14 (hl.trans cc)
 obtain ⟨y0, y1, y2, y3, rfl⟩ : ∃ y0 y1 y2 y3, xs = [y0, y1, y2, y3] := by
  match xs, hlen with
  | [y0, y1, y2, y3], _ => exact ⟨y0, y1, y2, y3, rfl⟩
 have h0 : DataW.trod enc Tryz.prog W 0 (fun _ => true) true n 4 ((([v0, v1, v2, v3, v4, v5, v6, v7, v8, v9, v10, v11, v12, v13] : List Value).drop 0).take (Tryz.prog.cellsOf 4)) = some y0 := hf 0 _ rfl
 have h1 : DataW.trod enc Tryz.prog W 0 (fun _ => true) true n 4 ((([v0, v1, v2, v3, v4, v5, v6, v7, v8, v9, v10, v11, v12, v13] : List Value).drop 1).take (Tryz.prog.cellsOf 4)) = some y1 := hf 1 _ rfl
 have h2 : DataW.trod enc Tryz.prog W 0 (fun _ => true) true n 40 ((([v0, v1, v2, v3, v4, v5, v6, v7, v8, v9, v10, v11, v12, v13] : List Value).drop 2).take (Tryz.prog.cellsOf 40)) = some y2 := hf 2 _ rfl
 have h3 : DataW.trod enc Tryz.prog W 0 (fun _ => true) true n 33 ((([v0, v1, v2, v3, v4, v5, v6, v7, v8, v9, v10, v11, v12, v13] : List Value).drop 3).take (Tryz.prog.cellsOf 33)) = some y3 := hf 3 _ rfl
 simp only [cB, cR, cK, List.drop_zero, List.drop_succ_cons, List.take_succ_cons, List.take_zero] at h0 h1 h2 h3
 obtain ⟨sw, e0, _⟩ := DataW.trod_bool Tryz.underlying4 h0
 obtain ⟨bd, e1, _⟩ := DataW.trod_bool Tryz.underlying4 h1
 obtain ⟨ra, rc, R, e2, hR⟩ := rules_open h2
 obtain ⟨k, e3, hk⟩ := key_cells h3
 obtain rfl := one_val e0
 obtain rfl := one_val e1
 obtain rfl := one_val e2
 have e3' : [v3, v4, v5, v6, v7, v8, v9, v10, v11, v12, v13] = [Value.int .i64 k.fr, .int .i64 k.tz, .int .i64 k.s.fam, .int .u64 k.s.hi, .int .u64 k.s.lo, .int .i64 k.d.fam, .int .u64 k.d.hi, .int .u64 k.d.lo, .int .i64 k.pr, .int .i64 k.sp, .int .i64 k.dp] := e3
 refine ⟨⟨sw, bd, ra, rc, R, k⟩, ?_, hR, hk⟩
 show _ = [Value.bool sw, .bool bd, .slice ra R.length rc, .int .i64 k.fr, .int .i64 k.tz, .int .i64 k.s.fam, .int .u64 k.s.hi, .int .u64 k.s.lo, .int .i64 k.d.fam, .int .u64 k.d.hi, .int .u64 k.d.lo, .int .i64 k.pr, .int .i64 k.sp, .int .i64 k.dp]
 rw [e3']
set_option maxRecDepth 100000 in
theorem open_acts_lk {H : Type} {enc : TypeId × Value → H} {W : World} {base : Nat} {v : Value} {d : DataW H} {p : List MemPlace}
  (hv : Value.okWide Tryz.prog W .any base 47 v) (h : DataW.Trod enc Tryz.prog W 0 (fun _ => true) true 47 v d p) (hsz : ∀ n ∈ d.weights Tryz.prog 47, n ≤ reachBytes) :
  ∃ (a : Option Addr) (cap : Nat) (l : List Ac), v = .slice a l.length cap ∧ l.length ≤ 17592186044416 ∧ RowA W a l := by
 obtain ⟨a0, len0, cap0, rfl⟩ := okWide_slice Tryz.underlying47 hv
 obtain ⟨fuel, hf⟩ := h
 rcases Deep.open_slice Tryz.underlying47 hf with ⟨hcs, _⟩ | ⟨x, len1, c, m, n, D, Pl, hcs, _, hl, hm, hmm, hx, hcell⟩
 ·simp [Value.cells] at hcs
  obtain ⟨rfl, rfl, rfl⟩ := hcs
  exact ⟨none, 0, [], rfl, by simp, fun q hq => (by cases hq), fun i q h => (by simp at h)⟩
 ·simp [Value.cells] at hcs
  obtain ⟨rfl, rfl, rfl⟩ := hcs
  simp only [if_true] at hmm
  subst hmm
  simp only [Prod.mk.injEq] at hx
  obtain ⟨rfl, _⟩ := hx
  have hbe : Program.bytesOf Tryz.prog 53 = 120 := by kernel_rfl
  have hce : Program.cellsOf Tryz.prog 53 = 14 := by kernel_rfl
  have hn := hsz ((((List.range len0).map D).length + ((List.range (m - len0)).map fun j => D (len0 + j)).length) * 120) (by simp only [DataW.weights, Tryz.underlying47, hbe]; exact List.mem_cons_self ..)
  simp only [List.length_map, List.length_range, reachBytes] at hn
  have each : ∀ i, i < len0 → ∃ q : Ac, q.ok W ∧ ∀ j u, q.v[j]? = some u → W.cell? ((x.add (i * 14)).add j) = some u := by
   intro i hi
   obtain ⟨cs', h1, h2⟩ := hcell i (by omega)
   rw [hce] at h1
   obtain ⟨_, hlen, hc⟩ := World.cells?_some h1
   obtain ⟨q, e, hq⟩ := act_cells h2
   refine ⟨q, hq, fun j u hj => ?_⟩
   have hj' : j < 14 := (Array.getElem?_eq_some_iff.1 hj).1
   have h3 := hc j (by omega)
   rw [h3, e]
   simpa using hj
  obtain ⟨l, hl1, hl2⟩ := many_open (by decide : 0 < 14) (v := Ac.v) (fun _ => rfl) (ok := Ac.ok) each
  exact ⟨some x, m, l, by rw [hl1], by omega, hl2⟩
end Go.Proofs.YtmfgjicfdjjihaaGreatDoor
