/- Texts joined: FtpOwnWalk -/
import Derived.Test.YtnadfacbfcdkgaaDoorFsa0
import Derived.Test.YtnadfacbfcdkgaaDoorFsa1
import Derived.Test.YtnadfacbfcdkgaaDoorFsa2
import Derived.Test.YtnadfacbfcdkgaaDoorFsa3
import Derived.Test.YtnadfacbfcdkgaaDoorFsa4
import Derived.Test.YtnadfacbfcdkgaaDoorFsa5
import Derived.Test.YtnadfacbfcdkgaaDoorFsa6
import Derived.Test.YtnadfacbfcdkgaaDoorFsa7
import Derived.Test.YtnadfacbfcdkgaaDoorFsa8
import Derived.Test.YtnadfacbfcdkgaaDoorFsa9
import Derived.Test.YtnadfacbfcdkgaaDoorFsa10
import Derived.Test.YtnadfacbfcdkgaaDoorFsa11
import Derived.Test.YtnadfacbfcdkgaaDoorFsa12
import Derived.Test.YtnadfacbfcdkgaaDoorFsa13
import Derived.Test.YtnadfacbfcdkgaaDoorFsa14
import Derived.Test.YtnadfacbfcdkgaaDoorFsa15
import Derived.Test.YtnadfacbfcdkgaaDoorFsa16
import Derived.Test.YtnadfacbfcdkgaaDoorFsa17
import Derived.Test.YtnadfacbfcdkgaaDoorFsa18
import Derived.Test.YtnadfacbfcdkgaaDoorFsa19
import Derived.Test.YtnadfacbfcdkgaaDoorFsa20
import Derived.Test.YtnadfacbfcdkgaaDoorFsa21
import Derived.Test.YtnadfacbfcdkgaaDoorFsa22
import Derived.Test.YtnadfacbfcdkgaaDoorFsa23
import Derived.Test.YtnadfacbfcdkgaaDoorFsa24
import Derived.Test.YtnadfacbfcdkgaaDoorFsa25
import Derived.Test.YtnadfacbfcdkgaaDoorFsa26
import Derived.Test.YtnadfacbfcdkgaaDoorFsa27
import Derived.Test.YtnadfacbfcdkgaaDoorFsa28
import Derived.Test.YtnadfacbfcdkgaaDoorFsa29
import Derived.Test.YtnadfacbfcdkgaaDoorFsa30
import Derived.Test.YtnadfacbfcdkgaaDoorFsa31
import Derived.Test.YtnadfacbfcdkgaaDoorFsa32
import Derived.Test.YtnadfacbfcdkgaaDoorFsa33
import Derived.Test.YtnadfacbfcdkgaaDoorFsa34
import Derived.Test.YtnadfacbfcdkgaaDoorFsa35
import Derived.Test.YtnadfacbfcdkgaaDoorFsa36
import Derived.Test.YtnadfacbfcdkgaaDoorFsa37
import Derived.Test.YtnadfacbfcdkgaaDoorFsa38
import Derived.Test.YtnadfacbfcdkgaaDoorFsa39
import Derived.Test.YtnadfacbfcdkgaaDoorFsb1
import Derived.Lib.SlBytesConst
import Derived.Deep.WholeRow
import Derived.BigRegion
import Derived.Deep.RegionHeld3
import Derived.Laws.BytesArg
import Derived.Laws.MakeOwn
import Derived.Deep.QuietTactic
import Derived.BigQuiet
import Derived.Test.YtnadfacbfcdkgaaDoorRows
import Derived.WalkKit
import Derived.Laws.BitsAllLaws
import Derived.Laws.BitsLemmas
import Derived.Laws.Bits128
import Derived.Laws.AppendOwn
import Derived.Laws.AppendOwnNone
import Derived.Laws.OwnMore
import Derived.OwnWalk
import Derived.KernelRfl
import Derived.Below
import Derived.Deep.Draws
import Derived.Laws.World
import Derived.Laws.Shifts
import Derived.Laws.ShiftsVarLaws
import Derived.Laws.StructEq
import Derived.Deep.RegionWith
import Derived.Deep.DeepCutAuto
import Derived.Lib.OthersKept
import Derived.Lib.DecodeN
import Derived.Deep.Onto
import Derived.WalkSmall
import Derived.Test.YtnadfacbfcdkgaaDoorShelf
import Derived.Lib.Split
import Derived.Laws.Runes
import Derived.Laws.RangeString
import Derived.Laws.RangeAny
import Derived.LoopTactic
import Derived.Lib.SmallJoins
import Derived.Lib.AppendIntMem
import Derived.Lib.Join
import Derived.Maps.Ext
import Derived.RegionTactic
import Derived.Deep.AppendLies
namespace Go.Proofs.YtnadfacbfcdkgaaDoor
open Go.RowKit
set_option linter.unusedVariables false
set_option linter.unusedSimpArgs false
theorem OwnsS.blk {w : World} {B c : Nat} {a : Option Addr} {l : List ByteArray} (h : OwnsS w B (.slice a l.length c) l) (hp : 0 < l.length) : ∃ g cur, a = some ⟨g, 0, none⟩ ∧ Blk w g 9 cur ∧ B ≤ g ∧ l.length ≤ cur.size := by
  obtain ⟨h1, h2⟩ := h
  rcases h2 with ⟨h3, h4⟩ | ⟨g', cap, cur, h3, h4, h5, h6, h7, h8, h9⟩
  · omega
  · simp only [Value.slice.injEq] at h3
    obtain ⟨rfl, _, rfl⟩ := h3
    refine ⟨g', cur, rfl, h5, h4, ?_⟩
    omega
theorem OwnAs.blk' {w : World} {B c : Nat} {a : Option Addr} {l : List As} (h : OwnAs w B a c l) (hp : 0 < l.length) : ∃ g cur, a = some ⟨g, 0, none⟩ ∧ Blk w g 32 cur ∧ B ≤ g ∧ l.length * 5 ≤ cur.size := by
  cases a with
  | none =>
    obtain ⟨h1, h2⟩ := h
    rcases h2 with ⟨h3, h4⟩ | ⟨g', cap, cur, h3, h4, h5, h6, h7, h8, h9⟩
    · omega
    · cases h3
  | some x =>
    have hx : ∃ g, x = ⟨g, 0, none⟩ := by
      obtain ⟨h1, h2⟩ := h
      rcases h2 with ⟨h3, h4⟩ | ⟨g', cap, cur, h3, h4, h5, h6, h7, h8, h9⟩
      · cases h3
      · simp only [Value.slice.injEq, Option.some.injEq] at h3
        exact ⟨g', h3.1⟩
    obtain ⟨g, rfl⟩ := hx
    obtain ⟨cur, h1, h2, h3, h4, _⟩ := h.blk
    exact ⟨g, cur, rfl, h1, h3, by omega⟩
theorem setMany_size : ∀ (vs : List Value) (cur : Array Value) (j : Nat), (setMany cur j vs).size = cur.size
  | [], _, _ => rfl
  | v :: vs, cur, j => by
    unfold setMany
    rw [setMany_size vs]
    simp
set_option maxRecDepth 100000 in
set_option maxHeartbeats 4000000 in
theorem ftpOwn_walk (a : Option Addr) (c : Nat) (l : List Int) (w : World) (m : Int) (hlc : l.length ≤ c) (hr : Row w a l) (hl : l.length ≤ 1048576) (hm : w.cell? ⟨0, 0, none⟩ = some (.int .i64 m)) :
    Calls Tryd.prog 9 #[.slice a l.length c] w fun e w' => e = .returned (.bool true) ∧ Below w.heap.size w w' := by
  have M : Mx m w := ⟨hm⟩
  have HCV : Hid (∀ W, Below w.heap.size w W → (convert 22 9 (.slice a l.length c)).run Tryd.prog W = .ok (.string (strOfNums l)) W) := fun W hW => conv_row (hr.below hW) c
  have HL : Hid (∀ W, Below w.heap.size w W → Calls Tryd.prog 11 #[.slice a l.length c] W fun e w' => ∃ a' k xs, e = .returned (.slice a' xs.length k) ∧ GotL W W.heap.size (lnF (strOfNums l).data.toList) w' a' k xs) := fun W hW => lines_ft a c l W (hr.below hW) (by omega)
  have HRL : Hid (∀ W, Below w.heap.size w W → Calls Tryd.prog 12 #[.slice a l.length c] W fun e w' => ∃ a' k xs, e = .returned (.slice a' xs.length k) ∧ GotL W W.heap.size (lnF (strOfNums l).data.toList) w' a' k xs) := fun W hW => rlines_ft a c l W (hr.below hW) hlc (by omega)
  have HA : Hid (∀ W, Below w.heap.size w W → Calls Tryd.prog 17 #[.int .i64 4, .int .i64 0, .slice a l.length c] W fun e w' => ∃ a' k, e = .returned (.slice a' (asF 4 0 (strOfNums l).data.toList).length k) ∧ GotA W (asF 4 0 (strOfNums l).data.toList) w' a' k) := fun W hW => asks_ft 4 0 a c l W m (M.kept hW) (hr.below hW) (by omega)
  have HRA : Hid (∀ W, Below w.heap.size w W → Calls Tryd.prog 18 #[.int .i64 4, .int .i64 0, .slice a l.length c] W fun e w' => ∃ a' k, e = .returned (.slice a' (asF 4 0 (strOfNums l).data.toList).length k) ∧ GotA W (asF 4 0 (strOfNums l).data.toList) w' a' k) := fun W hW => rasks_ft 4 0 a c l W (hr.below hW) hlc (by omega)
  have hlp := lnP_len (strOfNums l).data.toList [] false
  have hd : (strOfNums l).data.toList.length = l.length := by rw [strOfNums_data]; simp
  rw [hd] at hlp
  have hlp' : 2 * (lnF (strOfNums l).data.toList).length ≤ l.length + 1 := hlp
  have hT8 : (asF 4 0 (strOfNums l).data.toList).length ≤ 8 := fm_len _ _ 8
  generalize asF 4 0 (strOfNums l).data.toList = S at *
  generalize lnF (strOfNums l).data.toList = T at *
  generalize strOfNums l = z at *
  clear hd hlp hr hm
  have hcv0 := HCV.out w (Below.refl _ _)
  go_enter Tryd.func9, Tryd.ntmps9
  go_wp2_with fail
  refine Calls.mono (HL.out w (Below.refl _ _)) ?_
  rintro e W1 ⟨a1, k1, xs, rfl, g1⟩
  have own1 := g1.owns
  have b1 := g1.below
  have hxl : xs.length ≤ 1048576 := by have := congrArg List.length g1.parts; simp at this; omega
  clear g1 hcv0
  go_wp2
  go_loopw [14] (fun i w' => ∃ (k : Nat), i = .int .i64 k ∧ k ≤ xs.length ∧ Below w.heap.size w w' ∧ (0 < xs.length → ∃ g cur, a1 = some ⟨g, 0, none⟩ ∧ Blk w' g 9 cur ∧ w.heap.size ≤ g ∧ xs.length ≤ cur.size)) (fun i _ => xs.length - (intOf i).toNat)
  case atStart => exact ⟨0, rfl, Nat.zero_le _, b1, fun hp => own1.blk hp⟩
  case round =>
    obtain ⟨k, rfl, hk, br, hB⟩ := hrel
    clear own1 b1
    by_cases hlt : k < xs.length
    · obtain ⟨g, cur, rfl, hQ, hg, hsz⟩ := hB (by omega)
      have hk2 : k < cur.size := by omega
      have hc := hQ.cell k (cur[k]'hk2) (Array.getElem?_eq_getElem hk2)
      have hf := hQ.frozen k
      have hN0 : (cur.setIfInBounds k (.string ⟨#[]⟩)).size = cur.size := by simp
      have hQ2 : Hid (Blk (wr.setCell ⟨g, k, none⟩ (.string ⟨#[]⟩)) g 9 (cur.setIfInBounds k (.string ⟨#[]⟩))) := hQ.put k (.string ⟨#[]⟩)
      have hb2 : Hid (Below w.heap.size w (wr.setCell ⟨g, k, none⟩ (.string ⟨#[]⟩))) := br.setCell hg _
      have ilt : (k : Int) < (xs.length : Int) := by omega
      generalize cur[k] = u at hc
      generalize cur.setIfInBounds k (.string ⟨#[]⟩) = N at *
      have hsz2 : xs.length ≤ N.size := by omega
      have HF : Hid (xs.length ≤ N.size ∧ w.heap.size ≤ g) := ⟨hsz2, hg⟩
      clear hB br hQ hN0 hsz hsz2 hk2 hg hlp' hT8 HCV HL HRL HA HRA M hlc hl
      go_wp2
      exact ⟨⟨k + 1, int_eq (by omega), by omega, hb2.out, fun _ => ⟨g, _, rfl, hQ2.out, HF.out.2, HF.out.1⟩⟩, by simp [intOf]; omega⟩
    · have ilt : ¬ (k : Int) < (xs.length : Int) := by omega
      clear hB
      go_wp2_with fail
      refine Calls.mono (HA.out wr br) ?_
      rintro e W2 ⟨a2, k2, rfl, g2⟩
      have own2 := g2.owns
      have b2 := br.trans (g2.below.mono br.size)
      have zz := br.size
      clear g2
      go_wp2
      go_loopw [25] (fun i w' => ∃ (q : Nat), i = .int .i64 q ∧ q ≤ S.length ∧ Below w.heap.size w w' ∧ (0 < S.length → ∃ g cur, a2 = some ⟨g, 0, none⟩ ∧ Blk w' g 32 cur ∧ w.heap.size ≤ g ∧ S.length * 5 ≤ cur.size)) (fun i _ => S.length - (intOf i).toNat)
      case atStart => exact ⟨0, rfl, Nat.zero_le _, b2, fun hp => by obtain ⟨g, cur, h1, h2, h3, h4⟩ := own2.blk' hp; exact ⟨g, cur, h1, h2, by omega, h4⟩⟩
      case round =>
        obtain ⟨q, rfl, hq, br2, hB⟩ := hrel
        clear own2 b2
        by_cases hlq : q < S.length
        · obtain ⟨g, cur, rfl, hQ, hg, hsz⟩ := hB (by omega)
          have ilq : (q : Int) < (S.length : Int) := by omega
          obtain ⟨N, hN⟩ : ∃ N, setMany cur (q * 5) as0.v.toList = N := ⟨_, rfl⟩
          have hNs : N.size = cur.size := by rw [← hN]; exact setMany_size _ _ _
          obtain ⟨W3, hW3⟩ : ∃ W, wr.setRow g N = W := ⟨_, rfl⟩
          have hQ3 : Blk W3 g 32 N := hW3 ▸ hQ.set N
          have b3 : Below w.heap.size w W3 := hW3 ▸ below_setRow br2 hg N
          clear hB br2
          go_wp2_with (first | (refine wpList_store_off rfl 32 _ _ rfl g (q * 5) 32 as0.v cur N (by rfl) (by rfl) hQ (info_as _ _ _ _ _) (by show q * 5 + 5 ≤ cur.size; omega) (by simp [Value.oneCell']) hN ?_; rw [hW3]))
          exact ⟨⟨q + 1, int_eq (by omega), by omega, b3, fun _ => ⟨g, _, rfl, hQ3, hg, by omega⟩⟩, by simp [intOf]; omega⟩
        · have ilq : ¬ (q : Int) < (S.length : Int) := by omega
          clear hB
          have hcv1 := HCV.out wr br2
          go_wp2_with fail
          refine Calls.mono (HL.out wr br2) ?_
          rintro e W4 ⟨a4, k4, ts, rfl, g4⟩
          have b4 := br2.trans (g4.below.mono br2.size)
          go_wp2_with fail
          refine Calls.mono (HRL.out W4 b4) ?_
          rintro e W5 ⟨a5, k5, us, rfl, g5⟩
          have he : us = ts := texts_eq (g5.parts.trans g4.parts.symm)
          subst he
          have hul : us.length ≤ 4294967280 := by have := congrArg List.length g4.parts; simp at this; omega
          have r4 : RowS W5 a4 us := g4.owns.row.below g5.below
          have r5 : RowS W5 a5 us := g5.owns.row
          have b5 := b4.trans (g5.below.mono b4.size)
          clear g4 g5 hcv1 br2 b4
          go_wp2_with fail
          refine Calls.mono (same_ft us a4 a5 k4 k5 W5 hul r4 r5) ?_
          rintro e W6 ⟨rfl, bb6⟩
          have b6 := b5.trans (bb6.mono b5.size)
          clear r4 r5 bb6 b5
          go_wp2_with fail
          refine Calls.mono (HA.out W6 b6) ?_
          rintro e W7 ⟨a7, k7, rfl, g7⟩
          have b7 := b6.trans (g7.below.mono b6.size)
          go_wp2_with fail
          refine Calls.mono (HRA.out W7 b7) ?_
          rintro e W8 ⟨a8, k8, rfl, g8⟩
          have q7 := (g7.owns.below g8.below).rowN
          have q8 := g8.owns.rowN
          have b8 := b7.trans (g8.below.mono b7.size)
          clear g7 g8 b6 b7
          go_wp2_with fail
          refine Calls.mono (rsameA_ft S a7 a8 k7 k8 W8 (by omega) q7 q8) ?_
          rintro e W9 ⟨rfl, bb9⟩
          have b9 := b8.trans (bb9.mono b8.size)
          have M9 := M.kept b9
          clear q7 q8 bb9 b8
          go_wp2_with fail
          refine Calls.mono (alive_ft m W9 M9) ?_
          rintro e Wa ⟨rfl, bba⟩
          have ba := b9.trans (bba.mono b9.size)
          go_wp2
          go_ret
          exact ⟨rfl, ba⟩
end Go.Proofs.YtnadfacbfcdkgaaDoor
