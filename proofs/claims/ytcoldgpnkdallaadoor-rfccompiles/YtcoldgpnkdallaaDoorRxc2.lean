/- Texts joined: FrU RfE ChunkCutsWalk RfJ -/
import Derived.Test.YtcoldgpnkdallaaDoorRxa0
import Derived.Test.YtcoldgpnkdallaaDoorRxa1
import Derived.Test.YtcoldgpnkdallaaDoorRxa2
import Derived.Test.YtcoldgpnkdallaaDoorRxa3
import Derived.Test.YtcoldgpnkdallaaDoorRxa4
import Derived.Test.YtcoldgpnkdallaaDoorRxa5
import Derived.Test.YtcoldgpnkdallaaDoorRxa6
import Derived.Test.YtcoldgpnkdallaaDoorRxa7
import Derived.Test.YtcoldgpnkdallaaDoorRxa8
import Derived.Test.YtcoldgpnkdallaaDoorRxa9
import Derived.Test.YtcoldgpnkdallaaDoorRxa10
import Derived.Test.YtcoldgpnkdallaaDoorRxa11
import Derived.Test.YtcoldgpnkdallaaDoorRxa12
import Derived.Test.YtcoldgpnkdallaaDoorRxa13
import Derived.Test.YtcoldgpnkdallaaDoorRxa14
import Derived.Test.YtcoldgpnkdallaaDoorRxa15
import Derived.Test.YtcoldgpnkdallaaDoorRxa16
import Derived.Test.YtcoldgpnkdallaaDoorRxa17
import Derived.Test.YtcoldgpnkdallaaDoorRxa18
import Derived.Test.YtcoldgpnkdallaaDoorRxa19
import Derived.Test.YtcoldgpnkdallaaDoorRxa20
import Derived.Test.YtcoldgpnkdallaaDoorRxa21
import Derived.Test.YtcoldgpnkdallaaDoorRxa22
import Derived.Test.YtcoldgpnkdallaaDoorRxa23
import Derived.Test.YtcoldgpnkdallaaDoorRxa24
import Derived.Test.YtcoldgpnkdallaaDoorRxa25
import Derived.Test.YtcoldgpnkdallaaDoorRxa26
import Derived.Test.YtcoldgpnkdallaaDoorRxa27
import Derived.Test.YtcoldgpnkdallaaDoorRxa28
import Derived.Test.YtcoldgpnkdallaaDoorRxa29
import Derived.Test.YtcoldgpnkdallaaDoorRxa30
import Derived.Test.YtcoldgpnkdallaaDoorRxa31
import Derived.Test.YtcoldgpnkdallaaDoorRxa32
import Derived.Test.YtcoldgpnkdallaaDoorRxa33
import Derived.Test.YtcoldgpnkdallaaDoorRxa34
import Derived.Test.YtcoldgpnkdallaaDoorRxa35
import Derived.Test.YtcoldgpnkdallaaDoorRxa36
import Derived.Test.YtcoldgpnkdallaaDoorRxa37
import Derived.Test.YtcoldgpnkdallaaDoorRxa39
import Derived.Test.YtcoldgpnkdallaaDoorRxa41
import Derived.Test.YtcoldgpnkdallaaDoorRxc1
import Derived.Laws.AppendOwnNone
import Derived.Test.YtcoldgpnkdallaaDoorShelf
import Derived.Sort.OwnSortedInts
import Derived.Deep.WholeRow
import Derived.BigRegion
import Derived.Deep.RegionHeld3
import Derived.Laws.BytesArg
import Derived.Laws.MakeOwn
import Derived.Deep.QuietTactic
import Derived.BigQuiet
import Derived.Test.YtcoldgpnkdallaaDoorRows
import Derived.WalkKit
import Derived.Laws.BitsAllLaws
import Derived.Laws.BitsLemmas
import Derived.Laws.Bits128
import Derived.Laws.AppendOwn
import Derived.Laws.OwnMore
import Derived.OwnWalk
import Derived.KernelRfl
import Derived.Below
import Derived.Deep.Draws
import Derived.Laws.World
import Derived.Laws.Shifts
import Derived.Laws.ShiftsVarLaws
import Derived.Laws.StructEq
import Derived.Deep.RegionWith
import Derived.Deep.DeepCutAuto
import Derived.Deep.AppendLies
import Derived.Sort.Grow
import Derived.RegionTactic
import Derived.Laws.Bits64b
namespace Go.Proofs.YtcoldgpnkdallaaDoor
open Go.RowKit
set_option linter.unusedVariables false
set_option linter.unusedSimpArgs false
theorem rlv_one (y : Rl) : ∀ u ∈ y.v.toList, u.oneCell' = true := by
  intro u hu
  simp only [List.mem_cons, List.not_mem_nil, or_false] at hu
  rcases hu with rfl | rfl | rfl | rfl | rfl | rfl | rfl | rfl | rfl | rfl | rfl | rfl | rfl | rfl | rfl | rfl | rfl <;> rfl
/-- append(v, x...) of rules. -/
theorem run_appRs (w : World) (ty : TypeId) (B : Nat) (a : Option Addr) (c : Nat) (xs : List Rl) (hown : OwnR w B a c xs) (b : Option Addr) (cc : Nat) (l : List Rl) (hrow : RowR w b l) (hnil : b = none → cc = 0)
    (hsum : (xs.length + l.length) * 136 ≤ 140737488355328) (hbase : B ≤ w.heap.size) :
    ∃ a' c' w', (Builtin.append_ #[22, 22] ty #[.slice a xs.length c, .slice b l.length cc]).run Tryd.prog w = .ok (.slice a' (xs ++ l).length c') w' ∧ OwnR w' B a' c' (xs ++ l) ∧ Below B w w' := by
  obtain ⟨i0, hi, hz0, hz1, hz2⟩ := info_parts info_rule
  cases b with
  | none =>
    have hl : l = [] := by
      cases l with
      | nil => rfl
      | cons y l => obtain ⟨b, off, hh, _⟩ := hrow.cells 0 y rfl; cases hh
    subst hl
    have := run_append_owned_none (P := Tryd.prog) (w := w) B 22 ty 53 i0 17 Tryd.underlying22 hi (.slice a xs.length c) xs.length (pc17 xs) hown
    rw [hnil rfl]
    refine ⟨a, c, w, ?_, by simpa using hown, Below.refl _ _⟩
    simpa using this
  | some ad =>
    obtain ⟨v', w', h1, h2, h3, _⟩ := run_append_own (P := Tryd.prog) w B 22 ty 53 i0 (.agg z17) 17 136 Tryd.underlying22 hi hz0 hz1 hz2 rfl (by decide) (.slice a xs.length c) xs.length (pc17 xs) hown ad l.length cc (pc17 l) (fl_len _ 17 rlv_len l) (by
      intro j u hj
      have hjl : j < l.length * 17 := by
        have := (List.getElem?_eq_some_iff.1 hj).1
        rwa [fl_len _ 17 rlv_len l] at this
      have hq : j / 17 < l.length := (Nat.div_lt_iff_lt_mul (by decide)).2 hjl
      obtain ⟨q, hq'⟩ : ∃ q, l[j / 17]? = some q := ⟨_, List.getElem?_eq_getElem hq⟩
      obtain ⟨b, off, hh, hc⟩ := hrow.cells (j / 17) q hq'
      cases hh
      have e : j / 17 * 17 + j % 17 = j := by omega
      have h1 := fl_get (fun q : Rl => q.v.toList) 17 rlv_len l (j / 17) (j % 17) q hq' (Nat.mod_lt _ (by decide))
      rw [e] at h1
      have h2 : q.v.toList[j % 17]? = some u := by rw [← h1]; exact hj
      have h3 := hc.2 (j % 17) u (by simpa using h2)
      rw [show (⟨b, off, none⟩ : Addr).add j = ⟨b, off + j, none⟩ from Go.WideShapes.add_plain ..]
      rw [show off + j = off + j / 17 * 17 + j % 17 by omega]
      exact h3) (by
      intro u hu
      obtain ⟨q, _, hq⟩ := List.mem_flatMap.1 hu
      exact rlv_one q u hq) (by unfold maxLen; omega) hsum hbase
    have h4 : w'.ownsRow B 53 17 v' (xs ++ l).length (pc17 (xs ++ l)) := by
      have e : pc17 (xs ++ l) = pc17 xs ++ pc17 l := by simp [pc17]
      rw [List.length_append, e]
      exact h2
    obtain ⟨a', c', rfl⟩ : ∃ a' c', v' = .slice a' (xs ++ l).length c' := by
      rcases h4.2 with ⟨h5, h6⟩ | ⟨g, cap, cur, h5, _⟩
      · exact ⟨none, 0, by rw [h5, h6]⟩
      · exact ⟨_, cap, h5⟩
    refine ⟨a', c', w', h1, h4, (Below.refl _ _).grown h3 hbase fun k hk => ?_⟩
    cases a with
    | none => cases hk
    | some ad' =>
      have e : ad'.block = k := by
        cases ad'
        simpa [Value.ownBlock] using hk
      rw [← e]
      exact OwnR.lt hown ad' rfl
theorem row_one (w W : World) (p : Rl) (t : TypeId) (h : w.alloc (.cells p.v t) = W) (hp : p.ok) : RowR W (some ⟨w.heap.size, 0, none⟩) [p] := by
  have B := blk_nw h
  refine ⟨fun r hr => ?_, fun i r hr => ?_⟩
  · simp only [List.mem_cons, List.not_mem_nil, or_false] at hr
    rw [hr]
    exact hp
  · match i, hr with
    | 0, hr =>
      cases hr
      exact ⟨w.heap.size, 0, rfl, by simpa using B.at_⟩
set_option maxRecDepth 100000 in
set_option maxHeartbeats 8000000 in
theorem rcost_any (da xa fa : Option Addr) (dc xc fc fn : Nat) (D : List ChR) (X : List CrR) (w : World) (hd : D.length ≤ 17592186044416) (hx : X.length ≤ 17592186044416) (hD : RowD w da D) (hX : RowX w xa X) :
    Calls Tryd.prog 14 #[.agg #[.slice da D.length dc, .slice xa X.length xc, .slice fa fn fc]] w fun e w' => e = .returned (.int .i64 (wsum (D.map (·.L.length) ++ X.map (·.K.length)))) ∧ Below w.heap.size w w' := by
  have HD : Hid (RowD w da D) := hD
  have HX : Hid (RowX w xa X) := hX
  obtain ⟨N, hN⟩ : ∃ N, D.length = N := ⟨_, rfl⟩
  obtain ⟨M, hM⟩ : ∃ M, X.length = M := ⟨_, rfl⟩
  have HN : Hid (D.length = N) := hN
  have HM : Hid (X.length = M) := hM
  rw [hN] at hd ⊢
  rw [hM] at hx ⊢
  obtain ⟨R, hR⟩ : ∃ R, wsum (D.map (·.L.length) ++ X.map (·.K.length)) = R := ⟨_, rfl⟩
  have HR : Hid (wsum (D.map (·.L.length) ++ X.map (·.K.length)) = R) := hR
  rw [hR]
  obtain ⟨W1, hW1⟩ : ∃ W1, w.alloc (.cells #[.slice da N dc, .slice xa M xc, .slice fa fn fc] 27) = W1 := ⟨_, rfl⟩
  have b1 := bel_nw hW1
  have HB1 : Hid (Blk W1 w.heap.size 27 #[.slice da N dc, .slice xa M xc, .slice fa fn fc]) := blk_nw hW1
  clear hD hX hN hM hR
  go_enter Tryd.func14, Tryd.ntmps14
  go_wp2_with fail
  go_loopw [3, 4] (fun s i wr => ∃ (n : Nat) (s0 : Int), n ≤ N ∧ s = .int .i64 s0 ∧ i = .int .i64 n ∧ Hid (wsum ((D.take n).map (·.L.length)) = s0) ∧ W1 = wr) (fun _ i _ => N - (intOf i).toNat)
  case atStart => exact ⟨0, 0, Nat.zero_le _, rfl, rfl, by rw [List.take_zero]; exact Eq.refl (0 : Int), by trivial⟩
  case round =>
    obtain ⟨n, s0, hn, rfl, rfl, HS, hwr⟩ := hrel
    subst hwr
    have c0 := HB1.out.cell 0 _ rfl
    by_cases hlt : n < N
    · have ik : (n : Int) < (N : Int) := by omega
      have in0 : (0 : Int) ≤ (n : Int) := by omega
      have hw1 : IntKind.i64.wrap ((n : Int) + 1) = ((n + 1 : Nat) : Int) := by simp [IntKind.wrap, IntKind.bits, IntKind.signed]; omega
      obtain ⟨x, hx'⟩ : ∃ x, D[n]? = some x := ⟨_, List.getElem?_eq_getElem (by rw [HN.out]; exact hlt)⟩
      obtain ⟨b, off, ha, hc⟩ := (HD.out.low b1).cells n x hx'
      have HS' : Hid (wsum ((D.take (n + 1)).map (·.L.length)) = wrap64 (s0 + (x.L.length : Int))) := by
        show _ = _
        rw [take_map_snoc _ hx', wsum_snoc, HS.out]
      have e0 := hc.2 0 (.slice x.a1 x.L.length x.c1) rfl
      obtain ⟨ln, hln⟩ : ∃ ln, x.L.length = ln := ⟨_, rfl⟩
      rw [hln] at e0 HS'
      rw [Nat.add_zero] at e0
      subst ha
      clear hx' hln HS hc
      go_wp2
      exact ⟨⟨n + 1, _, by omega, rfl, by first | rfl | (congr 1), HS', by trivial⟩, by simp only [intOf]; omega⟩
    · have ik : ¬ (n : Int) < (N : Int) := by omega
      have HS1 : Hid (wsum (D.map (·.L.length)) = s0) := by
        have := HS.out
        rw [List.take_of_length_le (by rw [HN.out]; omega)] at this
        exact this
      have HX2 : Hid (RowX W1 xa X) := HX.out.low b1
      clear HS hlt HX
      go_wp2_with fail
      clear c0
      go_loopw [3, 5] (fun s i wq => ∃ (n : Nat) (s1 : Int), n ≤ M ∧ s = .int .i64 s1 ∧ i = .int .i64 n ∧ Hid (wsum (D.map (·.L.length) ++ (X.take n).map (·.K.length)) = s1) ∧ W1 = wq) (fun _ i _ => M - (intOf i).toNat)
      case atStart => exact ⟨0, s0, Nat.zero_le _, rfl, rfl, by rw [List.take_zero, List.map_nil, List.append_nil]; exact HS1, by trivial⟩
      case round =>
        clear HS1 ik
        obtain ⟨n, s0, hn, rfl, rfl, HS, hwq⟩ := hrel
        subst hwq
        have c1 := HB1.out.cell 1 _ rfl
        by_cases hlt : n < M
        · have ik : (n : Int) < (M : Int) := by omega
          have in0 : (0 : Int) ≤ (n : Int) := by omega
          have hw1 : IntKind.i64.wrap ((n : Int) + 1) = ((n + 1 : Nat) : Int) := by simp [IntKind.wrap, IntKind.bits, IntKind.signed]; omega
          obtain ⟨x, hx'⟩ : ∃ x, X[n]? = some x := ⟨_, List.getElem?_eq_getElem (by rw [HM.out]; exact hlt)⟩
          obtain ⟨b, off, ha, hc⟩ := HX2.out.cells n x hx'
          have HS' : Hid (wsum (D.map (·.L.length) ++ (X.take (n + 1)).map (·.K.length)) = wrap64 (s0 + (x.K.length : Int))) := by
            show _ = _
            rw [take_map_snoc _ hx', ← List.append_assoc, wsum_snoc, HS.out]
          have e0 := hc.2 1 (.slice x.a2 x.K.length x.c2) rfl
          obtain ⟨lk, hlk⟩ : ∃ lk, x.K.length = lk := ⟨_, rfl⟩
          rw [hlk] at e0 HS'
          subst ha
          clear hx' hlk HS hc
          go_wp2
          exact ⟨⟨n + 1, _, by omega, rfl, by first | rfl | (congr 1), HS', by trivial⟩, by simp only [intOf]; omega⟩
        · have ik : ¬ (n : Int) < (M : Int) := by omega
          have HS2 : Hid (s0 = R) := by
            have := HS.out
            rw [List.take_of_length_le (by rw [HM.out]; omega), HR.out] at this
            exact this.symm
          clear HS hlt
          go_wp2
          go_ret
          exact ⟨by rw [← HS2.out]; rfl, b1⟩
/-- What a cut must be. -/
def Cuts (l : List Rl) (dim : Int) (L : List Pt) (K : List Nat) (S : List (List Nat)) : Prop := (errC l dim ≠ 0 ∧ L = [] ∧ K = [] ∧ S = []) ∨ (errC l dim = 0 ∧ CutP l dim.toNat L K S)
theorem Cuts.uniq {l : List Rl} {dim : Int} {L L' : List Pt} {K K' : List Nat} {S S' : List (List Nat)} (h : Cuts l dim L K S) (h' : Cuts l dim L' K' S') : L = L' ∧ K = K' ∧ S = S' := by
  rcases h with ⟨h0, h1, h2, h3⟩ | ⟨h0, h1⟩ <;> rcases h' with ⟨g0, g1, g2, g3⟩ | ⟨g0, g1⟩
  · exact ⟨by rw [h1, g1], by rw [h2, g2], by rw [h3, g3]⟩
  · exact absurd g0 h0
  · exact absurd h0 g0
  · exact h1.uniq g1
theorem Cuts.few {l : List Rl} {dim : Int} {L : List Pt} {K : List Nat} {S : List (List Nat)} (h : Cuts l dim L K S) : L.length ≤ 129 ∧ K.length = L.length ∧ S.length ≤ 129 := by
  rcases h with ⟨h0, h1, h2, h3⟩ | ⟨h0, h1⟩
  · simp [h1, h2, h3]
  · obtain ⟨d, _, _, h4, _⟩ := err_ok h0
    have := h1.few
    have := h1.num
    exact ⟨by omega, h1.len, by omega⟩
theorem rowi_nil (w : World) : RowI w none [] := ⟨by simp, fun h => by simp at h⟩
theorem map_len_ne {α β : Type} (f : α → β) {D D' : List α} (h : ¬ D.length = D'.length) : ¬ D.map f = D'.map f := fun e => h (by
  have := congrArg List.length e
  simpa using this)
end Go.Proofs.YtcoldgpnkdallaaDoor
