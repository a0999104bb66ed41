/- Texts joined: FrP -/
import Derived.Test.YtcoldgpnkdallaaDoorRxa0
import Derived.Test.YtcoldgpnkdallaaDoorRxa1
import Derived.Test.YtcoldgpnkdallaaDoorRxa2
import Derived.Test.YtcoldgpnkdallaaDoorRxa3
import Derived.Test.YtcoldgpnkdallaaDoorRxa4
import Derived.Test.YtcoldgpnkdallaaDoorRxa5
import Derived.Test.YtcoldgpnkdallaaDoorRxa6
import Derived.Test.YtcoldgpnkdallaaDoorRxa7
import Derived.Test.YtcoldgpnkdallaaDoorRxa8
import Derived.Test.YtcoldgpnkdallaaDoorRxa9
import Derived.Test.YtcoldgpnkdallaaDoorRxa10
import Derived.Test.YtcoldgpnkdallaaDoorRxa11
import Derived.Test.YtcoldgpnkdallaaDoorRxa12
import Derived.Test.YtcoldgpnkdallaaDoorRxa13
import Derived.Test.YtcoldgpnkdallaaDoorRxa14
import Derived.Test.YtcoldgpnkdallaaDoorRxa15
import Derived.Test.YtcoldgpnkdallaaDoorRxa16
import Derived.Test.YtcoldgpnkdallaaDoorRxa17
import Derived.Test.YtcoldgpnkdallaaDoorRxa18
import Derived.Test.YtcoldgpnkdallaaDoorRxa19
import Derived.Test.YtcoldgpnkdallaaDoorRxa20
import Derived.Test.YtcoldgpnkdallaaDoorRxa21
import Derived.Test.YtcoldgpnkdallaaDoorRxa22
import Derived.Test.YtcoldgpnkdallaaDoorRxa23
import Derived.Test.YtcoldgpnkdallaaDoorRxa24
import Derived.Test.YtcoldgpnkdallaaDoorRxa25
import Derived.Test.YtcoldgpnkdallaaDoorRxa26
import Derived.Test.YtcoldgpnkdallaaDoorRxa27
import Derived.Test.YtcoldgpnkdallaaDoorRxa28
import Derived.Test.YtcoldgpnkdallaaDoorRxa29
import Derived.Test.YtcoldgpnkdallaaDoorRxa30
import Derived.Test.YtcoldgpnkdallaaDoorRxa31
import Derived.Test.YtcoldgpnkdallaaDoorRxa32
import Derived.Test.YtcoldgpnkdallaaDoorRxa33
import Derived.Test.YtcoldgpnkdallaaDoorRxa34
import Derived.Test.YtcoldgpnkdallaaDoorRxa35
import Derived.Test.YtcoldgpnkdallaaDoorRxa36
import Derived.Test.YtcoldgpnkdallaaDoorRxa37
import Derived.Test.YtcoldgpnkdallaaDoorRxa39
import Derived.Test.YtcoldgpnkdallaaDoorRxa41
import Derived.Test.YtcoldgpnkdallaaDoorRxc9
import Derived.Deep.AppendLies
import Derived.Deep.QuietTactic
import Derived.BigQuiet
import Derived.BigRegion
import Derived.Deep.RegionWith
import Derived.Deep.RegionHeld3
namespace Go.Proofs.YtcoldgpnkdallaaDoor
abbrev rxc10o0 : Oper := { dst := some 5, op := Op.assign (.tmp 29), type := 4, pos := "ref.go:68", after := #[{ on := 11, ground := Ground.data }, { on := 10, ground := Ground.chain }, { on := 0, ground := Ground.phase }, { on := 1, ground := Ground.phase }, { on := 2, ground := Ground.phase }, { on := 3, ground := Ground.phase }, { on := 4, ground := Ground.phase }, { on := 5, ground := Ground.phase }, { on := 6, ground := Ground.phase }, { on := 7, ground := Ground.phase }, { on := 8, ground := Ground.phase }, { on := 9, ground := Ground.phase }, { on := 10, ground := Ground.phase }, { on := 11, ground := Ground.phase }], guard := none }
abbrev rxc10o1 : Oper := { dst := some 28, op := Op.call { callee := Callee.value (.func 45), args := #[.tmp 23, .tmp 27], argTypes := #[53, 53] }, type := 4, pos := "ref.go:68", after := #[{ on := 5, ground := Ground.data }, { on := 9, ground := Ground.data }, { on := 1, ground := Ground.chain }, { on := 1, ground := Ground.guard }], guard := some (1, false) }
abbrev rxc10o2 : Oper := { dst := some 22, op := Op.indexAddr 22 (.tmp 20) (.tmp 21), type := 0, pos := "ref.go:68", after := #[{ on := 2, ground := Ground.data }, { on := 3, ground := Ground.data }, { on := 1, ground := Ground.guard }], guard := some (1, false) }
abbrev rxc10o3 : Oper := { dst := some 26, op := Op.indexAddr 22 (.tmp 24) (.tmp 25), type := 0, pos := "ref.go:68", after := #[{ on := 6, ground := Ground.data }, { on := 7, ground := Ground.data }, { on := 1, ground := Ground.guard }], guard := some (1, false) }
abbrev rxc10o4 : Oper := { dst := some 29, op := Op.pick (.tmp 19) (.const (.bool true)) (.tmp 28), type := 4, pos := "ref.go:68", after := #[{ on := 1, ground := Ground.data }, { on := 10, ground := Ground.data }], guard := none }
abbrev rxc10o5 : Oper := { dst := some 23, op := Op.load 53 (.tmp 22), type := 53, pos := "ref.go:68", after := #[{ on := 4, ground := Ground.data }, { on := 1, ground := Ground.guard }], guard := some (1, false) }
abbrev rxc10o6 : Oper := { dst := some 27, op := Op.load 53 (.tmp 26), type := 53, pos := "ref.go:68", after := #[{ on := 8, ground := Ground.data }, { on := 1, ground := Ground.guard }], guard := some (1, false) }
abbrev rxc10o7 : Oper := { dst := some 20, op := Op.move (.tmp 0), type := 22, pos := "ref.go:68", after := #[{ on := 1, ground := Ground.guard }], guard := some (1, false) }
abbrev rxc10o8 : Oper := { dst := some 24, op := Op.move (.tmp 0), type := 22, pos := "ref.go:68", after := #[{ on := 1, ground := Ground.guard }], guard := some (1, false) }
abbrev rxc10o9 : Oper := { dst := some 21, op := Op.move (.tmp 6), type := 3, pos := "ref.go:68", after := #[{ on := 1, ground := Ground.guard }], guard := some (1, false) }
abbrev rxc10o10 : Oper := { dst := some 25, op := Op.move (.tmp 4), type := 3, pos := "ref.go:68", after := #[{ on := 1, ground := Ground.guard }], guard := some (1, false) }
abbrev rxc10o11 : Oper := { dst := some 19, op := Op.move (.tmp 18), type := 4, pos := "ref.go:68", after := #[{ on := 0, ground := Ground.data }], guard := none }
abbrev rxc10o12 : Oper := { dst := some 18, op := Op.move (.tmp 5), type := 4, pos := "ref.go:68", after := #[], guard := none }
end Go.Proofs.YtcoldgpnkdallaaDoor
namespace Go.Proofs.YtcoldgpnkdallaaDoor
open Go.RowKit
set_option linter.unusedVariables false
set_option linter.unusedSimpArgs false
set_option maxRecDepth 100000 in
set_option maxHeartbeats 4000000 in
theorem rkeep_any (a : Option Addr) (c : Nat) (l : List Rl) (w : World) (hl : l.length ≤ 1000000) (hrow : RowR w a l) :
    Calls Tryd.prog 21 #[.slice a l.length c] w fun e w' => ∃ a' c', e = .returned (.slice a' (keepL l).length c') ∧ RowI w' a' ((keepL l).map fun i : Nat => (i : Int)) ∧ Below w.heap.size w w' := by
  have hsr : Hid (∀ r : Rl, (Tryd.prog.info? 53).map (·.size) = some r.v.size) := info_rl
  have KH : Hid (∀ q r : Rl, q.ok → r.ok → ∀ W, Calls Tryd.prog 45 #[.agg q.v, .agg r.v] W fun e w' => e = .returned (.bool (q.hides r)) ∧ Below W.heap.size W w') := fun q r h h' W => rhides_any q r W h h'
  obtain ⟨N, hN⟩ : ∃ N, l.length = N := ⟨_, rfl⟩
  have HN : Hid (l.length = N) := hN
  have HRow : Hid (RowR w a l) := hrow
  have hKL : Hid (keepL l = keepN l N) := by show _ = _; unfold keepL; rw [hN]
  obtain ⟨KL, hKL'⟩ : ∃ KL, keepL l = KL := ⟨_, rfl⟩
  rw [hKL']
  have HKL : Hid (keepN l N = KL) := by show _ = _; rw [← hKL.out, hKL']
  rw [hN] at hl ⊢
  clear hN hrow hKL hKL'
  go_enter Tryd.func21, Tryd.ntmps21
  go_wp2_with fail
  go_loopw [3, 4] (fun k3 i wr => ∃ (n : Nat) (ka : Option Addr) (kc : Nat), n ≤ N ∧ i = .int .i64 n ∧ k3 = .slice ka (keepN l n).length kc ∧ Hid (OwnI wr w.heap.size ka kc (keepN l n)) ∧ Below w.heap.size w wr) (fun _ i _ => N - (intOf i).toNat)
  case atStart => exact ⟨0, none, 0, Nat.zero_le _, rfl, rfl, OwnI.nil _ _, Below.refl _ _⟩
  case round =>
    obtain ⟨n, ka, kc, hn, rfl, rfl, HK, bw⟩ := hrel
    have hkl := keep_len l n
    obtain ⟨xs, hxs⟩ : ∃ xs, keepN l n = xs := ⟨_, rfl⟩
    have HXS : Hid (keepN l n = xs) := hxs
    rw [hxs] at HK hkl ⊢
    clear hxs
    by_cases hlt : n < N
    · have ik : (n : Int) < (N : Int) := by omega
      have in0 : (0 : Int) ≤ (n : Int) := by omega
      obtain ⟨r, hr⟩ : ∃ r, l[n]? = some r := ⟨_, List.getElem?_eq_getElem (by rw [HN.out]; exact hlt)⟩
      have HR : Hid (l[n]? = some r) := hr
      have HO : Hid r.ok := HRow.out.each r (List.mem_of_getElem? hr)
      obtain ⟨b, off, ha, hc⟩ := (HRow.out.low bw).cells n r hr
      clear hc hr
      subst ha
      go_wp2_with fail
      go_loopw [5, 6] (fun h k wr => ∃ (k' : Nat) (H : Bool), k' ≤ n ∧ k = .int .i64 k' ∧ h = .bool H ∧ Hid ((l.take k').any (·.hides r) = H) ∧ Hid (OwnI wr w.heap.size ka kc xs) ∧ Below w.heap.size w wr) (fun _ k _ => n - (intOf k).toNat)
      case atStart => exact ⟨0, false, Nat.zero_le _, rfl, rfl, rfl, HK, bw⟩
      case round =>
        clear HK bw
        obtain ⟨k, H, hk, rfl, rfl, HH, HK, bw⟩ := hrel
        by_cases hkn : k < n
        · have jk : (k : Int) < (n : Int) := by omega
          have jk0 : (0 : Int) ≤ (k : Int) := by omega
          have jN : (k : Int) < (N : Int) := by omega
          obtain ⟨q, hq⟩ : ∃ q, l[k]? = some q := ⟨_, List.getElem?_eq_getElem (by rw [HN.out]; omega)⟩
          have HQ : Hid (q.ok) := HRow.out.each q (List.mem_of_getElem? hq)
          obtain ⟨b1, off1, ha1, hc1⟩ := (HRow.out.low bw).cells k q hq
          obtain ⟨b2, off2, ha2, hc2⟩ := (HRow.out.low bw).cells n r HR.out
          cases ha1
          cases ha2
          have HS : Hid (∀ X, X = ((l.take k).any (·.hides r) || q.hides r) → (l.take (k + 1)).any (·.hides r) = X) := fun X hX => by
            rw [hX, List.take_add_one, hq]
            simp [List.any_append]
          have hs1 := hsr.out q
          have hs2 := hsr.out r
          have KY : Hid _ := KH.out q r HQ.out HO.out
          obtain ⟨A, hA⟩ : ∃ A, q.hides r = A := ⟨_, rfl⟩
          rw [hA] at KY
          have HA : Hid (q.hides r = A) := hA
          clear hA hq
          generalize q.v = RQ at hs1 hc1 KY
          generalize r.v = RA at hs2 hc2 KY
          cases H
          · go_wp2_with fail
            refine wp_region_noPanic ?_
            refine wp_region_held_drew (S := fun w'' => CellsAt w'' b (off + k * 17) RQ ∧ CellsAt w'' b (off + n * 17) RA) (by kernel_rfl) (by exact ⟨hc1.below (below_drew _), hc2.below (below_drew _)⟩) (fun hHeld => ?_)
            refine wpAnyH_take (i := 0) (oi := rxc10o12) (v := (.bool false)) rfl (by kernel_rfl) (by kernel_rfl) (by kernel_rfl) (fun _ _ _ h => h) (Or.inl ⟨by rfl, ?_⟩) hHeld ?_
            · intro w9 hSw
              try dsimp only at hSw
              go_simp
            try simp only [Act.put, List.setIfInBounds_toArray, List.set_cons_zero, List.set_cons_succ]
            refine wpAnyH_take (i := 1) (oi := rxc10o11) (v := (.bool false)) rfl (by kernel_rfl) (by kernel_rfl) (by kernel_rfl) (fun _ _ _ h => h) (Or.inl ⟨by rfl, ?_⟩) hHeld ?_
            · intro w9 hSw
              try dsimp only at hSw
              go_simp
            try simp only [Act.put, List.setIfInBounds_toArray, List.set_cons_zero, List.set_cons_succ]
            refine wpAnyH_take (i := 2) (oi := rxc10o7) (v := (.slice (some ⟨b, off, none⟩) N c)) rfl (by kernel_rfl) (by kernel_rfl) (by kernel_rfl) (fun _ _ _ h => h) (Or.inl ⟨by rfl, ?_⟩) hHeld ?_
            · intro w9 hSw
              try dsimp only at hSw
              go_simp
            try simp only [Act.put, List.setIfInBounds_toArray, List.set_cons_zero, List.set_cons_succ]
            refine wpAnyH_take (i := 3) (oi := rxc10o9) (v := (.int .i64 k)) rfl (by kernel_rfl) (by kernel_rfl) (by kernel_rfl) (fun _ _ _ h => h) (Or.inl ⟨by rfl, ?_⟩) hHeld ?_
            · intro w9 hSw
              try dsimp only at hSw
              go_simp
            try simp only [Act.put, List.setIfInBounds_toArray, List.set_cons_zero, List.set_cons_succ]
            refine wpAnyH_take (i := 4) (oi := rxc10o2) (v := (.pointer (some ⟨b, off + k * 17, none⟩))) rfl (by kernel_rfl) (by kernel_rfl) (by kernel_rfl) (fun _ _ _ h => h) (Or.inl ⟨by rfl, ?_⟩) hHeld ?_
            · intro w9 hSw
              try dsimp only at hSw
              go_simp
            try simp only [Act.put, List.setIfInBounds_toArray, List.set_cons_zero, List.set_cons_succ]
            refine wpAnyH_take (i := 5) (oi := rxc10o5) (v := (.agg RQ)) rfl (by kernel_rfl) (by kernel_rfl) (by kernel_rfl) (fun _ _ _ h => h) (yieldsIf_at (by rfl) _ _ rfl b (off + k * 17) (by rfl) _ (fun _ h => h.1) Tryd.underlying53 hs1) hHeld ?_
            try simp only [Act.put, List.setIfInBounds_toArray, List.set_cons_zero, List.set_cons_succ]
            refine wpAnyH_take (i := 6) (oi := rxc10o8) (v := (.slice (some ⟨b, off, none⟩) N c)) rfl (by kernel_rfl) (by kernel_rfl) (by kernel_rfl) (fun _ _ _ h => h) (Or.inl ⟨by rfl, ?_⟩) hHeld ?_
            · intro w9 hSw
              try dsimp only at hSw
              go_simp
            try simp only [Act.put, List.setIfInBounds_toArray, List.set_cons_zero, List.set_cons_succ]
            refine wpAnyH_take (i := 7) (oi := rxc10o10) (v := (.int .i64 n)) rfl (by kernel_rfl) (by kernel_rfl) (by kernel_rfl) (fun _ _ _ h => h) (Or.inl ⟨by rfl, ?_⟩) hHeld ?_
            · intro w9 hSw
              try dsimp only at hSw
              go_simp
            try simp only [Act.put, List.setIfInBounds_toArray, List.set_cons_zero, List.set_cons_succ]
            refine wpAnyH_take (i := 8) (oi := rxc10o3) (v := (.pointer (some ⟨b, off + n * 17, none⟩))) rfl (by kernel_rfl) (by kernel_rfl) (by kernel_rfl) (fun _ _ _ h => h) (Or.inl ⟨by rfl, ?_⟩) hHeld ?_
            · intro w9 hSw
              try dsimp only at hSw
              go_simp
            try simp only [Act.put, List.setIfInBounds_toArray, List.set_cons_zero, List.set_cons_succ]
            refine wpAnyH_take (i := 9) (oi := rxc10o6) (v := (.agg RA)) rfl (by kernel_rfl) (by kernel_rfl) (by kernel_rfl) (fun _ _ _ h => h) (yieldsIf_at (by rfl) _ _ rfl b (off + n * 17) (by rfl) _ (fun _ h => h.2) Tryd.underlying53 hs2) hHeld ?_
            try simp only [Act.put, List.setIfInBounds_toArray, List.set_cons_zero, List.set_cons_succ]
            refine wpAnyH_ready (rs := [10]) (by kernel_rfl) (by simp) ?_
            refine AllReadyH.cons (o := rxc10o1) rfl (fun K hK => ?_) AllReadyH.nil
            go_simp
            refine Calls.mono (KY.out _) ?_
            rintro e W3 ⟨rfl, bb⟩
            have bw3 := bel_tr (bel_tr bw (below_drew _)) bb
            have HK3 : Hid (OwnI W3 w.heap.size ka kc xs) := (HK.out.below (below_drew _)).below bb
            refine hK.out _ _ ?_ (fun hHeld => ?_)
            · exact ⟨(hc1.below (below_drew _)).below bb, (hc2.below (below_drew _)).below bb⟩
            clear hK K
            try simp only [Act.put, List.setIfInBounds_toArray, List.set_cons_zero, List.set_cons_succ]
            refine wpAnyH_take (i := 11) (oi := rxc10o4) (v := (.bool A)) rfl (by kernel_rfl) (by kernel_rfl) (by kernel_rfl) (fun _ _ _ h => h) (Or.inl ⟨by rfl, ?_⟩) hHeld ?_
            · intro w9 hSw
              try dsimp only at hSw
              go_simp
            try simp only [Act.put, List.setIfInBounds_toArray, List.set_cons_zero, List.set_cons_succ]
            refine wpAnyH_take (i := 12) (oi := rxc10o0) (v := (.bool A)) rfl (by kernel_rfl) (by kernel_rfl) (by kernel_rfl) (fun _ _ _ h => h) (Or.inl ⟨by rfl, ?_⟩) hHeld ?_
            · intro w9 hSw
              try dsimp only at hSw
              go_simp
            try simp only [Act.put, List.setIfInBounds_toArray, List.set_cons_zero, List.set_cons_succ]
            refine wpAnyH_done (by kernel_rfl) ?_ _
            refine NoPanic.normal ?_

            clear KY bb bw hc1 hc2 hHeld hs1 hs2 HK
            go_wp2_with fail
            refine ⟨⟨k + 1, A, by omega, by go_num, rfl, HS.out A (by rw [HH.out, HA.out]; rfl), HK3, bw3⟩, by simp [intOf]; omega⟩
          · go_wp2_with fail
            refine wp_region_noPanic ?_
            refine wp_region_held_drew (S := fun _ => True) (by kernel_rfl) trivial (fun hHeld => ?_)
            refine wpAnyH_take (i := 0) (oi := rxc10o12) (v := (.bool true)) rfl (by kernel_rfl) (by kernel_rfl) (by kernel_rfl) (fun _ _ _ h => h) (Or.inl ⟨by rfl, ?_⟩) hHeld ?_
            · intro w9 hSw
              try dsimp only at hSw
              go_simp
            try simp only [Act.put, List.setIfInBounds_toArray, List.set_cons_zero, List.set_cons_succ]
            refine wpAnyH_take (i := 1) (oi := rxc10o11) (v := (.bool true)) rfl (by kernel_rfl) (by kernel_rfl) (by kernel_rfl) (fun _ _ _ h => h) (Or.inl ⟨by rfl, ?_⟩) hHeld ?_
            · intro w9 hSw
              try dsimp only at hSw
              go_simp
            try simp only [Act.put, List.setIfInBounds_toArray, List.set_cons_zero, List.set_cons_succ]
            refine wpAnyH_take (i := 2) (oi := rxc10o7) (v := undef) rfl (by kernel_rfl) (by kernel_rfl) (by kernel_rfl) (fun _ _ _ h => h) (Or.inr ⟨by rfl, rfl⟩) hHeld ?_
            try simp only [Act.put, List.setIfInBounds_toArray, List.set_cons_zero, List.set_cons_succ]
            refine wpAnyH_take (i := 3) (oi := rxc10o9) (v := undef) rfl (by kernel_rfl) (by kernel_rfl) (by kernel_rfl) (fun _ _ _ h => h) (Or.inr ⟨by rfl, rfl⟩) hHeld ?_
            try simp only [Act.put, List.setIfInBounds_toArray, List.set_cons_zero, List.set_cons_succ]
            refine wpAnyH_take (i := 4) (oi := rxc10o2) (v := undef) rfl (by kernel_rfl) (by kernel_rfl) (by kernel_rfl) (fun _ _ _ h => h) (Or.inr ⟨by rfl, rfl⟩) hHeld ?_
            try simp only [Act.put, List.setIfInBounds_toArray, List.set_cons_zero, List.set_cons_succ]
            refine wpAnyH_take (i := 5) (oi := rxc10o5) (v := undef) rfl (by kernel_rfl) (by kernel_rfl) (by kernel_rfl) (fun _ _ _ h => h) (Or.inr ⟨by rfl, rfl⟩) hHeld ?_
            try simp only [Act.put, List.setIfInBounds_toArray, List.set_cons_zero, List.set_cons_succ]
            refine wpAnyH_take (i := 6) (oi := rxc10o8) (v := undef) rfl (by kernel_rfl) (by kernel_rfl) (by kernel_rfl) (fun _ _ _ h => h) (Or.inr ⟨by rfl, rfl⟩) hHeld ?_
            try simp only [Act.put, List.setIfInBounds_toArray, List.set_cons_zero, List.set_cons_succ]
            refine wpAnyH_take (i := 7) (oi := rxc10o10) (v := undef) rfl (by kernel_rfl) (by kernel_rfl) (by kernel_rfl) (fun _ _ _ h => h) (Or.inr ⟨by rfl, rfl⟩) hHeld ?_
            try simp only [Act.put, List.setIfInBounds_toArray, List.set_cons_zero, List.set_cons_succ]
            refine wpAnyH_take (i := 8) (oi := rxc10o3) (v := undef) rfl (by kernel_rfl) (by kernel_rfl) (by kernel_rfl) (fun _ _ _ h => h) (Or.inr ⟨by rfl, rfl⟩) hHeld ?_
            try simp only [Act.put, List.setIfInBounds_toArray, List.set_cons_zero, List.set_cons_succ]
            refine wpAnyH_take (i := 9) (oi := rxc10o6) (v := undef) rfl (by kernel_rfl) (by kernel_rfl) (by kernel_rfl) (fun _ _ _ h => h) (Or.inr ⟨by rfl, rfl⟩) hHeld ?_
            try simp only [Act.put, List.setIfInBounds_toArray, List.set_cons_zero, List.set_cons_succ]
            refine wpAnyH_take (i := 10) (oi := rxc10o1) (v := undef) rfl (by kernel_rfl) (by kernel_rfl) (by kernel_rfl) (fun _ _ _ h => h) (Or.inr ⟨by rfl, rfl⟩) hHeld ?_
            try simp only [Act.put, List.setIfInBounds_toArray, List.set_cons_zero, List.set_cons_succ]
            refine wpAnyH_take (i := 11) (oi := rxc10o4) (v := (.bool true)) rfl (by kernel_rfl) (by kernel_rfl) (by kernel_rfl) (fun _ _ _ h => h) (Or.inl ⟨by rfl, ?_⟩) hHeld ?_
            · intro w9 hSw
              try dsimp only at hSw
              go_simp
            try simp only [Act.put, List.setIfInBounds_toArray, List.set_cons_zero, List.set_cons_succ]
            refine wpAnyH_take (i := 12) (oi := rxc10o0) (v := (.bool true)) rfl (by kernel_rfl) (by kernel_rfl) (by kernel_rfl) (fun _ _ _ h => h) (Or.inl ⟨by rfl, ?_⟩) hHeld ?_
            · intro w9 hSw
              try dsimp only at hSw
              go_simp
            try simp only [Act.put, List.setIfInBounds_toArray, List.set_cons_zero, List.set_cons_succ]
            refine wpAnyH_done (by kernel_rfl) ?_ _
            refine NoPanic.normal ?_

            have bw3 : Below w.heap.size w wr.drew := bel_tr bw (below_drew _)
            have HK3 : Hid (OwnI wr.drew w.heap.size ka kc xs) := HK.out.below (below_drew _)
            clear KY bw hc1 hc2 hHeld hs1 hs2 HK
            go_wp2_with fail
            refine ⟨⟨k + 1, true, by omega, by go_num, rfl, HS.out true (by rw [HH.out]; rfl), HK3, bw3⟩, by simp [intOf]; omega⟩
        · have jk : ¬ (k : Int) < (n : Int) := by omega
          have e : k = n := by omega
          subst e
          have HHB : Hid (hidB l k = H) := by
            show _ = _
            unfold hidB
            rw [HR.out]
            exact HH.out
          cases H
          · have hk5 : OwnI (wr.alloc (.cells #[.int .i64 k] 3)) w.heap.size ka kc xs := HK.out.below (bel_nw rfl)
            have hcell : (wr.alloc (.cells #[.int .i64 k] 3)).cell? ⟨wr.heap.size, 0, none⟩ = some (.int .i64 k) := (blk_new wr _ _).cell 0 _ rfl
            have hbase : w.heap.size ≤ (wr.alloc (.cells #[.int .i64 k] 3)).heap.size := by
              have := bw.size
              rw [World.size_alloc]
              omega
            go_wp2_with (at_builtin; refine wpList_appI _ rfl _ _ rfl w.heap.size ka kc xs rfl hk5 ⟨wr.heap.size, 0, none⟩ 1 k rfl hcell (by omega) hbase ?_)
            intro g c' W6 ok6 b6 gr6 at6 lt6
            have bw6 : Below w.heap.size w W6 := (bw.alloc bw.size _).trans b6
            have HK6 : Hid (OwnI W6 w.heap.size (some ⟨g, 0, none⟩) c' (xs ++ [k])) := ok6
            have EK : Hid (keepN l (k + 1) = xs ++ [k]) := by show _ = _; rw [keep_succ, HHB.out, HXS.out]; rfl
            clear HK hk5 hcell hbase ok6 b6 gr6 at6 lt6 bw
            go_wp2_with fail
            refine ⟨⟨k + 1, some ⟨g, 0, none⟩, c', by omega, by go_num, by rw [EK.out]; simp, by rw [EK.out]; exact HK6, bw6⟩, by simp [intOf]; omega⟩
          · have EK : Hid (keepN l (k + 1) = xs) := by show _ = _; rw [keep_succ, HHB.out, HXS.out]; rfl
            go_wp2_with fail
            refine ⟨⟨k + 1, ka, kc, by omega, by go_num, by rw [EK.out], by rw [EK.out]; exact HK, bw⟩, by simp [intOf]; omega⟩
    · have ik : ¬ (n : Int) < (N : Int) := by omega
      have e : n = N := by omega
      subst e
      have e : xs = KL := by rw [← HXS.out, HKL.out]
      subst e
      go_wp2_with fail
      go_ret
      first | exact ⟨ka, kc, rfl, HK.out.row (by omega), bw⟩ | exact ⟨ka, ⟨kc, rfl⟩, HK.out.row (by omega), bw⟩
end Go.Proofs.YtcoldgpnkdallaaDoor
