/- For every input the law RfcHidden returns true and leaves its arguments as they were; the variables that its row lists hold what they are listed with (the card ties them to the program's text). -/
import Derived.Test.YtcoldgpnkdallaaDoorRxa0
import Derived.Test.YtcoldgpnkdallaaDoorRxa1
import Derived.Test.YtcoldgpnkdallaaDoorRxa2
import Derived.Test.YtcoldgpnkdallaaDoorRxa3
import Derived.Test.YtcoldgpnkdallaaDoorRxa4
import Derived.Test.YtcoldgpnkdallaaDoorRxa5
import Derived.Test.YtcoldgpnkdallaaDoorRxa6
import Derived.Test.YtcoldgpnkdallaaDoorRxa7
import Derived.Test.YtcoldgpnkdallaaDoorRxa8
import Derived.Test.YtcoldgpnkdallaaDoorRxa9
import Derived.Test.YtcoldgpnkdallaaDoorRxa10
import Derived.Test.YtcoldgpnkdallaaDoorRxa11
import Derived.Test.YtcoldgpnkdallaaDoorRxa12
import Derived.Test.YtcoldgpnkdallaaDoorRxa13
import Derived.Test.YtcoldgpnkdallaaDoorRxa14
import Derived.Test.YtcoldgpnkdallaaDoorRxa15
import Derived.Test.YtcoldgpnkdallaaDoorRxa16
import Derived.Test.YtcoldgpnkdallaaDoorRxa17
import Derived.Test.YtcoldgpnkdallaaDoorRxa18
import Derived.Test.YtcoldgpnkdallaaDoorRxa19
import Derived.Test.YtcoldgpnkdallaaDoorRxa20
import Derived.Test.YtcoldgpnkdallaaDoorRxa21
import Derived.Test.YtcoldgpnkdallaaDoorRxa22
import Derived.Test.YtcoldgpnkdallaaDoorRxa23
import Derived.Test.YtcoldgpnkdallaaDoorRxa24
import Derived.Test.YtcoldgpnkdallaaDoorRxa25
import Derived.Test.YtcoldgpnkdallaaDoorRxa26
import Derived.Test.YtcoldgpnkdallaaDoorRxa27
import Derived.Test.YtcoldgpnkdallaaDoorRxa28
import Derived.Test.YtcoldgpnkdallaaDoorRxa29
import Derived.Test.YtcoldgpnkdallaaDoorRxa30
import Derived.Test.YtcoldgpnkdallaaDoorRxa31
import Derived.Test.YtcoldgpnkdallaaDoorRxa32
import Derived.Test.YtcoldgpnkdallaaDoorRxa33
import Derived.Test.YtcoldgpnkdallaaDoorRxa34
import Derived.Test.YtcoldgpnkdallaaDoorRxa35
import Derived.Test.YtcoldgpnkdallaaDoorRxa36
import Derived.Test.YtcoldgpnkdallaaDoorRxa37
import Derived.Test.YtcoldgpnkdallaaDoorRxa39
import Derived.Test.YtcoldgpnkdallaaDoorRxa41
import Derived.Test.YtcoldgpnkdallaaDoorRxc6
import Derived.Test.YtcoldgpnkdallaaDoorRxc10
import Derived.Test.YtcoldgpnkdallaaDoorCards
import Derived.Test.YtcoldgpnkdallaaDoorTie
import Derived.WalkKit
import Derived.ProofKit
import Derived.OpenShut
import Derived.ChangeOld
import Derived.Below
import Derived.Carry
import Derived.SizedLaws
import Derived.Deep.DeepHandedRow
import Derived.SevenTiedAt
import Derived.Lib.SmallJoins
import Derived.Deep.Slices
import Derived.Deep.Strs
import Derived.ChangeSame
import Derived.Deep.QuietTactic
import Derived.BigQuiet
import Derived.BigRegion
import Derived.Deep.RegionWith
import Derived.Deep.RegionHeld3
import Derived.Stop.LaidErr
import Derived.Test.YtcoldgpnkdallaaDoorRows
import Derived.Lib.LaidTab
import Derived.Laws.BitsAllLaws
import Derived.Laws.BitsLemmas
import Derived.Laws.Bits128
import Derived.Laws.Shifts
import Derived.Laws.ShiftsVarLaws
import Derived.Laws.StructEq
import Derived.Deep.DeepCutAuto
import Derived.Deep.Draws
import Derived.Laws.World
import Derived.Sort.Grow
import Derived.Laws.OwnMore
import Derived.Laws.BytesArg
import Derived.Laws.MakeOwn
import Derived.Laws.AppendOwn
import Derived.Laws.AppendOwnNone
import Derived.OwnWalk
import Derived.KernelRfl
import Derived.RegionTactic
namespace Go.Proofs.YtcoldgpnkdallaaDoor
open Go.RowKit
set_option linter.unusedVariables false
set_option linter.unusedSimpArgs false
theorem sub_ok {l : List Rl} (h : ∀ r ∈ l, r.ok) : ∀ r ∈ subL l (keepL l), r.ok := fun r hr => by
  obtain ⟨j, hj⟩ := List.getElem?_of_mem hr
  obtain ⟨i, _, hi⟩ := sub_inv hj
  exact h r (List.mem_of_getElem? hi)
theorem sub_len (l : List Rl) : (subL l (keepL l)).length = (keepL l).length := by unfold subL; rw [List.length_map]
theorem sub_take {l : List Rl} {n i : Nat} {r : Rl} (hi : (keepL l)[n]? = some i) (hr : l[i]? = some r) : (subL l (keepL l)).take (n + 1) = (subL l (keepL l)).take n ++ [r] := by
  rw [List.take_add_one, sub_get hi hr]; rfl
/-- What two lists' first ones are. -/
def Pairs (l : List Rl) (k : Ky) (Ya Yb : Int) : Prop := (Ya = -1 ∧ Yb = -1) ∨ ∃ i j : Nat, Ya = (i : Int) ∧ Yb = (j : Int) ∧ (keepL l)[j]? = some i
theorem pairs_of (l : List Rl) (k : Ky) (ko : k.ok) : Pairs l k (firstN (ofB l (·.takes k))) (firstN (ofB (subL l (keepL l)) (·.takes k))) := by
  rw [first_find, first_find]
  cases h : findL l k with
  | none => rw [hidden_none h]; exact .inl ⟨rfl, rfl⟩
  | some i =>
    obtain ⟨j, h1, h2⟩ := hidden_some ko h
    rw [h1]
    exact .inr ⟨i, j, rfl, rfl, h2⟩
set_option maxRecDepth 100000 in
set_option maxHeartbeats 16000000 in
theorem rfcHidden_walk (a : Option Addr) (c : Nat) (l : List Rl) (k : Ky) (w : World) (lc : l.length ≤ c) (cm : c * 136 ≤ 140737488351232 ∧ (a = none → c = 0)) (hrow : RowR w a l) (ko : k.ok) (hT : Top w) (hDb : Deb w) (hSd : Sds w) : Calls Tryd.prog 7 #[.slice a l.length c, .agg k.v] w fun e w' => e = .returned (.bool true) ∧ Below w.heap.size w w' := by
  have KA : Hid (∀ W, Below w.heap.size w W → Calls Tryd.prog 12 #[] W fun e w' => e = .returned (.bool true) ∧ Below W.heap.size W w') := fun W hb => alive_rf W (hT.below hb) (hDb.below hb) (hSd.below hb)
  obtain ⟨W1, hW1⟩ : ∃ W1, w.alloc (.cells k.v 41) = W1 := ⟨_, rfl⟩
  have b1 := bel_nw hW1
  have HBK : Hid (Blk W1 w.heap.size 41 k.v) := blk_nw hW1
  have KP : Hid (∀ (a : Option Addr) (c : Nat) (l : List Rl) W, Below w.heap.size w W → RowR W a l → Calls Tryd.prog 9 #[.slice a l.length c, .int .i64 4096] W fun e w' => ∃ t : TR, e = .returned (.tuple #[.agg t.v, .int .i64 (errT l (errC l 0) 4096)]) ∧ t.ok w' ∧ TabC l (errT l (errC l 0) 4096) t ∧ Below W.heap.size W w') := fun a c l W hb hr => compile_tr a c l 4096 W (hT.below hb) (hDb.below hb) (hSd.below hb) hr
  have KR : Hid (∀ W, Calls Tryd.prog 16 #[.agg k.v] W fun e w' => e = .returned (.bool k.right) ∧ Below W.heap.size W w') := fun W => rrightKey_any k W ko
  have HRow : Hid (RowR w a l) := hrow
  have HPAIR : Hid (Pairs l k (firstN (ofB l (·.takes k))) (firstN (ofB (subL l (keepL l)) (·.takes k)))) := pairs_of l k ko
  have KC : Hid (∀ (l : List Rl) (t : TR) W, (∀ r ∈ l, r.ok) → t.ok W → TabC l 0 t → errT l (errC l 0) 4096 = 0 → k.right = true → Calls Tryd.prog 17 #[.agg t.v, .agg k.v] W fun e w' => ∃ m : Nat, e = .returned (.tuple #[.int .i64 (m : Int), .bool true]) ∧ ((setsL (crossL (sA l 5) (sB l 5)))[m]? = some (ofB l (·.takes k))) ∧ Below W.heap.size W w') := fun l t W h0 h1 h2 h3 h4 => by
    obtain ⟨g1, g2, _, _, g5⟩ := errT_ok h3
    obtain ⟨_, _, _, _, g6⟩ := err_ok g1
    exact class_any t k l W h1 h2 g2 (fun r hr => ⟨h0 r hr, g6 r hr⟩) g5 ko h4
  have hsk : (Tryd.prog.info? 41).map (·.size) = some k.v.size := by show _ = some 11; kernel_rfl
  obtain ⟨R, hR⟩ : ∃ R, k.right = R := ⟨_, rfl⟩
  have HKR : Hid (k.right = R) := hR
  rw [hR] at KR
  have hsr : Hid (∀ r : Rl, (Tryd.prog.info? 53).map (·.size) = some r.v.size) := info_rl
  by_cases h64 : 64 < l.length
  · have i64 : (64 : Int) < (l.length : Int) := by omega
    have KA' : Hid _ := KA.out W1 b1
    generalize l.length = N at *
    clear hrow hT hDb hSd cm lc ko hR KC KP KR h64
    obtain ⟨KV, hKV⟩ : ∃ KV, k.v = KV := ⟨_, rfl⟩
    rw [hKV] at hW1 ⊢
    go_enter Tryd.func7, Tryd.ntmps7
    go_wp2_with fail
    refine Calls.mono KA'.out ?_
    rintro e W2 ⟨rfl, q2⟩
    have b2 := bel_tr b1 q2
    go_wp2
    go_ret
    exact ⟨rfl, b2⟩
  · have hl64 : l.length ≤ 64 := by omega
    have KK : Hid (∀ W, Below w.heap.size w W → Calls Tryd.prog 21 #[.slice a l.length c] W fun e w' => ∃ a' c', e = .returned (.slice a' (keepL l).length c') ∧ RowI w' a' ((keepL l).map fun i : Nat => (i : Int)) ∧ Below W.heap.size W w') := fun W hb => rkeep_any a c l W (by omega) (hrow.low hb)
    have KP1 : Hid (∀ W, Below w.heap.size w W → Calls Tryd.prog 9 #[.slice a l.length c, .int .i64 4096] W fun e w' => ∃ t : TR, e = .returned (.tuple #[.agg t.v, .int .i64 (errT l (errC l 0) 4096)]) ∧ t.ok w' ∧ TabC l (errT l (errC l 0) 4096) t ∧ Below W.heap.size W w') := fun W hb => KP.out a c l W hb (hrow.low hb)
    have hkl : (keepL l).length ≤ 64 := by have := keep_len l l.length; show (keepN l l.length).length ≤ 64; omega
    have HKM : Hid (∀ (n i : Nat), (keepL l)[n]? = some i → i < l.length) := fun n i h => (keep_mem.1 (List.mem_of_getElem? h)).1
    have HSL : Hid ((subL l (keepL l)).length = (keepL l).length) := sub_len l
    have HSO : Hid (∀ r ∈ subL l (keepL l), r.ok) := sub_ok hrow.each
    have HST : Hid (∀ (n i : Nat) (r : Rl), (keepL l)[n]? = some i → l[i]? = some r → (subL l (keepL l)).take (n + 1) = (subL l (keepL l)).take n ++ [r]) := fun n i r h h' => sub_take h h'
    obtain ⟨N, hN⟩ : ∃ N, l.length = N := ⟨_, rfl⟩
    have HN : Hid (l.length = N) := hN
    rw [hN] at KK KP1 hl64 HKM ⊢
    obtain ⟨KP_, hKP_⟩ : ∃ KL, keepL l = KL := ⟨_, rfl⟩
    obtain ⟨SB, hSB⟩ : ∃ SB, subL l (keepL l) = SB := ⟨_, rfl⟩
    rw [hSB] at HSL HSO HST HPAIR
    have HKL : Hid (keepL l = KP_) := hKP_
    rw [hKP_] at KK hkl HKM HSL HST
    obtain ⟨M, hM⟩ : ∃ M, KP_.length = M := ⟨_, rfl⟩
    have HM : Hid (KP_.length = M) := hM
    rw [hM] at KK hkl HSL
    obtain ⟨KV, hKV⟩ : ∃ KV, k.v = KV := ⟨_, rfl⟩
    rw [hKV] at KR KC HBK hsk hW1 ⊢
    have i64 : ¬ (64 : Int) < (N : Int) := by omega
    have KR' : Hid _ := KR.out W1
    have atk := HBK.out.at_
    clear hrow hT hDb hSd cm lc ko hR KR h64 hN hKP_ hSB hM hKV
    go_enter Tryd.func7, Tryd.ntmps7
    go_wp2_with (first | (refine wpList_load_at_w (by rfl) _ _ rfl w.heap.size 0 (by rfl) _ atk Tryd.underlying41 hsk ?_))
    refine Calls.mono KR'.out ?_
    rintro e W2 ⟨rfl, q2⟩
    have b2 := bel_tr b1 q2
    have HBK2 : Hid (Blk W2 w.heap.size 41 KV) := HBK.out.kept q2
    clear KR' atk HBK hW1
    cases R
    · have KA' : Hid _ := KA.out W2 b2
      go_wp2_with fail
      refine Calls.mono KA'.out ?_
      rintro e W3 ⟨rfl, q3⟩
      have b3 := bel_tr b2 q3
      go_wp2
      go_ret
      exact ⟨rfl, b3⟩
    · have KK' : Hid _ := KK.out W2 b2
      clear KK
      go_wp2_with fail
      refine Calls.mono KK'.out ?_
      rintro e W3 ⟨ka, kc, rfl, hki, q3⟩
      have b3 := bel_tr b2 q3
      have HKI : Hid (RowI W3 ka (KP_.map fun i : Nat => (i : Int))) := hki
      have HBK3 : Hid (Blk W3 w.heap.size 41 KV) := HBK2.out.kept q3
      clear hki KK' HBK2 q2 q3
      go_wp2_with fail
      go_loopw [6, 32] (fun v6 i wr => ∃ (n : Nat) (qa : Option Addr) (qc : Nat), n ≤ M ∧ v6 = .slice qa n qc ∧ i = .int .i64 n ∧ Hid (OwnR wr W3.heap.size qa qc (SB.take n)) ∧ Below W3.heap.size W3 wr) (fun _ i _ => M - (intOf i).toNat)
      case atStart => exact ⟨0, none, 0, Nat.zero_le _, rfl, rfl, OwnR.nil _ _, Below.refl _ _⟩
      case round =>
        obtain ⟨n, qa, qc, hn, rfl, rfl, HO, qw⟩ := hrel
        have bw : Below w.heap.size w wr := bel_tr b3 qw
        have HTL : Hid ((SB.take n).length = n) := by show _ = _; rw [List.length_take, HSL.out]; omega
        by_cases hlt : n < M
        · have ik : (n : Int) < (M : Int) := by omega
          have n0 : (0 : Int) ≤ (n : Int) := by omega
          have hw1 : IntKind.i64.wrap ((n : Int) + 1) = ((n + 1 : Nat) : Int) := by simp [IntKind.wrap, IntKind.bits, IntKind.signed]; omega
          obtain ⟨i, hi⟩ : ∃ i, KP_[n]? = some i := ⟨_, List.getElem?_eq_getElem (by rw [HM.out]; exact hlt)⟩
          have hiN := HKM.out n i hi
          obtain ⟨r, hr⟩ : ∃ r, l[i]? = some r := ⟨_, List.getElem?_eq_getElem (by rw [HN.out]; exact hiN)⟩
          have HRO : Hid r.ok := HRow.out.each r (List.mem_of_getElem? hr)
          obtain ⟨bk, ok_, ek, hck⟩ := (HKI.out.below qw).cells (by rw [List.length_map, HM.out]; omega)
          have hckn := hck n (by rw [List.length_map, HM.out]; exact hlt)
          rw [List.getD_eq_getElem?_getD, List.getElem?_map, hi] at hckn
          simp only [Option.map_some, Option.getD_some] at hckn
          obtain ⟨b, off, ha, hc⟩ := (HRow.out.low bw).cells i r hr
          have hs1 := hsr.out r
          have HTK : Hid (SB.take (n + 1) = SB.take n ++ [r]) := HST.out n i r hi hr
          have i1 : (i : Int) < (N : Int) := by omega
          have i0 : (0 : Int) ≤ (i : Int) := by omega
          obtain ⟨V2, hV2⟩ : ∃ V2, wr.alloc (.cells r.v 53) = V2 := ⟨_, rfl⟩
          have q2 := bel_nw hV2
          have qw2 := bel_tr qw q2
          obtain ⟨a', c', V3, hrun, ho, hb3⟩ := run_appRs V2 22 W3.heap.size qa qc (SB.take n) (HO.out.below q2) (some ⟨wr.heap.size, 0, none⟩) 1 [r] (row_one wr V2 r 53 hV2 HRO.out) (by intro h; cases h) (by rw [HTL.out]; simp only [List.length_cons, List.length_nil]; omega) qw2.size
          rw [← HTK.out] at hrun ho
          rw [HTL.out] at hrun
          have hl1 : (SB.take (n + 1)).length = n + 1 := by rw [List.length_take, HSL.out]; omega
          rw [hl1] at hrun
          rw [← hV2] at hrun
          have HRr : Hid ((Builtin.append_ #[22, 22] 22 #[.slice qa n qc, .slice (some ⟨wr.heap.size, 0, none⟩) 1 1]).run Tryd.prog (wr.alloc (.cells r.v 53)) = .ok (.slice a' (n + 1) c') V3) := hrun
          have HO3 : Hid (OwnR V3 W3.heap.size a' c' (SB.take (n + 1))) := ho
          have qw3 : Below W3.heap.size W3 V3 := qw2.trans hb3
          subst ek
          subst ha
          clear hrun ho hb3 hl1 hck hi hr q2 qw2 HO qw bw hV2
          go_wp2_with (first
            | (refine wpList_load_at rfl _ _ rfl b (off + i * 17) (by rfl) _ hc Tryd.underlying53 hs1 ?_)
            | (at_builtin; refine wpList_rn rfl 22 _ _ rfl _ _ rfl rfl _ _ HRr.out ?_))
          exact ⟨⟨n + 1, a', c', by omega, rfl, by first | rfl | (congr 1), HO3, qw3⟩, by simp only [intOf]; omega⟩
        · have ik : ¬ (n : Int) < (M : Int) := by omega
          have hnM : n = M := by omega
          subst hnM
          have HOA : Hid (OwnR wr W3.heap.size qa qc SB) := by
            have := HO.out
            rw [List.take_of_length_le (by rw [HSL.out]; exact Nat.le_refl _)] at this
            exact this
          have HBKw : Hid (Blk wr w.heap.size 41 KV) := HBK3.out.kept qw
          have HKIw : Hid (RowI wr ka (KP_.map fun i : Nat => (i : Int))) := HKI.out.below qw
          have K1 : Hid _ := KP1.out wr bw
          obtain ⟨E1, hE1⟩ : ∃ E1, errT l (errC l 0) 4096 = E1 := ⟨_, rfl⟩
          obtain ⟨E2, hE2⟩ : ∃ E2, errT SB (errC SB 0) 4096 = E2 := ⟨_, rfl⟩
          have HE : Hid (errT l (errC l 0) 4096 = E1 ∧ errT SB (errC SB 0) 4096 = E2) := ⟨hE1, hE2⟩
          rw [hE1] at K1
          clear HO hlt KP1 HKI HBK3 hE1 hE2 HST HKM
          go_wp2_with fail
          refine Calls.mono K1.out ?_
          rintro e V2 ⟨t, rfl, hok, htc, q2⟩
          have HOK : Hid (t.ok V2) := hok
          have HTC : Hid (TabC l E1 t) := htc
          obtain ⟨V3, hV3⟩ : ∃ V3, V2.alloc (.cells t.v 27) = V3 := ⟨_, rfl⟩
          have q3 := bel_nw hV3
          have q23 := bel_tr q2 q3
          have bw3 := bel_tr bw q23
          have HB3 : Hid (Blk V3 V2.heap.size 27 t.v) := blk_nw hV3
          have K2 : Hid _ := KP.out qa qc SB V3 bw3 ((HOA.out.below q23).row HSO.out)
          rw [HSL.out, HE.out.2] at K2
          clear hok htc K1
          go_wp2_with fail
          refine Calls.mono K2.out ?_
          rintro e V4 ⟨u, rfl, hok4, htc4, q4⟩
          have HOK4 : Hid (u.ok V4) := hok4
          have HTC4 : Hid (TabC SB E2 u) := htc4
          obtain ⟨V5, hV5⟩ : ∃ V5, V4.alloc (.cells u.v 27) = V5 := ⟨_, rfl⟩
          have q5 := bel_nw hV5
          have q45 := bel_tr q4 q5
          have bw5 := bel_tr bw3 q45
          have HB35 : Hid (Blk V5 V2.heap.size 27 t.v) := HB3.out.kept q45
          have HB55 : Hid (Blk V5 V4.heap.size 27 u.v) := blk_nw hV5
          have HBK5 : Hid (Blk V5 w.heap.size 41 KV) := HBKw.out.kept (bel_tr q23 q45)
          have HKI5 : Hid (RowI V5 ka (KP_.map fun i : Nat => (i : Int))) := HKIw.out.below (bel_tr q23 q45)
          have HOK5 : Hid (t.ok V5) := HOK.out.low (bel_tr q3 q45)
          have HOU5 : Hid (u.ok V5) := HOK4.out.low q5
          clear hok4 htc4 K2 HBKw HKIw HOK HOK4 q2 q3 q23 q4 q5 q45 HB3
          by_cases hz1 : E1 = 0
          · by_cases hz2 : E2 = 0
            · subst hz1
              subst hz2
              have KC1 : Hid _ := KC.out l t V5 HRow.out.each HOK5.out HTC.out HE.out.1 HKR.out
              have hst : (Tryd.prog.info? 27).map (·.size) = some 3 := by kernel_rfl
              have at3 := HB35.out.at_
              have atk := HBK5.out.at_
              go_wp2_with (first
                | (refine wpList_load_at rfl _ _ rfl V2.heap.size 0 (by rfl) _ at3 Tryd.underlying27 hst ?_)
                | (refine wpList_load_at rfl _ _ rfl w.heap.size 0 (by rfl) _ atk Tryd.underlying41 hsk ?_))
              refine Calls.mono KC1.out ?_
              rintro e V6 ⟨m1, rfl, hm1, q6⟩
              have HM1 : Hid ((setsL (crossL (sA l 5) (sB l 5)))[m1]? = some (ofB l (·.takes k))) := hm1
              have KC2 : Hid _ := KC.out SB u V6 HSO.out (HOU5.out.low q6) HTC4.out HE.out.2 HKR.out
              have at5 := (HB55.out.kept q6).at_
              have atk6 := (HBK5.out.kept q6).at_
              clear KC1 at3 atk hm1
              go_wp2_with (first
                | (refine wpList_load_at rfl _ _ rfl V4.heap.size 0 (by rfl) _ at5 Tryd.underlying27 hst ?_)
                | (refine wpList_load_at rfl _ _ rfl w.heap.size 0 (by rfl) _ atk6 Tryd.underlying41 hsk ?_))
              refine Calls.mono KC2.out ?_
              rintro e V7 ⟨m2, rfl, hm2, q7⟩
              have q57 := bel_tr q6 q7
              have bw7 := bel_tr bw5 q57
              obtain ⟨g1, g2, _, _, g5⟩ := errT_ok HE.out.1
              obtain ⟨g1', g2', _, _, g5'⟩ := errT_ok HE.out.2
              obtain ⟨sn1, bx1, ox1, bs1, os1, sc1, ai1, ci1, bf1, of1, hla1⟩ := last_at (HOK5.out.low q57) HTC.out g2 g5 HM1.out
              obtain ⟨sn2, bx2, ox2, bs2, os2, sc2, ai2, ci2, bf2, of2, hla2⟩ := last_at (HOU5.out.low q57) HTC4.out g2' g5' hm2
              have HPR : Hid (Pairs l k (firstN (ofB l (·.takes k))) (firstN (ofB SB (·.takes k)))) := HPAIR
              obtain ⟨Ya, hYa⟩ : ∃ Y, firstN (ofB l (·.takes k)) = Y := ⟨_, rfl⟩
              obtain ⟨Yb, hYb⟩ : ∃ Y, firstN (ofB SB (·.takes k)) = Y := ⟨_, rfl⟩
              have cf1 := hla1.cf
              have cf2 := hla2.cf
              rw [hYa] at HPR cf1
              rw [hYb] at HPR cf2
              have HB1 : Hid (Blk V7 V2.heap.size 27 #[.slice t.da t.D.length t.dc, .slice (some ⟨bx1, ox1, none⟩) t.X.length t.xc, .slice (some ⟨bf1, of1, none⟩) sn1 t.fc]) := by
                have := HB35.out.kept q57
                rw [show t.v = #[.slice t.da t.D.length t.dc, .slice (some ⟨bx1, ox1, none⟩) t.X.length t.xc, .slice (some ⟨bf1, of1, none⟩) sn1 t.fc] from by show #[_, _, _] = _; rw [hla1.xa, hla1.fa, hla1.fl]] at this
                exact this
              have HB2 : Hid (Blk V7 V4.heap.size 27 #[.slice u.da u.D.length u.dc, .slice (some ⟨bx2, ox2, none⟩) u.X.length u.xc, .slice (some ⟨bf2, of2, none⟩) sn2 u.fc]) := by
                have := HB55.out.kept q57
                rw [show u.v = #[.slice u.da u.D.length u.dc, .slice (some ⟨bx2, ox2, none⟩) u.X.length u.xc, .slice (some ⟨bf2, of2, none⟩) sn2 u.fc] from by show #[_, _, _] = _; rw [hla2.xa, hla2.fa, hla2.fl]] at this
                exact this
              have c1 := HB1.out.cell 2 _ rfl
              have c2 := HB2.out.cell 2 _ rfl
              have n1 : m1 < sn1 := hla1.lt.1
              have n2 : m2 < sn2 := hla2.lt.1
              have da1 : decide (sn1 ≤ m1) = false := by simp; omega
              have da2 : decide ((m1 : Int) < 0) = false := by simp
              have da3 : decide ((sn1 : Int) ≤ (m1 : Int)) = false := by simp; omega
              have db1 : decide (sn2 ≤ m2) = false := by simp; omega
              have db2 : decide ((m2 : Int) < 0) = false := by simp
              have db3 : decide ((sn2 : Int) ≤ (m2 : Int)) = false := by simp; omega
              have im1 : (m1 : Int) < (sn1 : Int) := by omega
              have im2 : (m2 : Int) < (sn2 : Int) := by omega
              have im10 : (0 : Int) ≤ (m1 : Int) := by omega
              have im20 : (0 : Int) ≤ (m2 : Int) := by omega
              have HKI7 : Hid (RowI V7 ka (KP_.map fun i : Nat => (i : Int))) := HKI5.out.below q57
              clear KC2 at5 atk6 hm2 hYa hYb hla1 hla2 g1 g2 g5 g1' g2' g5' HM1 KC KP HB35 HB55 HOK5 HOU5 HTC HTC4 HBK5 HKI5 q6 q7 q57
              go_wp2_with fail
              go_quiet (fail)
              have q8 : Below V7.heap.size V7 (V7.drewN nq) := below_drewN (Below.refl _ _) nq
              obtain ⟨V8, hV8⟩ : ∃ V8, V7.drewN nq = V8 := ⟨_, rfl⟩
              rw [hV8] at q8
              try rw [hV8]
              have bw8 := bel_tr bw7 q8
              have HKI8 : Hid (RowI V8 ka (KP_.map fun i : Nat => (i : Int))) := HKI7.out.below q8
              have KA' : Hid _ := KA.out V8 bw8
              clear c1 c2 cf1 cf2 HKI7 hV8 q8 HB1 HB2
              rcases HPR.out with ⟨e1, e2⟩ | ⟨i, j, e1, e2, e3⟩
              · subst e1
                subst e2
                go_wp2_with fail
                refine Calls.mono KA'.out ?_
                rintro e V9 ⟨rfl, q9⟩
                have bw9 := bel_tr bw8 q9
                go_wp2
                go_ret
                exact ⟨rfl, bw9⟩
              · subst e1
                subst e2
                rw [HKL.out] at e3
                have hj := (List.getElem?_eq_some_iff.1 e3).1
                rw [HM.out] at hj
                obtain ⟨bk, ok_, ek, hck⟩ := HKI8.out.cells (by rw [List.length_map, HM.out]; omega)
                have hckj := hck j (by rw [List.length_map, HM.out]; exact hj)
                rw [List.getD_eq_getElem?_getD, List.getElem?_map, e3] at hckj
                simp only [Option.map_some, Option.getD_some] at hckj
                subst ek
                have ij : (j : Int) < (n : Int) := by omega
                have ij0 : (0 : Int) ≤ (j : Int) := by omega
                have hee : ((i : Int) == (i : Int)) = true := by simp
                clear hck e3
                go_wp2_with fail
                refine Calls.mono KA'.out ?_
                rintro e V9 ⟨rfl, q9⟩
                have bw9 := bel_tr bw8 q9
                go_wp2
                go_ret
                exact ⟨rfl, bw9⟩
            · have hne1 : (E1 != 0) = false := by simp [hz1]
              have hne2 : (E2 != 0) = true := by simpa using hz2
              have KA' : Hid _ := KA.out V5 bw5
              clear hz1 hz2
              go_wp2_with fail
              refine Calls.mono KA'.out ?_
              rintro e V6 ⟨rfl, q6⟩
              have bw6 := bel_tr bw5 q6
              go_wp2
              go_ret
              exact ⟨rfl, bw6⟩
          · have hne1 : (E1 != 0) = true := by simpa using hz1
            have KA' : Hid _ := KA.out V5 bw5
            clear hz1
            go_wp2_with fail
            refine Calls.mono KA'.out ?_
            rintro e V6 ⟨rfl, q6⟩
            have bw6 := bel_tr bw5 q6
            go_wp2
            go_ret
            exact ⟨rfl, bw6⟩
end Go.Proofs.YtcoldgpnkdallaaDoor
namespace Go.Proofs.YtcoldgpnkdallaaDoor.rfcHidden
open Go.ChangeShapes Go.WideShapes Go.ChangeAt Go.RowKit
set_option linter.unusedVariables false
set_option linter.unusedSimpArgs false
theorem own : ownKnob Tryd.prog.godebug = none := by kernel_rfl
theorem laidOut : laidOutB Tryd.prog = true := by kernel_rfl
set_option maxRecDepth 100000 in
theorem contract (H : Type) (enc : TypeId × Value → H) (W : World) (base : Nat) (args : Array Value) (ds gs : List (DataW H)) (before : List MemPlace)
    (hval : ∀ (j : Nat) t v, Tryd.f7.params[j]? = some t → args[j]? = some v → Value.okWide Tryd.prog W .any base t v)
    (hW : DataW.Whole enc Tryd.prog Tryd.f7.params.toList Rows.rfcHiddenSpec.vars false W args.toList ds gs before)
    (hsz : (DataW.weightsEach Tryd.prog (Tryd.f7.params.toList ++ Rows.rfcHiddenSpec.plain.varTypes Tryd.prog) (ds ++ gs)).all (· ≤ reachBytes) = true)
    (hL : laidMetH Tryd.prog Rows.rfcHiddenRow.laid W) (hsh : W.ShapedOpen Tryd.prog) :
    Calls Tryd.prog 7 args W fun e W' => ∃ v, e = .returned v ∧ Rows.rfcHiddenSpec.post enc Tryd.prog Tryd.f7 false true false false W args v W' := by
  have hW' := hW
  obtain ⟨p, q, hA0, hV, rfl, hfz, hnd⟩ := hW
  have hA : DataW.TrodAll enc Tryd.prog W 0 (fun _ => true) true Tryd.f7.params.toList args.toList ds p := hA0
  rw [Tryd.params7] at hA hval hsz
  obtain ⟨v0, vs0, d0, ds0, p0, q0, hargs, rfl, rfl, h0, r0⟩ := trodAll_cons hA
  obtain ⟨v1, vs1, d1, ds1, p1, q1, rfl, rfl, rfl, h1, r1⟩ := trodAll_cons r0
  obtain ⟨rfl, rfl, rfl⟩ := trodAll_nil r1
  obtain rfl : args = #[v0, v1] := by cases args; simp_all
  obtain ⟨rfl, rfl⟩ := trodVars_none hV
  have lt0 : ∀ x ∈ p0, x.block < W.heap.size := by obtain ⟨m, hm⟩ := h0; exact DataW.trod_lt m _ _ _ hm
  have s0 : ∀ n ∈ d0.weights Tryd.prog 22, n ≤ reachBytes := fun n hn => by simpa using List.all_eq_true.1 hsz n (DataW.weights_mem_each (j := 0) (t := 22) rfl rfl n hn)
  obtain ⟨a0, c0, l0, rfl, lc0, cm0, w0⟩ := open_rules (hval 0 22 v0 rfl rfl) h0 s0
  have lt1 : ∀ x ∈ p1, x.block < W.heap.size := by obtain ⟨m, hm⟩ := h1; exact DataW.trod_lt m _ _ _ hm
  obtain ⟨k1, rfl, ok1⟩ := open_key (hval 1 41 v1 rfl rfl) h1
  obtain ⟨hT, hDb, hSd⟩ := three_of (show laidMet Tryd.prog Rows.rfcHiddenRow.laid W from hL)
  clear hA0 hval
  refine (rfcHidden_walk a0 c0 l0 k1 W lc0 cm0 w0 ok1 hT hDb hSd).mono fun e W' ⟨he, bel⟩ => ?_
  subst he
  exact ⟨_, rfl, _, _, _, [], _, [], hW', trodAll_mk1 (shut_bool Tryd.underlying4 _), (trodAll_cons_mk (Below.trod laidOut (by kernel_rfl) (of_decide_eq_true (by kernel_rfl)) h0 bel lt0) (trodAll_cons_mk (Below.trod laidOut (by kernel_rfl) (of_decide_eq_true (by kernel_rfl)) h1 bel lt1) trodAll_mk0)), rfl, bel.frame _, fun h => by cases h⟩
theorem laid_met (os : Os) : laidMet Tryd.prog Rows.rfcHiddenRow.laid (({ World.holding Tryd.prog os ⟨#[], #[], []⟩ with heap := (((World.holding Tryd.prog os ⟨#[], #[], []⟩).heap.modify 1 (layOne (layA Rows.laid_stockade_chunk_greatest))).modify 2 (layOne (layA Rows.laid_math_bits_deBruijn64tab))).modify 0 (layOne (layB Rows.laid_stockade_rfc_sides)) } : World).forCall (fun _ _ => 0) ⟨#[], #[.slice none 0 0, .agg #[.int .i64 0, .int .i64 0, .int .i64 0, .int .u64 0, .int .u64 0, .int .i64 0, .int .u64 0, .int .u64 0, .int .i64 0, .int .i64 0, .int .i64 0]], []⟩).memory :=
  laidMet_of_run' 8 (by kernel_rfl) (by kernel_rfl)
theorem reads (os : Os) {H : Type} (enc : TypeId × Value → H) : ∃ places, DataW.whole enc Tryd.prog (({ World.holding Tryd.prog os ⟨#[], #[], []⟩ with heap := (((World.holding Tryd.prog os ⟨#[], #[], []⟩).heap.modify 1 (layOne (layA Rows.laid_stockade_chunk_greatest))).modify 2 (layOne (layA Rows.laid_math_bits_deBruijn64tab))).modify 0 (layOne (layB Rows.laid_stockade_rfc_sides)) } : World).forCall (fun _ _ => 0) ⟨#[], #[.slice none 0 0, .agg #[.int .i64 0, .int .i64 0, .int .i64 0, .int .u64 0, .int .u64 0, .int .i64 0, .int .u64 0, .int .u64 0, .int .i64 0, .int .i64 0, .int .i64 0]], []⟩).memory Tryd.f7.params.toList Rows.rfcHiddenSpec.vars false (#[.slice none 0 0, .agg #[.int .i64 0, .int .i64 0, .int .i64 0, .int .u64 0, .int .u64 0, .int .i64 0, .int .u64 0, .int .u64 0, .int .i64 0, .int .i64 0, .int .i64 0]] : Array Value).toList 8 = some ([.nil, .agg [.lit (.int .i64 0), .lit (.int .i64 0), .agg [.lit (.int .i64 0), .lit (.int .u64 0), .lit (.int .u64 0)], .agg [.lit (.int .i64 0), .lit (.int .u64 0), .lit (.int .u64 0)], .lit (.int .i64 0), .lit (.int .i64 0), .lit (.int .i64 0)]], [], places) :=
  ⟨[], by kernel_rfl⟩
set_option maxRecDepth 100000 in
theorem lifted (os : Os) (started : os.Started) (H : Type) (enc : TypeId × Value → H) (F : Stop.Interp) :
    ReturnsInHanded {} Tryd.checked os 7 .any ((OpenSpec.ofChange Rows.rfcHiddenSpec).preRow enc Tryd.prog Tryd.f7 Rows.rfcHiddenRow.domain false Rows.rfcHiddenRow.laid) (((OpenSpec.ofChange Rows.rfcHiddenSpec).at F).post enc Tryd.prog Tryd.f7 false true false false) := by
  obtain ⟨places, hx⟩ := reads os enc
  refine returnsInHanded_of_row (C := Tryd.checked) (s := (OpenSpec.ofChange Rows.rfcHiddenSpec)) own started (by kernel_rfl) Tryd.func7
    (witness_row_at (enc := enc) (C := Tryd.checked) false ({ World.holding Tryd.prog os ⟨#[], #[], []⟩ with heap := (((World.holding Tryd.prog os ⟨#[], #[], []⟩).heap.modify 1 (layOne (layA Rows.laid_stockade_chunk_greatest))).modify 2 (layOne (layA Rows.laid_math_bits_deBruijn64tab))).modify 0 (layOne (layB Rows.laid_stockade_rfc_sides)) } : World) #[.slice none 0 0, .agg #[.int .i64 0, .int .i64 0, .int .i64 0, .int .u64 0, .int .u64 0, .int .i64 0, .int .u64 0, .int .u64 0, .int .i64 0, .int .i64 0, .int .i64 0]] rfl (by kernel_rfl) (by kernel_rfl) (by kernel_rfl)
      (OpenSpec.preRow_of_cond 8 hx (by kernel_rfl) (fun k hk => by cases hk) (by kernel_rfl) (laid_met os))) ?_
  intro W base args ds gs before hval hW _ _ hsz hL hsh _
  exact contract H enc W base args ds gs before hval hW hsz hL hsh
theorem said : Rows.RfcHiddenSaid :=
  OpenClaim.holds_of_cond 7 Tryd.f7 rfl rfl rfl rfl rfl rfl rfl ⟨rfl, rfl, rfl, rfl, rfl⟩ rfl rfl rfl rfl rfl (by kernel_rfl) Tryd.func7 (by kernel_rfl)
    (of_decide_eq_true (by kernel_rfl)) (by unfold Func.isWrapper; first | (rw [if_pos (by decide +kernel)]; kernel_rfl) | (rw [if_neg (by decide +kernel)]; exact ⟨rfl, rfl⟩))
    (fun os started H enc _ F => by rw [OpenClaim.pre_eq_preRow]; exact lifted os started H enc F)
theorem plain (f : FuncId) (fn : Func) (hf : Tryd.pinned.checked.prog.funcNamed "stockade/stockadelaw12.RfcHidden" = some f) (hfn : Tryd.pinned.checked.prog.funcs[f]? = some fn) :
    false = Tryd.pinned.checked.prog.looks [] ∧ ∀ (j : Nat) t, fn.params[j]? = some t → Tryd.pinned.checked.prog.wantsStandIn t = false := by
  obtain rfl : f = 7 := Option.some.inj ((show Tryd.prog.funcNamed "stockade/stockadelaw12.RfcHidden" = some 7 by kernel_rfl).symm.trans hf) |>.symm
  obtain rfl : fn = Tryd.f7 := (Option.some.inj (Tryd.func7.symm.trans hfn)).symm
  refine ⟨by kernel_rfl, fun j t ht => ?_⟩
  rw [Tryd.params7] at ht
  have hm : t ∈ [22, 41] := by simpa using Array.mem_of_getElem? ht
  have hall : ([22, 41].all fun u => !Tryd.prog.wantsStandIn u) = true := by kernel_rfl
  exact (show Tryd.prog.wantsStandIn t = false by simpa using List.all_eq_true.1 hall t hm)
end Go.Proofs.YtcoldgpnkdallaaDoor.rfcHidden
namespace Go.Proofs.YtcoldgpnkdallaaDoor
theorem rfcHidden_holds : Rows.RfcHiddenCardSaid :=
  Claim7.holds_tied_plain_at .later [] _ _ _ _ rfcHidden.said (fun _ h => by cases h) (by kernel_rfl) (fun _ h => by cases h) rfcHidden_row_tie rfl ⟨rfl, rfl⟩ (by kernel_rfl) rfl rfcHidden.plain (by kernel_rfl)
end Go.Proofs.YtcoldgpnkdallaaDoor
