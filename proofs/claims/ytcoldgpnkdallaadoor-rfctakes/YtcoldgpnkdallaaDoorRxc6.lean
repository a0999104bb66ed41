/- Texts joined: RfcTakesWalk -/
import Derived.Test.YtcoldgpnkdallaaDoorRxa0
import Derived.Test.YtcoldgpnkdallaaDoorRxa1
import Derived.Test.YtcoldgpnkdallaaDoorRxa2
import Derived.Test.YtcoldgpnkdallaaDoorRxa3
import Derived.Test.YtcoldgpnkdallaaDoorRxa4
import Derived.Test.YtcoldgpnkdallaaDoorRxa5
import Derived.Test.YtcoldgpnkdallaaDoorRxa6
import Derived.Test.YtcoldgpnkdallaaDoorRxa7
import Derived.Test.YtcoldgpnkdallaaDoorRxa8
import Derived.Test.YtcoldgpnkdallaaDoorRxa9
import Derived.Test.YtcoldgpnkdallaaDoorRxa10
import Derived.Test.YtcoldgpnkdallaaDoorRxa11
import Derived.Test.YtcoldgpnkdallaaDoorRxa12
import Derived.Test.YtcoldgpnkdallaaDoorRxa13
import Derived.Test.YtcoldgpnkdallaaDoorRxa14
import Derived.Test.YtcoldgpnkdallaaDoorRxa15
import Derived.Test.YtcoldgpnkdallaaDoorRxa16
import Derived.Test.YtcoldgpnkdallaaDoorRxa17
import Derived.Test.YtcoldgpnkdallaaDoorRxa18
import Derived.Test.YtcoldgpnkdallaaDoorRxa19
import Derived.Test.YtcoldgpnkdallaaDoorRxa20
import Derived.Test.YtcoldgpnkdallaaDoorRxa21
import Derived.Test.YtcoldgpnkdallaaDoorRxa22
import Derived.Test.YtcoldgpnkdallaaDoorRxa23
import Derived.Test.YtcoldgpnkdallaaDoorRxa24
import Derived.Test.YtcoldgpnkdallaaDoorRxa25
import Derived.Test.YtcoldgpnkdallaaDoorRxa26
import Derived.Test.YtcoldgpnkdallaaDoorRxa27
import Derived.Test.YtcoldgpnkdallaaDoorRxa28
import Derived.Test.YtcoldgpnkdallaaDoorRxa29
import Derived.Test.YtcoldgpnkdallaaDoorRxa30
import Derived.Test.YtcoldgpnkdallaaDoorRxa31
import Derived.Test.YtcoldgpnkdallaaDoorRxa32
import Derived.Test.YtcoldgpnkdallaaDoorRxa33
import Derived.Test.YtcoldgpnkdallaaDoorRxa34
import Derived.Test.YtcoldgpnkdallaaDoorRxa35
import Derived.Test.YtcoldgpnkdallaaDoorRxa36
import Derived.Test.YtcoldgpnkdallaaDoorRxa37
import Derived.Test.YtcoldgpnkdallaaDoorRxa39
import Derived.Test.YtcoldgpnkdallaaDoorRxa41
import Derived.Test.YtcoldgpnkdallaaDoorRxc5
import Derived.Deep.QuietTactic
import Derived.BigQuiet
import Derived.BigRegion
import Derived.Deep.RegionWith
import Derived.Deep.RegionHeld3
namespace Go.Proofs.YtcoldgpnkdallaaDoor
open Go.RowKit
set_option linter.unusedVariables false
set_option linter.unusedSimpArgs false
/-- The rules of the first n that take a key. -/
def wantN (l : List Rl) (k : Ky) (n : Nat) : List Nat := (List.range n).filter fun i => (l[i]?.map (·.takes k)).getD false
theorem want_succ {l : List Rl} {k : Ky} {n : Nat} {r : Rl} (h : l[n]? = some r) : wantN l k (n + 1) = if r.takes k then wantN l k n ++ [n] else wantN l k n := by
  unfold wantN
  rw [List.range_succ, List.filter_append]
  cases ht : r.takes k
  · simp [h, ht]
  · simp [h, ht]
theorem want_len (l : List Rl) (k : Ky) (n : Nat) : (wantN l k n).length ≤ n := by
  have := List.length_filter_le (fun i => (l[i]?.map (·.takes k)).getD false) (List.range n)
  simpa [wantN] using this
theorem want_all (l : List Rl) (k : Ky) : wantN l k l.length = ofB l (·.takes k) := rfl
/-- What the laws ask of the tables and of a key's class. -/
structure LastAt (w : World) (t : TR) (m : Nat) (TK : List Nat) (Y : Int) (sn : Nat) (bx ox : Nat) (bs os : Nat) (sc : Nat) (ai : Option Addr) (ci : Nat) (bf of_ : Nat) : Prop where
  lt : m < sn ∧ sn ≤ 10000
  fl : t.F.length = sn
  xa : t.xa = some ⟨bx, ox, none⟩
  cx : w.cell? ⟨bx, ox + 17, none⟩ = some (.slice (some ⟨bs, os, none⟩) sn sc)
  cs : w.cell? ⟨bs, os + m, none⟩ = some (.slice ai TK.length ci)
  ri : RowI w ai (ints TK)
  fa : t.fa = some ⟨bf, of_, none⟩
  cf : w.cell? ⟨bf, of_ + m, none⟩ = some (.int .i64 Y)
theorem LastAt.below {w w' : World} {t : TR} {m : Nat} {TK : List Nat} {Y : Int} {sn bx ox bs os sc : Nat} {ai : Option Addr} {ci bf of_ : Nat} (h : LastAt w t m TK Y sn bx ox bs os sc ai ci bf of_) (hb : Below w.heap.size w w') : LastAt w' t m TK Y sn bx ox bs os sc ai ci bf of_ :=
  ⟨h.lt, h.fl, h.xa, kept hb h.cx, kept hb h.cs, h.ri.below hb, h.fa, kept hb h.cf⟩
theorem last_at {l : List Rl} {t : TR} {w : World} (hok : t.ok w) (htc : TabC l 0 t) (hl : l.length ≤ 64) (hc4 : costN l 6 ≤ 4096) {m : Nat} {TK : List Nat} (hm : (setsL (crossL (sA l 5) (sB l 5)))[m]? = some TK) :
    ∃ sn bx ox bs os sc ai ci bf of_, LastAt w t m TK (firstN TK) sn bx ox bs os sc ai ci bf of_ := by
  rcases htc with ⟨h0, _⟩ | ⟨_, D, X, hI, hD, hX⟩
  · exact absurd rfl h0
  obtain ⟨s1, s2, s3⟩ := tab_small hl hc4 hI
  have e1 := List.getElem?_eq_getElem (l := X) (i := 5) (by rw [hI.x6]; omega)
  obtain ⟨_, _, u3⟩ := hI.crs 5 _ e1
  have hxr : t.X[5]? = some (X[5]'(by rw [hI.x6]; omega)).r := by rw [hX, List.getElem?_map, e1]; rfl
  obtain ⟨bx, ox, ex, cx⟩ := hok.x.cells 5 _ hxr
  have okx := hok.x.each _ (List.mem_of_getElem? hxr)
  have hS : ((X[5]'(by rw [hI.x6]; omega)).r).S = (setsL (crossL (sA l 5) (sB l 5))).map ints := by show List.map ints _ = _; rw [u3]
  have rs := okx.s
  rw [hS] at rs
  have hmlt := (List.getElem?_eq_some_iff.1 hm).1
  obtain ⟨bs, os, ai, ci, es, cs, ri⟩ := rs.cells m (ints TK) (by rw [List.getElem?_map, hm]; rfl)
  have hF : t.F = (setsL (crossL (sA l 5) (sB l 5))).map firstN := hI.fst
  have hfl : t.F.length = (setsL (crossL (sA l 5) (sB l 5))).length := by rw [hF, List.length_map]
  obtain ⟨bf, of_, ef, cf⟩ := hok.f.cells (by rw [hfl]; omega)
  have cfm := cf m (by rw [hfl]; exact hmlt)
  rw [hF, List.getD_eq_getElem?_getD, List.getElem?_map, hm] at cfm
  simp only [Option.map_some, Option.getD_some] at cfm
  have c2 := cx.2 2 (.slice ((X[5]'(by rw [hI.x6]; omega)).r).a3 ((X[5]'(by rw [hI.x6]; omega)).r).S.length ((X[5]'(by rw [hI.x6]; omega)).r).c3) rfl
  rw [hS, List.length_map, es] at c2
  rw [List.length_map] at cs
  rw [show ox + 5 * 3 + 2 = ox + 17 from rfl] at c2
  rw [hfl] at s3
  exact ⟨_, bx, ox, bs, os, _, ai, ci, bf, of_, ⟨hmlt, s3⟩, hfl, ex, c2, cs, ri, ef, cfm⟩
set_option maxRecDepth 100000 in
set_option maxHeartbeats 16000000 in
theorem rfcTakes_walk (a : Option Addr) (c : Nat) (l : List Rl) (k : Ky) (w : World) (lc : l.length ≤ c) (cm : c * 136 ≤ 140737488351232 ∧ (a = none → c = 0)) (hrow : RowR w a l) (ko : k.ok) (hT : Top w) (hDb : Deb w) (hSd : Sds w) : Calls Tryd.prog 5 #[.slice a l.length c, .agg k.v] w fun e w' => e = .returned (.bool true) ∧ Below w.heap.size w w' := by
  have KA : Hid (∀ W, Below w.heap.size w W → Calls Tryd.prog 12 #[] W fun e w' => e = .returned (.bool true) ∧ Below W.heap.size W w') := fun W hb => alive_rf W (hT.below hb) (hDb.below hb) (hSd.below hb)
  have hn44 : l.length ≤ 17592186044416 := by omega
  obtain ⟨W1, hW1⟩ : ∃ W1, w.alloc (.cells k.v 41) = W1 := ⟨_, rfl⟩
  have b1 := bel_nw hW1
  have HBK : Hid (Blk W1 w.heap.size 41 k.v) := blk_nw hW1
  have K1 : Hid _ := compile_tr a c l 4096 W1 (hT.below b1) (hDb.below b1) (hSd.below b1) (hrow.low b1)
  have KR : Hid (∀ W, Calls Tryd.prog 16 #[.agg k.v] W fun e w' => e = .returned (.bool k.right) ∧ Below W.heap.size W w') := fun W => rrightKey_any k W ko
  have HRow : Hid (RowR w a l) := hrow
  have KT : Hid (∀ (r : Rl), r.ok → ∀ W, Calls Tryd.prog 18 #[.agg r.v, .agg k.v] W fun e w' => e = .returned (.bool (r.takes k)) ∧ Below W.heap.size W w') := fun r ho W => rtakes_any r k W ho ko
  have KF : Hid (∀ W, Below w.heap.size w W → Calls Tryd.prog 19 #[.slice a l.length c, .agg k.v] W fun e w' => e = .returned (.tuple #[.int .i64 (firstN (ofB l (·.takes k))), .bool (findL l k).isSome]) ∧ Below W.heap.size W w') := fun W hb => by rw [first_find]; exact rfind_any a c l k W hn44 (hrow.low hb) ko
  have KC : Hid (∀ (t : TR) W, t.ok W → TabC l 0 t → errT l (errC l 0) 4096 = 0 → k.right = true → Calls Tryd.prog 17 #[.agg t.v, .agg k.v] W fun e w' => ∃ m : Nat, e = .returned (.tuple #[.int .i64 (m : Int), .bool true]) ∧ ((setsL (crossL (sA l 5) (sB l 5)))[m]? = some (ofB l (·.takes k))) ∧ Below W.heap.size W w') := fun t W h1 h2 h3 h4 => by
    obtain ⟨g1, g2, _, _, g5⟩ := errT_ok h3
    obtain ⟨_, _, _, _, g6⟩ := err_ok g1
    exact class_any t k l W h1 h2 g2 (fun r hr => ⟨hrow.each r hr, g6 r hr⟩) g5 ko h4
  have HWN : Hid (wantN l k l.length = ofB l (·.takes k)) := want_all l k
  obtain ⟨N, hN⟩ : ∃ N, l.length = N := ⟨_, rfl⟩
  have HN : Hid (l.length = N) := hN
  rw [hN] at K1 KF HWN hn44 ⊢
  have hsk : (Tryd.prog.info? 41).map (·.size) = some k.v.size := by show _ = some 11; kernel_rfl
  have hkr : ∃ R, k.right = R := ⟨_, rfl⟩
  obtain ⟨R, hR⟩ := hkr
  have HKR : Hid (k.right = R) := hR
  rw [hR] at KR
  obtain ⟨KV, hKV⟩ : ∃ KV, k.v = KV := ⟨_, rfl⟩
  rw [hKV] at KR KT KF KC HBK hsk hW1 ⊢
  have hsr : Hid (∀ r : Rl, (Tryd.prog.info? 53).map (·.size) = some r.v.size) := info_rl
  obtain ⟨E, hEE⟩ : ∃ E, errT l (errC l 0) 4096 = E := ⟨_, rfl⟩
  rw [hEE] at K1 KC
  have HEE : Hid (errT l (errC l 0) 4096 = E) := hEE
  clear hN hrow hT hDb hSd cm lc ko hKV hR hEE
  go_enter Tryd.func5, Tryd.ntmps5
  go_wp2_with fail
  refine Calls.mono K1.out ?_
  rintro e W2 ⟨t, rfl, hok, htc, q2⟩
  have b2 := bel_tr b1 q2
  have HOK : Hid (t.ok W2) := hok
  have HTC : Hid (TabC l E t) := htc
  obtain ⟨W3, hW3⟩ : ∃ W3, W2.alloc (.cells t.v 27) = W3 := ⟨_, rfl⟩
  have q3 := bel_nw hW3
  have b3 := bel_tr b2 q3
  have HB3 : Hid (Blk W3 W2.heap.size 27 t.v) := blk_nw hW3
  have HBK3 : Hid (Blk W3 w.heap.size 41 KV) := HBK.out.kept (bel_tr q2 q3)
  clear hok htc K1
  by_cases hE : E = 0
  · subst hE
    have KR' : Hid _ := KR.out W3
    have atk := HBK3.out.at_
    go_wp2_with (first | (refine wpList_load_at_w (by rfl) _ _ rfl w.heap.size 0 (by rfl) _ atk Tryd.underlying41 hsk ?_))
    refine Calls.mono KR'.out ?_
    rintro e W4 ⟨rfl, q4⟩
    have b4 := bel_tr b3 q4
    clear KR'
    cases R
    · have KA' : Hid _ := KA.out W4 b4
      clear atk
      go_wp2_with fail
      refine Calls.mono KA'.out ?_
      rintro e W5 ⟨rfl, q5⟩
      have b5 := bel_tr b4 q5
      go_wp2
      go_ret
      exact ⟨rfl, b5⟩
    · have HB4 : Hid (Blk W4 W2.heap.size 27 t.v) := HB3.out.kept q4
      have HBK4 : Hid (Blk W4 w.heap.size 41 KV) := HBK3.out.kept q4
      have KC' : Hid _ := KC.out t W4 (HOK.out.low (bel_tr q3 q4)) HTC.out (by first | rfl | trivial) HKR.out
      have hst : (Tryd.prog.info? 27).map (·.size) = some 3 := by kernel_rfl
      have at4 := HB4.out.at_
      have atk4 := HBK4.out.at_
      clear atk
      go_wp2_with (first
        | (refine wpList_load_at rfl _ _ rfl W2.heap.size 0 (by rfl) _ at4 Tryd.underlying27 hst ?_)
        | (refine wpList_load_at rfl _ _ rfl w.heap.size 0 (by rfl) _ atk4 Tryd.underlying41 hsk ?_))
      refine Calls.mono KC'.out ?_
      rintro e W5 ⟨m, rfl, hm, q5⟩
      have b5 := bel_tr b4 q5
      obtain ⟨g1, g2, _, _, g5⟩ := errT_ok HEE.out
      obtain ⟨sn, bx, ox, bs, os, sc, ai, ci, bf, of_, hla⟩ := last_at (HOK.out.low (bel_tr q3 (bel_tr q4 q5))) HTC.out g2 g5 hm
      have HN64 : Hid (N ≤ 64) := by rw [← HN.out]; exact g2
      obtain ⟨TK, hTK⟩ : ∃ TK, ofB l (·.takes k) = TK := ⟨_, rfl⟩
      rw [hTK] at hla KF HWN
      obtain ⟨Y, hY⟩ : ∃ Y, firstN TK = Y := ⟨_, rfl⟩
      rw [hY] at hla KF
      have HLA : Hid (LastAt W5 t m TK Y sn bx ox bs os sc ai ci bf of_) := hla
      have HB5 : Hid (Blk W5 W2.heap.size 27 #[.slice t.da t.D.length t.dc, .slice (some ⟨bx, ox, none⟩) t.X.length t.xc, .slice (some ⟨bf, of_, none⟩) sn t.fc]) := by
        have := HB4.out.kept q5
        rw [show t.v = #[.slice t.da t.D.length t.dc, .slice (some ⟨bx, ox, none⟩) t.X.length t.xc, .slice (some ⟨bf, of_, none⟩) sn t.fc] from by show #[_, _, _] = _; rw [hla.xa, hla.fa, hla.fl]] at this
        exact this
      have HX6 : Hid (t.X.length = 6) := by
        rcases HTC.out with ⟨h0, _⟩ | ⟨_, D, X, hI, hD, hX⟩
        · exact absurd rfl h0
        · show _ = _; rw [hX, List.length_map, hI.x6]
      rw [HX6.out] at HB5
      have HBK5 : Hid (Blk W5 w.heap.size 41 KV) := HBK4.out.kept q5
      have c1 := HB5.out.cell 1 _ rfl
      have c2 := HB5.out.cell 2 _ rfl
      have c3 := hla.cx
      have m1 : (m : Int) < (sn : Int) := by have := hla.lt.1; omega
      have m0 : (0 : Int) ≤ (m : Int) := by omega
      have dm1 : decide (sn ≤ m) = false := by simp; omega
      have dm2 : decide ((m : Int) < 0) = false := by simp
      have dm3 : decide ((sn : Int) ≤ (m : Int)) = false := by simp; omega
      clear KC' at4 atk4 hm hla hTK hY g1 g2 g5 KC HB4 HB3 HBK3 HBK4 HOK HTC
      go_wp2_with fail
      clear c1 c2 c3
      go_loopw [9, 58] (fun v9 i wr => ∃ (n : Nat) (qa : Option Addr) (qc : Nat), n ≤ N ∧ v9 = .slice qa (wantN l k n).length qc ∧ i = .int .i64 n ∧ Hid (OwnI wr W5.heap.size qa qc (wantN l k n)) ∧ Below W5.heap.size W5 wr) (fun _ i _ => N - (intOf i).toNat)
      case atStart => exact ⟨0, none, 0, Nat.zero_le _, rfl, rfl, OwnI.nil _ _, Below.refl _ _⟩
      case round =>
        obtain ⟨n, qa, qc, hn, rfl, rfl, HO, qw⟩ := hrel
        by_cases hlt : n < N
        · have ik : (n : Int) < (N : Int) := by omega
          have n0 : (0 : Int) ≤ (n : Int) := by omega
          have hw1 : IntKind.i64.wrap ((n : Int) + 1) = ((n + 1 : Nat) : Int) := by simp [IntKind.wrap, IntKind.bits, IntKind.signed]; omega
          obtain ⟨r, hr⟩ : ∃ r, l[n]? = some r := ⟨_, List.getElem?_eq_getElem (by rw [HN.out]; exact hlt)⟩
          have bw : Below w.heap.size w wr := bel_tr b5 qw
          have HRO : Hid r.ok := HRow.out.each r (List.mem_of_getElem? hr)
          obtain ⟨b, off, ha, hc⟩ := (HRow.out.low bw).cells n r hr
          have hs1 := hsr.out r
          have hws := want_succ (k := k) hr
          have KT' : Hid _ := KT.out r HRO.out
          obtain ⟨tk, htk⟩ : ∃ tk, r.takes k = tk := ⟨_, rfl⟩
          rw [htk] at KT' hws
          have HBKw : Hid (Blk wr w.heap.size 41 KV) := HBK5.out.kept qw
          obtain ⟨WL, hWL⟩ : ∃ WL, wantN l k n = WL := ⟨_, rfl⟩
          have hwl := want_len l k n
          rw [hWL] at hws hwl HO ⊢
          have HWS : Hid (wantN l k (n + 1) = if tk = true then WL ++ [n] else WL) := hws
          have HWL : Hid (WL.length ≤ n) := hwl
          obtain ⟨wl, hwl'⟩ : ∃ wl, WL.length = wl := ⟨_, rfl⟩
          have HWL' : Hid (WL.length = wl) := hwl'
          rw [hwl']
          have hst17 : (Instr.storeAt 53 (.pointer (some ⟨wr.heap.size, 0, none⟩)) (.agg r.v)).run Tryd.prog (wr.alloc (.cells z17 53)) = .ok () (wr.alloc (.cells r.v 53)) := run_storeAt_new (P := Tryd.prog) wr 53 z17 r.v (by kernel_rfl) rfl (by kernel_rfl)
          obtain ⟨RA, hRA⟩ : ∃ RA, r.v = RA := ⟨_, rfl⟩
          rw [hRA] at KT' hc hs1 hst17
          obtain ⟨V2, hV2⟩ : ∃ V2, wr.alloc (.cells RA 53) = V2 := ⟨_, rfl⟩
          rw [hV2] at hst17
          have q2' := bel_nw hV2
          have atr := (blk_nw hV2).at_
          have atk2 := (HBKw.out.kept q2').at_
          have KT2 : Hid _ := KT'.out V2
          subst ha
          clear hws hwl hwl' hRA hr htk hWL KT'
          go_wp2_with (first
            | (refine wpList_load_at rfl _ _ rfl b (off + n * 17) (by rfl) _ hc Tryd.underlying53 hs1 ?_)
            | (refine wpList_store_new _ _ rfl _ _ _ rfl _ _ rfl rfl hst17 ?_)
            | (refine wpList_load_at rfl _ _ rfl wr.heap.size 0 (by rfl) _ atr Tryd.underlying53 hs1 ?_)
            | (refine wpList_load_at rfl _ _ rfl w.heap.size 0 (by rfl) _ atk2 Tryd.underlying41 hsk ?_))
          refine Calls.mono KT2.out ?_
          rintro e V3 ⟨rfl, q3'⟩
          have qw3 := bel_tr qw (bel_tr q2' q3')
          have HO3 : Hid (OwnI V3 W5.heap.size qa qc WL) := HO.out.below (bel_tr q2' q3')
          clear KT2 hst17 atr atk2 hc q2' q3' HO qw bw hV2
          cases tk
          · have hw0 : wantN l k (n + 1) = WL := by rw [HWS.out]; rfl
            have HW0 : Hid (wantN l k (n + 1) = WL) := hw0
            clear hw0 HWS
            go_wp2
            exact ⟨⟨n + 1, qa, qc, by omega, by rw [HW0.out, HWL'.out], by first | rfl | (congr 1), by rw [HW0.out]; exact HO3, qw3⟩, by simp only [intOf]; omega⟩
          · have HW1 : Hid (wantN l k (n + 1) = WL ++ [n]) := by show _ = _; rw [HWS.out]; rfl
            obtain ⟨V4, hV4⟩ : ∃ V4, V3.alloc (.cells #[.int .i64 (n : Int)] 3) = V4 := ⟨_, rfl⟩
            have q4' := bel_nw hV4
            have qw4 := bel_tr qw3 q4'
            obtain ⟨g, c', V5, hrun, ho, hg, hat, hb5⟩ := run_appI1 V4 25 W5.heap.size qa qc WL (HO3.out.below q4') V3.heap.size 1 n 3 (blk_nw hV4) (by have := HWL.out; have := HN64.out; omega) qw4.size
            rw [HWL'.out] at hrun
            have HRr : Hid _ := hrun
            have HO5 : Hid (OwnI V5 W5.heap.size (some ⟨g, 0, none⟩) c' (WL ++ [n])) := ho
            have qw5 : Below W5.heap.size W5 V5 := qw4.trans hb5
            clear hrun ho hg hat hb5 q4' qw4 HO3 qw3 HWS
            go_wp2_with (refine wpList_rn rfl 25 _ _ rfl _ _ rfl rfl _ _ HRr.out ?_)
            exact ⟨⟨n + 1, some ⟨g, 0, none⟩, c', by omega, by rw [HW1.out, List.length_append, HWL'.out]; rfl, by first | rfl | (congr 1), by rw [HW1.out]; exact HO5, qw5⟩, by simp only [intOf]; omega⟩
        · have ik : ¬ (n : Int) < (N : Int) := by omega
          have hnN : n = N := by omega
          subst hnN
          have b6 := bel_tr b5 qw
          rw [HWN.out] at HO ⊢
          have KF' : Hid _ := KF.out wr b6
          have HB6 : Hid (Blk wr W2.heap.size 27 #[.slice t.da t.D.length t.dc, .slice (some ⟨bx, ox, none⟩) 6 t.xc, .slice (some ⟨bf, of_, none⟩) sn t.fc]) := HB5.out.kept qw
          have HBK6 : Hid (Blk wr w.heap.size 41 KV) := HBK5.out.kept qw
          have HLA6 : Hid (LastAt wr t m TK Y sn bx ox bs os sc ai ci bf of_) := HLA.out.below qw
          have atk6 := HBK6.out.at_
          clear hlt
          go_wp2_with (first
            | (refine wpList_load_at rfl _ _ rfl w.heap.size 0 (by rfl) _ atk6 Tryd.underlying41 hsk ?_))
          refine Calls.mono KF'.out ?_
          rintro e V2 ⟨rfl, q2'⟩
          have b7 := bel_tr b6 q2'
          have hla7 := HLA6.out.below q2'
          have HB7 : Hid (Blk V2 W2.heap.size 27 #[.slice t.da t.D.length t.dc, .slice (some ⟨bx, ox, none⟩) 6 t.xc, .slice (some ⟨bf, of_, none⟩) sn t.fc]) := HB6.out.kept q2'
          have ho7 := HO.out.below q2'
          have HTL : Hid (TK.length ≤ 64) := by
            have := want_len l k n
            rw [HWN.out] at this
            have := HN64.out
            show _ ≤ _
            omega
          have KS : Hid (Calls Tryd.prog 20 #[.slice ai TK.length ci, .slice qa TK.length qc] V2 fun e w' => e = .returned (.bool true) ∧ Below V2.heap.size V2 w') := by
            have := sameI_any ai qa ci qc (ints TK) (ints TK) V2 hla7.ri (ho7.row (by have := HTL.out; omega))
            rw [List.length_map] at this
            refine this.mono ?_
            rintro e w' ⟨rfl, n, rfl⟩
            exact ⟨by simp, below_drewN (Below.refl _ _) n⟩
          have c1 := HB7.out.cell 1 _ rfl
          have c3 := hla7.cx
          have c4 := hla7.cs
          have HLA7 : Hid (LastAt V2 t m TK Y sn bx ox bs os sc ai ci bf of_) := hla7
          obtain ⟨tl, htl⟩ : ∃ tl, TK.length = tl := ⟨_, rfl⟩
          rw [htl] at KS c4 ⊢
          clear KF' atk6 hla7 ho7 HB6 HBK6 HLA6 htl HO
          go_wp2_with fail
          refine Calls.mono KS.out ?_
          rintro e V3 ⟨rfl, q3'⟩
          have b8 := bel_tr b7 q3'
          have hla8 := HLA7.out.below q3'
          have d2 := (HB7.out.kept q3').cell 2 _ rfl
          have d3 := hla8.cf
          have hee : (Y == Y) = true := by simp
          have KA' : Hid _ := KA.out V3 b8
          clear c1 c3 c4 hla8 KS
          go_wp2_with fail
          refine Calls.mono KA'.out ?_
          rintro e V4 ⟨rfl, q4'⟩
          have b9 := bel_tr b8 q4'
          go_wp2
          go_ret
          exact ⟨rfl, b9⟩
  · have hne : (E != 0) = true := by simpa using hE
    have KA' : Hid _ := KA.out W3 b3
    clear hE
    go_wp2_with fail
    refine Calls.mono KA'.out ?_
    rintro e W5 ⟨rfl, q5⟩
    have b5 := bel_tr b3 q5
    go_wp2
    go_ret
    exact ⟨rfl, b5⟩
end Go.Proofs.YtcoldgpnkdallaaDoor
