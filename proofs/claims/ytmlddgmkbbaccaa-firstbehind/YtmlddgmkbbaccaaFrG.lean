/- The program's Takes and Find; the document's Find. -/
import Derived.Test.YtmlddgmkbbaccaaFrF
import Derived.Test.YtmlddgmkbbaccaaFrC
namespace Go.Proofs.Ytmlddgmkbbaccaa
open Go.RowKit
set_option linter.unusedVariables false
set_option linter.unusedSimpArgs false

set_option maxRecDepth 100000 in
set_option maxHeartbeats 2000000 in
theorem takes_aux (RA KA : Array Value) (q1 q2 q3 : Bool) (w : World)
    (K1 : Hid (∀ W, Calls Try.prog 9 #[.agg KA] W fun e w' => e = .returned (.bool q1) ∧ Below W.heap.size W w'))
    (K2 : Hid (∀ W, Calls Try.prog 11 #[.agg RA] W fun e w' => e = .returned (.bool q2) ∧ Below W.heap.size W w'))
    (K3 : Hid (∀ W, Blk W w.heap.size 30 RA → Calls Try.prog 30 #[.agg KA] W fun e w' => ∃ qb, e = .returned (.slice (some ⟨qb, 0, none⟩) 7 7) ∧ Calls Try.prog 29 #[.slice (some ⟨qb, 0, none⟩) 7 7, .pointer (some ⟨w.heap.size, 0, none⟩)] w' (fun e w'' => e = .returned (.bool q3) ∧ Below w'.heap.size w' w'') ∧ Below W.heap.size W w'))
    (hs1 : (Try.prog.info? 30).map (·.size) = some RA.size) (hs2 : (Try.prog.info? 32).map (·.size) = some KA.size) :
    Calls Try.prog 13 #[.agg RA, .agg KA] w fun e w' => e = .returned (.bool (q1 && (q2 && q3))) ∧ Below w.heap.size w w' := by
  have bel : Below w.heap.size w ((w.alloc (.cells RA 30)).alloc (.cells KA 32)) := bel_al (bel_nw rfl) rfl
  have hr := (blk_new w RA 30).alloc (.cells KA 32)
  have hk := blk_new (w.alloc (.cells RA 30)) KA 32
  rw [World.size_alloc] at hk
  go_enter Try.func13, Try.ntmps13
  go_wp2_with (refine wpList_load_at_w rfl _ _ rfl _ 0 (by rfl) _ hk.at_ Try.underlying32 hs2 ?_)
  refine (K1.out _).mono ?_
  rintro e W1 ⟨rfl, bb⟩
  have hr1 := hr.kept bb
  have hk1 := hk.kept bb
  have bel1 := bel_tr bel bb
  clear hr hk bel bb K1
  cases q1
  · go_wp2_with fail
    all_goals (go_ret; exact ⟨by simp, bel1⟩)
  go_wp2_with (refine wpList_load_at_w rfl _ _ rfl _ 0 (by rfl) _ hr1.at_ Try.underlying30 hs1 ?_)
  refine (K2.out _).mono ?_
  rintro e W2 ⟨rfl, bb⟩
  have hr2 := hr1.kept bb
  have hk2 := hk1.kept bb
  have bel2 := bel_tr bel1 bb
  clear hr1 hk1 bel1 bb K2
  cases q2
  · go_wp2_with fail
    all_goals (go_ret; exact ⟨by simp, bel2⟩)
  go_wp2_with (refine wpList_load_at_w rfl _ _ rfl _ 0 (by rfl) _ hk2.at_ Try.underlying32 hs2 ?_)
  refine (K3.out _ hr2).mono ?_
  rintro e W3 ⟨qb, rfl, K4, bb⟩
  have bel3 := bel_tr bel2 bb
  clear hr2 hk2 bel2 bb K3
  have HK : Hid _ := K4
  clear K4
  go_wp2_with fail
  refine Calls.mono HK.out ?_
  rintro e W4 ⟨rfl, bb⟩
  have bel4 := bel_tr bel3 bb
  clear bel3 bb HK
  go_wp2_with fail
  go_ret
  exact ⟨by simp, bel4⟩
theorem takes_any (r : Rl) (k : Ky) (w : World) (ho : r.ok) (ko : k.ok) :
    Calls Try.prog 13 #[.agg r.v, .agg k.v] w fun e w' => e = .returned (.bool (r.takes k)) ∧ Below w.heap.size w w' := by
  have h1 := info_rl r
  have h2 := info_ky k
  have H := takes_aux r.v k.v k.right r.right ((LA r k).all (·.2)) w (fun W => rightKey_any k W ko) (fun W => rightRule_any r W ho) (fun W hB => (asks_any k W).mono (by
    rintro e w' ⟨qb, rfl, hq, _, bb⟩
    exact ⟨qb, rfl, yesA r k _ _ _ _ _ w' (hB.kept bb).at_ hq ko, bb⟩)) h1 h2
  refine H.mono ?_
  rintro e w' ⟨rfl, bb⟩
  refine ⟨?_, bb⟩
  congr 2
  unfold Rl.takes
  cases hr : r.right
  · simp
  · rw [la_asks r k hr]
    cases k.right <;> simp
/-- The place of the first rule that takes a key. -/
def findL (l : List Rl) (k : Ky) : Option Nat := l.findIdx? (·.takes k)
def fIdx : Option Nat → Int
  | some i => i
  | none => -1
abbrev RowR (w : World) (a : Option Addr) (l : List Rl) : Prop := RowN 17 Rl.v (fun _ r => r.ok) w a l
theorem RowR.low {w w' : World} {a : Option Addr} {l : List Rl} (h : RowR w a l) (hb : Below w.heap.size w w') : RowR w' a l := RowN.below (fun h _ => h) h hb
theorem findL_none {l : List Rl} {k : Ky} (h : ∀ (j : Nat) (r : Rl), l[j]? = some r → r.takes k = false) : findL l k = none := by
  refine List.findIdx?_eq_none_iff.2 fun r hr => ?_
  obtain ⟨j, hj⟩ := List.getElem?_of_mem hr
  exact h j r hj
theorem findL_some {l : List Rl} {k : Ky} {i : Nat} {r : Rl} (h : ∀ (j : Nat) (r : Rl), j < i → l[j]? = some r → r.takes k = false) (hi : l[i]? = some r) (ht : r.takes k = true) : findL l k = some i := by
  have hlt := (List.getElem?_eq_some_iff.1 hi).1
  refine List.findIdx?_eq_some_iff_getElem.2 ⟨hlt, ?_, fun j hj => ?_⟩
  · rw [(List.getElem?_eq_some_iff.1 hi).2]; exact ht
  · simpa using h j _ hj (List.getElem?_eq_getElem (by omega))
set_option maxRecDepth 100000 in
set_option maxHeartbeats 4000000 in
theorem find_any (a : Option Addr) (c : Nat) (l : List Rl) (k : Ky) (w : World) (hl : l.length ≤ 17592186044416) (hrow : RowR w a l) (ko : k.ok) :
    Calls Try.prog 16 #[.slice a l.length c, .agg k.v] w fun e w' => e = .returned (.tuple #[.int .i64 (fIdx (findL l k)), .bool (findL l k).isSome]) ∧ Below w.heap.size w w' := by
  have hs2 := info_ky k
  have hsr : ∀ r : Rl, (Try.prog.info? 30).map (·.size) = some r.v.size := info_rl
  have K1 : Hid (∀ W, Calls Try.prog 9 #[.agg k.v] W fun e w' => e = .returned (.bool k.right) ∧ Below W.heap.size W w') := fun W => rightKey_any k W ko
  have K2 : Hid (∀ r : Rl, r.ok → ∀ W, Calls Try.prog 11 #[.agg r.v] W fun e w' => e = .returned (.bool r.right) ∧ Below W.heap.size W w') := fun r h W => rightRule_any r W h
  have K3 : Hid (∀ W, Calls Try.prog 30 #[.agg k.v] W fun e w' => ∃ qb, e = .returned (.slice (some ⟨qb, 0, none⟩) 7 7) ∧ Qk w' W.heap.size qb k ∧ W.heap.size < qb ∧ Below W.heap.size W w') := fun W => asks_any k W
  have K4 : Hid (∀ (r : Rl) (b off g qb c : Nat) (w : World), CellsAt w b off r.v → Qk w g qb k → Calls Try.prog 29 #[.slice (some ⟨qb, 0, none⟩) 7 c, .pointer (some ⟨b, off, none⟩)] w fun e w' => e = .returned (.bool ((LA r k).all (·.2))) ∧ Below w.heap.size w w') := fun r b off g qb c w h1 h2 => yesA r k b off g qb c w h1 h2 ko
  have KT : Hid (∀ r : Rl, r.takes k = (k.right && ((LA r k).all (·.2) && r.right))) := fun r => by
    unfold Rl.takes
    cases hr : r.right
    · simp
    · rw [la_asks r k hr]
      cases k.right <;> simp
  obtain ⟨F, hF⟩ : ∃ F, findL l k = F := ⟨_, rfl⟩
  have HF : Hid (findL l k = F) := hF
  rw [hF]
  obtain ⟨N, hN⟩ : ∃ N, l.length = N := ⟨_, rfl⟩
  have HN : Hid (l.length = N) := hN
  rw [hN] at hl ⊢
  have HRow : Hid (RowR w a l) := hrow
  clear hF hN hrow ko
  generalize hKA : k.v = KA at *
  have HKA : Hid (k.v = KA) := hKA
  clear hKA
  have hk := blk_new w KA 32
  have bel : Below w.heap.size w (w.alloc (.cells KA 32)) := bel_nw rfl
  go_enter Try.func16, Try.ntmps16
  go_wp2_with (refine wpList_load_at_w rfl _ _ rfl _ 0 (by rfl) _ hk.at_ Try.underlying32 hs2 ?_)
  refine (K1.out _).mono ?_
  rintro e W1 ⟨rfl, bb⟩
  have hk1 := hk.kept bb
  have bel1 := bel_tr bel bb
  clear hk bel bb K1
  cases hkr : k.right
  · have e : F = none := by
      rw [← HF.out]
      refine findL_none fun j r _ => ?_
      rw [KT.out, hkr]; rfl
    subst e
    go_wp2_with fail
    exact bodyPost_ret (v := .tuple #[.int .i64 (-1), .bool false]) (by simp [results, Try.results16, go_sem]) rfl ⟨rfl, bel1⟩
  have HKR : Hid (k.right = true) := hkr
  clear hkr
  go_wp2_with (refine wpList_load_at_w rfl _ _ rfl _ 0 (by rfl) _ hk1.at_ Try.underlying32 hs2 ?_)
  refine (K3.out _).mono ?_
  rintro e W2 ⟨qb, rfl, hq, _, bb⟩
  have bel2 := bel_tr bel1 bb
  obtain ⟨g, hg⟩ : ∃ g, W1.heap.size = g := ⟨_, rfl⟩
  rw [hg] at hq
  have HQ : Hid (Qk W2 g qb k) := hq
  clear hk1 bel1 bb K3 hg hq hs2
  go_wp2_with fail
  go_loopw [15] (fun i wr => ∃ (n : Nat), n ≤ N ∧ i = .int .i64 n ∧ Below W2.heap.size W2 wr ∧ Hid (∀ (j : Nat) (r : Rl), j < n → l[j]? = some r → r.takes k = false)) (fun i _ => N - (intOf i).toNat)
  case atStart => exact ⟨0, Nat.zero_le _, rfl, Below.refl _ _, fun j p hj => by omega⟩
  case round =>
    obtain ⟨n, hn, rfl, bw, qe⟩ := hrel
    by_cases hlt : n < N
    · have ik : (n : Int) < (N : Int) := by omega
      have in0 : (0 : Int) ≤ (n : Int) := by omega
      obtain ⟨r, hr⟩ : ∃ r, l[n]? = some r := ⟨_, List.getElem?_eq_getElem (by rw [HN.out]; exact hlt)⟩
      have HR : Hid (l[n]? = some r) := hr
      have ho := HRow.out.each r (List.mem_of_getElem? hr)
      obtain ⟨b, off, ha, hc⟩ := ((HRow.out.low bel2).low bw).cells n r hr
      have HA : Hid (CellsAt wr b (off + n * 17) r.v) := hc
      have HO : Hid r.ok := ho
      rw [ha]
      have KY : Hid _ := K4.out r b (off + n * 17) g qb 7 wr hc (HQ.out.below bw)
      clear hr ho hc
      obtain ⟨A, hA⟩ : ∃ A, (LA r k).all (·.2) = A := ⟨_, rfl⟩
      rw [hA] at KY
      have HAA : Hid ((LA r k).all (·.2) = A) := hA
      clear hA
      go_wp2_with fail
      refine Calls.mono KY.out ?_
      rintro e W3 ⟨rfl, bb⟩
      have bw3 := bel_tr bw bb
      have hc3 := HA.out.below bb
      clear KY bb bw
      cases A
      · have HN' : Hid (∀ (j : Nat) (r : Rl), j < n + 1 → l[j]? = some r → r.takes k = false) := fun j q hj hp => by
          by_cases e : j = n
          · subst e
            rw [HR.out] at hp
            cases hp
            rw [KT.out, HAA.out]; simp
          · exact qe.out j q (by omega) hp
        clear qe hc3
        go_wp2_with fail
        exact ⟨⟨n + 1, by omega, by go_num, bw3, HN'⟩, by simp [intOf]; omega⟩
      have hs1 := hsr r
      have KR : Hid _ := K2.out r HO.out
      obtain ⟨RA, hRA⟩ : ∃ RA, r.v = RA := ⟨_, rfl⟩
      rw [hRA] at hc3 hs1 KR
      clear hRA
      obtain ⟨q, hq⟩ : ∃ q, r.right = q := ⟨_, rfl⟩
      rw [hq] at KR
      have HQR : Hid (r.right = q) := hq
      clear hq
      go_wp2_with (refine wpList_load_at_w rfl _ _ rfl _ (off + n * 17) (by rfl) _ hc3 Try.underlying30 hs1 ?_)
      refine (KR.out _).mono ?_
      rintro e W4 ⟨rfl, bb⟩
      have bw4 := bel_tr bw3 bb
      clear KR bb bw3 hc3 hs1
      cases q
      · have HN' : Hid (∀ (j : Nat) (r : Rl), j < n + 1 → l[j]? = some r → r.takes k = false) := fun j q hj hp => by
          by_cases e : j = n
          · subst e
            rw [HR.out] at hp
            cases hp
            rw [KT.out, HQR.out]; simp
          · exact qe.out j q (by omega) hp
        clear qe
        go_wp2_with fail
        exact ⟨⟨n + 1, by omega, by go_num, bw4, HN'⟩, by simp [intOf]; omega⟩
      · have e : F = some n := by
          rw [← HF.out]
          refine findL_some qe.out HR.out ?_
          rw [KT.out, HKR.out, HAA.out, HQR.out]; rfl
        subst e
        clear qe
        go_wp2_with fail
        exact bodyPost_ret (v := .tuple #[.int .i64 n, .bool true]) (by simp [results, Try.results16, go_sem]) rfl ⟨rfl, bel_tr bel2 bw4⟩
    · have ik : ¬ (n : Int) < (N : Int) := by omega
      have e : F = none := by
        rw [← HF.out]
        refine findL_none fun j r hj => qe.out j r ?_ hj
        have := (List.getElem?_eq_some_iff.1 hj).1
        have := HN.out
        omega
      subst e
      clear qe
      go_wp2_with fail
      exact bodyPost_ret (v := .tuple #[.int .i64 (-1), .bool false]) (by simp [results, Try.results16, go_sem]) rfl ⟨rfl, bel_tr bel2 bw⟩
end Go.Proofs.Ytmlddgmkbbaccaa
